/-
  A profile read from bytes: impl.readProfile.
-/
import Derived.Test.YtbbghebpmobfnaaPar
import Derived.Test.YtbbghebpmobfnaaEnc
namespace Go.Proofs.Ytbbghebpmobfnaa
open Go.RowKit
set_option linter.unusedVariables false

def cntOf (xs : List Int) : Nat := (xs.getD 5 0).toNat
def rpC (xs : List Int) : Int := if 900 < xs.length then 7 else if xs.length < 6 ∨ strOfNums (xs.take 4) ≠ ⟨#[112, 114, 111, 102]⟩ then 5 else if xs.length < 6 + 8 * cntOf xs then 5 else rdC xs (6 + 8 * cntOf xs) (cntOf xs)
def rpK (xs : List Int) : Int := if rpC xs = 0 then xs.getD 4 0 else 0
def rpT (xs : List Int) : List Tg := if rpC xs = 0 then rdT xs (cntOf xs) else []
theorem rp_zero {xs : List Int} (h : rpC xs = 0) : xs.length ≤ 900 ∧ 6 ≤ xs.length ∧ strOfNums (xs.take 4) = ⟨#[112, 114, 111, 102]⟩ ∧ 6 + 8 * cntOf xs ≤ xs.length ∧ rdC xs (6 + 8 * cntOf xs) (cntOf xs) = 0 := by
  unfold rpC at h
  by_cases h1 : 900 < xs.length
  · rw [if_pos h1] at h; omega
  · rw [if_neg h1] at h
    by_cases h2 : xs.length < 6 ∨ strOfNums (xs.take 4) ≠ ⟨#[112, 114, 111, 102]⟩
    · rw [if_pos h2] at h; omega
    · rw [if_neg h2] at h
      by_cases h3 : xs.length < 6 + 8 * cntOf xs
      · rw [if_pos h3] at h; omega
      · rw [if_neg h3] at h
        refine ⟨by omega, by omega, Classical.byContradiction fun hh => h2 (.inr hh), by omega, h⟩
theorem lit4 : (⟨#[112, 114, 111, 102]⟩ : ByteArray).toList = [112, 114, 111, 102] := by first | rfl | decide | simp [ByteArray.toList, ByteArray.toList.loop, ByteArray.size, ByteArray.get!]
/-- a profile and a code; the tags in new memory. -/
def ReadAns (w : World) (c cl : Int) (ts : List Tg) (e : Ending) (w' : World) : Prop :=
  ∃ A n cp, e = .returned (.tuple #[.agg #[.int .i64 cl, .slice A n cp], .int .i64 c]) ∧ Own w' (tagsD ts) (.slice A n cp) w.heap.size w'.heap.size ∧ Below w.heap.size w w'
theorem ReadAns.bad {w w' : World} {xs : List Int} {c : Int} (hc : rpC xs = c) (h0 : c ≠ 0) (hb : Below w.heap.size w w') : ReadAns w (rpC xs) (rpK xs) (rpT xs) (.returned (.tuple #[.agg #[.int .i64 0, .slice none 0 0], .int .i64 c])) w' := by
  have h1 : rpK xs = 0 := by unfold rpK; rw [if_neg (by rw [hc]; exact h0)]
  have h2 : rpT xs = [] := by unfold rpT; rw [if_neg (by rw [hc]; exact h0)]
  rw [h1, h2, hc]
  exact ⟨Option.none, 0, 0, rfl, Own.snil _ _ _ _ _ _ (Nat.zero_le _), hb⟩
theorem set2_below {w w1 : World} {x y : Value} (hb : Below w.heap.size w w1) : Below w.heap.size w ((w1.setCell ⟨w.heap.size, 0, none⟩ x).setCell ⟨w.heap.size, 1, none⟩ y) :=
  (hb.setCell (p := ⟨w.heap.size, 0, none⟩) (Nat.le_refl _) _).setCell (p := ⟨w.heap.size, 1, none⟩) (Nat.le_refl _) _
set_option maxRecDepth 100000 in
set_option maxHeartbeats 4000000 in
theorem readProfile_any (A : Option Addr) (n c : Nat) (xs : List Int) (w : World) (h : Rd .u8 w A n xs) (hx : U8s xs) (hnc : n ≤ c) (hc : c ≤ maxLen) :
    Calls Try.prog 44 #[.slice A n c] w (ReadAns w (rpC xs) (rpK xs) (rpT xs)) := by
  unfold maxLen at hc
  have hl := h.1
  have H := Lib.hid h
  have HX := Lib.hid hx
  by_cases h1 : 900 < n
  · have hE : Hid (rpC xs = 7) := by show rpC xs = 7; unfold rpC; rw [if_pos (by omega)]
    clear h hx
    go_enter Try.func44, Try.ntmps44
    go_wp2_with fail
    refine bodyPost_ret (v := .tuple #[.agg #[.int .i64 0, .slice none 0 0], .int .i64 7]) (by simp [results, Try.results44, go_sem]) rfl ?_
    exact ReadAns.bad hE.out (by omega) (by first | exact set2_below (blAlloc _ _) | exact blAlloc _ _)
  by_cases h2 : n < 6
  · have hE : Hid (rpC xs = 5) := by show rpC xs = 5; unfold rpC; rw [if_neg (by omega), if_pos (.inl (by omega))]
    clear h hx
    go_enter Try.func44, Try.ntmps44
    go_wp2_with fail
    refine bodyPost_ret (v := .tuple #[.agg #[.int .i64 0, .slice none 0 0], .int .i64 5]) (by simp [results, Try.results44, go_sem]) rfl ?_
    exact ReadAns.bad hE.out (by omega) (by first | exact set2_below (blAlloc _ _) | exact blAlloc _ _)
  obtain ⟨b, o, rfl, hcell⟩ := h.2 (by omega)
  have hr4 : Rd .u8 w (some ⟨b, o, none⟩) 4 (xs.take 4) := by simpa using h.cut (lo := 0) (hi := 4) (by omega) (by omega)
  have hcv : (convert 22 9 (.slice (some ⟨b, o, none⟩) 4 c)).run Try.prog (w.alloc (.cells #[.int .i64 0, .slice none 0 0] 27)) = .ok (.string (strOfNums (xs.take 4))) (w.alloc (.cells #[.int .i64 0, .slice none 0 0] 27)) := run_convert_rd (hr4.alloc _)
  have c5 := hcell 5 (by omega)
  have c4 := hcell 4 (by omega)
  have hbw : b < w.heap.size := cell_lt c4
  obtain ⟨p5, q5⟩ := hx 5
  have h5 : xs.getD 5 0 = ((cntOf xs : Nat) : Int) := by unfold cntOf; omega
  rw [h5] at c5
  by_cases h3 : strOfNums (xs.take 4) = ⟨#[112, 114, 111, 102]⟩
  · have hne := str_eq h3
    rw [lit4] at hne
    by_cases h6 : n < 6 + 8 * cntOf xs
    · have hE : Hid (rpC xs = 5) := by show rpC xs = 5; unfold rpC; rw [if_neg (by omega), if_neg (fun hh => hh.elim (fun x => by omega) (fun x => x h3)), if_pos (by omega)]
      clear h hx hcell hr4 h3 h5
      have hK2 : cntOf xs ≤ 255 := by unfold cntOf; omega
      generalize cntOf xs = K at *
      clear p5 q5
      go_enter Try.func44, Try.ntmps44
      go_wp2_with fail
      refine (tableEndOf_any K _ (by omega)).mono ?_
      rintro e1 w1 ⟨rfl, rfl⟩
      go_wp2_with fail
      refine bodyPost_ret (v := .tuple #[.agg #[.int .i64 0, .slice none 0 0], .int .i64 5]) (by simp [results, Try.results44, go_sem]) rfl ?_
      exact ReadAns.bad hE.out (by omega) (by first | exact set2_below (blAlloc _ _) | exact blAlloc _ _)
    · have hE : Hid (rpC xs = rdC xs (6 + 8 * cntOf xs) (cntOf xs)) := by show rpC xs = _; unfold rpC; rw [if_neg (by omega), if_neg (fun hh => hh.elim (fun x => by omega) (fun x => x h3)), if_neg (by omega)]
      have HTS : Hid (rpC xs = 0 → rpT xs = rdT xs (cntOf xs) ∧ rpK xs = xs.getD 4 0) := fun hh => ⟨by unfold rpT; rw [if_pos hh], by unfold rpK; rw [if_pos hh]⟩
      have hG : Hid (∀ k, k < cntOf xs → tg (rdT xs (cntOf xs)) k = entT xs (6 + 8 * k)) := fun k hk => rdT_get hk
      have hL : Hid ((rdT xs (cntOf xs)).length = cntOf xs) := rdT_len xs _
      clear h hx hcell hr4 h3 h5
      have hK2 : cntOf xs ≤ 255 := by unfold cntOf; omega
      generalize cntOf xs = K at *
      generalize rdT xs K = ts at *
      clear p5 q5
      have hmk := run_make_many (P := Try.prog) 25 63 (.agg #[.string ByteArray.empty, .slice none 0 0]) 2 40 Try.underlying25 info_tag .i64 .i64 K (by omega) (by omega)
      go_enter Try.func44, Try.ntmps44
      go_wp2_with fail
      refine (tableEndOf_any K _ (by omega)).mono ?_
      rintro e1 w1 ⟨rfl, rfl⟩
      go_wp2_with fail
      clear hmk hcv c5 c4 hne
      go_loopw [39] (fun i wr => ∃ k : Nat, k ≤ K ∧ i = .int .i64 k ∧ Hid (rdC xs (6 + 8 * K) k = 0) ∧ Own wr (.sl 2 (partT ts k)) (.slice (some ⟨w.heap.size + 1, 0, none⟩) K K) (w.heap.size + 1) wr.heap.size ∧ Below w.heap.size w wr ∧ Box2 wr w.heap.size (.int .i64 0) (.slice none 0 0) ∧ Thaw wr w.heap.size ∧ w.heap.size + 1 < wr.heap.size) (fun i _ => K - (intOf i).toNat)
      case atStart =>
        refine ⟨0, by omega, rfl, rfl, ?_, blThenAlloc (blAlloc _ _) _, (Box2.new _ _ _ _).alloc _, ?_, by simp⟩
        · rw [partT_zero, hL.out]
          have hm := Own.made (w.alloc (.cells #[.int .i64 0, .slice none 0 0] 27)) #[.string ByteArray.empty, .slice none 0 0] [.str ByteArray.empty, .ints .u8 []] K 63 (by decide) zero_tag (by unfold maxLen; omega)
          simp only [World.size_alloc] at hm
          simp only [World.size_alloc]
          exact hm.mono (Nat.le_refl _) (Nat.le_refl _)
        · intro i; simp
      case round =>
        obtain ⟨k, hk, rfl, hz, ho, hb, hbx, hth, hsz⟩ := hrel
        by_cases hlt : k < K
        · have HR := Lib.hid (H.out.below hb)
          have HO := Lib.hid ho
          have HB := Lib.hid hb
          have HBX := Lib.hid hbx
          have HTH := Lib.hid hth
          clear ho hb hbx hth
          go_wp2_with fail
          refine (tableEndOf_any k _ (by omega)).mono ?_
          rintro e1 w1 ⟨rfl, rfl⟩
          go_wp2_with fail
          refine (readTag_any _ n c xs (6 + 8 * k) (6 + 8 * K) _ HR.out HX.out hnc (by omega) (by omega) (by omega)).mono ?_
          rintro e2 w2 ⟨B2, L2, rfl, ho2, hb2⟩
          have hs2 : wr.heap.size ≤ w2.heap.size := hb2.size
          obtain ⟨r0, r1⟩ := HBX.out.below hb2
          have TH2 : Thaw w2 w.heap.size := HTH.out.ch (Ch.of_below (fun _ => False) hb2) (by omega)
          have f0 := TH2 0
          have f1 := TH2 1
          have T2 := Lib.hid (blThen HB.out hb2)
          have BX2 := Lib.hid (HBX.out.below hb2)
          have HTH2 := Lib.hid TH2
          by_cases hc0 : entC xs (6 + 8 * k) (6 + 8 * K) = 0
          · have hteT : teT xs (6 + 8 * k) (6 + 8 * K) = tg ts k := by unfold teT; rw [if_pos hc0, hG.out k hlt]
            rw [hteT] at ho2
            rw [hteT, hc0]
            obtain ⟨y0, c0, g0, hlo, hhi⟩ := (HO.out.below hb2).slot hlt (by omega : 0 < 2)
            obtain ⟨y1, c1, g1, -, -⟩ := (HO.out.below hb2).slot hlt (by omega : 1 < 2)
            rw [Nat.zero_add, Nat.add_zero] at c0 g0
            rw [Nat.zero_add] at c1 g1
            have HN := Lib.hid (partT_step hL.out hlt (HO.out.below hb2) ho2 (by omega) hs2 hhi)
            have HZ := Lib.hid (rdC_on hz.out hc0)
            have hw2 : w.heap.size + 1 < w2.heap.size := by omega
            have d0 : (w2.alloc (.cells #[.string (tg ts k).1, .slice B2 L2 L2] 63)).cell? ⟨w.heap.size + 1, k * 2, none⟩ = some y0 := by rw [World.cell?_alloc_lt _ _ _ hw2]; exact c0
            have d1 : ((w2.setCell ⟨w.heap.size + 1, k * 2, none⟩ (.string (tg ts k).1)).alloc (.cells #[.string (tg ts k).1, .slice B2 L2 L2] 63)).cell? ⟨w.heap.size + 1, k * 2 + 1, none⟩ = some y1 := by
              rw [World.cell?_alloc_lt _ _ _ (by simpa [World.setCell] using hw2), World.cell?_setCell_other _ _ _ _ (by simp)]; exact c1
            have j0 : (w2.alloc (.cells #[.string (tg ts k).1, .slice B2 L2 L2] 63)).frozen? ⟨w.heap.size + 1, k * 2, none⟩ = false := by rw [World.frozen?_alloc_old _ _ _ (Nat.ne_of_lt hw2)]; exact g0
            have j1 : ((w2.setCell ⟨w.heap.size + 1, k * 2, none⟩ (.string (tg ts k).1)).alloc (.cells #[.string (tg ts k).1, .slice B2 L2 L2] 63)).frozen? ⟨w.heap.size + 1, k * 2 + 1, none⟩ = false := by
              rw [World.frozen?_alloc_old _ _ _ (by simp [World.setCell]; omega), World.frozen?_setCell]; exact g1
            clear ho2 hb2 HO HB HBX HTH TH2 hz hc0 hteT HR r0 r1 f0 f1
            go_wp2_with fail
            go_roundw
            case rel =>
              have hch : Ch w2 ((w2.setCell ⟨w.heap.size + 1, k * 2, none⟩ (.string (tg ts k).1)).setCell ⟨w.heap.size + 1, k * 2 + 1, none⟩ (.slice B2 L2 L2)) (· = w.heap.size + 1) := (Ch.setCell (P := (· = w.heap.size + 1)) _ rfl _ _).trans (Ch.setCell (P := (· = w.heap.size + 1)) _ rfl _ _)
              refine ⟨k + 1, by omega, by go_num, HZ.out, ?_, ?_, (BX2.out.ch hch (by simp)).alloc _, ?_, by simp [World.setCell]; omega⟩
              · have := HN.out
                rw [Nat.zero_add, Nat.add_zero] at this
                exact (this.alloc _).mono (Nat.le_refl _) (by simp [World.setCell])
              · exact ((T2.out.setCell (p := ⟨w.heap.size + 1, k * 2, none⟩) (by simp) _).setCell (p := ⟨w.heap.size + 1, k * 2 + 1, none⟩) (by simp) _).alloc (by simp [World.setCell]; omega) _
              · intro i
                rw [World.frozen?_alloc_old _ _ _ (by simp [World.setCell]; omega), World.frozen?_setCell, World.frozen?_setCell]
                exact HTH2.out i
            case measure => simp [intOf]; omega
          · have HF := Lib.hid (hE.out.trans (rdC_first hz.out rfl hc0 hlt))
            have hnz : (entC xs (6 + 8 * k) (6 + 8 * K) != 0) = true := by simpa using hc0
            have HC0 := Lib.hid hc0
            have hw2 : w.heap.size < w2.heap.size := by omega
            clear ho2 hb2 HO HB HBX HTH TH2 hz hc0 HR
            go_wp2_with fail
            refine bodyPost_ret (v := .tuple #[.agg #[.int .i64 0, .slice none 0 0], .int .i64 (entC xs (6 + 8 * k) (6 + 8 * K))]) (by simp [results, Try.results44, go_sem, r0, r1, hw2]) rfl ?_
            exact ReadAns.bad HF.out HC0.out ((set2_below T2.out).alloc (by simp [World.setCell]; omega) _)
        · obtain rfl : k = K := by omega
          have HR := Lib.hid (H.out.below hb)
          obtain ⟨b', o', ee, hcell⟩ := HR.out.2 (by omega)
          injection ee with ee
          injection ee with ee1 ee2
          subst ee1 ee2
          have c4 := hcell 4 (by omega)
          have q4 := HX.out 4
          have HO := Lib.hid ho
          have HB := Lib.hid hb
          obtain ⟨r0, r1⟩ := hbx
          have f0 := hth 0
          have f1 := hth 1
          clear ho hb hth hcell
          have HC := Lib.hid (hE.out.trans hz.out)
          obtain ⟨t1, t2⟩ := HTS.out HC.out
          have HT1 := Lib.hid t1
          have HT2 := Lib.hid t2
          have hw2 : w.heap.size < wr.heap.size := by omega
          clear HTS t1 t2
          generalize xs.getD 4 0 = y4 at *
          go_wp2_with fail
          refine bodyPost_ret (v := .tuple #[.agg #[.int .i64 y4, .slice (some ⟨w.heap.size + 1, 0, none⟩) k k], .int .i64 0]) (by simp [results, Try.results44, go_sem, r0, r1]) rfl ?_
          rw [HC.out, HT1.out, HT2.out]
          refine ⟨_, _, _, rfl, ?_, set2_below HB.out⟩
          have := HO.out
          rw [← hL.out, partT_all] at this
          rw [← hL.out]
          exact ((this.set (b := w.heap.size) (.inl (by omega)) _ _).set (b := w.heap.size) (.inl (by omega)) _ _).mono (by omega) (by simp [World.setCell])
  · have hne := str_ne h3
    rw [lit4] at hne
    have hE : Hid (rpC xs = 5) := by show rpC xs = 5; unfold rpC; rw [if_neg (by omega), if_pos (.inr h3)]
    clear h hx hcell hr4 c5 c4 h5 p5 q5 h3
    go_enter Try.func44, Try.ntmps44
    go_wp2_with fail
    refine bodyPost_ret (v := .tuple #[.agg #[.int .i64 0, .slice none 0 0], .int .i64 5]) (by simp [results, Try.results44, go_sem]) rfl ?_
    exact ReadAns.bad hE.out (by omega) (by first | exact set2_below (blAlloc _ _) | exact blAlloc _ _)
end Go.Proofs.Ytbbghebpmobfnaa
