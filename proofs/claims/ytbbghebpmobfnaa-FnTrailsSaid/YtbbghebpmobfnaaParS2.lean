/-
  A profile read from bytes: the reference model's l2Parse.
-/
import Derived.Test.YtbbghebpmobfnaaParS
import Derived.StillTailTactics
namespace Go.Proofs.Ytbbghebpmobfnaa
open Go.RowKit
set_option linter.unusedVariables false

theorem rdT_succ (xs : List Int) (k : Nat) : rdT xs (k + 1) = rdT xs k ++ [entT xs (6 + 8 * k)] := by unfold rdT; rw [List.range_succ, List.map_append]; rfl
/-- a code; and a profile, where the code is 0. -/
def SPAns (w : World) (c cl : Int) (ts : List Tg) (e : Ending) (w' : World) : Prop :=
  ∃ k A n cp, e = .returned (.tuple #[.agg #[.int .i64 k, .slice A n cp], .int .i64 c]) ∧ (c = 0 → k = cl ∧ Own w' (tagsD ts) (.slice A n cp) w.heap.size w'.heap.size) ∧ Below w.heap.size w w'
def spC (xs : List Int) : Int := if xs.length < 6 ∨ strOfNums (xs.take 4) ≠ ⟨#[112, 114, 111, 102]⟩ then 5 else if xs.length < 6 + 8 * cntOf xs then 5 else if rdC xs (6 + 8 * cntOf xs) (cntOf xs) = 0 then pf (xs.getD 4 0) (rdT xs (cntOf xs)) else rdC xs (6 + 8 * cntOf xs) (cntOf xs)
theorem spC_pp {xs : List Int} (h : ¬ 900 < xs.length) : spC xs = ppC xs := by
  unfold spC ppC rpC
  rw [if_neg h]
  by_cases h1 : xs.length < 6 ∨ strOfNums (xs.take 4) ≠ ⟨#[112, 114, 111, 102]⟩
  · rw [if_pos h1, if_pos h1]; rfl
  · rw [if_neg h1, if_neg h1]
    by_cases h2 : xs.length < 6 + 8 * cntOf xs
    · rw [if_pos h2, if_pos h2]; rfl
    · rw [if_neg h2, if_neg h2]
theorem SPAns.bad {w w' : World} {xs : List Int} {c : Int} (hc : spC xs = c) (h0 : c ≠ 0) (hb : Below w.heap.size w w') : SPAns w (spC xs) (xs.getD 4 0) (rdT xs (cntOf xs)) (.returned (.tuple #[.agg #[.int .i64 0, .slice none 0 0], .int .i64 c])) w' := by
  rw [hc]
  exact ⟨_, _, _, _, rfl, fun e => absurd e h0, hb⟩
theorem keep_box {w w3 : World} {q : Option Nat} {g : Nat} {x y : Value} (hb : Box2 w g x y) (ht : Thaw w g) (hg : w.grownBy w3 q) (hq : ∀ b, q = some b → g ≠ b) : Box2 w3 g x y ∧ Thaw w3 g := by
  have hk := hg.block g (cell_lt hb.1) (fun e => hq g e.symm rfl)
  refine ⟨⟨(World.cell?_of_block hk).trans hb.1, (World.cell?_of_block hk).trans hb.2⟩, fun i => ?_⟩
  rw [← ht i]
  unfold World.frozen?
  rw [hk]
theorem Thaw.below {w w' : World} {g : Nat} (h : Thaw w g) (hb : Below w.heap.size w w') (hg : g < w.heap.size) : Thaw w' g := h.ch (Ch.of_below (fun _ => False) hb) hg
theorem Thaw.set {w : World} {g : Nat} (h : Thaw w g) (p : Addr) (x : Value) : Thaw (w.setCell p x) g := fun i => by rw [World.frozen?_setCell]; exact h i
/-- the profile, and what it leads to. -/
def PS (g : Nat) (y : Int) (A : Option Addr) (n c : Nat) (ts : List Tg) (W : World) : Prop := Box2 W g (.int .i64 y) (.slice A n c) ∧ OwnT W (g + 1) W.heap.size (.slice A n c) n ts
theorem PS.drewN {g : Nat} {y : Int} {A : Option Addr} {n c : Nat} {ts : List Tg} {W : World} (h : PS g y A n c ts W) (m : Nat) : PS g y A n c ts (W.drewN m) := ⟨h.1.below (below_drewN _ _ _), h.2.below (below_drewN _ _ _)⟩
theorem PS.set {g : Nat} {y : Int} {A : Option Addr} {n c : Nat} {ts : List Tg} {W : World} (h : PS g y A n c ts W) {b : Nat} (hb : b < g) (i : Nat) (x : Value) : PS g y A n c ts (W.setCell ⟨b, i, none⟩ x) :=
  ⟨h.1.ch (Ch.setCell (P := (· = b)) _ rfl _ _) (fun e => by omega), (h.2.set (by omega) i x).mono (by simp [World.setCell])⟩
theorem PS.fault {g : Nat} {y : Int} {A : Option Addr} {n c : Nat} {ts : List Tg} {W : World} (h : PS g y A n c ts W) (hs : TsOk ts) : Calls Try.prog 55 #[.pointer (some ⟨g, 0, none⟩)] W fun e w' => e = .returned (.int .i64 (pf y ts)) ∧ ∃ m, w' = W.drewN m := by
  obtain ⟨_, _, _, ho⟩ := h.2.own
  obtain ⟨bs, hd⟩ := ho.hd
  exact sFault_any g A n c y ts bs W h.1 hd hs
set_option maxRecDepth 100000 in
set_option maxHeartbeats 4000000 in
theorem sParse_any (A : Option Addr) (n c : Nat) (xs : List Int) (w : World) (h : Rd .u8 w A n xs) (hx : U8s xs) (hnc : n ≤ c) (hc : c ≤ maxLen) (hn : n ≤ 900) :
    Calls Try.prog 52 #[.slice A n c] w (SPAns w (spC xs) (xs.getD 4 0) (rdT xs (cntOf xs))) := by
  unfold maxLen at hc
  have hl := h.1
  have H := Lib.hid h
  have HX := Lib.hid hx
  by_cases h2 : n < 6
  · have hE : Hid (spC xs = 5) := by show spC xs = 5; unfold spC; rw [if_pos (.inl (by omega))]
    clear h hx
    go_enter Try.func52, Try.ntmps52
    go_wp2_with fail
    refine bodyPost_ret (v := .tuple #[.agg #[.int .i64 0, .slice none 0 0], .int .i64 5]) (by simp [results, Try.results52, go_sem]) rfl ?_
    exact SPAns.bad hE.out (by omega) (by first | exact set2_below (blAlloc _ _) | exact blAlloc _ _)
  obtain ⟨b, o, rfl, hcell⟩ := h.2 (by omega)
  have hr4 : Rd .u8 w (some ⟨b, o, none⟩) 4 (xs.take 4) := by simpa using h.cut (lo := 0) (hi := 4) (by omega) (by omega)
  have hcv : (convert 22 9 (.slice (some ⟨b, o, none⟩) 4 c)).run Try.prog (w.alloc (.cells #[.int .i64 0, .slice none 0 0] 27)) = .ok (.string (strOfNums (xs.take 4))) (w.alloc (.cells #[.int .i64 0, .slice none 0 0] 27)) := run_convert_rd (hr4.alloc _)
  have c5 := hcell 5 (by omega)
  have c4 := hcell 4 (by omega)
  have hbw : b < w.heap.size := cell_lt c4
  obtain ⟨p5, q5⟩ := hx 5
  obtain ⟨p4, q4⟩ := hx 4
  have h5 : xs.getD 5 0 = ((cntOf xs : Nat) : Int) := by unfold cntOf; omega
  rw [h5] at c5
  by_cases h3 : strOfNums (xs.take 4) = ⟨#[112, 114, 111, 102]⟩
  · have hne := str_eq h3
    rw [lit4] at hne
    by_cases h6 : n < 6 + 8 * cntOf xs
    · have hE : Hid (spC xs = 5) := by show spC xs = 5; unfold spC; rw [if_neg (fun hh => hh.elim (fun x => by omega) (fun x => x h3)), if_pos (by omega)]
      clear h hx hcell hr4 h3 h5 c4
      have hK2 : cntOf xs ≤ 255 := by unfold cntOf; omega
      have HB : ∀ W, Below w.heap.size w W → Hid (SPAns w (spC xs) (xs.getD 4 0) (rdT xs (cntOf xs)) (.returned (.tuple #[.agg #[.int .i64 0, .slice none 0 0], .int .i64 5])) W) := fun W hW => SPAns.bad hE.out (by omega) hW
      generalize rdT xs (cntOf xs) = ts at *
      generalize cntOf xs = K at *
      generalize xs.getD 4 0 = y4 at *
      clear p5 q5
      go_enter Try.func52, Try.ntmps52
      go_wp2_with fail
      refine bodyPost_ret (v := .tuple #[.agg #[.int .i64 0, .slice none 0 0], .int .i64 5]) (by simp [results, Try.results52, go_sem]) rfl ?_
      exact HB _ (by first | exact set2_below (blAlloc _ _) | exact blAlloc _ _)
    · have hE : Hid (spC xs = if rdC xs (6 + 8 * cntOf xs) (cntOf xs) = 0 then pf (xs.getD 4 0) (rdT xs (cntOf xs)) else rdC xs (6 + 8 * cntOf xs) (cntOf xs)) := by
        show spC xs = _; unfold spC; rw [if_neg (fun hh => hh.elim (fun x => by omega) (fun x => x h3)), if_neg (by omega)]
      have HB : Hid (∀ c W, spC xs = c → c ≠ 0 → Below w.heap.size w W → SPAns w (spC xs) (xs.getD 4 0) (rdT xs (cntOf xs)) (.returned (.tuple #[.agg #[.int .i64 0, .slice none 0 0], .int .i64 c])) W) := fun c W h1 h2 hW => SPAns.bad h1 h2 hW
      have HOK := Lib.hid (rdT_ok xs (cntOf xs))
      have HTS : Hid (∀ k, k = cntOf xs → rdT xs k = rdT xs (cntOf xs)) := fun k e => by rw [e]
      clear h hx hcell hr4 h3 h5
      have hK2 : cntOf xs ≤ 255 := by unfold cntOf; omega
      generalize hTT : rdT xs (cntOf xs) = ts at *
      generalize cntOf xs = K at *
      generalize xs.getD 4 0 = y4 at *
      have HTT := Lib.hid hTT
      clear p5 q5 hTT
      go_enter Try.func52, Try.ntmps52
      go_wp2_with fail
      clear hcv c5 c4 hne
      go_loopw [6] (fun i wr => ∃ (k : Nat) (A1 : Option Addr) (c1 : Nat), k ≤ K ∧ i = .int .i64 (6 + 8 * (k : Int)) ∧ Hid (rdC xs (6 + 8 * K) k = 0) ∧ PS (w.heap.size + 1) y4 A1 k c1 (rdT xs k) wr ∧ Below w.heap.size w wr ∧ Box2 wr w.heap.size (.int .i64 0) (.slice none 0 0) ∧ Thaw wr w.heap.size ∧ Thaw wr (w.heap.size + 1) ∧ w.heap.size + 1 < wr.heap.size) (fun i _ => 6 + 8 * K - (intOf i).toNat)
      case atStart =>
        refine ⟨0, Option.none, 0, by omega, rfl, rfl, ⟨?_, OwnT.nil _ _ _⟩, blThenAlloc (blAlloc _ _) _, (Box2.new _ _ _ _).alloc _, ?_, ?_, by simp⟩
        · exact ⟨by simp, by simp⟩
        · intro i; simp
        · intro i; simp
      case round =>
        obtain ⟨k, A1, c1, hk, rfl, hz, hps, hb, hbx, hth, htp, hsz⟩ := hrel
        by_cases hlt : k < K
        · have HR := Lib.hid (H.out.below hb)
          have hlt' : (6 + 8 * (k : Int)) < 6 + 8 * (K : Int) := by omega
          have HB2 := Lib.hid hb
          have HPS := Lib.hid hps
          have HBX := Lib.hid hbx
          have HTH := Lib.hid hth
          have HTP := Lib.hid htp
          clear hb hps hbx hth htp
          go_wp2_with fail
          refine (sEntry_any _ n c xs (6 + 8 * k) (6 + 8 * K) _ HR.out HX.out hnc (by omega) (by omega) (by omega) _ _ (by omega) (by omega)).mono ?_
          rintro e2 w2 ⟨s2, B2, L2, cp2, rfl, ho2, hb2⟩
          have hs2 : wr.heap.size ≤ w2.heap.size := hb2.size
          have hw2 : w.heap.size < w2.heap.size := by omega
          obtain ⟨r0, r1⟩ := HBX.out.below hb2
          have f0 := HTH.out.below hb2 (by omega) 0
          have f1 := HTH.out.below hb2 (by omega) 1
          have T2 := Lib.hid (blThen HB2.out hb2)
          by_cases hc0 : entC xs (6 + 8 * k) (6 + 8 * K) = 0
          · obtain ⟨rfl, hO2⟩ := ho2 hc0
            have O2 := Lib.hid hO2
            rw [hc0]
            have HZ := Lib.hid (rdC_on hz.out hc0)
            have OT := Lib.hid (HPS.out.2.below hb2)
            have BP := Lib.hid (HPS.out.1.below hb2)
            have TP := Lib.hid (HTP.out.below hb2 hsz)
            have BR := Lib.hid (HBX.out.below hb2)
            have TR := Lib.hid (HTH.out.below hb2 (by omega))
            have hw3 : w.heap.size + 1 < w2.heap.size := by omega
            have d1 : (w2.alloc (.cells #[.string (entT xs (6 + 8 * k)).1, .slice B2 L2 cp2] 63)).cell? ⟨w.heap.size + 1, 1, none⟩ = some (.slice A1 k c1) := (BP.out.alloc _).2
            have HSU := Lib.hid (rdT_succ xs k)
            clear ho2 hb2 hO2 HPS HB2 HBX HTH HTP hz hc0 HR r0 r1 f0 f1
            go_wp2_with (at_builtin; refine wpList_append_tag _ rfl _ _ rfl (w.heap.size + 1 + 1) wr.heap.size (.slice A1 k c1) k (rdT xs k) (entT xs (6 + 8 * k)) rfl ((OT.out.below (blAlloc _ _)).below (blAlloc _ _)) (w2.heap.size + 1) 1 B2 L2 cp2 rfl ⟨by simp, by simp⟩ (((O2.out.alloc _).alloc _).mono (Nat.le_refl _) (by simp; omega)) (by omega) (by simp; omega) (by omega) ?_; intro v3 w3 ho3 hg3 hgb; obtain ⟨BP3, TP3⟩ := keep_box ((BP.out.alloc _).alloc _) (((TP.out.below (blAlloc _ _) hw3)).below (blAlloc _ _) (by simp; omega)) hg3 (fun b e => by have := hgb b e; omega); obtain ⟨BR3, TR3⟩ := keep_box ((BR.out.alloc _).alloc _) (((TR.out.below (blAlloc _ _) hw2)).below (blAlloc _ _) (by simp; omega)) hg3 (fun b e => by have := hgb b e; omega); obtain ⟨A3, c3, rfl, _⟩ := ho3.own; obtain ⟨z0, z1⟩ := BP3; have j1 := TP3 1)
            go_roundw
            case rel =>
              have hsz3 := hg3.size
              simp only [World.size_alloc] at hsz3
              refine ⟨k + 1, A3, c3, by omega, by go_num, HZ.out, ⟨?_, ?_⟩, ?_, BR3.ch (Ch.setCell (P := (· = w.heap.size + 1)) _ rfl _ _) (fun e => by omega), TR3.set _ _, TP3.set _ _, by simp [World.setCell]; omega⟩
              · exact ⟨by rw [World.cell?_setCell_other _ _ _ _ (by simp)]; exact z0, World.cell?_setCell_same _ _ _ z1⟩
              · rw [HSU.out]
                exact (ho3.set (by omega) _ _).mono (by simp [World.setCell])
              · have hbb : Below w.heap.size w w3 := (blThenAlloc (blThenAlloc T2.out _) _).trans ⟨hg3.os, hg3.tape, hg3.output, hg3.size, fun i hi => hg3.block i (by simp; omega) (fun e => by have := hgb i e.symm; omega)⟩
                exact hbb.setCell (p := ⟨w.heap.size + 1, 1, none⟩) (by simp) _
            case measure => simp [intOf]; omega
          · have HF : Hid (spC xs = entC xs (6 + 8 * k) (6 + 8 * K)) := by
              have hh := rdC_first hz.out rfl hc0 hlt
              have := hE.out
              rw [hh, if_neg hc0] at this
              exact this
            have hnz : (entC xs (6 + 8 * k) (6 + 8 * K) != 0) = true := by simpa using hc0
            have HC0 := Lib.hid hc0
            clear ho2 hb2 HPS HB2 HBX HTH HTP hz hc0 HR
            go_wp2_with fail
            refine bodyPost_ret (v := .tuple #[.agg #[.int .i64 0, .slice none 0 0], .int .i64 (entC xs (6 + 8 * k) (6 + 8 * K))]) (by simp [results, Try.results52, go_sem, r0, r1, hw2]) rfl ?_
            exact HB.out _ _ HF.out HC0.out ((set2_below T2.out).alloc (by simp [World.setCell]; omega) _)
        · obtain rfl : k = K := by omega
          have hlt' : ¬ (6 + 8 * (k : Int)) < 6 + 8 * (k : Int) := by omega
          rw [HTS.out k rfl] at hps
          have HB2 := Lib.hid hb
          obtain ⟨x0, x1⟩ := hps.1
          have HPS := Lib.hid hps
          obtain ⟨r0, r1⟩ := hbx
          have f0 := hth 0
          have f1 := hth 1
          clear hb hps hth htp
          have HC : Hid (spC xs = pf y4 ts) := by have := hE.out; rw [if_pos hz.out] at this; exact this
          go_wp2_with fail
          go_region_with (go_at_call 55; refine (PS.fault (A := A1) (n := k) (c := c1) (y := y4) (ts := ts) (by first | exact HPS.out | exact HPS.out.drewN _ | exact (HPS.out.set (by omega) _ _).set (by omega) _ _ | exact ((HPS.out.drewN _).set (by omega) _ _).set (by omega) _ _) HOK.out).mono ?_; rintro e w' ⟨rfl, m, rfl⟩)
          all_goals
            go_wp2_with fail
            refine bodyPost_ret (v := .tuple #[.agg #[.int .i64 y4, .slice A1 k c1], .int .i64 (pf y4 ts)]) (by simp [results, Try.results52, go_sem, r0, r1]) rfl ?_
            rw [HC.out]
            obtain ⟨_, _, _, ho⟩ := HPS.out.2.own
            refine ⟨_, _, _, _, rfl, fun _ => ⟨rfl, ?_⟩, set2_below (blThenDrew HB2.out _)⟩
            exact (((ho.drewN _).set (b := w.heap.size) (.inl (by omega)) _ _).set (b := w.heap.size) (.inl (by omega)) _ _).mono (by omega) (by simp [World.setCell])
  · have hne := str_ne h3
    rw [lit4] at hne
    have hE : Hid (spC xs = 5) := by show spC xs = 5; unfold spC; rw [if_pos (.inr h3)]
    clear h hx hcell hr4 c5 c4 h5 p5 q5 h3
    go_enter Try.func52, Try.ntmps52
    go_wp2_with fail
    refine bodyPost_ret (v := .tuple #[.agg #[.int .i64 0, .slice none 0 0], .int .i64 5]) (by simp [results, Try.results52, go_sem]) rfl ?_
    exact SPAns.bad hE.out (by omega) (by first | exact set2_below (blAlloc _ _) | exact blAlloc _ _)
end Go.Proofs.Ytbbghebpmobfnaa
