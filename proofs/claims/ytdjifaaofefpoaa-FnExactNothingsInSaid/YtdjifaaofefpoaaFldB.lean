/-
  leftOf, NothingsIn: the program's.
-/
import Derived.Test.YtdjifaaofefpoaaFldA
import Derived.Deep.RegionHeld3
namespace Go.Proofs.Ytdjifaaofefpoaa
open Go.RowKit Go.Maps
set_option linter.unusedVariables false
set_option linter.unusedSimpArgs false

/-- A place as a key; a stage as an element, whatever it is. -/
def lk (i : Nat) : Lit := .int .i64 (i : Int)
theorem lk_ne {i j : Nat} (h : i ≠ j) : lk i ≠ lk j := fun e => h (by injection e with e1 e2; exact Int.ofNat.inj e2)
theorem keyN : Keyed Try.prog 3 := int_keyed Try.underlying3
theorem lk_key (i : Nat) (h : i ≤ 1000) : keyOf Try.prog 3 (.int .i64 (i : Int)) = some (lk i) := keyOf_int_mk Try.underlying3 (WalkArith.wf_i64 (by omega))
def anyE (v : Value) : Option (DataW Value × List MemPlace) := some (.held v, [])
theorem run_makeMapL (n : Nat) (w : World) (h : n ≤ 1000) : (Instr.makeMap 123 (some (.int .i64 (n : Int)))).run Try.prog w = .ok (.map (some w.heap.size)) (w.alloc (.map #[] 0)) := by
  simp [Instr.makeMap, run_underlying Try.underlying123, asInt, asIntOf]
/-- Of a map: the first k places are its keys. -/
structure MpF (w : World) (b k : Nat) (D : DataW Value) : Prop where
  own : w.ownsMap Try.prog 3 anyE b k D
  sz : Maps.size D = k
  hs : ∀ j, Maps.has D (lk j) = decide (j < k)
theorem MpF.new (w : World) : MpF (w.alloc (.map #[] 0)) w.heap.size 0 (.map []) := ⟨World.ownsMap_made _ _ _ _, rfl, fun j => by simp [Maps.has]⟩
theorem MpF.put {w w' : World} {b k : Nat} {D : DataW Value} {d : DataW Value} (h : MpF w b k D) (ho : w'.ownsMap Try.prog 3 anyE b (k + 1) (D.put (lk k) d)) : MpF w' b (k + 1) (D.put (lk k) d) := by
  refine ⟨ho, ?_, fun j => ?_⟩
  · rw [size_put (h.own.tidy keyN), h.hs k, h.sz]; simp
  · by_cases e : j = k
    · subst e; rw [has_put_same h.own.isMap (show WideAt.IsKeyLit (lk j) from trivial)]; simp
    · rw [has_put_other (lk_ne e), h.hs j]
      exact decide_eq_decide.2 (by omega)
/-- .. of the places from k on all are keys; before it those that do something. -/
structure MpG (w : World) (b n k : Nat) (ts : List Stg) (D : DataW Value) : Prop where
  own : w.ownsMap Try.prog 3 anyE b n D
  sz : Maps.size D + nsN ts k = n
  hs : ∀ j, k ≤ j → j < n → Maps.has D (lk j) = true
theorem MpF.turn {w : World} {b n : Nat} {ts : List Stg} {D : DataW Value} (h : MpF w b n D) : MpG w b n 0 ts D := ⟨h.own, by rw [h.sz]; rfl, fun j _ hj => by rw [h.hs j]; simpa using hj⟩
theorem MpG.keep {w : World} {b n k : Nat} {ts : List Stg} {D : DataW Value} (h : MpG w b n k ts D) (hn : noV (st_ ts k) = false) : MpG w b n (k + 1) ts D := ⟨h.own, by rw [nsN_n hn]; exact h.sz, fun j hj => h.hs j (by omega)⟩
theorem MpG.del {w w' : World} {b n k : Nat} {ts : List Stg} {D : DataW Value} (h : MpG w b n k ts D) (hk : k < n) (hn : noV (st_ ts k) = true) (ho : w'.ownsMap Try.prog 3 anyE b n (D.del (lk k))) : MpG w' b n (k + 1) ts (D.del (lk k)) := by
  refine ⟨ho, ?_, fun j hj hjn => ?_⟩
  · have h1 := size_del (k := lk k) (h.own.tidy keyN)
    rw [h.hs k (Nat.le_refl _) hk] at h1
    simp only [if_true] at h1
    have h2 := h.sz
    rw [nsN_y hn]
    omega
  · rw [has_del_other (lk_ne (show j ≠ k by omega))]; exact h.hs j (by omega) hjn
theorem MpG.bel {w w' : World} {b n k : Nat} {ts : List Stg} {D : DataW Value} (h : MpG w b n k ts D) (hb : Below w.heap.size w w') : MpG w' b n k ts D :=
  ⟨World.ownsMap.kept (row := none) h.own ⟨hb.os, hb.tape, hb.output, hb.size, fun k hk _ => hb.block k hk⟩ (by simp), h.sz, h.hs⟩

def LfAns (w : World) (ts : List Stg) (e : Ending) (w' : World) : Prop :=
  ∃ m, e = .returned (.tuple #[.map m, .int .i64 (chf ts)]) ∧ (chf ts = 0 → ∃ b D, m = some b ∧ MpG w' b ts.length ts.length ts D) ∧ Below w.heap.size w w'
set_option maxRecDepth 100000 in
set_option maxHeartbeats 4000000 in
theorem leftOf_any (A : Option Addr) (n c : Nat) (ts : List Stg) (bs : List Nat) (w : World) (h : Hd w (chD ts) (.slice A n c) bs) :
    Calls Try.prog 73 #[.agg #[.slice A n c]] w (LfAns w ts) := by
  have hl := h.stgs.1
  have H := Lib.hid h
  clear h
  go_enter Try.func73, Try.ntmps73
  go_wp2_with fail
  refine (chainStages_any A n c ts bs _ (H.out.alloc _)).mono ?_
  rintro e w1 ⟨v, rfl, hok, hb⟩
  have B1 := Lib.hid ((Bx.new w #[.slice A n c] 31 rfl).bel hb)
  have T1 := Lib.hid (blThen (blAlloc w _) hb)
  have H1 := Lib.hid ((H.out.alloc (.cells #[.slice A n c] 31)).bel hb)
  clear hb H
  by_cases h0 : chf ts = 0
  · obtain ⟨vs, hov, hst⟩ := hok h0
    have H5 := Lib.hid (chf_zj h0)
    have HS := Lib.hid (sgL_all _ H5.out.2)
    obtain ⟨A', c', rfl, hc1, hc2, hsts⟩ := Sts.of hov hst HS.out
    have HT := Lib.hid hsts
    have H0 := Lib.hid h0
    have n5 : n ≤ 5 := by have := H5.out.1; omega
    have HL := Lib.hid hl
    have hmm := fun w => run_makeMapL n w (by omega)
    have b0 := B1.out.c 0 rfl
    rw [h0]
    rw [hl] at hc1 HT HS ⊢
    clear hok hov hst h0 hsts hl
    go_wp2_with fail
    clear hmm b0
    go_loopw [24] (fun i wr => ∃ (k : Nat) (D : DataW Value), k ≤ n ∧ i = .int .i64 k ∧ Hid (MpF wr w1.heap.size k D) ∧ Hid (Below w1.heap.size w1 wr)) (fun i _ => n - (intOf i).toNat)
    case atStart => exact ⟨0, .map [], by omega, rfl, MpF.new _, blAlloc _ _⟩
    case round =>
      obtain ⟨k, D, hk, rfl, HM, HB⟩ := hrel
      by_cases hlt : k < n
      · obtain ⟨b, rfl, vc⟩ := HT.out.at_ k hlt
        replace vc := cell_later HB.out vc
        generalize vs.getD k undef = sv at *
        go_wp2_with (at_mapUpdate; refine wpList_mapUpdate_own _ rfl _ _ _ 123 rfl 3 107 keyN Try.underlying123 anyE w1.heap.size k D rfl HM.out.own (by unfold maxLen; omega) _ _ _ rfl rfl (lk_key k (by omega)) _ [] rfl ?_; intro w3 hown3 hg3)
        have HM3 := Lib.hid (HM.out.put hown3)
        have T3 : Hid (Below w1.heap.size w1 w3) := by
          show Below _ _ _
          exact HB.out.grown hg3 HB.out.size (fun j hj => by cases hj; omega)
        clear hown3 hg3 vc HM
        go_wp2_with fail
        go_roundw
        case rel => exact ⟨k + 1, _, by omega, by go_num, HM3.out, T3.out⟩
        case measure => simp [intOf]; omega
      · obtain rfl : k = n := by omega
        have HG : Hid (MpG wr w1.heap.size k 0 ts D) := HM.out.turn
        have b0 := (B1.out.bel HB.out).c 0 rfl
        obtain ⟨W2, hW2⟩ : ∃ W, W = wr := ⟨_, rfl⟩
        rw [← hW2] at HG HB b0 ⊢
        clear hW2 HM
        go_wp2_with fail
        clear b0
        go_loopw [36] (fun i wr => ∃ (j : Nat) (D : DataW Value), j ≤ k ∧ i = .int .i64 j ∧ Hid (MpG wr w1.heap.size k j ts D) ∧ Hid (Below w1.heap.size w1 wr)) (fun i _ => k - (intOf i).toNat)
        case atStart => exact ⟨0, D, by omega, rfl, HG.out, HB.out⟩
        case round =>
          obtain ⟨j, D', hj, rfl, HM, HBB⟩ := hrel
          by_cases hlt2 : j < k
          · obtain ⟨b, o', A1, n1, c1, A2, n2, c2, A3, n3, c3, rfl, x0, x1, x2, x3, x4, xs⟩ := (H1.out.bel HBB.out).stg hlt2
            have xl := cell_lt x0
            obtain ⟨W, hW⟩ : ∃ W, W = wr.alloc (.cells #[.int .i64 (st_ ts j).kd, .slice A1 n1 c1, .slice A2 n2 c2, .int .i64 (st_ ts j).sd, .slice A3 n3 c3] 57) := ⟨_, rfl⟩
            have CN : Hid (Calls Try.prog 25 #[.agg #[.int .i64 (st_ ts j).kd, .slice A1 n1 c1, .slice A2 n2 c2, .int .i64 (st_ ts j).sd, .slice A3 n3 c3]] (wr.alloc (.cells #[.int .i64 (st_ ts j).kd, .slice A1 n1 c1, .slice A2 n2 c2, .int .i64 (st_ ts j).sd, .slice A3 n3 c3] 57)) (SbAns (wr.alloc (.cells #[.int .i64 (st_ ts j).kd, .slice A1 n1 c1, .slice A2 n2 c2, .int .i64 (st_ ts j).sd, .slice A3 n3 c3] 57)) (noV (st_ ts j)))) := by
              show Calls _ _ _ _ _
              rw [← isN_y (HS.out j hlt2)]
              exact IsNothing_any (st_ ts j) _ _ _ _ _ _ _ _ _ _ (xs.alloc _)
            clear xs W hW
            obtain ⟨s, hs⟩ : ∃ s, noV (st_ ts j) = s := ⟨_, rfl⟩
            rw [hs] at CN
            have HSS := Lib.hid hs
            clear hs
            cases s
            · go_wp2_with fail
              refine CN.out.mono ?_
              rintro e w2 ⟨rfl, hb2⟩
              have HB2 := Lib.hid (blThen (blThenAlloc HBB.out _) hb2)
              have HM2 := Lib.hid ((HM.out.bel (blThen (blAlloc wr _) hb2)).keep HSS.out)
              clear hb2 x0 x1 x2 x3 x4 CN
              go_wp2_with fail
              go_roundw
              case rel => exact ⟨j + 1, _, by omega, by go_num, HM2.out, HB2.out⟩
              case measure => simp [intOf]; omega
            · go_wp2_with fail
              refine CN.out.mono ?_
              rintro e w2 ⟨rfl, hb2⟩
              have HB2 := Lib.hid (blThen (blThenAlloc HBB.out _) hb2)
              have HM2 := Lib.hid (HM.out.bel (blThen (blAlloc wr _) hb2))
              clear hb2 x0 x1 x2 x3 x4 CN
              go_wp2_with (at_delete; refine wpList_delete_own _ rfl _ _ 123 3 rfl 107 keyN Try.underlying123 anyE w1.heap.size k D' rfl HM2.out.own _ _ rfl (lk_key j (by omega)) ?_; intro w3 hown3 hturn3)
              have HM3 := Lib.hid (HM2.out.del hlt2 HSS.out hown3)
              have HB3 : Hid (Below w1.heap.size w1 w3) := by
                show Below _ _ _
                exact HB2.out.grown hturn3.grown HB2.out.size (fun j hj => by cases hj; omega)
              clear hown3 hturn3
              go_wp2_with fail
              go_roundw
              case rel => exact ⟨j + 1, _, by omega, by go_num, HM3.out, HB3.out⟩
              case measure => simp [intOf]; omega
          · obtain rfl : j = k := by omega
            go_wp2_with fail
            go_ret2
            exact ⟨_, by rw [H0.out]; rfl, fun _ => ⟨_, D', rfl, by rw [HL.out]; exact HM.out⟩, blThen T1.out HBB.out⟩
  · obtain ⟨f, hf⟩ : ∃ f, chf ts = f := ⟨_, rfl⟩
    have HFF := Lib.hid hf
    rw [hf] at h0 ⊢
    have HNZ := Lib.hid h0
    have hqn : (f == 0) = false := by simpa using h0
    have hqm : (f != 0) = true := by simpa using h0
    clear hok hf
    go_wp2_with fail
    go_ret2
    exact ⟨_, by rw [HFF.out]; rfl, fun e => absurd (HFF.out.symm.trans e) HNZ.out, T1.out⟩
end Go.Proofs.Ytdjifaaofefpoaa
