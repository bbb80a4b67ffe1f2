/-
  A grid at a colour: the program's EvalGrid.
-/
import Derived.Test.YthplngcdldongaaGrdLA
namespace Go.Proofs.Ythplngcdldongaa
open Go.RowKit Go.Maps
set_option linter.unusedVariables false
set_option linter.unusedSimpArgs false

set_option maxRecDepth 100000 in
set_option maxHeartbeats 4000000 in
theorem EvalGrid_f (A P : Option Addr) (n c m d : Nat) (sd : Int) (rs : Rws) (xs : List Int) (bs : List Nat) (w : World) (h : Hd w (rowsD rs) (.slice A n c) bs) (h0 : gf sd rs ≠ 0) :
    Calls Try.prog 7 #[.agg #[.int .i64 sd, .slice A n c], .slice P m d] w (IAns w (egC sd rs xs) (egL sd rs xs)) := by
  have HA := Lib.hid (eg_f (xs := xs) h0)
  obtain ⟨f, hfe⟩ : ∃ f, gf sd rs = f := ⟨_, rfl⟩
  have CN : Hid (∀ W, Hd W (rowsD rs) (.slice A n c) bs → Calls Try.prog 44 #[.agg #[.int .i64 sd, .slice A n c]] W (NdF W f)) := fun W hW => (nodesOf_any A n c sd rs bs W hW).mono fun e w' hh => by
    obtain ⟨m, he, hb⟩ := hh; exact ⟨m, by rw [he, hfe], hb⟩
  rw [hfe] at h0 HA
  have hqn : (f == 0) = false := by simpa using h0
  have H := Lib.hid h
  clear h hfe
  go_enter Try.func7, Try.ntmps7
  go_wp2_with fail
  refine (CN.out _ ((H.out.alloc _).alloc _)).mono ?_
  rintro e w1 ⟨q, rfl, hb⟩
  obtain ⟨hc, hf⟩ := bcell hb
  have hz : w.heap.size + 1 < w1.heap.size := by have := hb.size; simp at this; omega
  have T := Lib.hid (blThen (blThenAlloc (blAlloc w _) _) hb)
  clear hb CN H
  go_wp2_with fail
  refine bodyPost_ret (v := .agg #[.int .i64 f, .slice none 0 0]) (by simp [results, Try.results7, go_sem, hc]) rfl (IAns.bad HA.out ?_)
  repeat (first | exact T.out | refine Below.setCell ?_ (by simp; try omega) _)
set_option maxRecDepth 100000 in
set_option maxHeartbeats 4000000 in
theorem EvalGrid_z (A P : Option Addr) (n c m d s : Nat) (rs : Rws) (xs : List Int) (bs gs : List Nat) (w : World) (h : Hd w (rowsD rs) (.slice A n c) bs) (hp : Hd w (.ints .i64 xs) (.slice P m d) gs) (h0 : gf (s : Int) rs = 0) :
    Calls Try.prog 7 #[.agg #[.int .i64 (s : Int), .slice A n c], .slice P m d] w (IAns w (egC (s : Int) rs xs) (egL (s : Int) rs xs)) := by
  have CN := Lib.hid (fun W (hW : Hd W (rowsD rs) (.slice A n c) bs) => nodesOf_ok A n c s rs bs W hW h0)
  have HP := Lib.hid hp
  have H := Lib.hid h
  have HG := Lib.hid h0
  clear h hp h0
  go_enter Try.func7, Try.ntmps7
  go_wp2_with fail
  refine (CN.out _ ((H.out.alloc _).alloc _)).mono ?_
  rintro e w1 ⟨B, D, rfl, hM, hb⟩
  have HM := Lib.hid hM
  have G1 := Lib.hid (((Bx.new w #[.int .i64 (s : Int), .slice A n c] 26 rfl).alloc (.cells #[.int .i64 0, .slice none 0 0] 31)).bel hb)
  have R1 := Lib.hid ((Bx.new (w.alloc (.cells #[.int .i64 (s : Int), .slice A n c] 26)) #[.int .i64 0, .slice none 0 0] 31 (b := w.heap.size + 1) (by simp)).bel hb)
  have T1 := Lib.hid (blThen (blThenAlloc (blAlloc w _) _) hb)
  clear hb hM CN
  go_wp2_with fail
  refine (lightsOf_any _ _ _ xs _ (HP.out.rd.below T1.out) HP.out.caps.1 HP.out.caps.2).mono ?_
  rintro e w2 ⟨q, rfl, hq, hb⟩
  have R2 := Lib.hid (R1.out.bel hb)
  have G2 := Lib.hid (G1.out.bel hb)
  have T2 := Lib.hid (blThen T1.out hb)
  have HM2 := Lib.hid (HM.out.kept hb)
  clear hb R1 T1 HM G1
  have r0 := R2.out.c 0 rfl
  have r1 := R2.out.c 1 rfl
  have z0 := R2.out.f 0
  have z1 := R2.out.f 1
  have x0 := G2.out.c 0 rfl
  have l0 := R2.out.lt
  have l1 : w.heap.size < w2.heap.size := by omega
  have l2 : w.heap.size + 1 < w2.heap.size + 1 := by omega
  by_cases h0 : lf xs = 0
  · have HA := Lib.hid (eg_y HG.out h0)
    have HQ : Hid (LvT (65535 * 1) q) := fun j hj => by rw [hq h0 j hj]; exact inB_iff.1 ((lf_zero h0).2 j hj)
    have HFG : Hid (∀ i, gvo 1 (s : Int) rs q i = gvl (s : Int) rs (xs.getD · 0) i) := fun i => by rw [gvo_ext (fun j hj => hq h0 j hj), gvo_1]
    rw [h0]
    clear h0 hq
    go_wp2_with fail
    refine (gridAt_k 1 (.inl rfl) B s rs D q _ (HM2.out.kept (blAlloc w2 _)) HG.out HQ.out).mono ?_
    rintro e w3 ⟨rfl, hb⟩
    have R3 := Lib.hid ((R2.out.alloc (.cells #[.int .i64 (q 0), .int .i64 (q 1), .int .i64 (q 2)] 75)).bel hb)
    have T3 := Lib.hid (blThen (blThenAlloc T2.out _) hb)
    have hz : w2.heap.size < w3.heap.size := by have := hb.size; simp at this; omega
    rw [HFG.out 0, HFG.out 1, HFG.out 2]
    have HA1 := Lib.hid HA.out.1
    have HA2 := Lib.hid HA.out.2
    obtain ⟨v, hv⟩ : ∃ v, v = gvl (s : Int) rs (xs.getD · 0) := ⟨_, rfl⟩
    replace HA2 : Hid (egL (s : Int) rs xs = [v 0, v 1, v 2]) := by show _ = _; rw [HA2.out, hv]
    rw [← hv]
    clear hb R2 T2 G2 HM2 HFG HQ r0 r1 z0 z1 x0 hv HA
    have r0 := R3.out.c 0 rfl
    have r1 := R3.out.c 1 rfl
    have z0 := R3.out.f 0
    have z1 := R3.out.f 1
    have l3 := R3.out.lt
    go_wp2_with fail
    have KK := ((R3.out.set 0 (.int .i64 0)).set 1 (.slice (some ⟨w3.heap.size, 0, none⟩) 3 3)).alloc (.cells #[.int .i64 (v 0), .int .i64 (v 1), .int .i64 (v 2)] 75)
    have k0 := KK.c 0 rfl
    have k1 := KK.c 1 rfl
    clear KK
    refine bodyPost_ret (v := .agg #[.int .i64 0, .slice (some ⟨w3.heap.size, 0, none⟩) 3 3]) (by simp [results, Try.results7, go_sem, k0, k1]) rfl ⟨_, _, _, by rw [HA1.out], ?_, ?_⟩
    · rw [HA2.out]
      exact al_own _ _ _ _ _ _ _ _ _ (by omega)
    · exact blThenAlloc (bel1 (bel1 T3.out (c := w.heap.size + 1) (by omega) 0 _) (c := w.heap.size + 1) (by omega) 1 _) _
  · have HA := Lib.hid (eg_l (xs := xs) HG.out h0)
    obtain ⟨f, hf⟩ : ∃ f, lf xs = f := ⟨_, rfl⟩
    rw [hf] at h0 HA ⊢
    have hqn : (f == 0) = false := by simpa using h0
    clear hq hf
    go_wp2_with fail
    have KK := ((R2.out.set 0 (.int .i64 f)).set 1 (.slice none 0 0)).alloc (.cells #[.int .i64 (q 0), .int .i64 (q 1), .int .i64 (q 2)] 75)
    have k0 := KK.c 0 rfl
    have k1 := KK.c 1 rfl
    clear KK
    refine bodyPost_ret (v := .agg #[.int .i64 f, .slice none 0 0]) (by simp [results, Try.results7, go_sem, k0, k1]) rfl (IAns.bad HA.out ?_)
    exact blThenAlloc (bel1 (bel1 T2.out (c := w.heap.size + 1) (by omega) 0 _) (c := w.heap.size + 1) (by omega) 1 _) _
theorem EvalGrid_any (A P : Option Addr) (n c m d : Nat) (sd : Int) (rs : Rws) (xs : List Int) (bs gs : List Nat) (w : World) (h : Hd w (rowsD rs) (.slice A n c) bs) (hp : Hd w (.ints .i64 xs) (.slice P m d) gs) :
    Calls Try.prog 7 #[.agg #[.int .i64 sd, .slice A n c], .slice P m d] w (IAns w (egC sd rs xs) (egL sd rs xs)) := by
  by_cases h0 : gf sd rs = 0
  · obtain ⟨s, rfl⟩ : ∃ s : Nat, sd = s := ⟨sd.toNat, by have := inB_iff.1 (gf_zero h0).1; omega⟩
    exact EvalGrid_z A P n c m d s rs xs bs gs w h hp h0
  · exact EvalGrid_f A P n c m d sd rs xs bs w h h0
end Go.Proofs.Ythplngcdldongaa
