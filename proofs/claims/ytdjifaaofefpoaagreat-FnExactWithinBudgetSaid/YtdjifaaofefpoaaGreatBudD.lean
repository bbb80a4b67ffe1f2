/-
  WithinBudget, by the reference model.
-/
import Derived.Test.YtdjifaaofefpoaaGreatBudC
namespace Go.Proofs.YtdjifaaofefpoaaGreat
open Go.RowKit Go.Maps
set_option linter.unusedVariables false
set_option linter.unusedSimpArgs false

set_option maxRecDepth 100000 in
set_option maxHeartbeats 2000000 in
theorem sWithinBudget_any (A : Option Addr) (n c : Nat) (ts : List Stg) (bs : List Nat) (P : Option Addr) (m d : Nat) (xs : List Int) (gs : List Nat) (w : World) (h : Hd w (chD ts) (.slice A n c) bs) (hp : Hd w (.ints .i64 xs) (.slice P m d) gs) :
    Calls Tryz.prog 15 #[.agg #[.slice A n c], .slice P m d] w fun e w' => e = .returned (.bool (wbV ts xs)) ∧ Below w.heap.size w w' := by
  obtain ⟨W0, hW0⟩ : ∃ W0, W0 = w.alloc (.cells #[.slice A n c] 32) := ⟨_, rfl⟩
  have B : Hid (Bx W0 w.heap.size [.slice A n c]) := by show Bx _ _ _; rw [hW0]; exact Bx.new _ _ _ rfl
  have H : Hid (Hd W0 (chD ts) (.slice A n c) bs) := by show Hd _ _ _ _; rw [hW0]; exact h.alloc _
  have HP : Hid (Hd W0 (.ints .i64 xs) (.slice P m d) gs) := by show Hd _ _ _ _; rw [hW0]; exact hp.alloc _
  have T0 : Hid (Below w.heap.size w W0) := by show Below _ _ _; rw [hW0]; exact blAlloc _ _
  have HW := Lib.hid hW0
  clear h hp hW0
  go_enter Tryz.func15, Tryz.ntmps15
  go_wp2_with fail
  rw [← HW.out]
  clear HW
  refine (sAsked_any w.heap.size 0 A n c ts bs P m d xs gs _ H.out (B.out.c 0 rfl) HP.out).mono ?_
  rintro e w1 ⟨rfl, mm, rfl⟩
  by_cases h0 : chC ts xs = 0
  · have HV := Lib.hid (wbV_y h0)
    have hcf := (chC_zero h0).1
    obtain rfl : 3 = m := by rw [← (lfo_zero (chC_zero h0).2).1]; exact HP.out.rd.1
    have CB : Hid (∀ W, Below W0.heap.size W0 W → Calls Tryz.prog 34 #[.pointer (some ⟨w.heap.size, 0, none⟩)] W (TwAns W (bgV 128 ts) (bgV 1 ts))) := fun W hW => by rw [bgV_y hcf, bgV_y hcf]; exact sBudget7_any w.heap.size 0 A n c ts bs W (H.out.bel hW) ((B.out.bel hW).c 0 rfl) hcf
    have CO : Hid (∀ W, Below W0.heap.size W0 W → Calls Tryz.prog 27 #[.pointer (some ⟨w.heap.size, 0, none⟩), .slice P 3 d] W fun e w' => e = .returned (.int .i64 (offV ts xs)) ∧ Below W.heap.size W w') := fun W hW => sOff7_any w.heap.size 0 A n c ts bs P d xs W (H.out.bel hW) ((B.out.bel hW).c 0 rfl) (HP.out.bel hW).rd h0
    have hbx := bgV_bd (q := 128) (by omega) ts
    have hby := bgV_bd (q := 1) (by omega) ts
    obtain ⟨of, hof⟩ : ∃ of, of = offV ts xs := ⟨_, rfl⟩
    obtain ⟨x, hx⟩ : ∃ x, x = bgV 128 ts := ⟨_, rfl⟩
    obtain ⟨y, hy⟩ : ∃ y, y = bgV 1 ts := ⟨_, rfl⟩
    rw [← hx] at hbx CB HV
    rw [← hy] at hby CB HV
    rw [← hof] at CO HV
    have i1 : IntKind.i64.wrap (x + y) = x + y := IntWalk.i64_in _ (by omega)
    rw [h0]
    clear h0 hx hy hof hcf hbx hby
    go_wp2_with fail
    refine (CB.out _ (below_drewN _ _ _)).mono ?_
    rintro e w2 ⟨rfl, hb⟩
    have T2 := Lib.hid (blThen (below_drewN W0.heap.size mm W0) hb)
    clear hb
    go_wp2_with fail
    refine (CO.out _ T2.out).mono ?_
    rintro e w3 ⟨rfl, hb⟩
    have T3 := Lib.hid (blThen T2.out hb)
    clear hb
    go_wp2_with fail
    go_ret
    exact ⟨by rw [HV.out]; rfl, blThen T0.out T3.out⟩
  · have HV := Lib.hid (wbV_n h0)
    obtain ⟨f, hf⟩ : ∃ f, chC ts xs = f := ⟨_, rfl⟩
    rw [hf] at h0 ⊢
    have hqn : (f == 0) = false := by simpa using h0
    clear hf
    have hqm : (f != 0) = true := by simpa using h0
    go_wp2_with fail
    go_ret
    exact ⟨by rw [HV.out]; rfl, blThenDrew T0.out _⟩
end Go.Proofs.YtdjifaaofefpoaaGreat
