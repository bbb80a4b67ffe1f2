/-
  NothingsIn, by the reference model.
-/
import Derived.Test.YtdjifaaofefpoaaNotC
import Derived.Test.YtdjifaaofefpoaaStpB
import Derived.Test.YtdjifaaofefpoaaJonB
import Derived.Deep.RegionHeld3
namespace Go.Proofs.Ytdjifaaofefpoaa
open Go.RowKit Go.Maps
set_option linter.unusedVariables false
set_option linter.unusedSimpArgs false

/-- How many of the first k stages do nothing. -/
def nsN (ts : List Stg) : Nat → Nat
  | 0 => 0
  | k + 1 => nsN ts k + (if noV (st_ ts k) then 1 else 0)
theorem nsN_y {ts : List Stg} {k : Nat} (h : noV (st_ ts k) = true) : nsN ts (k + 1) = nsN ts k + 1 := by simp [nsN, h]
theorem nsN_n {ts : List Stg} {k : Nat} (h : noV (st_ ts k) = false) : nsN ts (k + 1) = nsN ts k := by simp [nsN, h]
theorem nsN_le (ts : List Stg) : ∀ k, nsN ts k ≤ k := by
  intro k
  induction k with
  | zero => exact Nat.le_refl 0
  | succ k ih => simp only [nsN]; split <;> omega
/-- The answer's value: 0 where there is a fault. -/
def nsV (ts : List Stg) : Int := if chf ts = 0 then (nsN ts ts.length : Int) else 0
set_option maxRecDepth 100000 in
set_option maxHeartbeats 2000000 in
theorem sNothingsIn_any (A : Option Addr) (n c : Nat) (ts : List Stg) (bs : List Nat) (w : World) (h : Hd w (chD ts) (.slice A n c) bs) :
    Calls Try.prog 27 #[.agg #[.slice A n c]] w fun e w' => e = .returned (.agg #[.int .i64 (chf ts), .int .i64 (nsV ts)]) ∧ Below w.heap.size w w' := by
  have hl := h.stgs.1
  have hm := h.stgs.2.2
  unfold maxLen at hm
  have B := Lib.hid ((Bx.new w #[.slice A n c] 31 rfl).alloc (.cells #[.int .i64 0, .int .i64 0] 62))
  have R := Lib.hid (Bx.new (w.alloc (.cells #[.slice A n c] 31)) #[.int .i64 0, .int .i64 0] 62 (b := w.heap.size + 1) (by simp))
  have H := Lib.hid ((h.alloc (.cells #[.slice A n c] 31)).alloc (.cells #[.int .i64 0, .int .i64 0] 62))
  clear h
  go_enter Try.func27, Try.ntmps27
  go_wp2_with fail
  refine (sFault6_any w.heap.size 0 A n c ts bs _ H.out (B.out.c 0 rfl)).mono ?_
  rintro e w1 ⟨rfl, mm, rfl⟩
  have B1 := Lib.hid (B.out.drewN mm)
  have R1 := Lib.hid (R.out.drewN mm)
  have H1 := Lib.hid (H.out.bel (below_drewN _ mm _))
  have T1 := Lib.hid (blThenDrew (blThenAlloc (blAlloc w (.cells #[.slice A n c] 31)) (.cells #[.int .i64 0, .int .i64 0] 62)) mm)
  obtain ⟨W1, hW1⟩ : ∃ W, W = ((w.alloc (.cells #[.slice A n c] 31)).alloc (.cells #[.int .i64 0, .int .i64 0] 62)).drewN mm := ⟨_, rfl⟩
  have HZ : Hid (W1.heap.size = w.heap.size + 2) := by show _ = _; rw [hW1]; simp
  rw [← hW1] at B1 R1 H1 T1 ⊢
  clear hW1 B R H
  by_cases h0 : chf ts = 0
  · have HV : Hid (nsV ts = (nsN ts n : Int)) := by show _ = _; unfold nsV; rw [if_pos h0, hl]
    have n5 : n ≤ 5 := by have := (chf_zj h0).1; omega
    have HS := Lib.hid (sgL_all _ (chf_zj h0).2)
    have H0 := Lib.hid h0
    rw [h0]
    clear h0 hl
    go_wp2_with fail
    go_loopw [4, 5] (fun q x wr => ∃ k : Nat, k ≤ n ∧ x = .int .i64 k ∧ q = .int .i64 (nsN ts k : Nat) ∧ Below W1.heap.size W1 wr) (fun _ x _ => n - (intOf x).toNat)
    case atStart => exact ⟨0, by omega, rfl, rfl, Below.refl _ _⟩
    case round =>
      obtain ⟨k, hk, rfl, rfl, hb⟩ := hrel
      have HB := Lib.hid hb
      have hg : wr.cell? ⟨w.heap.size, 0, none⟩ = some (.slice A n c) := (B1.out.bel hb).c 0 rfl
      have NL := Lib.hid (nsN_le ts k)
      by_cases hlt : k < n
      · obtain ⟨b, o', A1, n1, c1, A2, n2, c2, A3, n3, c3, rfl, x0, x1, x2, x3, x4, xs⟩ := (H1.out.bel hb).stg hlt
        have A5 : Hid (At5 wr b (o' + k * 5) (st_ ts k) A1 n1 c1 A2 n2 c2 A3 n3 c3) := ⟨x0, x1, x2, x3, x4⟩
        have CN : Hid (Calls Try.prog 62 #[.pointer (some ⟨b, o' + k * 5, none⟩)] wr (SbAns wr (noV (st_ ts k)))) := sNothing8_any _ _ (st_ ts k) _ _ _ _ _ _ _ _ _ _ A5.out xs
        clear xs x0 x1 x2 x3 x4 hb
        obtain ⟨s, hs⟩ : ∃ s, noV (st_ ts k) = s := ⟨_, rfl⟩
        obtain ⟨N, hN⟩ : ∃ N, nsN ts k = N := ⟨_, rfl⟩
        have hN5 : N ≤ 5 := by have := NL.out; omega
        rw [hs] at CN
        rw [hN]
        have HSS := Lib.hid hs
        have HNN := Lib.hid hN
        clear hs hN
        cases s
        · go_wp2_with fail
          refine CN.out.mono ?_
          rintro e w2 ⟨rfl, hb2⟩
          have HB2 := Lib.hid (blThen HB.out hb2)
          clear hb2 hg
          go_wp2_with fail
          go_roundw
          case rel => exact ⟨k + 1, by omega, by go_num, by rw [nsN_n HSS.out, HNN.out], HB2.out⟩
          case measure => simp [intOf]; omega
        · go_wp2_with fail
          refine CN.out.mono ?_
          rintro e w2 ⟨rfl, hb2⟩
          have HB2 := Lib.hid (blThen HB.out hb2)
          clear hb2 hg
          go_wp2_with fail
          go_roundw
          case rel => exact ⟨k + 1, by omega, by go_num, by rw [nsN_y HSS.out, HNN.out]; go_num, HB2.out⟩
          case measure => simp [intOf]; omega
      · obtain rfl : k = n := by omega
        have R3 := Lib.hid (R1.out.bel hb)
        have T3 := Lib.hid (blThen T1.out hb)
        clear hb
        have r0 := R3.out.c 0 rfl
        have r1 := R3.out.c 1 rfl
        have z0 := R3.out.f 0
        have z1 := R3.out.f 1
        obtain ⟨N, hN⟩ : ∃ N, nsN ts k = N := ⟨_, rfl⟩
        rw [hN]
        have HNN := Lib.hid hN
        clear hN NL
        go_wp2_with fail
        have KK := (R3.out.set 0 (.int .i64 0)).set 1 (.int .i64 (N : Int))
        have k0 := KK.c 0 rfl
        have k1 := KK.c 1 rfl
        clear KK
        refine bodyPost_ret (v := .agg #[.int .i64 0, .int .i64 (N : Int)]) (by simp [results, Try.results27, go_sem, k0, k1]) rfl ⟨by rw [H0.out, HV.out, HNN.out], ?_⟩
        exact bel1 (bel1 T3.out (c := w.heap.size + 1) (by omega) 0 _) (c := w.heap.size + 1) (by omega) 1 _
  · have HV : Hid (nsV ts = 0) := by show _ = _; unfold nsV; rw [if_neg h0]
    obtain ⟨f, hf⟩ : ∃ f, chf ts = f := ⟨_, rfl⟩
    have HFF := Lib.hid hf
    rw [hf] at h0 ⊢
    have hqn : (f != 0) = true := by simpa using h0
    clear hf
    have r0 := R1.out.c 0 rfl
    have r1 := R1.out.c 1 rfl
    have z0 := R1.out.f 0
    have z1 := R1.out.f 1
    go_wp2_with fail
    have KK := (R1.out.set 0 (.int .i64 f)).set 1 (.int .i64 0)
    have k0 := KK.c 0 rfl
    have k1 := KK.c 1 rfl
    clear KK
    refine bodyPost_ret (v := .agg #[.int .i64 f, .int .i64 0]) (by simp [results, Try.results27, go_sem, k0, k1]) rfl ⟨by rw [HFF.out, HV.out], ?_⟩
    exact bel1 (bel1 T1.out (c := w.heap.size + 1) (by omega) 0 _) (c := w.heap.size + 1) (by omega) 1 _
end Go.Proofs.Ytdjifaaofefpoaa
