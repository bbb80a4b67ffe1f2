/-
  NothingsIn: the program's.
-/
import Derived.Test.YtdjifaaofefpoaaFldB
import Derived.Deep.RegionHeld3
namespace Go.Proofs.Ytdjifaaofefpoaa
open Go.RowKit Go.Maps
set_option linter.unusedVariables false
set_option linter.unusedSimpArgs false

set_option maxRecDepth 100000 in
set_option maxHeartbeats 4000000 in
theorem NothingsIn_any (A : Option Addr) (n c : Nat) (ts : List Stg) (bs : List Nat) (w : World) (h : Hd w (chD ts) (.slice A n c) bs) :
    Calls Try.prog 28 #[.agg #[.slice A n c]] w fun e w' => e = .returned (.agg #[.int .i64 (chf ts), .int .i64 (nsV ts)]) ∧ Below w.heap.size w w' := by
  have hl := h.stgs.1
  have B := Lib.hid ((Bx.new w #[.slice A n c] 31 rfl).alloc (.cells #[.int .i64 0, .int .i64 0] 62))
  have R := Lib.hid (Bx.new (w.alloc (.cells #[.slice A n c] 31)) #[.int .i64 0, .int .i64 0] 62 (b := w.heap.size + 1) (by simp))
  have H := Lib.hid ((h.alloc (.cells #[.slice A n c] 31)).alloc (.cells #[.int .i64 0, .int .i64 0] 62))
  clear h
  go_enter Try.func28, Try.ntmps28
  go_wp2_with fail
  refine (leftOf_any A n c ts bs _ H.out).mono ?_
  rintro e w1 ⟨m, rfl, hok, hb⟩
  have B1 := Lib.hid (B.out.bel hb)
  have R1 := Lib.hid (R.out.bel hb)
  have T1 := Lib.hid (blThen (blThenAlloc (blAlloc w (.cells #[.slice A n c] 31)) (.cells #[.int .i64 0, .int .i64 0] 62)) hb)
  clear hb B R H
  have r0 := R1.out.c 0 rfl
  have r1 := R1.out.c 1 rfl
  have z0 := R1.out.f 0
  have z1 := R1.out.f 1
  have l1 := R1.out.lt
  by_cases h0 : chf ts = 0
  · obtain ⟨b, D, rfl, hm⟩ := hok h0
    have HV : Hid (nsV ts = (nsN ts n : Int)) := by show _ = _; unfold nsV; rw [if_pos h0, hl]
    have n5 : n ≤ 5 := by have := (chf_zj h0).1; omega
    have H0 := Lib.hid h0
    rw [hl] at hm
    have hsz := hm.sz
    have hlen := fun r => hm.own.len (P := Try.prog) Try.underlying123 r
    have b0 := B1.out.c 0 rfl
    have HO := Lib.hid hm.own
    obtain ⟨N, hN⟩ : ∃ N, nsN ts n = N := ⟨_, rfl⟩
    obtain ⟨S, hS⟩ : ∃ S, Maps.size D = S := ⟨_, rfl⟩
    have HNN := Lib.hid hN
    rw [hN, hS] at hsz
    rw [hS] at hlen
    have hsub : (n : Int) - (S : Int) = (N : Int) := by omega
    rw [h0]
    clear hok h0 hm hl hN
    go_wp2_with fail
    have KK := (R1.out.set 0 (.int .i64 0)).set 1 (.int .i64 (N : Int))
    have k0 := KK.c 0 rfl
    have k1 := KK.c 1 rfl
    clear KK
    refine bodyPost_ret (v := .agg #[.int .i64 0, .int .i64 (N : Int)]) (by simp [results, Try.results28, go_sem, k0, k1]) rfl ⟨by rw [H0.out, HV.out, HNN.out], ?_⟩
    exact bel1 (bel1 T1.out (c := w.heap.size + 1) (by omega) 0 _) (c := w.heap.size + 1) (by omega) 1 _
  · have HV : Hid (nsV ts = 0) := by show _ = _; unfold nsV; rw [if_neg h0]
    obtain ⟨f, hf⟩ : ∃ f, chf ts = f := ⟨_, rfl⟩
    have HFF := Lib.hid hf
    rw [hf] at h0 ⊢
    have hqn : (f == 0) = false := by simpa using h0
    have hqm : (f != 0) = true := by simpa using h0
    clear hf hok
    go_wp2_with fail
    have KK := (R1.out.set 0 (.int .i64 f)).set 1 (.int .i64 0)
    have k0 := KK.c 0 rfl
    have k1 := KK.c 1 rfl
    clear KK
    refine bodyPost_ret (v := .agg #[.int .i64 f, .int .i64 0]) (by simp [results, Try.results28, go_sem, k0, k1]) rfl ⟨by rw [HFF.out, HV.out], ?_⟩
    exact bel1 (bel1 T1.out (c := w.heap.size + 1) (by omega) 0 _) (c := w.heap.size + 1) (by omega) 1 _
end Go.Proofs.Ytdjifaaofefpoaa
