/-
  The colours on the way through a chain, as lists: the program's StepsOf.
-/
import Derived.Test.YtmmlcdbbjkligaaGreatChvA
import Derived.Test.YtmmlcdbbjkligaaGreatLinG
import Derived.Test.YtmmlcdbbjkligaaGreatMatA
namespace Go.Proofs.YtmmlcdbbjkligaaGreat
open Go.RowKit Go.Maps
set_option linter.unusedVariables false
set_option linter.unusedSimpArgs false

def stR (ts : List Stg) (xs : List Int) (k : Nat) : List Int := [evW 1 ts (chX 1 xs) k 0, evW 1 ts (chX 1 xs) k 1, evW 1 ts (chX 1 xs) k 2]
def stRs (ts : List Stg) (xs : List Int) (n : Nat) : Rws := (List.range n).map (stR ts xs)
theorem stRs_succ (ts : List Stg) (xs : List Int) (n : Nat) : stRs ts xs (n + 1) = stRs ts xs n ++ [stR ts xs n] := by unfold stRs; rw [List.range_succ, List.map_append]; rfl
def stL (ts : List Stg) (xs : List Int) : Rws := if chC ts xs = 0 then stRs ts xs (ts.length + 1) else []
theorem stL_n {ts : List Stg} {xs : List Int} (h : chC ts xs ≠ 0) : stL ts xs = [] := by unfold stL; rw [if_neg h]
theorem stL_y {ts : List Stg} {xs : List Int} (h : chC ts xs = 0) : stL ts xs = stRs ts xs (ts.length + 1) := by unfold stL; rw [if_pos h]
set_option maxRecDepth 100000 in
set_option maxHeartbeats 4000000 in
theorem StepsOf_any (A : Option Addr) (n c : Nat) (ts : List Stg) (bs : List Nat) (P : Option Addr) (m d : Nat) (xs : List Int) (gs : List Nat) (w : World) (h : Hd w (chD ts) (.slice A n c) bs) (hp : Hd w (.ints .i64 xs) (.slice P m d) gs) :
    Calls Tryz.prog 28 #[.agg #[.slice A n c], .slice P m d] w (MAns w (chC ts xs) (stL ts xs)) := by
  have H := Lib.hid h
  have HP := Lib.hid hp
  clear h hp
  go_enter Tryz.func28, Tryz.ntmps28
  go_wp2_with fail
  refine (stepsOf_any 1 (.inl rfl) A n c ts bs P m d xs gs _ ((H.out.alloc _).alloc _) ((HP.out.alloc _).alloc _)).mono ?_
  rintro e w1 ⟨v, rfl, hok, hb⟩
  have R1 := Lib.hid ((Bx.new (w.alloc (.cells #[.slice A n c] 56)) #[.int .i64 0, .slice none 0 0] 62 (b := w.heap.size + 1) (by simp)).bel hb)
  have T1 := Lib.hid (blThen (blThenAlloc (blAlloc w _) _) hb)
  have r0 := R1.out.c 0 rfl
  have r1 := R1.out.c 1 rfl
  have z0 := R1.out.f 0
  have z1 := R1.out.f 1
  have l1 := R1.out.lt
  clear hb H HP
  by_cases h0 : chC ts xs = 0
  · have HL := Lib.hid (stL_y h0)
    have H0 := Lib.hid h0
    have H5 := (chf_zero (chC_zero h0).1).1
    have hov := hok h0
    obtain ⟨N, hN⟩ : ∃ N, N = ts.length + 1 := ⟨_, rfl⟩
    rw [← hN] at hov HL
    obtain ⟨g, cp, rfl, hg1, hg2, hc1, hc2, hcel⟩ := hov.look (by omega)
    have HC := Lib.hid hcel
    have hN6 : N ≤ 6 := by omega
    have hN1 : 0 < N := by omega
    unfold maxLen at hc2
    rw [h0]
    clear hok h0 hcel hov hN H5
    go_wp2_with fail
    go_loopw [7, 22] (fun v i wr => ∃ k : Nat, k ≤ N ∧ i = .int .i64 k ∧ Hid (RsL wr w1.heap.size v k (stRs ts xs k)) ∧ Hid (Below w1.heap.size w1 wr)) (fun _ i _ => N - (intOf i).toNat)
    case atStart => exact ⟨0, by omega, rfl, RsL.nil _ _ (Nat.le_refl _), Below.refl _ _⟩
    case round =>
      obtain ⟨k, hk, rfl, HR, HB⟩ := hrel
      by_cases hlt : k < N
      · have y0 := cell_later HB.out (HC.out k hlt 0 (by omega))
        have y1 := cell_later HB.out (HC.out k hlt 1 (by omega))
        have y2 := cell_later HB.out (HC.out k hlt 2 (by omega))
        rw [Nat.add_zero] at y0
        have HROW : Hid (stR ts xs k = [evW 1 ts (chX 1 xs) k 0, evW 1 ts (chX 1 xs) k 1, evW 1 ts (chX 1 xs) k 2]) := rfl
        obtain ⟨y, hy⟩ : ∃ y, y = evW 1 ts (chX 1 xs) k := ⟨_, rfl⟩
        rw [← hy] at y0 y1 y2 HROW
        clear hy
        go_wp2_with fail
        have BQ := Bx.new wr #[.int .i64 (y 0), .int .i64 (y 1), .int .i64 (y 2)] 100 rfl
        have RQ : Hid (Rd .i64 (wr.alloc (.cells #[.int .i64 (y 0), .int .i64 (y 1), .int .i64 (y 2)] 100)) (some ⟨wr.heap.size, 0, none⟩) 3 (stR ts xs k)) := by show Rd _ _ _ _ _; rw [HROW.out]; exact (own3L BQ).hd.choose_spec.rd
        clear BQ
        refine (Clone_any wr.heap.size 0 3 3 (stR ts xs k) _ RQ.out (by omega) (by omega)).mono ?_
        rintro e w2 ⟨G, cq, rfl, how, hb⟩
        have HOW := Lib.hid how
        have HBX := Lib.hid (blThen (blAlloc wr _) hb)
        have hsz := hb.size
        have hsz2 := (blAlloc wr (.cells #[.int .i64 (y 0), .int .i64 (y 1), .int .i64 (y 2)] 100)).size
        clear how hb RQ y0 y1 y2
        go_wp2_with (at_builtin; refine wpList_append_rsl _ rfl _ _ rfl w2 _ w1.heap.size _ k (stRs ts xs k) (stR ts xs k) _ _ rfl rfl rfl wr HBX.out HR.out HOW.out (by omega) (by omega) rfl (by omega) ?_; intro g' c' w5 hr5 hb5)
        have HR5 : Hid (RsL w5 w1.heap.size (.slice (some ⟨g', 0, none⟩) (k + 1) c') (k + 1) (stRs ts xs (k + 1))) := by show RsL _ _ _ _ _; rw [stRs_succ]; exact hr5
        have HB5 := Lib.hid ((blThenAlloc (blThen HB.out HBX.out) _).trans hb5)
        clear hr5 hb5 HOW HBX HR HB
        go_wp2_with fail
        go_roundw
        case rel => exact ⟨k + 1, by omega, by go_num, HR5, HB5⟩
        case measure => simp [intOf]; omega
      · obtain rfl : k = N := by omega
        have hfm : ∃ g c, u7 = .slice (some ⟨g, 0, none⟩) k c := by
          obtain ⟨V, lo, hi, h⟩ := HR.out
          obtain ⟨g, c, hv, -, -⟩ := World.ownsRow.form h.own (by omega)
          exact ⟨g, c, hv⟩
        obtain ⟨gq, cq, rfl⟩ := hfm
        have RR := Lib.hid (R1.out.bel HB.out)
        have HBW := Lib.hid (blThen T1.out HB.out)
        have HF := Lib.hid HR.out.fin
        clear r0 r1 z0 z1 HR HC
        have r0 := RR.out.c 0 rfl
        have r1 := RR.out.c 1 rfl
        have z0 := RR.out.f 0
        have z1 := RR.out.f 1
        have l2 := RR.out.lt
        go_wp2_with fail
        have KK := (RR.out.set 0 (.int .i64 0)).set 1 (.slice (some ⟨gq, 0, none⟩) k cq)
        have k0 := KK.c 0 rfl
        have k1 := KK.c 1 rfl
        clear KK
        refine bodyPost_ret (v := .agg #[.int .i64 0, .slice (some ⟨gq, 0, none⟩) k cq]) (by simp [results, Tryz.results28, go_sem, k0, k1]) rfl ⟨_, _, _, by rw [H0.out], ?_, bel1 (bel1 HBW.out (c := w.heap.size + 1) (by omega) 0 _) (c := w.heap.size + 1) (by omega) 1 _⟩
        rw [HL.out]
        refine Own.mono (lo := w1.heap.size) (hi := wr.heap.size) ?_ (by omega) (by simp [setSize])
        exact (HF.out.set (.inl (by omega)) _ _).set (.inl (by omega)) _ _
  · have HA := Lib.hid (stL_n h0)
    obtain ⟨f, hf⟩ : ∃ f, chC ts xs = f := ⟨_, rfl⟩
    have HFF := Lib.hid hf
    rw [hf] at h0 ⊢
    have hqn : (f == 0) = false := by simpa using h0
    clear hok hf
    go_wp2_with fail
    have KK := (R1.out.set 0 (.int .i64 f)).set 1 (.slice none 0 0)
    have k0 := KK.c 0 rfl
    have k1 := KK.c 1 rfl
    clear KK
    refine bodyPost_ret (v := .agg #[.int .i64 f, .slice none 0 0]) (by simp [results, Tryz.results28, go_sem, k0, k1]) rfl (MAns.bad ⟨HFF.out, HA.out⟩ ?_)
    exact bel1 (bel1 T1.out (c := w.heap.size + 1) (by omega) 0 _) (c := w.heap.size + 1) (by omega) 1 _
end Go.Proofs.YtmmlcdbbjkligaaGreat
