/-
  A chain at a list of numbers: the model's l6Asked, l6Chain, EvalChain, l7FineChain, FineChain.
-/
import Derived.Test.YtlfdpambbgddoaaGreatChvA
import Derived.Test.YtlfdpambbgddoaaGreatEvM
import Derived.Test.YtlfdpambbgddoaaGreatFinB
namespace Go.Proofs.YtlfdpambbgddoaaGreat
open Go.RowKit Go.Maps
set_option linter.unusedVariables false
set_option linter.unusedSimpArgs false

/-- the colour behind k stages, as a list. -/
def ev3 (o : Int) (ts : List Stg) (xs : List Int) (k : Nat) : List Int := [evW o ts (chX o xs) k 0, evW o ts (chX o xs) k 1, evW o ts (chX o xs) k 2]
theorem ev3_at (o : Int) (ts : List Stg) (xs : List Int) (k j : Nat) (hj : j < 3) : (ev3 o ts xs k).getD j 0 = evW o ts (chX o xs) k j := by
  match j, hj with
  | 0, _ => rfl
  | 1, _ => rfl
  | 2, _ => rfl
theorem ev3_on (o : Int) (ts : List Stg) (xs : List Int) (k : Nat) : [evS o (st_ ts k) ((ev3 o ts xs k).getD · 0) 0, evS o (st_ ts k) ((ev3 o ts xs k).getD · 0) 1, evS o (st_ ts k) ((ev3 o ts xs k).getD · 0) 2] = ev3 o ts xs (k + 1) := by
  rw [evS_ext o (st_ ts k) (ev3_at o ts xs k) (show 0 < 3 by omega), evS_ext o (st_ ts k) (ev3_at o ts xs k) (show 1 < 3 by omega), evS_ext o (st_ ts k) (ev3_at o ts xs k) (show 2 < 3 by omega)]
  rfl
theorem ev3_fine {o : Int} (ho : One o) {ts : List Stg} {xs : List Int} (h : chC ts xs = 0) {k : Nat} (hk : k ≤ ts.length) : lfo o (ev3 o ts xs k) = 0 := by
  obtain ⟨h0, h1⟩ := chC_zero h
  have hf := sgL_all _ (chf_zero h0).2
  have hb := evW_bd ho (chX_bd ho h1) k (fun i hi => hf i (by omega))
  refine lfo_ok rfl fun j hj => ?_
  rw [ev3_at o ts xs k j hj]
  exact inB_iff.2 (hb j hj)
theorem ev3_0 {xs : List Int} (ts : List Stg) (h : xs.length = 3) : ev3 1 ts xs 0 = xs := by
  match xs, h with
  | [a, b, c], _ =>
    show [a * 1, b * 1, c * 1] = [a, b, c]
    rw [Int.mul_one, Int.mul_one, Int.mul_one]
theorem chL_3 {o : Int} {ts : List Stg} {xs : List Int} (h : chC ts xs = 0) : chL o ts xs = ev3 o ts xs ts.length := chL_y h
/-! the walks -/
set_option maxRecDepth 100000 in
set_option maxHeartbeats 4000000 in
theorem sChain6_any (g o : Nat) (A : Option Addr) (n c : Nat) (ts : List Stg) (bs : List Nat) (P : Option Addr) (d : Nat) (xs : List Int) (w : World) (h : Hd w (chD ts) (.slice A n c) bs) (hg : w.cell? ⟨g, o, none⟩ = some (.slice A n c)) (hp : Rd .i64 w P 3 xs) (h0 : chC ts xs = 0) :
    Calls Tryz.prog 40 #[.pointer (some ⟨g, o, none⟩), .slice P 3 d] w (SlAns w 3 (ev3 1 ts xs n)) := by
  have hl := h.stgs.1
  have hm := h.stgs.2.2
  have hc := h.stgs.2.1
  unfold maxLen at hm
  obtain ⟨pb, po, rfl, hpc⟩ := hp.2 (by omega)
  have H := Lib.hid h
  have HG := Lib.hid hg
  have HP := Lib.hid hp
  have H0 := Lib.hid h0
  have HFN := Lib.hid (sgL_all _ (chf_zero (chC_zero h0).1).2)
  have HL := Lib.hid hl
  have HE := Lib.hid (ev3_0 ts hp.1)
  clear h hg hp h0 hl hpc
  go_enter Tryz.func40, Tryz.ntmps40
  go_wp2_with fail
  refine (sInts_any pb po 3 d xs w HP.out (by omega) (by omega)).mono ?_
  rintro e w1 ⟨B1, cp1, rfl, how, hb⟩
  have OW : Hid (Own w1 (.ints .i64 (ev3 1 ts xs 0)) (.slice B1 3 cp1) w.heap.size w1.heap.size) := by show Own _ _ _ _ _; rw [HE.out]; exact how
  have T1 := Lib.hid hb
  clear how hb
  go_wp2_with fail
  go_loopw [5, 6] (fun v i wr => ∃ (k : Nat) (B : Option Addr) (cp : Nat), k ≤ n ∧ i = .int .i64 k ∧ v = .slice B 3 cp ∧ Own wr (.ints .i64 (ev3 1 ts xs k)) (.slice B 3 cp) w.heap.size wr.heap.size ∧ Below w.heap.size w wr) (fun _ i _ => n - (intOf i).toNat)
  case atStart => exact ⟨0, _, _, by omega, rfl, rfl, OW.out, T1.out⟩
  case round =>
    obtain ⟨k, B, cp, hk, rfl, rfl, how, hb⟩ := hrel
    have hgr := cell_later hb HG.out
    have HO := Lib.hid how
    have HB := Lib.hid hb
    clear how hb
    by_cases hlt : k < n
    · obtain ⟨b, o', A1, n1, c1, A2, n2, c2, A3, n3, c3, rfl, x0, x1, x2, x3, x4, xst⟩ := (H.out.bel HB.out).stg hlt
      have CE := Lib.hid (sEval6_any b (o' + k * 5) (st_ ts k) A1 n1 c1 A2 n2 c2 A3 n3 c3 B cp (ev3 1 ts xs k) wr ⟨x0, x1, x2, x3, x4⟩ xst HO.out.hd.choose_spec.rd (HFN.out k (by have := HL.out; omega)) (ev3_fine (.inl rfl) H0.out (by have := HL.out; omega)))
      rw [ev3_on 1 ts xs k] at CE
      clear x0 x1 x2 x3 x4 xst
      go_wp2_with fail
      refine CE.out.mono ?_
      rintro e w2 ⟨G, cp2, rfl, how, hb⟩
      have HO2 := Lib.hid (how.mono HB.out.size (Nat.le_refl _))
      have HB2 := Lib.hid (blThen HB.out hb)
      clear how hb CE
      go_wp2_with fail
      go_roundw
      case rel => exact ⟨k + 1, G, cp2, by omega, by go_num, rfl, HO2.out, HB2.out⟩
      case measure => simp [intOf]; omega
    · obtain rfl : k = n := by omega
      go_wp2_with fail
      go_ret
      exact ⟨_, _, rfl, HO.out, HB.out⟩
end Go.Proofs.YtlfdpambbgddoaaGreat
