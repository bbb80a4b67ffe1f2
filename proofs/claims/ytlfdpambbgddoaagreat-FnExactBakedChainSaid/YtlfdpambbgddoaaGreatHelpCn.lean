/-
  What the laws do with chains and stages that a result holds: heldCurveS, heldStageS, heldChain; eq, mark and held of a ChainResult.
-/
import Derived.Test.YtlfdpambbgddoaaGreatMrkA
namespace Go.Proofs.YtlfdpambbgddoaaGreat
open Go.RowKit
set_option linter.unusedVariables false
set_option linter.unusedSimpArgs false

set_option maxHeartbeats 1000000 in
theorem heldCurveS_any (A : Option Addr) (n c k : Nat) (rs : Rws) (bs : List Nat) (w : World) (h : Hd w (rowsD (mkRs rs k)) (.slice A n c) bs) (hs : RsSmall rs) (hk : k ≤ 8000000000000000000) :
    Calls Tryz.prog 97 #[.slice A n c, .int .i64 k] w fun e w' => e = .returned (.int .i64 (kR rs k rs.length)) ∧ w = w' := by
  have hl := h.rows.1
  rw [mkRs_len] at hl
  have hn : n ≤ 1048576 := by have := hs.1; omega
  have HL := Lib.hid hl
  have H := Lib.hid h
  have HS := Lib.hid hs
  clear h hs hl
  go_enter Tryz.func97, Tryz.ntmps97
  go_wp2
  go_loop [1, 5] (fun q i => ∃ j : Nat, j ≤ n ∧ i = .int .i64 j ∧ q = .int .i64 (kR rs k j : Nat)) (fun _ i => n - (intOf i).toNat)
  case atStart => exact ⟨0, by omega, rfl, rfl⟩
  case round =>
    obtain ⟨j, hj, rfl, rfl⟩ := hrel
    by_cases hlt : j < n
    · obtain ⟨b, o, B1, L1, C1, g1, rfl, x1, x3, -⟩ := H.out.row hlt
      rw [mkRs_get (by rw [HL.out]; exact hlt)] at x3
      have hkb := kR_big HS.out hk (i := j) (by rw [HL.out]; omega)
      have hL : (rw_ rs j).length = L1 := by rw [← x3.rd.1, imarks_len]
      have hL2 : L1 ≤ 1048576 := by rw [← hL]; exact HS.out.2 j (by rw [HL.out]; exact hlt)
      have hr := x3.rd
      rw [hL] at hr
      have HLL := Lib.hid hL
      have HR := Lib.hid hr
      clear x3 hr hL
      go_wp2_with fail
      refine (heldInt64S_any _ _ _ _ _ HR.out (by omega) (by omega) (by omega)).mono ?_
      rintro e w2 ⟨rfl, rfl⟩
      clear x1
      go_wp2_with fail
      go_round
      case rel => exact ⟨j + 1, by omega, by go_num, by rw [kR, HLL.out]; go_num⟩
      case measure => simp [intOf]; omega
    · obtain rfl : j = n := by omega
      go_wp2
      go_ret
      exact ⟨ret_int (by rw [HL.out]), rfl⟩
set_option maxRecDepth 100000 in
set_option maxHeartbeats 4000000 in
theorem heldStageS_any (A : Option Addr) (n c k : Nat) (ts : List Stg) (bs : List Nat) (w : World) (h : Hd w (chD (mkC ts k ts.length)) (.slice A n c) bs) (hs : ChSmall ts) (hk : k ≤ 4000000000000000000) :
    Calls Tryz.prog 69 #[.slice A n c, .int .i64 k] w fun e w' => e = .returned (.int .i64 (kC ts k ts.length)) ∧ w = w' := by
  have hl := h.stgs.1
  rw [mkC_len] at hl
  have hn : n ≤ 1048576 := by have := hs.1; omega
  have HL := Lib.hid hl
  have H := Lib.hid h
  have HS := Lib.hid hs
  clear h hs hl
  go_enter Tryz.func69, Tryz.ntmps69
  go_wp2
  go_loop [1, 5] (fun q i => ∃ j : Nat, j ≤ n ∧ i = .int .i64 j ∧ q = .int .i64 (kC ts k j : Nat)) (fun _ i => n - (intOf i).toNat)
  case atStart => exact ⟨0, by omega, rfl, rfl⟩
  case round =>
    obtain ⟨j, hj, rfl, rfl⟩ := hrel
    by_cases hlt : j < n
    · obtain ⟨b, o, A1, n1, c1, A2, n2, c2, A3, n3, c3, rfl, x0, x1, x2, x3, x4, xs⟩ := H.out.stg hlt
      have hkb := kC_big HS.out hk (i := j) (by rw [HL.out]; omega)
      have hsm := HS.out.2 j (by rw [HL.out]; exact hlt)
      have hq := q3T_le (k := kC ts k j) hsm
      have hg : st_ (mkC ts k ts.length) j = mkT (st_ ts j) (kC ts k j) := by rw [mkC_get (by rw [HL.out]; exact hlt), if_pos (by rw [HL.out]; exact hlt)]
      rw [hg] at x0 x3 xs
      have HKC : Hid (kC ts k (j + 1) = q3T (st_ ts j) (kC ts k j)) := rfl
      clear hg
      obtain ⟨K, hK⟩ : ∃ K, K = kC ts k j := ⟨_, rfl⟩
      obtain ⟨t, ht⟩ : ∃ t, t = st_ ts j := ⟨_, rfl⟩
      rw [← hK] at hkb hq HKC x0 x3 xs ⊢
      rw [← ht] at hsm hq HKC x0 x3 xs
      obtain ⟨⟨ba, xa⟩, ⟨bb, xb⟩, ⟨bd, xd⟩⟩ := xs
      have XA := Lib.hid (heldCurveS_any A1 n1 c1 (K + 1) t.cs ba _ xa hsm.1 (by omega))
      have XB := Lib.hid (heldInt64SS_any A2 n2 c2 (q1T t K) t.rs bb _ xb hsm.2.1 (by omega))
      have XD := Lib.hid (heldInt64SS_any A3 n3 c3 (q2T t K + 1) t.ns bd _ xd hsm.2.2 (by omega))
      rw [show kR t.cs (K + 1) t.cs.length = q1T t K from rfl] at XA
      rw [show kR t.rs (q1T t K) t.rs.length = q2T t K from rfl] at XB
      rw [show kR t.ns (q2T t K + 1) t.ns.length = q3T t K from rfl] at XD
      rw [show (mkT t K).kd = (K : Int) from rfl] at x0
      rw [show (mkT t K).sd = (q2T t K : Int) from rfl] at x3
      generalize q1T t K = Q1 at *
      generalize q2T t K = Q2 at *
      generalize q3T t K = Q3 at *
      have wk1 : IntKind.i64.wrap ((K : Int) + 1) = ((K + 1 : Nat) : Int) := by rw [IntWalk.i64_in _ (by omega)]; simp
      have wk2 : IntKind.i64.wrap ((Q2 : Int) + 1) = ((Q2 + 1 : Nat) : Int) := by rw [IntWalk.i64_in _ (by omega)]; simp
      have p1 : ¬ (Q1 : Int) < 0 := by omega
      have p2 : ¬ (Q2 : Int) < 0 := by omega
      have p3 : ¬ (Q3 : Int) < 0 := by omega
      clear hK ht xa xb xd hsm
      go_wp2_with fail
      refine XA.out.mono ?_
      rintro e w2 ⟨rfl, rfl⟩
      clear XA
      go_wp2_with fail
      refine XB.out.mono ?_
      rintro e w2 ⟨rfl, rfl⟩
      clear XB
      go_wp2_with fail
      refine XD.out.mono ?_
      rintro e w2 ⟨rfl, rfl⟩
      clear XD
      clear x0 x1 x2 x3 x4
      go_wp2_with fail
      go_round
      case rel => exact ⟨j + 1, by omega, by go_num, by rw [HKC.out]⟩
      case measure => simp [intOf]; omega
    · obtain rfl : j = n := by omega
      go_wp2
      go_ret
      exact ⟨ret_int (by rw [HL.out]), rfl⟩
set_option maxHeartbeats 400000 in
theorem heldChain_any (A : Option Addr) (n c k : Nat) (ts : List Stg) (bs : List Nat) (w : World) (h : Hd w (chD (mkC ts k ts.length)) (.slice A n c) bs) (hs : ChSmall ts) (hk : k ≤ 4000000000000000000) :
    Calls Tryz.prog 43 #[.agg #[.slice A n c], .int .i64 k] w fun e w' => e = .returned (.int .i64 (kC ts k ts.length)) ∧ Below w.heap.size w w' := by
  have H := Lib.hid h
  have HS := Lib.hid hs
  have hkn : ¬ (kC ts k ts.length : Int) < 0 := by omega
  clear h hs
  go_enter Tryz.func43, Tryz.ntmps43
  go_wp2_with fail
  refine (heldStageS_any A n c k ts bs _ (H.out.alloc _) HS.out hk).mono ?_
  rintro e w1 ⟨rfl, rfl⟩
  go_wp2_with fail
  go_ret
  exact ⟨rfl, blAlloc _ _⟩
set_option maxHeartbeats 400000 in
theorem eqChainResult_same (A A' : Option Addr) (n n' c c' : Nat) (co : Int) (ts : List Stg) (bs bs' : List Nat) (w : World) (h : Hd w (chD ts) (.slice A n c) bs) (h' : Hd w (chD ts) (.slice A' n' c') bs') (hs : ChSmall ts) :
    Calls Tryz.prog 22 #[.agg #[.int .i64 co, .slice A n c], .agg #[.int .i64 co, .slice A' n' c']] w fun e w' => e = .returned (.bool true) ∧ Below w.heap.size w w' := by
  have H := Lib.hid h
  have H' := Lib.hid h'
  have HS := Lib.hid hs
  clear h h' hs
  go_enter Tryz.func22, Tryz.ntmps22
  go_wp2_with fail
  refine (eqChain_same _ _ _ _ _ _ ts _ _ _ ((H.out.alloc _).alloc _) ((H'.out.alloc _).alloc _) HS.out).mono ?_
  rintro e w1 ⟨rfl, hb⟩
  have T := Lib.hid (blThen (blThenAlloc (blAlloc w (.cells #[.int .i64 co, .slice A n c] 50)) (.cells #[.int .i64 co, .slice A' n' c'] 50)) hb)
  clear hb
  go_wp2_with fail
  go_ret
  exact ⟨rfl, T.out⟩
set_option maxHeartbeats 400000 in
theorem markChainResult_any (A : Option Addr) (n c k : Nat) (co : Int) (ts : List Stg) (bs : List Nat) (w : World) (h : Hd w (chD ts) (.slice A n c) bs) (nd : bs.Nodup) (hf : ∀ b ∈ bs, Thaw w b) (hs : ChSmall ts) (hk : k ≤ 4000000000000000000) :
    Calls Tryz.prog 23 #[.agg #[.int .i64 co, .slice A n c], .int .i64 k] w fun e w' => e = .returned (.int .i64 (kC ts k ts.length)) ∧ Hd w' (chD (mkC ts k ts.length)) (.slice A n c) bs ∧ Ch w w' (· ∈ bs) := by
  have H := Lib.hid h
  have HS := Lib.hid hs
  have ND := Lib.hid nd
  have HF := Lib.hid hf
  clear h hs nd hf
  go_enter Tryz.func23, Tryz.ntmps23
  go_wp2_with fail
  refine (markChain_any A n c k ts bs _ (H.out.alloc _) ND.out (fun b hb => (HF.out b hb).ch (Ch.of_below (fun _ => False) (blAlloc _ _)) (H.out.lt b hb)) HS.out hk).mono ?_
  rintro e w1 ⟨rfl, hd, hch⟩
  have HD := Lib.hid hd
  have HCH := Lib.hid ((Ch.of_below (· ∈ bs) (blAlloc w (.cells #[.int .i64 co, .slice A n c] 50))).trans hch)
  clear hd hch
  go_wp2_with fail
  go_ret
  exact ⟨rfl, HD.out, HCH.out⟩
set_option maxHeartbeats 400000 in
theorem heldChainResult_any (A : Option Addr) (n c k : Nat) (co : Int) (ts : List Stg) (bs : List Nat) (w : World) (h : Hd w (chD (mkC ts k ts.length)) (.slice A n c) bs) (hs : ChSmall ts) (hk : k ≤ 4000000000000000000) :
    Calls Tryz.prog 24 #[.agg #[.int .i64 co, .slice A n c], .int .i64 k] w fun e w' => e = .returned (.int .i64 (kC ts k ts.length)) ∧ Below w.heap.size w w' := by
  have H := Lib.hid h
  have HS := Lib.hid hs
  have hkn : ¬ (kC ts k ts.length : Int) < 0 := by omega
  clear h hs
  go_enter Tryz.func24, Tryz.ntmps24
  go_wp2_with fail
  refine (heldChain_any A n c k ts bs _ (H.out.alloc _) HS.out hk).mono ?_
  rintro e w1 ⟨rfl, hb⟩
  have T := Lib.hid (blThen (blAlloc w _) hb)
  clear hb
  go_wp2_with fail
  go_ret
  exact ⟨rfl, T.out⟩
end Go.Proofs.YtlfdpambbgddoaaGreat
