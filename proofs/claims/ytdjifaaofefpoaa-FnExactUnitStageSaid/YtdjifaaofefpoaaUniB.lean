/-
  What the law of UnitStage does with a StageResult: eq, mark, held.
-/
import Derived.Test.YtdjifaaofefpoaaUniA
import Derived.Test.YtdjifaaofefpoaaHelpCn
namespace Go.Proofs.Ytdjifaaofefpoaa
open Go.RowKit Go.Maps
set_option linter.unusedVariables false
set_option linter.unusedSimpArgs false

theorem OwnS3.ch {w w' : World} {t : Stg} {s1 s2 s3 : Value} {lo hi : Nat} {P : Nat → Prop} (h : OwnS3 w t s1 s2 s3 lo hi) (hc : Ch w w' P) (hP : ∀ k, lo ≤ k → k < hi → ¬ P k) : OwnS3 w' t s1 s2 s3 lo hi := by
  obtain ⟨p, q, a, b, d, l1, l2, l3⟩ := h
  exact ⟨p, q, a.ch hc (fun k h1 h2 => hP k h1 (by omega)), b.ch hc (fun k h1 h2 => hP k (by omega) (by omega)), d.ch hc (fun k h1 h2 => hP k (by omega) h2), l1, l2, l3⟩
theorem OwnS3.below {w w' : World} {t : Stg} {s1 s2 s3 : Value} {lo hi : Nat} (h : OwnS3 w t s1 s2 s3 lo hi) (hb : Below w.heap.size w w') : OwnS3 w' t s1 s2 s3 lo hi := h.ch (Ch.of_below (fun _ => False) hb) (fun _ _ _ => id)
theorem OwnS3.hd {w : World} {t : Stg} {B1 : Option Addr} {m1 d1 : Nat} {B2 : Option Addr} {m2 d2 : Nat} {B3 : Option Addr} {m3 d3 lo hi : Nat} (h : OwnS3 w t (.slice B1 m1 d1) (.slice B2 m2 d2) (.slice B3 m3 d3) lo hi) : HdSt w t B1 m1 d1 B2 m2 d2 B3 m3 d3 := by
  obtain ⟨p, q, a, b, d, l1, l2, l3⟩ := h
  exact ⟨a.hd, b.hd, d.hd⟩
theorem Bx.ch {W W' : World} {b : Nat} {l : List Value} {P : Nat → Prop} (h : Bx W b l) (hc : Ch W W' P) (hn : ¬ P b) : Bx W' b l :=
  ⟨Nat.lt_of_lt_of_le h.lt hc.size, fun i => by rw [hc.frozen _ i h.lt]; exact h.th i, fun j v e => by rw [hc.cell h.lt hn]; exact h.at_ j v e⟩
def mS (t : Stg) (k : Nat) : Nat := kR t.ns (kR t.rs (kR t.cs k t.cs.length) t.rs.length) t.ns.length
def mT3 (t : Stg) (k : Nat) : Stg := ⟨t.kd, mkRs t.cs k, mkRs t.rs (kR t.cs k t.cs.length), t.sd, mkRs t.ns (kR t.rs (kR t.cs k t.cs.length) t.rs.length)⟩
def MsAns (w : World) (t : Stg) (k : Nat) (B1 : Option Addr) (n1 e1 : Nat) (B2 : Option Addr) (n2 e2 : Nat) (B3 : Option Addr) (n3 e3 lo hi : Nat) (e : Ending) (w' : World) : Prop :=
  e = .returned (.int .i64 (mS t k : Nat)) ∧ HdSt w' (mT3 t k) B1 n1 e1 B2 n2 e2 B3 n3 e3 ∧ Ch w w' (fun b => lo ≤ b ∧ b < hi)
set_option maxRecDepth 100000 in
set_option maxHeartbeats 2000000 in
theorem markS3_any (t : Stg) (B1 : Option Addr) (n1 e1 : Nat) (B2 : Option Addr) (n2 e2 : Nat) (B3 : Option Addr) (n3 e3 lo hi k : Nat) (w : World) (h : OwnS3 w t (.slice B1 n1 e1) (.slice B2 n2 e2) (.slice B3 n3 e3) lo hi) (hs : StSmall t) (hk : k ≤ 4000000000000000000) :
    Calls Try.prog 76 #[.agg #[.int .i64 t.kd, .slice B1 n1 e1, .slice B2 n2 e2, .int .i64 t.sd, .slice B3 n3 e3], .int .i64 k] w (MsAns w t k B1 n1 e1 B2 n2 e2 B3 n3 e3 lo hi) := by
  obtain ⟨p, q, ⟨b1, h1, d1, f1⟩, ⟨b2, h2, d2, f2⟩, ⟨b3, h3, d3, f3⟩, hle1, hle2, hle3⟩ := h
  have H1 := Lib.hid h1
  have H2 := Lib.hid h2
  have H3 := Lib.hid h3
  have D1 := Lib.hid d1
  have D2 := Lib.hid d2
  have D3 := Lib.hid d3
  have F1 := Lib.hid f1
  have F2 := Lib.hid f2
  have F3 := Lib.hid f3
  have HS := Lib.hid hs
  have k1 := kR_st t.cs k hs.1
  have k2 := kR_st t.rs (kR t.cs k t.cs.length) hs.2.1
  have k3 := kR_st t.ns (kR t.rs (kR t.cs k t.cs.length) t.rs.length) hs.2.2
  have g1 := kR_ge t.cs k t.cs.length
  have g2 := kR_ge t.rs (kR t.cs k t.cs.length) t.rs.length
  have g3 := kR_ge t.ns (kR t.rs (kR t.cs k t.cs.length) t.rs.length) t.ns.length
  obtain ⟨W0, hW0⟩ : ∃ W, W = w.alloc (.cells #[.int .i64 t.kd, .slice B1 n1 e1, .slice B2 n2 e2, .int .i64 t.sd, .slice B3 n3 e3] 57) := ⟨_, rfl⟩
  have X0 : Hid (Bx W0 w.heap.size [.int .i64 t.kd, .slice B1 n1 e1, .slice B2 n2 e2, .int .i64 t.sd, .slice B3 n3 e3]) := by show Bx _ _ _; rw [hW0]; exact Bx.new _ _ _ rfl
  have C0 : Hid (Ch w W0 (fun b => lo ≤ b ∧ b < hi)) := by show Ch _ _ _; rw [hW0]; exact Ch.of_below _ (blAlloc _ _)
  have N0 : Hid (∀ b, b ∈ b1 ∨ b ∈ b2 ∨ b ∈ b3 → b < w.heap.size) := fun b hb => by
    rcases hb with hb | hb | hb
    · exact h1.lt b hb
    · exact h2.lt b hb
    · exact h3.lt b hb
  have I0 : Hid (∀ b, b ∈ b1 ∨ b ∈ b2 ∨ b ∈ b3 → lo ≤ b ∧ b < hi) := fun b hb => by
    rcases hb with hb | hb | hb
    · have := f1 b hb; omega
    · have := f2 b hb; omega
    · have := f3 b hb; omega
  have HW := Lib.hid hW0
  clear h1 h2 h3 d1 d2 d3 f1 f2 f3 hs hW0
  go_enter Try.func76, Try.ntmps76
  go_wp2_with fail
  rw [← HW.out]
  have cb0 := fun {W} (hc : Ch w W (fun b => lo ≤ b ∧ b < hi)) (P : Nat → Prop) => True.intro
  refine (markCurveS_any B1 n1 e1 k t.cs b1 _ (H1.out.bel (by rw [HW.out]; exact blAlloc _ _)) D1.out (fun b hb => (F1.out b hb).2.2.ch (Ch.of_below (fun _ => False) (by rw [HW.out]; exact blAlloc _ _)) (H1.out.lt b hb)) HS.out.1 (by omega)).mono ?_
  rintro e w1 ⟨rfl, hdc, hch⟩
  have E1 := Lib.hid hdc
  have C1 := Lib.hid (C0.out.trans (hch.mono fun b hb => I0.out b (.inl hb)))
  have X1 : Hid (Bx w1 w.heap.size [.int .i64 t.kd, .slice B1 n1 e1, .slice B2 n2 e2, .int .i64 t.sd, .slice B3 n3 e3]) :=
    ⟨Nat.lt_of_lt_of_le X0.out.lt hch.size, fun i => by rw [hch.frozen _ i X0.out.lt]; exact X0.out.th i, fun j v e => by rw [hch.cell X0.out.lt (fun hb => by have := N0.out _ (.inl hb); omega)]; exact X0.out.at_ j v e⟩
  have H21 : Hid (Hd w1 (rowsD t.rs) (.slice B2 n2 e2) b2) := (H2.out.bel (by rw [HW.out]; exact blAlloc _ _)).ch hch (fun b hb hb1 => by have := F1.out b hb1; have := F2.out b hb; omega)
  have H31 : Hid (Hd w1 (rowsD t.ns) (.slice B3 n3 e3) b3) := (H3.out.bel (by rw [HW.out]; exact blAlloc _ _)).ch hch (fun b hb hb1 => by have := F1.out b hb1; have := F3.out b hb; omega)
  have T21 : Hid (∀ b ∈ b2, Thaw w1 b) := fun b hb => (F2.out b hb).2.2.ch C1.out (H2.out.lt b hb)
  have T31 : Hid (∀ b ∈ b3, Thaw w1 b) := fun b hb => (F3.out b hb).2.2.ch C1.out (H3.out.lt b hb)
  have x2 := X1.out.c 2 rfl
  have xl := X1.out.lt
  clear hch HW C0 X0 hdc
  obtain ⟨q1, hq1⟩ : ∃ q, q = kR t.cs k t.cs.length := ⟨_, rfl⟩
  have HQ1 := Lib.hid hq1
  rw [← hq1] at k1 k2 k3 g1 g2 g3 ⊢
  clear hq1
  go_wp2_with fail
  refine (markMatrix_any B2 n2 e2 q1 t.rs b2 _ H21.out D2.out T21.out HS.out.2.1 (by omega)).mono ?_
  rintro e w2 ⟨rfl, hdc, hch⟩
  have E2 := Lib.hid hdc
  have E12 : Hid (Hd w2 (rowsD (mkR t.cs k t.cs.length)) (.slice B1 n1 e1) b1) := E1.out.ch hch (fun b hb hb1 => by have := F2.out b hb1; have := F1.out b hb; omega)
  have C2 := Lib.hid (C1.out.trans (hch.mono fun b hb => I0.out b (.inr (.inl hb))))
  have X2 : Hid (Bx w2 w.heap.size [.int .i64 t.kd, .slice B1 n1 e1, .slice B2 n2 e2, .int .i64 t.sd, .slice B3 n3 e3]) :=
    ⟨Nat.lt_of_lt_of_le X1.out.lt hch.size, fun i => by rw [hch.frozen _ i X1.out.lt]; exact X1.out.th i, fun j v e => by rw [hch.cell X1.out.lt (fun hb => by have := N0.out _ (.inr (.inl hb)); omega)]; exact X1.out.at_ j v e⟩
  have H32 : Hid (Hd w2 (rowsD t.ns) (.slice B3 n3 e3) b3) := H31.out.ch hch (fun b hb hb1 => by have := F2.out b hb1; have := F3.out b hb; omega)
  have T32 : Hid (∀ b ∈ b3, Thaw w2 b) := fun b hb => (F3.out b hb).2.2.ch C2.out (H3.out.lt b hb)
  clear hch x2 xl X1 hdc
  have x3 := X2.out.c 3 rfl
  have x4 := X2.out.c 4 rfl
  have xl := X2.out.lt
  obtain ⟨q2, hq2⟩ : ∃ q, q = kR t.rs q1 t.rs.length := ⟨_, rfl⟩
  have HQ2 := Lib.hid hq2
  rw [← hq2] at k2 k3 g2 g3 ⊢
  clear hq2
  go_wp2_with fail
  refine (markGrid_any B3 n3 e3 q2 t.ns t.sd b3 _ H32.out D3.out T32.out HS.out.2.2 (by omega)).mono ?_
  rintro e w3 ⟨rfl, hdc, hch⟩
  have E3 := Lib.hid hdc
  have E13 : Hid (Hd w3 (rowsD (mkR t.cs k t.cs.length)) (.slice B1 n1 e1) b1) := E12.out.ch hch (fun b hb hb1 => by have := F3.out b hb1; have := F1.out b hb; omega)
  have E23 := Lib.hid (E2.out.ch hch (fun b hb hb1 => by have := F3.out b hb1; have := F2.out b hb; omega))
  have C3 := Lib.hid (C2.out.trans (hch.mono fun b hb => I0.out b (.inr (.inr hb))))
  clear hch x3 x4 xl X2 hdc
  obtain ⟨q3, hq3⟩ : ∃ q, q = kR t.ns q2 t.ns.length := ⟨_, rfl⟩
  have HQ3 := Lib.hid hq3
  rw [← hq3] at k3 g3 ⊢
  clear hq3
  go_wp2_with fail
  go_ret
  refine ⟨by rw [HQ3.out, HQ2.out, HQ1.out]; rfl, ⟨⟨b1, E13.out⟩, ⟨b2, ?_⟩, ⟨b3, ?_⟩⟩, C3.out⟩
  · show Hd w3 (rowsD (mkRs t.rs (kR t.cs k t.cs.length))) _ _
    rw [← HQ1.out]
    exact E23.out
  · show Hd w3 (rowsD (mkRs t.ns (kR t.rs (kR t.cs k t.cs.length) t.rs.length))) _ _
    rw [← HQ1.out, ← HQ2.out]
    exact E3.out
set_option maxRecDepth 100000 in
set_option maxHeartbeats 2000000 in
theorem heldS3_any (t : Stg) (A1 : Option Addr) (n1 c1 : Nat) (A2 : Option Addr) (n2 c2 : Nat) (A3 : Option Addr) (n3 c3 : Nat) (k : Nat) (w : World) (h : HdSt w (mT3 t k) A1 n1 c1 A2 n2 c2 A3 n3 c3) (hs : StSmall t) (hk : k ≤ 4000000000000000000) :
    Calls Try.prog 77 #[.agg #[.int .i64 t.kd, .slice A1 n1 c1, .slice A2 n2 c2, .int .i64 t.sd, .slice A3 n3 c3], .int .i64 k] w fun e w' => e = .returned (.int .i64 (mS t k : Nat)) ∧ Below w.heap.size w w' := by
  obtain ⟨W0, hW0⟩ : ∃ W, W = w.alloc (.cells #[.int .i64 t.kd, .slice A1 n1 c1, .slice A2 n2 c2, .int .i64 t.sd, .slice A3 n3 c3] 57) := ⟨_, rfl⟩
  have X0 : Hid (Bx W0 w.heap.size [.int .i64 t.kd, .slice A1 n1 c1, .slice A2 n2 c2, .int .i64 t.sd, .slice A3 n3 c3]) := by show Bx _ _ _; rw [hW0]; exact Bx.new _ _ _ rfl
  have T0 : Hid (Below w.heap.size w W0) := by show Below _ _ _; rw [hW0]; exact blAlloc _ _
  have k1 := kR_st t.cs k hs.1
  have k2 := kR_st t.rs (kR t.cs k t.cs.length) hs.2.1
  have k3 := kR_st t.ns (kR t.rs (kR t.cs k t.cs.length) t.rs.length) hs.2.2
  obtain ⟨⟨ba, xa⟩, ⟨bb, xb⟩, ⟨bd, xd⟩⟩ := h
  have XA := Lib.hid (heldCurveS_any A1 n1 c1 k t.cs ba W0 (xa.bel T0.out) hs.1 (by omega))
  have CB : Hid (∀ W, Below W0.heap.size W0 W → Calls Try.prog 132 #[.agg #[.slice A2 n2 c2], .int .i64 (kR t.cs k t.cs.length : Nat)] W fun e w' => e = .returned (.int .i64 (kR t.rs (kR t.cs k t.cs.length) t.rs.length : Nat)) ∧ Below W.heap.size W w') := fun W hW => heldMatrix_any A2 n2 c2 _ t.rs bb W ((xb.bel T0.out).bel hW) hs.2.1 (by omega)
  have CD : Hid (∀ W, Below W0.heap.size W0 W → Calls Try.prog 133 #[.agg #[.int .i64 t.sd, .slice A3 n3 c3], .int .i64 (kR t.rs (kR t.cs k t.cs.length) t.rs.length : Nat)] W fun e w' => e = .returned (.int .i64 (mS t k : Nat)) ∧ Below W.heap.size W w') := fun W hW => heldGrid_any A3 n3 c3 _ t.ns t.sd bd W ((xd.bel T0.out).bel hW) hs.2.2 (by omega)
  obtain ⟨q3, hq3⟩ : ∃ q, q = mS t k := ⟨_, rfl⟩
  rw [← hq3] at CD ⊢
  generalize kR t.rs (kR t.cs k t.cs.length) t.rs.length = q2 at *
  generalize kR t.cs k t.cs.length = q1 at *
  have p1 : ¬ (q1 : Int) < 0 := by omega
  have p2 : ¬ (q2 : Int) < 0 := by omega
  have p3 : ¬ (q3 : Int) < 0 := by omega
  have HW := Lib.hid hW0
  clear xa xb xd hs hW0 hq3 k1 k2 k3
  go_enter Try.func77, Try.ntmps77
  go_wp2_with fail
  rw [← HW.out]
  clear HW
  refine XA.out.mono ?_
  rintro e w1 ⟨rfl, rfl⟩
  have x2 := X0.out.c 2 rfl
  have x3 := X0.out.c 3 rfl
  have x4 := X0.out.c 4 rfl
  have xl := X0.out.lt
  go_wp2_with fail
  refine (CB.out _ (Below.refl _ _)).mono ?_
  rintro e w2 ⟨rfl, hb⟩
  have T2 := Lib.hid hb
  have X2 := Lib.hid (X0.out.bel hb)
  clear hb x2 x3 x4 xl
  have x3 := X2.out.c 3 rfl
  have x4 := X2.out.c 4 rfl
  have xl := X2.out.lt
  go_wp2_with fail
  refine (CD.out _ T2.out).mono ?_
  rintro e w3 ⟨rfl, hb⟩
  have T3 := Lib.hid (blThen T2.out hb)
  clear hb x3 x4 xl
  go_wp2_with fail
  go_ret
  exact ⟨rfl, blThen T0.out T3.out⟩
set_option maxHeartbeats 1000000 in
theorem eqStageResult_same (co : Int) (t : Stg) (A1 : Option Addr) (n1 c1 : Nat) (A2 : Option Addr) (n2 c2 : Nat) (A3 : Option Addr) (n3 c3 : Nat) (B1 : Option Addr) (m1 d1 : Nat) (B2 : Option Addr) (m2 d2 : Nat) (B3 : Option Addr) (m3 d3 : Nat) (w : World) (h : HdSt w t A1 n1 c1 A2 n2 c2 A3 n3 c3) (h' : HdSt w t B1 m1 d1 B2 m2 d2 B3 m3 d3) (hs : StSmall t) :
    Calls Try.prog 32 #[.agg #[.int .i64 co, .int .i64 t.kd, .slice A1 n1 c1, .slice A2 n2 c2, .int .i64 t.sd, .slice A3 n3 c3], .agg #[.int .i64 co, .int .i64 t.kd, .slice B1 m1 d1, .slice B2 m2 d2, .int .i64 t.sd, .slice B3 m3 d3]] w fun e w' => e = .returned (.bool true) ∧ Below w.heap.size w w' := by
  have H := Lib.hid h
  have H' := Lib.hid h'
  have HS := Lib.hid hs
  clear h h' hs
  go_enter Try.func32, Try.ntmps32
  go_wp2_with fail
  refine (eqStage_same t A1 n1 c1 A2 n2 c2 A3 n3 c3 B1 m1 d1 B2 m2 d2 B3 m3 d3 _ ((H.out.alloc _).alloc _) ((H'.out.alloc _).alloc _) HS.out).mono ?_
  rintro e w1 ⟨rfl, hb⟩
  have T := Lib.hid (blThen (blThenAlloc (blAlloc w _) _) hb)
  clear hb
  go_wp2_with fail
  go_ret
  exact ⟨rfl, T.out⟩
set_option maxHeartbeats 1000000 in
theorem markStageResult_any (co : Int) (t : Stg) (B1 : Option Addr) (n1 e1 : Nat) (B2 : Option Addr) (n2 e2 : Nat) (B3 : Option Addr) (n3 e3 lo hi k : Nat) (w : World) (h : OwnS3 w t (.slice B1 n1 e1) (.slice B2 n2 e2) (.slice B3 n3 e3) lo hi) (hs : StSmall t) (hk : k ≤ 4000000000000000000) :
    Calls Try.prog 33 #[.agg #[.int .i64 co, .int .i64 t.kd, .slice B1 n1 e1, .slice B2 n2 e2, .int .i64 t.sd, .slice B3 n3 e3], .int .i64 k] w (MsAns w t k B1 n1 e1 B2 n2 e2 B3 n3 e3 lo hi) := by
  have H := Lib.hid h
  have HS := Lib.hid hs
  clear h hs
  go_enter Try.func33, Try.ntmps33
  go_wp2_with fail
  refine (markS3_any t B1 n1 e1 B2 n2 e2 B3 n3 e3 lo hi k _ (H.out.below (blAlloc _ _)) HS.out hk).mono ?_
  rintro e w1 ⟨rfl, hd, hch⟩
  have HD := Lib.hid hd
  have HCH := Lib.hid ((Ch.of_below (fun b => lo ≤ b ∧ b < hi) (blAlloc w (.cells #[.int .i64 co, .int .i64 t.kd, .slice B1 n1 e1, .slice B2 n2 e2, .int .i64 t.sd, .slice B3 n3 e3] 66))).trans hch)
  clear hd hch
  go_wp2_with fail
  go_ret
  exact ⟨rfl, HD.out, HCH.out⟩
set_option maxHeartbeats 1000000 in
theorem heldStageResult_any (co : Int) (t : Stg) (A1 : Option Addr) (n1 c1 : Nat) (A2 : Option Addr) (n2 c2 : Nat) (A3 : Option Addr) (n3 c3 : Nat) (k : Nat) (w : World) (h : HdSt w (mT3 t k) A1 n1 c1 A2 n2 c2 A3 n3 c3) (hs : StSmall t) (hk : k ≤ 4000000000000000000) :
    Calls Try.prog 34 #[.agg #[.int .i64 co, .int .i64 t.kd, .slice A1 n1 c1, .slice A2 n2 c2, .int .i64 t.sd, .slice A3 n3 c3], .int .i64 k] w fun e w' => e = .returned (.int .i64 (mS t k : Nat)) ∧ Below w.heap.size w w' := by
  have H := Lib.hid h
  have HS := Lib.hid hs
  obtain ⟨q, hq⟩ : ∃ q, q = mS t k := ⟨_, rfl⟩
  have hkn : ¬ (q : Int) < 0 := by omega
  have CC : Hid (∀ W, Below w.heap.size w W → Calls Try.prog 77 #[.agg #[.int .i64 t.kd, .slice A1 n1 c1, .slice A2 n2 c2, .int .i64 t.sd, .slice A3 n3 c3], .int .i64 k] W fun e w' => e = .returned (.int .i64 (q : Nat)) ∧ Below W.heap.size W w') := fun W hW => by rw [hq]; exact heldS3_any t A1 n1 c1 A2 n2 c2 A3 n3 c3 k W (H.out.bel hW) HS.out hk
  rw [← hq]
  clear h hs hq
  go_enter Try.func34, Try.ntmps34
  go_wp2_with fail
  refine (CC.out _ (blAlloc _ _)).mono ?_
  rintro e w1 ⟨rfl, hb⟩
  have T := Lib.hid (blThen (blAlloc w _) hb)
  clear hb
  go_wp2_with fail
  go_ret
  exact ⟨rfl, T.out⟩
end Go.Proofs.Ytdjifaaofefpoaa
