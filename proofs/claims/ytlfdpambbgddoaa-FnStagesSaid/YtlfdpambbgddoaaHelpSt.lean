/-
  Stages and chains: their data (Stg, chD); the laws' helpers over lists of curves, stages, lists of stages and chains: eq, sz, to.
  Stages and chains as the frame hands them, as data in known blocks.
-/
import Derived.Test.YtlfdpambbgddoaaHelpA
import Derived.Test.YtlfdpambbgddoaaBaseA
import Derived.Test.YtlfdpambbgddoaaOpenB
namespace Go.Proofs.Ytlfdpambbgddoaa
open Go.RowKit
set_option linter.unusedVariables false
set_option linter.unusedSimpArgs false

/-! ### curves in a list: they lie as rows do -/
theorem info_curve : (Try.prog.info? 71).map (fun i => (i.zero, i.size, i.bytes)) = some (some (.agg #[.slice none 0 0]), 1, 24) := by kernel_rfl

set_option maxHeartbeats 1000000 in
theorem eqCurveS_same (A A' : Option Addr) (n n' c c' : Nat) (rs : Rws) (bs bs' : List Nat) (w : World) (h : Hd w (rowsD rs) (.slice A n c) bs) (h' : Hd w (rowsD rs) (.slice A' n' c') bs')
    (hs : RsSmall rs) :
    Calls Try.prog 135 #[.slice A n c, .slice A' n' c'] w fun e w' => e = .returned (.bool true) ∧ Below w.heap.size w w' := by
  obtain rfl : n = n' := h.rows.1.symm.trans h'.rows.1
  have hn : n ≤ 1048576 := by have := hs.1; rw [h.rows.1] at this; exact this
  have HL := Lib.hid h.rows.1
  have HH := Lib.hid h
  have HH' := Lib.hid h'
  have HS := Lib.hid hs
  clear h h' hs
  go_enter Try.func135, Try.ntmps135
  go_wp2
  go_loopw [5] (fun i wr => ∃ k : Nat, k ≤ n ∧ i = .int .i64 k ∧ Below w.heap.size w wr) (fun i _ => n - (intOf i).toNat)
  case atStart => exact ⟨0, by omega, rfl, Below.refl _ _⟩
  case round =>
    obtain ⟨k, hk, rfl, hb⟩ := hrel
    by_cases hlt : k < n
    · obtain ⟨b, o, B1, L1, C1, g1, rfl, x1, x3, -⟩ := (HH.out.bel hb).row hlt
      obtain ⟨b', o', B2, L2, C2, g2, rfl, y1, y3, -⟩ := (HH'.out.bel hb).row hlt
      have r1 := x3.rd
      have r2 := y3.rd
      obtain rfl := r1.len_eq r2
      have r3 : L1 ≤ 1000000000000 := by have := HS.out.2 k (by rw [HL.out]; exact hlt); rw [r1.1] at this; omega
      have E0 : EqI w wr B1 B2 L1 (rw_ rs k) := ⟨r1, r2, hb⟩
      clear x3 y3 r1 r2 hb
      go_wp2_with fail
      go_region_held3 (fun w' => w'.cell? ⟨b, o + k, none⟩ = some (.slice B1 L1 C1) ∧ w'.cell? ⟨b', o' + k, none⟩ = some (.slice B2 L1 C2) ∧ EqI w w' B1 B2 L1 (rw_ rs k)) (first | (go_split_ands; exact ⟨cell_later hb (by assumption), cell_later hb (by assumption), EqI.below (by assumption) hb⟩) | exact ⟨x1, y1, E0.below (Below.refl _ _).drew⟩) (first | (go_at_call 158; go_split_ands; refine (eqCurve_same _ _ _ _ _ _ (rw_ rs k) _ (EqI.a (by assumption)) (EqI.b (by assumption)) r3).mono ?_; rintro e w' ⟨rfl, hb⟩))
      go_split_ands
      rename EqI w _ _ _ _ _ => hE
      have HB := Lib.hid hE.c
      clear hE x1 y1 E0
      go_wp2_with fail
      go_roundw
      case rel => exact ⟨k + 1, by omega, by go_num, HB.out⟩
      case measure => simp [intOf]; omega
    · go_wp2
      go_ret
      exact ⟨rfl, hb⟩

set_option maxHeartbeats 1000000 in
theorem szCurveS_any (A : Option Addr) (n c : Nat) (rs : Rws) (bs : List Nat) (l : Int) (w : World) (h : Hd w (rowsD rs) (.slice A n c) bs) (h0 : 0 ≤ l) (h1 : l ≤ 1048576) :
    Calls Try.prog 123 #[.slice A n c, .int .i64 l] w (Left w (RsSmall rs) l) := by
  obtain ⟨hl, hc, hm, -⟩ := h.rows
  have hm' := hm
  unfold maxLen at hm'
  have HL := Lib.hid hl
  have H := Lib.hid h
  clear h hl hm
  by_cases hbig : l < n
  · go_enter Try.func123, Try.ntmps123
    go_wp2
    go_ret
    exact ⟨-1, rfl, by omega, by omega, by omega, Below.refl _ _⟩
  go_enter Try.func123, Try.ntmps123
  go_wp2
  go_loopw [1, 5] (fun q i wr => ∃ (k : Nat) (r : Int), k ≤ n ∧ i = .int .i64 k ∧ q = .int .i64 r ∧ 0 ≤ r ∧ r ≤ l ∧ (∀ i, i < k → (rw_ rs i).length ≤ 1048576) ∧ Below w.heap.size w wr) (fun _ i _ => n - (intOf i).toNat)
  case atStart => exact ⟨0, _, by omega, rfl, rfl, by omega, by omega, fun i hi => absurd hi (by omega), Below.refl _ _⟩
  case round =>
    obtain ⟨k, r, hk, rfl, rfl, hr0, hr1, hsm, hb⟩ := hrel
    by_cases hlt : k < n
    · obtain ⟨b, o, B1, L1, C1, g1, rfl, x1, x3, -⟩ := (H.out.bel hb).row hlt
      have r1 := Lib.hid x3.rd.1
      have r2 : L1 ≤ maxLen := Nat.le_trans x3.caps.1 x3.caps.2
      have HB := Lib.hid hb
      have HSM := Lib.hid hsm
      clear hb x3 hsm
      go_wp2_with fail
      refine (szCurve_any _ _ _ r _ r2 hr0 (by omega)).mono ?_
      rintro e w1 ⟨r', rfl, h2, h3, h4, hb1⟩
      have T := Lib.hid (blThen HB.out hb1)
      clear hb1 HB x1
      by_cases hr : r' < 0
      · clear h4
        go_wp2_with fail
        go_ret
        exact ⟨-1, rfl, by omega, by omega, by omega, T.out⟩
      · have h5 := Lib.hid (h4 (by omega))
        clear h4
        go_wp2_with fail
        go_roundw
        case rel =>
          refine ⟨k + 1, r', by omega, by go_num, rfl, by omega, by omega, fun i hi => ?_, T.out⟩
          by_cases e : i = k
          · subst e; rw [r1.out]; exact h5.out
          · exact HSM.out i (by omega)
        case measure => simp [intOf]; omega
    · have HSM := Lib.hid hsm
      have HB := Lib.hid hb
      clear hsm hb
      go_wp2
      go_ret
      exact ⟨r, rfl, by omega, by omega, fun _ => ⟨by rw [HL.out]; omega, fun i hi => HSM.out i (by rw [HL.out] at hi; omega)⟩, HB.out⟩

set_option maxHeartbeats 1000000 in
theorem toCurveS_any (A : Option Addr) (n c : Nat) (rs : Rws) (bs : List Nat) (w : World) (h : Hd w (rowsD rs) (.slice A n c) bs) (hs : RsSmall rs) :
    Calls Try.prog 130 #[.slice A n c] w fun e w' => ∃ B, e = .returned (.slice B n n) ∧ Own w' (rowsD rs) (.slice B n n) w.heap.size w'.heap.size ∧ Below w.heap.size w w' := by
  have hl := h.rows.1
  have hn : n ≤ 1048576 := by have := hs.1; omega
  have hmk := run_make_many (P := Try.prog) 60 71 (.agg #[.slice none 0 0]) 1 24 Try.underlying60 info_curve .i64 .i64 n (by omega) (by omega)
  have HL := Lib.hid hl
  have H := Lib.hid h
  have HS := Lib.hid hs
  clear h hs hl
  go_enter Try.func130, Try.ntmps130
  go_wp2_with fail
  clear hmk
  go_loopw [4] (fun i wr => ∃ k : Nat, k ≤ n ∧ i = .int .i64 k ∧ Own wr (.sl 1 (partR rs k)) (.slice (some ⟨w.heap.size, 0, none⟩) n n) w.heap.size wr.heap.size ∧ Below w.heap.size w wr ∧ w.heap.size < wr.heap.size) (fun i _ => n - (intOf i).toNat)
  case atStart =>
    refine ⟨0, by omega, rfl, ?_, blAlloc _ _, by simp⟩
    rw [partR_zero, HL.out]
    refine Own.mono (lo := w.heap.size) (hi := w.heap.size + 1) ?_ (Nat.le_refl _) (by simp)
    have q := Own.made w #[.slice none 0 0] [.ints .i64 []] n 71 (by decide) zero_row (by unfold maxLen; omega)
    simpa using q
  case round =>
    obtain ⟨k, hk, rfl, ho, hb, hz⟩ := hrel
    by_cases hlt : k < n
    · obtain ⟨b, o, B1, L1, C1, g1, rfl, x1, x3, -⟩ := (H.out.bel hb).row hlt
      have r1 := Lib.hid x3.rd
      have r3 : L1 ≤ 1000000000000 := by have := HS.out.2 k (by rw [HL.out]; exact hlt); rw [x3.rd.1] at this; omega
      have HO := Lib.hid ho
      have HB := Lib.hid hb
      clear ho hb x3
      go_wp2_with fail
      refine (toCurve_any _ _ _ (rw_ rs k) _ r1.out r3).mono ?_
      rintro e w1 ⟨B, rfl, ho1, hb1⟩
      have hw := hb1.size
      obtain ⟨y0, c0, f0, hlo, hhi⟩ := (HO.out.below hb1).slot hlt (by omega : 0 < 1)
      rw [Nat.mul_one, Nat.zero_add, Nat.add_zero] at c0 f0
      have HN := Lib.hid (partR_step HL.out hlt (HO.out.below hb1) ho1 (by omega) hw)
      have T := Lib.hid (blThen HB.out hb1)
      clear ho1 hb1 HO HB x1 r1
      go_wp2_with fail
      go_roundw
      case rel =>
        refine ⟨k + 1, by omega, by go_num, ?_, T.out.setCell (Nat.le_refl _) _, by simp [World.setCell]; omega⟩
        have := HN.out
        rw [Nat.zero_add] at this
        exact this.mono (Nat.le_refl _) (by simp [World.setCell])
      case measure => simp [intOf]; omega
    · obtain rfl : k = n := by omega
      have HO := Lib.hid ho
      have HB := Lib.hid hb
      clear ho hb
      go_wp2
      go_ret
      refine ⟨_, rfl, ?_, HB.out⟩
      have := HO.out
      rw [← HL.out, partR_all] at this
      rw [← HL.out]
      exact this

/-! ### stages -/
structure Stg where
  kd : Int
  cs : Rws
  rs : Rws
  sd : Int
  ns : Rws
def stZ : Stg := ⟨0, [], [], 0, []⟩
def stD (t : Stg) : List Dat := [.int .i64 t.kd, rowsD t.cs, rowsD t.rs, .int .i64 t.sd, rowsD t.ns]
def st_ (ts : List Stg) (i : Nat) : Stg := ts.getD i stZ
def chD (ts : List Stg) : Dat := .sl 5 (ts.map stD)
theorem st_el {ts : List Stg} {i : Nat} (h : i < ts.length) : (ts.map stD).getD i [] = stD (st_ ts i) := by simp [st_, List.getD, h]
theorem Hd.sl_form {w : World} {m : Nat} {els : List (List Dat)} {v : Value} {bs : List Nat} (h : Hd w (.sl m els) v bs) : ∃ A n c, v = .slice A n c := by
  cases h with
  | sl0 _ A c _ => exact ⟨A, 0, c, rfl⟩
  | sl _ b o n c _ _ _ _ _ _ _ _ _ _ => exact ⟨_, n, c, rfl⟩
/-- what a stage's lists lead to. -/
structure HdSt (w : World) (t : Stg) (A1 : Option Addr) (n1 c1 : Nat) (A2 : Option Addr) (n2 c2 : Nat) (A3 : Option Addr) (n3 c3 : Nat) : Prop where
  a : ∃ bs, Hd w (rowsD t.cs) (.slice A1 n1 c1) bs
  b : ∃ bs, Hd w (rowsD t.rs) (.slice A2 n2 c2) bs
  d : ∃ bs, Hd w (rowsD t.ns) (.slice A3 n3 c3) bs
section
variable {w w' : World} {t : Stg} {A1 : Option Addr} {n1 c1 : Nat} {A2 : Option Addr} {n2 c2 : Nat} {A3 : Option Addr} {n3 c3 : Nat}
theorem HdSt.bel (h : HdSt w t A1 n1 c1 A2 n2 c2 A3 n3 c3) (hb : Below w.heap.size w w') : HdSt w' t A1 n1 c1 A2 n2 c2 A3 n3 c3 :=
  ⟨⟨_, h.a.choose_spec.bel hb⟩, ⟨_, h.b.choose_spec.bel hb⟩, ⟨_, h.d.choose_spec.bel hb⟩⟩
theorem HdSt.alloc (h : HdSt w t A1 n1 c1 A2 n2 c2 A3 n3 c3) (o : Obj) : HdSt (w.alloc o) t A1 n1 c1 A2 n2 c2 A3 n3 c3 := h.bel (blAlloc _ _)
end
/-- the k-th stage of a list. -/
theorem Hd.stg {w : World} {ts : List Stg} {A : Option Addr} {n c : Nat} {bs : List Nat} (h : Hd w (chD ts) (.slice A n c) bs) {k : Nat} (hk : k < n) :
    ∃ b o A1 n1 c1 A2 n2 c2 A3 n3 c3, A = some ⟨b, o, none⟩ ∧ w.cell? ⟨b, o + k * 5, none⟩ = some (.int .i64 (st_ ts k).kd) ∧ w.cell? ⟨b, o + k * 5 + 1, none⟩ = some (.slice A1 n1 c1) ∧ w.cell? ⟨b, o + k * 5 + 2, none⟩ = some (.slice A2 n2 c2) ∧
      w.cell? ⟨b, o + k * 5 + 3, none⟩ = some (.int .i64 (st_ ts k).sd) ∧ w.cell? ⟨b, o + k * 5 + 4, none⟩ = some (.slice A3 n3 c3) ∧ HdSt w (st_ ts k) A1 n1 c1 A2 n2 c2 A3 n3 c3 := by
  obtain ⟨hl, _, _, hf⟩ := h.sl_inv
  rw [List.length_map] at hl
  obtain ⟨b, o, V, G, rfl, _, hr, hh, _⟩ := hf (by omega)
  have e : ∀ j, j < 5 → Hd w ((stD (st_ ts k)).getD j default) (V k j) (G k j) := fun j hj => by
    have := hh k hk j hj
    rwa [st_el (by omega)] at this
  obtain ⟨A1, n1, c1, e1⟩ := Hd.sl_form (e 1 (by omega))
  obtain ⟨A2, n2, c2, e2⟩ := Hd.sl_form (e 2 (by omega))
  obtain ⟨A3, n3, c3, e3⟩ := Hd.sl_form (e 4 (by omega))
  have e0 : V k 0 = .int .i64 (st_ ts k).kd := Hd.int_inv (e 0 (by omega))
  have e4 : V k 3 = .int .i64 (st_ ts k).sd := Hd.int_inv (e 3 (by omega))
  refine ⟨b, o, A1, n1, c1, A2, n2, c2, A3, n3, c3, rfl, ?_, ?_, ?_, ?_, ?_, ⟨⟨_, e1 ▸ e 1 (by omega)⟩, ⟨_, e2 ▸ e 2 (by omega)⟩, ⟨_, e3 ▸ e 4 (by omega)⟩⟩⟩
  · rw [← e0]; exact hr k hk 0 (by omega)
  · rw [← e1]; exact hr k hk 1 (by omega)
  · rw [← e2]; exact hr k hk 2 (by omega)
  · rw [← e4]; exact hr k hk 3 (by omega)
  · rw [← e3]; exact hr k hk 4 (by omega)
theorem Hd.stgs {w : World} {ts : List Stg} {A : Option Addr} {n c : Nat} {bs : List Nat} (h : Hd w (chD ts) (.slice A n c) bs) : ts.length = n ∧ n ≤ c ∧ c ≤ maxLen := by
  obtain ⟨hl, hc, hm, _⟩ := h.sl_inv
  rw [List.length_map] at hl
  exact ⟨hl, hc, hm⟩
def StSmall (t : Stg) : Prop := RsSmall t.cs ∧ RsSmall t.rs ∧ RsSmall t.ns
def ChSmall (ts : List Stg) : Prop := ts.length ≤ 1048576 ∧ ∀ i, i < ts.length → StSmall (st_ ts i)

/-! ### eq -/
set_option maxHeartbeats 1000000 in
theorem eqStage_same (t : Stg) (A1 : Option Addr) (n1 c1 : Nat) (A2 : Option Addr) (n2 c2 : Nat) (A3 : Option Addr) (n3 c3 : Nat) (B1 : Option Addr) (m1 d1 : Nat) (B2 : Option Addr) (m2 d2 : Nat) (B3 : Option Addr) (m3 d3 : Nat) (w : World) (h : HdSt w t A1 n1 c1 A2 n2 c2 A3 n3 c3) (h' : HdSt w t B1 m1 d1 B2 m2 d2 B3 m3 d3) (hs : StSmall t) :
    Calls Try.prog 95 #[.agg #[.int .i64 t.kd, .slice A1 n1 c1, .slice A2 n2 c2, .int .i64 t.sd, .slice A3 n3 c3], .agg #[.int .i64 t.kd, .slice B1 m1 d1, .slice B2 m2 d2, .int .i64 t.sd, .slice B3 m3 d3]] w fun e w' => e = .returned (.bool true) ∧ Below w.heap.size w w' := by
  have H := Lib.hid ((h.alloc (.cells #[.int .i64 t.kd, .slice A1 n1 c1, .slice A2 n2 c2, .int .i64 t.sd, .slice A3 n3 c3] 64)).alloc (.cells #[.int .i64 t.kd, .slice B1 m1 d1, .slice B2 m2 d2, .int .i64 t.sd, .slice B3 m3 d3] 64))
  have H' := Lib.hid ((h'.alloc (.cells #[.int .i64 t.kd, .slice A1 n1 c1, .slice A2 n2 c2, .int .i64 t.sd, .slice A3 n3 c3] 64)).alloc (.cells #[.int .i64 t.kd, .slice B1 m1 d1, .slice B2 m2 d2, .int .i64 t.sd, .slice B3 m3 d3] 64))
  have HS := Lib.hid hs
  clear h h' hs
  go_enter Try.func95, Try.ntmps95
  go_wp2_with fail
  refine (eqCurveS_same _ _ _ _ _ _ t.cs _ _ _ H.out.a.choose_spec H'.out.a.choose_spec HS.out.1).mono ?_
  rintro e w1 ⟨rfl, hb⟩
  have hz1 : w.heap.size + 1 < w1.heap.size := by have := hb.size; simp at this; omega
  have x02 : w1.cell? ⟨w.heap.size, 2, none⟩ = some (.slice A2 n2 c2) := cell_later hb (cell_later (blAlloc _ _) (by simp))
  have x03 : w1.cell? ⟨w.heap.size, 3, none⟩ = some (.int .i64 t.sd) := cell_later hb (cell_later (blAlloc _ _) (by simp))
  have x04 : w1.cell? ⟨w.heap.size, 4, none⟩ = some (.slice A3 n3 c3) := cell_later hb (cell_later (blAlloc _ _) (by simp))
  have x12 : w1.cell? ⟨w.heap.size + 1, 2, none⟩ = some (.slice B2 m2 d2) := cell_later hb ((Bx.new _ _ _ (by simp)).c 2 rfl)
  have x13 : w1.cell? ⟨w.heap.size + 1, 3, none⟩ = some (.int .i64 t.sd) := cell_later hb ((Bx.new _ _ _ (by simp)).c 3 rfl)
  have x14 : w1.cell? ⟨w.heap.size + 1, 4, none⟩ = some (.slice B3 m3 d3) := cell_later hb ((Bx.new _ _ _ (by simp)).c 4 rfl)
  have T := Lib.hid (blThen (blThenAlloc (blAlloc w _) _) hb)
  have I := Lib.hid (H.out.bel hb)
  have I' := Lib.hid (H'.out.bel hb)
  clear hb H H'
  go_wp2_with fail
  refine (eqMatrix_same _ _ _ _ _ _ t.rs _ _ _ I.out.b.choose_spec I'.out.b.choose_spec HS.out.2.1).mono ?_
  rintro e w2 ⟨rfl, hb⟩
  have hz2 : w.heap.size + 1 < w2.heap.size := by have := hb.size; omega
  have y03 : w2.cell? ⟨w.heap.size, 3, none⟩ = some (.int .i64 t.sd) := cell_later hb x03
  have y04 : w2.cell? ⟨w.heap.size, 4, none⟩ = some (.slice A3 n3 c3) := cell_later hb x04
  have y13 : w2.cell? ⟨w.heap.size + 1, 3, none⟩ = some (.int .i64 t.sd) := cell_later hb x13
  have y14 : w2.cell? ⟨w.heap.size + 1, 4, none⟩ = some (.slice B3 m3 d3) := cell_later hb x14
  have T2 := Lib.hid (blThen T.out hb)
  have J := Lib.hid (I.out.bel hb)
  have J' := Lib.hid (I'.out.bel hb)
  clear hb I I' T x02 x03 x04 x12 x13 x14
  go_wp2_with fail
  refine (eqGrid_same _ _ _ _ _ _ t.ns t.sd _ _ _ J.out.d.choose_spec J'.out.d.choose_spec HS.out.2.2).mono ?_
  rintro e w3 ⟨rfl, hb⟩
  have T3 := Lib.hid (blThen T2.out hb)
  clear hb J J' T2
  go_wp2_with fail
  go_ret
  exact ⟨rfl, T3.out⟩
structure EqSt (w w' : World) (t : Stg) (A1 : Option Addr) (n1 c1 : Nat) (A2 : Option Addr) (n2 c2 : Nat) (A3 : Option Addr) (n3 c3 : Nat) (B1 : Option Addr) (m1 d1 : Nat) (B2 : Option Addr) (m2 d2 : Nat) (B3 : Option Addr) (m3 d3 : Nat) : Prop where
  a : HdSt w' t A1 n1 c1 A2 n2 c2 A3 n3 c3
  b : HdSt w' t B1 m1 d1 B2 m2 d2 B3 m3 d3
  c : Below w.heap.size w w'
theorem EqSt.below {w w1 w' : World} {t : Stg} {A1 : Option Addr} {n1 c1 : Nat} {A2 : Option Addr} {n2 c2 : Nat} {A3 : Option Addr} {n3 c3 : Nat} {B1 : Option Addr} {m1 d1 : Nat} {B2 : Option Addr} {m2 d2 : Nat} {B3 : Option Addr} {m3 d3 : Nat}
    (h : EqSt w w1 t A1 n1 c1 A2 n2 c2 A3 n3 c3 B1 m1 d1 B2 m2 d2 B3 m3 d3) (hb : Below w1.heap.size w1 w') : EqSt w w' t A1 n1 c1 A2 n2 c2 A3 n3 c3 B1 m1 d1 B2 m2 d2 B3 m3 d3 :=
  ⟨h.a.bel hb, h.b.bel hb, blThen h.c hb⟩

set_option maxHeartbeats 2000000 in
theorem eqStageS_same (A A' : Option Addr) (n n' c c' : Nat) (ts : List Stg) (bs bs' : List Nat) (w : World) (h : Hd w (chD ts) (.slice A n c) bs) (h' : Hd w (chD ts) (.slice A' n' c') bs')
    (hs : ChSmall ts) :
    Calls Try.prog 53 #[.slice A n c, .slice A' n' c'] w fun e w' => e = .returned (.bool true) ∧ Below w.heap.size w w' := by
  obtain rfl : n = n' := h.stgs.1.symm.trans h'.stgs.1
  have hn : n ≤ 1048576 := by have := hs.1; rw [h.stgs.1] at this; exact this
  have HL := Lib.hid h.stgs.1
  have HH := Lib.hid h
  have HH' := Lib.hid h'
  have HS := Lib.hid hs
  clear h h' hs
  go_enter Try.func53, Try.ntmps53
  go_wp2
  go_loopw [5] (fun i wr => ∃ k : Nat, k ≤ n ∧ i = .int .i64 k ∧ Below w.heap.size w wr) (fun i _ => n - (intOf i).toNat)
  case atStart => exact ⟨0, by omega, rfl, Below.refl _ _⟩
  case round =>
    obtain ⟨k, hk, rfl, hb⟩ := hrel
    by_cases hlt : k < n
    · obtain ⟨b, o, A1, n1, c1, A2, n2, c2, A3, n3, c3, rfl, x0, x1, x2, x3, x4, xs⟩ := (HH.out.bel hb).stg hlt
      obtain ⟨b', o', B1, m1, d1, B2, m2, d2, B3, m3, d3, rfl, y0, y1, y2, y3, y4, ys⟩ := (HH'.out.bel hb).stg hlt
      have hsm := Lib.hid (HS.out.2 k (by rw [HL.out]; exact hlt))
      have E0 : EqSt w wr (st_ ts k) A1 n1 c1 A2 n2 c2 A3 n3 c3 B1 m1 d1 B2 m2 d2 B3 m3 d3 := ⟨xs, ys, hb⟩
      clear xs ys hb
      go_wp2_with fail
      go_region_held3 (fun w' => w'.cell? ⟨b, o + k * 5, none⟩ = some (.int .i64 (st_ ts k).kd) ∧ w'.cell? ⟨b, o + k * 5 + 1, none⟩ = some (.slice A1 n1 c1) ∧ w'.cell? ⟨b, o + k * 5 + 2, none⟩ = some (.slice A2 n2 c2) ∧ w'.cell? ⟨b, o + k * 5 + 3, none⟩ = some (.int .i64 (st_ ts k).sd) ∧ w'.cell? ⟨b, o + k * 5 + 4, none⟩ = some (.slice A3 n3 c3) ∧ w'.cell? ⟨b', o' + k * 5, none⟩ = some (.int .i64 (st_ ts k).kd) ∧ w'.cell? ⟨b', o' + k * 5 + 1, none⟩ = some (.slice B1 m1 d1) ∧ w'.cell? ⟨b', o' + k * 5 + 2, none⟩ = some (.slice B2 m2 d2) ∧ w'.cell? ⟨b', o' + k * 5 + 3, none⟩ = some (.int .i64 (st_ ts k).sd) ∧ w'.cell? ⟨b', o' + k * 5 + 4, none⟩ = some (.slice B3 m3 d3) ∧ EqSt w w' (st_ ts k) A1 n1 c1 A2 n2 c2 A3 n3 c3 B1 m1 d1 B2 m2 d2 B3 m3 d3) (first | (go_split_ands; exact ⟨cell_later hb (by assumption), cell_later hb (by assumption), cell_later hb (by assumption), cell_later hb (by assumption), cell_later hb (by assumption), cell_later hb (by assumption), cell_later hb (by assumption), cell_later hb (by assumption), cell_later hb (by assumption), cell_later hb (by assumption), EqSt.below (by assumption) hb⟩) | exact ⟨x0, x1, x2, x3, x4, y0, y1, y2, y3, y4, E0.below (Below.refl _ _).drew⟩) (first | (go_at_call 95; go_split_ands; refine (eqStage_same _ _ _ _ _ _ _ _ _ _ _ _ _ _ _ _ _ _ _ _ (EqSt.a (by assumption)) (EqSt.b (by assumption)) hsm.out).mono ?_; rintro e w' ⟨rfl, hb⟩))
      go_split_ands
      rename EqSt w _ _ _ _ _ _ _ _ _ _ _ _ _ _ _ _ _ _ _ _ => hE
      have HB := Lib.hid hE.c
      clear hE x0 x1 x2 x3 x4 y0 y1 y2 y3 y4 E0
      go_wp2_with fail
      go_roundw
      case rel => exact ⟨k + 1, by omega, by go_num, HB.out⟩
      case measure => simp [intOf]; omega
    · go_wp2
      go_ret
      exact ⟨rfl, hb⟩
set_option maxHeartbeats 400000 in
theorem eqChain_same (A A' : Option Addr) (n n' c c' : Nat) (ts : List Stg) (bs bs' : List Nat) (w : World) (h : Hd w (chD ts) (.slice A n c) bs) (h' : Hd w (chD ts) (.slice A' n' c') bs') (hs : ChSmall ts) :
    Calls Try.prog 16 #[.agg #[.slice A n c], .agg #[.slice A' n' c']] w fun e w' => e = .returned (.bool true) ∧ Below w.heap.size w w' := by
  have H := Lib.hid h
  have H' := Lib.hid h'
  have HS := Lib.hid hs
  clear h h' hs
  go_enter Try.func16, Try.ntmps16
  go_wp2_with fail
  refine (eqStageS_same _ _ _ _ _ _ ts _ _ _ ((H.out.alloc _).alloc _) ((H'.out.alloc _).alloc _) HS.out).mono ?_
  rintro e w1 ⟨rfl, hb⟩
  have T := Lib.hid (blThen (blThenAlloc (blAlloc w (.cells #[.slice A n c] 34)) (.cells #[.slice A' n' c'] 34)) hb)
  clear hb
  go_wp2_with fail
  go_ret
  exact ⟨rfl, T.out⟩

/-! ### sz -/
set_option maxHeartbeats 1000000 in
theorem szStage_any (t : Stg) (A1 : Option Addr) (n1 c1 : Nat) (A2 : Option Addr) (n2 c2 : Nat) (A3 : Option Addr) (n3 c3 : Nat) (l : Int) (w : World) (h : HdSt w t A1 n1 c1 A2 n2 c2 A3 n3 c3) (h0 : 0 ≤ l) (h1 : l ≤ 1048576) :
    Calls Try.prog 85 #[.agg #[.int .i64 t.kd, .slice A1 n1 c1, .slice A2 n2 c2, .int .i64 t.sd, .slice A3 n3 c3], .int .i64 l] w (Left w (StSmall t) l) := by
  have H := Lib.hid (h.alloc (.cells #[.int .i64 t.kd, .slice A1 n1 c1, .slice A2 n2 c2, .int .i64 t.sd, .slice A3 n3 c3] 147))
  clear h
  go_enter Try.func85, Try.ntmps85
  go_wp2_with fail
  refine (szCurveS_any _ _ _ t.cs _ l _ H.out.a.choose_spec h0 h1).mono ?_
  rintro e w1 ⟨r, rfl, h2, h3, h4, hb⟩
  have hz1 : w.heap.size < w1.heap.size := by have := hb.size; simp at this; omega
  have x02 : w1.cell? ⟨w.heap.size, 2, none⟩ = some (.slice A2 n2 c2) := cell_later hb (by simp)
  have x03 : w1.cell? ⟨w.heap.size, 3, none⟩ = some (.int .i64 t.sd) := cell_later hb (by simp)
  have x04 : w1.cell? ⟨w.heap.size, 4, none⟩ = some (.slice A3 n3 c3) := cell_later hb (by simp)
  have T := Lib.hid (blThen (blAlloc w _) hb)
  have I := Lib.hid (H.out.bel hb)
  have H4 := Lib.hid h4
  clear hb h4 H
  by_cases hr : r < 0
  · clear x02 x03 x04
    go_wp2_with fail
    go_ret
    exact ⟨-1, rfl, by omega, by omega, by omega, T.out⟩
  go_wp2_with fail
  refine (szMatrix_any _ _ _ t.rs _ r _ I.out.b.choose_spec (by omega) (by omega)).mono ?_
  rintro e w2 ⟨r2, rfl, h22, h23, h24, hb⟩
  have hz2 : w.heap.size < w2.heap.size := by have := hb.size; omega
  have y03 : w2.cell? ⟨w.heap.size, 3, none⟩ = some (.int .i64 t.sd) := cell_later hb x03
  have y04 : w2.cell? ⟨w.heap.size, 4, none⟩ = some (.slice A3 n3 c3) := cell_later hb x04
  have T2 := Lib.hid (blThen T.out hb)
  have J := Lib.hid (I.out.bel hb)
  have H24 := Lib.hid h24
  clear hb h24 I T
  by_cases hr2 : r2 < 0
  · clear x02 x03 x04 y03 y04
    go_wp2_with fail
    go_ret
    exact ⟨-1, rfl, by omega, by omega, by omega, T2.out⟩
  go_wp2_with fail
  refine (szGrid_any _ _ _ t.ns t.sd _ r2 _ J.out.d.choose_spec (by omega) (by omega)).mono ?_
  rintro e w3 ⟨r3, rfl, h32, h33, h34, hb⟩
  have T3 := Lib.hid (blThen T2.out hb)
  have H34 := Lib.hid h34
  clear hb h34 J T2 x02 x03 x04 y03 y04
  by_cases hr3 : r3 < 0
  · go_wp2_with fail
    go_ret
    exact ⟨-1, rfl, by omega, by omega, by omega, T3.out⟩
  go_wp2_with fail
  go_ret
  exact ⟨r3, rfl, by omega, by omega, fun _ => ⟨H4.out (by omega), H24.out (by omega), H34.out (by omega)⟩, T3.out⟩
set_option maxHeartbeats 1000000 in
theorem szStageS_any (A : Option Addr) (n c : Nat) (ts : List Stg) (bs : List Nat) (l : Int) (w : World) (h : Hd w (chD ts) (.slice A n c) bs) (h0 : 0 ≤ l) (h1 : l ≤ 1048576) :
    Calls Try.prog 45 #[.slice A n c, .int .i64 l] w (Left w (ChSmall ts) l) := by
  obtain ⟨hl, hc, hm⟩ := h.stgs
  have hm' := hm
  unfold maxLen at hm'
  have HL := Lib.hid hl
  have H := Lib.hid h
  clear h hl hm
  by_cases hbig : l < n
  · go_enter Try.func45, Try.ntmps45
    go_wp2
    go_ret
    exact ⟨-1, rfl, by omega, by omega, by omega, Below.refl _ _⟩
  go_enter Try.func45, Try.ntmps45
  go_wp2
  go_loopw [1, 5] (fun q i wr => ∃ (k : Nat) (r : Int), k ≤ n ∧ i = .int .i64 k ∧ q = .int .i64 r ∧ 0 ≤ r ∧ r ≤ l ∧ (∀ i, i < k → StSmall (st_ ts i)) ∧ Below w.heap.size w wr) (fun _ i _ => n - (intOf i).toNat)
  case atStart => exact ⟨0, _, by omega, rfl, rfl, by omega, by omega, fun i hi => absurd hi (by omega), Below.refl _ _⟩
  case round =>
    obtain ⟨k, r, hk, rfl, rfl, hr0, hr1, hsm, hb⟩ := hrel
    by_cases hlt : k < n
    · obtain ⟨b, o, A1, n1, c1, A2, n2, c2, A3, n3, c3, rfl, x0, x1, x2, x3, x4, xs⟩ := (H.out.bel hb).stg hlt
      have HB := Lib.hid hb
      have HSM := Lib.hid hsm
      have XS := Lib.hid xs
      clear hb xs hsm
      go_wp2_with fail
      refine (szStage_any _ _ _ _ _ _ _ _ _ _ r _ XS.out hr0 (by omega)).mono ?_
      rintro e w1 ⟨r', rfl, h2, h3, h4, hb1⟩
      have T := Lib.hid (blThen HB.out hb1)
      clear hb1 HB x0 x1 x2 x3 x4
      by_cases hr : r' < 0
      · clear h4
        go_wp2_with fail
        go_ret
        exact ⟨-1, rfl, by omega, by omega, by omega, T.out⟩
      · have h5 := Lib.hid (h4 (by omega))
        clear h4
        go_wp2_with fail
        go_roundw
        case rel =>
          refine ⟨k + 1, r', by omega, by go_num, rfl, by omega, by omega, fun i hi => ?_, T.out⟩
          by_cases e : i = k
          · subst e; exact h5.out
          · exact HSM.out i (by omega)
        case measure => simp [intOf]; omega
    · have HSM := Lib.hid hsm
      have HB := Lib.hid hb
      clear hsm hb
      go_wp2
      go_ret
      exact ⟨r, rfl, by omega, by omega, fun _ => ⟨by rw [HL.out]; omega, fun i hi => HSM.out i (by rw [HL.out] at hi; omega)⟩, HB.out⟩
set_option maxHeartbeats 400000 in
theorem szChain_any (A : Option Addr) (n c : Nat) (ts : List Stg) (bs : List Nat) (l : Int) (w : World) (h : Hd w (chD ts) (.slice A n c) bs) (h0 : 0 ≤ l) (h1 : l ≤ 1048576) :
    Calls Try.prog 12 #[.agg #[.slice A n c], .int .i64 l] w (Left w (ChSmall ts) l) := by
  have H := Lib.hid h
  clear h
  go_enter Try.func12, Try.ntmps12
  go_wp2_with fail
  refine (szStageS_any A n c ts bs l _ (H.out.alloc _) h0 h1).mono ?_
  rintro e w1 ⟨r, rfl, h2, h3, h4, hb⟩
  have T := Lib.hid (blThen (blAlloc w (.cells #[.slice A n c] 29)) hb)
  have H4 := Lib.hid h4
  clear hb h4
  by_cases hr : r < 0
  · go_wp2_with fail
    go_ret
    exact ⟨-1, rfl, by omega, by omega, by omega, T.out⟩
  · go_wp2_with fail
    go_ret
    exact ⟨r, rfl, by omega, by omega, fun _ => H4.out (by omega), T.out⟩

/-! ### to -/
/-- a stage's three lists, in new memory, one behind the other. -/
structure OwnSt (w : World) (t : Stg) (B1 : Option Addr) (n1 : Nat) (B2 : Option Addr) (n2 : Nat) (B3 : Option Addr) (n3 : Nat) (lo p q hi : Nat) : Prop where
  a : Own w (rowsD t.cs) (.slice B1 n1 n1) lo p
  b : Own w (rowsD t.rs) (.slice B2 n2 n2) p q
  d : Own w (rowsD t.ns) (.slice B3 n3 n3) q hi
  le : lo ≤ p ∧ p ≤ q ∧ q ≤ hi
theorem OwnSt.hd {w : World} {t : Stg} {B1 : Option Addr} {n1 : Nat} {B2 : Option Addr} {n2 : Nat} {B3 : Option Addr} {n3 : Nat} {lo p q hi : Nat} (h : OwnSt w t B1 n1 B2 n2 B3 n3 lo p q hi) : HdSt w t B1 n1 n1 B2 n2 n2 B3 n3 n3 := ⟨h.a.hd, h.b.hd, h.d.hd⟩
def ToSt (w : World) (t : Stg) (n1 n2 n3 : Nat) (e : Ending) (w' : World) : Prop :=
  ∃ B1 B2 B3 p q, e = .returned (.agg #[.int .i64 t.kd, .slice B1 n1 n1, .slice B2 n2 n2, .int .i64 t.sd, .slice B3 n3 n3]) ∧ OwnSt w' t B1 n1 B2 n2 B3 n3 w.heap.size p q w'.heap.size ∧ Below w.heap.size w w'
set_option maxRecDepth 100000 in
set_option maxHeartbeats 4000000 in
theorem toStage_any (t : Stg) (A1 : Option Addr) (n1 c1 : Nat) (A2 : Option Addr) (n2 c2 : Nat) (A3 : Option Addr) (n3 c3 : Nat) (w : World) (h : HdSt w t A1 n1 c1 A2 n2 c2 A3 n3 c3) (hs : StSmall t) :
    Calls Try.prog 90 #[.agg #[.int .i64 t.kd, .slice A1 n1 c1, .slice A2 n2 c2, .int .i64 t.sd, .slice A3 n3 c3]] w (ToSt w t n1 n2 n3) := by
  obtain ⟨W0, hW0⟩ : ∃ W0, W0 = (((w.alloc (.cells #[.int .i64 t.kd, .slice A1 n1 c1, .slice A2 n2 c2, .int .i64 t.sd, .slice A3 n3 c3] 147)).alloc (.cells #[.int .i64 0, .slice none 0 0, .slice none 0 0, .int .i64 0, .slice none 0 0] 64)).alloc (.cells #[.int .i64 t.kd, .slice none 0 0, .slice none 0 0, .int .i64 0, .slice none 0 0] 64)) := ⟨_, rfl⟩
  have a0 : Hid (Bx W0 w.heap.size [.int .i64 t.kd, .slice A1 n1 c1, .slice A2 n2 c2, .int .i64 t.sd, .slice A3 n3 c3]) := by show Bx _ _ _; rw [hW0]; exact ((Bx.new _ _ _ rfl).alloc _).alloc _
  have r0 : Hid (Bx W0 (w.heap.size + 1) [.int .i64 0, .slice none 0 0, .slice none 0 0, .int .i64 0, .slice none 0 0]) := by show Bx _ _ _; rw [hW0]; exact (Bx.new _ _ _ (by simp)).alloc _
  have u0 : Hid (Bx W0 (w.heap.size + 1 + 1) [.int .i64 t.kd, .slice none 0 0, .slice none 0 0, .int .i64 0, .slice none 0 0]) := by show Bx _ _ _; rw [hW0]; exact Bx.new _ _ _ (by simp)
  have T0 : Hid (Below w.heap.size w W0) := by show Below _ _ _; rw [hW0]; exact blThenAlloc (blThenAlloc (blAlloc _ _) _) _
  have hsz : W0.heap.size = w.heap.size + 3 := by rw [hW0]; simp
  have HW := Lib.hid hW0
  have HS := Lib.hid hs
  have HZ := Lib.hid hsz
  have H := Lib.hid h
  clear h hs hsz hW0
  go_enter Try.func90, Try.ntmps90
  go_wp2_with fail
  rw [← HW.out]
  refine (toCurveS_any _ _ _ t.cs _ _ (H.out.bel T0.out).a.choose_spec HS.out.1).mono ?_
  rintro e w1 ⟨B1, rfl, o1, hb⟩
  have hz : w.heap.size + 2 < w1.heap.size := by have := hb.size; have := HZ.out; omega
  have a1 := Lib.hid (a0.out.bel hb)
  have r1 := Lib.hid (r0.out.bel hb)
  have u1 := Lib.hid (u0.out.bel hb)
  have T1 := Lib.hid (blThen T0.out hb)
  have O1 := Lib.hid o1
  have x2 := a1.out.c 2 rfl
  have y1 := u1.out.c 1 rfl
  have z1 := u1.out.f 1
  clear hb o1 a0 r0 u0 T0 HW
  go_wp2_with fail
  obtain ⟨W1, hW1⟩ : ∃ W1, W1 = w1.setCell ⟨w.heap.size + 1 + 1, 1, none⟩ (.slice B1 n1 n1) := ⟨_, rfl⟩
  rw [← hW1]
  have a2 := Lib.hid (a1.out.othE hW1 (by omega))
  have r2 := Lib.hid (r1.out.othE hW1 (by omega))
  have u2 := Lib.hid (u1.out.setE hW1)
  have T2 : Hid (Below w.heap.size w W1) := by show Below _ _ _; rw [hW1]; exact T1.out.setCell (by simp; omega) _
  have O2 : Hid (Own W1 (rowsD t.cs) (.slice B1 n1 n1) W0.heap.size w1.heap.size) := by show Own _ _ _ _ _; rw [hW1]; exact O1.out.set (.inl (by have := HZ.out; omega)) _ _
  have hs1 : W1.heap.size = w1.heap.size := by rw [hW1, setSize]
  clear a1 r1 u1 T1 O1 x2 y1 z1 hW1
  refine (toMatrix_any _ _ _ t.rs _ _ (H.out.bel T2.out).b.choose_spec HS.out.2.1).mono ?_
  rintro e w2 ⟨B2, rfl, o2, hb⟩
  have hz2 : w.heap.size + 2 < w2.heap.size := by have := hb.size; omega
  have a3 := Lib.hid (a2.out.bel hb)
  have r3 := Lib.hid (r2.out.bel hb)
  have u3 := Lib.hid (u2.out.bel hb)
  have T3 := Lib.hid (blThen T2.out hb)
  have O3 := Lib.hid (O2.out.below hb)
  have P3 := Lib.hid o2
  have HB2 := Lib.hid hb.size
  have x3 := a3.out.c 3 rfl
  have x4 := a3.out.c 4 rfl
  have y1 := u3.out.c 2 rfl
  have z1 := u3.out.f 2
  clear hb o2 a2 r2 u2 T2 O2
  go_wp2_with fail
  obtain ⟨W2, hW2⟩ : ∃ W2, W2 = w2.setCell ⟨w.heap.size + 1 + 1, 2, none⟩ (.slice B2 n2 n2) := ⟨_, rfl⟩
  rw [← hW2]
  have r4 := Lib.hid (r3.out.othE hW2 (by omega))
  have u4 := Lib.hid (u3.out.setE hW2)
  have T4 : Hid (Below w.heap.size w W2) := by show Below _ _ _; rw [hW2]; exact T3.out.setCell (by simp; omega) _
  have O4 : Hid (Own W2 (rowsD t.cs) (.slice B1 n1 n1) W0.heap.size w1.heap.size) := by show Own _ _ _ _ _; rw [hW2]; exact O3.out.set (.inl (by have := HZ.out; omega)) _ _
  have P4 : Hid (Own W2 (rowsD t.rs) (.slice B2 n2 n2) W1.heap.size w2.heap.size) := by show Own _ _ _ _ _; rw [hW2]; exact P3.out.set (.inl (by omega)) _ _
  have hs2 : W2.heap.size = w2.heap.size := by rw [hW2, setSize]
  clear a3 r3 u3 T3 O3 P3 x3 x4 y1 z1 hW2
  refine (toGrid_any _ _ _ t.ns t.sd _ _ (H.out.bel T4.out).d.choose_spec HS.out.2.2).mono ?_
  rintro e w3 ⟨B3, rfl, o3, hb⟩
  have hz3 : w.heap.size + 2 < w3.heap.size := by have := hb.size; omega
  have r5 := Lib.hid (r4.out.bel hb)
  have u5 := Lib.hid (u4.out.bel hb)
  have T5 := Lib.hid (blThen T4.out hb)
  have O5 := Lib.hid (O4.out.below hb)
  have P5 := Lib.hid (P4.out.below hb)
  have Q5 := Lib.hid o3
  have HB3 := Lib.hid hb.size
  have y0 := u5.out.c 0 rfl
  have y1 := u5.out.c 1 rfl
  have y2 := u5.out.c 2 rfl
  have y3 := u5.out.c 3 rfl
  have y4 := u5.out.c 4 rfl
  have z3 := u5.out.f 3
  have z4 := u5.out.f 4
  have v0 := r5.out.c 0 rfl
  have v1 := r5.out.c 1 rfl
  have v2 := r5.out.c 2 rfl
  have v3 := r5.out.c 3 rfl
  have v4 := r5.out.c 4 rfl
  have q0 := r5.out.f 0
  have q1 := r5.out.f 1
  have q2 := r5.out.f 2
  have q3 := r5.out.f 3
  have q4 := r5.out.f 4
  clear hb o3 r4 u4 T4 O4 P4
  go_wp2_with fail
  refine bodyPost_ret (v := .agg #[.int .i64 t.kd, .slice B1 n1 n1, .slice B2 n2 n2, .int .i64 t.sd, .slice B3 n3 n3]) (by simp [results, Try.results90, go_sem, v0, v1, v2, v3, v4]) rfl ⟨B1, B2, B3, w1.heap.size, w2.heap.size, rfl, ⟨?_, ?_, ?_, ?_⟩, ?_⟩
  · refine Own.mono (lo := W0.heap.size) (hi := w1.heap.size) ?_ (by have := HZ.out; omega) (Nat.le_refl _)
    repeat (refine Own.set ?_ (.inl (by have := HZ.out; omega)) _ _)
    exact O5.out
  · rw [← hs1]
    repeat (refine Own.set ?_ (.inl (by omega)) _ _)
    exact P5.out
  · rw [← hs2]
    refine Own.mono (lo := W2.heap.size) (hi := w3.heap.size) ?_ (Nat.le_refl _) (by simp only [setSize]; exact Nat.le_refl _)
    repeat (refine Own.set ?_ (.inl (by omega)) _ _)
    exact Q5.out
  · have := HZ.out
    have := HB2.out
    have := HB3.out
    simp only [setSize]
    omega
  · repeat (refine Below.setCell ?_ (by simp; try omega) _)
    exact T5.out
def partS (ts : List Stg) (k : Nat) : List (List Dat) := (List.range ts.length).map fun i => if i < k then stD (st_ ts i) else stD stZ
theorem partS_zero (ts : List Stg) : partS ts 0 = List.replicate ts.length (stD stZ) := by
  unfold partS
  refine List.ext_getElem (by simp) (fun i h1 h2 => ?_)
  simp
theorem partS_wide {ts : List Stg} {k i : Nat} (hi : i < ts.length) : ((partS ts k).getD i []).length = 5 := by
  unfold partS; rw [el_range hi]; split <;> rfl
theorem partS_old {ts : List Stg} {k : Nat} (hk : k < ts.length) (j : Nat) : At (partS ts k) k j = (stD stZ).getD j default := by
  unfold partS; rw [at_range hk, if_neg (by omega)]
theorem zero_stage (w : World) (j : Nat) (hj : j < (#[.int .i64 0, .slice none 0 0, .slice none 0 0, .int .i64 0, .slice none 0 0] : Array Value).size) : Hd w ((stD stZ).getD j default) ((#[.int .i64 0, .slice none 0 0, .slice none 0 0, .int .i64 0, .slice none 0 0] : Array Value)[j]) [] := by
  match j, hj with
  | 0, _ => exact .int _ _
  | 1, _ => exact .sl0 _ _ _ (Nat.zero_le _)
  | 2, _ => exact .sl0 _ _ _ (Nat.zero_le _)
  | 3, _ => exact .int _ _
  | 4, _ => exact .sl0 _ _ _ (Nat.zero_le _)
theorem info_stage : (Try.prog.info? 64).map (fun i => (i.zero, i.size, i.bytes)) = some (some (.agg #[.int .i64 0, .slice none 0 0, .slice none 0 0, .int .i64 0, .slice none 0 0]), 5, 88) := by kernel_rfl
theorem partS_all (ts : List Stg) : partS ts ts.length = ts.map stD := by
  unfold partS
  refine List.ext_getElem (by simp) (fun i h1 h2 => ?_)
  have : i < ts.length := by simpa using h1
  simp [this, st_, List.getD]
/-- one cell of the stage that is being laid. -/
theorem cellS {w : World} {els : List (List Dat)} {n c b o lo mid hi : Nat} {k j : Nat} {x : Value} {d : Dat} (pl : els.length = n) (hk : k < n) (hj : j < 5) (wd : (els.getD k []).length = 5) (h : Own w (.sl 5 els) (.slice (some ⟨b, o, none⟩) n c) lo mid) (h0 : ∀ gs x, Hd w (At els k j) x gs → gs = []) (hx : Own w d x mid hi) (hlo : lo ≤ mid) (hmid : mid ≤ hi) :
    Own (w.setCell ⟨b, o + k * 5 + j, none⟩ x) (.sl 5 (setEl els k j d)) (.slice (some ⟨b, o, none⟩) n c) lo hi :=
  h.fill hk hj h0 hx hlo hmid (put_setEl pl hk (by rw [wd]; exact hj))
/-- one stage more has been laid. -/
theorem partS_step {w : World} {ts : List Stg} {k n c b o lo mid p q hi : Nat} {B1 : Option Addr} {n1 : Nat} {B2 : Option Addr} {n2 : Nat} {B3 : Option Addr} {n3 : Nat} (hl : ts.length = n) (hk : k < n) (h : Own w (.sl 5 (partS ts k)) (.slice (some ⟨b, o, none⟩) n c) lo mid) (hx : OwnSt w (st_ ts k) B1 n1 B2 n2 B3 n3 mid p q hi) (hlo : lo ≤ mid) (hblk : b < mid) :
    Own (((((w.setCell ⟨b, o + k * 5 + 0, none⟩ (.int .i64 (st_ ts k).kd)).setCell ⟨b, o + k * 5 + 1, none⟩ (.slice B1 n1 n1)).setCell ⟨b, o + k * 5 + 2, none⟩ (.slice B2 n2 n2)).setCell ⟨b, o + k * 5 + 3, none⟩ (.int .i64 (st_ ts k).sd)).setCell ⟨b, o + k * 5 + 4, none⟩ (.slice B3 n3 n3)) (.sl 5 (partS ts (k + 1))) (.slice (some ⟨b, o, none⟩) n c) lo hi := by
  obtain ⟨ha, hb', hd, l1, l2, l3⟩ := hx
  have pl : (partS ts k).length = n := by simp [partS, hl]
  have wd : ((partS ts k).getD k []).length = 5 := partS_wide (by omega)
  have s0 := cellS (d := .int .i64 (st_ ts k).kd) pl hk (by omega : 0 < 5) wd h (fun gs x hd => by rw [partS_old (by omega)] at hd; exact hd.flat_int) (Own.int w .i64 _ mid mid) hlo (Nat.le_refl _)
  have pl0 : (setEl (partS ts k) k 0 (.int .i64 (st_ ts k).kd)).length = n := by rw [setEl_len, pl]
  have wd0 : ((setEl (partS ts k) k 0 (.int .i64 (st_ ts k).kd)).getD k []).length = 5 := by rw [setEl_wide, wd]
  have s1 := cellS (d := rowsD (st_ ts k).cs) pl0 hk (by omega : 1 < 5) wd0 s0 (fun gs x hd => by rw [at_setEl (by omega) (by omega), if_neg (by omega), partS_old (by omega)] at hd; exact hd.flat_snil) (ha.set (.inl hblk) _ _) hlo l1
  have pl1 : (setEl (setEl (partS ts k) k 0 (.int .i64 (st_ ts k).kd)) k 1 (rowsD (st_ ts k).cs)).length = n := by rw [setEl_len, pl0]
  have wd1 : ((setEl (setEl (partS ts k) k 0 (.int .i64 (st_ ts k).kd)) k 1 (rowsD (st_ ts k).cs)).getD k []).length = 5 := by rw [setEl_wide, wd0]
  have s2 := cellS (d := rowsD (st_ ts k).rs) pl1 hk (by omega : 2 < 5) wd1 s1 (fun gs x hd => by rw [at_setEl (by omega) (by omega), if_neg (by omega), at_setEl (by omega) (by omega), if_neg (by omega), partS_old (by omega)] at hd; exact hd.flat_snil) ((hb'.set (.inl (by omega)) _ _).set (.inl (by omega)) _ _) (by omega) l2
  have pl2 := setEl_len (setEl (setEl (partS ts k) k 0 (.int .i64 (st_ ts k).kd)) k 1 (rowsD (st_ ts k).cs)) k 2 (rowsD (st_ ts k).rs)
  have wd2 : ((setEl (setEl (setEl (partS ts k) k 0 (.int .i64 (st_ ts k).kd)) k 1 (rowsD (st_ ts k).cs)) k 2 (rowsD (st_ ts k).rs)).getD k []).length = 5 := by rw [setEl_wide, wd1]
  have s3 := cellS (d := .int .i64 (st_ ts k).sd) (pl2.trans pl1) hk (by omega : 3 < 5) wd2 s2 (fun gs x hd => by rw [at_setEl (by omega) (by omega), if_neg (by omega), at_setEl (by omega) (by omega), if_neg (by omega), at_setEl (by omega) (by omega), if_neg (by omega), partS_old (by omega)] at hd; exact hd.flat_int) (Own.int _ .i64 _ q q) (by omega) (Nat.le_refl _)
  have pl3 := setEl_len (setEl (setEl (setEl (partS ts k) k 0 (.int .i64 (st_ ts k).kd)) k 1 (rowsD (st_ ts k).cs)) k 2 (rowsD (st_ ts k).rs)) k 3 (.int .i64 (st_ ts k).sd)
  have wd3 : ((setEl (setEl (setEl (setEl (partS ts k) k 0 (.int .i64 (st_ ts k).kd)) k 1 (rowsD (st_ ts k).cs)) k 2 (rowsD (st_ ts k).rs)) k 3 (.int .i64 (st_ ts k).sd)).getD k []).length = 5 := by rw [setEl_wide, wd2]
  have s4 := cellS (d := rowsD (st_ ts k).ns) (pl3.trans (pl2.trans pl1)) hk (by omega : 4 < 5) wd3 s3 (fun gs x hd => by rw [at_setEl (by omega) (by omega), if_neg (by omega), at_setEl (by omega) (by omega), if_neg (by omega), at_setEl (by omega) (by omega), if_neg (by omega), at_setEl (by omega) (by omega), if_neg (by omega), partS_old (by omega)] at hd; exact hd.flat_snil) ((((hd.set (.inl (by omega)) _ _).set (.inl (by omega)) _ _).set (.inl (by omega)) _ _).set (.inl (by omega)) _ _) (by omega) l3
  refine s4.ext (by rw [setEl_len, pl3, pl2, pl1]; simp [partS, hl]) (fun i hi' j hj => ?_)
  rw [at_setEl (by omega) (by omega), at_setEl (by omega) (by omega), at_setEl (by omega) (by omega), at_setEl (by omega) (by omega), at_setEl (by omega) (by omega)]
  unfold partS
  rw [at_range (by omega), at_range (by omega)]
  by_cases e : i = k
  · subst e
    match j, hj with
    | 0, _ => simp [stD]
    | 1, _ => simp [stD]
    | 2, _ => simp [stD]
    | 3, _ => simp [stD]
    | 4, _ => simp [stD]
  · by_cases h2 : i < k
    · simp [e, h2, show i < k + 1 by omega]
    · simp [e, h2, show ¬ i < k + 1 by omega]
set_option maxRecDepth 100000 in
set_option maxHeartbeats 4000000 in
theorem toStageS_any (A : Option Addr) (n c : Nat) (ts : List Stg) (bs : List Nat) (w : World) (h : Hd w (chD ts) (.slice A n c) bs) (hs : ChSmall ts) :
    Calls Try.prog 48 #[.slice A n c] w fun e w' => ∃ B, e = .returned (.slice B n n) ∧ Own w' (chD ts) (.slice B n n) w.heap.size w'.heap.size ∧ Below w.heap.size w w' := by
  have hl := h.stgs.1
  have hn : n ≤ 1048576 := by have := hs.1; omega
  have hmk := run_make_many (P := Try.prog) 32 64 (.agg #[.int .i64 0, .slice none 0 0, .slice none 0 0, .int .i64 0, .slice none 0 0]) 5 88 Try.underlying32 info_stage .i64 .i64 n (by omega) (by omega)
  have HL := Lib.hid hl
  have H := Lib.hid h
  have HS := Lib.hid hs
  clear h hs hl
  go_enter Try.func48, Try.ntmps48
  go_wp2_with fail
  clear hmk
  go_loopw [4] (fun i wr => ∃ k : Nat, k ≤ n ∧ i = .int .i64 k ∧ Own wr (.sl 5 (partS ts k)) (.slice (some ⟨w.heap.size, 0, none⟩) n n) w.heap.size wr.heap.size ∧ Below w.heap.size w wr ∧ w.heap.size < wr.heap.size) (fun i _ => n - (intOf i).toNat)
  case atStart =>
    refine ⟨0, by omega, rfl, ?_, blAlloc _ _, by simp⟩
    rw [partS_zero, HL.out]
    refine Own.mono (lo := w.heap.size) (hi := w.heap.size + 1) ?_ (Nat.le_refl _) (by simp)
    exact Own.made w #[.int .i64 0, .slice none 0 0, .slice none 0 0, .int .i64 0, .slice none 0 0] (stD stZ) n 64 (by decide) zero_stage (by unfold maxLen; omega)
  case round =>
    obtain ⟨k, hk, rfl, ho, hb, hz⟩ := hrel
    by_cases hlt : k < n
    · obtain ⟨b, o, A1, n1, c1, A2, n2, c2, A3, n3, c3, rfl, x0, x1, x2, x3, x4, xs⟩ := (H.out.bel hb).stg hlt
      have XS := Lib.hid xs
      have hsm := Lib.hid (HS.out.2 k (by rw [HL.out]; exact hlt))
      have HO := Lib.hid ho
      have HB := Lib.hid hb
      clear ho hb xs
      go_wp2_with fail
      refine (toStage_any _ _ _ _ _ _ _ _ _ _ _ XS.out hsm.out).mono ?_
      rintro e w1 ⟨B1, B2, B3, p, q, rfl, ho1, hb1⟩
      have hw := hb1.size
      obtain ⟨y0, c0, f0, hlo, hhi⟩ := (HO.out.below hb1).slot hlt (by omega : 0 < 5)
      obtain ⟨y1, e1, f1, -, -⟩ := (HO.out.below hb1).slot hlt (by omega : 1 < 5)
      obtain ⟨y2, e2, f2, -, -⟩ := (HO.out.below hb1).slot hlt (by omega : 2 < 5)
      obtain ⟨y3, e3, f3, -, -⟩ := (HO.out.below hb1).slot hlt (by omega : 3 < 5)
      obtain ⟨y4, e4, f4, -, -⟩ := (HO.out.below hb1).slot hlt (by omega : 4 < 5)
      rw [Nat.zero_add, Nat.add_zero] at c0 f0
      rw [Nat.zero_add] at e1 f1 e2 f2 e3 f3 e4 f4
      have HN := Lib.hid (partS_step HL.out hlt (HO.out.below hb1) ho1 (by omega) hhi)
      have T := Lib.hid (blThen HB.out hb1)
      clear ho1 hb1 HO HB x0 x1 x2 x3 x4 XS
      go_wp2_with fail
      go_roundw
      case rel =>
        refine ⟨k + 1, by omega, by go_num, ?_, ?_, by simp only [setSize]; omega⟩
        · have := HN.out
          rw [Nat.zero_add, Nat.add_zero] at this
          exact this.mono (Nat.le_refl _) (by simp only [setSize]; exact Nat.le_refl _)
        · repeat (refine Below.setCell ?_ (by simp) _)
          exact T.out
      case measure => simp [intOf]; omega
    · obtain rfl : k = n := by omega
      have HO := Lib.hid ho
      have HB := Lib.hid hb
      clear ho hb
      go_wp2
      go_ret
      refine ⟨_, rfl, ?_, HB.out⟩
      have := HO.out
      rw [← HL.out, partS_all] at this
      rw [← HL.out]
      exact this
set_option maxHeartbeats 400000 in
theorem toChain_any (A : Option Addr) (n c : Nat) (ts : List Stg) (bs : List Nat) (w : World) (h : Hd w (chD ts) (.slice A n c) bs) (hs : ChSmall ts) :
    Calls Try.prog 14 #[.agg #[.slice A n c]] w fun e w' => ∃ B, e = .returned (.agg #[.slice B n n]) ∧ Own w' (chD ts) (.slice B n n) w.heap.size w'.heap.size ∧ Below w.heap.size w w' := by
  have H := Lib.hid h
  have HS := Lib.hid hs
  clear h hs
  go_enter Try.func14, Try.ntmps14
  go_wp2_with fail
  refine (toStageS_any _ _ _ ts bs _ (((H.out.alloc _).alloc _).alloc _) HS.out).mono ?_
  rintro e w1 ⟨B, rfl, ho, hb⟩
  obtain ⟨hc, hf⟩ := bcell hb
  have hz : w.heap.size + 2 < w1.heap.size := by have := hb.size; simp at this; omega
  have HO := Lib.hid ho
  have T := Lib.hid (blThen (blThenAlloc (blThenAlloc (blAlloc w _) _) _) hb)
  clear ho hb
  go_wp2_with fail
  refine bodyPost_ret (v := .agg #[.slice B n n]) (by simp [results, Try.results14, go_sem, hc]) rfl ⟨B, rfl, ?_, ?_⟩
  · refine Own.mono (lo := w.heap.size + 3) (hi := w1.heap.size) ?_ (by omega) (by simp [World.setCell])
    repeat (first | exact (HO.out.mono (by simp) (Nat.le_refl _)) | refine Own.set ?_ (.inl (by omega)) _ _)
  · repeat (first | exact T.out | refine Below.setCell ?_ (by simp; try omega) _)
end Go.Proofs.Ytlfdpambbgddoaa
namespace Go.Proofs.Ytlfdpambbgddoaa
open Go.RowKit Go.ChangeShapes Go.WideShapes Go.Deep Go.Joins
set_option linter.unusedVariables false
set_option linter.unusedSimpArgs false

/-- each number of a stage is an int64. -/
structure I64T (t : Stg) : Prop where
  kd : -9223372036854775808 ≤ t.kd ∧ t.kd ≤ 9223372036854775807
  cs : I64R t.cs
  rs : I64R t.rs
  sd : -9223372036854775808 ≤ t.sd ∧ t.sd ≤ 9223372036854775807
  ns : I64R t.ns
def I64C (ts : List Stg) : Prop := ∀ i, I64T (st_ ts i)
theorem st_range {n : Nat} {f : Nat → Stg} {i : Nat} (h : i < n) : st_ ((List.range n).map f) i = f i := by simp [st_, List.getD, h]
theorem st_out {ts : List Stg} {i : Nat} (h : ts.length ≤ i) : st_ ts i = stZ := by simp [st_, List.getD, h]
theorem i64_Z : I64T stZ := ⟨by simp [stZ], fun i j => by simp [stZ, rw_], fun i j => by simp [stZ, rw_], by simp [stZ], fun i j => by simp [stZ, rw_]⟩
section
variable {H : Type} {enc : TypeId × Value → H} {w : World} {base : Nat} {spare : Nat → Bool} {held : Bool}
set_option maxRecDepth 100000 in
theorem open_curves {fuel : Nat} {v : Value} {x : DataW H × List MemPlace} (h : DataW.trod enc Try.prog w base spare held fuel 143 [v] = some x) :
    ∃ A n c rs bs, v = .slice A n c ∧ Hd w (rowsD rs) (.slice A n c) bs ∧ I64R rs := by
  rcases open_slice1 Try.underlying143 (by kernel_rfl) h with ⟨hcs, _⟩ | ⟨a, len, cap, m, n, V0, D0, P0, hcs, _, hl, hm, hmm, _, hx⟩
  · obtain rfl : v = .slice none 0 0 := by simpa using hcs
    exact ⟨none, 0, 0, [], [], rfl, .sl0 _ _ _ (Nat.zero_le _), fun i j => by simp [rw_]⟩
  · obtain rfl : v = .slice (some a) len cap := by simpa using hcs
    obtain ⟨b, o, sp⟩ := a
    have hlm : len ≤ m := by rw [hmm]; split <;> omega
    rcases Nat.eq_zero_or_pos len with h0 | h0
    · subst h0
      exact ⟨_, 0, cap, [], [], rfl, .sl0 _ _ _ hm, fun i j => by simp [rw_]⟩
    obtain rfl := cell_spot (by simpa using (hx 0 (by omega)).1)
    have each : ∀ i, ∃ q : List Int × List Nat, i < len → Hd w (.ints .i64 q.1) (V0 i) q.2 ∧ I64s q.1 := fun i => by
      by_cases hi : i < len
      · obtain ⟨_, t1⟩ := hx i (by omega)
        obtain ⟨y0, n', _, _, t2⟩ := trod_struct1 Try.underlying214 t1
        have t3 : DataW.trod enc Try.prog w base spare held n' 40 [V0 i] = some y0 := t2
        obtain ⟨A', n', c', xs, gs, hv, hd, hu⟩ := open_hd_i64 Try.underlying40 Try.underlying2 (by kernel_rfl) t3
        exact ⟨(xs, gs), fun _ => ⟨by rw [hv]; exact hd, hu⟩⟩
      · exact ⟨default, fun h => absurd h hi⟩
    obtain ⟨q, hq⟩ := Classical.axiomOfChoice each
    refine ⟨_, len, cap, (List.range len).map fun i => (q i).1, _, rfl, .sl 1 b o len cap _ (fun i _ => V0 i) (fun i _ => (q i).2) h0 (by omega) (by simp) (fun i hi j hj => ?_) (fun i hi j hj => ?_) hl hm, fun i => ?_⟩
    · obtain ⟨c0, _⟩ := hx i (by omega)
      rw [add_flat rfl] at c0
      obtain rfl : j = 0 := by omega
      simpa using c0
    · show Hd w (At _ i j) _ _
      obtain rfl : j = 0 := by omega
      rw [rows_at (by simpa using hi), rw_range hi]; exact (hq i hi).1
    · by_cases hi : i < len
      · rw [rw_range hi]; exact (hq i hi).2
      · rw [rw_out (by simp; omega)]; exact fun j => by simp
theorem list5 {α : Type} {cs : List α} (h : cs.length = 5) : ∃ a b c d e, cs = [a, b, c, d, e] := by
  match cs, h with
  | [a, b, c, d, e], _ => exact ⟨a, b, c, d, e, rfl⟩
theorem array5 {α : Type} {cs : Array α} (h : cs.size = 5) : ∃ a b c d e, cs = #[a, b, c, d, e] := by
  obtain ⟨l⟩ := cs
  obtain ⟨a, b, c, d, e, rfl⟩ := list5 h
  exact ⟨a, b, c, d, e, rfl⟩
set_option maxRecDepth 100000 in
theorem open_stage_cells {fuel : Nat} {v0 v1 v2 v3 v4 : Value} {x : DataW H × List MemPlace} (h : DataW.trod enc Try.prog w base spare held fuel 147 [v0, v1, v2, v3, v4] = some x) :
    ∃ (t : Stg) (g1 g2 g3 : List Nat), v0 = .int .i64 t.kd ∧ Hd w (rowsD t.cs) v1 g1 ∧ Hd w (rowsD t.rs) v2 g2 ∧ v3 = .int .i64 t.sd ∧ Hd w (rowsD t.ns) v4 g3 ∧ I64T t := by
  obtain ⟨y0, y1, y2, y3, n, _, _, t0, t1, t2, t3⟩ := trod_struct4 Try.underlying147 h
  have q0 : DataW.trod enc Try.prog w base spare held n 2 [v0] = some y0 := t0
  have q1 : DataW.trod enc Try.prog w base spare held n 143 [v1] = some y1 := t1
  have q2 : DataW.trod enc Try.prog w base spare held n 144 [v2] = some y2 := t2
  have q3 : DataW.trod enc Try.prog w base spare held n 145 [v3, v4] = some y3 := t3
  obtain ⟨kd, h0, _, hw0⟩ := DataW.trod_int Try.underlying2 q0
  obtain rfl : v0 = .int .i64 kd := by simpa using h0
  obtain ⟨A1, n1, c1, cs, g1, rfl, hd1, u1⟩ := open_curves q1
  obtain ⟨z0, n', _, _, s2⟩ := trod_struct1 Try.underlying144 q2
  have s2' : DataW.trod enc Try.prog w base spare held n' 50 [v2] = some z0 := s2
  obtain ⟨A2, n2, c2, rs, g2, rfl, hd2, u2⟩ := open_rows s2'
  obtain ⟨z1, z2, n'', _, _, s3, s4⟩ := trod_struct2 Try.underlying145 q3
  have s3' : DataW.trod enc Try.prog w base spare held n'' 2 [v3] = some z1 := s3
  have s4' : DataW.trod enc Try.prog w base spare held n'' 50 [v4] = some z2 := s4
  obtain ⟨sd, h3, _, hw3⟩ := DataW.trod_int Try.underlying2 s3'
  obtain rfl : v3 = .int .i64 sd := by simpa using h3
  obtain ⟨A3, n3, c3, ns, g3, rfl, hd3, u3⟩ := open_rows s4'
  exact ⟨⟨kd, cs, rs, sd, ns⟩, g1, g2, g3, rfl, hd1, hd2, rfl, hd3, ⟨bounds_i64 hw0, u1, u2, bounds_i64 hw3, u3⟩⟩
set_option maxRecDepth 100000 in
theorem open_stage {r : Reach} {b0 : Nat} {v : Value} {d : DataW H} {p : List MemPlace} (hv : Value.okWide Try.prog w r b0 147 v) (h : DataW.Trod enc Try.prog w base spare held 147 v d p) :
    ∃ (t : Stg) (A1 : Option Addr) (n1 c1 : Nat) (A2 : Option Addr) (n2 c2 : Nat) (A3 : Option Addr) (n3 c3 : Nat), v = .agg #[.int .i64 t.kd, .slice A1 n1 c1, .slice A2 n2 c2, .int .i64 t.sd, .slice A3 n3 c3] ∧ HdSt w t A1 n1 c1 A2 n2 c2 A3 n3 c3 ∧ I64T t := by
  obtain ⟨cs, rfl, hsz⟩ := okWide_struct Try.underlying147 hv
  obtain ⟨v0, v1, v2, v3, v4, rfl⟩ := array5 (hsz.trans (by kernel_rfl))
  obtain ⟨fuel, hf⟩ := h
  obtain ⟨t, g1, g2, g3, rfl, h1, h2, rfl, h4, hi⟩ := open_stage_cells (show DataW.trod enc Try.prog w base spare held fuel 147 [v0, v1, v2, v3, v4] = some _ from hf)
  obtain ⟨A1, n1, c1, rfl⟩ := Hd.sl_form h1
  obtain ⟨A2, n2, c2, rfl⟩ := Hd.sl_form h2
  obtain ⟨A3, n3, c3, rfl⟩ := Hd.sl_form h4
  exact ⟨t, A1, n1, c1, A2, n2, c2, A3, n3, c3, rfl, ⟨⟨_, h1⟩, ⟨_, h2⟩, ⟨_, h4⟩⟩, hi⟩
set_option maxRecDepth 100000 in
theorem open_stages {fuel : Nat} {v : Value} {x : DataW H × List MemPlace} (h : DataW.trod enc Try.prog w base spare held fuel 27 [v] = some x) :
    ∃ A n c ts bs, v = .slice A n c ∧ Hd w (chD ts) (.slice A n c) bs ∧ I64C ts := by
  rcases open_slice Try.underlying27 h with ⟨hcs, _⟩ | ⟨a, len, cap, m, n, D0, P0, hcs, _, hl, hm, hmm, _, hx⟩
  · obtain rfl : v = .slice none 0 0 := by simpa using hcs
    exact ⟨none, 0, 0, [], [], rfl, .sl0 _ _ _ (Nat.zero_le _), fun i => i64_Z⟩
  · obtain rfl : v = .slice (some a) len cap := by simpa using hcs
    obtain ⟨b, o, sp⟩ := a
    have hlm : len ≤ m := by rw [hmm]; split <;> omega
    rcases Nat.eq_zero_or_pos len with h0 | h0
    · subst h0
      exact ⟨_, 0, cap, [], [], rfl, .sl0 _ _ _ hm, fun i => i64_Z⟩
    have hc5 : Try.prog.cellsOf 147 = 5 := by kernel_rfl
    rw [hc5] at hx
    obtain rfl : sp = none := by
      obtain ⟨cs', h1, _⟩ := hx 0 (by omega)
      obtain ⟨_, hlen, hcell⟩ := World.cells?_some h1
      obtain ⟨v0, v1, v2, v3, v4, rfl⟩ := list5 hlen
      have := hcell 0 (by omega)
      rw [add_add] at this
      exact cell_spot (v := v0) (by simpa using this)
    have each : ∀ i, ∃ q : Stg × (Nat → Value) × (Nat → List Nat), i < len → (∀ j, j < 5 → w.cell? ⟨b, o + i * 5 + j, none⟩ = some (q.2.1 j)) ∧ (∀ j, j < 5 → Hd w ((stD q.1).getD j default) (q.2.1 j) (q.2.2 j)) ∧ I64T q.1 := fun i => by
      by_cases hi : i < len
      · obtain ⟨cs', h1, h2⟩ := hx i (by omega)
        obtain ⟨_, hlen, hcell⟩ := World.cells?_some h1
        obtain ⟨v0, v1, v2, v3, v4, rfl⟩ := list5 hlen
        obtain ⟨t, g1, g2, g3, e0, d1, d2, e3, d4, hi64⟩ := open_stage_cells h2
        refine ⟨(t, fun j => [v0, v1, v2, v3, v4].getD j undef, fun j => [[], g1, g2, [], g3].getD j []), fun _ => ⟨fun j hj => ?_, fun j hj => ?_, hi64⟩⟩
        · have := hcell j hj
          rw [add_add, add_flat rfl] at this
          match j, hj with
          | 0, _ => simpa using this
          | 1, _ => simpa [Nat.add_assoc] using this
          | 2, _ => simpa [Nat.add_assoc] using this
          | 3, _ => simpa [Nat.add_assoc] using this
          | 4, _ => simpa [Nat.add_assoc] using this
        · match j, hj with
          | 0, _ => show Hd w (.int .i64 t.kd) v0 []; rw [e0]; exact .int _ _
          | 1, _ => exact d1
          | 2, _ => exact d2
          | 3, _ => show Hd w (.int .i64 t.sd) v3 []; rw [e3]; exact .int _ _
          | 4, _ => exact d4
      · exact ⟨(stZ, fun _ => undef, fun _ => []), fun h => absurd h hi⟩
    obtain ⟨q, hq⟩ := Classical.axiomOfChoice each
    refine ⟨_, len, cap, (List.range len).map fun i => (q i).1, _, rfl, .sl 5 b o len cap _ (fun i => (q i).2.1) (fun i => (q i).2.2) h0 (by omega) (by simp) (fun i hi j hj => (hq i hi).1 j hj) (fun i hi j hj => ?_) hl hm, fun i => ?_⟩
    · have hil : i < ((List.range len).map fun i => (q i).1).length := by simpa using hi
      rw [st_el hil, st_range hi]
      exact (hq i hi).2.1 j hj
    · by_cases hi : i < len
      · rw [st_range hi]; exact (hq i hi).2.2
      · rw [st_out (by simp; omega)]; exact i64_Z
set_option maxRecDepth 100000 in
theorem open_chain {r : Reach} {b0 : Nat} {v : Value} {d : DataW H} {p : List MemPlace} (hv : Value.okWide Try.prog w r b0 29 v) (h : DataW.Trod enc Try.prog w base spare held 29 v d p) :
    ∃ A n c ts bs, v = .agg #[.slice A n c] ∧ Hd w (chD ts) (.slice A n c) bs ∧ I64C ts := by
  obtain ⟨v0, y0, n, rfl, t0⟩ := open_agg1 Try.underlying29 (by kernel_rfl) (by kernel_rfl) hv h
  obtain ⟨A, n, c, ts, bs, rfl, hd, h2⟩ := open_stages t0
  exact ⟨A, n, c, ts, bs, rfl, hd, h2⟩
end
end Go.Proofs.Ytlfdpambbgddoaa
