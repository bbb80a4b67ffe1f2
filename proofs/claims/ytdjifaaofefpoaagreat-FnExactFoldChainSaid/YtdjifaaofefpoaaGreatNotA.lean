/-
  The stages that do nothing: nothings, by the program, each in memory of its own; what is said of a stage, as data.
-/
import Derived.Test.YtdjifaaofefpoaaGreatCurL
import Derived.Test.YtdjifaaofefpoaaGreatMatU
import Derived.Test.YtdjifaaofefpoaaGreatLinG
import Derived.Test.YtdjifaaofefpoaaGreatStpA
import Derived.Test.YtdjifaaofefpoaaGreatChnS
namespace Go.Proofs.YtdjifaaofefpoaaGreat
open Go.RowKit Go.Maps
set_option linter.unusedVariables false
set_option linter.unusedSimpArgs false

def lc2 : List Int := [0, 65535]
def unM : Rws := [[65536, 0, 0], [0, 65536, 0], [0, 0, 65536]]
def nt1 : Stg := ⟨1, [lc2, lc2, lc2], [], 0, []⟩
def nt2 : Stg := ⟨2, [], unM, 0, []⟩
def nt3 : Stg := ⟨3, [], [], 2, lgRs 2 8⟩
def nt4 : Stg := ⟨3, [], [], 4, lgRs 4 64⟩
theorem lnL_2 : lnC 2 = 0 ∧ lnL 2 = lc2 := by decide
theorem maU : maC unQ = 0 ∧ maR unQ = unM := by decide
theorem fldK (a : Int) (G : Option Addr) (n c : Nat) (W : World) : (Instr.field 190 (.agg #[.int .i64 a, .slice G n c]) 1).run Tryz.prog W = .ok (.agg #[.slice G n c]) W := by kernel_rfl
theorem fldM (a : Int) (G : Option Addr) (n c : Nat) (W : World) : (Instr.field 193 (.agg #[.int .i64 a, .slice G n c]) 1).run Tryz.prog W = .ok (.agg #[.slice G n c]) W := by kernel_rfl
theorem fldG (a s : Int) (G : Option Addr) (n c : Nat) (W : World) : (Instr.field 196 (.agg #[.int .i64 a, .int .i64 s, .slice G n c]) 1).run Tryz.prog W = .ok (.agg #[.int .i64 s, .slice G n c]) W := by kernel_rfl
/-- the four, in one block. -/
def ntB (B1 : Option Addr) (c1 : Nat) (B2 : Option Addr) (c2 : Nat) (B3 : Option Addr) (c3 : Nat) (B4 : Option Addr) (c4 : Nat) : List Value :=
  [.int .i64 1, .slice B1 3 c1, .slice none 0 0, .int .i64 0, .slice none 0 0, .int .i64 2, .slice none 0 0, .slice B2 3 c2, .int .i64 0, .slice none 0 0,
   .int .i64 3, .slice none 0 0, .slice none 0 0, .int .i64 2, .slice B3 8 c3, .int .i64 3, .slice none 0 0, .slice none 0 0, .int .i64 4, .slice B4 64 c4]
structure Nts (w : World) (g : Nat) (B1 : Option Addr) (c1 : Nat) (B2 : Option Addr) (c2 : Nat) (B3 : Option Addr) (c3 : Nat) (B4 : Option Addr) (c4 : Nat) (l0 l1 l2 l3 l4 : Nat) : Prop where
  x : Bx w g (ntB B1 c1 B2 c2 B3 c3 B4 c4)
  a : Own w (rowsD nt1.cs) (.slice B1 3 c1) l0 l1
  b : Own w (rowsD nt2.rs) (.slice B2 3 c2) l1 l2
  d : Own w (rowsD nt3.ns) (.slice B3 8 c3) l2 l3
  e : Own w (rowsD nt4.ns) (.slice B4 64 c4) l3 l4
  le : l0 ≤ l1 ∧ l1 ≤ l2 ∧ l2 ≤ l3 ∧ l3 ≤ l4 ∧ l4 ≤ g
theorem Nts.bel {w w' : World} {g : Nat} {B1 : Option Addr} {c1 : Nat} {B2 : Option Addr} {c2 : Nat} {B3 : Option Addr} {c3 : Nat} {B4 : Option Addr} {c4 l0 l1 l2 l3 l4 : Nat} (h : Nts w g B1 c1 B2 c2 B3 c3 B4 c4 l0 l1 l2 l3 l4) (hb : Below w.heap.size w w') : Nts w' g B1 c1 B2 c2 B3 c3 B4 c4 l0 l1 l2 l3 l4 :=
  ⟨h.x.bel hb, h.a.below hb, h.b.below hb, h.d.below hb, h.e.below hb, h.le⟩
def NtAns (w : World) (e : Ending) (w' : World) : Prop :=
  ∃ g B1 c1 B2 c2 B3 c3 B4 c4 l1 l2 l3 l4, e = .returned (.slice (some ⟨g, 0, none⟩) 4 4) ∧ Nts w' g B1 c1 B2 c2 B3 c3 B4 c4 w.heap.size l1 l2 l3 l4 ∧ Below w.heap.size w w'
set_option maxRecDepth 100000 in
set_option maxHeartbeats 4000000 in
theorem nothings_any (w : World) : Calls Tryz.prog 103 #[] w (NtAns w) := by
  have CL : Hid (∀ W, Calls Tryz.prog 143 #[.int .i64 2] W (CurAns W 0 lc2)) := fun W => by
    have := LineCurve_any 2 W
    rw [lnL_2.1, lnL_2.2] at this
    exact this
  have CU : Hid (∀ W, Calls Tryz.prog 144 #[] W (MAns W 0 unM)) := fun W => by
    have := UnitMatrix_any W
    rw [maU.1, maU.2] at this
    exact this
  have CG : Hid (∀ (s : Nat) W, s = 2 ∨ s = 4 → Calls Tryz.prog 145 #[.int .i64 (s : Int)] W (GrAns W 0 s (lgRs s (s * s * s)))) := fun s W hs => by
    have := LineGrid_any s W
    obtain ⟨a, b, c⟩ := lg_yes (s := s) (inB_iff.2 (by omega))
    rw [a, b, c] at this
    exact this
  have f1 := fun a G n c W => fldK a G n c W
  have f2 := fun a G n c W => fldM a G n c W
  have f3 := fun a s G n c W => fldG a s G n c W
  go_enter Tryz.func103, Tryz.ntmps103
  go_wp2_with fail
  refine (CL.out _).mono ?_
  rintro e w1 ⟨G1, n1, c1, rfl, o1, b1⟩
  obtain rfl : 2 = n1 := o1.hd.choose_spec.rd.1
  have T1 := Lib.hid b1
  have O1 := Lib.hid o1
  have S1 := Lib.hid b1.size
  clear o1 b1
  go_wp2_with fail
  refine (CL.out _).mono ?_
  rintro e w2 ⟨G2, n2, c2, rfl, o2, b2⟩
  obtain rfl : 2 = n2 := o2.hd.choose_spec.rd.1
  have T2 := Lib.hid (blThen T1.out b2)
  have O1b := Lib.hid (O1.out.below b2)
  have O2 := Lib.hid o2
  have S2 := Lib.hid b2.size
  clear o2 b2
  go_wp2_with fail
  refine (CL.out _).mono ?_
  rintro e w3 ⟨G3, n3, c3, rfl, o3, b3⟩
  obtain rfl : 2 = n3 := o3.hd.choose_spec.rd.1
  have T3 := Lib.hid (blThen T2.out b3)
  have O1c := Lib.hid (O1b.out.below b3)
  have O2c := Lib.hid (O2.out.below b3)
  have O3 := Lib.hid o3
  have S3 := Lib.hid b3.size
  clear o3 b3 O1 O1b O2
  obtain ⟨W4, hW4⟩ : ∃ W4, W4 = w3.alloc (.cells #[.slice G1 2 c1, .slice G2 2 c2, .slice G3 2 c3] 136) := ⟨_, rfl⟩
  have T4 : Hid (Below w.heap.size w W4) := by show Below _ _ _; rw [hW4]; exact blThenAlloc T3.out _
  have S4 : Hid (W4.heap.size = w3.heap.size + 1) := by show _ = _; rw [hW4]; simp
  have P4 : Hid (Own W4 (rowsD nt1.cs) (.slice (some ⟨w3.heap.size, 0, none⟩) 3 3) w.heap.size W4.heap.size) := by
    show Own _ _ _ _ _
    have e4 := S4.out
    rw [hW4] at e4 ⊢
    exact rows3 (Bx.new w3 #[.slice G1 2 c1, .slice G2 2 c2, .slice G3 2 c3] _ rfl) (O1c.out.alloc _) (O2c.out.alloc _) (O3.out.alloc _) (by have := S1.out; have := S2.out; have := S3.out; omega) (by have := S1.out; have := S2.out; have := S3.out; omega) (.inr (by omega)) (by have := S1.out; have := S2.out; have := S3.out; omega) (by have := S1.out; have := S2.out; have := S3.out; omega) (by have := S1.out; have := S2.out; have := S3.out; omega) (by have := S1.out; have := S2.out; have := S3.out; omega) (by have := S1.out; have := S2.out; have := S3.out; omega) (by have := S1.out; have := S2.out; have := S3.out; omega)
  have HW4 := Lib.hid hW4
  clear hW4
  go_wp2_with fail
  rw [← HW4.out]
  clear HW4 O1c O2c O3
  refine (CU.out _).mono ?_
  rintro e w5 ⟨G5, n5, c5, rfl, o5, b5⟩
  obtain rfl : 3 = n5 := o5.hd.choose_spec.rows.1
  have T5 := Lib.hid (blThen T4.out b5)
  have P5 := Lib.hid (P4.out.below b5)
  have Q5 := Lib.hid o5
  have S5 := Lib.hid b5.size
  clear o5 b5 P4
  go_wp2_with fail
  refine (CG.out 2 _ (.inl rfl)).mono ?_
  rintro e w6 ⟨G6, n6, c6, rfl, o6, b6⟩
  obtain rfl : 8 = n6 := by have := o6.hd.choose_spec.rows.1; simpa [lgRs] using this
  have T6 := Lib.hid (blThen T5.out b6)
  have P6 := Lib.hid (P5.out.below b6)
  have Q6 := Lib.hid (Q5.out.below b6)
  have X6 := Lib.hid o6
  have S6 := Lib.hid b6.size
  clear o6 b6 P5 Q5
  go_wp2_with fail
  refine (CG.out 4 _ (.inr rfl)).mono ?_
  rintro e w7 ⟨G7, n7, c7, rfl, o7, b7⟩
  obtain rfl : 64 = n7 := by have := o7.hd.choose_spec.rows.1; simpa [lgRs] using this
  have T7 := Lib.hid (blThen T6.out b7)
  have P7 := Lib.hid (P6.out.below b7)
  have Q7 := Lib.hid (Q6.out.below b7)
  have X7 := Lib.hid (X6.out.below b7)
  have Y7 := Lib.hid o7
  have S7 := Lib.hid b7.size
  clear o7 b7 P6 Q6 X6
  go_wp2_with fail
  go_ret
  exact ⟨w7.heap.size, some ⟨w3.heap.size, 0, none⟩, 3, G5, c5, G6, c6, G7, c7, W4.heap.size, w5.heap.size, w6.heap.size, w7.heap.size, rfl, ⟨Bx.new _ _ _ rfl, P7.out.alloc _, Q7.out.alloc _, X7.out.alloc _, Y7.out.alloc _, ⟨T4.out.size, S5.out, S6.out, S7.out, Nat.le_refl _⟩⟩, blThenAlloc T7.out _⟩
/-! ### what does nothing -/
def isN (t : Stg) : Bool := sameStg nt1 t || (sameStg nt2 t || (sameStg nt3 t || sameStg nt4 t))
theorem sameStg_iff {t u : Stg} : sameStg t u = true ↔ t = u := by
  unfold sameStg sameG sameM
  constructor
  · intro h
    simp only [Bool.and_eq_true, decide_eq_true_eq] at h
    obtain ⟨h1, h2, h3, h4, h5⟩ := h
    cases t
    cases u
    simp_all
  · rintro rfl
    simp
end Go.Proofs.YtdjifaaofefpoaaGreat
