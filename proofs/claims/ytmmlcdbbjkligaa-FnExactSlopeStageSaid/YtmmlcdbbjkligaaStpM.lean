/-
  The program's stepOf, by kinds.
-/
import Derived.Test.YtmmlcdbbjkligaaStpL
namespace Go.Proofs.Ytmmlcdbbjkligaa
open Go.RowKit Go.Maps
set_option linter.unusedVariables false
set_option linter.unusedSimpArgs false

theorem ta_11 (A : Option Addr) (n c : Nat) (W : World) : (Instr.typeAssert (.iface 186 (.agg #[.slice A n c])) 116 186 true).run Try.prog W = .ok (.tuple #[.agg #[.slice A n c], .bool true]) W := by kernel_rfl
theorem ta_21 (A : Option Addr) (n c : Nat) (W : World) : (Instr.typeAssert (.iface 189 (.agg #[.slice A n c])) 116 186 true).run Try.prog W = .ok (.tuple #[.agg #[.slice none 0 0], .bool false]) W := by kernel_rfl
theorem ta_22 (A : Option Addr) (n c : Nat) (W : World) : (Instr.typeAssert (.iface 189 (.agg #[.slice A n c])) 116 189 true).run Try.prog W = .ok (.tuple #[.agg #[.slice A n c], .bool true]) W := by kernel_rfl
theorem ta_31 (sd : Int) (A : Option Addr) (n c : Nat) (W : World) : (Instr.typeAssert (.iface 191 (.agg #[.int .i64 sd, .slice A n c])) 116 186 true).run Try.prog W = .ok (.tuple #[.agg #[.slice none 0 0], .bool false]) W := by kernel_rfl
theorem ta_32 (sd : Int) (A : Option Addr) (n c : Nat) (W : World) : (Instr.typeAssert (.iface 191 (.agg #[.int .i64 sd, .slice A n c])) 116 189 true).run Try.prog W = .ok (.tuple #[.agg #[.slice none 0 0], .bool false]) W := by kernel_rfl
theorem ta_33 (sd : Int) (A : Option Addr) (n c : Nat) (W : World) : (Instr.typeAssert (.iface 191 (.agg #[.int .i64 sd, .slice A n c])) 116 191 true).run Try.prog W = .ok (.tuple #[.agg #[.int .i64 sd, .slice A n c], .bool true]) W := by kernel_rfl
def SoAns1 (w : World) (o : Int) (A : Option Addr) (n c : Nat) (e : Ending) (w' : World) : Prop :=
  ∃ p q, e = .returned (.func (.func 164) #[] #[.pointer (some ⟨p, 0, none⟩), .pointer (some ⟨q, 0, none⟩)]) ∧ w'.cell? ⟨p, 0, none⟩ = some (.slice A n c) ∧ w'.cell? ⟨q, 0, none⟩ = some (.int .i64 o) ∧ Below w.heap.size w w'
set_option maxRecDepth 100000 in
set_option maxHeartbeats 1000000 in
theorem stepOf_1 (o : Int) (A : Option Addr) (n c : Nat) (w : World) :
    Calls Try.prog 143 #[.iface 186 (.agg #[.slice A n c]), .int .i64 o] w (SoAns1 w o A n c) := by
  have t1 := fun W => ta_11 A n c W
  go_enter Try.func143, Try.ntmps143
  go_wp2_with fail
  go_ret
  exact ⟨_, _, rfl, by simp, by simp, blThenAlloc (blAlloc _ _) _⟩
def SoAns2 (w : World) (o : Int) (rs : Rws) (e : Ending) (w' : World) : Prop :=
  ∃ p q, ∃ m : Nat → Int, e = .returned (.func (.func 166) #[] #[.pointer (some ⟨p, 0, none⟩), .pointer (some ⟨q, 0, none⟩)]) ∧ Bx w' p [.int .i64 (m 0), .int .i64 (m 1), .int .i64 (m 2), .int .i64 (m 3), .int .i64 (m 4), .int .i64 (m 5), .int .i64 (m 6), .int .i64 (m 7), .int .i64 (m 8)] ∧ (∀ t, t < 9 → m t = fl rs t) ∧ w'.cell? ⟨q, 0, none⟩ = some (.int .i64 o) ∧ Below w.heap.size w w'
set_option maxRecDepth 100000 in
set_option maxHeartbeats 1000000 in
theorem stepOf_2 (o : Int) (A : Option Addr) (n c : Nat) (rs : Rws) (w : World) (h : ∃ bs, Hd w (rowsD rs) (.slice A n c) bs) (h0 : mf rs = 0) :
    Calls Try.prog 143 #[.iface 189 (.agg #[.slice A n c]), .int .i64 o] w (SoAns2 w o rs) := by
  obtain ⟨bs, h⟩ := h
  have H := Lib.hid h
  have H0 := Lib.hid h0
  clear h h0
  have t1 := fun W => ta_21 A n c W
  have t2 := fun W => ta_22 A n c W
  go_enter Try.func143, Try.ntmps143
  go_wp2_with fail
  refine (cellsOf_any _ _ _ rs _ _ (H.out.bel (blThenAlloc (blAlloc _ _) _))).mono ?_
  rintro e w1 ⟨m, rfl, hq, hb⟩
  have Q1 := Lib.hid ((Bx.new w #[.int .i64 o] 2 rfl).alloc (.cells #[.slice A n c] 189) |>.bel hb)
  have T1 := Lib.hid (blThen (blThenAlloc (blAlloc w _) _) hb)
  have HM := Lib.hid (hq H0.out)
  clear hb hq
  go_wp2_with fail
  go_ret
  exact ⟨_, _, m, rfl, Bx.new _ _ _ rfl, HM.out, (Q1.out.alloc _).c 0 rfl, blThenAlloc T1.out _⟩
def SoAns3 (w : World) (o : Int) (s : Nat) (rs : Rws) (e : Ending) (w' : World) : Prop :=
  ∃ p g q B D, e = .returned (.func (.func 168) #[] #[.pointer (some ⟨p, 0, none⟩), .pointer (some ⟨g, 0, none⟩), .pointer (some ⟨q, 0, none⟩)]) ∧ w'.cell? ⟨p, 0, none⟩ = some (.map (some B)) ∧ w'.cell? ⟨g, 0, none⟩ = some (.int .i64 (s : Int)) ∧ w'.cell? ⟨q, 0, none⟩ = some (.int .i64 o) ∧ MapN w' B s rs (s * s * s) D ∧ Below w.heap.size w w'
set_option maxRecDepth 100000 in
set_option maxHeartbeats 1000000 in
theorem stepOf_3 (o : Int) (A : Option Addr) (n c s : Nat) (rs : Rws) (w : World) (h : ∃ bs, Hd w (rowsD rs) (.slice A n c) bs) (h0 : gf (s : Int) rs = 0) :
    Calls Try.prog 143 #[.iface 191 (.agg #[.int .i64 (s : Int), .slice A n c]), .int .i64 o] w (SoAns3 w o s rs) := by
  obtain ⟨bs, h⟩ := h
  have H := Lib.hid h
  have H0 := Lib.hid h0
  clear h h0
  have t1 := fun W => ta_31 s A n c W
  have t2 := fun W => ta_32 s A n c W
  have t3 := fun W => ta_33 s A n c W
  go_enter Try.func143, Try.ntmps143
  go_wp2_with fail
  refine (nodesOf_ok A n c s rs _ _ (H.out.bel (blThenAlloc (blAlloc _ _) _)) H0.out).mono ?_
  rintro e w1 ⟨B, D, rfl, hM, hb⟩
  have Q1 := Lib.hid ((Bx.new w #[.int .i64 o] 2 rfl).alloc (.cells #[.int .i64 (s : Int), .slice A n c] 191) |>.bel hb)
  have G1 := Lib.hid ((Bx.new (w.alloc (.cells #[.int .i64 o] 2)) #[.int .i64 (s : Int), .slice A n c] 191 (b := w.heap.size + 1) (by simp)).bel hb)
  have T1 := Lib.hid (blThen (blThenAlloc (blAlloc w _) _) hb)
  have HM := Lib.hid hM
  clear hb hM
  go_wp2_with fail
  go_ret
  exact ⟨_, _, _, B, D, rfl, by simp, (G1.out.alloc _).c 0 rfl, (Q1.out.alloc _).c 0 rfl, HM.out.kept (blAlloc _ _), blThenAlloc T1.out _⟩
end Go.Proofs.Ytmmlcdbbjkligaa
