/-
  Colours on the way through stages: the program's stepsBy.
  A stage and a chain at a colour, by levels or fine numbers: the program's lastOf, evalStage, stepsOf, evalChain and what stands on them.
-/
import Derived.Test.YtdjifaaofefpoaaStpA
import Derived.Test.YtdjifaaofefpoaaChnA
namespace Go.Proofs.Ytdjifaaofefpoaa
open Go.RowKit Go.Maps
set_option linter.unusedVariables false
set_option linter.unusedSimpArgs false

/-- a row of stages that a call may read. -/
structure Sts (w : World) (ts : List Stg) (A : Option Addr) (n : Nat) (vs : List Value) : Prop where
  len : ts.length = n
  at_ : ∀ i, i < n → ∃ b, A = some ⟨b, 0, none⟩ ∧ w.cell? ⟨b, i, none⟩ = some (vs.getD i undef)
  st : ∀ i, i < n → IsStg w (st_ ts i) (vs.getD i undef)
  fine : ∀ i, i < n → sgf (st_ ts i) = 0
theorem Sts.bel {w w' : World} {ts : List Stg} {A : Option Addr} {n : Nat} {vs : List Value} (h : Sts w ts A n vs) (hb : Below w.heap.size w w') : Sts w' ts A n vs :=
  ⟨h.len, fun i hi => by obtain ⟨b, e, hc⟩ := h.at_ i hi; exact ⟨b, e, cell_later hb hc⟩, fun i hi => (h.st i hi).bel hb, h.fine⟩
theorem Sts.of {w : World} {ts : List Stg} {base : Nat} {v : Value} {vs : List Value} (ho : OwnSv w base v ts.length vs) (hs : ∀ i, i < ts.length → IsStg w (st_ ts i) (vs.getD i undef)) (hf : ∀ i, i < ts.length → sgf (st_ ts i) = 0) : ∃ A c, v = .slice A ts.length c ∧ ts.length ≤ c ∧ c ≤ maxLen ∧ Sts w ts A ts.length vs := by
  have ho' := ho
  rcases ho.2 with ⟨rfl, hn⟩ | ⟨g, cap, cur, rfl, b1, b2, b3, b4, b5, b6⟩
  · rw [hn]
    exact ⟨none, 0, rfl, Nat.le_refl _, by unfold maxLen; omega, hn, fun i hi => by omega, fun i hi => by omega, fun i hi => by omega⟩
  · refine ⟨some ⟨g, 0, none⟩, cap, rfl, b3, b4, rfl, fun i hi => ⟨g, rfl, ?_⟩, hs, hf⟩
    have hl := ho.1
    have := World.ownsRow.cellAt ho' i (by omega)
    rw [this]
    simp only [List.getD]
    rw [List.getElem?_eq_getElem (by omega)]
    rfl
theorem sgL_all {ts : List Stg} : ∀ n, sgL ts n = 0 → ∀ i, i < n → sgf (st_ ts i) = 0 := by
  intro n
  induction n with
  | zero => intro _ i hi; omega
  | succ n ih =>
    intro h i hi
    by_cases h0 : sgL ts n = 0
    · by_cases e : i = n
      · subst e
        simp only [sgL] at h
        rw [if_pos h0] at h
        exact h
      · exact ih h0 i (by omega)
    · simp only [sgL] at h
      rw [if_neg h0] at h
      exact absurd h h0
def SbyAns (w : World) (n : Nat) (f : Nat → Nat → Int) (e : Ending) (w' : World) : Prop := ∃ v, e = .returned v ∧ OwnL w' w.heap.size v (n + 1) f ∧ Below w.heap.size w w'
end Go.Proofs.Ytdjifaaofefpoaa
namespace Go.Proofs.Ytdjifaaofefpoaa
open Go.RowKit Go.Maps
set_option linter.unusedVariables false
set_option linter.unusedSimpArgs false

theorem evS_ext (o : Int) (t : Stg) {x x' : Nat → Int} (h : ∀ j, j < 3 → x j = x' j) {i : Nat} (hi : i < 3) : evS o t x i = evS o t x' i := by
  unfold evS apK apS
  rw [h i hi, h 0 (by omega), h 1 (by omega), h 2 (by omega), gvo_ext h]
theorem evW_ext (o : Int) (ts : List Stg) {x x' : Nat → Int} (h : ∀ j, j < 3 → x j = x' j) : ∀ k i, i < 3 → evW o ts x k i = evW o ts x' k i := by
  intro k
  induction k with
  | zero => exact h
  | succ k ih => intro i hi; exact evS_ext o _ ih hi
def esC (o : Int) (t : Stg) (xs : List Int) : Int := if sgf t = 0 then lfo o xs else sgf t
def esL (o : Int) (t : Stg) (xs : List Int) : List Int := if sgf t = 0 ∧ lfo o xs = 0 then [evS o t (xs.getD · 0) 0, evS o t (xs.getD · 0) 1, evS o t (xs.getD · 0) 2] else []
theorem es_f {o : Int} {t : Stg} {xs : List Int} (h : sgf t ≠ 0) : esC o t xs = sgf t ∧ esL o t xs = [] := ⟨by unfold esC; rw [if_neg h], by unfold esL; rw [if_neg (fun q => h q.1)]⟩
theorem es_l {o : Int} {t : Stg} {xs : List Int} (h : sgf t = 0) (h1 : lfo o xs ≠ 0) : esC o t xs = lfo o xs ∧ esL o t xs = [] := ⟨by unfold esC; rw [if_pos h], by unfold esL; rw [if_neg (fun q => h1 q.2)]⟩
theorem es_y {o : Int} {t : Stg} {xs : List Int} (h : sgf t = 0) (h1 : lfo o xs = 0) : esC o t xs = 0 ∧ esL o t xs = [evS o t (xs.getD · 0) 0, evS o t (xs.getD · 0) 1, evS o t (xs.getD · 0) 2] := ⟨by unfold esC; rw [if_pos h, h1], by unfold esL; rw [if_pos ⟨h, h1⟩]⟩
theorem es_len (o : Int) (t : Stg) (xs : List Int) : (esL o t xs).length ≤ 3 := by unfold esL; split <;> simp
/-- a result whose list comes from a call behind the box. -/
theorem IAns.put {w w1 : World} {b : Nat} {xs : List Int} {G : Option Addr} {n c : Nat} (z : Int) (hb : w.heap.size ≤ b) (hbl : b < w1.heap.size) {w2 : World} (ho : Own w2 (.ints .i64 xs) (.slice G n c) w1.heap.size w2.heap.size) (h1 : Below w.heap.size w w2) :
    Own ((w2.setCell ⟨b, 0, none⟩ (.int .i64 z)).setCell ⟨b, 1, none⟩ (.slice G n c)) (.ints .i64 xs) (.slice G n c) w.heap.size ((w2.setCell ⟨b, 0, none⟩ (.int .i64 z)).setCell ⟨b, 1, none⟩ (.slice G n c)).heap.size ∧
      Below w.heap.size w ((w2.setCell ⟨b, 0, none⟩ (.int .i64 z)).setCell ⟨b, 1, none⟩ (.slice G n c)) :=
  ⟨((ho.set (.inl hbl) 0 _).set (.inl hbl) 1 _).mono (by omega) (by simp [setSize]), bel1 (bel1 h1 hb 0 _) hb 1 _⟩
end Go.Proofs.Ytdjifaaofefpoaa
