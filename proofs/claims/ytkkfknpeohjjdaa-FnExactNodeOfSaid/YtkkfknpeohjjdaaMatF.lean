/-
  Matrices that are compared by the model: SameMatrices.
-/
import Derived.Test.YtkkfknpeohjjdaaMatE
namespace Go.Proofs.Ytkkfknpeohjjdaa
open Go.RowKit
set_option linter.unusedVariables false

theorem quietAD' {P : Program} {f : FuncId} {args : Array Value} {w : World} {a n : Nat} {v : Value}
    (h : Calls P f args (w.drewN (a + n)) fun e w' => e = .returned v ∧ ∃ m, w' = (w.drewN (a + n)).drewN m) : Calls P f args (w.drewN (a + n)) fun e w'' => e = .returned v ∧ ∃ m, w'' = w.drewN (a + m) :=
  h.mono fun _ _ ⟨he, m, hm⟩ => ⟨he, n + m, by rw [hm, World.drewN_drewN, Nat.add_assoc]⟩
end Go.Proofs.Ytkkfknpeohjjdaa
