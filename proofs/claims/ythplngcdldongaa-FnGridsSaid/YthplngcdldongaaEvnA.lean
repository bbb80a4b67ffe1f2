/-
  A grid of like nodes: plain mathematics, and the same row again and again in memory; the law's own small choice (lwAt).
-/
import Derived.Test.YthplngcdldongaaLinI
import Derived.Test.YthplngcdldongaaSpnA
import Derived.Test.YthplngcdldongaaStpA
import Derived.Test.YthplngcdldongaaDrawC2
namespace Go.Proofs.Ythplngcdldongaa
open Go.RowKit Go.Maps
set_option linter.unusedVariables false
set_option linter.unusedSimpArgs false

def rep (N : Nat) (nd : List Int) : Rws := List.replicate N nd
theorem rep_at {N t : Nat} {nd : List Int} (h : t < N) : rw_ (rep N nd) t = nd := by simp [rw_, rep, List.getD, h]
theorem rep_len (N : Nat) (nd : List Int) : (rep N nd).length = N := by simp [rep]
theorem gf_rep {s : Nat} (h3 : s = 2 ∨ s = 3 ∨ s = 4) {nd : List Int} (hn : lf nd = 0) : gf (s : Int) (rep (s * s * s) nd) = 0 := by
  rw [gf_rows (rep_len _ _) (inB_iff.2 (by omega)) (by rcases h3 with rfl | rfl | rfl <;> rfl)]
  have : ∀ i, i ≤ s * s * s → gfl (rep (s * s * s) nd) i = 0 := by
    intro i
    induction i with
    | zero => intro _; rfl
    | succ i ih =>
      intro hi
      refine gfl_on (ih (by omega)) ?_
      rw [rep_at (by omega)]; exact hn
  exact this _ (Nat.le_refl _)
theorem gvl_rep {s : Nat} (h3 : s = 2 ∨ s = 3 ∨ s = 4) {nd : List Int} {v : Nat → Int} (hv : Lv v) {i : Nat} (hi : i < 3) : gvl (s : Int) (rep (s * s * s) nd) v i = nd.getD i 0 := by
  have hs3 : (s : Int) = 2 ∨ (s : Int) = 3 ∨ (s : Int) = 4 := by omega
  have hT : Top 65535 := .inl rfl
  have hvT : LvT 65535 v := hv
  have hn : ∀ t, t ≤ 3 → nd.getD i 0 ≤ ndv (rep (s * s * s) nd) s (pl (ccT 65535 s v) (crT 65535 s v) t) i ∧ ndv (rep (s * s * s) nd) s (pl (ccT 65535 s v) (crT 65535 s v) t) i ≤ nd.getD i 0 := fun t ht => by
    obtain ⟨a, -⟩ := nd_yes h3 (plT_in (r := crT 65535 s v) hT hs3 hvT ht)
    unfold ndv
    rw [rep_at a]
    exact ⟨Int.le_refl _, Int.le_refl _⟩
  have hsm := smT_in hT (crT_bd hT hs3 hvT) (rs := rep (s * s * s) nd) (sd := (s : Int)) (c := ccT 65535 s v) (i := i) hn
  rw [smT_1, ccT_1, crT_1] at hsm
  have := rnd_in (b := 65535) (by omega) hsm.1 hsm.2
  unfold gvl
  omega
theorem egL_rep {s : Nat} (h3 : s = 2 ∨ s = 3 ∨ s = 4) {nd ps : List Int} (hn : lf nd = 0) (hp : lf ps = 0) : egL (s : Int) (rep (s * s * s) nd) ps = nd := by
  have hv : Lv (ps.getD · 0) := fun j hj => inB_iff.1 ((lf_zero hp).2 j hj)
  rw [(eg_y (gf_rep h3 hn) hp).2, gvl_rep h3 hv (by omega), gvl_rep h3 hv (by omega), gvl_rep h3 hv (by omega)]
  match nd, (lf_zero hn).1 with
  | [a, b, c], _ => rfl
theorem spV_rep {s : Nat} (h3 : s = 2 ∨ s = 3 ∨ s = 4) {nd : List Int} (hn : lf nd = 0) : spV (s : Int) (rep (s * s * s) nd) = 0 := by
  rw [sp_y (gf_rep h3 hn)]
  have : ∀ c, c ≤ 3 * (s * s * s) → spn s (rep (s * s * s) nd) c = 0 := by
    intro c
    induction c with
    | zero => intro _; rfl
    | succ c ih =>
      intro hc
      simp only [spn]
      split
      · rename_i h
        have ht : c / 3 < s * s * s := by omega
        obtain ⟨h2, -⟩ := cor_next h3 ht (Nat.mod_lt c (by omega)) h
        have e : far3 (rwf (rep (s * s * s) nd) (c / 3)) (rwf (rep (s * s * s) nd) (c / 3 + stq s (c % 3))) 3 = 0 := by
          have e1 : ∀ k, rwf (rep (s * s * s) nd) (c / 3) k = nd.getD k 0 := fun k => by unfold rwf; rw [rep_at ht]
          have e2 : ∀ k, rwf (rep (s * s * s) nd) (c / 3 + stq s (c % 3)) k = nd.getD k 0 := fun k => by unfold rwf; rw [rep_at h2]
          simp only [far3, e1, e2]
          omega
        rw [ih (by omega), e]
        rfl
      · exact ih (by omega)
  exact this _ (Nat.le_refl _)
/-! ### the same row in each place -/
theorem hd_rep {w : World} {nd : List Int} {y : Value} {gs : List Nat} {g n c base : Nat} (ho : OwnV w base (.slice (some ⟨g, 0, none⟩) n c) n (List.replicate n y)) (hy : Hd w (.ints .i64 nd) y gs) (hn : 0 < n) : ∃ bs, Hd w (rowsD (rep n nd)) (.slice (some ⟨g, 0, none⟩) n c) bs := by
  have hcap : n ≤ c ∧ c ≤ maxLen := by
    rcases ho.2 with ⟨e, -⟩ | ⟨g', cap, cur, hv, b1, b2, b3, b4, b5, b6⟩
    · cases e
    · injection hv with hv1 hv2 hv3
      subst hv3
      exact ⟨b3, b4⟩
  refine ⟨_, .sl 1 g 0 n c _ (fun _ _ => y) (fun _ _ => gs) hn (by omega) (by simp [rep]) (fun i hi j hj => ?_) (fun i hi j hj => ?_) hcap.1 hcap.2⟩
  · obtain rfl : j = 0 := by omega
    have := World.ownsRow.cellAt ho i (by simpa using hi)
    rw [show 0 + i * 1 + 0 = i by omega, this, List.getElem?_replicate, if_pos hi]
  · obtain rfl : j = 0 := by omega
    have e : At ((rep n nd).map fun r => [Dat.ints .i64 r]) i 0 = .ints .i64 nd := by rw [rows_at (by rw [rep_len]; exact hi), rep_at hi]
    have e2 : (((rep n nd).map fun r => [Dat.ints .i64 r]).getD i []).getD 0 default = .ints .i64 nd := e
    rw [e2]
    exact hy
theorem rep_snoc (n : Nat) (y : Value) : List.replicate n y ++ [y] = List.replicate (n + 1) y := by rw [List.replicate_succ']
/-! ### the law's own choice, of few -/
end Go.Proofs.Ythplngcdldongaa
