/-
  Plain parts: a list whose rows are laid anew, a row put; the rows of a line grid.
-/
import Derived.Test.YthplngcdldongaaLinS
import Derived.Test.YthplngcdldongaaStpA
namespace Go.Proofs.Ythplngcdldongaa
open Go.RowKit Go.Maps
set_option linter.unusedVariables false
set_option linter.unusedSimpArgs false

/-! ### a row in the place of another one -/
theorem Hd.refill {w : World} {m b o n c : Nat} {els els' : List (List Dat)} {bs gs : List Nat} {d : Dat} {x : Value} (h : Hd w (.sl m els) (.slice (some ⟨b, o, none⟩) n c) bs) (nd : bs.Nodup) {i j : Nat} (hi : i < n) (hj : j < m)
    (hd : Hd w d x gs) (ndg : gs.Nodup) (dis : ∀ g ∈ gs, g ∉ bs) (hp : Put m n i j d els els') :
    ∃ bs', Hd (w.setCell ⟨b, o + i * m + j, none⟩ x) (.sl m els') (.slice (some ⟨b, o, none⟩) n c) bs' ∧ bs'.Nodup ∧ (∀ y ∈ bs', y ∈ bs ∨ y ∈ gs) := by
  obtain ⟨hl, hc, hm, hf⟩ := h.sl_inv
  obtain ⟨b', o', V, G, e, hm0, hr, hh, rfl⟩ := hf (by omega)
  injection e with e
  injection e with e1 e2
  subst e1 e2
  rw [List.nodup_cons] at nd
  obtain ⟨nd1, nd2⟩ := nd
  have nd2' := fam_nodup.1 nd2
  have nb : ∀ i, i < n → ∀ j, j < m → b ∉ G i j := fun i hi j hj hx => nd1 (mem_fam.2 ⟨i, hi, j, hj, hx⟩)
  have nbg : b ∉ gs := fun hb => dis b hb (by simp)
  have far : ∀ i', i' < n → ∀ j', j' < m → ∀ g ∈ gs, g ∉ G i' j' := fun i' hi' j' hj' g hg hg' => dis g hg (List.mem_cons_of_mem _ (mem_fam.2 ⟨i', hi', j', hj', hg'⟩))
  have hch : Ch w (w.setCell ⟨b, o + i * m + j, none⟩ x) (· = b) := Ch.setCell w (P := (· = b)) rfl _ x
  refine ⟨b :: fam n m (updG G i j gs), ?_, ?_, ?_⟩
  · refine .sl m b o n c els' (updV V i j x) (updG G i j gs) (by omega) hm0 hp.1 (fun i' hi' j' hj' => ?_) (fun i' hi' j' hj' => ?_) hc hm
    · by_cases e : i' = i ∧ j' = j
      · obtain ⟨rfl, rfl⟩ := e
        rw [World.cell?_setCell_same' w _ _ (by rw [hr i' hi' j' hj']; rfl)]
        simp [updV]
      · rw [World.cell?_setCell_other _ _ _ _ (by simp only [ne_eq, Addr.mk.injEq, true_and, and_true]; intro e'; exact e (place_inj hj hj' (by omega)))]
        simp only [updV, if_neg e]; exact hr i' hi' j' hj'
    · by_cases e : i' = i ∧ j' = j
      · obtain ⟨rfl, rfl⟩ := e
        show Hd _ (At els' i' j') _ _
        rw [hp.2.1]
        simp only [updV, updG, and_self, if_true]
        exact hd.ch hch (fun y hy e => by subst e; exact nbg hy)
      · show Hd _ (At els' i' j') _ _
        rw [hp.2.2 i' hi' j' hj' e]
        simp only [updV, updG, if_neg e]
        exact (hh i' hi' j' hj').ch hch (fun y hy e => by subst e; exact nb i' hi' j' hj' hy)
  · rw [List.nodup_cons, fam_nodup]
    refine ⟨fun hb => ?_, fun i' hi' j' hj' => ?_, fun i1 hi1 j1 hj1 i2 hi2 j2 hj2 hne y hy hy' => ?_⟩
    · obtain ⟨i', hi', j', hj', hb⟩ := mem_fam.1 hb
      unfold updG at hb
      split at hb
      · exact nbg hb
      · exact nb i' hi' j' hj' hb
    · unfold updG; split
      · exact ndg
      · exact nd2'.1 i' hi' j' hj'
    · unfold updG at hy hy'
      split at hy
      · rename_i e1
        split at hy'
        · rename_i e2
          exact hne ⟨by rw [e1.1, e2.1], by rw [e1.2, e2.2]⟩
        · exact far i2 hi2 j2 hj2 y hy hy'
      · split at hy'
        · exact far i1 hi1 j1 hj1 y hy' hy
        · exact nd2'.2 i1 hi1 j1 hj1 i2 hi2 j2 hj2 hne y hy hy'
  · intro y hy
    rcases List.mem_cons.1 hy with rfl | hy
    · exact .inl (by simp)
    · obtain ⟨i', hi', j', hj', hy⟩ := mem_fam.1 hy
      unfold updG at hy
      split at hy
      · exact .inr hy
      · exact .inl (List.mem_cons_of_mem _ (mem_fam.2 ⟨i', hi', j', hj', hy⟩))
/-- a row is put in the place of another one. -/
theorem Own.putRow {w : World} {b o n c lo mid hi i : Nat} {rs rs' : Rws} {xs : List Int} {x : Value} (h : Own w (rowsD rs) (.slice (some ⟨b, o, none⟩) n c) lo mid) (hi' : i < n)
    (hx : Own w (.ints .i64 xs) x mid hi) (hlo : lo ≤ mid) (hmid : mid ≤ hi) (hl : rs'.length = rs.length) (hs : rw_ rs' i = xs) (ho : ∀ j, j < n → j ≠ i → rw_ rs' j = rw_ rs j) :
    Own (w.setCell ⟨b, o + i, none⟩ x) (rowsD rs') (.slice (some ⟨b, o, none⟩) n c) lo hi := by
  obtain ⟨bs, h1, h2, h3⟩ := h
  have hn : rs.length = n := h1.rows.1
  obtain ⟨gs, g1, g2, g3⟩ := hx
  have hp : Put 1 n i 0 (.ints .i64 xs) (rs.map fun r => [.ints .i64 r]) (rs'.map fun r => [.ints .i64 r]) := by
    refine ⟨by rw [List.length_map, hl, hn], by rw [rows_at (by omega), hs], fun i' hi1 j' hj1 hne => ?_⟩
    obtain rfl : j' = 0 := by omega
    have hii : i' ≠ i := fun e => hne ⟨e, rfl⟩
    rw [rows_at (by omega), rows_at (by omega), ho i' hi1 hii]
  obtain ⟨bs', k1, k2, k3⟩ := Hd.refill h1 h2 hi' (show 0 < 1 by omega) g1 g2 (fun g hg hb => by have := (h3 g hb).2.1; have := (g3 g hg).1; omega) hp
  rw [Nat.mul_one, Nat.add_zero] at k1
  refine ⟨bs', k1, k2, fun y hy => ?_⟩
  rcases k3 y hy with hy | hy
  · obtain ⟨a, b, c⟩ := h3 y hy
    exact ⟨a, by omega, fun i => by rw [← c i]; simp⟩
  · obtain ⟨a, b, c⟩ := g3 y hy
    exact ⟨by omega, b, fun i => by rw [← c i]; simp⟩

theorem lgV_in {s x : Nat} (hs : s = 2 ∨ s = 3 ∨ s = 4) (hx : x < s) : 0 ≤ lgV s x ∧ lgV s x ≤ 65535 := by
  unfold lgV
  have hb : (0 : Int) < (s : Int) - 1 := by omega
  refine rnd_in hb (by omega) ?_
  rw [Int.mul_comm]
  exact Int.mul_le_mul_of_nonneg_left (by omega) (by omega)
theorem lgRow_lf {s t : Nat} (hs : s = 2 ∨ s = 3 ∨ s = 4) (ht : t < s * s * s) : lfo 1 (lgRow s t) = 0 := by
  refine lfo_ok rfl fun j hj => inB_iff.2 ?_
  have a0 : t / (s * s) < s := Nat.div_lt_of_lt_mul ht
  have a1 : t / s % s < s := Nat.mod_lt _ (by omega)
  have a2 : t % s < s := Nat.mod_lt _ (by omega)
  have := lgV_in hs a0
  have := lgV_in hs a1
  have := lgV_in hs a2
  match j, hj with
  | 0, _ => show 0 ≤ lgV s _ ∧ lgV s _ ≤ 65535 * 1; omega
  | 1, _ => show 0 ≤ lgV s _ ∧ lgV s _ ≤ 65535 * 1; omega
  | 2, _ => show 0 ≤ lgV s _ ∧ lgV s _ ≤ 65535 * 1; omega
end Go.Proofs.Ythplngcdldongaa
