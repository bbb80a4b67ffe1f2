/-
  Chains that are compared by the reference model: SameChains.
-/
import Derived.Test.YtmcdbingcclpcaaChnT
namespace Go.Proofs.Ytmcdbingcclpcaa
open Go.RowKit
set_option linter.unusedVariables false
set_option linter.unusedSimpArgs false

set_option maxRecDepth 100000 in
set_option maxHeartbeats 8000000 in
theorem sSameChains_any (A A' : Option Addr) (n n' c c' : Nat) (ts us : List Stg) (bs bs' : List Nat) (w : World) (h : Hd w (chD ts) (.slice A n c) bs) (h' : Hd w (chD us) (.slice A' n' c') bs') :
    Calls Try.prog 73 #[.agg #[.slice A n c], .agg #[.slice A' n' c']] w (SbAns w (sameC ts us)) := by
  obtain ⟨hl, hc1, hc2⟩ := h.stgs
  obtain ⟨hl', hc1', hc2'⟩ := h'.stgs
  unfold maxLen at hc2 hc2'
  obtain ⟨W0, hW0⟩ : ∃ W0, W0 = (w.alloc (.cells #[.slice A n c] 91)).alloc (.cells #[.slice A' n' c'] 91) := ⟨_, rfl⟩
  have X0 : Hid (Bx W0 w.heap.size [.slice A n c]) := by show Bx _ _ _; rw [hW0]; exact (Bx.new _ _ _ rfl).alloc _
  have Y0 : Hid (Bx W0 (w.heap.size + 1) [.slice A' n' c']) := by show Bx _ _ _; rw [hW0]; exact Bx.new _ _ _ (by simp)
  have T0 : Hid (Below w.heap.size w W0) := by show Below _ _ _; rw [hW0]; exact blThenAlloc (blAlloc _ _) _
  have H := Lib.hid (h.bel T0.out)
  have H' := Lib.hid (h'.bel T0.out)
  clear h h'
  have x0 := X0.out.c 0 rfl
  have y0 := Y0.out.c 0 rfl
  have lx := X0.out.lt
  have ly := Y0.out.lt
  by_cases en : n = n'
  · subst en
    have HL := Lib.hid hl
    have HL' := Lib.hid hl'
    clear hl hl'
    go_enter Try.func73, Try.ntmps73
    go_wp2_with fail
    rw [← hW0]
    clear hW0
    go_loopw [5] (fun i wr => ∃ k : Nat, k ≤ n ∧ i = .int .i64 k ∧ Hid (∀ j, j < k → sameT (st_ ts j) (st_ us j) = true) ∧ Hid (Below W0.heap.size W0 wr)) (fun i _ => n - (intOf i).toNat)
    case atStart => exact ⟨0, by omega, rfl, fun j hj => absurd hj (by omega), Below.refl _ _⟩
    case round =>
      obtain ⟨k, hk, rfl, hsk, HB⟩ := hrel
      have z0 := cell_later HB.out x0
      have z1 := cell_later HB.out y0
      by_cases hlt : k < n
      · obtain ⟨b, o, A1, n1, c1, A2, n2, c2, A3, n3, c3, eA, x5, x6, x7, x8, x9, hx⟩ := (H.out.bel HB.out).stg hlt
        obtain ⟨b', o', B1, m1, d1, B2, m2, d2, B3, m3, d3, eB, y5, y6, y7, y8, y9, hy⟩ := (H'.out.bel HB.out).stg hlt
        rw [eA] at z0
        rw [eB] at z1
        have CT := Lib.hid (fun W (hW : Below wr.heap.size wr W) => sSameStage6_any b (o + k * 5) b' (o' + k * 5) (st_ ts k) (st_ us k) A1 A2 A3 n1 c1 n2 c2 n3 c3 B1 B2 B3 m1 d1 m2 d2 m3 d3 W (hx.bel hW) (hy.bel hW) (cell_later hW x5) (cell_later hW x6) (cell_later hW x7) (cell_later hW x8) (cell_later hW x9) (cell_later hW y5) (cell_later hW y6) (cell_later hW y7) (cell_later hW y8) (cell_later hW y9))
        obtain ⟨bo, hbo⟩ : ∃ x, x = sameT (st_ ts k) (st_ us k) := ⟨_, rfl⟩
        rw [← hbo] at CT
        have HBO := Lib.hid hbo
        clear hbo eA eB x5 x6 x7 x8 x9 y5 y6 y7 y8 y9 hx hy
        go_wp2_with fail
        go_region_held3 (fun w' => w'.cell? ⟨w.heap.size, 0, none⟩ = some (.slice (some ⟨b, o, none⟩) n c) ∧ w'.cell? ⟨w.heap.size + 1, 0, none⟩ = some (.slice (some ⟨b', o', none⟩) n c') ∧ Below wr.heap.size wr w')
          (first | (go_split_ands; exact ⟨cell_later hb (by assumption), cell_later hb (by assumption), blThen (by assumption) hb⟩) | exact ⟨z0, z1, (Below.refl _ _).drew⟩)
          (first | (go_at_call 131; go_split_ands; refine (CT.out _ (by assumption)).mono ?_; rintro e w' ⟨rfl, hb⟩))
        go_split_ands
        rename World => W6
        rename Below wr.heap.size wr W6 => hB6
        have HB6 := Lib.hid (blThen HB.out hB6)
        clear hB6 z0 z1 CT HB
        cases bo with
        | true =>
          have HSK : Hid (∀ j, j < k + 1 → sameT (st_ ts j) (st_ us j) = true) := fun j hj => by
            by_cases e : j = k
            · subst e; exact HBO.out.symm
            · exact hsk.out j (by omega)
          go_wp2_with fail
          go_roundw
          case rel => exact ⟨k + 1, by omega, by go_num, HSK, HB6⟩
          case measure => simp [intOf]; omega
        | false =>
          have HR := Lib.hid (sameC_at (us := us) HL.out hlt HBO.out.symm)
          go_wp2_with fail
          go_ret
          exact ⟨ret_bool HR.out.symm, blThen T0.out HB6.out⟩
      · obtain rfl : k = n := by omega
        have HK := Lib.hid (sameC_all HL.out HL'.out hsk.out)
        clear hsk
        go_wp2_with fail
        go_ret
        exact ⟨ret_bool HK.out.symm, blThen T0.out HB.out⟩
  · have HS : Hid (sameC ts us = false) := sameC_len (by omega)
    have he : ((n : Int) == (n' : Int)) = false := by simp; omega
    have he2 : ((n : Int) != (n' : Int)) = true := by rw [bne, he]; rfl
    clear hl hl' en
    go_enter Try.func73, Try.ntmps73
    go_wp2_with fail
    go_ret
    exact ⟨ret_bool HS.out.symm, by rw [← hW0]; exact T0.out⟩
end Go.Proofs.Ytmcdbingcclpcaa
