/-
  The laws' helpers over lists of int64 and over curves: eqInt64S, markInt64S, heldInt64S, toInt64S, szInt64S; eqCurve, eqCurveResult, markCurve, heldCurve, markCurveResult, heldCurveResult, toCurve, szCurve; eqIntResult.
  Lists of lists of int64 and matrices: as data; the laws' helpers over them (eqInt64SS .. heldMatrixResult), and over results of int64 lists.
  Grids: the laws' helpers over them (eqGrid .. heldGridResult).
-/
import Derived.Test.YthplngcdldongaaBaseA
import Derived.Deep.RegionHeld3
namespace Go.Proofs.Ythplngcdldongaa
open Go.RowKit
set_option linter.unusedVariables false

def imark (k : Int) (j : Nat) : Int := k + j
def imarks (k : Int) (n : Nat) : List Int := (List.range n).map (imark k)
theorem imarks_get {k : Int} {n i : Nat} (h : i < n) : (imarks k n).getD i 0 = imark k i := by
  unfold imarks; simp [List.getD, h]
theorem imarks_len (k : Int) (n : Nat) : (imarks k n).length = n := by simp [imarks]

theorem info_i64 : (Try.prog.info? 2).map (fun i => (i.zero, i.size, i.bytes)) = some (some (.int .i64 0), 1, 8) := by kernel_rfl
/-! ### curves -/
end Go.Proofs.Ythplngcdldongaa
namespace Go.Proofs.Ythplngcdldongaa
open Go.RowKit
set_option linter.unusedVariables false

abbrev Rws := List (List Int)
def rowsD (rs : Rws) : Dat := .sl 1 (rs.map fun r => [.ints .i64 r])
def rw_ (rs : Rws) (i : Nat) : List Int := rs.getD i []
theorem rows_el {rs : Rws} {i : Nat} (h : i < rs.length) : (rs.map fun r => [Dat.ints .i64 r]).getD i [] = [.ints .i64 (rw_ rs i)] := by
  simp [rw_, List.getD, h]
theorem rows_at {rs : Rws} {i : Nat} (h : i < rs.length) : At (rs.map fun r => [Dat.ints .i64 r]) i 0 = .ints .i64 (rw_ rs i) := by unfold At; rw [rows_el h]; rfl
theorem Hd.rows {w : World} {rs : Rws} {A : Option Addr} {n c : Nat} {bs : List Nat} (h : Hd w (rowsD rs) (.slice A n c) bs) :
    rs.length = n ∧ n ≤ c ∧ c ≤ maxLen ∧ (0 < n → ∃ b o, A = some ⟨b, o, none⟩ ∧ ∀ i, i < n →
      ∃ B L C gs, w.cell? ⟨b, o + i, none⟩ = some (.slice B L C) ∧ Hd w (.ints .i64 (rw_ rs i)) (.slice B L C) gs ∧ ∀ g ∈ gs, g ∈ bs) := by
  obtain ⟨hl, hc, hm, hf⟩ := h.sl_inv
  rw [List.length_map] at hl
  refine ⟨hl, hc, hm, fun hn => ?_⟩
  obtain ⟨b, o, V, G, rfl, h0, hr, hh, rfl⟩ := hf hn
  refine ⟨b, o, rfl, fun i hi => ?_⟩
  have c1 := hr i hi 0 (by omega)
  have d1 : Hd w (At (rs.map fun r => [Dat.ints .i64 r]) i 0) _ _ := hh i hi 0 (by omega)
  rw [rows_at (by omega)] at d1
  obtain ⟨B, L, C, e, _⟩ := d1.ints_inv
  rw [e] at c1 d1
  rw [Nat.mul_one, Nat.add_zero] at c1
  exact ⟨B, L, C, _, c1, d1, fun g hg => List.mem_cons_of_mem _ (mem_fam.2 ⟨i, hi, 0, by omega, hg⟩)⟩
/-- one row of a list. -/
theorem Hd.row {w : World} {rs : Rws} {A : Option Addr} {n c : Nat} {bs : List Nat} (h : Hd w (rowsD rs) (.slice A n c) bs) {k : Nat} (hk : k < n) :
    ∃ b o B L C gs, A = some ⟨b, o, none⟩ ∧ w.cell? ⟨b, o + k, none⟩ = some (.slice B L C) ∧ Hd w (.ints .i64 (rw_ rs k)) (.slice B L C) gs ∧ (∀ g ∈ gs, g ∈ bs) := by
  obtain ⟨_, _, _, hf⟩ := h.rows
  obtain ⟨b, o, e, hf⟩ := hf (by omega)
  obtain ⟨B, L, C, gs, c1, hd, hg⟩ := hf k hk
  exact ⟨b, o, B, L, C, gs, e, c1, hd, hg⟩
def RsSmall (rs : Rws) : Prop := rs.length ≤ 1048576 ∧ ∀ i, i < rs.length → (rw_ rs i).length ≤ 1048576
theorem info_rows : (Try.prog.info? 27).map (fun i => (i.zero, i.size, i.bytes)) = some (some (.slice none 0 0), 1, 24) := by kernel_rfl
def partR (rs : Rws) (k : Nat) : List (List Dat) := (List.range rs.length).map fun i => if i < k then [.ints .i64 (rw_ rs i)] else [.ints .i64 []]
theorem partR_zero (rs : Rws) : partR rs 0 = List.replicate rs.length [.ints .i64 []] := by
  unfold partR
  refine List.ext_getElem (by simp) (fun i h1 h2 => ?_)
  simp
theorem partR_wide {rs : Rws} {k i : Nat} (hi : i < rs.length) : ((partR rs k).getD i []).length = 1 := by
  unfold partR; rw [el_range hi]; split <;> rfl
theorem partR_old {rs : Rws} {k : Nat} (hk : k < rs.length) (j : Nat) : At (partR rs k) k j = [Dat.ints .i64 []].getD j default := by
  unfold partR; rw [at_range hk, if_neg (by omega)]
theorem zero_row (w : World) (j : Nat) (hj : j < (#[.slice none 0 0] : Array Value).size) : Hd w (([.ints .i64 []] : List Dat).getD j default) ((#[.slice none 0 0] : Array Value)[j]) [] := by
  match j, hj with
  | 0, _ => exact .ints0 _ _ _ (Nat.zero_le _)
/-- one row more has been laid. -/
theorem partR_step {w : World} {rs : Rws} {k n c b o lo mid hi : Nat} {x : Value} (hl : rs.length = n) (hk : k < n) (h : Own w (.sl 1 (partR rs k)) (.slice (some ⟨b, o, none⟩) n c) lo mid) (hx : Own w (.ints .i64 (rw_ rs k)) x mid hi) (hlo : lo ≤ mid) (hmid : mid ≤ hi) :
    Own (w.setCell ⟨b, o + k, none⟩ x) (.sl 1 (partR rs (k + 1))) (.slice (some ⟨b, o, none⟩) n c) lo hi := by
  have w0 : 0 < ((partR rs k).getD k []).length := by rw [partR_wide (by omega)]; omega
  have pl : (partR rs k).length = n := by simp [partR, hl]
  have s1 := h.fill (els' := setEl (partR rs k) k 0 (.ints .i64 (rw_ rs k))) hk (by omega : 0 < 1) (fun gs x hd => by rw [partR_old (by omega)] at hd; exact hd.flat_nil) hx hlo hmid (put_setEl pl hk w0)
  rw [Nat.mul_one, Nat.add_zero] at s1
  refine s1.ext (by rw [setEl_len]; simp [partR]) (fun i hi' j hj => ?_)
  rw [at_setEl (by omega) w0]
  unfold partR
  rw [at_range (by omega), at_range (by omega)]
  obtain rfl : j = 0 := by omega
  by_cases e : i = k
  · subst e; simp
  · by_cases h2 : i < k
    · simp [e, h2, show i < k + 1 by omega]
    · simp [e, h2, show ¬ i < k + 1 by omega]
theorem partR_all (rs : Rws) : partR rs rs.length = rs.map fun r => [Dat.ints .i64 r] := by
  unfold partR
  refine List.ext_getElem (by simp) (fun i h1 h2 => ?_)
  have : i < rs.length := by simpa using h1
  simp [this, rw_, List.getD]

/-! ### eq -/
structure EqI (w w' : World) (B1 B2 : Option Addr) (L : Nat) (xs : List Int) : Prop where
  a : Rd .i64 w' B1 L xs
  b : Rd .i64 w' B2 L xs
  c : Below w.heap.size w w'
theorem EqI.below {w w1 w' : World} {B1 B2 : Option Addr} {L : Nat} {xs : List Int} (h : EqI w w1 B1 B2 L xs) (hb : Below w1.heap.size w1 w') : EqI w w' B1 B2 L xs :=
  ⟨h.a.below hb, h.b.below hb, blThen h.c hb⟩
/-! ### sz -/
/-! ### to -/
/-! ### marks -/
/-- the number of the first mark of row i. -/
def kR (rs : Rws) (k : Nat) : Nat → Nat
  | 0 => k
  | i + 1 => kR rs k i + (rw_ rs i).length
def mkR (rs : Rws) (k i : Nat) : Rws := (List.range rs.length).map fun j => if j < i then imarks (kR rs k j : Nat) (rw_ rs j).length else rw_ rs j
theorem mkR_len (rs : Rws) (k i : Nat) : (mkR rs k i).length = rs.length := by simp [mkR]
theorem mkR_get {rs : Rws} {k i j : Nat} (hj : j < rs.length) : rw_ (mkR rs k i) j = if j < i then imarks (kR rs k j : Nat) (rw_ rs j).length else rw_ rs j := by
  conv => lhs; unfold rw_ mkR
  simp [List.getD, hj]
theorem mkR_zero (rs : Rws) (k : Nat) : mkR rs k 0 = rs := by
  unfold mkR
  refine List.ext_getElem (by simp) (fun i h1 h2 => ?_)
  simp [rw_, List.getD, h2]
theorem kR_le (rs : Rws) (k : Nat) (hs : RsSmall rs) (i : Nat) (hi : i ≤ rs.length) : kR rs k i ≤ k + i * 1048576 := by
  induction i with
  | zero => simp [kR]
  | succ i ih =>
    have h1 := ih (by omega)
    have h2 := hs.2 i (by omega)
    simp only [kR]
    omega
theorem kR_big {rs : Rws} {k : Nat} (hs : RsSmall rs) (hk : k ≤ 8000000000000000000) {i : Nat} (hi : i ≤ rs.length) : kR rs k i ≤ 8000001100000000000 := by
  have h1 := kR_le rs k hs i hi
  have h2 := hs.1
  have h3 : i * 1048576 ≤ 1048576 * 1048576 := Nat.mul_le_mul_right _ (by omega)
  omega
theorem kR_mid (rs : Rws) (k : Nat) (hs : RsSmall rs) (hk : k ≤ 2000000000000) : kR rs k rs.length ≤ k + 1100000000000 := by
  have h1 := kR_le rs k hs rs.length (Nat.le_refl _)
  have h2 := hs.1
  have h3 : rs.length * 1048576 ≤ 1048576 * 1048576 := Nat.mul_le_mul_right _ (by omega)
  omega
theorem mkR_row {w : World} {rs : Rws} {k i n c b o : Nat} {bs : List Nat} (hl : rs.length = n) (hi : i < n) (h : Hd w (rowsD (mkR rs k i)) (.slice (some ⟨b, o, none⟩) n c) bs) (nd : bs.Nodup) :
    ∃ B L C gs, w.cell? ⟨b, o + i, none⟩ = some (.slice B L C) ∧ Hd w (.ints .i64 (rw_ rs i)) (.slice B L C) gs ∧ (∀ g ∈ gs, g ∈ bs) ∧
      ∀ w', Ch w w' (· ∈ gs) → Hd w' (.ints .i64 (imarks (kR rs k i : Nat) L)) (.slice B L C) gs → Hd w' (rowsD (mkR rs k (i + 1))) (.slice (some ⟨b, o, none⟩) n c) bs := by
  have hml : ((mkR rs k i).map fun r => [Dat.ints .i64 r]).length = n := by simp [mkR_len, hl]
  have hat : At ((mkR rs k i).map fun r => [Dat.ints .i64 r]) i 0 = .ints .i64 (rw_ rs i) := by
    rw [rows_at (by rw [mkR_len]; omega), mkR_get (by omega), if_neg (by omega)]
  obtain ⟨x, gs, hc, hd, hsub, _, _, hback⟩ := h.focus nd hi (by omega : 0 < 1)
  rw [hat] at hd
  rw [Nat.mul_one, Nat.add_zero] at hc
  obtain ⟨B, L, C, rfl, hrd, _⟩ := hd.ints_inv
  refine ⟨B, L, C, gs, hc, hd, hsub, fun w' hch hd' => ?_⟩
  have hwn : 0 < (((mkR rs k i).map fun r => [Dat.ints .i64 r]).getD i []).length := by rw [rows_el (by rw [mkR_len]; omega)]; simp
  have := hback w' _ _ hch hd' (put_setEl hml hi hwn)
  refine this.ext (by rw [setEl_len, hml, List.length_map, mkR_len, hl]) (fun i' hi' j' hj' => ?_)
  rw [at_setEl (by omega) hwn]
  have e1 := mkR_get (rs := rs) (k := k) (i := i + 1) (j := i') (by omega)
  have e2 := mkR_get (rs := rs) (k := k) (i := i) (j := i') (by omega)
  have l1 : i' < (mkR rs k (i + 1)).length := by rw [mkR_len]; omega
  have l2 : i' < (mkR rs k i).length := by rw [mkR_len]; omega
  have hL := hrd.1
  obtain rfl : j' = 0 := by omega
  rw [rows_at l1, rows_at l2, e1, e2]
  by_cases e : i' = i
  · subst e; simp [hL]
  · by_cases h2 : i' < i
    · simp [e, h2, show i' < i + 1 by omega]
    · simp [e, h2, show ¬ i' < i + 1 by omega]
/-- all is marked. -/
def mkRs (rs : Rws) (k : Nat) : Rws := mkR rs k rs.length
theorem mkRs_len (rs : Rws) (k : Nat) : (mkRs rs k).length = rs.length := mkR_len _ _ _
theorem mkRs_get {rs : Rws} {k j : Nat} (hj : j < rs.length) : rw_ (mkRs rs k) j = imarks (kR rs k j : Nat) (rw_ rs j).length := by
  unfold mkRs; rw [mkR_get hj, if_pos hj]
end Go.Proofs.Ythplngcdldongaa
namespace Go.Proofs.Ythplngcdldongaa
open Go.RowKit
set_option linter.unusedVariables false

end Go.Proofs.Ythplngcdldongaa
