/-
  Tags as data: a list of tags that lies in memory, one of them looked at, what is left of a size.
-/
import Derived.Test.YtmmlcdbbjkligaaHelpB
import Derived.Deep.RegionHeld3
namespace Go.Proofs.Ytmmlcdbbjkligaa
open Go.RowKit
set_option linter.unusedVariables false

abbrev Tg := ByteArray × List Int
def tgD (t : Tg) : List Dat := [.str t.1, .ints .u8 t.2]
def tagsD (ts : List Tg) : Dat := .sl 2 (ts.map tgD)
def tg (ts : List Tg) (i : Nat) : Tg := ts.getD i (ByteArray.empty, [])
theorem tags_el {ts : List Tg} {i : Nat} (h : i < ts.length) : (ts.map tgD).getD i [] = tgD (tg ts i) := by
  simp [tg, List.getD, h]
theorem tags_at0 {ts : List Tg} {i : Nat} (h : i < ts.length) : At (ts.map tgD) i 0 = .str (tg ts i).1 := by unfold At; rw [tags_el h]; rfl
theorem tags_at1 {ts : List Tg} {i : Nat} (h : i < ts.length) : At (ts.map tgD) i 1 = .ints .u8 (tg ts i).2 := by unfold At; rw [tags_el h]; rfl
theorem Hd.tags {w : World} {ts : List Tg} {A : Option Addr} {n c : Nat} {bs : List Nat} (h : Hd w (tagsD ts) (.slice A n c) bs) :
    ts.length = n ∧ n ≤ c ∧ c ≤ maxLen ∧ (0 < n → ∃ b o, A = some ⟨b, o, none⟩ ∧ ∀ i, i < n → w.cell? ⟨b, o + i * 2, none⟩ = some (.string (tg ts i).1) ∧
      ∃ B L C gs, w.cell? ⟨b, o + i * 2 + 1, none⟩ = some (.slice B L C) ∧ Hd w (.ints .u8 (tg ts i).2) (.slice B L C) gs ∧ ∀ g ∈ gs, g ∈ bs) := by
  obtain ⟨hl, hc, hm, hf⟩ := h.sl_inv
  rw [List.length_map] at hl
  refine ⟨hl, hc, hm, fun hn => ?_⟩
  obtain ⟨b, o, V, G, rfl, h0, hr, hh, rfl⟩ := hf hn
  refine ⟨b, o, rfl, fun i hi => ?_⟩
  have c0 := hr i hi 0 (by omega)
  have c1 := hr i hi 1 (by omega)
  have d0 : Hd w (At (ts.map tgD) i 0) _ _ := hh i hi 0 (by omega)
  have d1 : Hd w (At (ts.map tgD) i 1) _ _ := hh i hi 1 (by omega)
  rw [tags_at0 (by omega)] at d0
  rw [tags_at1 (by omega)] at d1
  rw [d0.str_inv] at c0
  obtain ⟨B, L, C, e, _⟩ := d1.ints_inv
  rw [e] at c1 d1
  exact ⟨c0, B, L, C, _, c1, d1, fun g hg => List.mem_cons_of_mem _ (mem_fam.2 ⟨i, hi, 1, by omega, hg⟩)⟩

theorem Rd.len_eq {k : IntKind} {w w' : World} {A A' : Option Addr} {n n' : Nat} {xs : List Int} (h : Rd k w A n xs) (h' : Rd k w' A' n' xs) : n = n' := h.1.symm.trans h'.1
/-- one tag of a list. -/
theorem Hd.tag {w : World} {ts : List Tg} {A : Option Addr} {n c : Nat} {bs : List Nat} (h : Hd w (tagsD ts) (.slice A n c) bs) {k : Nat} (hk : k < n) :
    ∃ b o B L C gs, A = some ⟨b, o, none⟩ ∧ w.cell? ⟨b, o + k * 2, none⟩ = some (.string (tg ts k).1) ∧ w.cell? ⟨b, o + k * 2 + 1, none⟩ = some (.slice B L C) ∧ Hd w (.ints .u8 (tg ts k).2) (.slice B L C) gs ∧ (∀ g ∈ gs, g ∈ bs) := by
  obtain ⟨_, _, _, hf⟩ := h.tags
  obtain ⟨b, o, e, hf⟩ := hf (by omega)
  obtain ⟨c0, B, L, C, gs, c1, hd, hg⟩ := hf k hk
  exact ⟨b, o, B, L, C, gs, e, c0, c1, hd, hg⟩
def TsOk (ts : List Tg) : Prop := ∀ i, (tg ts i).1.size ≤ maxLen
def TsSmall (ts : List Tg) : Prop := ts.length ≤ 1048576 ∧ ∀ i, i < ts.length → (tg ts i).1.size ≤ 1048576 ∧ (tg ts i).2.length ≤ 1048576
/-- how much is left: below 0, or both are small. -/
def Left (w : World) (p : Prop) (l : Int) (e : Ending) (w' : World) : Prop := ∃ r : Int, e = .returned (.int .i64 r) ∧ r ≤ l ∧ -1 ≤ r ∧ (0 ≤ r → p) ∧ Below w.heap.size w w'
def partT (ts : List Tg) (k : Nat) : List (List Dat) := (List.range ts.length).map fun i => if i < k then tgD (tg ts i) else [.str ByteArray.empty, .ints .u8 []]
theorem partT_zero (ts : List Tg) : partT ts 0 = List.replicate ts.length [.str ByteArray.empty, .ints .u8 []] := by
  unfold partT
  refine List.ext_getElem (by simp) (fun i h1 h2 => ?_)
  simp
theorem partT_wide {ts : List Tg} {k i : Nat} (hi : i < ts.length) : ((partT ts k).getD i []).length = 2 := by
  unfold partT; rw [el_range hi]; split <;> rfl
theorem partT_old {ts : List Tg} {k : Nat} (hk : k < ts.length) (j : Nat) : At (partT ts k) k j = [.str ByteArray.empty, .ints .u8 []].getD j default := by
  unfold partT; rw [at_range hk, if_neg (by omega)]
theorem zero_tag (w : World) (j : Nat) (hj : j < (#[.string ByteArray.empty, .slice none 0 0] : Array Value).size) : Hd w (([.str ByteArray.empty, .ints .u8 []] : List Dat).getD j default) ((#[.string ByteArray.empty, .slice none 0 0] : Array Value)[j]) [] := by
  match j, hj with
  | 0, _ => exact .str _
  | 1, _ => exact .ints0 _ _ _ (Nat.zero_le _)
/-- one tag more has been laid. -/
theorem partT_step {w : World} {ts : List Tg} {k n c b o lo mid hi : Nat} {x : Value} (hl : ts.length = n) (hk : k < n) (h : Own w (.sl 2 (partT ts k)) (.slice (some ⟨b, o, none⟩) n c) lo mid) (hx : Own w (.ints .u8 (tg ts k).2) x mid hi) (hlo : lo ≤ mid) (hmid : mid ≤ hi) (hblk : b < mid) :
    Own ((w.setCell ⟨b, o + k * 2 + 0, none⟩ (.string (tg ts k).1)).setCell ⟨b, o + k * 2 + 1, none⟩ x) (.sl 2 (partT ts (k + 1))) (.slice (some ⟨b, o, none⟩) n c) lo hi := by
  have w0 : 0 < ((partT ts k).getD k []).length := by rw [partT_wide (by omega)]; omega
  have pl : (partT ts k).length = n := by simp [partT, hl]
  have s1 := h.fill (els' := setEl (partT ts k) k 0 (.str (tg ts k).1)) (d := .str (tg ts k).1) hk (by omega : 0 < 2) (fun gs x hd => by rw [partT_old (by omega)] at hd; exact hd.flat_str) (Own.str w _ mid mid) hlo (Nat.le_refl _) (put_setEl pl hk w0)
  have w1 : 1 < ((setEl (partT ts k) k 0 (.str (tg ts k).1)).getD k []).length := by rw [setEl_wide, partT_wide (by omega)]; omega
  have pl1 : (setEl (partT ts k) k 0 (.str (tg ts k).1)).length = n := by rw [setEl_len, pl]
  have a1 : At (setEl (partT ts k) k 0 (.str (tg ts k).1)) k 1 = .ints .u8 [] := by rw [at_setEl (by omega) w0, if_neg (by omega), partT_old (by omega)]; rfl
  have s2 := s1.fill (els' := setEl (setEl (partT ts k) k 0 (.str (tg ts k).1)) k 1 (.ints .u8 (tg ts k).2)) hk (by omega : 1 < 2) (fun gs x hd => by rw [a1] at hd; exact hd.flat_nil) (hx.set (.inl hblk) _ _) hlo hmid (put_setEl pl1 hk w1)
  refine s2.ext (by rw [setEl_len, setEl_len]; simp [partT]) (fun i hi' j hj => ?_)
  rw [at_setEl (by omega) w1, at_setEl (by omega) w0]
  unfold partT
  rw [at_range (by omega), at_range (by omega)]
  by_cases e : i = k
  · subst e
    match j, hj with
    | 0, _ => simp [tgD]
    | 1, _ => simp [tgD]
  · by_cases h2 : i < k
    · simp [e, h2, show i < k + 1 by omega]
    · simp [e, h2, show ¬ i < k + 1 by omega]
theorem partT_all (ts : List Tg) : partT ts ts.length = ts.map tgD := by
  unfold partT
  refine List.ext_getElem (by simp) (fun i h1 h2 => ?_)
  have : i < ts.length := by simpa using h1
  simp [this, tg, List.getD]
end Go.Proofs.Ytmmlcdbbjkligaa
