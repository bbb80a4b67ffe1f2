/-
  The laws' helpers over lists of int64 and over curves: eqInt64S, markInt64S, heldInt64S, toInt64S, szInt64S; eqCurve, eqCurveResult, markCurve, heldCurve, markCurveResult, heldCurveResult, toCurve, szCurve; eqIntResult.
  Lists of lists of int64 and matrices: as data; the laws' helpers over them (eqInt64SS .. heldMatrixResult), and over results of int64 lists.
  Grids: the laws' helpers over them (eqGrid .. heldGridResult).
-/
import Derived.Test.YtlfdpambbgddoaaBaseA
import Derived.Deep.RegionHeld3
namespace Go.Proofs.Ytlfdpambbgddoaa
open Go.RowKit
set_option linter.unusedVariables false

set_option maxHeartbeats 400000 in
theorem eqInt64S_same (A A' : Option Addr) (n n' c c' : Nat) (xs : List Int) (w : World) (h : Rd .i64 w A n xs) (h' : Rd .i64 w A' n' xs) (hn : n ≤ 1000000000000) :
    Calls Try.prog 169 #[.slice A n c, .slice A' n' c'] w fun e w' => e = .returned (.bool true) ∧ ∃ m, w' = w.drewN m := by
  obtain rfl := h.len_eq h'
  have H : Hid (Rd .i64 w A n xs) := h
  have H' : Hid (Rd .i64 w A' n xs) := h'
  clear h h'
  go_enter Try.func169, Try.ntmps169
  go_wp2
  go_loopw [5] (fun i wr => ∃ k m : Nat, k ≤ n ∧ i = .int .i64 k ∧ wr = w.drewN m) (fun i _ => n - (intOf i).toNat)
  case atStart => exact ⟨0, 0, by omega, rfl, rfl⟩
  case round =>
    obtain ⟨k, m, hk, rfl, rfl⟩ := hrel
    by_cases hlt : k < n
    · obtain ⟨b, o, rfl, hc⟩ := H.out.2 (by omega)
      obtain ⟨b', o', rfl, hc'⟩ := H'.out.2 (by omega)
      have c1 := hc k hlt
      have c2 := hc' k hlt
      clear hc hc'
      generalize xs.getD k 0 = x at c1 c2
      go_wp2_with fail
      go_quiet (fail)
      go_wp2_with fail
      go_roundw
      case rel => exact ⟨k + 1, _, by omega, by go_num, rfl⟩
      case measure => simp [intOf]; omega
    · go_wp2
      go_ret
      exact ⟨rfl, _, rfl⟩

def imark (k : Int) (j : Nat) : Int := k + j
def imarks (k : Int) (n : Nat) : List Int := (List.range n).map (imark k)
theorem imarks_get {k : Int} {n i : Nat} (h : i < n) : (imarks k n).getD i 0 = imark k i := by
  unfold imarks; simp [List.getD, h]
theorem imarks_len (k : Int) (n : Nat) : (imarks k n).length = n := by simp [imarks]

theorem info_i64 : (Try.prog.info? 2).map (fun i => (i.zero, i.size, i.bytes)) = some (some (.int .i64 0), 1, 8) := by kernel_rfl
set_option maxHeartbeats 400000 in
theorem toInt64S_any (A : Option Addr) (n c : Nat) (xs : List Int) (w : World) (h : Rd .i64 w A n xs) (hn : n ≤ 1000000000000) :
    Calls Try.prog 168 #[.slice A n c] w fun e w' => ∃ B, e = .returned (.slice B n n) ∧ Own w' (.ints .i64 xs) (.slice B n n) w.heap.size w'.heap.size ∧ Below w.heap.size w w' := by
  have hmk := run_make_row' (P := Try.prog) 40 2 (.int .i64 0) 8 Try.underlying40 info_i64 rfl .i64 .i64 n (by omega) (by omega)
  have H := Lib.hid h
  clear h
  go_enter Try.func168, Try.ntmps168
  go_wp2_with fail
  clear hmk
  go_loopw [4] (fun i wr => ∃ j : Nat, j ≤ n ∧ i = .int .i64 j ∧ (∀ t, t < n → wr.cell? ⟨w.heap.size, t, none⟩ = some (.int .i64 (if t < j then xs.getD t 0 else 0))) ∧ Ch (w.alloc (.cells (madeCells #[.int .i64 0] n) 2)) wr (· = w.heap.size)) (fun i _ => n - (intOf i).toNat)
  case atStart => exact ⟨0, by omega, rfl, fun t ht => by simpa using made_cell w (.int .i64 0) n t 2 ht, Ch.refl _ _⟩
  case round =>
    obtain ⟨j, hj, rfl, hcell, honly⟩ := hrel
    by_cases hlt : j < n
    · obtain ⟨b, o, rfl, hc⟩ := H.out.2 (by omega)
      have hbl := cell_lt (hc j hlt)
      have c1 : wr.cell? ⟨b, o + j, none⟩ = some (.int .i64 (xs.getD j 0)) := by
        rw [honly.cell (by simp; omega) (by omega), World.cell?_alloc_lt _ _ ⟨b, o + j, none⟩ hbl]; exact hc j hlt
      have c2 := hcell j hlt
      have f2 : wr.frozen? ⟨w.heap.size, j, none⟩ = false := by rw [honly.frozen _ _ (by simp)]; simp
      have HCell := Lib.hid hcell
      have HOnly := Lib.hid honly
      clear hcell honly hc
      go_wp2_with fail
      go_roundw
      case rel =>
        refine ⟨j + 1, by omega, by go_num, fun t ht => ?_, HOnly.out.trans (Ch.setCell wr (P := (· = w.heap.size)) rfl _ _)⟩
        by_cases e : t = j
        · subst e
          rw [if_pos (by omega), World.cell?_setCell_same' wr _ _ (by rw [c2]; rfl)]
          simp
        · rw [World.cell?_setCell_other _ _ _ _ (by simp; try omega), HCell.out t ht]
          by_cases h2 : t < j
          · rw [if_pos h2, if_pos (by omega)]
          · rw [if_neg h2, if_neg (by omega)]
      case measure => simp [intOf]; omega
    · obtain rfl : j = n := by omega
      have HCell := Lib.hid hcell
      have HOnly := Lib.hid honly
      clear hcell honly
      go_wp2
      go_ret
      refine ⟨_, rfl, ?_, (blAlloc _ _).trans (HOnly.out.below (fun k e => by omega) (by simp))⟩
      obtain ⟨bs, h1, h2, h3⟩ := Hd.of_rd (c := j) (k := .i64) (xs := xs) (w := wr) (A := some ⟨w.heap.size, 0, none⟩) (n := j) ⟨H.out.1, fun _ => ⟨w.heap.size, 0, rfl, fun i hi => by
        have := HCell.out i hi
        rw [if_pos hi] at this
        simpa using this⟩⟩ (Nat.le_refl _) (by unfold maxLen; omega)
      refine ⟨bs, h1, h2, fun b hb => ?_⟩
      obtain ⟨_, o, e⟩ := h3 b hb
      injection e with e
      injection e with e1 e2
      subst e1
      have := HOnly.out.size
      simp at this
      exact ⟨Nat.le_refl _, by omega, fun i => by rw [HOnly.out.frozen _ _ (by simp)]; simp⟩
theorem szInt64S_any (A : Option Addr) (n c : Nat) (l : Int) (w : World) (hn : n ≤ maxLen) (h0 : 0 ≤ l) (h1 : l ≤ 1048576) :
    Calls Try.prog 167 #[.slice A n c, .int .i64 l] w (Left w (n ≤ 1048576) l) := by
  unfold maxLen at hn
  by_cases h : l < n
  · go_enter Try.func167, Try.ntmps167
    go_wp2
    go_ret
    exact ⟨-1, rfl, by omega, by omega, by omega, Below.refl _ _⟩
  · go_enter Try.func167, Try.ntmps167
    go_wp2
    go_ret
    exact ⟨_, rfl, by omega, by omega, by omega, Below.refl _ _⟩

/-! ### curves -/
set_option maxHeartbeats 400000 in
theorem szCurve_any (A : Option Addr) (n c : Nat) (l : Int) (w : World) (hn : n ≤ maxLen) (h0 : 0 ≤ l) (h1 : l ≤ 1048576) :
    Calls Try.prog 150 #[.agg #[.slice A n c], .int .i64 l] w (Left w (n ≤ 1048576) l) := by
  go_enter Try.func150, Try.ntmps150
  go_wp2_with fail
  refine (szInt64S_any A n c _ _ hn (by omega) (by omega)).mono ?_
  rintro e w1 ⟨r, rfl, h2, h3, h4, hb⟩
  have T := Lib.hid (blThen (blAlloc w (.cells #[.slice A n c] 214)) hb)
  clear hb
  by_cases hr : r < 0
  · clear h4
    go_wp2_with fail
    go_ret
    exact ⟨-1, rfl, by omega, by omega, by omega, T.out⟩
  · have h5 := h4 (by omega)
    clear h4
    go_wp2_with fail
    go_ret
    exact ⟨r, rfl, by omega, by omega, fun _ => h5, T.out⟩
set_option maxHeartbeats 400000 in
theorem toCurve_any (A : Option Addr) (n c : Nat) (xs : List Int) (w : World) (h : Rd .i64 w A n xs) (hn : n ≤ 1000000000000) :
    Calls Try.prog 153 #[.agg #[.slice A n c]] w fun e w' => ∃ B, e = .returned (.agg #[.slice B n n]) ∧ Own w' (.ints .i64 xs) (.slice B n n) w.heap.size w'.heap.size ∧ Below w.heap.size w w' := by
  have H := Lib.hid h
  clear h
  go_enter Try.func153, Try.ntmps153
  go_wp2_with fail
  refine (toInt64S_any _ _ _ xs _ (((H.out.alloc _).alloc _).alloc _) hn).mono ?_
  rintro e w1 ⟨B, rfl, ho, hb⟩
  obtain ⟨hc, hf⟩ := bcell hb
  have hz : w.heap.size + 2 < w1.heap.size := by have := hb.size; simp at this; omega
  have HO := Lib.hid ho
  have T := Lib.hid (blThen (blThenAlloc (blThenAlloc (blAlloc w _) _) _) hb)
  clear ho hb
  go_wp2_with fail
  refine bodyPost_ret (v := .agg #[.slice B n n]) (by simp [results, Try.results153, go_sem, hc]) rfl ⟨B, rfl, ?_, ?_⟩
  · refine Own.mono (lo := w.heap.size + 3) (hi := w1.heap.size) ?_ (by omega) (by simp [World.setCell])
    repeat (first | exact (HO.out.mono (by simp) (Nat.le_refl _)) | refine Own.set ?_ (.inl (by omega)) _ _)
  · repeat (first | exact T.out | refine Below.setCell ?_ (by simp; try omega) _)
set_option maxHeartbeats 400000 in
theorem eqCurve_same (A A' : Option Addr) (n n' c c' : Nat) (xs : List Int) (w : World) (h : Rd .i64 w A n xs) (h' : Rd .i64 w A' n' xs) (hn : n ≤ 1000000000000) :
    Calls Try.prog 158 #[.agg #[.slice A n c], .agg #[.slice A' n' c']] w fun e w' => e = .returned (.bool true) ∧ Below w.heap.size w w' := by
  have H := Lib.hid h
  have H' := Lib.hid h'
  clear h h'
  go_enter Try.func158, Try.ntmps158
  go_wp2_with (go_at_call 169; refine (eqInt64S_same _ _ _ _ _ _ xs _ ((H.out.alloc _).alloc _) ((H'.out.alloc _).alloc _) hn).mono ?_; rintro e w' ⟨rfl, m, rfl⟩)
  go_ret
  exact ⟨rfl, ((blAlloc _ _).alloc (by simp) _).trans (below_drewN _ _ _)⟩
set_option maxHeartbeats 400000 in
theorem eqIntResult_same (a b : Int) (w : World) :
    Calls Try.prog 11 #[.agg #[.int .i64 a, .int .i64 b], .agg #[.int .i64 a, .int .i64 b]] w fun e w' => e = .returned (.bool true) ∧ Below w.heap.size w w' := by
  go_enter Try.func11, Try.ntmps11
  go_wp2
  go_ret
  exact ⟨rfl, (blAlloc _ _).alloc (by simp) _⟩
end Go.Proofs.Ytlfdpambbgddoaa
namespace Go.Proofs.Ytlfdpambbgddoaa
open Go.RowKit
set_option linter.unusedVariables false

abbrev Rws := List (List Int)
def rowsD (rs : Rws) : Dat := .sl 1 (rs.map fun r => [.ints .i64 r])
def rw_ (rs : Rws) (i : Nat) : List Int := rs.getD i []
theorem rows_el {rs : Rws} {i : Nat} (h : i < rs.length) : (rs.map fun r => [Dat.ints .i64 r]).getD i [] = [.ints .i64 (rw_ rs i)] := by
  simp [rw_, List.getD, h]
theorem rows_at {rs : Rws} {i : Nat} (h : i < rs.length) : At (rs.map fun r => [Dat.ints .i64 r]) i 0 = .ints .i64 (rw_ rs i) := by unfold At; rw [rows_el h]; rfl
theorem Hd.rows {w : World} {rs : Rws} {A : Option Addr} {n c : Nat} {bs : List Nat} (h : Hd w (rowsD rs) (.slice A n c) bs) :
    rs.length = n ∧ n ≤ c ∧ c ≤ maxLen ∧ (0 < n → ∃ b o, A = some ⟨b, o, none⟩ ∧ ∀ i, i < n →
      ∃ B L C gs, w.cell? ⟨b, o + i, none⟩ = some (.slice B L C) ∧ Hd w (.ints .i64 (rw_ rs i)) (.slice B L C) gs ∧ ∀ g ∈ gs, g ∈ bs) := by
  obtain ⟨hl, hc, hm, hf⟩ := h.sl_inv
  rw [List.length_map] at hl
  refine ⟨hl, hc, hm, fun hn => ?_⟩
  obtain ⟨b, o, V, G, rfl, h0, hr, hh, rfl⟩ := hf hn
  refine ⟨b, o, rfl, fun i hi => ?_⟩
  have c1 := hr i hi 0 (by omega)
  have d1 : Hd w (At (rs.map fun r => [Dat.ints .i64 r]) i 0) _ _ := hh i hi 0 (by omega)
  rw [rows_at (by omega)] at d1
  obtain ⟨B, L, C, e, _⟩ := d1.ints_inv
  rw [e] at c1 d1
  rw [Nat.mul_one, Nat.add_zero] at c1
  exact ⟨B, L, C, _, c1, d1, fun g hg => List.mem_cons_of_mem _ (mem_fam.2 ⟨i, hi, 0, by omega, hg⟩)⟩
/-- one row of a list. -/
theorem Hd.row {w : World} {rs : Rws} {A : Option Addr} {n c : Nat} {bs : List Nat} (h : Hd w (rowsD rs) (.slice A n c) bs) {k : Nat} (hk : k < n) :
    ∃ b o B L C gs, A = some ⟨b, o, none⟩ ∧ w.cell? ⟨b, o + k, none⟩ = some (.slice B L C) ∧ Hd w (.ints .i64 (rw_ rs k)) (.slice B L C) gs ∧ (∀ g ∈ gs, g ∈ bs) := by
  obtain ⟨_, _, _, hf⟩ := h.rows
  obtain ⟨b, o, e, hf⟩ := hf (by omega)
  obtain ⟨B, L, C, gs, c1, hd, hg⟩ := hf k hk
  exact ⟨b, o, B, L, C, gs, e, c1, hd, hg⟩
def RsSmall (rs : Rws) : Prop := rs.length ≤ 1048576 ∧ ∀ i, i < rs.length → (rw_ rs i).length ≤ 1048576
theorem info_rows : (Try.prog.info? 40).map (fun i => (i.zero, i.size, i.bytes)) = some (some (.slice none 0 0), 1, 24) := by kernel_rfl
def partR (rs : Rws) (k : Nat) : List (List Dat) := (List.range rs.length).map fun i => if i < k then [.ints .i64 (rw_ rs i)] else [.ints .i64 []]
theorem partR_zero (rs : Rws) : partR rs 0 = List.replicate rs.length [.ints .i64 []] := by
  unfold partR
  refine List.ext_getElem (by simp) (fun i h1 h2 => ?_)
  simp
theorem partR_wide {rs : Rws} {k i : Nat} (hi : i < rs.length) : ((partR rs k).getD i []).length = 1 := by
  unfold partR; rw [el_range hi]; split <;> rfl
theorem partR_old {rs : Rws} {k : Nat} (hk : k < rs.length) (j : Nat) : At (partR rs k) k j = [Dat.ints .i64 []].getD j default := by
  unfold partR; rw [at_range hk, if_neg (by omega)]
theorem zero_row (w : World) (j : Nat) (hj : j < (#[.slice none 0 0] : Array Value).size) : Hd w (([.ints .i64 []] : List Dat).getD j default) ((#[.slice none 0 0] : Array Value)[j]) [] := by
  match j, hj with
  | 0, _ => exact .ints0 _ _ _ (Nat.zero_le _)
/-- one row more has been laid. -/
theorem partR_step {w : World} {rs : Rws} {k n c b o lo mid hi : Nat} {x : Value} (hl : rs.length = n) (hk : k < n) (h : Own w (.sl 1 (partR rs k)) (.slice (some ⟨b, o, none⟩) n c) lo mid) (hx : Own w (.ints .i64 (rw_ rs k)) x mid hi) (hlo : lo ≤ mid) (hmid : mid ≤ hi) :
    Own (w.setCell ⟨b, o + k, none⟩ x) (.sl 1 (partR rs (k + 1))) (.slice (some ⟨b, o, none⟩) n c) lo hi := by
  have w0 : 0 < ((partR rs k).getD k []).length := by rw [partR_wide (by omega)]; omega
  have pl : (partR rs k).length = n := by simp [partR, hl]
  have s1 := h.fill (els' := setEl (partR rs k) k 0 (.ints .i64 (rw_ rs k))) hk (by omega : 0 < 1) (fun gs x hd => by rw [partR_old (by omega)] at hd; exact hd.flat_nil) hx hlo hmid (put_setEl pl hk w0)
  rw [Nat.mul_one, Nat.add_zero] at s1
  refine s1.ext (by rw [setEl_len]; simp [partR]) (fun i hi' j hj => ?_)
  rw [at_setEl (by omega) w0]
  unfold partR
  rw [at_range (by omega), at_range (by omega)]
  obtain rfl : j = 0 := by omega
  by_cases e : i = k
  · subst e; simp
  · by_cases h2 : i < k
    · simp [e, h2, show i < k + 1 by omega]
    · simp [e, h2, show ¬ i < k + 1 by omega]
theorem partR_all (rs : Rws) : partR rs rs.length = rs.map fun r => [Dat.ints .i64 r] := by
  unfold partR
  refine List.ext_getElem (by simp) (fun i h1 h2 => ?_)
  have : i < rs.length := by simpa using h1
  simp [this, rw_, List.getD]

/-! ### eq -/
theorem eqInt64S_bel (A A' : Option Addr) (n n' c c' : Nat) (xs : List Int) (w : World) (h : Rd .i64 w A n xs) (h' : Rd .i64 w A' n' xs) (hn : n ≤ 1000000000000) :
    Calls Try.prog 169 #[.slice A n c, .slice A' n' c'] w fun e w' => e = .returned (.bool true) ∧ Below w.heap.size w w' :=
  (eqInt64S_same A A' n n' c c' xs w h h' hn).mono fun _ _ ⟨he, m, hw⟩ => ⟨he, hw ▸ below_drewN _ m _⟩
structure EqI (w w' : World) (B1 B2 : Option Addr) (L : Nat) (xs : List Int) : Prop where
  a : Rd .i64 w' B1 L xs
  b : Rd .i64 w' B2 L xs
  c : Below w.heap.size w w'
theorem EqI.below {w w1 w' : World} {B1 B2 : Option Addr} {L : Nat} {xs : List Int} (h : EqI w w1 B1 B2 L xs) (hb : Below w1.heap.size w1 w') : EqI w w' B1 B2 L xs :=
  ⟨h.a.below hb, h.b.below hb, blThen h.c hb⟩
set_option maxHeartbeats 1000000 in
theorem eqInt64SS_same (A A' : Option Addr) (n n' c c' : Nat) (rs : Rws) (bs bs' : List Nat) (w : World) (h : Hd w (rowsD rs) (.slice A n c) bs) (h' : Hd w (rowsD rs) (.slice A' n' c') bs')
    (hs : RsSmall rs) :
    Calls Try.prog 159 #[.slice A n c, .slice A' n' c'] w fun e w' => e = .returned (.bool true) ∧ Below w.heap.size w w' := by
  obtain rfl : n = n' := h.rows.1.symm.trans h'.rows.1
  have hn : n ≤ 1048576 := by have := hs.1; rw [h.rows.1] at this; exact this
  have HL := Lib.hid h.rows.1
  have HH := Lib.hid h
  have HH' := Lib.hid h'
  have HS := Lib.hid hs
  clear h h' hs
  go_enter Try.func159, Try.ntmps159
  go_wp2
  go_loopw [5] (fun i wr => ∃ k : Nat, k ≤ n ∧ i = .int .i64 k ∧ Below w.heap.size w wr) (fun i _ => n - (intOf i).toNat)
  case atStart => exact ⟨0, by omega, rfl, Below.refl _ _⟩
  case round =>
    obtain ⟨k, hk, rfl, hb⟩ := hrel
    by_cases hlt : k < n
    · obtain ⟨b, o, B1, L1, C1, g1, rfl, x1, x3, -⟩ := (HH.out.bel hb).row hlt
      obtain ⟨b', o', B2, L2, C2, g2, rfl, y1, y3, -⟩ := (HH'.out.bel hb).row hlt
      have r1 := x3.rd
      have r2 := y3.rd
      obtain rfl := r1.len_eq r2
      have r3 : L1 ≤ 1000000000000 := by have := HS.out.2 k (by rw [HL.out]; exact hlt); rw [r1.1] at this; omega
      have E0 : EqI w wr B1 B2 L1 (rw_ rs k) := ⟨r1, r2, hb⟩
      clear x3 y3 r1 r2 hb
      go_wp2_with fail
      go_region_held3 (fun w' => w'.cell? ⟨b, o + k, none⟩ = some (.slice B1 L1 C1) ∧ w'.cell? ⟨b', o' + k, none⟩ = some (.slice B2 L1 C2) ∧ EqI w w' B1 B2 L1 (rw_ rs k)) (first | (go_split_ands; exact ⟨cell_later hb (by assumption), cell_later hb (by assumption), EqI.below (by assumption) hb⟩) | exact ⟨x1, y1, E0.below (Below.refl _ _).drew⟩) (first | (go_at_call 169; go_split_ands; refine (eqInt64S_bel _ _ _ _ _ _ (rw_ rs k) _ (EqI.a (by assumption)) (EqI.b (by assumption)) r3).mono ?_; rintro e w' ⟨rfl, hb⟩))
      go_split_ands
      rename EqI w _ _ _ _ _ => hE
      have HB := Lib.hid hE.c
      clear hE x1 y1 E0
      go_wp2_with fail
      go_roundw
      case rel => exact ⟨k + 1, by omega, by go_num, HB.out⟩
      case measure => simp [intOf]; omega
    · go_wp2
      go_ret
      exact ⟨rfl, hb⟩
set_option maxHeartbeats 400000 in
theorem eqMatrix_same (A A' : Option Addr) (n n' c c' : Nat) (rs : Rws) (bs bs' : List Nat) (w : World) (h : Hd w (rowsD rs) (.slice A n c) bs) (h' : Hd w (rowsD rs) (.slice A' n' c') bs') (hs : RsSmall rs) :
    Calls Try.prog 136 #[.agg #[.slice A n c], .agg #[.slice A' n' c']] w fun e w' => e = .returned (.bool true) ∧ Below w.heap.size w w' := by
  have H := Lib.hid h
  have H' := Lib.hid h'
  have HS := Lib.hid hs
  clear h h' hs
  go_enter Try.func136, Try.ntmps136
  go_wp2_with fail
  refine (eqInt64SS_same _ _ _ _ _ _ rs _ _ _ ((H.out.alloc _).alloc _) ((H'.out.alloc _).alloc _) HS.out).mono ?_
  rintro e w1 ⟨rfl, hb⟩
  have T := Lib.hid (blThen (blThenAlloc (blAlloc w (.cells #[.slice A n c] 62)) (.cells #[.slice A' n' c'] 62)) hb)
  clear hb
  go_wp2_with fail
  go_ret
  exact ⟨rfl, T.out⟩
/-! ### sz -/
set_option maxHeartbeats 1000000 in
theorem szInt64SS_any (A : Option Addr) (n c : Nat) (rs : Rws) (bs : List Nat) (l : Int) (w : World) (h : Hd w (rowsD rs) (.slice A n c) bs) (h0 : 0 ≤ l) (h1 : l ≤ 1048576) :
    Calls Try.prog 151 #[.slice A n c, .int .i64 l] w (Left w (RsSmall rs) l) := by
  obtain ⟨hl, hc, hm, -⟩ := h.rows
  have hm' := hm
  unfold maxLen at hm'
  have HL := Lib.hid hl
  have H := Lib.hid h
  clear h hl hm
  by_cases hbig : l < n
  · go_enter Try.func151, Try.ntmps151
    go_wp2
    go_ret
    exact ⟨-1, rfl, by omega, by omega, by omega, Below.refl _ _⟩
  go_enter Try.func151, Try.ntmps151
  go_wp2
  go_loopw [1, 5] (fun q i wr => ∃ (k : Nat) (r : Int), k ≤ n ∧ i = .int .i64 k ∧ q = .int .i64 r ∧ 0 ≤ r ∧ r ≤ l ∧ (∀ i, i < k → (rw_ rs i).length ≤ 1048576) ∧ Below w.heap.size w wr) (fun _ i _ => n - (intOf i).toNat)
  case atStart => exact ⟨0, _, by omega, rfl, rfl, by omega, by omega, fun i hi => absurd hi (by omega), Below.refl _ _⟩
  case round =>
    obtain ⟨k, r, hk, rfl, rfl, hr0, hr1, hsm, hb⟩ := hrel
    by_cases hlt : k < n
    · obtain ⟨b, o, B1, L1, C1, g1, rfl, x1, x3, -⟩ := (H.out.bel hb).row hlt
      have r1 := Lib.hid x3.rd.1
      have r2 : L1 ≤ maxLen := Nat.le_trans x3.caps.1 x3.caps.2
      have HB := Lib.hid hb
      have HSM := Lib.hid hsm
      clear hb x3 hsm
      go_wp2_with fail
      refine (szInt64S_any _ _ _ r _ r2 hr0 (by omega)).mono ?_
      rintro e w1 ⟨r', rfl, h2, h3, h4, hb1⟩
      have T := Lib.hid (blThen HB.out hb1)
      clear hb1 HB x1
      by_cases hr : r' < 0
      · clear h4
        go_wp2_with fail
        go_ret
        exact ⟨-1, rfl, by omega, by omega, by omega, T.out⟩
      · have h5 := Lib.hid (h4 (by omega))
        clear h4
        go_wp2_with fail
        go_roundw
        case rel =>
          refine ⟨k + 1, r', by omega, by go_num, rfl, by omega, by omega, fun i hi => ?_, T.out⟩
          by_cases e : i = k
          · subst e; rw [r1.out]; exact h5.out
          · exact HSM.out i (by omega)
        case measure => simp [intOf]; omega
    · have HSM := Lib.hid hsm
      have HB := Lib.hid hb
      clear hsm hb
      go_wp2
      go_ret
      exact ⟨r, rfl, by omega, by omega, fun _ => ⟨by rw [HL.out]; omega, fun i hi => HSM.out i (by rw [HL.out] at hi; omega)⟩, HB.out⟩
set_option maxHeartbeats 400000 in
theorem szMatrix_any (A : Option Addr) (n c : Nat) (rs : Rws) (bs : List Nat) (l : Int) (w : World) (h : Hd w (rowsD rs) (.slice A n c) bs) (h0 : 0 ≤ l) (h1 : l ≤ 1048576) :
    Calls Try.prog 124 #[.agg #[.slice A n c], .int .i64 l] w (Left w (RsSmall rs) l) := by
  have H := Lib.hid h
  clear h
  go_enter Try.func124, Try.ntmps124
  go_wp2_with fail
  refine (szInt64SS_any A n c rs bs l _ (H.out.alloc _) h0 h1).mono ?_
  rintro e w1 ⟨r, rfl, h2, h3, h4, hb⟩
  have T := Lib.hid (blThen (blAlloc w (.cells #[.slice A n c] 144)) hb)
  have H4 := Lib.hid h4
  clear hb h4
  by_cases hr : r < 0
  · go_wp2_with fail
    go_ret
    exact ⟨-1, rfl, by omega, by omega, by omega, T.out⟩
  · go_wp2_with fail
    go_ret
    exact ⟨r, rfl, by omega, by omega, fun _ => H4.out (by omega), T.out⟩

/-! ### to -/
set_option maxHeartbeats 1000000 in
theorem toInt64SS_any (A : Option Addr) (n c : Nat) (rs : Rws) (bs : List Nat) (w : World) (h : Hd w (rowsD rs) (.slice A n c) bs) (hs : RsSmall rs) :
    Calls Try.prog 154 #[.slice A n c] w fun e w' => ∃ B, e = .returned (.slice B n n) ∧ Own w' (rowsD rs) (.slice B n n) w.heap.size w'.heap.size ∧ Below w.heap.size w w' := by
  have hl := h.rows.1
  have hn : n ≤ 1048576 := by have := hs.1; omega
  have hmk := run_make_many (P := Try.prog) 50 40 (.slice none 0 0) 1 24 Try.underlying50 info_rows .i64 .i64 n (by omega) (by omega)
  have HL := Lib.hid hl
  have H := Lib.hid h
  have HS := Lib.hid hs
  clear h hs hl
  go_enter Try.func154, Try.ntmps154
  go_wp2_with fail
  clear hmk
  go_loopw [4] (fun i wr => ∃ k : Nat, k ≤ n ∧ i = .int .i64 k ∧ Own wr (.sl 1 (partR rs k)) (.slice (some ⟨w.heap.size, 0, none⟩) n n) w.heap.size wr.heap.size ∧ Below w.heap.size w wr ∧ w.heap.size < wr.heap.size) (fun i _ => n - (intOf i).toNat)
  case atStart =>
    refine ⟨0, by omega, rfl, ?_, blAlloc _ _, by simp⟩
    rw [partR_zero, HL.out]
    refine Own.mono (lo := w.heap.size) (hi := w.heap.size + 1) ?_ (Nat.le_refl _) (by simp)
    have q := Own.made w #[.slice none 0 0] [.ints .i64 []] n 40 (by decide) zero_row (by unfold maxLen; omega)
    simpa using q
  case round =>
    obtain ⟨k, hk, rfl, ho, hb, hz⟩ := hrel
    by_cases hlt : k < n
    · obtain ⟨b, o, B1, L1, C1, g1, rfl, x1, x3, -⟩ := (H.out.bel hb).row hlt
      have r1 := Lib.hid x3.rd
      have r3 : L1 ≤ 1000000000000 := by have := HS.out.2 k (by rw [HL.out]; exact hlt); rw [x3.rd.1] at this; omega
      have HO := Lib.hid ho
      have HB := Lib.hid hb
      clear ho hb x3
      go_wp2_with fail
      refine (toInt64S_any _ _ _ (rw_ rs k) _ r1.out r3).mono ?_
      rintro e w1 ⟨B, rfl, ho1, hb1⟩
      have hw := hb1.size
      obtain ⟨y0, c0, f0, hlo, hhi⟩ := (HO.out.below hb1).slot hlt (by omega : 0 < 1)
      rw [Nat.mul_one, Nat.zero_add, Nat.add_zero] at c0 f0
      have HN := Lib.hid (partR_step HL.out hlt (HO.out.below hb1) ho1 (by omega) hw)
      have T := Lib.hid (blThen HB.out hb1)
      clear ho1 hb1 HO HB x1 r1
      go_wp2_with fail
      go_roundw
      case rel =>
        refine ⟨k + 1, by omega, by go_num, ?_, T.out.setCell (Nat.le_refl _) _, by simp [World.setCell]; omega⟩
        have := HN.out
        rw [Nat.zero_add] at this
        exact this.mono (Nat.le_refl _) (by simp [World.setCell])
      case measure => simp [intOf]; omega
    · obtain rfl : k = n := by omega
      have HO := Lib.hid ho
      have HB := Lib.hid hb
      clear ho hb
      go_wp2
      go_ret
      refine ⟨_, rfl, ?_, HB.out⟩
      have := HO.out
      rw [← HL.out, partR_all] at this
      rw [← HL.out]
      exact this
set_option maxHeartbeats 400000 in
theorem toMatrix_any (A : Option Addr) (n c : Nat) (rs : Rws) (bs : List Nat) (w : World) (h : Hd w (rowsD rs) (.slice A n c) bs) (hs : RsSmall rs) :
    Calls Try.prog 131 #[.agg #[.slice A n c]] w fun e w' => ∃ B, e = .returned (.agg #[.slice B n n]) ∧ Own w' (rowsD rs) (.slice B n n) w.heap.size w'.heap.size ∧ Below w.heap.size w w' := by
  have H := Lib.hid h
  have HS := Lib.hid hs
  clear h hs
  go_enter Try.func131, Try.ntmps131
  go_wp2_with fail
  refine (toInt64SS_any _ _ _ rs bs _ (((H.out.alloc _).alloc _).alloc _) HS.out).mono ?_
  rintro e w1 ⟨B, rfl, ho, hb⟩
  obtain ⟨hc, hf⟩ := bcell hb
  have hz : w.heap.size + 2 < w1.heap.size := by have := hb.size; simp at this; omega
  have HO := Lib.hid ho
  have T := Lib.hid (blThen (blThenAlloc (blThenAlloc (blAlloc w _) _) _) hb)
  clear ho hb
  go_wp2_with fail
  refine bodyPost_ret (v := .agg #[.slice B n n]) (by simp [results, Try.results131, go_sem, hc]) rfl ⟨B, rfl, ?_, ?_⟩
  · refine Own.mono (lo := w.heap.size + 3) (hi := w1.heap.size) ?_ (by omega) (by simp [World.setCell])
    repeat (first | exact (HO.out.mono (by simp) (Nat.le_refl _)) | refine Own.set ?_ (.inl (by omega)) _ _)
  · repeat (first | exact T.out | refine Below.setCell ?_ (by simp; try omega) _)

/-! ### marks -/
/-- the number of the first mark of row i. -/
def kR (rs : Rws) (k : Nat) : Nat → Nat
  | 0 => k
  | i + 1 => kR rs k i + (rw_ rs i).length
def mkR (rs : Rws) (k i : Nat) : Rws := (List.range rs.length).map fun j => if j < i then imarks (kR rs k j : Nat) (rw_ rs j).length else rw_ rs j
theorem mkR_len (rs : Rws) (k i : Nat) : (mkR rs k i).length = rs.length := by simp [mkR]
theorem mkR_get {rs : Rws} {k i j : Nat} (hj : j < rs.length) : rw_ (mkR rs k i) j = if j < i then imarks (kR rs k j : Nat) (rw_ rs j).length else rw_ rs j := by
  conv => lhs; unfold rw_ mkR
  simp [List.getD, hj]
theorem mkR_zero (rs : Rws) (k : Nat) : mkR rs k 0 = rs := by
  unfold mkR
  refine List.ext_getElem (by simp) (fun i h1 h2 => ?_)
  simp [rw_, List.getD, h2]
theorem kR_le (rs : Rws) (k : Nat) (hs : RsSmall rs) (i : Nat) (hi : i ≤ rs.length) : kR rs k i ≤ k + i * 1048576 := by
  induction i with
  | zero => simp [kR]
  | succ i ih =>
    have h1 := ih (by omega)
    have h2 := hs.2 i (by omega)
    simp only [kR]
    omega
theorem kR_big {rs : Rws} {k : Nat} (hs : RsSmall rs) (hk : k ≤ 8000000000000000000) {i : Nat} (hi : i ≤ rs.length) : kR rs k i ≤ 8000001100000000000 := by
  have h1 := kR_le rs k hs i hi
  have h2 := hs.1
  have h3 : i * 1048576 ≤ 1048576 * 1048576 := Nat.mul_le_mul_right _ (by omega)
  omega
theorem kR_mid (rs : Rws) (k : Nat) (hs : RsSmall rs) (hk : k ≤ 2000000000000) : kR rs k rs.length ≤ k + 1100000000000 := by
  have h1 := kR_le rs k hs rs.length (Nat.le_refl _)
  have h2 := hs.1
  have h3 : rs.length * 1048576 ≤ 1048576 * 1048576 := Nat.mul_le_mul_right _ (by omega)
  omega
theorem mkR_row {w : World} {rs : Rws} {k i n c b o : Nat} {bs : List Nat} (hl : rs.length = n) (hi : i < n) (h : Hd w (rowsD (mkR rs k i)) (.slice (some ⟨b, o, none⟩) n c) bs) (nd : bs.Nodup) :
    ∃ B L C gs, w.cell? ⟨b, o + i, none⟩ = some (.slice B L C) ∧ Hd w (.ints .i64 (rw_ rs i)) (.slice B L C) gs ∧ (∀ g ∈ gs, g ∈ bs) ∧
      ∀ w', Ch w w' (· ∈ gs) → Hd w' (.ints .i64 (imarks (kR rs k i : Nat) L)) (.slice B L C) gs → Hd w' (rowsD (mkR rs k (i + 1))) (.slice (some ⟨b, o, none⟩) n c) bs := by
  have hml : ((mkR rs k i).map fun r => [Dat.ints .i64 r]).length = n := by simp [mkR_len, hl]
  have hat : At ((mkR rs k i).map fun r => [Dat.ints .i64 r]) i 0 = .ints .i64 (rw_ rs i) := by
    rw [rows_at (by rw [mkR_len]; omega), mkR_get (by omega), if_neg (by omega)]
  obtain ⟨x, gs, hc, hd, hsub, _, _, hback⟩ := h.focus nd hi (by omega : 0 < 1)
  rw [hat] at hd
  rw [Nat.mul_one, Nat.add_zero] at hc
  obtain ⟨B, L, C, rfl, hrd, _⟩ := hd.ints_inv
  refine ⟨B, L, C, gs, hc, hd, hsub, fun w' hch hd' => ?_⟩
  have hwn : 0 < (((mkR rs k i).map fun r => [Dat.ints .i64 r]).getD i []).length := by rw [rows_el (by rw [mkR_len]; omega)]; simp
  have := hback w' _ _ hch hd' (put_setEl hml hi hwn)
  refine this.ext (by rw [setEl_len, hml, List.length_map, mkR_len, hl]) (fun i' hi' j' hj' => ?_)
  rw [at_setEl (by omega) hwn]
  have e1 := mkR_get (rs := rs) (k := k) (i := i + 1) (j := i') (by omega)
  have e2 := mkR_get (rs := rs) (k := k) (i := i) (j := i') (by omega)
  have l1 : i' < (mkR rs k (i + 1)).length := by rw [mkR_len]; omega
  have l2 : i' < (mkR rs k i).length := by rw [mkR_len]; omega
  have hL := hrd.1
  obtain rfl : j' = 0 := by omega
  rw [rows_at l1, rows_at l2, e1, e2]
  by_cases e : i' = i
  · subst e; simp [hL]
  · by_cases h2 : i' < i
    · simp [e, h2, show i' < i + 1 by omega]
    · simp [e, h2, show ¬ i' < i + 1 by omega]
/-- all is marked. -/
def mkRs (rs : Rws) (k : Nat) : Rws := mkR rs k rs.length
theorem mkRs_len (rs : Rws) (k : Nat) : (mkRs rs k).length = rs.length := mkR_len _ _ _
theorem mkRs_get {rs : Rws} {k j : Nat} (hj : j < rs.length) : rw_ (mkRs rs k) j = imarks (kR rs k j : Nat) (rw_ rs j).length := by
  unfold mkRs; rw [mkR_get hj, if_pos hj]
end Go.Proofs.Ytlfdpambbgddoaa
namespace Go.Proofs.Ytlfdpambbgddoaa
open Go.RowKit
set_option linter.unusedVariables false

set_option maxHeartbeats 400000 in
theorem eqGrid_same (A A' : Option Addr) (n n' c c' : Nat) (rs : Rws) (sd : Int) (bs bs' : List Nat) (w : World) (h : Hd w (rowsD rs) (.slice A n c) bs) (h' : Hd w (rowsD rs) (.slice A' n' c') bs') (hs : RsSmall rs) :
    Calls Try.prog 137 #[.agg #[.int .i64 sd, .slice A n c], .agg #[.int .i64 sd, .slice A' n' c']] w fun e w' => e = .returned (.bool true) ∧ Below w.heap.size w w' := by
  have H := Lib.hid h
  have H' := Lib.hid h'
  have HS := Lib.hid hs
  clear h h' hs
  go_enter Try.func137, Try.ntmps137
  go_wp2_with fail
  refine (eqInt64SS_same _ _ _ _ _ _ rs _ _ _ ((H.out.alloc _).alloc _) ((H'.out.alloc _).alloc _) HS.out).mono ?_
  rintro e w1 ⟨rfl, hb⟩
  have T := Lib.hid (blThen (blThenAlloc (blAlloc w (.cells #[.int .i64 sd, .slice A n c] 52)) (.cells #[.int .i64 sd, .slice A' n' c'] 52)) hb)
  clear hb
  go_wp2_with fail
  go_ret
  exact ⟨rfl, T.out⟩
set_option maxHeartbeats 400000 in
theorem szGrid_any (A : Option Addr) (n c : Nat) (rs : Rws) (sd : Int) (bs : List Nat) (l : Int) (w : World) (h : Hd w (rowsD rs) (.slice A n c) bs) (h0 : 0 ≤ l) (h1 : l ≤ 1048576) :
    Calls Try.prog 125 #[.agg #[.int .i64 sd, .slice A n c], .int .i64 l] w (Left w (RsSmall rs) l) := by
  have H := Lib.hid h
  clear h
  go_enter Try.func125, Try.ntmps125
  go_wp2_with fail
  refine (szInt64SS_any A n c rs bs l _ (H.out.alloc _) h0 h1).mono ?_
  rintro e w1 ⟨r, rfl, h2, h3, h4, hb⟩
  have T := Lib.hid (blThen (blAlloc w (.cells #[.int .i64 sd, .slice A n c] 145)) hb)
  have H4 := Lib.hid h4
  clear hb h4
  by_cases hr : r < 0
  · go_wp2_with fail
    go_ret
    exact ⟨-1, rfl, by omega, by omega, by omega, T.out⟩
  · go_wp2_with fail
    go_ret
    exact ⟨r, rfl, by omega, by omega, fun _ => H4.out (by omega), T.out⟩

set_option maxHeartbeats 400000 in
theorem toGrid_any (A : Option Addr) (n c : Nat) (rs : Rws) (sd : Int) (bs : List Nat) (w : World) (h : Hd w (rowsD rs) (.slice A n c) bs) (hs : RsSmall rs) :
    Calls Try.prog 132 #[.agg #[.int .i64 sd, .slice A n c]] w fun e w' => ∃ B, e = .returned (.agg #[.int .i64 sd, .slice B n n]) ∧ Own w' (rowsD rs) (.slice B n n) w.heap.size w'.heap.size ∧ Below w.heap.size w w' := by
  have H := Lib.hid h
  have HS := Lib.hid hs
  clear h hs
  go_enter Try.func132, Try.ntmps132
  go_wp2_with fail
  refine (toInt64SS_any _ _ _ rs bs _ (((H.out.alloc _).alloc _).alloc _) HS.out).mono ?_
  rintro e w1 ⟨B, rfl, ho, hb⟩
  obtain ⟨hc, hf⟩ := bcell hb
  have hz : w.heap.size + 2 < w1.heap.size := by have := hb.size; simp at this; omega
  have HO := Lib.hid ho
  have T := Lib.hid (blThen (blThenAlloc (blThenAlloc (blAlloc w _) _) _) hb)
  clear ho hb
  go_wp2_with fail
  refine bodyPost_ret (v := .agg #[.int .i64 sd, .slice B n n]) (by simp [results, Try.results132, go_sem, hc]) rfl ⟨B, rfl, ?_, ?_⟩
  · refine Own.mono (lo := w.heap.size + 3) (hi := w1.heap.size) ?_ (by omega) (by simp [World.setCell])
    repeat (first | exact (HO.out.mono (by simp) (Nat.le_refl _)) | refine Own.set ?_ (.inl (by omega)) _ _)
  · repeat (first | exact T.out | refine Below.setCell ?_ (by simp; try omega) _)

end Go.Proofs.Ytlfdpambbgddoaa
