/-
  Matrices, plain mathematics: the fault of a list of lists (mf), its nine numbers (fl), products, determinants and inverses.
  Matrices: the program's isCell, cellsOf, MatrixFault, lightsOf; the model's l4In, l4Fault, MatrixFault, l4Levels.
  Matrices: the program's MatrixFault, lightsOf; the model's l4Fault, MatrixFault, l4Levels.
-/
import Derived.Test.YthplngcdldongaaHelpA
import Derived.Test.YthplngcdldongaaFixMath
import Derived.Test.YthplngcdldongaaNumA
namespace Go.Proofs.Ythplngcdldongaa
set_option linter.unusedVariables false

/-- a fix of a matrix. -/
def cel (v : Int) : Bool := inB v (-262144) 262144
theorem cel_iff {v : Int} : cel v = true ↔ (-262144 ≤ v ∧ v ≤ 262144) := inB_iff
def all3 (p : Nat → Bool) : Bool := p 0 && p 1 && p 2
theorem all3_iff {p : Nat → Bool} : all3 p = true ↔ ∀ k, k < 3 → p k = true := by
  unfold all3
  rw [Bool.and_eq_true, Bool.and_eq_true]
  constructor
  · rintro ⟨⟨a, b⟩, c⟩ k hk
    match k, hk with
    | 0, _ => exact a
    | 1, _ => exact b
    | 2, _ => exact c
  · intro h
    exact ⟨⟨h 0 (by omega), h 1 (by omega)⟩, h 2 (by omega)⟩
def rowF (r : List Int) : Int := if r.length = 3 then (if all3 (fun k => cel (r.getD k 0)) = true then 0 else 3) else 2
def mf (rs : Rws) : Int := if rs.length = 3 then (if rowF (rw_ rs 0) = 0 then (if rowF (rw_ rs 1) = 0 then rowF (rw_ rs 2) else rowF (rw_ rs 1)) else rowF (rw_ rs 0)) else 2
/-- number t of the nine. -/
def fl (rs : Rws) (t : Nat) : Int := (rw_ rs (t / 3)).getD (t % 3) 0
theorem rowF_len {r : List Int} (h : r.length ≠ 3) : rowF r = 2 := by unfold rowF; rw [if_neg h]
theorem rowF_bad {r : List Int} (h : r.length = 3) {k : Nat} (hk : k < 3) (hc : cel (r.getD k 0) = false) : rowF r = 3 := by
  unfold rowF; rw [if_pos h, if_neg (fun H => by have := all3_iff.1 H k hk; rw [this] at hc; cases hc)]
theorem rowF_ok {r : List Int} (h : r.length = 3) (hc : ∀ k, k < 3 → cel (r.getD k 0) = true) : rowF r = 0 := by
  unfold rowF; rw [if_pos h, if_pos (all3_iff.2 hc)]
theorem rowF_zero {r : List Int} (h : rowF r = 0) : r.length = 3 ∧ ∀ k, k < 3 → cel (r.getD k 0) = true := by
  unfold rowF at h
  split at h
  · rename_i h1
    split at h
    · rename_i h2; exact ⟨h1, all3_iff.1 h2⟩
    · omega
  · omega
theorem mf_len {rs : Rws} (h : rs.length ≠ 3) : mf rs = 2 := by unfold mf; rw [if_neg h]
/-- the first row with a fault tells it. -/
theorem mf_row {rs : Rws} (h : rs.length = 3) {i : Nat} (hi : i < 3) (h0 : ∀ j, j < i → rowF (rw_ rs j) = 0) (hb : rowF (rw_ rs i) ≠ 0) : mf rs = rowF (rw_ rs i) := by
  unfold mf; rw [if_pos h]
  match i, hi with
  | 0, _ => rw [if_neg hb]
  | 1, _ => rw [if_pos (h0 0 (by omega)), if_neg hb]
  | 2, _ => rw [if_pos (h0 0 (by omega)), if_pos (h0 1 (by omega))]
theorem mf_ok {rs : Rws} (h : rs.length = 3) (h0 : ∀ j, j < 3 → rowF (rw_ rs j) = 0) : mf rs = 0 := by
  unfold mf; rw [if_pos h, if_pos (h0 0 (by omega)), if_pos (h0 1 (by omega))]; exact h0 2 (by omega)
theorem mf_zero {rs : Rws} (h : mf rs = 0) : rs.length = 3 ∧ ∀ j, j < 3 → rowF (rw_ rs j) = 0 := by
  unfold mf at h
  split at h
  · rename_i h1
    split at h
    · rename_i h2
      split at h
      · rename_i h3
        refine ⟨h1, fun j hj => ?_⟩
        match j, hj with
        | 0, _ => exact h2
        | 1, _ => exact h3
        | 2, _ => exact h
      · rename_i h3; exact absurd h h3
    · rename_i h2; exact absurd h h2
  · omega
theorem fl_bd {rs : Rws} (h : mf rs = 0) (t : Nat) (ht : t < 9) : -262144 ≤ fl rs t ∧ fl rs t ≤ 262144 := by
  have h1 := (mf_zero h).2 (t / 3) (by omega)
  exact cel_iff.1 ((rowF_zero h1).2 (t % 3) (by omega))
theorem mf_lens {rs : Rws} (h : mf rs = 0) (i : Nat) (hi : i < 3) : (rw_ rs i).length = 3 := (rowF_zero ((mf_zero h).2 i hi)).1
theorem fl_at (rs : Rws) (i k : Nat) (hk : k < 3) : fl rs (3 * i + k) = (rw_ rs i).getD k 0 := by
  unfold fl
  rw [show (3 * i + k) / 3 = i by omega, show (3 * i + k) % 3 = k by omega]
/-- three levels. -/
def lf (v : List Int) : Int := if v.length = 3 then (if all3 (fun k => inB (v.getD k 0) 0 65535) = true then 0 else 3) else 2
theorem lf_len {v : List Int} (h : v.length ≠ 3) : lf v = 2 := by unfold lf; rw [if_neg h]
theorem lf_bad {v : List Int} (h : v.length = 3) {k : Nat} (hk : k < 3) (hc : inB (v.getD k 0) 0 65535 = false) : lf v = 3 := by
  unfold lf; rw [if_pos h, if_neg (fun H => by have := all3_iff.1 H k hk; rw [this] at hc; cases hc)]
theorem lf_ok {v : List Int} (h : v.length = 3) (hc : ∀ k, k < 3 → inB (v.getD k 0) 0 65535 = true) : lf v = 0 := by
  unfold lf; rw [if_pos h, if_pos (all3_iff.2 hc)]
theorem lf_zero {v : List Int} (h : lf v = 0) : v.length = 3 ∧ ∀ k, k < 3 → inB (v.getD k 0) 0 65535 = true := by
  unfold lf at h
  split at h
  · rename_i h1
    split at h
    · rename_i h2; exact ⟨h1, all3_iff.1 h2⟩
    · omega
  · omega
/-- three numbers, levels or fine ones. -/
def lfo (o : Int) (v : List Int) : Int := if v.length = 3 then (if all3 (fun k => inB (v.getD k 0) 0 (65535 * o)) = true then 0 else 3) else 2
theorem lfo_1 (v : List Int) : lfo 1 v = lf v := rfl
theorem lfo_len {o : Int} {v : List Int} (h : v.length ≠ 3) : lfo o v = 2 := by unfold lfo; rw [if_neg h]
theorem lfo_bad {o : Int} {v : List Int} (h : v.length = 3) {k : Nat} (hk : k < 3) (hc : inB (v.getD k 0) 0 (65535 * o) = false) : lfo o v = 3 := by
  unfold lfo; rw [if_pos h, if_neg (fun H => by have := all3_iff.1 H k hk; rw [this] at hc; cases hc)]
theorem lfo_ok {o : Int} {v : List Int} (h : v.length = 3) (hc : ∀ k, k < 3 → inB (v.getD k 0) 0 (65535 * o) = true) : lfo o v = 0 := by
  unfold lfo; rw [if_pos h, if_pos (all3_iff.2 hc)]
theorem lfo_zero {o : Int} {v : List Int} (h : lfo o v = 0) : v.length = 3 ∧ ∀ k, k < 3 → inB (v.getD k 0) 0 (65535 * o) = true := by
  unfold lfo at h
  split at h
  · rename_i h1
    split at h
    · rename_i h2; exact ⟨h1, all3_iff.1 h2⟩
    · omega
  · omega
end Go.Proofs.Ythplngcdldongaa
namespace Go.Proofs.Ythplngcdldongaa
open Go.RowKit
set_option linter.unusedVariables false

theorem isCell_any (v : Int) (w : World) : Calls Try.prog 97 #[.int .i64 v] w fun e w' => e = .returned (.bool (cel v)) ∧ w = w' := by
  unfold cel
  by_cases h1 : v < -262144
  · rw [inB_lo h1]
    go_enter Try.func97, Try.ntmps97
    go_wp2
    go_ret
    exact ⟨rfl, rfl⟩
  · rw [inB_hi' (by omega)]
    go_enter Try.func97, Try.ntmps97
    go_wp2
    go_ret
    exact ⟨rfl, rfl⟩
theorem sIn4_any (v : Int) (w : World) : Calls Try.prog 99 #[.int .i64 v] w fun e w' => e = .returned (.bool (cel v)) ∧ w = w' := by
  unfold cel
  go_enter Try.func99, Try.ntmps99
  go_wp2_with (go_at_call 56; refine (sIn_any _ _ _ _).mono ?_; rintro e w' ⟨rfl, rfl⟩)
  go_ret
  exact ⟨rfl, rfl⟩
def CellsAns (w : World) (rs : Rws) (e : Ending) (w' : World) : Prop :=
  ∃ q : Nat → Int, e = .returned (.tuple #[.agg #[.int .i64 (q 0), .int .i64 (q 1), .int .i64 (q 2), .int .i64 (q 3), .int .i64 (q 4), .int .i64 (q 5), .int .i64 (q 6), .int .i64 (q 7), .int .i64 (q 8)], .int .i64 (mf rs)]) ∧ (mf rs = 0 → ∀ t, t < 9 → q t = fl rs t) ∧ Below w.heap.size w w'
/-- the world in which cellsOf's loops begin. -/
def cw0 (w : World) (A : Option Addr) (c : Nat) : World := ((w.alloc (.cells #[.slice A 3 c] 49)).alloc (.cells #[.int .i64 0, .int .i64 0, .int .i64 0, .int .i64 0, .int .i64 0, .int .i64 0, .int .i64 0, .int .i64 0, .int .i64 0] 104)).alloc (.cells #[.int .i64 0, .int .i64 0, .int .i64 0, .int .i64 0, .int .i64 0, .int .i64 0, .int .i64 0, .int .i64 0, .int .i64 0] 104)
structure Cw (w : World) (A : Option Addr) (c : Nat) (f : Nat → Int) (wr : World) : Prop where
  cel : ∀ t, t < 9 → wr.cell? ⟨w.heap.size + 1 + 1, t, none⟩ = some (.int .i64 (f t))
  ch : Ch (cw0 w A c) wr (· = w.heap.size + 1 + 1)
theorem cw0_size (w : World) (A : Option Addr) (c : Nat) : (cw0 w A c).heap.size = w.heap.size + 3 := by unfold cw0; simp
theorem nine_get (b : Nat) (t : Nat) (ht : t < 9) : (#[.int .i64 0, .int .i64 0, .int .i64 0, .int .i64 0, .int .i64 0, .int .i64 0, .int .i64 0, .int .i64 0, .int .i64 0] : Array Value)[t]? = some (.int .i64 0) := by
  match t, ht with
  | 0, _ | 1, _ | 2, _ | 3, _ | 4, _ | 5, _ | 6, _ | 7, _ | 8, _ => rfl
theorem newCell (W : World) (cs : Array Value) (t : TypeId) (b k : Nat) (hb : b = W.heap.size) : (W.alloc (.cells cs t)).cell? ⟨b, k, none⟩ = cs[k]? := by subst hb; simp
theorem newFrz (W : World) (cs : Array Value) (t : TypeId) (b k : Nat) (hb : b = W.heap.size) : (W.alloc (.cells cs t)).frozen? ⟨b, k, none⟩ = false := by subst hb; simp
theorem Cw.start (w : World) (A : Option Addr) (c : Nat) : Cw w A c (fun _ => 0) (cw0 w A c) := by
  refine ⟨fun t ht => ?_, Ch.refl _ _⟩
  unfold cw0
  rw [newCell _ _ _ _ _ (by simp), nine_get 0 t ht]
theorem Cw.res {w : World} {A : Option Addr} {c : Nat} {f : Nat → Int} {wr : World} (h : Cw w A c f wr) (t : Nat) (ht : t < 9) :
    wr.cell? ⟨w.heap.size + 1, t, none⟩ = some (.int .i64 0) ∧ wr.frozen? ⟨w.heap.size + 1, t, none⟩ = false := by
  refine ⟨?_, ?_⟩
  · rw [h.ch.cell (by rw [cw0_size]; omega) (by omega)]
    unfold cw0
    exact cell_later (blAlloc _ _) (by rw [newCell _ _ _ _ _ (by simp), nine_get 0 t ht])
  · rw [h.ch.frozen _ _ (by rw [cw0_size]; omega)]
    unfold cw0
    rw [(blAlloc _ _).frozen (p := ⟨w.heap.size + 1, t, none⟩) (by simp)]
    exact newFrz _ _ _ _ _ (by simp)
theorem Cw.bel {w : World} {A : Option Addr} {c : Nat} {f : Nat → Int} {wr : World} (h : Cw w A c f wr) : Below w.heap.size w wr := by
  have h1 : Below w.heap.size w (cw0 w A c) := blThenAlloc (blThenAlloc (blAlloc _ _) _) _
  exact h1.trans (h.ch.below (fun k e => by omega) (by rw [cw0_size]; omega))
theorem Cw.put {w : World} {A : Option Addr} {c : Nat} {f g : Nat → Int} {wr : World} (h : Cw w A c f wr) {t : Nat} (ht : t < 9) {v : Int} (hg : ∀ s, s < 9 → g s = if s = t then v else f s) :
    Cw w A c g (wr.setCell ⟨w.heap.size + 1 + 1, t, none⟩ (.int .i64 v)) := by
  refine ⟨fun s hs => ?_, h.ch.trans (Ch.setCell wr (P := (· = w.heap.size + 1 + 1)) rfl _ _)⟩
  rw [hg s hs]
  by_cases e : s = t
  · subst e
    rw [World.cell?_setCell_same' wr _ _ (by rw [h.cel s hs]; rfl)]; simp
  · rw [World.cell?_setCell_other _ _ _ _ (by simp; try omega), h.cel s hs, if_neg e]
theorem Cw.frz {w : World} {A : Option Addr} {c : Nat} {f : Nat → Int} {wr : World} (h : Cw w A c f wr) (t : Nat) : wr.frozen? ⟨w.heap.size + 1 + 1, t, none⟩ = false := by
  rw [h.ch.frozen _ _ (by rw [cw0_size]; omega)]
  unfold cw0
  exact newFrz _ _ _ _ _ (by simp)
def upTo (rs : Rws) (m : Nat) (t : Nat) : Int := if t < m then fl rs t else 0
set_option maxHeartbeats 2000000 in
theorem cellsOf_any (A : Option Addr) (n c : Nat) (rs : Rws) (bs : List Nat) (w : World) (h : Hd w (rowsD rs) (.slice A n c) bs) :
    Calls Try.prog 67 #[.agg #[.slice A n c]] w (CellsAns w rs) := by
  obtain ⟨hl, hc, hm, -⟩ := h.rows
  unfold maxLen at hm
  have H := Lib.hid h
  clear h
  by_cases hn : n = 3
  · subst hn
    have HL := Lib.hid hl
    clear hl hm
    go_enter Try.func67, Try.ntmps67
    go_wp2_with fail
    go_loopw [17] (fun x wr => ∃ i : Nat, i ≤ 3 ∧ x = .int .i64 i ∧ (∀ j, j < i → rowF (rw_ rs j) = 0) ∧ Cw w A c (upTo rs (i * 3)) wr) (fun x _ => 3 - (intOf x).toNat)
    case atStart => exact ⟨0, by omega, rfl, fun j hj => absurd hj (by omega), Cw.start w A c⟩
    case round =>
      obtain ⟨i, hi, rfl, hrows, hcw⟩ := hrel
      by_cases hlt : i < 3
      · obtain ⟨b, o, B1, L1, C1, g1, rfl, x0, x3, -⟩ := H.out.row hlt
        have x1 := cell_later hcw.bel x0
        have hr1 := x3.rd
        have hcap := x3.caps.1
        have hm1 := x3.caps.2
        unfold maxLen at hm1
        clear x0
        by_cases hL : L1 = 3
        · subst hL
          have HR := Lib.hid hr1
          have HRW := Lib.hid hrows
          have HCW := Lib.hid hcw
          clear hcw hrows hr1 x3
          go_wp2_with fail
          clear x1
          simp only [show decide ((i : Int) < 3) = true from decide_eq_true (by omega)]
          go_loopw [28] (fun x w2 => ∃ k : Nat, k ≤ 3 ∧ x = .int .i64 k ∧ (∀ j, j < k → cel ((rw_ rs i).getD j 0) = true) ∧ Cw w (some ⟨b, o, none⟩) c (upTo rs (i * 3 + k)) w2) (fun x _ => 3 - (intOf x).toNat)
          case atStart => exact ⟨0, by omega, rfl, fun j hj => absurd hj (by omega), HCW.out⟩
          case round =>
            obtain ⟨k, hk, rfl, hcs, hcw⟩ := hrel
            by_cases hlk : k < 3
            · obtain ⟨b1, o1, rfl, hx⟩ := HR.out.2 (by omega)
              have y1 := cell_later hcw.bel (hx k hlk)
              clear hx
              obtain ⟨v, hv⟩ : ∃ v, v = (rw_ rs i).getD k 0 := ⟨_, rfl⟩
              rw [← hv] at y1
              by_cases hce : cel v = true
              · have y2 := hcw.cel (i * 3 + k) (by omega)
                have y3 := hcw.frz (i * 3 + k)
                have HN := Lib.hid (hcw.put (g := upTo rs (i * 3 + (k + 1))) (t := i * 3 + k) (by omega) (v := v) (fun s hs => by
                  unfold upTo
                  by_cases e : s = i * 3 + k
                  · subst e; rw [if_pos (by omega), if_pos rfl, show i * 3 + k = 3 * i + k by omega, fl_at rs i k hlk, hv]
                  · by_cases e2 : s < i * 3 + k
                    · rw [if_pos (by omega), if_neg e, if_pos e2]
                    · rw [if_neg (by omega), if_neg e, if_neg e2]))
                have HCS : Hid (∀ j, j < k + 1 → cel ((rw_ rs i).getD j 0) = true) := fun j hj => by
                  by_cases e : j = k
                  · subst e; rw [← hv]; exact hce
                  · exact hcs j (by omega)
                have HV := Lib.hid hv
                clear hcw hcs hv
                go_wp2_with (go_at_call 97; refine (isCell_any _ _).mono ?_; rintro e w' ⟨rfl, rfl⟩)
                go_roundw
                case rel =>
                  exact ⟨k + 1, by omega, by go_num, HCS.out, HN.out⟩
                case measure => simp [intOf]; omega
              · have hce' : cel v = false := by simpa using hce
                have HM : Hid (mf rs = 3) := by
                  have e := rowF_bad (r := rw_ rs i) (HR.out.1) hlk (by rw [← hv]; exact hce')
                  show _ = _
                  rw [mf_row HL.out hlt HRW.out (by omega), e]
                obtain ⟨r0, z0⟩ := hcw.res 0 (by omega)
                obtain ⟨r1, z1⟩ := hcw.res 1 (by omega)
                obtain ⟨r2, z2⟩ := hcw.res 2 (by omega)
                obtain ⟨r3, z3⟩ := hcw.res 3 (by omega)
                obtain ⟨r4, z4⟩ := hcw.res 4 (by omega)
                obtain ⟨r5, z5⟩ := hcw.res 5 (by omega)
                obtain ⟨r6, z6⟩ := hcw.res 6 (by omega)
                obtain ⟨r7, z7⟩ := hcw.res 7 (by omega)
                obtain ⟨r8, z8⟩ := hcw.res 8 (by omega)
                have HCW2 := Lib.hid hcw
                clear hcw hcs hv hce
                go_wp2_with (go_at_call 97; refine (isCell_any _ _).mono ?_; rintro e w' ⟨rfl, rfl⟩)
                refine bodyPost_ret (v := .tuple #[.agg #[.int .i64 0, .int .i64 0, .int .i64 0, .int .i64 0, .int .i64 0, .int .i64 0, .int .i64 0, .int .i64 0, .int .i64 0], .int .i64 3]) (by simp [results, Try.results67, go_sem, r0, r1, r2, r3, r4, r5, r6, r7, r8]) rfl ⟨fun _ => 0, by rw [HM.out], fun e => by rw [HM.out] at e; omega, ?_⟩
                repeat (refine Below.setCell ?_ (by simp) _)
                exact HCW2.out.bel
            · obtain rfl : k = 3 := by omega
              have HCW2 := Lib.hid hcw
              have HOK := Lib.hid (rowF_ok HR.out.1 hcs)
              clear hcw hcs
              go_wp2_with fail
              go_roundw
              case rel =>
                refine ⟨i + 1, by omega, by go_num, fun j hj => ?_, ?_⟩
                · by_cases e : j = i
                  · subst e; exact HOK.out
                  · exact HRW.out j (by omega)
                · have := HCW2.out
                  rwa [show i * 3 + 3 = (i + 1) * 3 by omega] at this
              case measure => simp [intOf]; omega
        · have HM : Hid (mf rs = 2) := by
            have e := rowF_len (r := rw_ rs i) (by rw [hr1.1]; exact hL)
            show _ = _
            rw [mf_row HL.out hlt hrows (by omega), e]
          obtain ⟨r0, z0⟩ := hcw.res 0 (by omega)
          obtain ⟨r1, z1⟩ := hcw.res 1 (by omega)
          obtain ⟨r2, z2⟩ := hcw.res 2 (by omega)
          obtain ⟨r3, z3⟩ := hcw.res 3 (by omega)
          obtain ⟨r4, z4⟩ := hcw.res 4 (by omega)
          obtain ⟨r5, z5⟩ := hcw.res 5 (by omega)
          obtain ⟨r6, z6⟩ := hcw.res 6 (by omega)
          obtain ⟨r7, z7⟩ := hcw.res 7 (by omega)
          obtain ⟨r8, z8⟩ := hcw.res 8 (by omega)
          have HCW := Lib.hid hcw
          clear hcw hrows hr1 x3
          go_wp2_with fail
          refine bodyPost_ret (v := .tuple #[.agg #[.int .i64 0, .int .i64 0, .int .i64 0, .int .i64 0, .int .i64 0, .int .i64 0, .int .i64 0, .int .i64 0, .int .i64 0], .int .i64 2]) (by simp [results, Try.results67, go_sem, r0, r1, r2, r3, r4, r5, r6, r7, r8]) rfl ⟨fun _ => 0, by rw [HM.out], fun e => by rw [HM.out] at e; omega, ?_⟩
          repeat (refine Below.setCell ?_ (by simp) _)
          exact HCW.out.bel
      · obtain rfl : i = 3 := by omega
        have HM := Lib.hid (mf_ok HL.out hrows)
        obtain ⟨r0, z0⟩ := hcw.res 0 (by omega)
        obtain ⟨r1, z1⟩ := hcw.res 1 (by omega)
        obtain ⟨r2, z2⟩ := hcw.res 2 (by omega)
        obtain ⟨r3, z3⟩ := hcw.res 3 (by omega)
        obtain ⟨r4, z4⟩ := hcw.res 4 (by omega)
        obtain ⟨r5, z5⟩ := hcw.res 5 (by omega)
        obtain ⟨r6, z6⟩ := hcw.res 6 (by omega)
        obtain ⟨r7, z7⟩ := hcw.res 7 (by omega)
        obtain ⟨r8, z8⟩ := hcw.res 8 (by omega)
        have c0 := hcw.cel 0 (by omega)
        have c1 := hcw.cel 1 (by omega)
        have c2 := hcw.cel 2 (by omega)
        have c3 := hcw.cel 3 (by omega)
        have c4 := hcw.cel 4 (by omega)
        have c5 := hcw.cel 5 (by omega)
        have c6 := hcw.cel 6 (by omega)
        have c7 := hcw.cel 7 (by omega)
        have c8 := hcw.cel 8 (by omega)
        have HCW := Lib.hid hcw
        clear hcw hrows
        go_wp2_with fail
        refine bodyPost_ret (v := .tuple #[.agg #[.int .i64 (upTo rs 9 0), .int .i64 (upTo rs 9 1), .int .i64 (upTo rs 9 2), .int .i64 (upTo rs 9 3), .int .i64 (upTo rs 9 4), .int .i64 (upTo rs 9 5), .int .i64 (upTo rs 9 6), .int .i64 (upTo rs 9 7), .int .i64 (upTo rs 9 8)], .int .i64 0]) (by simp [results, Try.results67, go_sem, r0, r1, r2, r3, r4, r5, r6, r7, r8]) rfl ⟨upTo rs 9, by rw [HM.out], fun _ t ht => by unfold upTo; rw [if_pos ht], ?_⟩
        repeat (refine Below.setCell ?_ (by simp) _)
        exact HCW.out.bel
  · have HM := Lib.hid (mf_len (rs := rs) (by omega))
    go_enter Try.func67, Try.ntmps67
    go_wp2_with fail
    refine bodyPost_ret (v := .tuple #[.agg #[.int .i64 0, .int .i64 0, .int .i64 0, .int .i64 0, .int .i64 0, .int .i64 0, .int .i64 0, .int .i64 0, .int .i64 0], .int .i64 2]) (by simp [results, Try.results67, go_sem]) rfl ⟨fun _ => 0, by rw [HM.out], fun e => by rw [HM.out] at e; omega, ?_⟩
    repeat (refine Below.setCell ?_ (by simp) _)
    exact blThenAlloc (blAlloc _ _) _
end Go.Proofs.Ythplngcdldongaa
namespace Go.Proofs.Ythplngcdldongaa
open Go.RowKit
set_option linter.unusedVariables false

set_option maxHeartbeats 1000000 in
theorem MatrixFault_any (A : Option Addr) (n c : Nat) (rs : Rws) (bs : List Nat) (w : World) (h : Hd w (rowsD rs) (.slice A n c) bs) :
    Calls Try.prog 39 #[.agg #[.slice A n c]] w fun e w' => e = .returned (.int .i64 (mf rs)) ∧ Below w.heap.size w w' := by
  have H := Lib.hid h
  clear h
  go_enter Try.func39, Try.ntmps39
  go_wp2_with fail
  refine (cellsOf_any _ _ _ rs _ _ (H.out.alloc _)).mono ?_
  rintro e w1 ⟨q, rfl, -, hb⟩
  have T := Lib.hid (blThen (blAlloc w _) hb)
  clear hb
  go_wp2_with fail
  go_ret
  exact ⟨rfl, blThenAlloc T.out _⟩
def LtsAns (o : Int) (w : World) (xs : List Int) (e : Ending) (w' : World) : Prop :=
  ∃ q : Nat → Int, e = .returned (.tuple #[.agg #[.int .i64 (q 0), .int .i64 (q 1), .int .i64 (q 2)], .int .i64 (lfo o xs)]) ∧ (lfo o xs = 0 → ∀ t, t < 3 → q t = xs.getD t 0) ∧ Below w.heap.size w w'
set_option maxRecDepth 100000 in
set_option maxHeartbeats 1000000 in
theorem lightsOf_k (o : Int) (ho : One o) (A : Option Addr) (n c : Nat) (xs : List Int) (w : World) (h : Rd .i64 w A n xs) (hcap : n ≤ c) (hm : c ≤ maxLen) :
    Calls Try.prog 45 #[.slice A n c, .int .i64 o] w (LtsAns o w xs) := by
  unfold maxLen at hm
  have H := Lib.hid h
  have hl := h.1
  clear h
  by_cases hn : n = 3
  · subst hn
    have HL := Lib.hid hl
    clear hl
    go_enter Try.func45, Try.ntmps45
    go_wp2_with fail
    obtain ⟨b, oo, rfl, hx⟩ := H.out.2 (by omega)
    have HX := Lib.hid hx
    clear hx
    go_loopw [14] (fun x wr => ∃ k : Nat, k ≤ 3 ∧ x = .int .i64 k ∧ (∀ j, j < k → inB (xs.getD j 0) 0 (65535 * o) = true) ∧ wr = w.alloc (.cells #[.int .i64 0, .int .i64 0, .int .i64 0] 75)) (fun x _ => 3 - (intOf x).toNat)
    case atStart => exact ⟨0, by omega, rfl, fun j hj => absurd hj (by omega), rfl⟩
    case round =>
      obtain ⟨k, hk, rfl, hcs, rfl⟩ := hrel
      by_cases hlk : k < 3
      · have y1 := HX.out k hlk
        obtain ⟨v, hv⟩ : ∃ v, v = xs.getD k 0 := ⟨_, rfl⟩
        rw [← hv] at y1
        have hbl := cell_lt y1
        by_cases hce : inB v 0 (65535 * o) = true
        · have HCS : Hid (∀ j, j < k + 1 → inB (xs.getD j 0) 0 (65535 * o) = true) := fun j hj => by
            by_cases e : j = k
            · subst e; rw [← hv]; exact hce
            · exact hcs j (by omega)
          have CC : Hid (∀ W, Calls Try.prog 88 #[.int .i64 v, .int .i64 o] W fun e w' => e = .returned (.int .i64 v) ∧ W = w') := fun W => by
            have hb := inB_iff.1 hce
            have := clamp_any v o ho W
            rw [clk_in hb.1 hb.2] at this
            exact this
          clear hcs hv
          go_wp2_with (go_at_call 88; refine (CC.out _).mono ?_; rintro e w' ⟨rfl, rfl⟩)
          go_roundw
          case rel => exact ⟨k + 1, by omega, by go_num, HCS.out, by first | rfl | trivial⟩
          case measure => simp [intOf]; omega
        · have hce' : inB v 0 (65535 * o) = false := by simpa using hce
          have HM : Hid (lfo o xs = 3) := lfo_bad HL.out hlk (by rw [← hv]; exact hce')
          obtain ⟨x, hx⟩ : ∃ x, clk o v = x := ⟨_, rfl⟩
          have hne : ¬ v = x := fun e => by
            have := clk_bd ho v
            rw [hx, ← e] at this
            rw [inB_iff.2 this] at hce'
            cases hce'
          have hvx : (v != x) = true := by simpa using hne
          have hvx2 : (v == x) = false := by simpa using hne
          have CC : Hid (∀ W, Calls Try.prog 88 #[.int .i64 v, .int .i64 o] W fun e w' => e = .returned (.int .i64 x) ∧ W = w') := fun W => by
            have := clamp_any v o ho W
            rw [hx] at this
            exact this
          clear hcs hv hce hce' hx hne
          go_wp2_with (go_at_call 88; refine (CC.out _).mono ?_; rintro e w' ⟨rfl, rfl⟩)
          refine bodyPost_ret (v := .tuple #[.agg #[.int .i64 0, .int .i64 0, .int .i64 0], .int .i64 3]) (by simp [results, Try.results45, go_sem]) rfl ⟨fun _ => 0, by rw [HM.out], fun e => by rw [HM.out] at e; omega, ?_⟩
          repeat (refine Below.setCell ?_ (by simp) _)
          exact blAlloc _ _
      · obtain rfl : k = 3 := by omega
        have HM := Lib.hid (lfo_ok HL.out hcs)
        have y0 := HX.out 0 (by omega)
        have y1 := HX.out 1 (by omega)
        have y2 := HX.out 2 (by omega)
        have hbl := cell_lt y0
        rw [Nat.add_zero] at y0
        obtain ⟨v0, e0⟩ : ∃ v, v = xs.getD 0 0 := ⟨_, rfl⟩
        obtain ⟨v1, e1⟩ : ∃ v, v = xs.getD 1 0 := ⟨_, rfl⟩
        obtain ⟨v2, e2⟩ : ∃ v, v = xs.getD 2 0 := ⟨_, rfl⟩
        rw [← e0] at y0
        rw [← e1] at y1
        rw [← e2] at y2
        have HE : Hid (∀ t, t < 3 → (fun t => if t = 0 then v0 else if t = 1 then v1 else v2) t = xs.getD t 0) := fun t ht => by
          match t, ht with
          | 0, _ => exact e0
          | 1, _ => exact e1
          | 2, _ => exact e2
        clear hcs e0 e1 e2
        have hat : ∀ W, (Instr.arrayAt 75 (.slice (some ⟨b, oo, none⟩) 3 c)).run Try.prog W = .ok (.pointer (some ⟨b, oo, none⟩)) W := fun W => by kernel_rfl
        go_wp2_with fail
        refine bodyPost_ret (v := .tuple #[.agg #[.int .i64 v0, .int .i64 v1, .int .i64 v2], .int .i64 0]) (by simp [results, Try.results45, go_sem]) rfl ⟨fun t => if t = 0 then v0 else if t = 1 then v1 else v2, by rw [HM.out]; rfl, fun _ => HE.out, ?_⟩
        repeat (refine Below.setCell ?_ (by simp) _)
        exact blAlloc _ _
  · have HM := Lib.hid (lfo_len (o := o) (v := xs) (by omega))
    clear hl
    go_enter Try.func45, Try.ntmps45
    go_wp2_with fail
    refine bodyPost_ret (v := .tuple #[.agg #[.int .i64 0, .int .i64 0, .int .i64 0], .int .i64 2]) (by simp [results, Try.results45, go_sem]) rfl ⟨fun _ => 0, by rw [HM.out], fun e => by rw [HM.out] at e; omega, ?_⟩
    repeat (refine Below.setCell ?_ (by simp) _)
    exact blAlloc _ _
def LightsAns (w : World) (xs : List Int) (e : Ending) (w' : World) : Prop :=
  ∃ q : Nat → Int, e = .returned (.tuple #[.agg #[.int .i64 (q 0), .int .i64 (q 1), .int .i64 (q 2)], .int .i64 (lf xs)]) ∧ (lf xs = 0 → ∀ t, t < 3 → q t = xs.getD t 0) ∧ Below w.heap.size w w'
theorem lightsOf_any (A : Option Addr) (n c : Nat) (xs : List Int) (w : World) (h : Rd .i64 w A n xs) (hcap : n ≤ c) (hm : c ≤ maxLen) :
    Calls Try.prog 45 #[.slice A n c, .int .i64 1] w (LightsAns w xs) := lightsOf_k 1 (.inl rfl) A n c xs w h hcap hm

/-! ### the model's -/
set_option maxHeartbeats 1000000 in
theorem sFault4_any (g o : Nat) (A : Option Addr) (n c : Nat) (rs : Rws) (bs : List Nat) (w : World) (h : Hd w (rowsD rs) (.slice A n c) bs) (hg : w.cell? ⟨g, o, none⟩ = some (.slice A n c)) :
    Calls Try.prog 76 #[.pointer (some ⟨g, o, none⟩)] w fun e w' => e = .returned (.int .i64 (mf rs)) ∧ w = w' := by
  obtain ⟨hl, hc, hm, -⟩ := h.rows
  unfold maxLen at hm
  have H := Lib.hid h
  clear h
  by_cases hn : n = 3
  · subst hn
    have HL := Lib.hid hl
    clear hl hm
    go_enter Try.func76, Try.ntmps76
    go_wp2_with fail
    go_loop [3] (fun x => ∃ i : Nat, i ≤ 3 ∧ x = .int .i64 i ∧ (∀ j, j < i → rowF (rw_ rs j) = 0)) (fun x => 3 - (intOf x).toNat)
    case atStart => exact ⟨0, by omega, rfl, fun j hj => absurd hj (by omega)⟩
    case round =>
      obtain ⟨i, hi, rfl, hrows⟩ := hrel
      by_cases hlt : i < 3
      · obtain ⟨b, o', B1, L1, C1, g1, rfl, x1, x3, -⟩ := H.out.row hlt
        have hr1 := x3.rd
        have hcap := x3.caps.1
        have hm1 := x3.caps.2
        unfold maxLen at hm1
        by_cases hL : L1 = 3
        · subst hL
          have HR := Lib.hid hr1
          have HRW := Lib.hid hrows
          clear hrows hr1 x3
          go_wp2_with fail
          (try simp only [show decide ((i : Int) < 3) = true from decide_eq_true (by omega)])
          go_loop [4] (fun x => ∃ k : Nat, k ≤ 3 ∧ x = .int .i64 k ∧ (∀ j, j < k → cel ((rw_ rs i).getD j 0) = true)) (fun x => 3 - (intOf x).toNat)
          case atStart => exact ⟨0, by omega, rfl, fun j hj => absurd hj (by omega)⟩
          case round =>
            obtain ⟨k, hk, rfl, hcs⟩ := hrel
            by_cases hlk : k < 3
            · obtain ⟨b1, o1, rfl, hx⟩ := HR.out.2 (by omega)
              have y1 := hx k hlk
              clear hx
              obtain ⟨v, hv⟩ : ∃ v, v = (rw_ rs i).getD k 0 := ⟨_, rfl⟩
              rw [← hv] at y1
              by_cases hce : cel v = true
              · have HCS : Hid (∀ j, j < k + 1 → cel ((rw_ rs i).getD j 0) = true) := fun j hj => by
                  by_cases e : j = k
                  · subst e; rw [← hv]; exact hce
                  · exact hcs j (by omega)
                clear hcs hv
                go_wp2_with (go_at_call 99; refine (sIn4_any _ _).mono ?_; rintro e w' ⟨rfl, rfl⟩)
                go_round
                case rel => exact ⟨k + 1, by omega, by go_num, HCS.out⟩
                case measure => simp [intOf]; omega
              · have hce' : cel v = false := by simpa using hce
                have HM : Hid (mf rs = 3) := by
                  have e := rowF_bad (r := rw_ rs i) (HR.out.1) hlk (by rw [← hv]; exact hce')
                  show _ = _
                  rw [mf_row HL.out hlt HRW.out (by omega), e]
                clear hcs hv hce
                go_wp2_with (go_at_call 99; refine (sIn4_any _ _).mono ?_; rintro e w' ⟨rfl, rfl⟩)
                go_ret
                exact ⟨by rw [HM.out]; rfl, rfl⟩
            · obtain rfl : k = 3 := by omega
              have HOK := Lib.hid (rowF_ok HR.out.1 hcs)
              clear hcs
              go_wp2_with fail
              go_round
              case rel =>
                refine ⟨i + 1, by omega, by go_num, fun j hj => ?_⟩
                by_cases e : j = i
                · subst e; exact HOK.out
                · exact HRW.out j (by omega)
              case measure => simp [intOf]; omega
        · have HM : Hid (mf rs = 2) := by
            have e := rowF_len (r := rw_ rs i) (by rw [hr1.1]; exact hL)
            show _ = _
            rw [mf_row HL.out hlt hrows (by omega), e]
          clear hrows hr1 x3
          go_wp2_with fail
          go_ret
          exact ⟨by rw [HM.out]; rfl, rfl⟩
      · obtain rfl : i = 3 := by omega
        have HM := Lib.hid (mf_ok HL.out hrows)
        clear hrows
        go_wp2_with fail
        go_ret
        exact ⟨by rw [HM.out]; rfl, rfl⟩
  · have HM := Lib.hid (mf_len (rs := rs) (by omega))
    go_enter Try.func76, Try.ntmps76
    go_wp2_with fail
    go_ret
    exact ⟨by rw [HM.out]; rfl, rfl⟩
set_option maxHeartbeats 400000 in
theorem sLevels4_any (A : Option Addr) (n c : Nat) (xs : List Int) (w : World) (h : Rd .i64 w A n xs) (hcap : n ≤ c) (hm : c ≤ maxLen) :
    Calls Try.prog 53 #[.slice A n c] w fun e w' => e = .returned (.int .i64 (lf xs)) ∧ w = w' := by
  unfold maxLen at hm
  have H := Lib.hid h
  have hl := h.1
  clear h
  by_cases hn : n = 3
  · subst hn
    have HL := Lib.hid hl
    clear hl
    go_enter Try.func53, Try.ntmps53
    go_wp2_with fail
    obtain ⟨b, o, rfl, hx⟩ := H.out.2 (by omega)
    have HX := Lib.hid hx
    clear hx
    go_loop [3] (fun x => ∃ k : Nat, k ≤ 3 ∧ x = .int .i64 k ∧ (∀ j, j < k → inB (xs.getD j 0) 0 65535 = true)) (fun x => 3 - (intOf x).toNat)
    case atStart => exact ⟨0, by omega, rfl, fun j hj => absurd hj (by omega)⟩
    case round =>
      obtain ⟨k, hk, rfl, hcs⟩ := hrel
      by_cases hlk : k < 3
      · have y1 := HX.out k hlk
        obtain ⟨v, hv⟩ : ∃ v, v = xs.getD k 0 := ⟨_, rfl⟩
        rw [← hv] at y1
        by_cases hce : inB v 0 65535 = true
        · have HCS : Hid (∀ j, j < k + 1 → inB (xs.getD j 0) 0 65535 = true) := fun j hj => by
            by_cases e : j = k
            · subst e; rw [← hv]; exact hce
            · exact hcs j (by omega)
          clear hcs hv
          go_wp2_with (go_at_call 92; refine (sLevel_any _ _).mono ?_; rintro e w' ⟨rfl, rfl⟩)
          go_round
          case rel => exact ⟨k + 1, by omega, by go_num, HCS.out⟩
          case measure => simp [intOf]; omega
        · have hce' : inB v 0 65535 = false := by simpa using hce
          have HM : Hid (lf xs = 3) := lf_bad HL.out hlk (by rw [← hv]; exact hce')
          clear hcs hv hce
          go_wp2_with (go_at_call 92; refine (sLevel_any _ _).mono ?_; rintro e w' ⟨rfl, rfl⟩)
          go_ret
          exact ⟨by rw [HM.out]; rfl, rfl⟩
      · obtain rfl : k = 3 := by omega
        have HM := Lib.hid (lf_ok HL.out hcs)
        clear hcs
        go_wp2_with fail
        go_ret
        exact ⟨by rw [HM.out]; rfl, rfl⟩
  · have HM := Lib.hid (lf_len (v := xs) (by omega))
    clear hl
    go_enter Try.func53, Try.ntmps53
    go_wp2_with fail
    go_ret
    exact ⟨by rw [HM.out]; rfl, rfl⟩
end Go.Proofs.Ythplngcdldongaa
