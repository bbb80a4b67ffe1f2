/-
  Matrices: the program's isCell, cellsOf, MatrixFault, lightsOf; the model's l4In, l4Fault, MatrixFault, l4Levels.
-/
import Derived.Test.YtmmlcdbbjkligaaMatD
import Derived.Test.YtmmlcdbbjkligaaNum
namespace Go.Proofs.Ytmmlcdbbjkligaa
open Go.RowKit
set_option linter.unusedVariables false

theorem isCell_any (v : Int) (w : World) : Calls Try.prog 172 #[.int .i64 v] w fun e w' => e = .returned (.bool (cel v)) ∧ w = w' := by
  unfold cel
  by_cases h1 : v < -262144
  · rw [inB_lo h1]
    go_enter Try.func172, Try.ntmps172
    go_wp2
    go_ret
    exact ⟨rfl, rfl⟩
  · rw [inB_hi' (by omega)]
    go_enter Try.func172, Try.ntmps172
    go_wp2
    go_ret
    exact ⟨rfl, rfl⟩
theorem sIn4_any (v : Int) (w : World) : Calls Try.prog 140 #[.int .i64 v] w fun e w' => e = .returned (.bool (cel v)) ∧ w = w' := by
  unfold cel
  go_enter Try.func140, Try.ntmps140
  go_wp2_with (go_at_call 51; refine (sIn_any _ _ _ _).mono ?_; rintro e w' ⟨rfl, rfl⟩)
  go_ret
  exact ⟨rfl, rfl⟩
def CellsAns (w : World) (rs : Rws) (e : Ending) (w' : World) : Prop :=
  ∃ q : Nat → Int, e = .returned (.tuple #[.agg #[.int .i64 (q 0), .int .i64 (q 1), .int .i64 (q 2), .int .i64 (q 3), .int .i64 (q 4), .int .i64 (q 5), .int .i64 (q 6), .int .i64 (q 7), .int .i64 (q 8)], .int .i64 (mf rs)]) ∧ (mf rs = 0 → ∀ t, t < 9 → q t = fl rs t) ∧ Below w.heap.size w w'
/-- the world in which cellsOf's loops begin. -/
def cw0 (w : World) (A : Option Addr) (c : Nat) : World := ((w.alloc (.cells #[.slice A 3 c] 36)).alloc (.cells #[.int .i64 0, .int .i64 0, .int .i64 0, .int .i64 0, .int .i64 0, .int .i64 0, .int .i64 0, .int .i64 0, .int .i64 0] 217)).alloc (.cells #[.int .i64 0, .int .i64 0, .int .i64 0, .int .i64 0, .int .i64 0, .int .i64 0, .int .i64 0, .int .i64 0, .int .i64 0] 217)
structure Cw (w : World) (A : Option Addr) (c : Nat) (f : Nat → Int) (wr : World) : Prop where
  cel : ∀ t, t < 9 → wr.cell? ⟨w.heap.size + 1 + 1, t, none⟩ = some (.int .i64 (f t))
  ch : Ch (cw0 w A c) wr (· = w.heap.size + 1 + 1)
theorem cw0_size (w : World) (A : Option Addr) (c : Nat) : (cw0 w A c).heap.size = w.heap.size + 3 := by unfold cw0; simp
theorem nine_get (b : Nat) (t : Nat) (ht : t < 9) : (#[.int .i64 0, .int .i64 0, .int .i64 0, .int .i64 0, .int .i64 0, .int .i64 0, .int .i64 0, .int .i64 0, .int .i64 0] : Array Value)[t]? = some (.int .i64 0) := by
  match t, ht with
  | 0, _ | 1, _ | 2, _ | 3, _ | 4, _ | 5, _ | 6, _ | 7, _ | 8, _ => rfl
theorem newCell (W : World) (cs : Array Value) (t : TypeId) (b k : Nat) (hb : b = W.heap.size) : (W.alloc (.cells cs t)).cell? ⟨b, k, none⟩ = cs[k]? := by subst hb; simp
theorem newFrz (W : World) (cs : Array Value) (t : TypeId) (b k : Nat) (hb : b = W.heap.size) : (W.alloc (.cells cs t)).frozen? ⟨b, k, none⟩ = false := by subst hb; simp
theorem Cw.start (w : World) (A : Option Addr) (c : Nat) : Cw w A c (fun _ => 0) (cw0 w A c) := by
  refine ⟨fun t ht => ?_, Ch.refl _ _⟩
  unfold cw0
  rw [newCell _ _ _ _ _ (by simp), nine_get 0 t ht]
theorem Cw.res {w : World} {A : Option Addr} {c : Nat} {f : Nat → Int} {wr : World} (h : Cw w A c f wr) (t : Nat) (ht : t < 9) :
    wr.cell? ⟨w.heap.size + 1, t, none⟩ = some (.int .i64 0) ∧ wr.frozen? ⟨w.heap.size + 1, t, none⟩ = false := by
  refine ⟨?_, ?_⟩
  · rw [h.ch.cell (by rw [cw0_size]; omega) (by omega)]
    unfold cw0
    exact cell_later (blAlloc _ _) (by rw [newCell _ _ _ _ _ (by simp), nine_get 0 t ht])
  · rw [h.ch.frozen _ _ (by rw [cw0_size]; omega)]
    unfold cw0
    rw [(blAlloc _ _).frozen (p := ⟨w.heap.size + 1, t, none⟩) (by simp)]
    exact newFrz _ _ _ _ _ (by simp)
theorem Cw.bel {w : World} {A : Option Addr} {c : Nat} {f : Nat → Int} {wr : World} (h : Cw w A c f wr) : Below w.heap.size w wr := by
  have h1 : Below w.heap.size w (cw0 w A c) := blThenAlloc (blThenAlloc (blAlloc _ _) _) _
  exact h1.trans (h.ch.below (fun k e => by omega) (by rw [cw0_size]; omega))
theorem Cw.put {w : World} {A : Option Addr} {c : Nat} {f g : Nat → Int} {wr : World} (h : Cw w A c f wr) {t : Nat} (ht : t < 9) {v : Int} (hg : ∀ s, s < 9 → g s = if s = t then v else f s) :
    Cw w A c g (wr.setCell ⟨w.heap.size + 1 + 1, t, none⟩ (.int .i64 v)) := by
  refine ⟨fun s hs => ?_, h.ch.trans (Ch.setCell wr (P := (· = w.heap.size + 1 + 1)) rfl _ _)⟩
  rw [hg s hs]
  by_cases e : s = t
  · subst e
    rw [World.cell?_setCell_same' wr _ _ (by rw [h.cel s hs]; rfl)]; simp
  · rw [World.cell?_setCell_other _ _ _ _ (by simp; try omega), h.cel s hs, if_neg e]
theorem Cw.frz {w : World} {A : Option Addr} {c : Nat} {f : Nat → Int} {wr : World} (h : Cw w A c f wr) (t : Nat) : wr.frozen? ⟨w.heap.size + 1 + 1, t, none⟩ = false := by
  rw [h.ch.frozen _ _ (by rw [cw0_size]; omega)]
  unfold cw0
  exact newFrz _ _ _ _ _ (by simp)
def upTo (rs : Rws) (m : Nat) (t : Nat) : Int := if t < m then fl rs t else 0
set_option maxHeartbeats 2000000 in
theorem cellsOf_any (A : Option Addr) (n c : Nat) (rs : Rws) (bs : List Nat) (w : World) (h : Hd w (rowsD rs) (.slice A n c) bs) :
    Calls Try.prog 147 #[.agg #[.slice A n c]] w (CellsAns w rs) := by
  obtain ⟨hl, hc, hm, -⟩ := h.rows
  unfold maxLen at hm
  have H := Lib.hid h
  clear h
  by_cases hn : n = 3
  · subst hn
    have HL := Lib.hid hl
    clear hl hm
    go_enter Try.func147, Try.ntmps147
    go_wp2_with fail
    go_loopw [17] (fun x wr => ∃ i : Nat, i ≤ 3 ∧ x = .int .i64 i ∧ (∀ j, j < i → rowF (rw_ rs j) = 0) ∧ Cw w A c (upTo rs (i * 3)) wr) (fun x _ => 3 - (intOf x).toNat)
    case atStart => exact ⟨0, by omega, rfl, fun j hj => absurd hj (by omega), Cw.start w A c⟩
    case round =>
      obtain ⟨i, hi, rfl, hrows, hcw⟩ := hrel
      by_cases hlt : i < 3
      · obtain ⟨b, o, B1, L1, C1, g1, rfl, x0, x3, -⟩ := H.out.row hlt
        have x1 := cell_later hcw.bel x0
        have hr1 := x3.rd
        have hcap := x3.caps.1
        have hm1 := x3.caps.2
        unfold maxLen at hm1
        clear x0
        by_cases hL : L1 = 3
        · subst hL
          have HR := Lib.hid hr1
          have HRW := Lib.hid hrows
          have HCW := Lib.hid hcw
          clear hcw hrows hr1 x3
          go_wp2_with fail
          clear x1
          simp only [show decide ((i : Int) < 3) = true from decide_eq_true (by omega)]
          go_loopw [28] (fun x w2 => ∃ k : Nat, k ≤ 3 ∧ x = .int .i64 k ∧ (∀ j, j < k → cel ((rw_ rs i).getD j 0) = true) ∧ Cw w (some ⟨b, o, none⟩) c (upTo rs (i * 3 + k)) w2) (fun x _ => 3 - (intOf x).toNat)
          case atStart => exact ⟨0, by omega, rfl, fun j hj => absurd hj (by omega), HCW.out⟩
          case round =>
            obtain ⟨k, hk, rfl, hcs, hcw⟩ := hrel
            by_cases hlk : k < 3
            · obtain ⟨b1, o1, rfl, hx⟩ := HR.out.2 (by omega)
              have y1 := cell_later hcw.bel (hx k hlk)
              clear hx
              obtain ⟨v, hv⟩ : ∃ v, v = (rw_ rs i).getD k 0 := ⟨_, rfl⟩
              rw [← hv] at y1
              by_cases hce : cel v = true
              · have y2 := hcw.cel (i * 3 + k) (by omega)
                have y3 := hcw.frz (i * 3 + k)
                have HN := Lib.hid (hcw.put (g := upTo rs (i * 3 + (k + 1))) (t := i * 3 + k) (by omega) (v := v) (fun s hs => by
                  unfold upTo
                  by_cases e : s = i * 3 + k
                  · subst e; rw [if_pos (by omega), if_pos rfl, show i * 3 + k = 3 * i + k by omega, fl_at rs i k hlk, hv]
                  · by_cases e2 : s < i * 3 + k
                    · rw [if_pos (by omega), if_neg e, if_pos e2]
                    · rw [if_neg (by omega), if_neg e, if_neg e2]))
                have HCS : Hid (∀ j, j < k + 1 → cel ((rw_ rs i).getD j 0) = true) := fun j hj => by
                  by_cases e : j = k
                  · subst e; rw [← hv]; exact hce
                  · exact hcs j (by omega)
                have HV := Lib.hid hv
                clear hcw hcs hv
                go_wp2_with (go_at_call 172; refine (isCell_any _ _).mono ?_; rintro e w' ⟨rfl, rfl⟩)
                go_roundw
                case rel =>
                  exact ⟨k + 1, by omega, by go_num, HCS.out, HN.out⟩
                case measure => simp [intOf]; omega
              · have hce' : cel v = false := by simpa using hce
                have HM : Hid (mf rs = 3) := by
                  have e := rowF_bad (r := rw_ rs i) (HR.out.1) hlk (by rw [← hv]; exact hce')
                  show _ = _
                  rw [mf_row HL.out hlt HRW.out (by omega), e]
                obtain ⟨r0, z0⟩ := hcw.res 0 (by omega)
                obtain ⟨r1, z1⟩ := hcw.res 1 (by omega)
                obtain ⟨r2, z2⟩ := hcw.res 2 (by omega)
                obtain ⟨r3, z3⟩ := hcw.res 3 (by omega)
                obtain ⟨r4, z4⟩ := hcw.res 4 (by omega)
                obtain ⟨r5, z5⟩ := hcw.res 5 (by omega)
                obtain ⟨r6, z6⟩ := hcw.res 6 (by omega)
                obtain ⟨r7, z7⟩ := hcw.res 7 (by omega)
                obtain ⟨r8, z8⟩ := hcw.res 8 (by omega)
                have HCW2 := Lib.hid hcw
                clear hcw hcs hv hce
                go_wp2_with (go_at_call 172; refine (isCell_any _ _).mono ?_; rintro e w' ⟨rfl, rfl⟩)
                refine bodyPost_ret (v := .tuple #[.agg #[.int .i64 0, .int .i64 0, .int .i64 0, .int .i64 0, .int .i64 0, .int .i64 0, .int .i64 0, .int .i64 0, .int .i64 0], .int .i64 3]) (by simp [results, Try.results147, go_sem, r0, r1, r2, r3, r4, r5, r6, r7, r8]) rfl ⟨fun _ => 0, by rw [HM.out], fun e => by rw [HM.out] at e; omega, ?_⟩
                repeat (refine Below.setCell ?_ (by simp) _)
                exact HCW2.out.bel
            · obtain rfl : k = 3 := by omega
              have HCW2 := Lib.hid hcw
              have HOK := Lib.hid (rowF_ok HR.out.1 hcs)
              clear hcw hcs
              go_wp2_with fail
              go_roundw
              case rel =>
                refine ⟨i + 1, by omega, by go_num, fun j hj => ?_, ?_⟩
                · by_cases e : j = i
                  · subst e; exact HOK.out
                  · exact HRW.out j (by omega)
                · have := HCW2.out
                  rwa [show i * 3 + 3 = (i + 1) * 3 by omega] at this
              case measure => simp [intOf]; omega
        · have HM : Hid (mf rs = 2) := by
            have e := rowF_len (r := rw_ rs i) (by rw [hr1.1]; exact hL)
            show _ = _
            rw [mf_row HL.out hlt hrows (by omega), e]
          obtain ⟨r0, z0⟩ := hcw.res 0 (by omega)
          obtain ⟨r1, z1⟩ := hcw.res 1 (by omega)
          obtain ⟨r2, z2⟩ := hcw.res 2 (by omega)
          obtain ⟨r3, z3⟩ := hcw.res 3 (by omega)
          obtain ⟨r4, z4⟩ := hcw.res 4 (by omega)
          obtain ⟨r5, z5⟩ := hcw.res 5 (by omega)
          obtain ⟨r6, z6⟩ := hcw.res 6 (by omega)
          obtain ⟨r7, z7⟩ := hcw.res 7 (by omega)
          obtain ⟨r8, z8⟩ := hcw.res 8 (by omega)
          have HCW := Lib.hid hcw
          clear hcw hrows hr1 x3
          go_wp2_with fail
          refine bodyPost_ret (v := .tuple #[.agg #[.int .i64 0, .int .i64 0, .int .i64 0, .int .i64 0, .int .i64 0, .int .i64 0, .int .i64 0, .int .i64 0, .int .i64 0], .int .i64 2]) (by simp [results, Try.results147, go_sem, r0, r1, r2, r3, r4, r5, r6, r7, r8]) rfl ⟨fun _ => 0, by rw [HM.out], fun e => by rw [HM.out] at e; omega, ?_⟩
          repeat (refine Below.setCell ?_ (by simp) _)
          exact HCW.out.bel
      · obtain rfl : i = 3 := by omega
        have HM := Lib.hid (mf_ok HL.out hrows)
        obtain ⟨r0, z0⟩ := hcw.res 0 (by omega)
        obtain ⟨r1, z1⟩ := hcw.res 1 (by omega)
        obtain ⟨r2, z2⟩ := hcw.res 2 (by omega)
        obtain ⟨r3, z3⟩ := hcw.res 3 (by omega)
        obtain ⟨r4, z4⟩ := hcw.res 4 (by omega)
        obtain ⟨r5, z5⟩ := hcw.res 5 (by omega)
        obtain ⟨r6, z6⟩ := hcw.res 6 (by omega)
        obtain ⟨r7, z7⟩ := hcw.res 7 (by omega)
        obtain ⟨r8, z8⟩ := hcw.res 8 (by omega)
        have c0 := hcw.cel 0 (by omega)
        have c1 := hcw.cel 1 (by omega)
        have c2 := hcw.cel 2 (by omega)
        have c3 := hcw.cel 3 (by omega)
        have c4 := hcw.cel 4 (by omega)
        have c5 := hcw.cel 5 (by omega)
        have c6 := hcw.cel 6 (by omega)
        have c7 := hcw.cel 7 (by omega)
        have c8 := hcw.cel 8 (by omega)
        have HCW := Lib.hid hcw
        clear hcw hrows
        go_wp2_with fail
        refine bodyPost_ret (v := .tuple #[.agg #[.int .i64 (upTo rs 9 0), .int .i64 (upTo rs 9 1), .int .i64 (upTo rs 9 2), .int .i64 (upTo rs 9 3), .int .i64 (upTo rs 9 4), .int .i64 (upTo rs 9 5), .int .i64 (upTo rs 9 6), .int .i64 (upTo rs 9 7), .int .i64 (upTo rs 9 8)], .int .i64 0]) (by simp [results, Try.results147, go_sem, r0, r1, r2, r3, r4, r5, r6, r7, r8]) rfl ⟨upTo rs 9, by rw [HM.out], fun _ t ht => by unfold upTo; rw [if_pos ht], ?_⟩
        repeat (refine Below.setCell ?_ (by simp) _)
        exact HCW.out.bel
  · have HM := Lib.hid (mf_len (rs := rs) (by omega))
    go_enter Try.func147, Try.ntmps147
    go_wp2_with fail
    refine bodyPost_ret (v := .tuple #[.agg #[.int .i64 0, .int .i64 0, .int .i64 0, .int .i64 0, .int .i64 0, .int .i64 0, .int .i64 0, .int .i64 0, .int .i64 0], .int .i64 2]) (by simp [results, Try.results147, go_sem]) rfl ⟨fun _ => 0, by rw [HM.out], fun e => by rw [HM.out] at e; omega, ?_⟩
    repeat (refine Below.setCell ?_ (by simp) _)
    exact blThenAlloc (blAlloc _ _) _
end Go.Proofs.Ytmmlcdbbjkligaa
