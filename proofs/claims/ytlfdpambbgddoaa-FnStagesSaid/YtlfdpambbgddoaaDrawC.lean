/-
  The draws of curves: l1DrawLevel, l3Draw.
-/
import Derived.Test.YtlfdpambbgddoaaDrawT
import Derived.Test.YtlfdpambbgddoaaCurL
import Derived.StillTailTactics
namespace Go.Proofs.Ytlfdpambbgddoaa
open Go.RowKit
set_option linter.unusedVariables false

def LevP (r : Int) : Prop := 0 ≤ r ∧ r ≤ 65535
set_option maxHeartbeats 400000 in
theorem drawLevel_any (g : Nat) (A : Option Addr) (n c : Nat) (xs : List Int) (q : Int) (w : World) (h : Src w g A n c xs q) (hq : q ≤ 900000000) :
    Calls Try.prog 138 #[.pointer (some ⟨g, 0, none⟩)] w (DrawI w g A n c xs q 2 LevP) := by
  have HS := Lib.hid h
  clear h
  go_enter Try.func138, Try.ntmps138
  go_wp2_with fail
  refine (next_any g A n c xs q 65536 _ HS.out (by omega) (by omega)).mono ?_
  rintro e w1 ⟨r, ⟨hr0, hr1⟩, rfl, hs1, hg1⟩
  have hr2 := hr1 (by omega)
  have HS1 := Lib.hid hs1
  have HG1 := Lib.hid hg1
  clear hs1 hg1 hr1
  go_wp2_with fail
  refine (pick_any g A n c xs (q + 1) _ 7 7 [0, 1, 65535, 65534, 32767, 32768, r] LevP _ (HS1.out.gbNew _) (by omega) (rd_lit w1 [0, 1, 65535, 65534, 32767, 32768, r] _) (by omega) (by omega) ?_ ?_).mono ?_
  · intro a e; injection e with e; subst e; have := HS1.out.lt; show w1.heap.size ≠ g; omega
  · intro y hy; simp at hy; unfold LevP; omega
  rintro e w2 ⟨y, q2, hP, rfl, hq2, hs2, hg2⟩
  have HS2 := Lib.hid hs2
  have HG2 := Lib.hid hg2
  have HP := Lib.hid hP
  clear hs2 hg2 hP
  go_wp2_with fail
  go_ret
  exact ⟨y, q2, HP.out, rfl, by omega, HS2.out, gb_trans HG1.out (gb_trans (gb_below _ (blAlloc _ _)) HG2.out)⟩

/-! ### a list of one's own, in place -/
theorem Own.putI {w : World} {k : IntKind} {ps : List Int} {b o m c lo hi : Nat} (h : Own w (.ints k ps) (.slice (some ⟨b, o, none⟩) m c) lo hi) {i : Nat} (hi' : i < m) (v : Int) :
    Own (w.setCell ⟨b, o + i, none⟩ (.int k v)) (.ints k (ps.set i v)) (.slice (some ⟨b, o, none⟩) m c) lo hi := by
  obtain ⟨bs, hd, nd, hin⟩ := h
  cases hd with
  | ints0 => omega
  | ints _ _ _ _ _ _ hn hl hr hc hm =>
    refine ⟨[b], .ints k b o m c _ hn (by simpa using hl) (fun j hj => ?_) hc hm, by simp, fun x hx => ?_⟩
    · by_cases e : j = i
      · subst e
        rw [World.cell?_setCell_same' _ _ _ (by rw [hr j hj]; rfl)]
        simp [List.getD, hl, hj]
      · rw [World.cell?_setCell_other _ _ _ _ (by simp; try omega), hr j hj]
        simp [List.getD, List.getElem?_set_ne (Ne.symm e)]
    · obtain ⟨a1, a2, a3⟩ := hin x hx
      exact ⟨a1, a2, fun j => by rw [← a3 j]; simp⟩
theorem Own.slotI {w : World} {k : IntKind} {ps : List Int} {A : Option Addr} {m c lo hi : Nat} (h : Own w (.ints k ps) (.slice A m c) lo hi) (hm : 0 < m) :
    ∃ b o, A = some ⟨b, o, none⟩ ∧ lo ≤ b ∧ b < hi ∧ Thaw w b ∧ ∀ i, i < m → w.cell? ⟨b, o + i, none⟩ = some (.int k (ps.getD i 0)) := by
  obtain ⟨bs, hd, nd, hin⟩ := h
  cases hd with
  | ints0 => omega
  | ints _ b o _ _ _ hn hl hr hc hm =>
    obtain ⟨a1, a2, a3⟩ := hin b (by simp)
    exact ⟨b, o, rfl, a1, a2, a3, hr⟩
def Lvs (ps : List Int) : Prop := ∀ i, 0 ≤ pt ps i ∧ pt ps i ≤ 65535
theorem Lvs.nil : Lvs [] := fun i => by simp [pt]
theorem Lvs.snoc {ps : List Int} {r : Int} (h : Lvs ps) (h0 : LevP r) : Lvs (ps ++ [r]) := by
  intro i
  unfold pt
  by_cases hi : i < ps.length
  · have : (ps ++ [r]).getD i 0 = ps.getD i 0 := by simp [List.getD, List.getElem?_append_left hi]
    rw [this]; exact h i
  · by_cases he : i = ps.length
    · subst he; have := h0; unfold LevP at this; simpa using this
    · have : (ps ++ [r]).getD i 0 = 0 := by simp [List.getD]; rw [List.getElem?_eq_none (by simp; omega)]; rfl
      rw [this]; omega
theorem Lvs.put {ps : List Int} {r : Int} (h : Lvs ps) (h0 : LevP r) (k : Nat) : Lvs (ps.set k r) := by
  intro i
  unfold pt
  by_cases e : i = k
  · subst e
    by_cases hi : i < ps.length
    · have := h0; unfold LevP at this; simpa [List.getD, hi] using this
    · have := h i; unfold pt at this; rw [List.set_eq_of_length_le (by omega)]; exact this
  · have : (ps.set k r).getD i 0 = ps.getD i 0 := by simp [List.getD, List.getElem?_set_ne (Ne.symm e)]
    rw [this]; exact h i
theorem Lvs.fine {ps : List Int} (h : Lvs ps) (h1 : 2 ≤ ps.length) (h2 : ps.length ≤ 17) : CFine ps := ⟨h1, h2, h⟩
theorem lnP_fine {N : Nat} (h1 : 2 ≤ N) (h2 : N ≤ 17) : CFine (lnP N N) := by
  refine ⟨by rw [lnP_len]; exact h1, by rw [lnP_len]; exact h2, fun i => ?_⟩
  by_cases hi : i < N
  · unfold pt
    rw [lnP_get hi]
    unfold lnAt rnd
    have a : (0 : Int) < 2 * ((N : Int) - 1) := by omega
    have p0 : (0 : Int) ≤ 2 * ((i : Int) * 65535) + ((N : Int) - 1) := by omega
    refine ⟨Int.ediv_nonneg p0 (by omega), ?_⟩
    have : (2 * ((i : Int) * 65535) + ((N : Int) - 1)) / (2 * ((N : Int) - 1)) < 65536 := by
      apply Int.ediv_lt_of_lt_mul a
      have : (i : Int) ≤ (N : Int) - 1 := by omega
      omega
    omega
  · rw [pt_out (by rw [lnP_len]; omega)]; omega

theorem own_gb {a b : World} {g lo hi : Nat} {d : Dat} {v : Value} (h : Own a d v lo hi) (hg : a.grownBy b (some g)) (hlo : g < lo) : Own b d v lo hi := by
  obtain ⟨bs, h1, h2, h3⟩ := h
  have hk : ∀ x ∈ bs, b.heap[x]? = a.heap[x]? := fun x hx => hg.block x (h1.lt x hx) (fun e => by injection e with e; have := (h3 x hx).1; omega)
  refine ⟨bs, h1.keep fun x hx i => World.cell?_of_block (hk x hx), h2, fun x hx => ⟨(h3 x hx).1, (h3 x hx).2.1, fun i => ?_⟩⟩
  rw [World.frozen?_of_block (hk x hx)]; exact (h3 x hx).2.2 i
/-! ### l3Draw -/
structure CSt (w : World) (g r b : Nat) (A : Option Addr) (n c : Nat) (xs : List Int) (Q : Int) (B : Option Addr) (m cp : Nat) (W : World) : Prop where
  src : ∃ q', q' ≤ Q ∧ Src W g A n c xs q'
  box : W.cell? ⟨b, 0, none⟩ = some (.slice B m cp)
  res : W.cell? ⟨r, 0, none⟩ = some (.slice none 0 0)
  thr : Thaw W r
  thb : Thaw W b
  gb : w.grownBy W (some g)
  rb : r < b
  gr : g < r
  wr : w.heap.size ≤ r
theorem Thaw.gb1 {w w' : World} {b g : Nat} (h : Thaw w b) (hg : w.grownBy w' (some g)) (hb : b < w.heap.size) (hne : b ≠ g) : Thaw w' b := fun i => by
  rw [← h i]
  unfold World.frozen?
  rw [hg.block b hb (fun e => hne (by injection e))]
theorem CSt.gb' {w : World} {g r b : Nat} {A : Option Addr} {n c : Nat} {xs : List Int} {Q Q' : Int} {B : Option Addr} {m cp : Nat} {W W' : World} (h : CSt w g r b A n c xs Q B m cp W) (hg : W.grownBy W' (some g)) (hs : ∃ q', q' ≤ Q' ∧ Src W' g A n c xs q') : CSt w g r b A n c xs Q' B m cp W' := by
  have h1 := h.rb
  have h2 := h.gr
  exact ⟨hs, (gb_cell hg (p := ⟨b, 0, none⟩) (cell_lt h.box) (by show b ≠ g; omega)).trans h.box, (gb_cell hg (p := ⟨r, 0, none⟩) (cell_lt h.res) (by show r ≠ g; omega)).trans h.res, h.thr.gb1 hg (cell_lt h.res) (by omega), h.thb.gb1 hg (cell_lt h.box) (by omega), gb_trans h.gb hg, h.rb, h.gr, h.wr⟩
theorem CSt.below {w : World} {g r b : Nat} {A : Option Addr} {n c : Nat} {xs : List Int} {Q : Int} {B : Option Addr} {m cp : Nat} {W W' : World} (h : CSt w g r b A n c xs Q B m cp W) (hb : Below W.heap.size W W') : CSt w g r b A n c xs Q B m cp W' :=
  h.gb' (gb_below _ hb) (by obtain ⟨q', a, s⟩ := h.src; exact ⟨q', a, s.below hb⟩)
theorem CSt.more {w : World} {g r b : Nat} {A : Option Addr} {n c : Nat} {xs : List Int} {Q Q' : Int} {B : Option Addr} {m cp : Nat} {W : World} (h : CSt w g r b A n c xs Q B m cp W) (hq : Q ≤ Q') : CSt w g r b A n c xs Q' B m cp W :=
  { h with src := by obtain ⟨q', a, s⟩ := h.src; exact ⟨q', by omega, s⟩ }
/-- blocks from b + 1 on have turned, and then the box. -/
theorem CSt.up {w : World} {g r b : Nat} {A : Option Addr} {n c : Nat} {xs : List Int} {Q q0 : Int} {B B' : Option Addr} {m cp m' cp' : Nat} {W W' : World} (h : CSt w g r b A n c xs Q B m cp W) (h0 : Src w g A n c xs q0)
    (hb : Below (b + 1) W W') : CSt w g r b A n c xs Q B' m' cp' (W'.setCell ⟨b, 0, none⟩ (.slice B' m' cp')) := by
  obtain ⟨q', hq', hs⟩ := h.src
  have h1 := h.rb
  have h2 := h.wr
  have h3 := h.gb.size
  have hl := cell_lt h.box
  have hb2 : Below w.heap.size W (W'.setCell ⟨b, 0, none⟩ (.slice B' m' cp')) := (hb.mono (by omega)).setCell (p := ⟨b, 0, none⟩) (by show w.heap.size ≤ b; omega) _
  have cb := (hb.cell (p := ⟨b, 0, none⟩) (Nat.lt_succ_self b)).trans h.box
  have cr := (hb.cell (p := ⟨r, 0, none⟩) (by show r < b + 1; omega)).trans h.res
  refine ⟨⟨q', hq', h0.low hs hb2⟩, World.cell?_setCell_same' _ _ _ (by rw [cb]; rfl), ?_, fun i => ?_, fun i => ?_, gb_low h.gb hb2, h.rb, h.gr, h.wr⟩
  · rw [World.cell?_setCell_other _ _ _ _ (by simp; try omega)]; exact cr
  · rw [World.frozen?_setCell, hb.frozen (p := ⟨r, i, none⟩) (by show r < b + 1; omega)]; exact h.thr i
  · rw [World.frozen?_setCell, hb.frozen (p := ⟨b, i, none⟩) (Nat.lt_succ_self b)]; exact h.thb i
/-- blocks from b + 1 on have turned. -/
theorem CSt.up0 {w : World} {g r b : Nat} {A : Option Addr} {n c : Nat} {xs : List Int} {Q q0 : Int} {B : Option Addr} {m cp : Nat} {W W' : World} (h : CSt w g r b A n c xs Q B m cp W) (h0 : Src w g A n c xs q0)
    (hb : Below (b + 1) W W') : CSt w g r b A n c xs Q B m cp W' := by
  obtain ⟨q', hq', hs⟩ := h.src
  have h1 := h.rb
  have h2 := h.wr
  have hb2 : Below w.heap.size W W' := hb.mono (by omega)
  have cb := (hb.cell (p := ⟨b, 0, none⟩) (Nat.lt_succ_self b)).trans h.box
  have cr := (hb.cell (p := ⟨r, 0, none⟩) (by show r < b + 1; omega)).trans h.res
  exact ⟨⟨q', hq', h0.low hs hb2⟩, cb, cr, fun i => by rw [hb.frozen (p := ⟨r, i, none⟩) (by show r < b + 1; omega)]; exact h.thr i, fun i => by rw [hb.frozen (p := ⟨b, i, none⟩) (Nat.lt_succ_self b)]; exact h.thb i, gb_low h.gb hb2, h.rb, h.gr, h.wr⟩
/-- a curve that is drawn. -/
def CurDr (w : World) (g : Nat) (A : Option Addr) (n c : Nat) (xs : List Int) (q d : Int) (e : Ending) (w' : World) : Prop :=
  ∃ G m cp ps, e = .returned (.agg #[.slice G m cp]) ∧ CFine ps ∧ Own w' (.ints .i64 ps) (.slice G m cp) (w.heap.size + 1) w'.heap.size ∧ (∃ q', q' ≤ q + d ∧ Src w' g A n c xs q') ∧ w.grownBy w' (some g)
set_option maxRecDepth 100000 in
set_option maxHeartbeats 4000000 in
theorem draw3_any (g : Nat) (A : Option Addr) (n c : Nat) (xs : List Int) (q : Int) (w : World) (h : Src w g A n c xs q) (hq : q ≤ 10000000) :
    Calls Try.prog 143 #[.pointer (some ⟨g, 0, none⟩)] w (CurDr w g A n c xs q 30) := by
  have HS := Lib.hid h
  have hgl := h.lt
  have M0 : Hid (CSt w g w.heap.size (w.heap.size + 1) A n c xs q Option.none 0 0 ((w.alloc (.cells #[.slice none 0 0] 71)).alloc (.cells #[.slice none 0 0] 71))) :=
    ⟨⟨q, by omega, (h.gbNew _).gbNew _⟩, by simp, by simp, fun i => by simp, fun i => by simp, gb_below _ (blThenAlloc (blAlloc _ _) _), by omega, hgl, Nat.le_refl _⟩
  clear h
  go_enter Try.func143, Try.ntmps143
  go_wp2_with fail
  refine (next_any g A n c xs q 5 _ ((HS.out.gbNew _).gbNew _) (by omega) (by omega)).mono ?_
  rintro e w1 ⟨r, ⟨hr0, hr1⟩, rfl, hs1, hg1⟩
  have hr2 := hr1 (by omega)
  have M1 := Lib.hid (M0.out.gb' (Q' := q + 1) hg1 ⟨q + 1, by omega, hs1⟩)
  clear hs1 hg1 hr1 M0
  go_wp2_with fail
  go_loopw [4] (fun i wr => ∃ (j : Int) (B : Option Addr) (m cp : Nat) (ps : List Int), 0 ≤ j ∧ (m : Int) + j = 2 + r ∧ i = .int .i64 j ∧ Hid (Lvs ps) ∧ OwnI wr (w.heap.size + 2) (.slice B m cp) m ps ∧ CSt w g w.heap.size (w.heap.size + 1) A n c xs (q + 1 + 2 * (6 - j)) B m cp wr) (fun i _ => (intOf i).toNat)
  case atStart => exact ⟨2 + r, Option.none, 0, 0, [], by omega, by omega, rfl, Lvs.nil, OwnI.nil _ _, M1.out.more (by omega)⟩
  case round =>
    obtain ⟨j, B, m, cp, ps, hj0, hmj, rfl, hlv, hown, hM⟩ := hrel
    have HM := Lib.hid hM
    have HO := Lib.hid hown
    obtain ⟨q3, hq3, hS3⟩ := hM.src
    have HS3 := Lib.hid hS3
    have x1 := hM.box
    have hl1 := cell_lt x1
    clear hM hS3 hown
    by_cases hlt : 0 < j
    · go_wp2_with fail
      go_region_law (first
        | (refine step_append_i64 _ rfl _ _ rfl (w.heap.size + 2) (.slice B m cp) m ps rfl (Oa.out.alloc _) wa.heap.size 1 y rfl (new_cell wa _ _) (by omega) (by simp; omega) ?_; intro v5 w5 ho5 hg5 hv5; obtain ⟨A5, c5, rfl⟩ := ho5.form; obtain ⟨kc, kf⟩ := gb_keep hg5 hv5 (b := w.heap.size + 1) (by omega) (by simp; omega); have y1 := (kc 0).trans ((Ma.out.below (blAlloc _ (.cells #[.int .i64 y] 2))).box); have y2 := (kf 0).trans ((Ma.out.below (blAlloc _ (.cells #[.int .i64 y] 2))).thb 0); clear kc kf)
        | (go_simp; go_at_call 138; refine (drawLevel_any g A n c xs q3 _ (HS3.out.below (below_drewN _ 1 _)) (by omega)).mono ?_; rintro e wa ⟨y, q4, hy, rfl, hq4, hsa, hga⟩; have Ma := Lib.hid ((HM.out.below (below_drewN _ 1 _)).gb' (Q' := q + 1 + 2 * (6 - j) + 2) hga ⟨q4, by omega, hsa⟩); have Oa := Lib.hid ((HO.out.drewN 1).ch hga (fun b e => by injection e; omega)); have HY := Lib.hid hy; have xa := Ma.out.box; have hla : w.heap.size + 1 < wa.heap.size := cell_lt xa; have xb := cell_later (blAlloc wa (.cells #[.int .i64 y] 2)) xa; clear hsa hga hy))
      all_goals
        have MP := Lib.hid ((Ma.out.below (blAlloc _ (.cells #[.int .i64 y] 2))).up (B' := A5) (m' := m + 1) (cp' := c5) HS.out (gb_low' hg5 hv5 (by omega) (by simp; omega)))
        have OP := Lib.hid (ho5.set (b := w.heap.size + 1) (by omega) 0 (.slice A5 (m + 1) c5))
        clear ho5 hg5 hv5 y1 y2 xa xb
        go_wp2_with fail
        go_roundw
        case rel => exact ⟨j - 1, A5, m + 1, c5, ps ++ [y], by omega, by omega, by go_num, hlv.out.snoc HY.out, OP.out, MP.out.more (by omega)⟩
        case measure => simp [intOf]; omega
    · obtain rfl : j = 0 := by omega
      have HLEN := Lib.hid HO.out.len
      have HOW := Lib.hid HO.out.own
      clear HO
      go_wp2_with fail
      refine (chance_any g A n c xs q3 4 _ HS3.out (by omega) (by omega)).mono ?_
      rintro e w4 ⟨t4, rfl, hs4, hg4⟩
      have M4 := Lib.hid (HM.out.gb' (Q' := q + 15) hg4 ⟨q3 + 1, by omega, hs4⟩)
      have O4 := Lib.hid ((own_gb HOW.out hg4 (by omega)).mono (Nat.le_refl _) hg4.size)
      have hm6 : m ≤ 6 := by omega
      have hm2 : 2 ≤ m := by omega
      clear hs4 hg4 HM HS3 HOW x1 hl1
      cases t4 with
      | true =>
        go_wp2_with fail
        obtain ⟨q5, hq5, hS5⟩ := M4.out.src
        refine (chance_any g A n c xs q5 5 _ hS5 (by omega) (by omega)).mono ?_
        rintro e w5 ⟨t5, rfl, hs5, hg5⟩
        have M5 := Lib.hid (M4.out.gb' (Q' := q + 16) hg5 ⟨q5 + 1, by omega, hs5⟩)
        have O5 := Lib.hid ((own_gb O4.out hg5 (by omega)).mono (Nat.le_refl _) hg5.size)
        clear hs5 hg5 hS5 M4 O4
        have x5 := M5.out.box
        have hl5 : w.heap.size + 1 < w5.heap.size := cell_lt x5
        have r5 := M5.out.res
        have hr5 : w.heap.size < w5.heap.size := cell_lt r5
        have f5 := M5.out.thr 0
        cases t5 with
        | true =>
          obtain ⟨q6, hq6, hS6⟩ := M5.out.src
          have HS6 := Lib.hid hS6
          clear hS6
          go_wp2_with fail
          refine (next_any g A n c xs q6 16 _ HS6.out (by omega) (by omega)).mono ?_
          rintro e w6 ⟨r6, ⟨hr60, hr61⟩, rfl, hs6, hg6⟩
          have hr62 := hr61 (by omega)
          obtain ⟨N, hN⟩ : ∃ N : Nat, 2 + r6 = (N : Int) := ⟨(2 + r6).toNat, by omega⟩
          have M6 := Lib.hid (M5.out.gb' (Q' := q + 17) hg6 ⟨q6 + 1, by omega, hs6⟩)
          clear hs6 hg6 hr61 x5 r5 f5
          go_wp2_with fail
          refine (sLine_any N _ (by omega) (by omega)).mono ?_
          rintro e w7 ⟨G7, c7, rfl, ho7, hb7⟩
          have M7 := Lib.hid (M6.out.below hb7)
          have O7 := Lib.hid ho7
          have hs7 : w.heap.size + 1 < w6.heap.size := cell_lt M6.out.box
          have r7 := M7.out.res
          have f7 := M7.out.thr 0
          clear ho7 hb7
          go_wp2_with fail
          refine bodyPost_ret (v := .agg #[.slice G7 N c7]) (by simp [results, Try.results143, go_sem, r7]) rfl ?_
          have hbf : Below w.heap.size w7 (w7.setCell ⟨w.heap.size, 0, none⟩ (.slice G7 N c7)) := (Below.refl _ _).setCell (p := ⟨w.heap.size, 0, none⟩) (Nat.le_refl _) _
          obtain ⟨q8, hq8, hS8⟩ := M7.out.src
          refine ⟨_, _, _, _, rfl, lnP_fine (N := N) (by omega) (by omega), ?_, ⟨q8, by omega, HS.out.low hS8 hbf⟩, gb_low M7.out.gb hbf⟩
          exact Own.mono (lo := w6.heap.size) (hi := w7.heap.size) (O7.out.set (b := w.heap.size) (.inl (by omega)) _ _) (by omega) (by simp [World.setCell])
        | false =>
          go_wp2_with fail
          refine bodyPost_ret (v := .agg #[.slice B m cp]) (by simp [results, Try.results143, go_sem, r5]) rfl ?_
          have hbf : Below w.heap.size w5 (w5.setCell ⟨w.heap.size, 0, none⟩ (.slice B m cp)) := (Below.refl _ _).setCell (p := ⟨w.heap.size, 0, none⟩) (Nat.le_refl _) _
          obtain ⟨q8, hq8, hS8⟩ := M5.out.src
          refine ⟨_, _, _, _, rfl, hlv.out.fine (by rw [HLEN.out]; omega) (by rw [HLEN.out]; omega), ?_, ⟨q8, by omega, HS.out.low hS8 hbf⟩, gb_low M5.out.gb hbf⟩
          exact Own.mono (lo := w.heap.size + 2) (hi := w5.heap.size) (O5.out.set (b := w.heap.size) (.inl (by omega)) _ _) (by omega) (by simp [World.setCell])
      | false =>
        obtain ⟨b', o', rfl, lb, ub, -, -⟩ := O4.out.slotI (by omega)
        have x4 := M4.out.box
        have hl4 : w.heap.size + 1 < w4.heap.size := cell_lt x4
        go_wp2_with fail
        go_loopw [5] (fun i wr => ∃ (K k : Nat) (ps' : List Int), Hid (K = k + 1) ∧ K ≤ m ∧ i = .int .i64 K ∧ Hid (Lvs ps') ∧ Hid (ps'.length = m) ∧ Own wr (.ints .i64 ps') (.slice (some ⟨b', o', none⟩) m cp) (w.heap.size + 2) w4.heap.size ∧ w4.heap.size ≤ wr.heap.size ∧ CSt w g w.heap.size (w.heap.size + 1) A n c xs (q + 15) (some ⟨b', o', none⟩) m cp wr) (fun i _ => m - (intOf i).toNat)
        case atStart => exact ⟨1, 0, ps, rfl, by omega, rfl, hlv, HLEN, O4.out, Nat.le_refl _, M4.out⟩
        case round =>
          obtain ⟨K, k, ps', hKk, hK, rfl, hlv', hlen', hown', hsz, hM'⟩ := hrel
          have HM' := Lib.hid hM'
          have HO' := Lib.hid hown'
          have x1 := hM'.box
          have hl1 := cell_lt x1
          have k0 : k < K := by have := hKk.out; omega
          obtain ⟨b2, o2, e2, -, -, th2, hcl⟩ := hown'.slotI (by omega)
          injection e2 with e2
          injection e2 with e3 e4
          subst e3 e4
          clear hM' hown'
          by_cases hlt : K < m
          · have c0 : wr.cell? ⟨b', o' + k, none⟩ = some (.int .i64 (pt ps' k)) := hcl k (by omega)
            have c1 : wr.cell? ⟨b', o' + K, none⟩ = some (.int .i64 (pt ps' K)) := hcl K hlt
            have f1 := th2 (o' + K)
            have w1' : IntKind.i64.wrap ((K : Int) - 1) = (k : Int) := by have := hKk.out; rw [IntWalk.i64_in _ (by omega)]; omega
            have hkn : (k : Int) < (m : Int) := by omega
            have HLP : Hid (LevP (max (pt ps' K) (pt ps' k))) := by
              have a := hlv'.out K
              have b := hlv'.out k
              show LevP _
              unfold LevP; omega
            clear hcl th2
            generalize pt ps' K = y1 at *
            generalize pt ps' k = y0 at *
            go_wp2_with fail
            refine wp_region_still_tail 16 (by kernel_rfl) (by kernel_rfl) ?_
            simp only [List.take_succ_cons, List.take_zero, List.drop_succ_cons, List.drop_zero]
            repeat still_step
            still_call ((sMax_any _ _ _).mono fun e w' ⟨he, hw⟩ => ⟨he, hw.symm⟩)
            repeat still_step
            refine wpStill_nil ?_
            change wpList _ _ _ _ _ wr.drew
            go_wp2_with fail
            have hbb : Below (w.heap.size + 1 + 1) wr (wr.drew.setCell ⟨b', o' + K, none⟩ (.int .i64 (max y1 y0))) := (Below.refl _ _).drew.setCell (p := ⟨b', o' + K, none⟩) (by show w.heap.size + 1 + 1 ≤ b'; omega) _
            have MP := Lib.hid (HM'.out.up0 HS.out hbb)
            have OP : Hid (Own (wr.drew.setCell ⟨b', o' + K, none⟩ (.int .i64 (max y1 y0))) (.ints .i64 (ps'.set K (max y1 y0))) (.slice (some ⟨b', o', none⟩) m cp) (w.heap.size + 2) w4.heap.size) := (HO'.out.drewN 1).putI hlt _
            clear hbb
            go_roundw
            case rel => exact ⟨K + 1, K, _, rfl, by omega, by go_num, hlv'.out.put HLP.out K, by show _ = _; rw [List.length_set]; exact hlen'.out, OP.out, by simpa [World.setCell] using hsz, MP.out⟩
            case measure => simp [intOf]; omega
          · have hsw : w4.heap.size ≤ wr.heap.size := hsz
            clear hcl th2
            go_wp2_with fail
            obtain ⟨q5, hq5, hS5⟩ := HM'.out.src
            refine (chance_any g A n c xs q5 5 _ hS5 (by omega) (by omega)).mono ?_
            rintro e w5 ⟨t5, rfl, hs5, hg5⟩
            have M5 := Lib.hid (HM'.out.gb' (Q' := q + 16) hg5 ⟨q5 + 1, by omega, hs5⟩)
            have O5 := Lib.hid ((own_gb HO'.out hg5 (by omega)).mono (Nat.le_refl _) (Nat.le_trans hsw hg5.size))
            clear hs5 hg5 hS5 HM' HO'
            have x5 := M5.out.box
            have hl5 : w.heap.size + 1 < w5.heap.size := cell_lt x5
            have r5 := M5.out.res
            have hr5 : w.heap.size < w5.heap.size := cell_lt r5
            have f5 := M5.out.thr 0
            cases t5 with
            | true =>
              obtain ⟨q6, hq6, hS6⟩ := M5.out.src
              have HS6 := Lib.hid hS6
              clear hS6
              go_wp2_with fail
              refine (next_any g A n c xs q6 16 _ HS6.out (by omega) (by omega)).mono ?_
              rintro e w6 ⟨r6, ⟨hr60, hr61⟩, rfl, hs6, hg6⟩
              have hr62 := hr61 (by omega)
              obtain ⟨N, hN⟩ : ∃ N : Nat, 2 + r6 = (N : Int) := ⟨(2 + r6).toNat, by omega⟩
              have M6 := Lib.hid (M5.out.gb' (Q' := q + 17) hg6 ⟨q6 + 1, by omega, hs6⟩)
              clear hs6 hg6 hr61 x5 r5 f5
              go_wp2_with fail
              refine (sLine_any N _ (by omega) (by omega)).mono ?_
              rintro e w7 ⟨G7, c7, rfl, ho7, hb7⟩
              have M7 := Lib.hid (M6.out.below hb7)
              have O7 := Lib.hid ho7
              have hs7 : w.heap.size + 1 < w6.heap.size := cell_lt M6.out.box
              have r7 := M7.out.res
              have f7 := M7.out.thr 0
              clear ho7 hb7
              go_wp2_with fail
              refine bodyPost_ret (v := .agg #[.slice G7 N c7]) (by simp [results, Try.results143, go_sem, r7]) rfl ?_
              have hbf : Below w.heap.size w7 (w7.setCell ⟨w.heap.size, 0, none⟩ (.slice G7 N c7)) := (Below.refl _ _).setCell (p := ⟨w.heap.size, 0, none⟩) (Nat.le_refl _) _
              obtain ⟨q8, hq8, hS8⟩ := M7.out.src
              refine ⟨_, _, _, _, rfl, lnP_fine (N := N) (by omega) (by omega), ?_, ⟨q8, by omega, HS.out.low hS8 hbf⟩, gb_low M7.out.gb hbf⟩
              exact Own.mono (lo := w6.heap.size) (hi := w7.heap.size) (O7.out.set (b := w.heap.size) (.inl (by omega)) _ _) (by omega) (by simp [World.setCell])
            | false =>
              go_wp2_with fail
              refine bodyPost_ret (v := .agg #[.slice (some ⟨b', o', none⟩) m cp]) (by simp [results, Try.results143, go_sem, r5]) rfl ?_
              have hbf : Below w.heap.size w5 (w5.setCell ⟨w.heap.size, 0, none⟩ (.slice (some ⟨b', o', none⟩) m cp)) := (Below.refl _ _).setCell (p := ⟨w.heap.size, 0, none⟩) (Nat.le_refl _) _
              obtain ⟨q8, hq8, hS8⟩ := M5.out.src
              refine ⟨_, _, _, _, rfl, hlv'.out.fine (by rw [hlen'.out]; omega) (by rw [hlen'.out]; omega), ?_, ⟨q8, by omega, HS.out.low hS8 hbf⟩, gb_low M5.out.gb hbf⟩
              exact Own.mono (lo := w.heap.size + 2) (hi := w5.heap.size) (O5.out.set (b := w.heap.size) (.inl (by omega)) _ _) (by omega) (by simp [World.setCell])
end Go.Proofs.Ytlfdpambbgddoaa
