/-
  The draws of profiles: l2Draw.
-/
import Derived.Test.YtbbghebpmobfnaaDrawP
import Derived.Deep.RegionLaw
import Derived.Deep.AppendLies
namespace Go.Proofs.Ytbbghebpmobfnaa
open Go.RowKit
set_option linter.unusedVariables false

theorem step_append_tag (w : World) {ops : Array Oper} {op : Oper} {a : Act} {K : Act → World → Prop} {Q : Exit → Act → World → Prop} {E : Prop} (hgd : op.guard = none) (s x : Operand)
    (ho : op.op = .call { callee := .builtin .append, args := #[s, x], argTypes := #[25, 25] })
    (base mid : Nat) (v : Value) (n : Nat) (ts : List Tg) (t : Tg) (hs : a.eval s = v) (hown : OwnT w base mid v n ts) (q c : Nat) (A : Option Addr) (L cp : Nat) (hx : a.eval x = .slice (some ⟨q, 0, none⟩) 1 c)
    (hq : Box2 w q (.string t.1) (.slice A L cp)) (hO : Own w (.ints .u8 t.2) (.slice A L cp) mid w.heap.size) (hbm : base ≤ mid) (hmw : mid ≤ w.heap.size) (h63 : n ≤ 1000000)
    (h : ∀ v' w', OwnT w' base w'.heap.size v' (n + 1) (ts ++ [t]) → w.grownBy w' v.ownBlock → (∀ g, v.ownBlock = some g → base ≤ g) → K (a.put op.dst v') w') : if Region.wanted op (yielded ops a.tmps) = true then Oper.wp Try.prog op a w K Q else E := by
  have hw : Region.wanted op (yielded ops a.tmps) = true := by simp [Region.wanted, hgd]
  rw [if_pos hw]
  obtain ⟨i, hi, hz, hsz, hby⟩ := info_tagx
  obtain ⟨U, G, h1, h2, h3, h4, h5, h6⟩ := hown
  obtain ⟨v', w', hr', a1, a2, _, a4⟩ := run_append_own_at (P := Try.prog) w base 25 op.type 63 i _ 2 40 Try.underlying25 hi hz hsz hby rfl (by omega) v n _ h2 ⟨q, 0, none⟩ 1 c [.string t.1, .slice A L cp] rfl (by
      intro j u hj
      match j, hj with
      | 0, hj => obtain rfl := Option.some.inj hj; exact hq.1
      | 1, hj => obtain rfl := Option.some.inj hj; exact hq.2) (by
      intro u hu
      simp only [List.mem_cons, List.not_mem_nil, or_false] at hu
      rcases hu with rfl | rfl <;> rfl) (by unfold maxLen; omega) (by omega) (by omega)
  unfold Oper.wp execOp
  simp only [ho, resolve, invoke, builtin, Sem.run_bind, Sem.run_pure, Result.andThen_ok, List.map_toArray, List.map_cons, List.map_nil, hs, hx, hr']
  exact h v' w' (OwnT.push h1 h3 h4 h5 h6 hO hbm a1 a2 a4 hmw) a2 (fun g hg => (h2.lt g hg).1)

/-- tags that are well. -/
def DT (ts : List Tg) : Prop := (∀ i, i < ts.length → nm (tg ts i).1 = true ∧ 1 ≤ (tg ts i).2.length ∧ (tg ts i).2.length ≤ 96) ∧ ∀ i, B8 (tg ts i).2
theorem tg_past {ts : List Tg} {i : Nat} (h : ¬ i < ts.length) : (tg ts i).2 = [] := by unfold tg; rw [List.getD, List.getElem?_eq_none (by omega)]; rfl
theorem DT.nil : DT [] := ⟨fun i hi => by simp at hi, fun i => by rw [tg_past (by simp)]; intro x hx; cases hx⟩
theorem DT.push {ts : List Tg} {t : Tg} (h : DT ts) (h1 : nm t.1 = true) (h2 : 1 ≤ t.2.length) (h3 : t.2.length ≤ 96) (h4 : B8 t.2) : DT (ts ++ [t]) := by
  refine ⟨fun i hi => ?_, fun i => ?_⟩
  · by_cases e : i < ts.length
    · rw [tg_app e]; exact h.1 i e
    · obtain rfl : i = ts.length := by simp at hi; omega
      rw [tg_last]; exact ⟨h1, h2, h3⟩
  · by_cases e : i < ts.length
    · rw [tg_app e]; exact h.2 i
    · by_cases e' : i = ts.length
      · subst e'; rw [tg_last]; exact h4
      · rw [tg_past (by simp; omega)]; intro x hx; cases hx
theorem DT.fine {ts : List Tg} {cl : Int} (h : DT ts) (h1 : 1 ≤ cl) (h2 : cl ≤ 3) (h3 : ts.length ≤ 8) : Fine cl ts := ⟨h1, h2, h3, fun i hi => (h.1 i hi).1, fun i hi => (h.1 i hi).2.1, fun i hi => (h.1 i hi).2.2⟩
/-- a profile that is drawn. -/
def ProfD (w : World) (g : Nat) (A : Option Addr) (n c : Nat) (xs : List Int) (q : Int) (e : Ending) (w' : World) : Prop :=
  ∃ cl B m cp ts, e = .returned (.agg #[.int .i64 cl, .slice B m cp]) ∧ 1 ≤ cl ∧ cl ≤ 3 ∧ ts.length ≤ 3 ∧ DT ts ∧ Own w' (tagsD ts) (.slice B m cp) w.heap.size w'.heap.size ∧ (∃ q', q' ≤ q + 4000 ∧ Src w' g A n c xs q') ∧ w.grownBy w' (some g)
theorem Thaw.gb {w w' : World} {b g : Nat} (h : Thaw w b) (hg : w.grownBy w' (some g)) (hb : b < w.heap.size) (hne : b ≠ g) : Thaw w' b := fun i => by
  rw [← h i]
  unfold World.frozen?
  rw [hg.block b hb (fun e => hne (by injection e))]
theorem Box2.gb {w w' : World} {b g : Nat} {x y : Value} (h : Box2 w b x y) (hg : w.grownBy w' (some g)) (hne : b ≠ g) : Box2 w' b x y := ⟨(gb_cell hg (p := ⟨b, 0, none⟩) (cell_lt h.1) hne).trans h.1, (gb_cell hg (p := ⟨b, 1, none⟩) (cell_lt h.1) hne).trans h.2⟩
/-- what the draw of a profile stands on: the box of the profile at p, that of the result at r. -/
structure Mid (w : World) (g r p : Nat) (A : Option Addr) (n c : Nat) (xs : List Int) (Q y : Int) (B : Option Addr) (m cp : Nat) (ts : List Tg) (W : World) : Prop where
  src : ∃ q', q' ≤ Q ∧ Src W g A n c xs q'
  box : Box2 W p (.int .i64 y) (.slice B m cp)
  own : OwnT W (p + 1) W.heap.size (.slice B m cp) m ts
  res : Box2 W r (.int .i64 0) (.slice none 0 0)
  thr : Thaw W r
  thp : Thaw W p
  gb : w.grownBy W (some g)
  rp : r < p
  gr : g < r
  wr : w.heap.size ≤ r
theorem Mid.gb' {w : World} {g r p : Nat} {A : Option Addr} {n c : Nat} {xs : List Int} {Q Q' y : Int} {B : Option Addr} {m cp : Nat} {ts : List Tg} {W W' : World} (h : Mid w g r p A n c xs Q y B m cp ts W) (hg : W.grownBy W' (some g)) (hs : ∃ q', q' ≤ Q' ∧ Src W' g A n c xs q') : Mid w g r p A n c xs Q' y B m cp ts W' := by
  have h1 := h.rp
  have h2 := h.gr
  exact ⟨hs, h.box.gb hg (by omega), (h.own.ch hg (fun b e => by injection e; omega)).mono hg.size, h.res.gb hg (by omega), h.thr.gb hg (cell_lt h.res.1) (by omega), h.thp.gb hg (cell_lt h.box.1) (by omega), gb_trans h.gb hg, h.rp, h.gr, h.wr⟩
theorem Mid.drew {w : World} {g r p : Nat} {A : Option Addr} {n c : Nat} {xs : List Int} {Q y : Int} {B : Option Addr} {m cp : Nat} {ts : List Tg} {W : World} (h : Mid w g r p A n c xs Q y B m cp ts W) (k : Nat) : Mid w g r p A n c xs Q y B m cp ts (W.drewN k) :=
  h.gb' (gb_drewN _ _ _) (by obtain ⟨q', a, b⟩ := h.src; exact ⟨q', a, b.below (below_drewN _ _ _)⟩)
theorem Mid.alloc {w : World} {g r p : Nat} {A : Option Addr} {n c : Nat} {xs : List Int} {Q y : Int} {B : Option Addr} {m cp : Nat} {ts : List Tg} {W : World} (h : Mid w g r p A n c xs Q y B m cp ts W) (o : Obj) : Mid w g r p A n c xs Q y B m cp ts (W.alloc o) :=
  h.gb' (gb_below _ (blAlloc _ _)) (by obtain ⟨q', a, b⟩ := h.src; exact ⟨q', a, b.gbNew _⟩)
theorem Mid.push {w : World} {g r p : Nat} {A : Option Addr} {n c : Nat} {xs : List Int} {Q q0 y : Int} {B B' : Option Addr} {m cp cp' : Nat} {ts us : List Tg} {W W' : World} (h : Mid w g r p A n c xs Q y B m cp ts W) (h0 : Src w g A n c xs q0)
    (ho : OwnT W' (p + 1) W'.heap.size (.slice B' (m + 1) cp') (m + 1) us) (hg : W.grownBy W' (Value.slice B m cp).ownBlock) (hgb : ∀ g', (Value.slice B m cp).ownBlock = some g' → p + 1 ≤ g') :
    Mid w g r p A n c xs Q y B' (m + 1) cp' us (W'.setCell ⟨p, 1, none⟩ (.slice B' (m + 1) cp')) := by
  obtain ⟨q', hq', hs⟩ := h.src
  have h1 := h.rp
  have h2 := h.wr
  have h3 := h.gb.size
  obtain ⟨bp, tp⟩ := keep_box h.box h.thp hg (fun b e => by have := hgb b e; omega)
  obtain ⟨br, tr⟩ := keep_box h.res h.thr hg (fun b e => by have := hgb b e; omega)
  have hb1 : Below w.heap.size W W' := ⟨hg.os, hg.tape, hg.output, hg.size, fun i hi => hg.block i (by omega) (fun e => by have := hgb i e.symm; omega)⟩
  have hb : Below w.heap.size W (W'.setCell ⟨p, 1, none⟩ (.slice B' (m + 1) cp')) := hb1.setCell (p := ⟨p, 1, none⟩) (by show w.heap.size ≤ p; omega) _
  exact ⟨⟨q', hq', h0.low hs hb⟩, ⟨by rw [World.cell?_setCell_other _ _ _ _ (by simp)]; exact bp.1, World.cell?_setCell_same _ _ _ bp.2⟩, (ho.set (by omega) _ _).mono (by simp [World.setCell]), br.ch (Ch.setCell (P := (· = p)) _ rfl _ _) (fun e => by omega), tr.set _ _, tp.set _ _, gb_low h.gb hb, h.rp, h.gr, h.wr⟩
set_option maxRecDepth 100000 in
set_option maxHeartbeats 4000000 in
theorem draw_any (g : Nat) (A : Option Addr) (n c : Nat) (xs : List Int) (q : Int) (w : World) (h : Src w g A n c xs q) (hq : q ≤ 10000000) :
    Calls Try.prog 66 #[.pointer (some ⟨g, 0, none⟩)] w (ProfD w g A n c xs q) := by
  have HS := Lib.hid h
  have hgl := h.lt
  clear h
  go_enter Try.func66, Try.ntmps66
  go_wp2_with fail
  refine (next_any g A n c xs q 3 _ (HS.out.gbNew _) (by omega) (by omega)).mono ?_
  rintro e w1 ⟨r, ⟨hr0, hr1⟩, rfl, hs1, hg1⟩
  have hr2 := hr1 (by omega)
  have hz1 : w.heap.size < w1.heap.size := by have := hg1.size; simp at this; omega
  have M1 : Hid (Mid w g w.heap.size w1.heap.size A n c xs (q + 1) (1 + r) Option.none 0 0 [] (w1.alloc (.cells #[.int .i64 (1 + r), .slice none 0 0] 27))) :=
    ⟨⟨q + 1, by omega, hs1.gbNew _⟩, Box2.new _ _ _ _, OwnT.nil _ _ _, ((Box2.new w 27 _ _).gb hg1 (by omega)).alloc _, (((thaw_new w _ _).gb hg1 (by simp) (by omega))).below (blAlloc _ _) hz1, thaw_new _ _ _, gb_trans (gb_below _ (blAlloc w _)) (gb_trans hg1 (gb_below _ (blAlloc _ _))), hz1, hgl, Nat.le_refl _⟩
  have HS1 := Lib.hid hs1
  clear hs1 hg1 hr1
  go_wp2_with fail
  refine (next_any g A n c xs (q + 1) 4 _ (HS1.out.gbNew _) (by omega) (by omega)).mono ?_
  rintro e w2 ⟨r2, ⟨hs0, hs1⟩, rfl, hs2, hg2⟩
  have hr3 := hs1 (by omega)
  have eq2 : q + 1 + 1 = q + 2 := by omega
  rw [eq2] at hs2
  have M2 := Lib.hid (M1.out.gb' (Q' := q + 2) hg2 ⟨q + 2, by omega, hs2⟩)
  clear hs1 hs2 hg2 HS1 M1
  go_wp2_with fail
  go_loopw [4] (fun i wr => ∃ (j : Int) (B : Option Addr) (m cp : Nat) (ts : List Tg), 0 ≤ j ∧ (m : Int) + j ≤ 3 ∧ i = .int .i64 j ∧ Hid (DT ts) ∧ Mid w g w.heap.size w1.heap.size A n c xs (q + 2 + 1010 * (3 - j)) (1 + r) B m cp ts wr) (fun i _ => (intOf i).toNat)
  case atStart =>
    refine ⟨r2, Option.none, 0, 0, [], hs0, by omega, rfl, DT.nil, ?_⟩
    have := M2.out
    obtain ⟨q', a, b⟩ := this.src
    exact { this with src := ⟨q', by omega, b⟩ }
  case round =>
    obtain ⟨j, B, m, cp, ts, hj0, hmj, rfl, hdt, hM⟩ := hrel
    have HM := Lib.hid hM
    obtain ⟨q3, hq3, hS3⟩ := hM.src
    have HS3 := Lib.hid hS3
    obtain ⟨x0, x1⟩ := hM.box
    clear hM hS3
    by_cases hlt : 0 < j
    · go_wp2_with fail
      refine (drawName_any g A n c xs q3 _ HS3.out (by omega)).mono ?_
      rintro e w3 ⟨s, rfl, hnm, hs3, hg3⟩
      have M3 := Lib.hid (HM.out.gb' (Q' := q + 2 + 1010 * (3 - j) + 1) hg3 ⟨q3 + 1, by omega, hs3⟩)
      have HS4 := Lib.hid hs3
      have HNM := Lib.hid hnm
      clear hs3 hg3 HM HS3 hnm x0 x1
      obtain ⟨x0, x1⟩ := M3.out.box
      go_wp2_with fail
      obtain ⟨_, _, _, hown3⟩ := M3.out.own.own
      obtain ⟨bs3, hd3⟩ := hown3.hd
      refine (sAt_any B m cp ts s _ hd3.nmRd (by omega)).mono ?_
      rintro e w4 ⟨rfl, rfl⟩
      clear hown3 hd3
      generalize fst ts s m = fr at *
      by_cases hat : fr < 0
      · go_wp2_with fail
        go_region_law (first
          | (refine step_append_tag _ rfl _ _ rfl (w1.heap.size + 1) wa.heap.size (.slice B m cp) m ts (s, ys) rfl (OTb.out.below (blAlloc _ _)) wb.heap.size 1 (some ⟨gb, 0, none⟩) mb capb rfl (Box2.new _ _ _ _) ((OB.out.alloc _).mono (Nat.le_refl _) (by simp)) hpa (by simp; omega) (by omega) ?_; intro v5 w5 ho5 hg5 hgb5; obtain ⟨A5, c5, rfl, _⟩ := ho5.own; obtain ⟨⟨z0, z1⟩, tz⟩ := keep_box ((Mb.out.alloc _).box) ((Mb.out.alloc _).thp) hg5 (fun b e => by have := hgb5 b e; omega); have j1 := tz 1)
          | (go_simp; go_at_call 67; refine (next_any g A n c xs (q3 + 1) 6 _ (HS4.out.below (below_drewN _ 1 _)) (by omega) (by omega)).mono ?_; rintro e wa ⟨ra, ⟨hra0, hra1⟩, rfl, hsa, hga⟩; have hra2 := hra1 (by omega); have Ma := Lib.hid ((M3.out.drew 1).gb' (Q' := q + 2 + 1010 * (3 - j) + 2) hga ⟨_, by omega, hsa⟩); have HSa := Lib.hid hsa; obtain ⟨xa0, xa1⟩ := Ma.out.box; have hpa : w1.heap.size + 1 ≤ wa.heap.size := cell_lt xa0; have hwr : IntKind.i64.wrap (1 + ra) = 1 + ra := IntWalk.i64_in _ (by omega); clear hsa hga hra1)
          | (go_simp; go_at_call 81; refine (some_any g A n c xs (q3 + 1 + 1) (1 + ra) _ HSa.out (by omega) (by omega) (by omega)).mono ?_; rintro e wb ⟨vb, mb, ys, rfl, hownb, hub, hmb, ⟨qb, hqb, hsb⟩, hgb⟩; obtain ⟨gb, capb, rfl, gl, gu, gc, gm⟩ := hownb.form; have Mb := Lib.hid (Ma.out.gb' (Q' := q + 2 + 1010 * (3 - j) + 1002) hgb ⟨qb, by omega, hsb⟩); have OTb := Lib.hid (Ma.out.own.ch hgb (fun b e => by injection e; omega)); have OB := Lib.hid hownb.own; have hlb := hownb.len; obtain ⟨xb0, xb1⟩ := Mb.out.box; have hPb : w1.heap.size < wb.heap.size := cell_lt xb0; have hsab := hgb.size; have HUB := Lib.hid hub; clear hownb hub hsb hgb))
        all_goals
          have MP := Lib.hid (Mid.push (Mb.out.alloc _) HS.out ho5 hg5 hgb5)
          have hl1 : 1 ≤ ys.length := by omega
          have hl2 : ys.length ≤ 96 := by omega
          clear hwr ho5 hg5 hgb5 z0 z1 tz j1 xb0 xb1 xa0 xa1
          go_wp2_with fail
          go_roundw
          case rel =>
            refine ⟨j - 1, A5, m + 1, c5, ts ++ [(s, ys)], by omega, by omega, by go_num, DT.push hdt.out HNM.out hl1 hl2 HUB.out.b8, ?_⟩
            have := MP.out
            obtain ⟨q', a, b⟩ := this.src
            exact { this with src := ⟨q', by omega, b⟩ }
          case measure => simp [intOf]; omega
      · go_wp2_with fail
        go_roundw
        case rel =>
          refine ⟨j - 1, B, m, cp, ts, by omega, by omega, by go_num, hdt, ?_⟩
          have := M3.out
          obtain ⟨q', a, b⟩ := this.src
          exact { this with src := ⟨q', by omega, b⟩ }
        case measure => simp [intOf]; omega
    · obtain rfl : j = 0 := by omega
      have f0 := HM.out.thr 0
      have f1 := HM.out.thr 1
      obtain ⟨r0, r1⟩ := HM.out.res
      obtain ⟨U, G, hlen, _⟩ := HM.out.own
      have hHS3 := HS3
      go_wp2_with fail
      refine bodyPost_ret (v := .agg #[.int .i64 (1 + r), .slice B m cp]) (by simp [results, Try.results66, go_sem, r0, r1]) rfl ?_
      have hb : Below w.heap.size wr ((wr.setCell ⟨w.heap.size, 0, none⟩ (.int .i64 (1 + r))).setCell ⟨w.heap.size, 1, none⟩ (.slice B m cp)) := ((Below.refl _ _).setCell (p := ⟨w.heap.size, 0, none⟩) (Nat.le_refl _) _).setCell (p := ⟨w.heap.size, 1, none⟩) (Nat.le_refl _) _
      obtain ⟨_, _, _, ho⟩ := HM.out.own.own
      refine ⟨_, _, _, _, ts, rfl, by omega, by omega, by omega, hdt.out, ?_, ⟨q3, by omega, HS.out.low HS3.out hb⟩, gb_low HM.out.gb hb⟩
      exact ((ho.set (b := w.heap.size) (.inl (by omega)) _ _).set (b := w.heap.size) (.inl (by omega)) _ _).mono (by omega) (by simp [World.setCell])
end Go.Proofs.Ytbbghebpmobfnaa
