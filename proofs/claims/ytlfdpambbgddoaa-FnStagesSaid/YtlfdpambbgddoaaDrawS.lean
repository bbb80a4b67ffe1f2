/-
  The draws of stages: l6DrawStage, l6BentStage, DrawEvalStage.
-/
import Derived.Test.YtlfdpambbgddoaaDrawM
import Derived.Test.YtlfdpambbgddoaaDrawC2
import Derived.Test.YtlfdpambbgddoaaEowA
import Derived.Test.YtlfdpambbgddoaaHelpSt
import Derived.Deep.RegionHeld3
namespace Go.Proofs.Ytlfdpambbgddoaa
open Go.RowKit
set_option linter.unusedVariables false
set_option linter.unusedSimpArgs false

theorem infS_cv : (Try.prog.info? 71).map (fun i => (i.zero, i.size, i.bytes)) = some (some (.agg #[.slice none 0 0]), 1, 24) := by kernel_rfl
theorem etyS_curve : Ety 60 71 1 24 := by
  obtain ⟨i, hi, h⟩ := Option.map_eq_some_iff.1 infS_cv
  simp only [Prod.mk.injEq] at h
  exact ⟨Try.underlying60, ⟨i, _, hi, h.1, h.2.1, h.2.2, rfl⟩, by omega, by omega⟩
def csE (cs : Rws) : List (List Dat) := cs.map fun r => [Dat.ints .i64 r]
/-- three elements of one cell each, made together. -/
theorem OwnE.three {T : TypeId} {w : World} {base hi g : Nat} {v0 v1 v2 : Value} {p0 p1 p2 : List Int} {l0 h0 l1 h1 l2 h2 : Nat} (hc : w.heap[g]? = some (.cells #[v0, v1, v2] T (0, 0))) (o0 : Own w (.ints .i64 p0) v0 l0 h0) (o1 : Own w (.ints .i64 p1) v1 l1 h1) (o2 : Own w (.ints .i64 p2) v2 l2 h2)
    (a0 : base ≤ l0 ∧ base ≤ l1 ∧ base ≤ l2) (a1 : h0 ≤ l1 ∧ h0 ≤ l2 ∧ h1 ≤ l2) (a3 : h0 ≤ g ∧ h1 ≤ g ∧ h2 ≤ g) (a5 : base ≤ g) (a4 : g < hi) : OwnE T 1 w base (.slice (some ⟨g, 0, none⟩) 3 3) 3 (csE [p0, p1, p2]) hi := by
  obtain ⟨b0, d0, n0, i0⟩ := o0
  obtain ⟨b1, d1, n1, i1⟩ := o1
  obtain ⟨b2, d2, n2, i2⟩ := o2
  have nn : ∀ b, Value.ownBlock (.slice (some ⟨g, 0, none⟩) 3 3) = some b → b = g := fun b e => by injection e with e; exact e.symm
  refine ⟨fun i _ => [v0, v1, v2].getD i v0, fun i _ => [b0, b1, b2].getD i [], rfl, ⟨rfl, .inr ⟨g, 3, #[v0, v1, v2], rfl, by omega, hc, Nat.le_refl _, by unfold maxLen; omega, rfl, rfl⟩⟩, fun i hi j hj => ?_, ?_, fun i hi j hj b hb => ?_, fun b e => by rw [nn b e]; exact a4⟩
  · obtain rfl : j = 0 := by omega
    match i, hi with
    | 0, _ => exact d0
    | 1, _ => exact d1
    | 2, _ => exact d2
  · refine nodup_flat (fun i hi => ?_) (fun i hi k hk ne x hx hx' => ?_)
    · match i, hi with
      | 0, _ => simpa using n0
      | 1, _ => simpa using n1
      | 2, _ => simpa using n2
    · have h3 : ∀ t, t < 3 → ∀ y ∈ (List.range 1).flatMap ((fun i _ => [b0, b1, b2].getD i []) t : Nat → List Nat), (t = 0 ∧ y < h0 ∧ l0 ≤ y) ∨ (t = 1 ∧ y < h1 ∧ l1 ≤ y) ∨ (t = 2 ∧ y < h2 ∧ l2 ≤ y) := fun t ht y hy => by
        match t, ht with
        | 0, _ => have := i0 y (by simpa using hy); exact .inl ⟨rfl, this.2.1, this.1⟩
        | 1, _ => have := i1 y (by simpa using hy); exact .inr (.inl ⟨rfl, this.2.1, this.1⟩)
        | 2, _ => have := i2 y (by simpa using hy); exact .inr (.inr ⟨rfl, this.2.1, this.1⟩)
      have q1 := h3 i hi x hx
      have q2 := h3 k hk x hx'
      omega
  · obtain rfl : j = 0 := by omega
    match i, hi with
    | 0, _ => have := i0 b hb; exact ⟨by omega, by omega, this.2.2, fun e => by have := nn b e; omega⟩
    | 1, _ => have := i1 b hb; exact ⟨by omega, by omega, this.2.2, fun e => by have := nn b e; omega⟩
    | 2, _ => have := i2 b hb; exact ⟨by omega, by omega, this.2.2, fun e => by have := nn b e; omega⟩
theorem OwnE.hdR {T : TypeId} {w : World} {base hi n : Nat} {v : Value} {cs : Rws} (h : OwnE T 1 w base v n (csE cs) hi) : ∃ bs, Hd w (rowsD cs) v bs := (OwnE.own (by omega) h).hd
theorem own_nilR (w : World) (lo hi : Nat) : Own w (rowsD []) (.slice none 0 0) lo hi := ⟨[], .sl0 1 none 0 (by unfold maxLen; omega), by simp, fun b hb => by simp at hb⟩
/-- a stage as it is drawn. -/
structure StOw (w : World) (t : Stg) (A1 : Option Addr) (n1 c1 : Nat) (A2 : Option Addr) (n2 c2 : Nat) (A3 : Option Addr) (n3 c3 : Nat) (lo hi : Nat) : Prop where
  a : OwnE 71 1 w lo (.slice A1 n1 c1) n1 (csE t.cs) hi
  b : Own w (rowsD t.rs) (.slice A2 n2 c2) lo hi
  d : Own w (rowsD t.ns) (.slice A3 n3 c3) lo hi
section
variable {w w' : World} {t : Stg} {A1 : Option Addr} {n1 c1 : Nat} {A2 : Option Addr} {n2 c2 : Nat} {A3 : Option Addr} {n3 c3 : Nat} {lo hi : Nat}
theorem StOw.hd (h : StOw w t A1 n1 c1 A2 n2 c2 A3 n3 c3 lo hi) : HdSt w t A1 n1 c1 A2 n2 c2 A3 n3 c3 := ⟨h.a.hdR, h.b.hd, h.d.hd⟩
theorem StOw.gb {g : Nat} (h : StOw w t A1 n1 c1 A2 n2 c2 A3 n3 c3 lo hi) (hg : w.grownBy w' (some g)) (hlo : g < lo) : StOw w' t A1 n1 c1 A2 n2 c2 A3 n3 c3 lo hi :=
  ⟨h.a.keep hg (fun b e => by injection e with e; omega), own_gb h.b hg hlo, own_gb h.d hg hlo⟩
theorem StOw.bel (h : StOw w t A1 n1 c1 A2 n2 c2 A3 n3 c3 lo hi) (hb : Below w.heap.size w w') : StOw w' t A1 n1 c1 A2 n2 c2 A3 n3 c3 lo hi := ⟨h.a.below hb, h.b.below hb, h.d.below hb⟩
theorem StOw.set {b : Nat} (h : StOw w t A1 n1 c1 A2 n2 c2 A3 n3 c3 lo hi) (hb : b < lo ∨ hi ≤ b) (i : Nat) (x : Value) : StOw (w.setCell ⟨b, i, none⟩ x) t A1 n1 c1 A2 n2 c2 A3 n3 c3 lo hi := ⟨h.a.set hb _ _, h.b.set hb _ _, h.d.set hb _ _⟩
end
def Sep (t : Stg) (A1 : Option Addr) (n2 n3 : Nat) : Prop := A1 = none ∨ (t.rs = [] ∧ n2 = 0 ∧ t.ns = [] ∧ n3 = 0)
def StDr (w : World) (g : Nat) (A : Option Addr) (n c : Nat) (xs : List Int) (q d : Int) (m : Nat) (S : Stg → Option Addr → Nat → Nat → Prop) (e : Ending) (w' : World) : Prop :=
  ∃ (t : Stg) (A1 : Option Addr) (n1 c1 : Nat) (A2 : Option Addr) (n2 c2 : Nat) (A3 : Option Addr) (n3 c3 : Nat) (q' : Int), e = .returned (.agg #[.int .i64 t.kd, .slice A1 n1 c1, .slice A2 n2 c2, .int .i64 t.sd, .slice A3 n3 c3]) ∧ n1 ≤ m ∧ StOw w' t A1 n1 c1 A2 n2 c2 A3 n3 c3 (w.heap.size + 1) w'.heap.size ∧ q' ≤ q + d ∧ Src w' g A n c xs q' ∧ w.grownBy w' (some g) ∧ S t A1 n2 n3
theorem OwnE.base {T : TypeId} {m : Nat} {w : World} {base base' hi n : Nat} {v : Value} {els : List (List Dat)} (h : OwnE T m w base v n els hi) (hb : base' ≤ base) : OwnE T m w base' v n els hi := by
  obtain ⟨U, G, h1, h2, h3, h4, h5, h6⟩ := h
  refine ⟨U, G, h1, ⟨h2.1, ?_⟩, h3, h4, fun i hi' j hj b hb' => ?_, h6⟩
  · rcases h2.2 with ⟨a, b⟩ | ⟨g, cap, cur, e, b1, b2⟩
    · exact .inl ⟨a, b⟩
    · exact .inr ⟨g, cap, cur, e, by omega, b2⟩
  · obtain ⟨a1, a2⟩ := h5 i hi' j hj b hb'
    exact ⟨by omega, a2⟩
theorem OwnE.blk {T : TypeId} {m : Nat} {w : World} {base hi n : Nat} {v : Value} {els : List (List Dat)} (h : OwnE T m w base v n els hi) : ∀ b, v.ownBlock = some b → base ≤ b ∧ b < hi := fun b e => by
  obtain ⟨U, G, h1, h2, h3, h4, h5, h6⟩ := h
  exact ⟨(World.ownsRow.lt h2 b e).1, h6 b e⟩
theorem Bx.gbo {w w' : World} {b : Nat} {l : List Value} {q : Option Nat} (h : Bx w b l) (hg : w.grownBy w' q) (hn : ∀ x, q = some x → x ≠ b) : Bx w' b l := by
  have hk : w'.heap[b]? = w.heap[b]? := hg.block b h.lt (fun e => hn b e.symm rfl)
  exact ⟨Nat.lt_of_lt_of_le h.lt hg.size, fun i => by rw [World.frozen?_of_block (a := ⟨b, i, none⟩) hk]; exact h.th i, fun j v e => by rw [World.cell?_of_block (a := ⟨b, j, none⟩) hk]; exact h.at_ j v e⟩
theorem own_sep {w w' : World} {rs : Rws} {A2 : Option Addr} {n2 c2 lo hi : Nat} {q : Option Nat} (h : Own w (rowsD rs) (.slice A2 n2 c2) lo hi) (hg : w.grownBy w' q) (hs : q = none ∨ (rs = [] ∧ n2 = 0)) : Own w' (rowsD rs) (.slice A2 n2 c2) lo hi := by
  rcases hs with rfl | ⟨rfl, rfl⟩
  · exact h.below ⟨hg.os, hg.tape, hg.output, hg.size, fun k hk => hg.block k hk (fun e => by cases e)⟩
  · obtain ⟨bs, hd⟩ := h.hd
    exact ⟨[], .sl0 1 A2 c2 hd.caps.2, by simp, fun b hb => by simp at hb⟩
theorem set5 {w W : World} {t : Stg} {A1 : Option Addr} {n1 c1 : Nat} {A2 : Option Addr} {n2 c2 : Nat} {A3 : Option Addr} {n3 c3 : Nat} {lo hi : Nat} {b : Nat} {g : Nat} {A : Option Addr} {n c : Nat} {xs : List Int} {q q' : Int} {r : Option Nat} (v0 v1 v2 v3 v4 : Value)
    (h : StOw W t A1 n1 c1 A2 n2 c2 A3 n3 c3 lo hi) (hb : b < lo) (hw : w.heap.size ≤ b) (hs0 : Src w g A n c xs q) (hs : Src W g A n c xs q') (hg : w.grownBy W r) :
    StOw (((((W.setCell ⟨b, 0, none⟩ v0).setCell ⟨b, 1, none⟩ v1).setCell ⟨b, 2, none⟩ v2).setCell ⟨b, 3, none⟩ v3).setCell ⟨b, 4, none⟩ v4) t A1 n1 c1 A2 n2 c2 A3 n3 c3 lo hi ∧
    Src (((((W.setCell ⟨b, 0, none⟩ v0).setCell ⟨b, 1, none⟩ v1).setCell ⟨b, 2, none⟩ v2).setCell ⟨b, 3, none⟩ v3).setCell ⟨b, 4, none⟩ v4) g A n c xs q' ∧ w.grownBy (((((W.setCell ⟨b, 0, none⟩ v0).setCell ⟨b, 1, none⟩ v1).setCell ⟨b, 2, none⟩ v2).setCell ⟨b, 3, none⟩ v3).setCell ⟨b, 4, none⟩ v4) r := by
  have hbl : Below w.heap.size W (((((W.setCell ⟨b, 0, none⟩ v0).setCell ⟨b, 1, none⟩ v1).setCell ⟨b, 2, none⟩ v2).setCell ⟨b, 3, none⟩ v3).setCell ⟨b, 4, none⟩ v4) :=
    (((((Below.refl _ W).setCell (p := ⟨b, 0, none⟩) hw v0).setCell (p := ⟨b, 1, none⟩) hw v1).setCell (p := ⟨b, 2, none⟩) hw v2).setCell (p := ⟨b, 3, none⟩) hw v3).setCell (p := ⟨b, 4, none⟩) hw v4
  exact ⟨((((h.set (.inl hb) _ _).set (.inl hb) _ _).set (.inl hb) _ _).set (.inl hb) _ _).set (.inl hb) _ _, hs0.low hs hbl, gb_low hg hbl⟩
set_option maxRecDepth 100000 in
set_option maxHeartbeats 4000000 in
theorem drawStage_any (g : Nat) (A : Option Addr) (n c : Nat) (xs : List Int) (q : Int) (w : World) (h : Src w g A n c xs q) (hq : q ≤ 8000000) :
    Calls Try.prog 107 #[.pointer (some ⟨g, 0, none⟩)] w (StDr w g A n c xs q 100 3 Sep) := by
  have HS := Lib.hid h
  have hgw := h.lt
  have R0 := Lib.hid (Bx.new w #[.int .i64 0, .slice none 0 0, .slice none 0 0, .int .i64 0, .slice none 0 0] 64 rfl)
  have S0 := Lib.hid (HS.out.below (blAlloc w (.cells #[.int .i64 0, .slice none 0 0, .slice none 0 0, .int .i64 0, .slice none 0 0] 64)))
  have G0 : Hid (w.grownBy (w.alloc (.cells #[.int .i64 0, .slice none 0 0, .slice none 0 0, .int .i64 0, .slice none 0 0] 64)) (some g)) := gb_below _ (blAlloc w _)
  clear h
  go_enter Try.func107, Try.ntmps107
  go_wp2_with fail
  refine (next_any g A n c xs q 3 _ S0.out (by omega) (by omega)).mono ?_
  rintro e w1 ⟨r, ⟨hr0, hr1⟩, rfl, hs1, hg1⟩
  have hr2 := hr1 (by omega)
  have S1 := Lib.hid hs1
  have G1 := Lib.hid (gb_trans G0.out hg1)
  have R1 := Lib.hid (R0.out.grownG hg1 (by omega))
  have hz1 : w.heap.size < w1.heap.size := R1.out.lt
  clear hs1 hg1 S0 G0 R0 hr1
  by_cases e0 : r = 0
  · subst e0
    go_wp2_with fail
    refine (draw3_any g A n c xs (q + 1) _ S1.out (by omega)).mono ?_
    rintro e w2 ⟨B0, m0, d0, p0, rfl, -, ho0, ⟨q2, hq2, hs2⟩, hg2⟩
    have S2 := Lib.hid hs2
    have G2 := Lib.hid (gb_trans G1.out hg2)
    have R2 := Lib.hid (R1.out.grownG hg2 (by omega))
    have O2 := Lib.hid ho0
    have hz2 := hg2.size
    clear hs2 hg2 ho0 S1 G1 R1
    go_wp2_with fail
    refine (draw3_any g A n c xs q2 _ S2.out (by omega)).mono ?_
    rintro e w3 ⟨B1, m1, d1, p1, rfl, -, ho1, ⟨q3, hq3, hs3⟩, hg3⟩
    have S3 := Lib.hid hs3
    have G3 := Lib.hid (gb_trans G2.out hg3)
    have R3 := Lib.hid (R2.out.grownG hg3 (by omega))
    have O3 := Lib.hid (own_gb O2.out hg3 (by omega))
    have P3 := Lib.hid ho1
    have hz3 := hg3.size
    clear hs3 hg3 ho1 S2 G2 R2 O2
    go_wp2_with fail
    refine (draw3_any g A n c xs q3 _ S3.out (by omega)).mono ?_
    rintro e w4 ⟨B2, m2, d2, p2, rfl, -, ho2, ⟨q4, hq4, hs4⟩, hg4⟩
    have hz4 := hg4.size
    obtain ⟨W, hW⟩ : ∃ W, W = w4.alloc (.cells #[.slice B0 m0 d0, .slice B1 m1 d1, .slice B2 m2 d2] 71) := ⟨_, rfl⟩
    have B4W : Below w4.heap.size w4 W := by rw [hW]; exact blAlloc _ _
    have SW := Lib.hid (hs4.below B4W)
    have GW := Lib.hid (gb_trans (gb_trans G3.out hg4) (gb_below (some g) B4W))
    have RW := Lib.hid ((R3.out.grownG hg4 (by omega)).bel B4W)
    have HE : Hid (OwnE 71 1 W (w.heap.size + 1) (.slice (some ⟨w4.heap.size, 0, none⟩) 3 3) 3 (csE [p0, p1, p2]) W.heap.size) :=
      OwnE.three (by rw [hW]; exact Array.getElem?_push_size) ((own_gb O3.out hg4 (by omega)).below B4W) ((own_gb P3.out hg4 (by omega)).below B4W) (ho2.below B4W) (by omega) (by omega) (by omega) (by omega) (by rw [hW]; simp)
    clear hs4 hg4 ho2 S3 G3 R3 O3 P3 B4W
    have r0 := RW.out.c 0 rfl
    have r1 := RW.out.c 1 rfl
    have r2 := RW.out.c 2 rfl
    have r3 := RW.out.c 3 rfl
    have r4 := RW.out.c 4 rfl
    have f0 := RW.out.f 0
    have f1 := RW.out.f 1
    have f2 := RW.out.f 2
    have f3 := RW.out.f 3
    have f4 := RW.out.f 4
    have rl := RW.out.lt
    subst hW
    go_wp2_with fail
    have KK := ((((RW.out.set 0 (.int .i64 1)).set 1 (.slice (some ⟨w4.heap.size, 0, none⟩) 3 3)).set 2 (.slice none 0 0)).set 3 (.int .i64 0)).set 4 (.slice none 0 0)
    have k0 := KK.c 0 rfl
    have k1 := KK.c 1 rfl
    have k2 := KK.c 2 rfl
    have k3 := KK.c 3 rfl
    have k4 := KK.c 4 rfl
    clear KK
    have hst : StOw (w4.alloc (.cells #[.slice B0 m0 d0, .slice B1 m1 d1, .slice B2 m2 d2] 71)) ⟨1, [p0, p1, p2], [], 0, []⟩ (some ⟨w4.heap.size, 0, none⟩) 3 3 none 0 0 none 0 0 (w.heap.size + 1) (w4.heap.size + 1) := ⟨by have := HE.out; simpa using this, own_nilR _ _ _, own_nilR _ _ _⟩
    obtain ⟨z1, z2, z3⟩ := set5 (.int .i64 1) (.slice (some ⟨w4.heap.size, 0, none⟩) 3 3) (.slice none 0 0) (.int .i64 0) (.slice none 0 0) hst (Nat.lt_succ_self _) (Nat.le_refl _) HS.out SW.out GW.out
    refine bodyPost_ret (v := .agg #[.int .i64 1, .slice (some ⟨w4.heap.size, 0, none⟩) 3 3, .slice none 0 0, .int .i64 0, .slice none 0 0]) (by simp [results, Try.results107, go_sem, k0, k1, k2, k3, k4]) rfl ⟨⟨1, [p0, p1, p2], [], 0, []⟩, _, _, _, _, _, _, _, _, _, q4, rfl, by omega, by simpa using z1, by omega, z2, z3, .inr ⟨rfl, rfl, rfl, rfl⟩⟩
  · by_cases e1 : r = 1
    · subst e1
      go_wp2_with fail
      refine (draw4_any g A n c xs (q + 1) _ S1.out (by omega)).mono ?_
      rintro e w2 ⟨G2', m2, d2, rs, q2, rfl, -, ho, hq2, hs2, hg2⟩
      have S2 := Lib.hid hs2
      have G2 := Lib.hid (gb_trans G1.out hg2)
      have R2 := Lib.hid (R1.out.grownG hg2 (by omega))
      have O2 := Lib.hid ho
      have hz2 := hg2.size
      clear hs2 hg2 ho S1 G1 R1
      have r0 := R2.out.c 0 rfl
      have r1 := R2.out.c 1 rfl
      have r2 := R2.out.c 2 rfl
      have r3 := R2.out.c 3 rfl
      have r4 := R2.out.c 4 rfl
      have f0 := R2.out.f 0
      have f1 := R2.out.f 1
      have f2 := R2.out.f 2
      have f3 := R2.out.f 3
      have f4 := R2.out.f 4
      have rl := R2.out.lt
      go_wp2_with fail
      have KK := ((((R2.out.set 0 (.int .i64 2)).set 1 (.slice none 0 0)).set 2 (.slice G2' m2 d2)).set 3 (.int .i64 0)).set 4 (.slice none 0 0)
      have k0 := KK.c 0 rfl
      have k1 := KK.c 1 rfl
      have k2 := KK.c 2 rfl
      have k3 := KK.c 3 rfl
      have k4 := KK.c 4 rfl
      clear KK
      have hst := Lib.hid (show StOw w2 ⟨2, [], rs, 0, []⟩ none 0 0 G2' m2 d2 none 0 0 (w.heap.size + 1) w2.heap.size from ⟨OwnE.nil _ _ _ _ _, O2.out.mono (by omega) (Nat.le_refl _), own_nilR _ _ _⟩)
      obtain ⟨z1, z2, z3⟩ := set5 (.int .i64 2) (.slice none 0 0) (.slice G2' m2 d2) (.int .i64 0) (.slice none 0 0) hst.out (Nat.lt_succ_self _) (Nat.le_refl _) HS.out S2.out G2.out
      refine bodyPost_ret (v := .agg #[.int .i64 2, .slice none 0 0, (.slice G2' m2 d2), .int .i64 0, (.slice none 0 0)]) (by simp [results, Try.results107, go_sem, k0, k1, k2, k3, k4]) rfl ⟨⟨2, [], rs, 0, []⟩, _, _, _, _, _, _, _, _, _, q2, rfl, by omega, by simpa using z1, by omega, z2, z3, .inl rfl⟩
    · have e2 : r = 2 := by omega
      subst e2
      go_wp2_with fail
      refine (draw5_any g A n c xs (q + 1) _ S1.out (by omega)).mono ?_
      rintro e w2 ⟨sd, G2', m2, d2, rs, q2, rfl, -, -, ho, hq2, hs2, hg2⟩
      have S2 := Lib.hid hs2
      have G2 := Lib.hid (gb_trans G1.out hg2)
      have R2 := Lib.hid (R1.out.grownG hg2 (by omega))
      have O2 := Lib.hid ho
      have hz2 := hg2.size
      clear hs2 hg2 ho S1 G1 R1
      have r0 := R2.out.c 0 rfl
      have r1 := R2.out.c 1 rfl
      have r2 := R2.out.c 2 rfl
      have r3 := R2.out.c 3 rfl
      have r4 := R2.out.c 4 rfl
      have f0 := R2.out.f 0
      have f1 := R2.out.f 1
      have f2 := R2.out.f 2
      have f3 := R2.out.f 3
      have f4 := R2.out.f 4
      have rl := R2.out.lt
      go_wp2_with fail
      have KK := ((((R2.out.set 0 (.int .i64 3)).set 1 (.slice none 0 0)).set 2 (.slice none 0 0)).set 3 (.int .i64 sd)).set 4 (.slice G2' m2 d2)
      have k0 := KK.c 0 rfl
      have k1 := KK.c 1 rfl
      have k2 := KK.c 2 rfl
      have k3 := KK.c 3 rfl
      have k4 := KK.c 4 rfl
      clear KK
      have hst := Lib.hid (show StOw w2 ⟨3, [], [], sd, rs⟩ none 0 0 none 0 0 G2' m2 d2 (w.heap.size + 1) w2.heap.size from ⟨OwnE.nil _ _ _ _ _, own_nilR _ _ _, O2.out.mono (by omega) (Nat.le_refl _)⟩)
      obtain ⟨z1, z2, z3⟩ := set5 (.int .i64 3) (.slice none 0 0) (.slice none 0 0) (.int .i64 sd) (.slice G2' m2 d2) hst.out (Nat.lt_succ_self _) (Nat.le_refl _) HS.out S2.out G2.out
      refine bodyPost_ret (v := .agg #[.int .i64 3, .slice none 0 0, (.slice none 0 0), .int .i64 sd, (.slice G2' m2 d2)]) (by simp [results, Try.results107, go_sem, k0, k1, k2, k3, k4]) rfl ⟨⟨3, [], [], sd, rs⟩, _, _, _, _, _, _, _, _, _, q2, rfl, by omega, by simpa using z1, by omega, z2, z3, .inl rfl⟩
/-- it reads so, its blocks lie above, and one block is none of them. -/
def LowX (w : World) (d : Dat) (v : Value) (lo x : Nat) : Prop := ∃ bs, Hd w d v bs ∧ ∀ b ∈ bs, lo ≤ b ∧ b ≠ x
theorem LowX.set {w : World} {d : Dat} {v : Value} {lo x : Nat} (h : LowX w d v lo x) {b : Nat} (hb : b < lo ∨ b = x) (i : Nat) (u : Value) : LowX (w.setCell ⟨b, i, none⟩ u) d v lo x := by
  obtain ⟨bs, h1, h2⟩ := h
  refine ⟨bs, h1.keep fun c hc k => World.cell?_of_block (a := ⟨c, k, none⟩) (Below.heap_setCell _ _ _ _ (by have := h2 c hc; show c ≠ b; omega)), h2⟩
theorem LowX.gb {w w' : World} {d : Dat} {v : Value} {lo x g : Nat} (h : LowX w d v lo x) (hg : w.grownBy w' (some g)) (hlo : g < lo) : LowX w' d v lo x := by
  obtain ⟨bs, h1, h2⟩ := h
  exact ⟨bs, h1.keep fun c hc k => World.cell?_of_block (a := ⟨c, k, none⟩) (hg.block c (h1.lt c hc) (fun e => by injection e with e; have := (h2 c hc).1; omega)), h2⟩
theorem LowX.low {w : World} {d : Dat} {v : Value} {lo lo' x : Nat} (h : LowX w d v lo x) (hl : lo' ≤ lo) : LowX w d v lo' x := by
  obtain ⟨bs, h1, h2⟩ := h
  exact ⟨bs, h1, fun b hb => ⟨by have := (h2 b hb).1; omega, (h2 b hb).2⟩⟩
theorem Own.lowx {w : World} {d : Dat} {v : Value} {lo hi lo' x : Nat} (h : Own w d v lo hi) (hl : lo' ≤ lo) (hx : x < lo ∨ hi ≤ x) : LowX w d v lo' x := by
  obtain ⟨bs, h1, _, h3⟩ := h
  exact ⟨bs, h1, fun b hb => by have := h3 b hb; exact ⟨by omega, by omega⟩⟩
theorem OwnE.pushHd {T : TypeId} {w w' : World} {base mid n lo top x : Nat} {v v' : Value} {els : List (List Dat)} {ds : List Dat} {X : Nat → Value} {U : Nat → Nat → Value} {G : Nat → Nat → List Nat}
    (h1 : els.length = n) (h3 : ∀ i, i < n → ∀ j, j < 1 → Hd w (At els i j) (U i j) (G i j))
    (h5 : ∀ i, i < n → ∀ j, j < 1 → ∀ b ∈ G i j, base ≤ b ∧ b < mid ∧ Thaw w b ∧ v.ownBlock ≠ some b) (h6 : ∀ g, v.ownBlock = some g → base ≤ g ∧ g < mid)
    (hx : OwnX 1 w ds X lo top) (hlo : mid ≤ lo) (htop : lo ≤ w.heap.size) (hbm : base ≤ mid) (hxm : mid ≤ x ∧ x < lo)
    (ho : w'.ownsRow base T 1 v' (n + 1) (ecs 1 U n ++ (List.range 1).map X)) (hg : w.grownBy w' v.ownBlock) (hat : v'.ownBlock = v.ownBlock ∨ v'.ownBlock = some w.heap.size) :
    LowX w' (.sl 1 (els ++ [ds])) v' base x := by
  subst h1
  obtain ⟨H, x1, x2, x3⟩ := hx
  have hnew : ∀ j, j < 1 → ∀ b ∈ H j, some b ≠ v.ownBlock := fun j hj b hb e => by have := (h6 b e.symm).2; have := (x3 j hj b hb).1; omega
  have a1 : ∀ i j, i < els.length → At (els ++ [ds]) i j = At els i j := fun i j hi => by unfold At; congr 1; simp only [List.getD]; rw [List.getElem?_append_left hi]
  have a2 : ∀ j, At (els ++ [ds]) els.length j = ds.getD j default := fun j => by unfold At; simp [List.getD]
  have e1 : ecs 1 (fun i j => if i < els.length then U i j else X j) els.length = ecs 1 U els.length := ecs_congr fun i hi j _ => by simp [hi]
  have e2 : ecs 1 U els.length ++ (List.range 1).map X = ecs 1 (fun i j => if i < els.length then U i j else X j) (els.length + 1) := by rw [ecs_succ, e1]; simp
  rcases ho.2 with ⟨-, e⟩ | ⟨g', cap', cur', rfl, b1, b2, b3, b4, -, -⟩
  · omega
  refine ⟨_, .sl 1 g' 0 (els.length + 1) cap' (els ++ [ds]) (fun i j => if i < els.length then U i j else X j) (fun i j => if i < els.length then G i j else H j) (by omega) (by omega) (by simp) (fun i hi j hj => ?_) (fun i hi j hj => ?_) b3 b4, fun b hb => ?_⟩
  · have q1 := World.ownsRow.cellAt ho (i * 1 + j) (by omega)
    rw [e2, ecs_at _ hi hj] at q1
    rw [show 0 + i * 1 + j = i * 1 + j by omega]
    exact q1
  · show Hd w' (At (els ++ [ds]) i j) _ _
    by_cases e : i < els.length
    · simp only [e, if_true]
      rw [a1 i j e]
      exact (h3 i e j hj).keep fun b hb k => World.cell?_of_block (hg.block b ((h3 i e j hj).lt b hb) (fun e' => (h5 i e j hj b hb).2.2.2 e'.symm))
    · obtain rfl : i = els.length := by omega
      simp only [e, if_false]
      rw [a2]
      exact (x1 j hj).keep fun b hb k => World.cell?_of_block (hg.block b ((x1 j hj).lt b hb) (hnew j hj b hb))
  · rcases List.mem_cons.1 hb with rfl | hb
    · rcases hat with hh | hh
      · have := h6 b hh.symm; omega
      · have : b = w.heap.size := by injection hh
        omega
    · obtain ⟨i, hi, j, hj, hb⟩ := mem_fam.1 hb
      by_cases e : i < els.length
      · simp only [e, if_true] at hb
        have := h5 i e j hj b hb
        omega
      · simp only [e, if_false] at hb
        have := x3 j hj b hb
        omega
/-- one element more, and what block it may touch. -/
theorem run_append_ownG {ts T : TypeId} {by_ : Nat} (E : Ety ts T 1 by_) (w : World) (ty : TypeId) (base : Nat) (v : Value) (n : Nat) (els : List (List Dat)) (mid : Nat) (h : OwnE T 1 w base v n els mid) (ds : List Dat) (X : Nat → Value) (lo top : Nat) (hx : OwnX 1 w ds X lo top)
    (q c : Nat) (hq : ∀ j, j < 1 → w.cell? ⟨q, j, none⟩ = some (X j)) (h1c : ∀ j, j < 1 → (X j).oneCell' = true) (h63 : n ≤ 1000000) (hlo : mid ≤ lo) (htop : top ≤ w.heap.size) (hbm : base ≤ mid) (hmw : lo ≤ w.heap.size) (y : Nat) (hy : mid ≤ y ∧ y < lo) :
    ∃ v' w', (Builtin.append_ #[ts, ts] ty #[v, .slice (some ⟨q, 0, none⟩) 1 c]).run Try.prog w = .ok v' w' ∧ (∃ A c', v' = .slice A (n + 1) c') ∧ LowX w' (.sl 1 (els ++ [ds])) v' base y ∧ w.grownBy w' v.ownBlock := by
  obtain ⟨i, z, hi, hz, hs, hb, hzs⟩ := E.inf
  obtain ⟨U, G, a1, a2, a3, a4, a5, a6⟩ := h
  have hby : (n + 1) * by_ ≤ 140737488355328 := Nat.le_trans (Nat.mul_le_mul (show n + 1 ≤ 1000001 by omega) E.le) (by omega)
  obtain ⟨v', w', e1, e2, e3, e4, e5⟩ := run_append_own_at (P := Try.prog) w base ts ty T i z 1 by_ E.u hi hz hs hb hzs E.pos v n _ a2 ⟨q, 0, none⟩ 1 c ((List.range 1).map X) (by simp) (by
    intro j u hj
    have hjm : j < 1 := by
      have := (List.getElem?_eq_some_iff.1 hj).1
      simpa using this
    have : u = X j := by
      have := hj
      obtain rfl : j = 0 := by omega
      simp at this
      exact this.symm
    rw [this]
    have := hq j hjm
    have e : (({ block := q, off := 0 } : Addr).add j) = ⟨q, j, none⟩ := by unfold Addr.add; split <;> simp_all
    rw [e]; exact this) (by
    intro u hu
    simp only [List.mem_map, List.mem_range] at hu
    obtain ⟨j, hj, rfl⟩ := hu
    exact h1c j hj) (by unfold maxLen; omega) hby (by omega)
  have hlow := OwnE.pushHd a1 a3 a5 (fun g e => ⟨(World.ownsRow.lt a2 g e).1, a6 g e⟩) hx hlo hmw hbm hy e2 e3 e5
  exact ⟨v', w', e1, (by rcases e2.2 with ⟨-, e⟩ | ⟨g', cap', cur', rfl, -⟩
                         · omega
                         · exact ⟨_, _, rfl⟩), hlow, e3⟩
theorem step_append_ownG {ts T : TypeId} {by_ : Nat} (E : Ety ts T 1 by_) (w : World) {ops : Array Oper} {op : Oper} {a : Act} {K : Act → World → Prop} {Q : Exit → Act → World → Prop} {EE : Prop} (hgd : op.guard = none) (s x : Operand)
    (ho : op.op = .call { callee := .builtin .append, args := #[s, x], argTypes := #[ts, ts] })
    (base : Nat) (v : Value) (n : Nat) (els : List (List Dat)) (mid : Nat) (hs : a.eval s = v) (h : OwnE T 1 w base v n els mid) (ds : List Dat) (X : Nat → Value) (lo top : Nat) (hx : OwnX 1 w ds X lo top)
    (q c : Nat) (hxx : a.eval x = .slice (some ⟨q, 0, none⟩) 1 c) (hq : ∀ j, j < 1 → w.cell? ⟨q, j, none⟩ = some (X j)) (h1c : ∀ j, j < 1 → (X j).oneCell' = true) (h63 : n ≤ 1000000) (hlo : mid ≤ lo) (htop : top ≤ w.heap.size) (hbm : base ≤ mid) (hmw : lo ≤ w.heap.size) (y : Nat) (hy : mid ≤ y ∧ y < lo)
    (H : ∀ A c' w', LowX w' (.sl 1 (els ++ [ds])) (.slice A (n + 1) c') base y → w.grownBy w' v.ownBlock → K (a.put op.dst (.slice A (n + 1) c')) w') : if Region.wanted op (yielded ops a.tmps) = true then Oper.wp Try.prog op a w K Q else EE := by
  have hwn : Region.wanted op (yielded ops a.tmps) = true := by simp [Region.wanted, hgd]
  rw [if_pos hwn]
  obtain ⟨v', w', e1, ⟨A, c', rfl⟩, e2, e3⟩ := run_append_ownG E w op.type base v n els mid h ds X lo top hx q c hq h1c h63 hlo htop hbm hmw y hy
  unfold Oper.wp execOp
  simp only [ho, resolve, invoke, builtin, Sem.run_bind, Sem.run_pure, Result.andThen_ok, List.map_toArray, List.map_cons, List.map_nil, hs, hxx, e1]
  exact H A c' w' e2 e3
def StBt (w : World) (g : Nat) (A : Option Addr) (n c : Nat) (xs : List Int) (q d : Int) (e : Ending) (w' : World) : Prop :=
  ∃ (t : Stg) (A1 : Option Addr) (n1 c1 : Nat) (A2 : Option Addr) (n2 c2 : Nat) (A3 : Option Addr) (n3 c3 : Nat) (q' : Int) (x : Nat), e = .returned (.agg #[.int .i64 t.kd, .slice A1 n1 c1, .slice A2 n2 c2, .int .i64 t.sd, .slice A3 n3 c3]) ∧ LowX w' (rowsD t.cs) (.slice A1 n1 c1) (w.heap.size + 1) x ∧ LowX w' (rowsD t.rs) (.slice A2 n2 c2) (w.heap.size + 1) x ∧ LowX w' (rowsD t.ns) (.slice A3 n3 c3) (w.heap.size + 1) x ∧ q' ≤ q + d ∧ Src w' g A n c xs q' ∧ w.grownBy w' (some g)
theorem lowx5 {W : World} {d : Dat} {v : Value} {lo x b : Nat} (h : LowX W d v lo x) (hb : b < lo) (v0 v1 v2 v3 v4 : Value) : LowX (((((W.setCell ⟨b, 0, none⟩ v0).setCell ⟨b, 1, none⟩ v1).setCell ⟨b, 2, none⟩ v2).setCell ⟨b, 3, none⟩ v3).setCell ⟨b, 4, none⟩ v4) d v lo x :=
  ((((h.set (.inl hb) _ _).set (.inl hb) _ _).set (.inl hb) _ _).set (.inl hb) _ _).set (.inl hb) _ _
theorem src5 {w W : World} {b g : Nat} {A : Option Addr} {n c : Nat} {xs : List Int} {q q' : Int} {r : Option Nat} (hw : w.heap.size ≤ b) (hs0 : Src w g A n c xs q) (hs : Src W g A n c xs q') (hg : w.grownBy W r) (v0 v1 v2 v3 v4 : Value) :
    Src (((((W.setCell ⟨b, 0, none⟩ v0).setCell ⟨b, 1, none⟩ v1).setCell ⟨b, 2, none⟩ v2).setCell ⟨b, 3, none⟩ v3).setCell ⟨b, 4, none⟩ v4) g A n c xs q' ∧ w.grownBy (((((W.setCell ⟨b, 0, none⟩ v0).setCell ⟨b, 1, none⟩ v1).setCell ⟨b, 2, none⟩ v2).setCell ⟨b, 3, none⟩ v3).setCell ⟨b, 4, none⟩ v4) r := by
  have hbl : Below w.heap.size W (((((W.setCell ⟨b, 0, none⟩ v0).setCell ⟨b, 1, none⟩ v1).setCell ⟨b, 2, none⟩ v2).setCell ⟨b, 3, none⟩ v3).setCell ⟨b, 4, none⟩ v4) :=
    (((((Below.refl _ W).setCell (p := ⟨b, 0, none⟩) hw v0).setCell (p := ⟨b, 1, none⟩) hw v1).setCell (p := ⟨b, 2, none⟩) hw v2).setCell (p := ⟨b, 3, none⟩) hw v3).setCell (p := ⟨b, 4, none⟩) hw v4
  exact ⟨hs0.low hs hbl, gb_low hg hbl⟩
set_option maxRecDepth 100000 in
set_option maxHeartbeats 4000000 in
theorem bentStage_any (g : Nat) (A : Option Addr) (n c : Nat) (xs : List Int) (q : Int) (w : World) (h : Src w g A n c xs q) (hq : q ≤ 7000000) :
    Calls Try.prog 69 #[.pointer (some ⟨g, 0, none⟩)] w (StBt w g A n c xs q 200) := by
  have HS := Lib.hid h
  have hgw := h.lt
  clear h
  go_enter Try.func69, Try.ntmps69
  go_wp2_with fail
  refine (drawStage_any g A n c xs q _ (HS.out.gbNew _) (by omega)).mono ?_
  rintro e w1 ⟨⟨kd, cs, rs, sd, ns⟩, A1, n1, c1, A2, n2, c2, A3, n3, c3, q1, rfl, hn1, ho, hq1, hs1, hg1, hsep⟩
  have hz1 : w.heap.size + 1 ≤ w1.heap.size := by have := gb_size hg1; simp at this; exact this
  obtain ⟨W3, hW3⟩ : ∃ W3, W3 = w1.alloc (.cells #[.int .i64 kd, .slice A1 n1 c1, .slice A2 n2 c2, .int .i64 sd, .slice A3 n3 c3] 64) := ⟨_, rfl⟩
  have B3 : Hid (Bx W3 w1.heap.size [.int .i64 kd, .slice A1 n1 c1, .slice A2 n2 c2, .int .i64 sd, .slice A3 n3 c3]) := by show Bx _ _ _; rw [hW3]; exact Bx.new _ _ _ rfl
  have R3 : Hid (Bx W3 w.heap.size [.int .i64 0, .slice none 0 0, .slice none 0 0, .int .i64 0, .slice none 0 0]) := by show Bx _ _ _; rw [hW3]; exact ((Bx.new w _ _ rfl).grownG hg1 (by omega)).alloc _
  have G3 : Hid (w.grownBy W3 (some g)) := by show World.grownBy _ _ _; rw [hW3]; exact gb_trans (gb_trans (gb_below _ (blAlloc _ _)) hg1) (gb_below _ (blAlloc _ _))
  have HS3 : Hid (Src W3 g A n c xs q1) := by show Src _ _ _ _ _ _ _; rw [hW3]; exact hs1.gbNew _
  have O3 : Hid (StOw W3 ⟨kd, cs, rs, sd, ns⟩ A1 n1 c1 A2 n2 c2 A3 n3 c3 (w.heap.size + 2) w1.heap.size) := by
    show StOw _ _ _ _ _ _ _ _ _ _ _ _ _
    rw [hW3]
    have := ho.bel (blAlloc w1 (.cells #[.int .i64 kd, .slice A1 n1 c1, .slice A2 n2 c2, .int .i64 sd, .slice A3 n3 c3] 64))
    simpa using this
  have HSEP := Lib.hid hsep
  have HW3 := Lib.hid hW3
  have hz3 : w1.heap.size < W3.heap.size := B3.out.lt
  clear ho hs1 hg1 hW3 hsep
  go_wp2_with fail
  rw [← HW3.out]
  clear HW3
  refine (next_any g A n c xs q1 12 _ HS3.out (by omega) (by omega)).mono ?_
  rintro e w4 ⟨r, ⟨hr0, hr1⟩, rfl, hs4, hg4⟩
  have hr2 := hr1 (by omega)
  have hw1 : w1.heap.size ≠ g := by omega
  have HS4 := Lib.hid hs4
  have B4 := Lib.hid (B3.out.grownG hg4 hw1)
  have R4 := Lib.hid (R3.out.grownG hg4 (by omega))
  have G4 := Lib.hid (gb_trans G3.out hg4)
  have O4 := Lib.hid (O3.out.gb hg4 (by omega))
  have hz4 := hg4.size
  clear hs4 hg4 HS3 B3 R3 G3 O3 hr1
  by_cases e0 : r = 0
  · subst e0
    have HRd : Hid (Rd .i64 (w4.alloc (.cells #[.int .i64 0, .int .i64 1, .int .i64 2, .int .i64 3, .int .i64 4] 2)) (some ⟨w4.heap.size, 0, none⟩) 5 [0, 1, 2, 3, 4]) := rd_lit w4 [0, 1, 2, 3, 4] 2
    go_wp2_with fail
    refine (pick_any g A n c xs (q1 + 1) _ 5 5 [0, 1, 2, 3, 4] (fun _ => True) _ (HS4.out.gbNew _) (by omega) HRd.out (by omega) (by omega) (by intro a e; injection e with e; subst e; have := HS4.out.lt; show w4.heap.size ≠ g; omega) (fun _ _ => trivial)).mono ?_
    rintro e w5 ⟨y, q5, -, rfl, hq5, hs5, hg5⟩
    have hgg : w4.grownBy w5 (some g) := gb_trans (gb_below _ (blAlloc _ _)) hg5
    have S5 := Lib.hid hs5
    have B5 := Lib.hid (B4.out.grownG hgg hw1)
    have R5 := Lib.hid (R4.out.grownG hgg (by omega))
    have G5 := Lib.hid (gb_trans G4.out hgg)
    have O5 := Lib.hid (O4.out.gb hgg (by omega))
    have hz5 := hgg.size
    clear hs5 hg5 hgg B4 R4 G4 O4 HS4 HRd
    have b0 := B5.out.c 0 rfl
    have b1 := B5.out.c 1 rfl
    have b2 := B5.out.c 2 rfl
    have b3 := B5.out.c 3 rfl
    have b4 := B5.out.c 4 rfl
    have bf0 := B5.out.f 0
    have bl := B5.out.lt
    have r0' := R5.out.c 0 rfl
    have r1' := R5.out.c 1 rfl
    have r2' := R5.out.c 2 rfl
    have r3' := R5.out.c 3 rfl
    have r4' := R5.out.c 4 rfl
    have f0' := R5.out.f 0
    have f1' := R5.out.f 1
    have f2' := R5.out.f 2
    have f3' := R5.out.f 3
    have f4' := R5.out.f 4
    have rl := R5.out.lt
    have ne1 : ¬ w1.heap.size = w.heap.size := by omega
    have ne2 : ¬ w.heap.size = w1.heap.size := by omega
    go_wp2_with fail
    have KK := (((((R5.out.oth ne1 0 (.int .i64 y)).set 0 (.int .i64 y)).set 1 (.slice A1 n1 c1)).set 2 (.slice A2 n2 c2)).set 3 (.int .i64 sd)).set 4 (.slice A3 n3 c3)
    have k0 := KK.c 0 rfl
    have k1 := KK.c 1 rfl
    have k2 := KK.c 2 rfl
    have k3 := KK.c 3 rfl
    have k4 := KK.c 4 rfl
    clear KK
    have hbl : Below w.heap.size w5 (w5.setCell ⟨w1.heap.size, 0, none⟩ (.int .i64 y)) := ((Below.refl w.heap.size w5).setCell (p := ⟨w1.heap.size, 0, none⟩) (by show w.heap.size ≤ w1.heap.size; omega) (.int .i64 y))
    have L1 : LowX (w5.setCell ⟨w1.heap.size, 0, none⟩ (.int .i64 y)) (rowsD cs) (.slice A1 n1 c1) (w.heap.size + 1) w1.heap.size := (((O5.out.a.own (by omega)).lowx (by omega) (.inr (Nat.le_refl _))).set (.inr rfl) 0 (.int .i64 y))
    have L2 : LowX (w5.setCell ⟨w1.heap.size, 0, none⟩ (.int .i64 y)) (rowsD rs) (.slice A2 n2 c2) (w.heap.size + 1) w1.heap.size := ((O5.out.b.lowx (by omega) (.inr (Nat.le_refl _))).set (.inr rfl) 0 (.int .i64 y))
    have L3 : LowX (w5.setCell ⟨w1.heap.size, 0, none⟩ (.int .i64 y)) (rowsD ns) (.slice A3 n3 c3) (w.heap.size + 1) w1.heap.size := ((O5.out.d.lowx (by omega) (.inr (Nat.le_refl _))).set (.inr rfl) 0 (.int .i64 y))
    obtain ⟨z2, z3⟩ := src5 (b := w.heap.size) (Nat.le_refl _) HS.out (HS.out.low S5.out hbl) (gb_low G5.out hbl) (.int .i64 y) (.slice A1 n1 c1) (.slice A2 n2 c2) (.int .i64 sd) (.slice A3 n3 c3)
    refine bodyPost_ret (v := .agg #[(.int .i64 y), (.slice A1 n1 c1), (.slice A2 n2 c2), (.int .i64 sd), (.slice A3 n3 c3)]) (by simp [results, Try.results69, go_sem, k0, k1, k2, k3, k4]) rfl ⟨⟨y, cs, rs, sd, ns⟩, _, _, _, _, _, _, _, _, _, q5, w1.heap.size, rfl, lowx5 L1 (Nat.lt_succ_self _) _ _ _ _ _, lowx5 L2 (Nat.lt_succ_self _) _ _ _ _ _, lowx5 L3 (Nat.lt_succ_self _) _ _ _ _ _, by omega, z2, z3⟩
  · by_cases e1 : r = 1
    · subst e1
      go_wp2_with fail
      refine (bent4_any g A n c xs (q1 + 1) _ HS4.out (by omega)).mono ?_
      rintro e w5 ⟨M, mk, mc, rs', q5, rfl, -, ho5, hq5, hs5, hgg⟩
      have S5 := Lib.hid hs5
      have B5 := Lib.hid (B4.out.grownG hgg hw1)
      have R5 := Lib.hid (R4.out.grownG hgg (by omega))
      have G5 := Lib.hid (gb_trans G4.out hgg)
      have O5 := Lib.hid (O4.out.gb hgg (by omega))
      have P5 := Lib.hid ho5
      have hz5 := hgg.size
      clear hs5 ho5 hgg B4 R4 G4 O4 HS4
      have b0 := B5.out.c 0 rfl
      have b1 := B5.out.c 1 rfl
      have b2 := B5.out.c 2 rfl
      have b3 := B5.out.c 3 rfl
      have b4 := B5.out.c 4 rfl
      have bf2 := B5.out.f 2
      have bl := B5.out.lt
      have r0' := R5.out.c 0 rfl
      have r1' := R5.out.c 1 rfl
      have r2' := R5.out.c 2 rfl
      have r3' := R5.out.c 3 rfl
      have r4' := R5.out.c 4 rfl
      have f0' := R5.out.f 0
      have f1' := R5.out.f 1
      have f2' := R5.out.f 2
      have f3' := R5.out.f 3
      have f4' := R5.out.f 4
      have rl := R5.out.lt
      have ne1 : ¬ w1.heap.size = w.heap.size := by omega
      have ne2 : ¬ w.heap.size = w1.heap.size := by omega
      go_wp2_with fail
      have KK := (((((R5.out.oth ne1 2 (.slice M mk mc)).set 0 (.int .i64 kd)).set 1 (.slice A1 n1 c1)).set 2 (.slice M mk mc)).set 3 (.int .i64 sd)).set 4 (.slice A3 n3 c3)
      have k0 := KK.c 0 rfl
      have k1 := KK.c 1 rfl
      have k2 := KK.c 2 rfl
      have k3 := KK.c 3 rfl
      have k4 := KK.c 4 rfl
      clear KK
      have hbl : Below w.heap.size w5 (w5.setCell ⟨w1.heap.size, 2, none⟩ (.slice M mk mc)) := ((Below.refl w.heap.size w5).setCell (p := ⟨w1.heap.size, 2, none⟩) (by show w.heap.size ≤ w1.heap.size; omega) (.slice M mk mc))
      have L1 : LowX (w5.setCell ⟨w1.heap.size, 2, none⟩ (.slice M mk mc)) (rowsD cs) (.slice A1 n1 c1) (w.heap.size + 1) w1.heap.size := (((O5.out.a.own (by omega)).lowx (by omega) (.inr (Nat.le_refl _))).set (.inr rfl) 2 (.slice M mk mc))
      have L2 : LowX (w5.setCell ⟨w1.heap.size, 2, none⟩ (.slice M mk mc)) (rowsD rs') (.slice M mk mc) (w.heap.size + 1) w1.heap.size := ((P5.out.lowx (by omega) (.inl (by omega))).set (.inr rfl) 2 (.slice M mk mc))
      have L3 : LowX (w5.setCell ⟨w1.heap.size, 2, none⟩ (.slice M mk mc)) (rowsD ns) (.slice A3 n3 c3) (w.heap.size + 1) w1.heap.size := ((O5.out.d.lowx (by omega) (.inr (Nat.le_refl _))).set (.inr rfl) 2 (.slice M mk mc))
      obtain ⟨z2, z3⟩ := src5 (b := w.heap.size) (Nat.le_refl _) HS.out (HS.out.low S5.out hbl) (gb_low G5.out hbl) (.int .i64 kd) (.slice A1 n1 c1) (.slice M mk mc) (.int .i64 sd) (.slice A3 n3 c3)
      refine bodyPost_ret (v := .agg #[(.int .i64 kd), (.slice A1 n1 c1), (.slice M mk mc), (.int .i64 sd), (.slice A3 n3 c3)]) (by simp [results, Try.results69, go_sem, k0, k1, k2, k3, k4]) rfl ⟨⟨kd, cs, rs', sd, ns⟩, _, _, _, _, _, _, _, _, _, q5, w1.heap.size, rfl, lowx5 L1 (Nat.lt_succ_self _) _ _ _ _ _, lowx5 L2 (Nat.lt_succ_self _) _ _ _ _ _, lowx5 L3 (Nat.lt_succ_self _) _ _ _ _ _, by omega, z2, z3⟩
    · by_cases e2 : r = 2
      · subst e2
        have CB : Hid (∀ W, Below w4.heap.size w4 W → Calls Try.prog 108 #[.pointer (some ⟨g, 0, none⟩)] W (fun e w' => ∃ Gc m cp ps q', e = .returned (.agg #[.slice Gc m cp]) ∧ Own w' (.ints .i64 ps) (.slice Gc m cp) (w4.heap.size + 1) w'.heap.size ∧ q' ≤ q1 + 41 ∧ Src w' g A n c xs q' ∧ w4.grownBy w' (some g))) := fun W hW => by
          refine (bent3_any g A n c xs (q1 + 1) W (HS4.out.below hW) (by omega)).mono ?_
          rintro e w' ⟨Gc, m, cp, ps, rfl, -, ho, ⟨q', hq', hs⟩, hg⟩
          have := hW.size
          exact ⟨Gc, m, cp, ps, q', rfl, ho.mono (by omega) (Nat.le_refl _), by omega, hs, gb_trans (gb_below _ hW) hg⟩
        have HOB : Hid (∀ b, (Value.slice A1 n1 c1).ownBlock = some b → w.heap.size + 2 ≤ b ∧ b < w1.heap.size) := O4.out.a.blk
        have SP1 : Hid ((Value.slice A1 n1 c1).ownBlock = none ∨ (rs = [] ∧ n2 = 0)) := by
          rcases HSEP.out with h | ⟨h1, h2, h3, h4⟩
          · exact .inl (by rw [h]; rfl)
          · exact .inr ⟨h1, h2⟩
        have SP2 : Hid ((Value.slice A1 n1 c1).ownBlock = none ∨ (ns = [] ∧ n3 = 0)) := by
          rcases HSEP.out with h | ⟨h1, h2, h3, h4⟩
          · exact .inl (by rw [h]; rfl)
          · exact .inr ⟨h3, h4⟩
        have x1 := B4.out.c 1 rfl
        have xl := B4.out.lt
        have ne1 : ¬ w1.heap.size = w.heap.size := by omega
        have ne2 : ¬ w.heap.size = w1.heap.size := by omega
        clear HS4
        go_wp2_with fail
        go_region_law (first | (refine step_append_ownG etyS_curve _ rfl _ _ rfl (w.heap.size + 1) (.slice A1 n1 c1) n1 (csE cs) w1.heap.size rfl ((O5.out.a.below (blAlloc _ _)).base (by omega)) [Dat.ints .i64 ps] (fun _ => .slice Gc m cp) _ _ ((OwnX.one OW5.out).below (blAlloc _ _)) w5.heap.size 1 rfl AE.out (fun _ _ => rfl) (by omega) (by omega) (by simp) (by omega) (by simp; omega) w1.heap.size (by omega) ?_; intro A' c' w6 ho6 hg6; have LO6 : Hid (LowX w6 (rowsD (cs ++ [ps])) (.slice A' (n1 + 1) c') (w.heap.size + 1) w1.heap.size) := (by show LowX _ _ _ _ _; unfold rowsD; rw [List.map_append]; exact ho6); have hz6 : w5.heap.size + 1 ≤ w6.heap.size := (by have := hg6.size; simpa using this); have L6 : Below w.heap.size (w5.alloc (.cells #[.slice Gc m cp] 71)) w6 := gb_low' hg6 (fun b e => (HOB.out b e).1) (by omega) (by simp; omega); have S6 := Lib.hid (HS.out.low (S5.out.gbNew _) L6); have G6 := Lib.hid (gb_low (gb_trans G5.out (gb_below (some g) (blAlloc _ _))) L6); have B6 := Lib.hid ((B5.out.alloc _).gbo hg6 (fun b e => by have := (HOB.out b e).2; omega)); have R6 := Lib.hid ((R5.out.alloc _).gbo hg6 (fun b e => by have := (HOB.out b e).1; omega)); have P6 := Lib.hid (own_sep (O5.out.b.below (blAlloc _ _)) hg6 SP1.out); have Q6 := Lib.hid (own_sep (O5.out.d.below (blAlloc _ _)) hg6 SP2.out); have b0 := B6.out.c 0 rfl; have b1 := B6.out.c 1 rfl; have b2 := B6.out.c 2 rfl; have b3 := B6.out.c 3 rfl; have b4 := B6.out.c 4 rfl; have bf1 := B6.out.f 1; have bl := B6.out.lt; have r0' := R6.out.c 0 rfl; have r1' := R6.out.c 1 rfl; have r2' := R6.out.c 2 rfl; have r3' := R6.out.c 3 rfl; have r4' := R6.out.c 4 rfl; have f0' := R6.out.f 0; have f1' := R6.out.f 1; have f2' := R6.out.f 2; have f3' := R6.out.f 3; have f4' := R6.out.f 4; have rl := R6.out.lt; clear ho6 hg6 L6 y1 yl) | (go_simp; go_at_call 108; (with_reducible refine (CB.out _ (by first | exact Below.refl _ _ | exact (Below.refl _ _).drew | exact below_drewN _ _ _)).mono ?_); rintro e w5 ⟨Gc, m, cp, ps, q5, rfl, ho5, hq5, hs5, hgg⟩; have S5 := Lib.hid hs5; have B5 := Lib.hid (B4.out.grownG hgg hw1); have R5 := Lib.hid (R4.out.grownG hgg (by omega)); have G5 := Lib.hid (gb_trans G4.out hgg); have O5 := Lib.hid (O4.out.gb hgg (by omega)); have OW5 := Lib.hid ho5; have hz5 := hgg.size; have AE : Hid (∀ j, j < 1 → (w5.alloc (.cells #[.slice Gc m cp] 71)).cell? ⟨w5.heap.size, j, none⟩ = some (.slice Gc m cp)) := (fun j hj => by rw [show j = 0 from (by omega)]; exact (Bx.new w5 #[.slice Gc m cp] 71 rfl).c 0 rfl); have y1 := B5.out.c 1 rfl; have yl := B5.out.lt; clear hs5 ho5 hgg))
        all_goals
          go_wp2_with fail
          have KK := (((((R6.out.oth ne1 1 (.slice A' (n1 + 1) c')).set 0 (.int .i64 kd)).set 1 (.slice A' (n1 + 1) c')).set 2 (.slice A2 n2 c2)).set 3 (.int .i64 sd)).set 4 (.slice A3 n3 c3)
          have k0 := KK.c 0 rfl
          have k1 := KK.c 1 rfl
          have k2 := KK.c 2 rfl
          have k3 := KK.c 3 rfl
          have k4 := KK.c 4 rfl
          clear KK
          have hbl : Below w.heap.size w6 (w6.setCell ⟨w1.heap.size, 1, none⟩ (.slice A' (n1 + 1) c')) := ((Below.refl w.heap.size w6).setCell (p := ⟨w1.heap.size, 1, none⟩) (by show w.heap.size ≤ w1.heap.size; omega) (.slice A' (n1 + 1) c'))
          have L1 : LowX (w6.setCell ⟨w1.heap.size, 1, none⟩ (.slice A' (n1 + 1) c')) (rowsD (cs ++ [ps])) (.slice A' (n1 + 1) c') (w.heap.size + 1) w1.heap.size := ((LO6.out.low (by omega)).set (.inr rfl) 1 (.slice A' (n1 + 1) c'))
          have L2 : LowX (w6.setCell ⟨w1.heap.size, 1, none⟩ (.slice A' (n1 + 1) c')) (rowsD rs) (.slice A2 n2 c2) (w.heap.size + 1) w1.heap.size := ((P6.out.lowx (by omega) (.inr (Nat.le_refl _))).set (.inr rfl) 1 (.slice A' (n1 + 1) c'))
          have L3 : LowX (w6.setCell ⟨w1.heap.size, 1, none⟩ (.slice A' (n1 + 1) c')) (rowsD ns) (.slice A3 n3 c3) (w.heap.size + 1) w1.heap.size := ((Q6.out.lowx (by omega) (.inr (Nat.le_refl _))).set (.inr rfl) 1 (.slice A' (n1 + 1) c'))
          obtain ⟨z2, z3⟩ := src5 (b := w.heap.size) (Nat.le_refl _) HS.out (HS.out.low S6.out hbl) (gb_low G6.out hbl) (.int .i64 kd) (.slice A' (n1 + 1) c') (.slice A2 n2 c2) (.int .i64 sd) (.slice A3 n3 c3)
          refine bodyPost_ret (v := .agg #[(.int .i64 kd), (.slice A' (n1 + 1) c'), (.slice A2 n2 c2), (.int .i64 sd), (.slice A3 n3 c3)]) (by simp [results, Try.results69, go_sem, k0, k1, k2, k3, k4]) rfl ⟨⟨kd, cs ++ [ps], rs, sd, ns⟩, _, _, _, _, _, _, _, _, _, q5, w1.heap.size, rfl, lowx5 L1 (Nat.lt_succ_self _) _ _ _ _ _, lowx5 L2 (Nat.lt_succ_self _) _ _ _ _ _, lowx5 L3 (Nat.lt_succ_self _) _ _ _ _ _, by omega, z2, z3⟩
      · skip
        have b0 := B4.out.c 0 rfl
        have b1 := B4.out.c 1 rfl
        have b2 := B4.out.c 2 rfl
        have b3 := B4.out.c 3 rfl
        have b4 := B4.out.c 4 rfl
        have bl := B4.out.lt
        have r0' := R4.out.c 0 rfl
        have r1' := R4.out.c 1 rfl
        have r2' := R4.out.c 2 rfl
        have r3' := R4.out.c 3 rfl
        have r4' := R4.out.c 4 rfl
        have f0' := R4.out.f 0
        have f1' := R4.out.f 1
        have f2' := R4.out.f 2
        have f3' := R4.out.f 3
        have f4' := R4.out.f 4
        have rl := R4.out.lt
        have ne1 : ¬ w1.heap.size = w.heap.size := by omega
        have ne2 : ¬ w.heap.size = w1.heap.size := by omega
        go_wp2_with fail
        have KK := ((((R4.out.set 0 (.int .i64 kd)).set 1 (.slice A1 n1 c1)).set 2 (.slice A2 n2 c2)).set 3 (.int .i64 sd)).set 4 (.slice A3 n3 c3)
        have k0 := KK.c 0 rfl
        have k1 := KK.c 1 rfl
        have k2 := KK.c 2 rfl
        have k3 := KK.c 3 rfl
        have k4 := KK.c 4 rfl
        clear KK
        have hbl : Below w.heap.size w4 w4 := (Below.refl w.heap.size w4)
        have L1 : LowX w4 (rowsD cs) (.slice A1 n1 c1) (w.heap.size + 1) w1.heap.size := ((O4.out.a.own (by omega)).lowx (by omega) (.inr (Nat.le_refl _)))
        have L2 : LowX w4 (rowsD rs) (.slice A2 n2 c2) (w.heap.size + 1) w1.heap.size := (O4.out.b.lowx (by omega) (.inr (Nat.le_refl _)))
        have L3 : LowX w4 (rowsD ns) (.slice A3 n3 c3) (w.heap.size + 1) w1.heap.size := (O4.out.d.lowx (by omega) (.inr (Nat.le_refl _)))
        obtain ⟨z2, z3⟩ := src5 (b := w.heap.size) (Nat.le_refl _) HS.out (HS.out.low HS4.out hbl) (gb_low G4.out hbl) (.int .i64 kd) (.slice A1 n1 c1) (.slice A2 n2 c2) (.int .i64 sd) (.slice A3 n3 c3)
        refine bodyPost_ret (v := .agg #[(.int .i64 kd), (.slice A1 n1 c1), (.slice A2 n2 c2), (.int .i64 sd), (.slice A3 n3 c3)]) (by simp [results, Try.results69, go_sem, k0, k1, k2, k3, k4]) rfl ⟨⟨kd, cs, rs, sd, ns⟩, _, _, _, _, _, _, _, _, _, (q1 + 1), w1.heap.size, rfl, lowx5 L1 (Nat.lt_succ_self _) _ _ _ _ _, lowx5 L2 (Nat.lt_succ_self _) _ _ _ _ _, lowx5 L3 (Nat.lt_succ_self _) _ _ _ _ _, by omega, z2, z3⟩
def DrES (w : World) (e : Ending) (w' : World) : Prop :=
  ∃ (t : Stg) (A1 : Option Addr) (n1 c1 : Nat) (A2 : Option Addr) (n2 c2 : Nat) (A3 : Option Addr) (n3 c3 : Nat) (H : Option Addr) (m d : Nat) (ps : List Int), e = .returned (.tuple #[.agg #[.int .i64 t.kd, .slice A1 n1 c1, .slice A2 n2 c2, .int .i64 t.sd, .slice A3 n3 c3], .slice H m d]) ∧ HdSt w' t A1 n1 c1 A2 n2 c2 A3 n3 c3 ∧ (∃ gs, Hd w' (.ints .i64 ps) (.slice H m d) gs) ∧ Below w.heap.size w w'
theorem LowX.hd {w : World} {d : Dat} {v : Value} {lo x : Nat} (h : LowX w d v lo x) : ∃ bs, Hd w d v bs := ⟨h.choose, h.choose_spec.1⟩
set_option maxRecDepth 100000 in
set_option maxHeartbeats 1000000 in
theorem drawEvalStage_any (A : Option Addr) (n c : Nat) (xs : List Int) (w : World) (h : Code w A n xs) :
    Calls Try.prog 28 #[.slice A n c] w (DrES w) := by
  have H := Lib.hid h
  clear h
  go_enter Try.func28, Try.ntmps28
  go_wp2_with fail
  refine (source_any A n c xs _ (H.out.alloc _).reads H.out.u8 H.out.small).mono ?_
  rintro e w1 ⟨rfl, hs1, hb1, hl1⟩
  simp only [World.size_alloc] at hs1 hb1 hl1 ⊢
  have HS1 := Lib.hid hs1
  have B1 : Hid (Below w.heap.size w w1) := (blAlloc w _).trans (hb1.mono (by omega))
  have R1 : Hid (Bx w1 w.heap.size [.int .i64 0, .slice none 0 0, .slice none 0 0, .int .i64 0, .slice none 0 0]) := (Bx.new w _ _ rfl).bel (by simpa using hb1)
  clear hs1 hb1
  go_wp2_with fail
  refine (bentStage_any (w.heap.size + 1) A n c xs 0 _ HS1.out (by omega)).mono ?_
  rintro e w2 ⟨⟨kd, cs, rs, sd, ns⟩, A1, n1, c1, A2, n2, c2, A3, n3, c3, q2, x, rfl, la, lb, lc, hq2, hs2, hg2⟩
  have HS2 := Lib.hid hs2
  have B2 : Hid (Below w.heap.size w w2) := B1.out.trans (gb_to_below hg2 (by omega) B1.out.size)
  have R2 := Lib.hid (R1.out.grownG hg2 (by omega))
  have LA := Lib.hid la
  have LB := Lib.hid lb
  have LC := Lib.hid lc
  clear hs2 hg2 la lb lc
  go_wp2_with fail
  refine (bentLevels4_any (w.heap.size + 1) A n c xs q2 _ HS2.out HS2.out.lt (by omega)).mono ?_
  rintro e w3 ⟨G3, k3, d3, ps, q3, rfl, hl3, ho3, hq3, hs3, hg3⟩
  have B3 : Hid (Below w.heap.size w w3) := B2.out.trans (gb_to_below hg3 (by omega) B2.out.size)
  have R3 := Lib.hid (R2.out.grownG hg3 (by omega))
  have LA3 := Lib.hid (LA.out.gb hg3 (by omega))
  have LB3 := Lib.hid (LB.out.gb hg3 (by omega))
  have LC3 := Lib.hid (LC.out.gb hg3 (by omega))
  have P3 := Lib.hid ho3
  have hz2 : w.heap.size < w2.heap.size := R2.out.lt
  clear hs3 hg3 ho3 LA LB LC
  have r0 := R3.out.c 0 rfl
  have r1 := R3.out.c 1 rfl
  have r2 := R3.out.c 2 rfl
  have r3 := R3.out.c 3 rfl
  have r4 := R3.out.c 4 rfl
  have f0 := R3.out.f 0
  have f1 := R3.out.f 1
  have f2 := R3.out.f 2
  have f3 := R3.out.f 3
  have f4 := R3.out.f 4
  have zl := R3.out.lt
  go_wp2_with fail
  have KK := ((((R3.out.set 0 (.int .i64 kd)).set 1 (.slice A1 n1 c1)).set 2 (.slice A2 n2 c2)).set 3 (.int .i64 sd)).set 4 (.slice A3 n3 c3)
  have k0 := KK.c 0 rfl
  have k1 := KK.c 1 rfl
  have k2 := KK.c 2 rfl
  have k3' := KK.c 3 rfl
  have k4 := KK.c 4 rfl
  clear KK
  have hlow : w.heap.size < w1.heap.size + 1 := by omega
  refine bodyPost_ret (v := .tuple #[.agg #[.int .i64 kd, .slice A1 n1 c1, .slice A2 n2 c2, .int .i64 sd, .slice A3 n3 c3], .slice G3 k3 d3]) (by simp [results, Try.results28, go_sem, k0, k1, k2, k3', k4]) rfl ⟨⟨kd, cs, rs, sd, ns⟩, A1, n1, c1, A2, n2, c2, A3, n3, c3, G3, k3, d3, ps, rfl, ⟨(lowx5 LA3.out hlow _ _ _ _ _).hd, (lowx5 LB3.out hlow _ _ _ _ _).hd, (lowx5 LC3.out hlow _ _ _ _ _).hd⟩, ?_, ?_⟩
  · exact (((((P3.out.set (.inl (by omega)) _ _).set (.inl (by omega)) _ _).set (.inl (by omega)) _ _).set (.inl (by omega)) _ _).set (.inl (by omega)) _ _).hd
  · exact ((((B3.out.setCell (p := ⟨w.heap.size, 0, none⟩) (Nat.le_refl _) _).setCell (p := ⟨w.heap.size, 1, none⟩) (Nat.le_refl _) _).setCell (p := ⟨w.heap.size, 2, none⟩) (Nat.le_refl _) _).setCell (p := ⟨w.heap.size, 3, none⟩) (Nat.le_refl _) _).setCell (p := ⟨w.heap.size, 4, none⟩) (Nat.le_refl _) _
end Go.Proofs.Ytlfdpambbgddoaa
