/-
  A tone: what a chain tells of a colour, as one value (toneOf).
  How far off what was baked is, by the program: BakeOff.
  How far off what was baked is, by the reference model: BakeOff.
-/
import Derived.Test.YtlfdpambbgddoaaGreatBakG
import Derived.Deep.RegionHeld3
import Derived.StillTailTactics
import Derived.Deep.CutRange
namespace Go.Proofs.YtlfdpambbgddoaaGreat
open Go.RowKit Go.Maps
set_option linter.unusedVariables false
set_option linter.unusedSimpArgs false

def tnV (ts : List Stg) (xs : List Int) (i : Nat) : Int := if chC ts xs = 0 then evW 1 ts (chX 1 xs) ts.length i else 0
theorem tnV_y {ts : List Stg} {xs : List Int} (h : chC ts xs = 0) (i : Nat) : tnV ts xs i = evW 1 ts (chX 1 xs) ts.length i := by unfold tnV; rw [if_pos h]
theorem tnV_n {ts : List Stg} {xs : List Int} (h : chC ts xs ≠ 0) (i : Nat) : tnV ts xs i = 0 := by unfold tnV; rw [if_neg h]
def ToAns (w : World) (ts : List Stg) (xs : List Int) (e : Ending) (w' : World) : Prop :=
  e = .returned (.agg #[.int .i64 (chC ts xs), .int .i64 (tnV ts xs 0), .int .i64 (tnV ts xs 1), .int .i64 (tnV ts xs 2)]) ∧ Below w.heap.size w w'
set_option maxRecDepth 100000 in
set_option maxHeartbeats 4000000 in
theorem toneOf_any (A : Option Addr) (n c : Nat) (ts : List Stg) (bs : List Nat) (P : Option Addr) (m d : Nat) (xs : List Int) (gs : List Nat) (w : World) (h : Hd w (chD ts) (.slice A n c) bs) (hp : Hd w (.ints .i64 xs) (.slice P m d) gs) :
    Calls Tryz.prog 41 #[.agg #[.slice A n c], .slice P m d] w (ToAns w ts xs) := by
  have H := Lib.hid h
  have HP := Lib.hid hp
  clear h hp
  go_enter Tryz.func41, Tryz.ntmps41
  go_wp2_with fail
  refine (EvalChain_any A n c ts bs P m d xs gs _ ((H.out.alloc _).alloc _) ((HP.out.alloc _).alloc _)).mono ?_
  rintro e w1 ⟨G, k, cG, rfl, ho, hb⟩
  have R1 := Lib.hid ((Bx.new (w.alloc (.cells #[.slice A n c] 34)) #[.int .i64 0, .int .i64 0, .int .i64 0, .int .i64 0] 78 (b := w.heap.size + 1) (by simp)).bel hb)
  have T1 := Lib.hid (blThen (blThenAlloc (blAlloc w _) _) hb)
  have HO := Lib.hid ho
  clear ho hb H HP
  by_cases h0 : chC ts xs = 0
  · have HC := Lib.hid h0
    have hy := chL_y (o := 1) h0
    rw [h0]
    clear h0
    obtain ⟨W2, hW2⟩ : ∃ W2, W2 = (w1.alloc (.cells #[.int .i64 0, .slice G k cG] 117)).alloc (.cells #[.int .i64 0, .int .i64 0, .int .i64 0, .int .i64 0] 78) := ⟨_, rfl⟩
    obtain ⟨W4, hW4⟩ : ∃ W4, W4 = W2.drew := ⟨_, rfl⟩
    have B4 : Below w1.heap.size w1 W4 := by rw [hW4, hW2]; exact (blThenAlloc (blAlloc w1 _) _).drew
    have V4 : Hid (Bx W4 w1.heap.size [.int .i64 0, .slice G k cG]) := by show Bx _ _ _; rw [hW4, hW2]; exact ((Bx.new w1 _ _ rfl).alloc _).bel (Below.refl _ _).drew
    have V2 : Hid (Bx W2 w1.heap.size [.int .i64 0, .slice G k cG]) := by show Bx _ _ _; rw [hW2]; exact (Bx.new w1 _ _ rfl).alloc _
    have U4 : Hid (Bx W4 (w1.heap.size + 1) [.int .i64 0, .int .i64 0, .int .i64 0, .int .i64 0]) := by show Bx _ _ _; rw [hW4, hW2]; exact (Bx.new _ _ _ (by simp)).bel (Below.refl _ _).drew
    have U2 : Hid (Bx W2 (w1.heap.size + 1) [.int .i64 0, .int .i64 0, .int .i64 0, .int .i64 0]) := by show Bx _ _ _; rw [hW2]; exact Bx.new _ _ _ (by simp)
    have R4 := Lib.hid (R1.out.bel B4)
    have T4 := Lib.hid (blThen T1.out B4)
    have HW2 := Lib.hid hW2
    have HW4 := Lib.hid hW4
    obtain ⟨bs4, hd4⟩ := HO.out.hd
    rw [hy] at hd4
    obtain ⟨bb, oo, rfl, rfl, a0, a1, a2⟩ := (hd4.rd).three rfl
    have e0 := tnV_y HC.out 0
    have e1 := tnV_y HC.out 1
    have e2 := tnV_y HC.out 2
    obtain ⟨x, hx⟩ : ∃ x : Nat → Int, x = tnV ts xs := ⟨_, rfl⟩
    have HXX := Lib.hid hx
    rw [← hx] at e0 e1 e2
    replace a0 : W4.cell? ⟨bb, oo, none⟩ = some (.int .i64 (x 0)) := by rw [e0]; exact cell_later B4 a0
    replace a1 : W4.cell? ⟨bb, oo + 1, none⟩ = some (.int .i64 (x 1)) := by rw [e1]; exact cell_later B4 a1
    replace a2 : W4.cell? ⟨bb, oo + 2, none⟩ = some (.int .i64 (x 2)) := by rw [e2]; exact cell_later B4 a2
    obtain ⟨W5, hW5⟩ : ∃ W5, W5 = ((W4.setCell ⟨w1.heap.size + 1, 1, none⟩ (.int .i64 (x 0))).setCell ⟨w1.heap.size + 1, 2, none⟩ (.int .i64 (x 1))).setCell ⟨w1.heap.size + 1, 3, none⟩ (.int .i64 (x 2)) := ⟨_, rfl⟩
    have HL1 : Hid (w.heap.size + 1 < w1.heap.size) := R1.out.lt
    have hl1 := HL1.out
    have U5 : Hid (Bx W5 (w1.heap.size + 1) [.int .i64 0, .int .i64 (x 0), .int .i64 (x 1), .int .i64 (x 2)]) := by show Bx _ _ _; rw [hW5]; exact ((U4.out.set 1 _).set 2 _).set 3 _
    have R5 : Hid (Bx W5 (w.heap.size + 1) [.int .i64 0, .int .i64 0, .int .i64 0, .int .i64 0]) := by show Bx _ _ _; rw [hW5]; exact ((R4.out.oth (by omega) 1 _).oth (by omega) 2 _).oth (by omega) 3 _
    have T5 : Hid (Below w.heap.size w W5) := by show Below _ _ _; rw [hW5]; exact ((T4.out.setCell (p := ⟨w1.heap.size + 1, 1, none⟩) (by show w.heap.size ≤ w1.heap.size + 1; omega) _).setCell (p := ⟨w1.heap.size + 1, 2, none⟩) (by show w.heap.size ≤ w1.heap.size + 1; omega) _).setCell (p := ⟨w1.heap.size + 1, 3, none⟩) (by show w.heap.size ≤ w1.heap.size + 1; omega) _
    have hcp : Hid (∀ ty, (Builtin.copy_ #[41, 41] ty #[.slice (some ⟨w1.heap.size + 1, 1, none⟩) 3 3, .slice (some ⟨bb, oo, none⟩) 3 cG]).run Tryz.prog W4 = .ok (.int .i64 3) W5) := fun ty => by
      have hW : W4.setCells (w1.heap.size + 1) 1 [.int .i64 (x 0), .int .i64 (x 1), .int .i64 (x 2)] = W5 := by rw [hW5]; rfl
      rw [← hW]
      refine run_copy_cells (P := Tryz.prog) W4 41 41 ty 2 (w1.heap.size + 1) 1 3 3 ⟨bb, oo, none⟩ 3 cG [.int .i64 (x 0), .int .i64 (x 1), .int .i64 (x 2)] Tryz.underlying41 (by kernel_rfl) rfl (fun j v hj => ?_) (fun j hj => ?_) (fun j hj => U4.out.f _) (fun v hv => ?_)
      · rw [addr_add]
        match j, hj with
        | 0, e => obtain rfl : Value.int .i64 (x 0) = v := by simpa using e
                  exact a0
        | 1, e => obtain rfl : Value.int .i64 (x 1) = v := by simpa using e
                  exact a1
        | 2, e => obtain rfl : Value.int .i64 (x 2) = v := by simpa using e
                  exact a2
      · match j, hj with
        | 0, _ => rw [U4.out.c 1 rfl]; rfl
        | 1, _ => rw [U4.out.c 2 rfl]; rfl
        | 2, _ => rw [U4.out.c 3 rfl]; rfl
      · simp at hv
        rcases hv with rfl | rfl | rfl <;> rfl
    clear B4 hW2 hW4 hW5 hd4 a0 a1 a2 hy e0 e1 e2 hx
    go_wp2_with fail
    rw [← HW2.out]
    have v1 := V2.out.c 1 rfl
    have vl := V2.out.lt
    go_still_tail 4, (by kernel_rfl)
    change wpList _ _ _ _ _ W2.drew
    rw [← HW4.out]
    have cp := hcp.out
    have u0 := U5.out.c 0 rfl
    have u1 := U5.out.c 1 rfl
    have u2 := U5.out.c 2 rfl
    have u3 := U5.out.c 3 rfl
    have ul := U5.out.lt
    have r0 := R5.out.c 0 rfl
    have r1 := R5.out.c 1 rfl
    have r2 := R5.out.c 2 rfl
    have r3 := R5.out.c 3 rfl
    have z0 := R5.out.f 0
    have z1 := R5.out.f 1
    have z2 := R5.out.f 2
    have z3 := R5.out.f 3
    have rl := R5.out.lt
    go_wp2_with fail
    have KK := (((R5.out.set 0 (.int .i64 0)).set 1 (.int .i64 (x 0))).set 2 (.int .i64 (x 1))).set 3 (.int .i64 (x 2))
    have k0 := KK.c 0 rfl
    have k1 := KK.c 1 rfl
    have k2 := KK.c 2 rfl
    have k3 := KK.c 3 rfl
    clear KK
    refine bodyPost_ret (v := .agg #[.int .i64 0, .int .i64 (x 0), .int .i64 (x 1), .int .i64 (x 2)]) (by simp [results, Tryz.results41, go_sem, k0, k1, k2, k3]) rfl ⟨by rw [HC.out, HXX.out], ?_⟩
    exact (((T5.out.setCell (p := ⟨w.heap.size + 1, 0, none⟩) (by simp) _).setCell (p := ⟨w.heap.size + 1, 1, none⟩) (by simp) _).setCell (p := ⟨w.heap.size + 1, 2, none⟩) (by simp) _).setCell (p := ⟨w.heap.size + 1, 3, none⟩) (by simp) _
  · have hy := chL_n (o := 1) h0
    have e0 := tnV_n h0 0
    have e1 := tnV_n h0 1
    have e2 := tnV_n h0 2
    obtain ⟨f, hf⟩ : ∃ f, chC ts xs = f := ⟨_, rfl⟩
    have HFF := Lib.hid hf
    rw [hf]
    obtain ⟨bs4, hd4⟩ := HO.out.hd
    rw [hy] at hd4
    obtain rfl : k = 0 := (hd4.rd).1.symm
    obtain ⟨W2, hW2⟩ : ∃ W2, W2 = (w1.alloc (.cells #[.int .i64 f, .slice G 0 cG] 117)).alloc (.cells #[.int .i64 f, .int .i64 0, .int .i64 0, .int .i64 0] 78) := ⟨_, rfl⟩
    obtain ⟨W4, hW4⟩ : ∃ W4, W4 = W2.drew := ⟨_, rfl⟩
    have B4 : Below w1.heap.size w1 W4 := by rw [hW4, hW2]; exact (blThenAlloc (blAlloc w1 _) _).drew
    have V2 : Hid (Bx W2 w1.heap.size [.int .i64 f, .slice G 0 cG]) := by show Bx _ _ _; rw [hW2]; exact (Bx.new w1 _ _ rfl).alloc _
    have U4 : Hid (Bx W4 (w1.heap.size + 1) [.int .i64 f, .int .i64 0, .int .i64 0, .int .i64 0]) := by show Bx _ _ _; rw [hW4, hW2]; exact (Bx.new _ _ _ (by simp)).bel (Below.refl _ _).drew
    have U2 : Hid (Bx W2 (w1.heap.size + 1) [.int .i64 f, .int .i64 0, .int .i64 0, .int .i64 0]) := by show Bx _ _ _; rw [hW2]; exact Bx.new _ _ _ (by simp)
    have R4 := Lib.hid (R1.out.bel B4)
    have T4 := Lib.hid (blThen T1.out B4)
    have HW2 := Lib.hid hW2
    have HW4 := Lib.hid hW4
    have hcp : Hid (∀ ty, (Builtin.copy_ #[41, 41] ty #[.slice (some ⟨w1.heap.size + 1, 1, none⟩) 3 3, .slice G 0 cG]).run Tryz.prog W4 = .ok (.int .i64 0) W4) := fun ty => run_copy_none (P := Tryz.prog) W4 41 41 ty 2 _ _ 3 3 0 cG Tryz.underlying41 (by kernel_rfl) rfl
    have E3 := Lib.hid (And.intro e0 (And.intro e1 e2))
    clear h0 hy e0 e1 e2 hf hd4 B4 hW2 hW4
    go_wp2_with fail
    rw [← HW2.out]
    have v1 := V2.out.c 1 rfl
    have vl := V2.out.lt
    go_still_tail 4, (by kernel_rfl)
    change wpList _ _ _ _ _ W2.drew
    rw [← HW4.out]
    have cp := hcp.out
    have u0 := U4.out.c 0 rfl
    have u1 := U4.out.c 1 rfl
    have u2 := U4.out.c 2 rfl
    have u3 := U4.out.c 3 rfl
    have ul := U4.out.lt
    have r0 := R4.out.c 0 rfl
    have r1 := R4.out.c 1 rfl
    have r2 := R4.out.c 2 rfl
    have r3 := R4.out.c 3 rfl
    have z0 := R4.out.f 0
    have z1 := R4.out.f 1
    have z2 := R4.out.f 2
    have z3 := R4.out.f 3
    have rl := R4.out.lt
    go_wp2_with fail
    have KK := (((R4.out.set 0 (.int .i64 f)).set 1 (.int .i64 0)).set 2 (.int .i64 0)).set 3 (.int .i64 0)
    have k0 := KK.c 0 rfl
    have k1 := KK.c 1 rfl
    have k2 := KK.c 2 rfl
    have k3 := KK.c 3 rfl
    clear KK
    refine bodyPost_ret (v := .agg #[.int .i64 f, .int .i64 0, .int .i64 0, .int .i64 0]) (by simp [results, Tryz.results41, go_sem, k0, k1, k2, k3]) rfl ⟨by rw [HFF.out, E3.out.1, E3.out.2.1, E3.out.2.2], ?_⟩
    exact (((T4.out.setCell (p := ⟨w.heap.size + 1, 0, none⟩) (by simp) _).setCell (p := ⟨w.heap.size + 1, 1, none⟩) (by simp) _).setCell (p := ⟨w.heap.size + 1, 2, none⟩) (by simp) _).setCell (p := ⟨w.heap.size + 1, 3, none⟩) (by simp) _
end Go.Proofs.YtlfdpambbgddoaaGreat
namespace Go.Proofs.YtlfdpambbgddoaaGreat
open Go.RowKit Go.Maps
set_option linter.unusedVariables false
set_option linter.unusedSimpArgs false

/-! ### what is baked has no fault -/
theorem gf_baked {ts : List Stg} {s : Nat} (h : bkC ts (s : Int) = 0) : gf (s : Int) (bkRs s ts (s * s * s) ts.length) = 0 := by
  obtain ⟨hcf, hs⟩ := bkC_zero h
  have hsb := inB_iff.1 hs
  have h3 : s = 2 ∨ s = 3 ∨ s = 4 := by omega
  rw [gf_rows (bkRs_len _ _ _ _) hs (by rcases h3 with rfl | rfl | rfl <;> rfl)]
  have : ∀ i, i ≤ s * s * s → gfl (bkRs s ts (s * s * s) ts.length) i = 0 := by
    intro i
    induction i with
    | zero => intro _; rfl
    | succ i ih =>
      intro hi
      refine gfl_on (ih (by omega)) ?_
      rw [bkRs_at (by omega), ← lfo_1]
      exact ev3_fine (.inl rfl) (lgRow_chC h3 (by omega) hcf) (Nat.le_refl _)
  exact this _ (Nat.le_refl _)
theorem sgf_grid {sd : Int} {rs : Rws} (h : gf sd rs = 0) : sgf (gSt sd rs) = 0 := by
  unfold sgf stF gSt
  simp
  exact h
theorem chf_grid {sd : Int} {rs : Rws} (h : gf sd rs = 0) : chf [gSt sd rs] = 0 := by
  unfold chf
  rw [if_neg (by simp)]
  show (if (0 : Int) = 0 then sgf (st_ [gSt sd rs] 0) else 0) = 0
  rw [if_pos rfl]
  exact sgf_grid h
theorem chf_bcC {ts : List Stg} {s : Nat} (h : bkC ts (s : Int) = 0) : chf (bcC ts s) = 0 := by
  rw [bcC_y h, (bc_y h).1, (bc_y h).2]
  exact chf_grid (gf_baked h)
theorem tn_grid {ts : List Stg} {s : Nat} {xs : List Int} (h : bkC ts (s : Int) = 0) (h1 : lf xs = 0) (i : Nat) (hi : i < 3) : tnV (bcC ts s) xs i = gvl s (bkRs s ts (s * s * s) ts.length) (xs.getD · 0) i := by
  rw [tnV_y (by rw [chC_l (chf_bcC h), lfo_1]; exact h1), bcC_y h, (bc_y h).1, (bc_y h).2]
  show evS 1 (gSt _ _) (chX 1 xs) i = _
  rw [evS_ext 1 _ (x' := (xs.getD · 0)) (fun j hj => by unfold chX; rw [Int.mul_one]) hi]
  unfold evS gSt
  rw [if_neg (by simp), if_neg (by simp), gvo_1]
/-- the codes of what was baked and of the chain. -/
def boC (ts : List Stg) (sd : Int) (xs : List Int) : Int := if bkC ts sd = 0 then lf xs else bkC ts sd
def boV (ts : List Stg) (sd : Int) (xs : List Int) : Int := if boC ts sd xs = 0 then far3 (tnV (bcC ts sd) xs) (tnV ts xs) 3 * 256 else 0
theorem boC_f {ts : List Stg} {sd : Int} {xs : List Int} (h : bkC ts sd ≠ 0) : boC ts sd xs = bkC ts sd := by unfold boC; rw [if_neg h]
theorem boC_y {ts : List Stg} {sd : Int} {xs : List Int} (h : bkC ts sd = 0) : boC ts sd xs = lf xs := by unfold boC; rw [if_pos h]
theorem boV_n {ts : List Stg} {sd : Int} {xs : List Int} (h : boC ts sd xs ≠ 0) : boV ts sd xs = 0 := by unfold boV; rw [if_neg h]
theorem boV_y {ts : List Stg} {sd : Int} {xs : List Int} (h : boC ts sd xs = 0) : boV ts sd xs = far3 (tnV (bcC ts sd) xs) (tnV ts xs) 3 * 256 := by unfold boV; rw [if_pos h]
theorem tn_lv {ts : List Stg} {xs : List Int} (h : chC ts xs = 0) : Lv3 (tnV ts xs) := fun k hk => by
  obtain ⟨h0, h1⟩ := chC_zero h
  have := evW_bd (.inl rfl) (chX_bd (.inl rfl) h1) ts.length (fun i hi => sgL_all _ (chf_zero h0).2 i hi) k hk
  rw [tnV_y h]
  omega
theorem far3_eq {f g : Nat → Int} (h : ∀ k, k < 3 → f k = g k) : far3 f g 3 = 0 := by
  have a := h 0 (by omega)
  have b := h 1 (by omega)
  have c := h 2 (by omega)
  simp only [far3]
  omega
/-! ### the two tones -/
structure To2 (W W' : World) (b1 b2 : Nat) (f : Int) (x y : Nat → Int) : Prop where
  x : Bx W' b1 [.int .i64 f, .int .i64 (x 0), .int .i64 (x 1), .int .i64 (x 2)]
  y : Bx W' b2 [.int .i64 f, .int .i64 (y 0), .int .i64 (y 1), .int .i64 (y 2)]
  bl : Below W.heap.size W W'
theorem Bx.set4 {W : World} {b : Nat} {a0 a1 a2 a3 v0 v1 v2 v3 : Value} (h : Bx W b [a0, a1, a2, a3]) :
    Bx ((((W.setCell ⟨b, 0, none⟩ v0).setCell ⟨b, 1, none⟩ v1).setCell ⟨b, 2, none⟩ v2).setCell ⟨b, 3, none⟩ v3) b [v0, v1, v2, v3] := (((h.set 0 v0).set 1 v1).set 2 v2).set 3 v3
theorem Bx.oth4 {W : World} {b c : Nat} {l : List Value} {v0 v1 v2 v3 : Value} (h : Bx W b l) (hc : c ≠ b) :
    Bx ((((W.setCell ⟨c, 0, none⟩ v0).setCell ⟨c, 1, none⟩ v1).setCell ⟨c, 2, none⟩ v2).setCell ⟨c, 3, none⟩ v3) b l := (((h.oth hc 0 v0).oth hc 1 v1).oth hc 2 v2).oth hc 3 v3
theorem bel_4 {w W : World} {c : Nat} (h : Below w.heap.size w W) (hc : w.heap.size ≤ c) {v0 v1 v2 v3 : Value} :
    Below w.heap.size w ((((W.setCell ⟨c, 0, none⟩ v0).setCell ⟨c, 1, none⟩ v1).setCell ⟨c, 2, none⟩ v2).setCell ⟨c, 3, none⟩ v3) := bel1o (bel1o (bel1o (bel1o h hc 0 _) hc 1 _) hc 2 _) hc 3 _
section
variable {W0 V : World} {b1 b2 : Nat} {f : Int} {x y : Nat → Int} {z0 z1 z2 z3 u0 u1 u2 u3 : Value}
theorem To2.ss (T : Below W0.heap.size W0 V) (X : Bx V b1 [z0, z1, z2, z3]) (Y : Bx V b2 [u0, u1, u2, u3]) (d : b1 ≠ b2) (g1 : W0.heap.size ≤ b1) (g2 : W0.heap.size ≤ b2) :
    To2 W0 ((((((((V.setCell ⟨b1, 0, none⟩ (.int .i64 f)).setCell ⟨b1, 1, none⟩ (.int .i64 (x 0))).setCell ⟨b1, 2, none⟩ (.int .i64 (x 1))).setCell ⟨b1, 3, none⟩ (.int .i64 (x 2))).setCell ⟨b2, 0, none⟩ (.int .i64 f)).setCell ⟨b2, 1, none⟩ (.int .i64 (y 0))).setCell ⟨b2, 2, none⟩ (.int .i64 (y 1))).setCell ⟨b2, 3, none⟩ (.int .i64 (y 2))) b1 b2 f x y :=
  ⟨X.set4.oth4 (Ne.symm d), (Y.oth4 d).set4, bel_4 (bel_4 T g1) g2⟩
theorem To2.sa (T : Below W0.heap.size W0 V) (X : Bx V b1 [z0, z1, z2, z3]) (e : b2 = V.heap.size) (g1 : W0.heap.size ≤ b1) (t : TypeId) :
    To2 W0 (((((V.setCell ⟨b1, 0, none⟩ (.int .i64 f)).setCell ⟨b1, 1, none⟩ (.int .i64 (x 0))).setCell ⟨b1, 2, none⟩ (.int .i64 (x 1))).setCell ⟨b1, 3, none⟩ (.int .i64 (x 2))).alloc (.cells #[.int .i64 f, .int .i64 (y 0), .int .i64 (y 1), .int .i64 (y 2)] t)) b1 b2 f x y :=
  ⟨X.set4.alloc _, Bx.new _ _ _ (by rw [e]; simp), blThenAlloc (bel_4 T g1) _⟩
theorem To2.as (T : Below W0.heap.size W0 V) (Y : Bx V b2 [u0, u1, u2, u3]) (e : b1 = V.heap.size) (g2 : W0.heap.size ≤ b2) (t : TypeId) :
    To2 W0 (((((V.setCell ⟨b2, 0, none⟩ (.int .i64 f)).setCell ⟨b2, 1, none⟩ (.int .i64 (y 0))).setCell ⟨b2, 2, none⟩ (.int .i64 (y 1))).setCell ⟨b2, 3, none⟩ (.int .i64 (y 2))).alloc (.cells #[.int .i64 f, .int .i64 (x 0), .int .i64 (x 1), .int .i64 (x 2)] t)) b1 b2 f x y :=
  ⟨Bx.new _ _ _ (by rw [e]; simp), Y.set4.alloc _, blThenAlloc (bel_4 T g2) _⟩
theorem To2.aa (T : Below W0.heap.size W0 V) (t : TypeId) :
    To2 W0 ((V.alloc (.cells #[.int .i64 f, .int .i64 (x 0), .int .i64 (x 1), .int .i64 (x 2)] t)).alloc (.cells #[.int .i64 f, .int .i64 (y 0), .int .i64 (y 1), .int .i64 (y 2)] t)) V.heap.size (V.heap.size + 1) f x y :=
  ⟨(Bx.new _ _ _ rfl).alloc _, Bx.new _ _ _ (by simp), blThenAlloc (blThenAlloc T _) _⟩
theorem To2.aa2 (T : Below W0.heap.size W0 V) (t : TypeId) :
    To2 W0 ((V.alloc (.cells #[.int .i64 f, .int .i64 (y 0), .int .i64 (y 1), .int .i64 (y 2)] t)).alloc (.cells #[.int .i64 f, .int .i64 (x 0), .int .i64 (x 1), .int .i64 (x 2)] t)) (V.heap.size + 1) V.heap.size f x y :=
  ⟨Bx.new _ _ _ (by simp), (Bx.new _ _ _ rfl).alloc _, blThenAlloc (blThenAlloc T _) _⟩
end
def BoAns (w : World) (ts : List Stg) (sd : Int) (xs : List Int) (e : Ending) (w' : World) : Prop := e = .returned (.agg #[.int .i64 (boC ts sd xs), .int .i64 (boV ts sd xs)]) ∧ Below w.heap.size w w'
set_option maxRecDepth 100000 in
set_option maxHeartbeats 8000000 in
theorem BakeOff_any (A : Option Addr) (n c : Nat) (ts : List Stg) (bs : List Nat) (sd : Int) (P : Option Addr) (m d : Nat) (xs : List Int) (gs : List Nat) (w : World) (h : Hd w (chD ts) (.slice A n c) bs) (hp : Hd w (.ints .i64 xs) (.slice P m d) gs) :
    Calls Tryz.prog 17 #[.agg #[.slice A n c], .int .i64 sd, .slice P m d] w (BoAns w ts sd xs) := by
  have H := Lib.hid h
  have HP := Lib.hid hp
  clear h hp
  go_enter Tryz.func17, Tryz.ntmps17
  go_wp2_with fail
  refine (BakedChain_any A n c ts bs sd _ ((H.out.alloc _).alloc _)).mono ?_
  rintro e w1 ⟨G, k, cG, rfl, ho, hb⟩
  have R1 := Lib.hid ((Bx.new (w.alloc (.cells #[.slice A n c] 34)) #[.int .i64 0, .int .i64 0] 43 (b := w.heap.size + 1) (by simp)).bel hb)
  have C1 := Lib.hid (((Bx.new w #[.slice A n c] 34 rfl).alloc (.cells #[.int .i64 0, .int .i64 0] 43)).bel hb)
  have T1 := Lib.hid (blThen (blThenAlloc (blAlloc w _) _) hb)
  have HO := Lib.hid ho.hd
  clear ho hb
  by_cases h0 : bkC ts sd = 0
  · have hsb := inB_iff.1 (bkC_zero h0).2
    obtain ⟨s, rfl⟩ : ∃ s : Nat, sd = s := ⟨sd.toNat, by omega⟩
    have HCB := Lib.hid (boC_y (xs := xs) h0)
    have e1 : chC (bcC ts s) xs = lf xs := by rw [chC_l (chf_bcC h0), lfo_1]
    have e2 : chC ts xs = lf xs := by rw [chC_l (bkC_zero h0).1, lfo_1]
    have HLV : Hid (lf xs = 0 → Lv3 (tnV (bcC ts s) xs) ∧ Lv3 (tnV ts xs)) := fun q => ⟨tn_lv (by rw [e1]; exact q), tn_lv (by rw [e2]; exact q)⟩
    have HZR : Hid (lf xs ≠ 0 → ∀ i, tnV (bcC ts s) xs i = 0 ∧ tnV ts xs i = 0) := fun q i => ⟨tnV_n (by rw [e1]; exact q) i, tnV_n (by rw [e2]; exact q) i⟩
    have HBV : Hid (lf xs = 0 → boV ts s xs = far3 (tnV (bcC ts s) xs) (tnV ts xs) 3 * 256) := fun q => boV_y (by rw [boC_y h0]; exact q)
    have HBN : Hid (lf xs ≠ 0 → boV ts s xs = 0) := fun q => boV_n (by rw [boC_y h0]; exact q)
    obtain ⟨W2, hW2⟩ : ∃ W2, W2 = w1.alloc (.cells #[.int .i64 0, .slice G k cG] 50) := ⟨_, rfl⟩
    have B2 : Hid (Bx W2 w1.heap.size [.int .i64 0, .slice G k cG]) := by show Bx _ _ _; rw [hW2]; exact Bx.new _ _ _ rfl
    have R2 : Hid (Bx W2 (w.heap.size + 1) [.int .i64 0, .int .i64 0]) := by show Bx _ _ _; rw [hW2]; exact R1.out.alloc _
    have C2 : Hid (Bx W2 w.heap.size [.slice A n c]) := by show Bx _ _ _; rw [hW2]; exact C1.out.alloc _
    have T2 : Hid (Below w.heap.size w W2) := by show Below _ _ _; rw [hW2]; exact blThenAlloc T1.out _
    have CA : Hid (∀ W, Below W2.heap.size W2 W → Calls Tryz.prog 41 #[.agg #[.slice G k cG], .slice P m d] W (fun e w' => e = .returned (.agg #[.int .i64 (lf xs), .int .i64 (tnV (bcC ts s) xs 0), .int .i64 (tnV (bcC ts s) xs 1), .int .i64 (tnV (bcC ts s) xs 2)]) ∧ Below W.heap.size W w')) := fun W hW => by
      obtain ⟨bs', hd⟩ := HO.out
      have h12 : Below w1.heap.size w1 W := by
        have : Below w1.heap.size w1 W2 := by rw [hW2]; exact blAlloc _ _
        exact blThen this hW
      have := toneOf_any G k cG (bcC ts s) bs' P m d xs gs W (hd.bel h12) (HP.out.bel (blThen T2.out hW))
      unfold ToAns at this
      rw [e1] at this
      exact this
    have CB : Hid (∀ W, Below W2.heap.size W2 W → Calls Tryz.prog 41 #[.agg #[.slice A n c], .slice P m d] W (fun e w' => e = .returned (.agg #[.int .i64 (lf xs), .int .i64 (tnV ts xs 0), .int .i64 (tnV ts xs 1), .int .i64 (tnV ts xs 2)]) ∧ Below W.heap.size W w')) := fun W hW => by
      have := toneOf_any A n c ts bs P m d xs gs W (H.out.bel (blThen T2.out hW)) (HP.out.bel (blThen T2.out hW))
      unfold ToAns at this
      rw [e2] at this
      exact this
    have HW2 := Lib.hid hW2
    have HH0 := Lib.hid h0
    obtain ⟨f, hf⟩ : ∃ f, f = lf xs := ⟨_, rfl⟩
    obtain ⟨x, hx⟩ : ∃ x : Nat → Int, x = tnV (bcC ts s) xs := ⟨_, rfl⟩
    obtain ⟨y, hy⟩ : ∃ y : Nat → Int, y = tnV ts xs := ⟨_, rfl⟩
    rw [← hf] at HLV HZR HBV HBN CA CB HCB
    rw [← hx] at HLV HZR HBV CA
    rw [← hy] at HLV HZR HBV CB
    rw [h0]
    clear h0 e1 e2 hsb hW2 hf hx hy
    go_wp2_with fail
    rw [← HW2.out]
    clear HW2
    have x0 := B2.out.c 1 rfl
    have x1 := C2.out.c 0 rfl
    have y0 := cell_lt x0
    have y1 := cell_lt x1
    go_cut [8, 9] from 19 to 25 (fun p q wx => ∃ (b1 b2 : Nat), p = .pointer (some ⟨b1, 0, none⟩) ∧ q = .pointer (some ⟨b2, 0, none⟩) ∧ To2 W2 wx b1 b2 f x y)
    case first =>
      go_region_held3 (fun w' => w'.cell? ⟨w1.heap.size, 1, none⟩ = some (.slice G k cG) ∧ w'.cell? ⟨w.heap.size, 0, none⟩ = some (.slice A n c)) (first | (refine ⟨?_, ?_⟩ <;> ((repeat (first | (with_reducible refine cell_s ?_ (by omega)) | (with_reducible refine cell_later (blAlloc _ _) ?_) | (with_reducible exact x0) | (with_reducible exact x1) | (with_reducible exact ca0) | (with_reducible exact ca1) | (with_reducible exact cb0) | (with_reducible exact cb1) | (with_reducible refine cell_later (Below.refl _ _).drew ?_))); done))) (first | (go_at_call 41; (with_reducible refine (CA.out _ (by repeat (first | (with_reducible exact (Below.refl W2.heap.size W2)) | (with_reducible refine blThenAlloc ?_ _) | (with_reducible refine Below.drew ?_)))).mono ?_); rintro e wa ⟨rfl, hb⟩; have Ta := Lib.hid (show Below W2.heap.size W2 wa from blThen (by repeat (first | (with_reducible exact (Below.refl W2.heap.size W2)) | (with_reducible refine blThenAlloc ?_ _) | (with_reducible refine Below.drew ?_))) hb); have ca0 := cell_later Ta.out x0; have ca1 := cell_later Ta.out x1; have za := cell_lt ca0; have zb := cell_lt ca1; (first | (have BA : Hid (Bx wa W2.heap.size [.int .i64 0, .int .i64 0, .int .i64 0, .int .i64 0]) := (((Bx.new W2 #[.int .i64 0, .int .i64 0, .int .i64 0, .int .i64 0] 78 rfl).alloc (.cells #[.int .i64 0, .int .i64 0, .int .i64 0, .int .i64 0] 78)).bel (Below.refl _ _).drew).bel (by with_reducible exact hb); have BB : Hid (Bx wa (W2.heap.size + 1) [.int .i64 0, .int .i64 0, .int .i64 0, .int .i64 0]) := ((Bx.new (W2.alloc (.cells #[.int .i64 0, .int .i64 0, .int .i64 0, .int .i64 0] 78)) #[.int .i64 0, .int .i64 0, .int .i64 0, .int .i64 0] 78 (b := W2.heap.size + 1) (by simp)).bel (Below.refl _ _).drew).bel (by with_reducible exact hb); have ne1 := BB.out.lt) | (have BA : Hid (Bx wa W2.heap.size [.int .i64 0, .int .i64 0, .int .i64 0, .int .i64 0]) := ((Bx.new W2 #[.int .i64 0, .int .i64 0, .int .i64 0, .int .i64 0] 78 rfl).bel (Below.refl _ _).drew).bel (by with_reducible exact hb); have ne1 : ¬ W2.heap.size = wa.heap.size := (by have := BA.out.lt; omega); have ne2 : ¬ wa.heap.size = W2.heap.size := (by have := BA.out.lt; omega)) | skip); clear hb) | (go_at_call 41; (with_reducible refine (CB.out _ (by repeat (first | (with_reducible exact Ta.out) | (with_reducible refine blThenAlloc ?_ _) | (with_reducible refine Below.drew ?_)))).mono ?_); rintro e wb ⟨rfl, hb⟩; have Tb := Lib.hid (show Below W2.heap.size W2 wb from blThen (by repeat (first | (with_reducible exact Ta.out) | (with_reducible refine blThenAlloc ?_ _) | (with_reducible refine Below.drew ?_))) hb); have Lb := Lib.hid (show Below wa.heap.size wa wb from blThen (by repeat (first | (with_reducible exact (Below.refl wa.heap.size wa)) | (with_reducible refine blThenAlloc ?_ _) | (with_reducible refine Below.drew ?_))) hb); have cb0 := cell_later Tb.out x0; have cb1 := cell_later Tb.out x1; have zc := cell_lt cb0; have zd := cell_lt cb1; (first | (have BE := Lib.hid (BA.out.bel Lb.out)) | skip); (first | (have BF := Lib.hid (BB.out.bel Lb.out)) | skip); (first | (have BC : Hid (Bx wb wa.heap.size [.int .i64 0, .int .i64 0, .int .i64 0, .int .i64 0]) := ((Bx.new wa #[.int .i64 0, .int .i64 0, .int .i64 0, .int .i64 0] 78 rfl).alloc (.cells #[.int .i64 0, .int .i64 0, .int .i64 0, .int .i64 0] 78)).bel (by with_reducible exact hb); have BD : Hid (Bx wb (wa.heap.size + 1) [.int .i64 0, .int .i64 0, .int .i64 0, .int .i64 0]) := (Bx.new (wa.alloc (.cells #[.int .i64 0, .int .i64 0, .int .i64 0, .int .i64 0] 78)) #[.int .i64 0, .int .i64 0, .int .i64 0, .int .i64 0] 78 (b := wa.heap.size + 1) (by simp)).bel (by with_reducible exact hb)) | (have BC : Hid (Bx wb wa.heap.size [.int .i64 0, .int .i64 0, .int .i64 0, .int .i64 0]) := (Bx.new wa #[.int .i64 0, .int .i64 0, .int .i64 0, .int .i64 0] 78 rfl).bel (by with_reducible exact hb)) | skip); (first | (have e0 := BE.out.c 0 rfl; have e1 := BE.out.c 1 rfl; have e2 := BE.out.c 2 rfl; have e3 := BE.out.c 3 rfl; have e4 := BE.out.f 0; have e5 := BE.out.f 1; have e6 := BE.out.f 2; have e7 := BE.out.f 3; have e8 := BE.out.lt) | skip); (first | (have f0 := BF.out.c 0 rfl; have f1 := BF.out.c 1 rfl; have f2 := BF.out.c 2 rfl; have f3 := BF.out.c 3 rfl; have f4 := BF.out.f 0; have f5 := BF.out.f 1; have f6 := BF.out.f 2; have f7 := BF.out.f 3; have f8 := BF.out.lt) | skip); (first | (have g0 := BC.out.c 0 rfl; have g1 := BC.out.c 1 rfl; have g2 := BC.out.c 2 rfl; have g3 := BC.out.c 3 rfl; have g4 := BC.out.f 0; have g5 := BC.out.f 1; have g6 := BC.out.f 2; have g7 := BC.out.f 3; have g8 := BC.out.lt) | skip); (first | (have i0 := BD.out.c 0 rfl; have i1 := BD.out.c 1 rfl; have i2 := BD.out.c 2 rfl; have i3 := BD.out.c 3 rfl; have i4 := BD.out.f 0; have i5 := BD.out.f 1; have i6 := BD.out.f 2; have i7 := BD.out.f 3; have i8 := BD.out.lt) | skip); clear hb))
      all_goals (try go_wp2_with fail)
      all_goals go_meet
      all_goals (refine ⟨_, _, rfl, rfl, ?_⟩)
      all_goals (first | (with_reducible exact To2.aa Tb.out _) | (with_reducible exact To2.aa2 Tb.out _) | (with_reducible exact To2.sa Tb.out BC.out rfl (by have := Ta.out.size; have := Lb.out.size; first | omega | (simp only [World.size_alloc, World.size_drew]; omega) | (simp; omega) | (simp; done)) _) | (with_reducible exact To2.as Tb.out BC.out rfl (by have := Ta.out.size; have := Lb.out.size; first | omega | (simp only [World.size_alloc, World.size_drew]; omega) | (simp; omega) | (simp; done)) _) | (with_reducible exact To2.sa Tb.out BD.out rfl (by have := Ta.out.size; have := Lb.out.size; first | omega | (simp only [World.size_alloc, World.size_drew]; omega) | (simp; omega) | (simp; done)) _) | (with_reducible exact To2.as Tb.out BD.out rfl (by have := Ta.out.size; have := Lb.out.size; first | omega | (simp only [World.size_alloc, World.size_drew]; omega) | (simp; omega) | (simp; done)) _) | (with_reducible exact To2.sa Tb.out BE.out rfl (by have := Ta.out.size; have := Lb.out.size; first | omega | (simp only [World.size_alloc, World.size_drew]; omega) | (simp; omega) | (simp; done)) _) | (with_reducible exact To2.as Tb.out BE.out rfl (by have := Ta.out.size; have := Lb.out.size; first | omega | (simp only [World.size_alloc, World.size_drew]; omega) | (simp; omega) | (simp; done)) _) | (with_reducible exact To2.sa Tb.out BF.out rfl (by have := Ta.out.size; have := Lb.out.size; first | omega | (simp only [World.size_alloc, World.size_drew]; omega) | (simp; omega) | (simp; done)) _) | (with_reducible exact To2.as Tb.out BF.out rfl (by have := Ta.out.size; have := Lb.out.size; first | omega | (simp only [World.size_alloc, World.size_drew]; omega) | (simp; omega) | (simp; done)) _) | (with_reducible exact To2.ss Tb.out BC.out BD.out (by have := Ta.out.size; have := Lb.out.size; first | omega | (simp only [World.size_alloc, World.size_drew]; omega) | (simp; omega) | (simp; done)) (by have := Ta.out.size; have := Lb.out.size; first | omega | (simp only [World.size_alloc, World.size_drew]; omega) | (simp; omega) | (simp; done)) (by have := Ta.out.size; have := Lb.out.size; first | omega | (simp only [World.size_alloc, World.size_drew]; omega) | (simp; omega) | (simp; done))) | (with_reducible exact To2.ss Tb.out BC.out BE.out (by have := Ta.out.size; have := Lb.out.size; first | omega | (simp only [World.size_alloc, World.size_drew]; omega) | (simp; omega) | (simp; done)) (by have := Ta.out.size; have := Lb.out.size; first | omega | (simp only [World.size_alloc, World.size_drew]; omega) | (simp; omega) | (simp; done)) (by have := Ta.out.size; have := Lb.out.size; first | omega | (simp only [World.size_alloc, World.size_drew]; omega) | (simp; omega) | (simp; done))) | (with_reducible exact To2.ss Tb.out BC.out BF.out (by have := Ta.out.size; have := Lb.out.size; first | omega | (simp only [World.size_alloc, World.size_drew]; omega) | (simp; omega) | (simp; done)) (by have := Ta.out.size; have := Lb.out.size; first | omega | (simp only [World.size_alloc, World.size_drew]; omega) | (simp; omega) | (simp; done)) (by have := Ta.out.size; have := Lb.out.size; first | omega | (simp only [World.size_alloc, World.size_drew]; omega) | (simp; omega) | (simp; done))) | (with_reducible exact To2.ss Tb.out BD.out BC.out (by have := Ta.out.size; have := Lb.out.size; first | omega | (simp only [World.size_alloc, World.size_drew]; omega) | (simp; omega) | (simp; done)) (by have := Ta.out.size; have := Lb.out.size; first | omega | (simp only [World.size_alloc, World.size_drew]; omega) | (simp; omega) | (simp; done)) (by have := Ta.out.size; have := Lb.out.size; first | omega | (simp only [World.size_alloc, World.size_drew]; omega) | (simp; omega) | (simp; done))) | (with_reducible exact To2.ss Tb.out BD.out BE.out (by have := Ta.out.size; have := Lb.out.size; first | omega | (simp only [World.size_alloc, World.size_drew]; omega) | (simp; omega) | (simp; done)) (by have := Ta.out.size; have := Lb.out.size; first | omega | (simp only [World.size_alloc, World.size_drew]; omega) | (simp; omega) | (simp; done)) (by have := Ta.out.size; have := Lb.out.size; first | omega | (simp only [World.size_alloc, World.size_drew]; omega) | (simp; omega) | (simp; done))) | (with_reducible exact To2.ss Tb.out BD.out BF.out (by have := Ta.out.size; have := Lb.out.size; first | omega | (simp only [World.size_alloc, World.size_drew]; omega) | (simp; omega) | (simp; done)) (by have := Ta.out.size; have := Lb.out.size; first | omega | (simp only [World.size_alloc, World.size_drew]; omega) | (simp; omega) | (simp; done)) (by have := Ta.out.size; have := Lb.out.size; first | omega | (simp only [World.size_alloc, World.size_drew]; omega) | (simp; omega) | (simp; done))) | (with_reducible exact To2.ss Tb.out BE.out BC.out (by have := Ta.out.size; have := Lb.out.size; first | omega | (simp only [World.size_alloc, World.size_drew]; omega) | (simp; omega) | (simp; done)) (by have := Ta.out.size; have := Lb.out.size; first | omega | (simp only [World.size_alloc, World.size_drew]; omega) | (simp; omega) | (simp; done)) (by have := Ta.out.size; have := Lb.out.size; first | omega | (simp only [World.size_alloc, World.size_drew]; omega) | (simp; omega) | (simp; done))) | (with_reducible exact To2.ss Tb.out BE.out BD.out (by have := Ta.out.size; have := Lb.out.size; first | omega | (simp only [World.size_alloc, World.size_drew]; omega) | (simp; omega) | (simp; done)) (by have := Ta.out.size; have := Lb.out.size; first | omega | (simp only [World.size_alloc, World.size_drew]; omega) | (simp; omega) | (simp; done)) (by have := Ta.out.size; have := Lb.out.size; first | omega | (simp only [World.size_alloc, World.size_drew]; omega) | (simp; omega) | (simp; done))) | (with_reducible exact To2.ss Tb.out BE.out BF.out (by have := Ta.out.size; have := Lb.out.size; first | omega | (simp only [World.size_alloc, World.size_drew]; omega) | (simp; omega) | (simp; done)) (by have := Ta.out.size; have := Lb.out.size; first | omega | (simp only [World.size_alloc, World.size_drew]; omega) | (simp; omega) | (simp; done)) (by have := Ta.out.size; have := Lb.out.size; first | omega | (simp only [World.size_alloc, World.size_drew]; omega) | (simp; omega) | (simp; done))) | (with_reducible exact To2.ss Tb.out BF.out BC.out (by have := Ta.out.size; have := Lb.out.size; first | omega | (simp only [World.size_alloc, World.size_drew]; omega) | (simp; omega) | (simp; done)) (by have := Ta.out.size; have := Lb.out.size; first | omega | (simp only [World.size_alloc, World.size_drew]; omega) | (simp; omega) | (simp; done)) (by have := Ta.out.size; have := Lb.out.size; first | omega | (simp only [World.size_alloc, World.size_drew]; omega) | (simp; omega) | (simp; done))) | (with_reducible exact To2.ss Tb.out BF.out BD.out (by have := Ta.out.size; have := Lb.out.size; first | omega | (simp only [World.size_alloc, World.size_drew]; omega) | (simp; omega) | (simp; done)) (by have := Ta.out.size; have := Lb.out.size; first | omega | (simp only [World.size_alloc, World.size_drew]; omega) | (simp; omega) | (simp; done)) (by have := Ta.out.size; have := Lb.out.size; first | omega | (simp only [World.size_alloc, World.size_drew]; omega) | (simp; omega) | (simp; done))) | (with_reducible exact To2.ss Tb.out BF.out BE.out (by have := Ta.out.size; have := Lb.out.size; first | omega | (simp only [World.size_alloc, World.size_drew]; omega) | (simp; omega) | (simp; done)) (by have := Ta.out.size; have := Lb.out.size; first | omega | (simp only [World.size_alloc, World.size_drew]; omega) | (simp; omega) | (simp; done)) (by have := Ta.out.size; have := Lb.out.size; first | omega | (simp only [World.size_alloc, World.size_drew]; omega) | (simp; omega) | (simp; done))))
    case rest =>
      obtain ⟨b1, b2, rfl, rfl, ht⟩ := hcut
      have X := Lib.hid ht.x
      have Y := Lib.hid ht.y
      have R3 := Lib.hid (R2.out.bel ht.bl)
      have T3 := Lib.hid (blThen T2.out ht.bl)
      clear ht R2 T2 B2 C2 CA CB x0 x1 y0 y1
      have r0 := R3.out.c 0 rfl
      have r1 := R3.out.c 1 rfl
      have z0 := R3.out.f 0
      have z1 := R3.out.f 1
      have rl := R3.out.lt
      have lx := X.out.lt
      have ly := Y.out.lt
      have c0 := X.out.c 0 rfl
      have c1 := X.out.c 1 rfl
      have c2 := X.out.c 2 rfl
      have c3 := X.out.c 3 rfl
      have d0 := Y.out.c 0 rfl
      have d1 := Y.out.c 1 rfl
      have d2 := Y.out.c 2 rfl
      have d3 := Y.out.c 3 rfl
      by_cases hxy : x 0 = y 0 ∧ x 1 = y 1 ∧ x 2 = y 2
      · have HXY := Lib.hid hxy
        rw [← hxy.1] at d1
        rw [← hxy.2.1] at d2
        rw [← hxy.2.2] at d3
        have hb3 : b3 (x 0) (x 1) (x 2) (x 0) (x 1) (x 2) = true := by unfold b3; simp
        have eq3 : ∀ W, (Op.equalIn 9999 76 (.agg #[.int .i64 (x 0), .int .i64 (x 1), .int .i64 (x 2)]) (.agg #[.int .i64 (x 0), .int .i64 (x 1), .int .i64 (x 2)])).run Tryz.prog W = .ok true W := fun W => by
          rw [← hb3]; exact equal3 9997 _ _ _ _ _ _ W
        clear hxy hb3
        go_wp2_with fail
        have KK := (R3.out.set 0 (.int .i64 f)).set 1 (.int .i64 0)
        have k0 := KK.c 0 rfl
        have k1 := KK.c 1 rfl
        clear KK
        refine bodyPost_ret (v := .agg #[.int .i64 f, .int .i64 0]) (by simp [results, Tryz.results17, go_sem, k0, k1]) rfl ⟨?_, bel_2 T3.out (by omega) _ _⟩
        have hv : boV ts s xs = 0 := by
          by_cases q : f = 0
          · rw [HBV.out q, far3_eq (fun k hk => by
              match k, hk with
              | 0, _ => exact HXY.out.1
              | 1, _ => exact HXY.out.2.1
              | 2, _ => exact HXY.out.2.2)]
            rfl
          · exact HBN.out q
        rw [HCB.out, hv]
      · have hf0 : f = 0 := by
          by_cases q : f = 0
          · exact q
          · have hz := HZR.out q
            exact absurd ⟨by rw [(hz 0).1, (hz 0).2], by rw [(hz 1).1, (hz 1).2], by rw [(hz 2).1, (hz 2).2]⟩ hxy
        subst hf0
        have HL := Lib.hid (HLV.out rfl)
        have HV := Lib.hid (HBV.out rfl)
        have hbd := far3_bd HL.out.1 HL.out.2 3 (by omega)
        have CF : Hid (∀ W, Calls Tryz.prog 42 #[.agg #[.int .i64 (x 0), .int .i64 (x 1), .int .i64 (x 2)], .agg #[.int .i64 (y 0), .int .i64 (y 1), .int .i64 (y 2)]] W fun e w' => e = .returned (.int .i64 (far3 x y 3)) ∧ Below W.heap.size W w') := fun W => farthest_any x y W HL.out.1 HL.out.2
        obtain ⟨v, hv⟩ : ∃ v, v = far3 x y 3 := ⟨_, rfl⟩
        rw [← hv] at CF HV hbd
        have i1 : IntKind.i64.wrap (v * 256) = v * 256 := IntWalk.i64_in _ (by omega)
        have hb3 : b3 (x 0) (x 1) (x 2) (y 0) (y 1) (y 2) = false := by
          rcases Bool.eq_false_or_eq_true (b3 (x 0) (x 1) (x 2) (y 0) (y 1) (y 2)) with q | q
          · unfold b3 at q; simp at q; exact absurd (by omega) hxy
          · exact q
        have eq3 : ∀ W, (Op.equalIn 9999 76 (.agg #[.int .i64 (x 0), .int .i64 (x 1), .int .i64 (x 2)]) (.agg #[.int .i64 (y 0), .int .i64 (y 1), .int .i64 (y 2)])).run Tryz.prog W = .ok false W := fun W => by
          rw [← hb3]; exact equal3 9997 _ _ _ _ _ _ W
        clear hv hbd hb3 hxy
        go_wp2_with fail
        refine (CF.out _).mono ?_
        rintro e w5 ⟨rfl, hb⟩
        have R5 := Lib.hid (R3.out.bel hb)
        have T5 := Lib.hid (blThen T3.out hb)
        clear hb CF eq3 R3 T3 r0 r1 z0 z1 rl c0 c1 c2 c3 d0 d1 d2 d3 lx ly
        have r0 := R5.out.c 0 rfl
        have r1 := R5.out.c 1 rfl
        have z0 := R5.out.f 0
        have z1 := R5.out.f 1
        have rl := R5.out.lt
        go_wp2_with fail
        have KK := (R5.out.set 0 (.int .i64 0)).set 1 (.int .i64 (v * 256))
        have k0 := KK.c 0 rfl
        have k1 := KK.c 1 rfl
        clear KK
        refine bodyPost_ret (v := .agg #[.int .i64 0, .int .i64 (v * 256)]) (by simp [results, Tryz.results17, go_sem, k0, k1]) rfl ⟨by rw [HCB.out, HV.out], bel_2 T5.out (by omega) _ _⟩
  · have HB1 := Lib.hid (boC_f (xs := xs) h0)
    have HB2 : Hid (boV ts sd xs = 0) := boV_n (by rw [HB1.out]; exact h0)
    obtain ⟨f, hf⟩ : ∃ f, bkC ts sd = f := ⟨_, rfl⟩
    have HFF := Lib.hid hf
    rw [hf] at h0 ⊢
    have hqn : (f == 0) = false := by simpa using h0
    clear hf HO H HP
    have r0 := R1.out.c 0 rfl
    have r1 := R1.out.c 1 rfl
    have z0 := R1.out.f 0
    have z1 := R1.out.f 1
    have rl := R1.out.lt
    go_wp2_with fail
    have KK := ((R1.out.set 0 (.int .i64 f)).set 1 (.int .i64 0)).alloc (.cells #[.int .i64 f, .slice G k cG] 50)
    have k0 := KK.c 0 rfl
    have k1 := KK.c 1 rfl
    clear KK
    refine bodyPost_ret (v := .agg #[.int .i64 f, .int .i64 0]) (by simp [results, Tryz.results17, go_sem, k0, k1]) rfl ⟨by rw [HB1.out, HFF.out, HB2.out], ?_⟩
    exact blThenAlloc (bel_2 T1.out (by omega) _ _) _
end Go.Proofs.YtlfdpambbgddoaaGreat
namespace Go.Proofs.YtlfdpambbgddoaaGreat
open Go.RowKit Go.Maps
set_option linter.unusedVariables false
set_option linter.unusedSimpArgs false

theorem far3_ext {f g f' g' : Nat → Int} (h : ∀ k, k < 3 → f k = f' k ∧ g k = g' k) : far3 f g 3 = far3 f' g' 3 := by
  simp only [far3]
  rw [(h 0 (by omega)).1, (h 0 (by omega)).2, (h 1 (by omega)).1, (h 1 (by omega)).2, (h 2 (by omega)).1, (h 2 (by omega)).2]
set_option maxRecDepth 100000 in
set_option maxHeartbeats 4000000 in
theorem sBakeOff_any (A : Option Addr) (n c : Nat) (ts : List Stg) (bs : List Nat) (sd : Int) (P : Option Addr) (m d : Nat) (xs : List Int) (gs : List Nat) (w : World) (h : Hd w (chD ts) (.slice A n c) bs) (hp : Hd w (.ints .i64 xs) (.slice P m d) gs) :
    Calls Tryz.prog 15 #[.agg #[.slice A n c], .int .i64 sd, .slice P m d] w (BoAns w ts sd xs) := by
  obtain ⟨W0, hW0⟩ : ∃ W0, W0 = (w.alloc (.cells #[.slice A n c] 34)).alloc (.cells #[.int .i64 0, .int .i64 0] 43) := ⟨_, rfl⟩
  have B : Hid (Bx W0 w.heap.size [.slice A n c]) := by show Bx _ _ _; rw [hW0]; exact (Bx.new _ _ _ rfl).alloc _
  have R : Hid (Bx W0 (w.heap.size + 1) [.int .i64 0, .int .i64 0]) := by show Bx _ _ _; rw [hW0]; exact Bx.new _ _ _ (by simp)
  have H : Hid (Hd W0 (chD ts) (.slice A n c) bs) := by show Hd _ _ _ _; rw [hW0]; exact (h.alloc _).alloc _
  have HP : Hid (Hd W0 (.ints .i64 xs) (.slice P m d) gs) := by show Hd _ _ _ _; rw [hW0]; exact (hp.alloc _).alloc _
  have T0 : Hid (Below w.heap.size w W0) := by show Below _ _ _; rw [hW0]; exact blThenAlloc (blAlloc _ _) _
  have HW := Lib.hid hW0
  clear h hp hW0
  go_enter Tryz.func15, Tryz.ntmps15
  go_wp2_with fail
  rw [← HW.out]
  clear HW
  refine (sAsked9_any w.heap.size 0 A n c ts bs sd _ H.out (B.out.c 0 rfl)).mono ?_
  rintro e w1 ⟨rfl, mm, rfl⟩
  have R1 := Lib.hid (R.out.drewN mm)
  have B1 := Lib.hid (B.out.drewN mm)
  have H1 := Lib.hid (H.out.drewN mm)
  have P1 := Lib.hid (HP.out.drewN mm)
  have T1 := Lib.hid (blThenDrew T0.out mm)
  obtain ⟨W1, hW1⟩ : ∃ W1, W1 = W0.drewN mm := ⟨_, rfl⟩
  rw [← hW1] at R1 B1 H1 P1 T1 ⊢
  clear hW1 R B H HP T0
  by_cases h0 : bkC ts sd = 0
  · have hsb := inB_iff.1 (bkC_zero h0).2
    obtain ⟨s, rfl⟩ : ∃ s : Nat, sd = s := ⟨sd.toNat, by omega⟩
    have HCB := Lib.hid (boC_y (xs := xs) h0)
    have HH0 := Lib.hid h0
    have hcf := Lib.hid (bkC_zero h0).1
    rw [h0]
    clear h0 hsb
    go_wp2_with fail
    refine (sLevels4_any P m d xs _ P1.out.rd P1.out.caps.1 P1.out.caps.2).mono ?_
    rintro e w2 ⟨rfl, rfl⟩
    by_cases h1 : lf xs = 0
    · have HV := Lib.hid (boV_y (HCB.out.trans h1))
      obtain rfl : m = 3 := by rw [← (lf_zero h1).1]; exact P1.out.rd.1.symm
      have HL1 := Lib.hid h1
      have hc0 : chC ts xs = 0 := by rw [chC_l hcf.out, lfo_1]; exact h1
      have HCC := Lib.hid hc0
      have hgf := Lib.hid (gf_baked HH0.out)
      have CB := Lib.hid (sBake9_any w.heap.size 0 A n c s ts bs W1 H1.out (B1.out.c 0 rfl) HH0.out)
      have hl3 : Lv3 (tnV (bcC ts s) xs) ∧ Lv3 (tnV ts xs) := ⟨tn_lv (by rw [chC_l (chf_bcC HH0.out), lfo_1]; exact h1), tn_lv hc0⟩
      have HLV := Lib.hid hl3
      rw [h1]
      clear h1 hc0 hl3
      go_wp2_with fail
      refine CB.out.mono ?_
      rintro e w2 ⟨G, k, cG, rfl, ho, hb⟩
      obtain ⟨W3, hW3⟩ : ∃ W3, W3 = w2.alloc (.cells #[.int .i64 (s : Int), .slice G k cG] 28) := ⟨_, rfl⟩
      have B13 : Below W1.heap.size W1 W3 := by rw [hW3]; exact blThenAlloc hb _
      have G3 : Hid (Bx W3 w2.heap.size [.int .i64 (s : Int), .slice G k cG]) := by show Bx _ _ _; rw [hW3]; exact Bx.new _ _ _ rfl
      have HG3 : Hid (∃ bs', Hd W3 (rowsD (bkRs s ts (s * s * s) ts.length)) (.slice G k cG) bs') := by
        obtain ⟨bs', hd⟩ := ho.hd
        exact ⟨bs', by rw [hW3]; exact hd.alloc _⟩
      have R3 := Lib.hid (R1.out.bel B13)
      have B3 := Lib.hid (B1.out.bel B13)
      have H3 := Lib.hid (H1.out.bel B13)
      have P3 := Lib.hid (P1.out.bel B13)
      have T3 := Lib.hid (blThen T1.out B13)
      have HW3 := Lib.hid hW3
      have CE : Hid (Calls Tryz.prog 39 #[.pointer (some ⟨w2.heap.size, 0, none⟩), .slice P 3 d] W3 (SlAns W3 3 [tnV (bcC ts s) xs 0, tnV (bcC ts s) xs 1, tnV (bcC ts s) xs 2])) := by
        obtain ⟨bs', hd⟩ := HG3.out
        have := sEval5_any w2.heap.size 0 G P k cG d s (bkRs s ts (s * s * s) ts.length) xs bs' W3 hd (G3.out.c 0 rfl) (G3.out.c 1 rfl) P3.out.rd hgf.out HL1.out
        rw [← tn_grid HH0.out HL1.out 0 (by omega), ← tn_grid HH0.out HL1.out 1 (by omega), ← tn_grid HH0.out HL1.out 2 (by omega)] at this
        exact this
      have CL : Hid (∀ W, Below W3.heap.size W3 W → Calls Tryz.prog 40 #[.pointer (some ⟨w.heap.size, 0, none⟩), .slice P 3 d] W (SlAns W 3 [tnV ts xs 0, tnV ts xs 1, tnV ts xs 2])) := fun W hW => by
        have := sChain6_any w.heap.size 0 A n c ts bs P d xs W (H3.out.bel hW) (cell_later hW (B3.out.c 0 rfl)) (P3.out.rd.below hW) HCC.out
        rw [← H3.out.stgs.1] at this
        rw [tnV_y HCC.out, tnV_y HCC.out, tnV_y HCC.out]
        exact this
      obtain ⟨x, hx⟩ : ∃ x : Nat → Int, x = tnV (bcC ts s) xs := ⟨_, rfl⟩
      obtain ⟨y, hy⟩ : ∃ y : Nat → Int, y = tnV ts xs := ⟨_, rfl⟩
      rw [← hx] at CE HLV HV
      rw [← hy] at CL HLV HV
      clear ho hb B13 hW3 hx hy R1 B1 H1 P1 T1 CB HG3
      go_wp2_with fail
      rw [← HW3.out]
      clear HW3
      go_wp2_with fail
      refine CE.out.mono ?_
      rintro e w4 ⟨Ge, ce, rfl, hoe, hbe⟩
      have HBE := Lib.hid hbe
      have HOE := Lib.hid hoe
      clear hbe hoe CE
      go_wp2_with fail
      refine (CL.out _ HBE.out).mono ?_
      rintro e w5 ⟨Gc, c5, rfl, hoc, hbc⟩
      have OE := Lib.hid (HOE.out.below hbc)
      have OC := Lib.hid hoc
      have T5 := Lib.hid (blThen (blThen T3.out HBE.out) hbc)
      have R5 := Lib.hid ((R3.out.bel HBE.out).bel hbc)
      clear hoc hbc CL HOE HBE R3 T3
      have hbd := far3_bd HLV.out.1 HLV.out.2 3 (by omega)
      have CF : Hid (Calls Tryz.prog 38 #[.slice Ge 3 ce, .slice Gc 3 c5] w5 fun e w' => e = .returned (.int .i64 (far3 x y 3)) ∧ ∃ m, w' = w5.drewN m) := by
        obtain ⟨b1, h1⟩ := OE.out.hd
        obtain ⟨b2, h2⟩ := OC.out.hd
        have lx : Lv3 (([x 0, x 1, x 2] : List Int).getD · 0) := fun k hk => by
          match k, hk with
          | 0, _ => exact HLV.out.1 0 (by omega)
          | 1, _ => exact HLV.out.1 1 (by omega)
          | 2, _ => exact HLV.out.1 2 (by omega)
        have ly : Lv3 (([y 0, y 1, y 2] : List Int).getD · 0) := fun k hk => by
          match k, hk with
          | 0, _ => exact HLV.out.2 0 (by omega)
          | 1, _ => exact HLV.out.2 1 (by omega)
          | 2, _ => exact HLV.out.2 2 (by omega)
        have := sFar5_any Ge Gc ce c5 [x 0, x 1, x 2] [y 0, y 1, y 2] w5 h1.rd h2.rd lx ly
        rw [far3_ext (f' := x) (g' := y) (fun k hk => by
          match k, hk with
          | 0, _ => exact ⟨rfl, rfl⟩
          | 1, _ => exact ⟨rfl, rfl⟩
          | 2, _ => exact ⟨rfl, rfl⟩)] at this
        exact this
      obtain ⟨v, hv⟩ : ∃ v, v = far3 x y 3 := ⟨_, rfl⟩
      rw [← hv] at CF HV hbd
      have i1 : IntKind.i64.wrap (v * 256) = v * 256 := IntWalk.i64_in _ (by omega)
      clear hv hbd
      go_wp2_with fail
      refine CF.out.mono ?_
      rintro e w6 ⟨rfl, q, rfl⟩
      have R6 := Lib.hid (R5.out.drewN q)
      have T6 := Lib.hid (blThenDrew T5.out q)
      have r0 := R6.out.c 0 rfl
      have r1 := R6.out.c 1 rfl
      have z0 := R6.out.f 0
      have z1 := R6.out.f 1
      have rl := R6.out.lt
      clear CF
      go_wp2_with fail
      have KK := (R6.out.set 0 (.int .i64 0)).set 1 (.int .i64 (v * 256))
      have k0 := KK.c 0 rfl
      have k1 := KK.c 1 rfl
      clear KK
      refine bodyPost_ret (v := .agg #[.int .i64 0, .int .i64 (v * 256)]) (by simp [results, Tryz.results15, go_sem, k0, k1]) rfl ⟨by rw [HCB.out, HL1.out, HV.out], bel_2 T6.out (by omega) _ _⟩
    · have HV := Lib.hid (boV_n (by rw [HCB.out]; exact h1))
      obtain ⟨f, hf⟩ : ∃ f, lf xs = f := ⟨_, rfl⟩
      have HFF := Lib.hid hf
      rw [hf] at h1 ⊢
      have hqn : (f == 0) = false := by simpa using h1
      clear hf
      have r0 := R1.out.c 0 rfl
      have r1 := R1.out.c 1 rfl
      have z0 := R1.out.f 0
      have z1 := R1.out.f 1
      have rl := R1.out.lt
      go_wp2_with fail
      have KK := (R1.out.set 0 (.int .i64 f)).set 1 (.int .i64 0)
      have k0 := KK.c 0 rfl
      have k1 := KK.c 1 rfl
      clear KK
      refine bodyPost_ret (v := .agg #[.int .i64 f, .int .i64 0]) (by simp [results, Tryz.results15, go_sem, k0, k1]) rfl ⟨by rw [HCB.out, HFF.out, HV.out], bel_2 T1.out (by omega) _ _⟩
  · have HB1 := Lib.hid (boC_f (xs := xs) h0)
    have HB2 : Hid (boV ts sd xs = 0) := boV_n (by rw [HB1.out]; exact h0)
    obtain ⟨f, hf⟩ : ∃ f, bkC ts sd = f := ⟨_, rfl⟩
    have HFF := Lib.hid hf
    rw [hf] at h0 ⊢
    have hqn : (f == 0) = false := by simpa using h0
    clear hf
    have r0 := R1.out.c 0 rfl
    have r1 := R1.out.c 1 rfl
    have z0 := R1.out.f 0
    have z1 := R1.out.f 1
    have rl := R1.out.lt
    go_wp2_with fail
    have KK := (R1.out.set 0 (.int .i64 f)).set 1 (.int .i64 0)
    have k0 := KK.c 0 rfl
    have k1 := KK.c 1 rfl
    clear KK
    refine bodyPost_ret (v := .agg #[.int .i64 f, .int .i64 0]) (by simp [results, Tryz.results15, go_sem, k0, k1]) rfl ⟨by rw [HB1.out, HFF.out, HB2.out], bel_2 T1.out (by omega) _ _⟩
end Go.Proofs.YtlfdpambbgddoaaGreat
