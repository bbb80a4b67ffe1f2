/-
  The nodes of a grid without a fault, as a map that is known: nodesOf.
-/
import Derived.Test.YtmmlcdbbjkligaaGrdN
namespace Go.Proofs.Ytmmlcdbbjkligaa
open Go.RowKit Go.Maps
set_option linter.unusedVariables false

theorem gfl_zero {rs : Rws} : ∀ {n : Nat}, gfl rs n = 0 → ∀ k, k < n → lf (rw_ rs k) = 0 := by
  intro n
  induction n with
  | zero => intro _ k hk; omega
  | succ n ih =>
    intro h k hk
    have h0 : gfl rs n = 0 := by
      by_cases e : gfl rs n = 0
      · exact e
      · simp only [gfl] at h; rw [if_neg e] at h; exact absurd h e
    by_cases e : k = n
    · subst e; simp only [gfl] at h; rw [if_pos h0] at h; exact h
    · exact ih h0 k (by omega)
theorem gf_zero {sd : Int} {rs : Rws} (h : gf sd rs = 0) : inB sd 2 4 = true ∧ (rs.length : Int) = sd * sd * sd ∧ ∀ k, k < rs.length → lf (rw_ rs k) = 0 := by
  unfold gf at h
  split at h
  · omega
  · rename_i h1
    split at h
    · omega
    · rename_i h2
      exact ⟨by simpa using h1, by simpa using h2, gfl_zero h⟩
theorem wfN {n : Nat} (h : n ≤ 1000) : (Lit.int .i64 (n : Int)).wf = true := WalkArith.wf_i64 (by omega)
theorem kp_inj {x y z x' y' z' : Int} (hx : (Lit.int .i64 x).wf = true) (hy : (Lit.int .i64 y).wf = true) (hz : (Lit.int .i64 z).wf = true) (hx' : (Lit.int .i64 x').wf = true) (hy' : (Lit.int .i64 y').wf = true) (hz' : (Lit.int .i64 z').wf = true)
    (h : kp x y z = kp x' y' z') : x = x' ∧ y = y' ∧ z = z' := by
  have h1 := kp_of x y z hx hy hz
  have h2 := kp_of x' y' z' hx' hy' hz'
  rw [h] at h1
  have e := keyP.inj h1 h2
  simpa using e
/-- the key of place number t. -/
def kt (s t : Nat) : Lit := kp ((t / (s * s) : Nat) : Int) ((t / s % s : Nat) : Int) ((t % s : Nat) : Int)
theorem pl_le {s t : Nat} (ht : t ≤ 1000) : t / (s * s) ≤ 1000 ∧ t / s % s ≤ 1000 ∧ t % s ≤ 1000 :=
  ⟨Nat.le_trans (Nat.div_le_self _ _) ht, Nat.le_trans (Nat.le_trans (Nat.mod_le _ _) (Nat.div_le_self _ _)) ht, Nat.le_trans (Nat.mod_le _ _) ht⟩
theorem gplace_inj {s t u : Nat} (hs : s = 2 ∨ s = 3 ∨ s = 4) (h1 : t / (s * s) = u / (s * s)) (h2 : t / s % s = u / s % s) (h3 : t % s = u % s) (ht : t < s * s * s) (hu : u < s * s * s) : t = u := by
  rcases hs with rfl | rfl | rfl <;> simp only [Nat.reduceMul] at * <;> omega
theorem kt_inj {s t u : Nat} (hs : s = 2 ∨ s = 3 ∨ s = 4) (ht : t < s * s * s) (hu : u < s * s * s) (h : kt s t = kt s u) : t = u := by
  have h64 : s * s * s ≤ 64 := by rcases hs with rfl | rfl | rfl <;> simp
  obtain ⟨a, b, c⟩ := pl_le (s := s) (t := t) (by omega)
  obtain ⟨a', b', c'⟩ := pl_le (s := s) (t := u) (by omega)
  obtain ⟨e1, e2, e3⟩ := kp_inj (wfN a) (wfN b) (wfN c) (wfN a') (wfN b') (wfN c') h
  exact gplace_inj hs (Int.ofNat.inj e1) (Int.ofNat.inj e2) (Int.ofNat.inj e3) ht hu
def rowDat (rs : Rws) (t : Nat) : DataW Unit := .agg [.lit (.int .i64 ((rw_ rs t).getD 0 0)), .lit (.int .i64 ((rw_ rs t).getD 1 0)), .lit (.int .i64 ((rw_ rs t).getD 2 0))]
/-- the map of the first k nodes. -/
structure MapN (w : World) (B s : Nat) (rs : Rws) (k : Nat) (D : DataW Unit) : Prop where
  own : w.ownsMap Try.prog 141 lightElem B k D
  at_ : ∀ t, t < k → ∀ z, D.atKey (kt s t) z = rowDat rs t
  has : ∀ x y z : Int, (Lit.int .i64 x).wf = true → (Lit.int .i64 y).wf = true → (Lit.int .i64 z).wf = true → (Maps.has D (kp x y z) = true ↔ ∃ t, t < k ∧ ((t / (s * s) : Nat) : Int) = x ∧ ((t / s % s : Nat) : Int) = y ∧ ((t % s : Nat) : Int) = z)
theorem MapN.new (w : World) (s : Nat) (rs : Rws) : MapN (w.alloc (.map #[] 0)) w.heap.size s rs 0 (.map []) :=
  ⟨World.ownsMap_made _ _ _ _, fun t ht => absurd ht (by omega), fun x y z _ _ _ => ⟨fun h => (by cases h), fun ⟨t, ht, _⟩ => absurd ht (by omega)⟩⟩
theorem MapN.kept {w w' : World} {B s k : Nat} {rs : Rws} {D : DataW Unit} (h : MapN w B s rs k D) (hb : Below w.heap.size w w') : MapN w' B s rs k D :=
  ⟨h.own.kept (row := none) ⟨hb.os, hb.tape, hb.output, hb.size, fun k hk _ => hb.block k hk⟩ (by simp), h.at_, h.has⟩
theorem MapN.put {w w' : World} {B s k : Nat} {rs : Rws} {D : DataW Unit} (h : MapN w B s rs k D) (hs : s = 2 ∨ s = 3 ∨ s = 4) (hk : k < s * s * s)
    (ho : w'.ownsMap Try.prog 141 lightElem B (k + 1) (D.put (kt s k) (rowDat rs k))) : MapN w' B s rs (k + 1) (D.put (kt s k) (rowDat rs k)) := by
  have hM : IsMap D := h.own.isMap
  have h64 : s * s * s ≤ 64 := by rcases hs with rfl | rfl | rfl <;> simp
  obtain ⟨a, b, c⟩ := pl_le (s := s) (t := k) (by omega)
  have hK : WideAt.IsKeyLit (kt s k) := keyP.key (kp_of _ _ _ (wfN a) (wfN b) (wfN c))
  refine ⟨ho, fun t ht z => ?_, fun x y z hx hy hz => ?_⟩
  · by_cases e : t = k
    · subst e; rw [atKey_put_same hM hK]
    · rw [atKey_put_other (fun e' => e (kt_inj hs (by omega) hk e')), h.at_ t (by omega) z]
  · by_cases e : kp x y z = kt s k
    · rw [e, has_put_same hM hK]
      obtain ⟨e1, e2, e3⟩ := kp_inj hx hy hz (wfN a) (wfN b) (wfN c) e
      exact ⟨fun _ => ⟨k, by omega, e1.symm, e2.symm, e3.symm⟩, fun _ => rfl⟩
    · rw [has_put_other (fun e' => e e'), h.has x y z hx hy hz]
      constructor
      · rintro ⟨t, ht, r⟩; exact ⟨t, by omega, r⟩
      · rintro ⟨t, ht, r1, r2, r3⟩
        refine ⟨t, ?_, r1, r2, r3⟩
        by_cases e2 : t = k
        · subst e2; exact absurd (by rw [← r1, ← r2, ← r3]; rfl) e
        · omega
def NdM (w : World) (s : Nat) (rs : Rws) (e : Ending) (w' : World) : Prop := ∃ B D, e = .returned (.tuple #[.map (some B), .int .i64 0]) ∧ MapN w' B s rs (s * s * s) D ∧ Below w.heap.size w w'
def Lt3 (W : World) (a0 a1 a2 : Int) (e : Ending) (w' : World) : Prop := e = .returned (.tuple #[.agg #[.int .i64 a0, .int .i64 a1, .int .i64 a2], .int .i64 0]) ∧ Below W.heap.size W w'
theorem lt_three {W : World} {A : Option Addr} {n c : Nat} {xs : List Int} {a0 a1 a2 : Int} (hf : lf xs = 0) (h0 : a0 = xs.getD 0 0) (h1 : a1 = xs.getD 1 0) (h2 : a2 = xs.getD 2 0) (h : Rd .i64 W A n xs) (hcap : n ≤ c) (hm : c ≤ maxLen) : Calls Try.prog 83 #[.slice A n c, .int .i64 1] W (Lt3 W a0 a1 a2) :=
  (lightsOf_any A n c xs W h hcap hm).mono fun e w' hh => by
    obtain ⟨q, he, hq, hb⟩ := hh
    refine ⟨?_, hb⟩
    rw [he, hf, hq hf 0 (by omega), hq hf 1 (by omega), hq hf 2 (by omega), h0, h1, h2]
set_option maxRecDepth 100000 in
set_option maxHeartbeats 4000000 in
theorem nodesOf_ok (A : Option Addr) (n c s : Nat) (rs : Rws) (bs : List Nat) (w : World) (h : Hd w (rowsD rs) (.slice A n c) bs) (h0 : gf (s : Int) rs = 0) :
    Calls Try.prog 88 #[.agg #[.int .i64 (s : Int), .slice A n c]] w (NdM w s rs) := by
  obtain ⟨hs, hlen, hrow⟩ := gf_zero h0
  have CS : Hid (∀ W, Calls Try.prog 82 #[.int .i64 (s : Int)] W fun e w' => e = .returned (.bool true) ∧ W = w') := fun W => by rw [← hs]; exact isSide_any _ W
  have h3 : s = 2 ∨ s = 3 ∨ s = 4 := by rcases side_cases hs with e | e | e <;> omega
  have hl := h.rows.1
  have hNI : ((s * s * s : Nat) : Int) = (s : Int) * s * s := by simp
  have hNN : n = s * s * s := by rw [hl, ← hNI] at hlen; omega
  have hN : n = 8 ∨ n = 27 ∨ n = 64 := by rw [hNN]; rcases h3 with rfl | rfl | rfl <;> simp
  have hmx := h.rows.2.2.1
  have hcx := h.rows.2.1
  unfold maxLen at hmx
  rw [hl] at hrow
  have HROW := Lib.hid hrow
  have H := Lib.hid h
  have H3 := Lib.hid h3
  have HNN := Lib.hid hNN
  have hmm := fun w => run_makeMapP_hint n w (by omega)
  have HMM := Lib.hid hmm
  clear h hs h3 hl hNI hNN hmm hlen hrow h0
  go_enter Try.func88, Try.ntmps88
  go_wp2_with (go_at_call 82; refine (CS.out _).mono ?_; rintro e w' ⟨rfl, rfl⟩)
  refine (gridPlaces_any s _ H3.out).mono ?_
  rintro e w1 ⟨v, rfl, ho, hb⟩
  rw [← HNN.out] at ho
  obtain ⟨g, o, cp, rfl, hbg, hgl, hc1, hc2, hcells⟩ := ho.look (by omega)
  have xa : w1.cell? ⟨w.heap.size, 0, none⟩ = some (.int .i64 (s : Int)) := cell_later hb (by simp)
  have xb : w1.cell? ⟨w.heap.size, 1, none⟩ = some (.slice A n c) := cell_later hb (by simp)
  have T1 := Lib.hid (blThen (blAlloc w _) hb)
  have H1 := Lib.hid ((H.out.alloc _).bel hb)
  have HC := Lib.hid hcells
  unfold maxLen at hc2
  have hmm := HMM.out
  clear ho hb hcells hbg HMM CS
  go_wp2_with fail
  clear hmm
  go_loopw [28] (fun i wr => ∃ (k : Nat) (D : DataW Unit), k ≤ n ∧ i = .int .i64 k ∧ Hid (MapN wr w1.heap.size s rs k D) ∧ Hid (Below w1.heap.size w1 wr) ∧ w1.heap.size < wr.heap.size) (fun i _ => n - (intOf i).toNat)
  case atStart => exact ⟨0, .map [], by omega, rfl, MapN.new _ _ _, blAlloc _ _, by simp⟩
  case round =>
    obtain ⟨k, D, hk, rfl, HM, HB, hsz⟩ := hrel
    have xa' := cell_later HB.out xa
    have xb' := cell_later HB.out xb
    have lz := cell_lt xa'
    by_cases hlt : k < n
    · obtain ⟨c0, c1, c2⟩ := HC.out k hlt
      have y0 := cell_later HB.out c0
      have y1 := cell_later HB.out c1
      have y2 := cell_later HB.out c2
      clear c0 c1 c2
      obtain ⟨b, o', B1, L1, C1, g1, rfl, x1, x3, -⟩ := (H1.out.bel HB.out).row hlt
      have lb := cell_lt x1
      have lg := cell_lt y0
      have HR := Lib.hid x3.rd
      have hcap := Lib.hid x3.caps.1
      have hm1 := Lib.hid x3.caps.2
      clear x3
      have HKEY0 : Hid (keyOf Try.prog 141 (.agg #[.int .i64 ((k / (s * s) : Nat) : Int), .int .i64 ((k / s % s : Nat) : Int), .int .i64 ((k % s : Nat) : Int)]) = some (kt s k)) := by
        obtain ⟨e0, e1, e2⟩ := pl_le (s := s) (t := k) (by omega)
        exact kp_nat _ _ _ e0 e1 e2
      obtain ⟨p0, hp0⟩ : ∃ p : Int, p = ((k / (s * s) : Nat) : Int) := ⟨_, rfl⟩
      obtain ⟨p1, hp1⟩ : ∃ p : Int, p = ((k / s % s : Nat) : Int) := ⟨_, rfl⟩
      obtain ⟨p2, hp2⟩ : ∃ p : Int, p = ((k % s : Nat) : Int) := ⟨_, rfl⟩
      rw [← hp0] at y0
      rw [← hp1] at y1
      rw [← hp2] at y2
      have HKEY : Hid (keyOf Try.prog 141 (.agg #[.int .i64 p0, .int .i64 p1, .int .i64 p2]) = some (kt s k)) := by rw [hp0, hp1, hp2]; exact HKEY0.out
      clear hp0 hp1 hp2 HKEY0
      obtain ⟨a0, ha0⟩ : ∃ a, a = (rw_ rs k).getD 0 0 := ⟨_, rfl⟩
      obtain ⟨a1, ha1⟩ : ∃ a, a = (rw_ rs k).getD 1 0 := ⟨_, rfl⟩
      obtain ⟨a2, ha2⟩ : ∃ a, a = (rw_ rs k).getD 2 0 := ⟨_, rfl⟩
      have HDAT : Hid (rowDat rs k = .agg [.lit (.int .i64 a0), .lit (.int .i64 a1), .lit (.int .i64 a2)]) := by show _ = _; rw [ha0, ha1, ha2]; rfl
      have CL := Lib.hid (fun W (hW : Below wr.heap.size wr W) => lt_three (HROW.out k hlt) ha0 ha1 ha2 (HR.out.below hW) hcap.out hm1.out)
      clear ha0 ha1 ha2
      go_wp2_with fail
      refine (CL.out _ (blAlloc _ _)).mono ?_
      rintro e w2 ⟨rfl, hb2⟩
      have z0 : w2.cell? ⟨wr.heap.size, 0, none⟩ = some (.int .i64 p0) := cell_later hb2 (by simp)
      have z1 : w2.cell? ⟨wr.heap.size, 1, none⟩ = some (.int .i64 p1) := cell_later hb2 (by simp)
      have z2 : w2.cell? ⟨wr.heap.size, 2, none⟩ = some (.int .i64 p2) := cell_later hb2 (by simp)
      have T2 := Lib.hid (blThen (blThenAlloc HB.out _) hb2)
      have HM2 := Lib.hid (HM.out.kept (blThen (blAlloc wr _) hb2))
      have hw2 : wr.heap.size < w2.heap.size := by have := hb2.size; simp at this; omega
      clear hb2 xa' xb' y0 y1 y2 x1 HM HB CL
      go_wp2_with (at_mapUpdate; refine wpList_mapUpdate_own _ rfl _ _ _ 147 rfl 141 137 keyP Try.underlying147 _ w1.heap.size k D rfl (by first | exact HM2.out.own | exact HM2.out.own.alloc _ | exact (HM2.out.own.alloc _).alloc _) (by unfold maxLen; omega) _ _ _ rfl rfl HKEY.out _ [] (lightElem_mk _ _ _) ?_; intro w3 hown3 hg3)
      have HM3 := Lib.hid (HM2.out.put H3.out (by rw [← HNN.out]; exact hlt) (by rw [HDAT.out]; exact hown3))
      have T3 : Hid (Below w1.heap.size w1 w3) := by
        show Below _ _ _
        first
          | exact T2.out.grown hg3 (by have := T2.out.size; simp; omega) (fun j hj => by cases hj; omega)
          | exact (blThenAlloc T2.out _).grown hg3 (by have := T2.out.size; simp; omega) (fun j hj => by cases hj; omega)
      have hw3 : w2.heap.size ≤ w3.heap.size := by have := hg3.size; simp at this; omega
      clear hown3 hg3
      go_wp2_with fail
      go_roundw
      case rel => exact ⟨k + 1, _, by omega, by go_num, HM3.out, T3.out, by omega⟩
      case measure => simp [intOf]; omega
    · obtain rfl : k = n := by omega
      go_wp2_with fail
      go_ret2
      exact ⟨_, D, rfl, by rw [← HNN.out]; exact HM.out, blThen T1.out HB.out⟩
end Go.Proofs.Ytmmlcdbbjkligaa
