/-
  A node of a grid: the program's NodeOf.
-/
import Derived.Test.YtkkfknpeohjjdaaGrdM
import Derived.Test.YtkkfknpeohjjdaaOpenC
namespace Go.Proofs.Ytkkfknpeohjjdaa
open Go.RowKit Go.Maps
set_option linter.unusedVariables false

def inS (sd : Int) (ps : List Int) : Bool := inB (ps.getD 0 0) 0 (sd - 1) && (inB (ps.getD 1 0) 0 (sd - 1) && inB (ps.getD 2 0) 0 (sd - 1))
def ndI (sd : Int) (ps : List Int) : Nat := ((ps.getD 0 0 * sd + ps.getD 1 0) * sd + ps.getD 2 0).toNat
def ncd (sd : Int) (rs : Rws) (ps : List Int) : Int := if gf sd rs = 0 then (if ps.length = 3 then (if inS sd ps = true then 0 else 3) else 2) else gf sd rs
def nls (sd : Int) (rs : Rws) (ps : List Int) : List Int := if gf sd rs = 0 ∧ ps.length = 3 ∧ inS sd ps = true then rw_ rs (ndI sd ps) else []
theorem ncd_f {sd : Int} {rs : Rws} {ps : List Int} (h : gf sd rs ≠ 0) : ncd sd rs ps = gf sd rs ∧ nls sd rs ps = [] := ⟨by unfold ncd; rw [if_neg h], by unfold nls; rw [if_neg (fun q => h q.1)]⟩
theorem ncd_l {sd : Int} {rs : Rws} {ps : List Int} (h : gf sd rs = 0) (h2 : ps.length ≠ 3) : ncd sd rs ps = 2 ∧ nls sd rs ps = [] := ⟨by unfold ncd; rw [if_pos h, if_neg h2], by unfold nls; rw [if_neg (fun q => h2 q.2.1)]⟩
theorem ncd_n {sd : Int} {rs : Rws} {ps : List Int} (h : gf sd rs = 0) (h2 : ps.length = 3) (h3 : inS sd ps = false) : ncd sd rs ps = 3 ∧ nls sd rs ps = [] := ⟨by unfold ncd; rw [if_pos h, if_pos h2, if_neg (by rw [h3]; simp)], by unfold nls; rw [if_neg (fun q => by have := q.2.2; rw [h3] at this; cases this)]⟩
theorem ncd_y {sd : Int} {rs : Rws} {ps : List Int} (h : gf sd rs = 0) (h2 : ps.length = 3) (h3 : inS sd ps = true) : ncd sd rs ps = 0 ∧ nls sd rs ps = rw_ rs (ndI sd ps) := ⟨by unfold ncd; rw [if_pos h, if_pos h2, if_pos h3], by unfold nls; rw [if_pos ⟨h, h2, h3⟩]⟩
theorem inS_iff {sd : Int} {ps : List Int} : inS sd ps = true ↔ (0 ≤ ps.getD 0 0 ∧ ps.getD 0 0 ≤ sd - 1) ∧ (0 ≤ ps.getD 1 0 ∧ ps.getD 1 0 ≤ sd - 1) ∧ (0 ≤ ps.getD 2 0 ∧ ps.getD 2 0 ≤ sd - 1) := by
  unfold inS; rw [Bool.and_eq_true, Bool.and_eq_true, inB_iff, inB_iff, inB_iff]
theorem pl_lt {s t : Nat} (hs : s = 2 ∨ s = 3 ∨ s = 4) (ht : t < s * s * s) : t / (s * s) < s ∧ t / s % s < s ∧ t % s < s := by
  rcases hs with rfl | rfl | rfl <;> simp only [Nat.reduceMul] at * <;> omega
/-- a place that is there. -/
theorem nd_yes {s : Nat} {ps : List Int} (hs : s = 2 ∨ s = 3 ∨ s = 4) (h : inS (s : Int) ps = true) : ndI (s : Int) ps < s * s * s ∧ ((ndI s ps : Nat) : Int) = (ps.getD 0 0 * s + ps.getD 1 0) * s + ps.getD 2 0 ∧ ((ndI s ps / (s * s) : Nat) : Int) = ps.getD 0 0 ∧ ((ndI s ps / s % s : Nat) : Int) = ps.getD 1 0 ∧ ((ndI s ps % s : Nat) : Int) = ps.getD 2 0 := by
  obtain ⟨⟨a, a'⟩, ⟨b, b'⟩, c, c'⟩ := inS_iff.1 h
  unfold ndI
  generalize ps.getD 0 0 = x at *
  generalize ps.getD 1 0 = y at *
  generalize ps.getD 2 0 = z at *
  rcases hs with rfl | rfl | rfl <;> simp only [Nat.reduceMul] at * <;> refine ⟨?_, ?_, ?_, ?_, ?_⟩ <;> omega
theorem nd_of {s t : Nat} {ps : List Int} (hs : s = 2 ∨ s = 3 ∨ s = 4) (ht : t < s * s * s) (h0 : ((t / (s * s) : Nat) : Int) = ps.getD 0 0) (h1 : ((t / s % s : Nat) : Int) = ps.getD 1 0) (h2 : ((t % s : Nat) : Int) = ps.getD 2 0) : inS (s : Int) ps = true := by
  obtain ⟨a, b, c⟩ := pl_lt hs ht
  rw [inS_iff, ← h0, ← h1, ← h2]
  generalize t / (s * s) = x at *
  generalize t / s % s = y at *
  generalize t % s = z at *
  omega

def IAns (w : World) (code : Int) (xs : List Int) (e : Ending) (w' : World) : Prop :=
  ∃ G n c, e = .returned (.agg #[.int .i64 code, .slice G n c]) ∧ Own w' (.ints .i64 xs) (.slice G n c) w.heap.size w'.heap.size ∧ Below w.heap.size w w'
theorem IAns.bad {w w' : World} {code c : Int} {xs : List Int} (h : code = c ∧ xs = []) (hb : Below w.heap.size w w') : IAns w code xs (.returned (.agg #[.int .i64 c, .slice none 0 0])) w' :=
  ⟨none, 0, 0, by rw [h.1], by rw [h.2]; exact Own.nil _ _ _ _ _ _ (Nat.zero_le _), hb⟩
theorem own3 {w : World} {b lo : Nat} {a0 a1 a2 : Int} (h0 : w.cell? ⟨b, 0, none⟩ = some (.int .i64 a0)) (h1 : w.cell? ⟨b, 1, none⟩ = some (.int .i64 a1)) (h2 : w.cell? ⟨b, 2, none⟩ = some (.int .i64 a2)) (hlo : lo ≤ b) (hhi : b < w.heap.size) (hf : Thaw w b) :
    Own w (.ints .i64 [a0, a1, a2]) (.slice (some ⟨b, 0, none⟩) 3 3) lo w.heap.size := by
  obtain ⟨bs, k1, k2, k3⟩ := Hd.of_rd (c := 3) (k := .i64) (xs := [a0, a1, a2]) (w := w) (A := some ⟨b, 0, none⟩) (n := 3) ⟨rfl, fun _ => ⟨b, 0, rfl, fun i hi => by
    match i, hi with
    | 0, _ => simpa using h0
    | 1, _ => simpa using h1
    | 2, _ => simpa using h2⟩⟩ (by omega) (by unfold maxLen; omega)
  refine ⟨bs, k1, k2, fun x hx => ?_⟩
  obtain ⟨_, o, e⟩ := k3 x hx
  injection e with e
  injection e with e1 e2
  subst e1
  exact ⟨hlo, hhi, hf⟩
theorem list3 {xs : List Int} (h : xs.length = 3) : xs = [xs.getD 0 0, xs.getD 1 0, xs.getD 2 0] := by
  match xs, h with
  | [a, b, c], _ => rfl
theorem lightElem_form {v : Value} {z : DataW Unit × List MemPlace} (h : lightElem v = some z) : ∃ a b c, v = .agg #[.int .i64 a, .int .i64 b, .int .i64 c] ∧ z.1 = .agg [.lit (.int .i64 a), .lit (.int .i64 b), .lit (.int .i64 c)] := by
  unfold lightElem at h
  split at h
  · rename_i xs
    split at h
    · rename_i a b c hx
      refine ⟨a, b, c, ?_, ?_⟩
      · congr 1
        apply Array.ext'
        exact hx
      · injection h with h; rw [← h]
    · cases h
  · cases h
theorem zeroLights (w : World) : (zeroValue 89).run Try.prog w = .ok (.agg #[.int .i64 0, .int .i64 0, .int .i64 0]) w := by kernel_rfl
theorem wpList_lookup_light (w : World) {ops : Array Oper} {rest : List Oper} {o : Oper} {a : Act} {Q : Exit → Act → World → Prop} (hg : o.guard = none) (m x : Operand) (hop : o.op = Op.lookup 101 m x true) (b n : Nat) (D : DataW Unit)
    (hm : a.eval m = .map (some b)) (hown : w.ownsMap Try.prog 107 lightElem b n D) (key : Value) (kl : Lit) (hx : a.eval x = key) (hkey : keyOf Try.prog 107 key = some kl)
    (hK : ∀ a0 a1 a2 : Int, D.atKey kl (.agg [.lit (.int .i64 0), .lit (.int .i64 0), .lit (.int .i64 0)]) = .agg [.lit (.int .i64 a0), .lit (.int .i64 a1), .lit (.int .i64 a2)] → wpList Try.prog ops Q rest (a.put o.dst (.tuple #[.agg #[.int .i64 a0, .int .i64 a1, .int .i64 a2], .bool (Maps.has D kl)])) w) : wpList Try.prog ops Q (o :: rest) a w :=
  wpList_lookup_own_ok w hg m x _ hop _ 89 keyP Try.underlying101 lightElem (zeroLights w) _ [] (lightElem_mk 0 0 0) b n D hm hown key kl hx hkey (fun v ps hv => by
    obtain ⟨a0, a1, a2, rfl, he⟩ := lightElem_form hv
    exact hK a0 a1 a2 he)
theorem run_arrayAt3 (b o d : Nat) (w : World) : (Instr.arrayAt 89 (.slice (some ⟨b, o, none⟩) 3 d)).run Try.prog w = .ok (.pointer (some ⟨b, o, none⟩)) w := by
  first
    | kernel_rfl
    | simp [Instr.arrayAt, run_underlying Try.underlying89]
theorem al_cell (W : World) (x0 x1 : Value) (r : Nat) (o : Obj) (hr : r < W.heap.size) (i : Nat) : (((W.setCell ⟨r, 0, none⟩ x0).setCell ⟨r, 1, none⟩ x1).alloc o).cell? ⟨r, i, none⟩ = ((W.setCell ⟨r, 0, none⟩ x0).setCell ⟨r, 1, none⟩ x1).cell? ⟨r, i, none⟩ :=
  (bcell (blAlloc _ _)).1 r i (by simp [World.setCell]; exact hr)
theorem al_size (W : World) (x0 x1 : Value) (r : Nat) : ((W.setCell ⟨r, 0, none⟩ x0).setCell ⟨r, 1, none⟩ x1).heap.size = W.heap.size := by simp [World.setCell]
theorem al_own (W : World) (x0 x1 : Value) (r lo : Nat) (a0 a1 a2 : Int) (ty : TypeId) (hlo : lo ≤ W.heap.size) : Own (((W.setCell ⟨r, 0, none⟩ x0).setCell ⟨r, 1, none⟩ x1).alloc (.cells #[.int .i64 a0, .int .i64 a1, .int .i64 a2] ty)) (.ints .i64 [a0, a1, a2]) (.slice (some ⟨W.heap.size, 0, none⟩) 3 3) lo (((W.setCell ⟨r, 0, none⟩ x0).setCell ⟨r, 1, none⟩ x1).alloc (.cells #[.int .i64 a0, .int .i64 a1, .int .i64 a2] ty)).heap.size := by
  have e := al_size W x0 x1 r
  generalize (W.setCell ⟨r, 0, none⟩ x0).setCell ⟨r, 1, none⟩ x1 = X at *
  rw [← e]
  exact own3 (by simp) (by simp) (by simp) (by omega) (by simp) (thaw_new _ _ _)
def NdF (W : World) (f : Int) (e : Ending) (w' : World) : Prop := ∃ m, e = .returned (.tuple #[.map m, .int .i64 f]) ∧ Below W.heap.size W w'
set_option maxRecDepth 100000 in
set_option maxHeartbeats 2000000 in
theorem NodeOf_f (A P : Option Addr) (n c m d : Nat) (sd : Int) (rs : Rws) (ps : List Int) (bs : List Nat) (w : World) (h : Hd w (rowsD rs) (.slice A n c) bs) (h0 : gf sd rs ≠ 0) :
    Calls Try.prog 43 #[.agg #[.int .i64 sd, .slice A n c], .slice P m d] w (IAns w (ncd sd rs ps) (nls sd rs ps)) := by
  have HA := Lib.hid (ncd_f (ps := ps) h0)
  obtain ⟨f, hfe⟩ : ∃ f, gf sd rs = f := ⟨_, rfl⟩
  have CN : Hid (∀ W, Hd W (rowsD rs) (.slice A n c) bs → Calls Try.prog 77 #[.agg #[.int .i64 sd, .slice A n c]] W (NdF W f)) := fun W hW => (nodesOf_any A n c sd rs bs W hW).mono fun e w' hh => by
    obtain ⟨m, he, hb⟩ := hh; exact ⟨m, by rw [he, hfe], hb⟩
  rw [hfe] at h0 HA
  have hqn : (f == 0) = false := by simpa using h0
  have H := Lib.hid h
  clear h hfe
  go_enter Try.func43, Try.ntmps43
  go_wp2_with fail
  refine (CN.out _ ((H.out.alloc _).alloc _)).mono ?_
  rintro e w1 ⟨q, rfl, hb⟩
  obtain ⟨hc, hf⟩ := bcell hb
  have hz : w.heap.size + 1 < w1.heap.size := by have := hb.size; simp at this; omega
  have T := Lib.hid (blThen (blThenAlloc (blAlloc w _) _) hb)
  clear hb CN H
  go_wp2_with fail
  refine bodyPost_ret (v := .agg #[.int .i64 f, .slice none 0 0]) (by simp [results, Try.results43, go_sem, hc]) rfl (IAns.bad HA.out ?_)
  repeat (first | exact T.out | refine Below.setCell ?_ (by simp; try omega) _)
set_option maxRecDepth 100000 in
set_option maxHeartbeats 4000000 in
theorem NodeOf_z (A P : Option Addr) (n c m d s : Nat) (rs : Rws) (ps : List Int) (bs gs : List Nat) (w : World) (h : Hd w (rowsD rs) (.slice A n c) bs) (hp : Hd w (.ints .i64 ps) (.slice P m d) gs) (hu : I64s ps) (h0 : gf (s : Int) rs = 0) :
    Calls Try.prog 43 #[.agg #[.int .i64 (s : Int), .slice A n c], .slice P m d] w (IAns w (ncd (s : Int) rs ps) (nls (s : Int) rs ps)) := by
  obtain ⟨hs, hlen, hrow⟩ := gf_zero h0
  have h3 : s = 2 ∨ s = 3 ∨ s = 4 := by rcases side_cases hs with e | e | e <;> omega
  have hNI : ((s * s * s : Nat) : Int) = (s : Int) * s * s := by simp
  have hNN : rs.length = s * s * s := by rw [← hNI] at hlen; omega
  have CN := Lib.hid (fun W (hW : Hd W (rowsD rs) (.slice A n c) bs) => nodesOf_ok A n c s rs bs W hW h0)
  have HROW := Lib.hid hrow
  have H := Lib.hid h
  have HP := Lib.hid hp.rd
  have hpl := hp.rd.1
  have hpm := hp.caps.2
  have hpc := hp.caps.1
  unfold maxLen at hpm
  have HU := Lib.hid hu
  have H3 := Lib.hid h3
  have HNN := Lib.hid hNN
  by_cases hm : m = 3
  · subst hm
    obtain ⟨b, o, rfl, hx⟩ := HP.out.2 (by omega)
    have x0 := hx 0 (by omega)
    have x1 := hx 1 (by omega)
    have x2 := hx 2 (by omega)
    rw [Nat.add_zero] at x0
    have W0 : (Lit.int .i64 (ps.getD 0 0)).wf = true := WalkArith.wf_i64 (hu 0)
    have W1 : (Lit.int .i64 (ps.getD 1 0)).wf = true := WalkArith.wf_i64 (hu 1)
    have W2 : (Lit.int .i64 (ps.getD 2 0)).wf = true := WalkArith.wf_i64 (hu 2)
    have HY := Lib.hid (fun q => ncd_y h0 hpl q)
    have HN := Lib.hid (fun q => ncd_n h0 hpl q)
    have HHAS : Hid (∀ W B D, MapN W B s rs (s * s * s) D → Maps.has D (kp (ps.getD 0 0) (ps.getD 1 0) (ps.getD 2 0)) = inS (s : Int) ps) := fun W B D hM => by
      rcases Bool.eq_false_or_eq_true (inS (s : Int) ps) with q | q
      · obtain ⟨t1, _, t2, t3, t4⟩ := nd_yes h3 q
        rw [q]; exact (hM.has _ _ _ W0 W1 W2).2 ⟨_, t1, t2, t3, t4⟩
      · rw [q]
        rcases Bool.eq_false_or_eq_true (Maps.has D (kp (ps.getD 0 0) (ps.getD 1 0) (ps.getD 2 0))) with r | r
        · obtain ⟨t, t1, t2, t3, t4⟩ := (hM.has _ _ _ W0 W1 W2).1 r
          rw [nd_of h3 t1 t2 t3 t4] at q; cases q
        · exact r
    have HAT : Hid (∀ W B D, MapN W B s rs (s * s * s) D → inS (s : Int) ps = true → ∀ z a0 a1 a2, D.atKey (kp (ps.getD 0 0) (ps.getD 1 0) (ps.getD 2 0)) z = .agg [.lit (.int .i64 a0), .lit (.int .i64 a1), .lit (.int .i64 a2)] → rw_ rs (ndI (s : Int) ps) = [a0, a1, a2]) := fun W B D hM q z a0 a1 a2 ha => by
      obtain ⟨t1, _, t2, t3, t4⟩ := nd_yes h3 q
      have hk : kp (ps.getD 0 0) (ps.getD 1 0) (ps.getD 2 0) = kt s (ndI s ps) := by unfold kt; rw [t2, t3, t4]
      rw [hk, hM.at_ _ t1] at ha
      have hl3 := (lf_zero (hrow (ndI s ps) (by rw [hNN]; exact t1))).1
      unfold rowDat at ha
      simp only [DataW.agg.injEq, List.cons.injEq, DataW.lit.injEq, Lit.int.injEq, true_and, and_true] at ha
      rw [list3 hl3, ha.1, ha.2.1, ha.2.2]
    have HKEY0 := Lib.hid (kp_of _ _ _ W0 W1 W2)
    obtain ⟨p0, hp0⟩ : ∃ p, p = ps.getD 0 0 := ⟨_, rfl⟩
    obtain ⟨p1, hp1⟩ : ∃ p, p = ps.getD 1 0 := ⟨_, rfl⟩
    obtain ⟨p2, hp2⟩ : ∃ p, p = ps.getD 2 0 := ⟨_, rfl⟩
    rw [← hp0] at x0
    rw [← hp1] at x1
    rw [← hp2] at x2
    rw [← hp0, ← hp1, ← hp2] at HHAS HAT HKEY0
    have lb := cell_lt x0
    clear h hp hs hlen hrow h3 hNI hNN W0 W1 W2 hx h0 hp0 hp1 hp2 hpl hu
    go_enter Try.func43, Try.ntmps43
    go_wp2_with fail
    refine (CN.out _ ((H.out.alloc _).alloc _)).mono ?_
    rintro e w1 ⟨B, D, rfl, hM, hb⟩
    obtain ⟨hc, hf⟩ := bcell hb
    have y0 : w1.cell? ⟨b, o, none⟩ = some (.int .i64 p0) := cell_later hb (cell_later (blAlloc _ _) (cell_later (blAlloc _ _) x0))
    have y1 : w1.cell? ⟨b, o + 1, none⟩ = some (.int .i64 p1) := cell_later hb (cell_later (blAlloc _ _) (cell_later (blAlloc _ _) x1))
    have y2 : w1.cell? ⟨b, o + 2, none⟩ = some (.int .i64 p2) := cell_later hb (cell_later (blAlloc _ _) (cell_later (blAlloc _ _) x2))
    have hz : w.heap.size + 1 < w1.heap.size := by have := hb.size; simp at this; omega
    have T := Lib.hid (blThen (blThenAlloc (blAlloc w _) _) hb)
    have HM := Lib.hid hM
    have hra := fun w => run_arrayAt3 b o d w
    clear hb CN H x0 x1 x2 hM
    rcases Bool.eq_false_or_eq_true (inS (s : Int) ps) with q | q
    · have hh := HHAS.out _ _ _ HM.out
      rw [q] at hh
      have HQ := Lib.hid q
      have HA := Lib.hid (HY.out q)
      clear q
      go_wp2_with (at_lookup; refine wpList_lookup_light _ rfl _ _ rfl B (s * s * s) D rfl HM.out.own _ _ rfl HKEY0.out ?_; intro a0 a1 a2 hat; rw [hh])
      have HL := Lib.hid (HAT.out _ _ _ HM.out HQ.out _ _ _ _ hat)
      clear hat hh
      go_wp2_with fail
      have hal := fun x0 x1 o i => al_cell w1 x0 x1 (w.heap.size + 1) o hz i
      refine bodyPost_ret (v := .agg #[.int .i64 0, .slice (some ⟨w1.heap.size, 0, none⟩) 3 3]) (by simp [results, Try.results43, go_sem, hc, hal]) rfl ⟨_, _, _, by rw [HA.out.1], ?_, ?_⟩
      · rw [HA.out.2, HL.out]
        exact al_own _ _ _ _ _ _ _ _ _ (by omega)
      · repeat (first | exact T.out | refine Below.setCell ?_ (by simp; try omega) _ | refine blThenAlloc ?_ _)
    · have hh := HHAS.out _ _ _ HM.out
      rw [q] at hh
      have HA := Lib.hid (HN.out q)
      clear q
      go_wp2_with (at_lookup; refine wpList_lookup_light _ rfl _ _ rfl B (s * s * s) D rfl HM.out.own _ _ rfl HKEY0.out ?_; intro a0 a1 a2 hat; rw [hh])
      clear hat hh
      go_wp2_with fail
      have hal := fun x0 x1 o i => al_cell w1 x0 x1 (w.heap.size + 1) o hz i
      refine bodyPost_ret (v := .agg #[.int .i64 3, .slice none 0 0]) (by simp [results, Try.results43, go_sem, hc, hal]) rfl (IAns.bad HA.out ?_)
      repeat (first | exact T.out | refine Below.setCell ?_ (by simp; try omega) _ | refine blThenAlloc ?_ _)
  · have HA := Lib.hid (ncd_l (ps := ps) h0 (by omega))
    have hqm : ((m : Int) == 3) = false := by simp; omega
    clear h hp hs hlen hrow h3 hNI hNN h0 hu hpl
    go_enter Try.func43, Try.ntmps43
    go_wp2_with fail
    refine (CN.out _ ((H.out.alloc _).alloc _)).mono ?_
    rintro e w1 ⟨B, D, rfl, hM, hb⟩
    obtain ⟨hc, hf⟩ := bcell hb
    have hz : w.heap.size + 1 < w1.heap.size := by have := hb.size; simp at this; omega
    have T := Lib.hid (blThen (blThenAlloc (blAlloc w _) _) hb)
    clear hb CN H hM
    go_wp2_with fail
    refine bodyPost_ret (v := .agg #[.int .i64 2, .slice none 0 0]) (by simp [results, Try.results43, go_sem, hc]) rfl (IAns.bad HA.out ?_)
    repeat (first | exact T.out | refine Below.setCell ?_ (by simp; try omega) _)
theorem NodeOf_any (A P : Option Addr) (n c m d : Nat) (sd : Int) (rs : Rws) (ps : List Int) (bs gs : List Nat) (w : World) (h : Hd w (rowsD rs) (.slice A n c) bs) (hp : Hd w (.ints .i64 ps) (.slice P m d) gs) (hu : I64s ps) :
    Calls Try.prog 43 #[.agg #[.int .i64 sd, .slice A n c], .slice P m d] w (IAns w (ncd sd rs ps) (nls sd rs ps)) := by
  by_cases h0 : gf sd rs = 0
  · obtain ⟨s, rfl⟩ : ∃ s : Nat, sd = s := ⟨sd.toNat, by have := inB_iff.1 (gf_zero h0).1; omega⟩
    exact NodeOf_z A P n c m d s rs ps bs gs w h hp hu h0
  · exact NodeOf_f A P n c m d sd rs ps bs w h h0
end Go.Proofs.Ytkkfknpeohjjdaa
