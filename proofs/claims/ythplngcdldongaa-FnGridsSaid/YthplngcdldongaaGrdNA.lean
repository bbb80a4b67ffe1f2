/-
  Grids: the fault as a number; the reference model's fault (l5Side, l5Fault, GridFault).
  The nodes of a grid by their places: the program's nodesOf (its code), GridFault.
  The nodes of a grid without a fault, as a map that is known: nodesOf.
  A node of a grid: the program's NodeOf.
-/
import Derived.Test.YthplngcdldongaaMatB
import Derived.Test.YthplngcdldongaaHelpA
import Derived.Test.YthplngcdldongaaGrowA
import Derived.Maps.OwnSet
import Derived.Maps.OwnOps
import Derived.DeepKeys4
import Derived.Test.YthplngcdldongaaOpenA
namespace Go.Proofs.Ythplngcdldongaa
open Go.RowKit
set_option linter.unusedVariables false

/-- the first fault of the first i nodes. -/
def gfl (rs : Rws) : Nat → Int
  | 0 => 0
  | i + 1 => if gfl rs i = 0 then lf (rw_ rs i) else gfl rs i
def gf (sd : Int) (rs : Rws) : Int := if inB sd 2 4 = false then 3 else if (rs.length : Int) ≠ sd * sd * sd then 2 else gfl rs rs.length
theorem gfl_stay {rs : Rws} {i : Nat} (h : gfl rs i ≠ 0) : ∀ n, i ≤ n → gfl rs n = gfl rs i := by
  intro n hn
  induction n with
  | zero => obtain rfl : i = 0 := by omega
            rfl
  | succ n ih =>
    by_cases e : i = n + 1
    · subst e; rfl
    · have := ih (by omega)
      simp only [gfl]
      rw [this, if_neg h]
theorem gfl_first {rs : Rws} {i n : Nat} {c : Int} (h0 : gfl rs i = 0) (hf : lf (rw_ rs i) = c) (hc : c ≠ 0) (hi : i < n) : gfl rs n = c := by
  have h1 : gfl rs (i + 1) = c := by simp only [gfl]; rw [if_pos h0, hf]
  rw [gfl_stay (by rw [h1]; exact hc) n (by omega), h1]
theorem gfl_on {rs : Rws} {i : Nat} (h0 : gfl rs i = 0) (hf : lf (rw_ rs i) = 0) : gfl rs (i + 1) = 0 := by simp only [gfl]; rw [if_pos h0, hf]
theorem gf_side {sd : Int} {rs : Rws} (h : inB sd 2 4 = false) : gf sd rs = 3 := by unfold gf; rw [if_pos h]
theorem gf_many {sd : Int} {rs : Rws} {n : Nat} (hl : rs.length = n) (h : inB sd 2 4 = true) (h2 : (n : Int) ≠ sd * sd * sd) : gf sd rs = 2 := by
  unfold gf; rw [if_neg (by rw [h]; simp), if_pos (by rw [hl]; exact h2)]
theorem gf_rows {sd : Int} {rs : Rws} {n : Nat} (hl : rs.length = n) (h : inB sd 2 4 = true) (h2 : (n : Int) = sd * sd * sd) : gf sd rs = gfl rs n := by
  unfold gf; rw [if_neg (by rw [h]; simp), if_neg (by rw [hl]; exact fun e => e h2), hl]
theorem side_cases {sd : Int} (h : inB sd 2 4 = true) : sd = 2 ∨ sd = 3 ∨ sd = 4 := by
  obtain ⟨a, b⟩ := inB_iff.1 h; omega

theorem sSide5_any (sd : Int) (w : World) : Calls Try.prog 52 #[.int .i64 sd] w fun e w' => e = .returned (.bool (inB sd 2 4)) ∧ w = w' := by
  go_enter Try.func52, Try.ntmps52
  go_wp2_with (go_at_call 56; refine (sIn_any _ _ _ _).mono ?_; rintro e w' ⟨rfl, rfl⟩)
  go_ret
  exact ⟨rfl, rfl⟩
set_option maxRecDepth 100000 in
set_option maxHeartbeats 1000000 in
theorem sFault5_any (g : Nat) (A : Option Addr) (n c : Nat) (sd : Int) (rs : Rws) (bs : List Nat) (w : World) (h : Hd w (rowsD rs) (.slice A n c) bs) (hg0 : w.cell? ⟨g, 0, none⟩ = some (.int .i64 sd)) (hg1 : w.cell? ⟨g, 1, none⟩ = some (.slice A n c)) :
    Calls Try.prog 55 #[.pointer (some ⟨g, 0, none⟩)] w fun e w' => e = .returned (.int .i64 (gf sd rs)) ∧ ∃ m, w' = w.drewN m := by
  obtain ⟨hl, hc, hm, -⟩ := h.rows
  unfold maxLen at hm
  have H := Lib.hid h
  clear h
  rcases Bool.eq_false_or_eq_true (inB sd 2 4) with hs | hs
  · have CS : Hid (∀ W, Calls Try.prog 52 #[.int .i64 sd] W fun e w' => e = .returned (.bool true) ∧ W = w') := fun W => by rw [← hs]; exact sSide5_any sd W
    have hq : sd * sd * sd = 8 ∨ sd * sd * sd = 27 ∨ sd * sd * sd = 64 := by rcases side_cases hs with rfl | rfl | rfl <;> simp
    have hq1 : -9223372036854775808 ≤ sd * sd ∧ sd * sd ≤ 9223372036854775807 := by rcases side_cases hs with rfl | rfl | rfl <;> simp
    have hq2 : -9223372036854775808 ≤ sd * sd * sd ∧ sd * sd * sd ≤ 9223372036854775807 := by omega
    obtain ⟨hs1, hs2⟩ := inB_iff.1 hs
    by_cases hn : (n : Int) = sd * sd * sd
    · have HG := Lib.hid (gf_rows hl hs hn)
      have he : ((n : Int) == sd * sd * sd) = true := by rw [hn]; simp
      have he2 : ((n : Int) != sd * sd * sd) = false := by rw [bne, he]; rfl
      clear hl hs hn
      go_enter Try.func55, Try.ntmps55
      go_wp2_with (go_at_call 52; refine (CS.out _).mono ?_; rintro e w' ⟨rfl, rfl⟩)
      go_quiet (fail)
      go_wp2_with fail
      go_loopw [3, 4] (fun x y wr => ∃ i m : Nat, i ≤ n ∧ x = .int .i64 i ∧ Hid (gfl rs i = 0) ∧ wr = w.drewN m) (fun x _ _ => n - (intOf x).toNat)
      case atStart => exact ⟨0, _, by omega, rfl, rfl, rfl⟩
      case round =>
        obtain ⟨i, m, hi, rfl, hz, rfl⟩ := hrel
        by_cases hlt : i < n
        · obtain ⟨b, o', B1, L1, C1, g1, rfl, x1, x3, -⟩ := H.out.row hlt
          have HR := Lib.hid x3.rd
          have hcap := Lib.hid x3.caps.1
          have hm1 := Lib.hid x3.caps.2
          clear x3
          by_cases hf : lf (rw_ rs i) = 0
          · have HF := Lib.hid hf
            have CL : Hid (∀ m, Calls Try.prog 53 #[.slice B1 L1 C1] (w.drewN m) fun e w' => e = .returned (.int .i64 0) ∧ (w.drewN m) = w') := fun m => by rw [← hf]; exact sLevels4_any _ _ _ _ _ (HR.out.drewN m) hcap.out hm1.out
            clear hf
            go_wp2_with (go_at_call 53; refine (CL.out _).mono ?_; rintro e w' ⟨rfl, rfl⟩)
            go_roundw
            case rel => exact ⟨i + 1, m, by omega, by go_num, gfl_on hz.out HF.out, rfl⟩
            case measure => simp [intOf]; omega
          · obtain ⟨q, hq2⟩ : ∃ q, q = lf (rw_ rs i) := ⟨_, rfl⟩
            have HM := Lib.hid (gfl_first hz.out hq2.symm (by rw [hq2]; exact hf) hlt)
            have CL : Hid (∀ m, Calls Try.prog 53 #[.slice B1 L1 C1] (w.drewN m) fun e w' => e = .returned (.int .i64 q) ∧ (w.drewN m) = w') := fun m => by rw [hq2]; exact sLevels4_any _ _ _ _ _ (HR.out.drewN m) hcap.out hm1.out
            have hqn : (q == 0) = false := by rw [hq2]; simpa using hf
            have hqn' : q ≠ 0 := by rw [hq2]; exact hf
            clear hf hq2
            go_wp2_with (go_at_call 53; refine (CL.out _).mono ?_; rintro e w' ⟨rfl, rfl⟩)
            go_ret
            exact ⟨by rw [HG.out, HM.out]; rfl, m, rfl⟩
        · obtain rfl : i = n := by omega
          go_wp2_with fail
          go_ret
          exact ⟨by rw [HG.out, hz.out]; rfl, m, rfl⟩
    · have HG := Lib.hid (gf_many hl hs hn)
      have he : ((n : Int) == sd * sd * sd) = false := by simpa using hn
      have he2 : ((n : Int) != sd * sd * sd) = true := by rw [bne, he]; rfl
      clear hl hs
      go_enter Try.func55, Try.ntmps55
      go_wp2_with (go_at_call 52; refine (CS.out _).mono ?_; rintro e w' ⟨rfl, rfl⟩)
      go_quiet (fail)
      go_wp2_with fail
      go_ret
      exact ⟨by rw [HG.out]; rfl, _, rfl⟩
  · have HG := Lib.hid (gf_side (rs := rs) hs)
    have CS : Hid (∀ W, Calls Try.prog 52 #[.int .i64 sd] W fun e w' => e = .returned (.bool false) ∧ W = w') := fun W => by rw [← hs]; exact sSide5_any sd W
    clear hs
    go_enter Try.func55, Try.ntmps55
    go_wp2_with (go_at_call 52; refine (CS.out _).mono ?_; rintro e w' ⟨rfl, rfl⟩)
    go_ret
    exact ⟨by rw [HG.out]; rfl, 0, rfl⟩
set_option maxHeartbeats 400000 in
theorem sGridFault_any (A : Option Addr) (n c : Nat) (sd : Int) (rs : Rws) (bs : List Nat) (w : World) (h : Hd w (rowsD rs) (.slice A n c) bs) :
    Calls Try.prog 23 #[.agg #[.int .i64 sd, .slice A n c]] w fun e w' => e = .returned (.int .i64 (gf sd rs)) ∧ Below w.heap.size w w' := by
  have H := Lib.hid h
  clear h
  go_enter Try.func23, Try.ntmps23
  go_wp2_with (go_at_call 55; refine (sFault5_any _ _ _ _ sd rs _ _ (H.out.alloc _) (by simp) (by simp)).mono ?_; rintro e w' ⟨rfl, m, rfl⟩)
  go_ret
  exact ⟨rfl, blThenDrew (blAlloc _ _) _⟩
end Go.Proofs.Ythplngcdldongaa
namespace Go.Proofs.Ythplngcdldongaa
open Go.RowKit Go.Maps
set_option linter.unusedVariables false

/-! ### places as keys -/
theorem keyP : Keyed Try.prog 82 := Keyed.of_law (deep_law_laid (m := 4) (by kernel_rfl) (by decide) (of_decide_eq_true (by kernel_rfl)) (by kernel_rfl) (by kernel_rfl))
def kp (x y z : Int) : Lit := .string (keyBytes [.int .i64 x, .int .i64 y, .int .i64 z])
theorem kp_of (x y z : Int) (hx : (Lit.int .i64 x).wf = true) (hy : (Lit.int .i64 y).wf = true) (hz : (Lit.int .i64 z).wf = true) : keyOf Try.prog 82 (.agg #[.int .i64 x, .int .i64 y, .int .i64 z]) = some (kp x y z) := by
  have hu := Try.underlying82
  have hu4 := Try.underlying75
  have hu5 := Try.underlying2
  have hk : Try.prog.keyType 82 = true := by kernel_rfl
  have hc : Try.prog.cellsOf 82 = 3 := by kernel_rfl
  have hc4 : Try.prog.cellsOf 75 = 3 := by kernel_rfl
  have hc5 : Try.prog.cellsOf 2 = 1 := by kernel_rfl
  have hsz : Try.prog.types.size = 155 := by kernel_rfl
  obtain ⟨d, hd⟩ : ∃ d, Try.prog.types.size + 1 = d + 3 := ⟨Try.prog.types.size - 2, by rw [hsz]⟩
  unfold keyOf
  rw [hd]
  clear hd hsz
  simp [hu, hu4, hk, Value.formed, hc, hc4, Program.keyLits, hc5, hu5, Value.cells, List.range_succ, hx, hy, hz, kp]
theorem kp_nat (x y z : Nat) (hx : x ≤ 1000) (hy : y ≤ 1000) (hz : z ≤ 1000) : keyOf Try.prog 82 (.agg #[.int .i64 (x : Int), .int .i64 (y : Int), .int .i64 (z : Int)]) = some (kp x y z) :=
  kp_of _ _ _ (WalkArith.wf_i64 (by omega)) (WalkArith.wf_i64 (by omega)) (WalkArith.wf_i64 (by omega))
/-- three levels, as a datum. -/
def lightElem (v : Value) : Option (DataW Unit × List MemPlace) :=
  match v with
  | .agg xs => match xs.toList with
    | [.int .i64 a, .int .i64 b, .int .i64 c] => some (.agg [.lit (.int .i64 a), .lit (.int .i64 b), .lit (.int .i64 c)], [])
    | _ => none
  | _ => none
theorem lightElem_mk (a b c : Int) : lightElem (.agg #[.int .i64 a, .int .i64 b, .int .i64 c]) = some (.agg [.lit (.int .i64 a), .lit (.int .i64 b), .lit (.int .i64 c)], []) := rfl
theorem run_makeMapP_hint (n : Nat) (w : World) (h : n ≤ 1000) : (Instr.makeMap 71 (some (.int .i64 (n : Int)))).run Try.prog w = .ok (.map (some w.heap.size)) (w.alloc (.map #[] 0)) := by
  simp [Instr.makeMap, run_underlying Try.underlying71, asInt, asIntOf]

def NdAns (w : World) (sd : Int) (rs : Rws) (e : Ending) (w' : World) : Prop := ∃ m, e = .returned (.tuple #[.map m, .int .i64 (gf sd rs)]) ∧ Below w.heap.size w w'
theorem NdAns.mk {w w' : World} {sd c : Int} {rs : Rws} {m : Option Nat} (h : gf sd rs = c) (hb : Below w.heap.size w w') : NdAns w sd rs (.returned (.tuple #[.map m, .int .i64 c])) w' := ⟨m, by rw [h], hb⟩
def LtAns (W : World) (f : Int) (e : Ending) (w' : World) : Prop := ∃ q : Nat → Int, e = .returned (.tuple #[.agg #[.int .i64 (q 0), .int .i64 (q 1), .int .i64 (q 2)], .int .i64 f]) ∧ Below W.heap.size W w'
theorem lt_ans {W : World} {A : Option Addr} {n c : Nat} {xs : List Int} {f : Int} (hf : lf xs = f) (h : Rd .i64 W A n xs) (hcap : n ≤ c) (hm : c ≤ maxLen) : Calls Try.prog 45 #[.slice A n c, .int .i64 1] W (LtAns W f) :=
  (lightsOf_any A n c xs W h hcap hm).mono fun e w' hh => by obtain ⟨q, he, _, hb⟩ := hh; exact ⟨q, by rw [he, hf], hb⟩
set_option maxRecDepth 100000 in
set_option maxHeartbeats 2000000 in
theorem nodesOf_side (A : Option Addr) (n c : Nat) (sd : Int) (rs : Rws) (w : World) (hs : inB sd 2 4 = false) :
    Calls Try.prog 44 #[.agg #[.int .i64 sd, .slice A n c]] w (NdAns w sd rs) := by
  have HG := Lib.hid (gf_side (rs := rs) hs)
  have CS : Hid (∀ W, Calls Try.prog 48 #[.int .i64 sd] W fun e w' => e = .returned (.bool false) ∧ W = w') := fun W => by rw [← hs]; exact isSide_any sd W
  clear hs
  go_enter Try.func44, Try.ntmps44
  go_wp2_with (go_at_call 48; refine (CS.out _).mono ?_; rintro e w' ⟨rfl, rfl⟩)
  go_ret2
  exact NdAns.mk HG.out (blAlloc _ _)
set_option maxRecDepth 100000 in
set_option maxHeartbeats 4000000 in
theorem nodesOf_in (A : Option Addr) (n c s : Nat) (rs : Rws) (bs : List Nat) (w : World) (h : Hd w (rowsD rs) (.slice A n c) bs) (hs : inB (s : Int) 2 4 = true) :
    Calls Try.prog 44 #[.agg #[.int .i64 (s : Int), .slice A n c]] w (NdAns w (s : Int) rs) := by
  have CS : Hid (∀ W, Calls Try.prog 48 #[.int .i64 (s : Int)] W fun e w' => e = .returned (.bool true) ∧ W = w') := fun W => by rw [← hs]; exact isSide_any _ W
  have h3 : s = 2 ∨ s = 3 ∨ s = 4 := by rcases side_cases hs with e | e | e <;> omega
  have hN : s * s * s = 8 ∨ s * s * s = 27 ∨ s * s * s = 64 := by rcases h3 with rfl | rfl | rfl <;> simp
  have hl := h.rows.1
  have hNI : ((s * s * s : Nat) : Int) = (s : Int) * s * s := by simp
  have hmx := h.rows.2.2.1
  have hcx := h.rows.2.1
  unfold maxLen at hmx
  have H := Lib.hid h
  have H3 := Lib.hid h3
  obtain ⟨N, hNN⟩ : ∃ N, N = s * s * s := ⟨_, rfl⟩
  rw [← hNN] at hN hNI
  have HG1 := Lib.hid (fun e : n = N => gf_rows (sd := (s : Int)) hl hs (by rw [e, hNI]))
  have HG2 := Lib.hid (fun e : n ≠ N => gf_many (sd := (s : Int)) hl hs (by rw [← hNI]; omega))
  have HNN := Lib.hid hNN
  have hmm := fun w => run_makeMapP_hint N w (by omega)
  have HMM := Lib.hid hmm
  clear h hs h3 hl hNI hNN hmm
  go_enter Try.func44, Try.ntmps44
  go_wp2_with (go_at_call 48; refine (CS.out _).mono ?_; rintro e w' ⟨rfl, rfl⟩)
  refine (gridPlaces_any s _ H3.out).mono ?_
  rintro e w1 ⟨v, rfl, ho, hb⟩
  rw [← HNN.out] at ho
  obtain ⟨g, o, cp, rfl, hbg, hgl, hc1, hc2, hcells⟩ := ho.look (by omega)
  have xa : w1.cell? ⟨w.heap.size, 0, none⟩ = some (.int .i64 (s : Int)) := cell_later hb (by simp)
  have xb : w1.cell? ⟨w.heap.size, 1, none⟩ = some (.slice A n c) := cell_later hb (by simp)
  have T1 := Lib.hid (blThen (blAlloc w _) hb)
  have H1 := Lib.hid ((H.out.alloc _).bel hb)
  have HC := Lib.hid hcells
  unfold maxLen at hc2
  clear ho hb hcells hbg
  by_cases hn : n = N
  · obtain rfl := hn
    have HG := Lib.hid (HG1.out rfl)
    have hmm := HMM.out
    clear HG1 HG2 HMM CS
    go_wp2_with fail
    clear hmm
    go_loopw [28] (fun i wr => ∃ (k : Nat) (D : DataW Unit), k ≤ n ∧ i = .int .i64 k ∧ Hid (gfl rs k = 0) ∧ Hid (wr.ownsMap Try.prog 82 lightElem w1.heap.size k D) ∧ Hid (Below w1.heap.size w1 wr) ∧ w1.heap.size < wr.heap.size) (fun i _ => n - (intOf i).toNat)
    case atStart => exact ⟨0, .map [], by omega, rfl, rfl, World.ownsMap_made _ _ _ _, blAlloc _ _, by simp⟩
    case round =>
      obtain ⟨k, D, hk, rfl, hz, HM, HB, hsz⟩ := hrel
      have xa' := cell_later HB.out xa
      have xb' := cell_later HB.out xb
      have lz := cell_lt xa'
      by_cases hlt : k < n
      · obtain ⟨c0, c1, c2⟩ := HC.out k hlt
        have y0 := cell_later HB.out c0
        have y1 := cell_later HB.out c1
        have y2 := cell_later HB.out c2
        clear c0 c1 c2
        obtain ⟨b, o', B1, L1, C1, g1, rfl, x1, x3, -⟩ := (H1.out.bel HB.out).row hlt
        have lb := cell_lt x1
        have lg := cell_lt y0
        have HR := Lib.hid x3.rd
        have hcap := Lib.hid x3.caps.1
        have hm1 := Lib.hid x3.caps.2
        clear x3
        obtain ⟨p0, hp0⟩ : ∃ p : Int, p = ((k / (s * s) : Nat) : Int) := ⟨_, rfl⟩
        obtain ⟨p1, hp1⟩ : ∃ p : Int, p = ((k / s % s : Nat) : Int) := ⟨_, rfl⟩
        obtain ⟨p2, hp2⟩ : ∃ p : Int, p = ((k % s : Nat) : Int) := ⟨_, rfl⟩
        rw [← hp0] at y0
        rw [← hp1] at y1
        rw [← hp2] at y2
        have HKEY : Hid (keyOf Try.prog 82 (.agg #[.int .i64 p0, .int .i64 p1, .int .i64 p2]) = some (kp p0 p1 p2)) := by
          have e0 : k / (s * s) ≤ k := Nat.div_le_self _ _
          have e1 : k / s % s ≤ k := Nat.le_trans (Nat.mod_le _ _) (Nat.div_le_self _ _)
          have e2 : k % s ≤ k := Nat.mod_le _ _
          rw [hp0, hp1, hp2]
          exact kp_nat _ _ _ (Nat.le_trans e0 (by omega)) (Nat.le_trans e1 (by omega)) (Nat.le_trans e2 (by omega))
        clear hp0 hp1 hp2
        by_cases hf : lf (rw_ rs k) = 0
        · have HF := Lib.hid hf
          clear hf
          go_wp2_with fail
          refine (lt_ans HF.out (HR.out.alloc _) hcap.out hm1.out).mono ?_
          rintro e w2 ⟨q, rfl, hb2⟩
          have z0 : w2.cell? ⟨wr.heap.size, 0, none⟩ = some (.int .i64 p0) := cell_later hb2 (by simp)
          have z1 : w2.cell? ⟨wr.heap.size, 1, none⟩ = some (.int .i64 p1) := cell_later hb2 (by simp)
          have z2 : w2.cell? ⟨wr.heap.size, 2, none⟩ = some (.int .i64 p2) := cell_later hb2 (by simp)
          have T2 := Lib.hid (blThen (blThenAlloc HB.out _) hb2)
          have HM2 := Lib.hid (HM.out.kept (row := none) (w' := w2) (by have q := blThen (blAlloc wr _) hb2; exact ⟨q.os, q.tape, q.output, q.size, fun k hk _ => q.block k hk⟩) (by simp))
          have hw2 : wr.heap.size < w2.heap.size := by have := hb2.size; simp at this; omega
          clear hb2 xa' xb' y0 y1 y2 x1 HM HB
          go_wp2_with (at_mapUpdate; refine wpList_mapUpdate_own _ rfl _ _ _ 71 rfl 82 75 keyP Try.underlying71 _ w1.heap.size k D rfl (by first | exact HM2.out | exact HM2.out.alloc _ | exact (HM2.out.alloc _).alloc _) (by unfold maxLen; omega) _ _ _ rfl rfl HKEY.out _ [] (lightElem_mk _ _ _) ?_; intro w3 hown3 hg3)
          have HM3 := Lib.hid hown3
          have T3 : Hid (Below w1.heap.size w1 w3) := by
            show Below _ _ _
            first
              | exact T2.out.grown hg3 (by have := T2.out.size; simp; omega) (fun j hj => by cases hj; omega)
              | exact (blThenAlloc T2.out _).grown hg3 (by have := T2.out.size; simp; omega) (fun j hj => by cases hj; omega)
          have hw3 : w2.heap.size ≤ w3.heap.size := by have := hg3.size; simp at this; omega
          clear hown3 hg3
          go_wp2_with fail
          go_roundw
          case rel => exact ⟨k + 1, _, by omega, by go_num, gfl_on hz.out HF.out, HM3.out, T3.out, by omega⟩
          case measure => simp [intOf]; omega
        · obtain ⟨f, hfe⟩ : ∃ f, lf (rw_ rs k) = f := ⟨_, rfl⟩
          rw [hfe] at hf
          have HF := Lib.hid hfe
          have HM' := Lib.hid (gfl_first hz.out hfe hf hlt)
          have hqn : (f == 0) = false := by simpa using hf
          clear hfe
          go_wp2_with fail
          refine (lt_ans HF.out (HR.out.alloc _) hcap.out hm1.out).mono ?_
          rintro e w2 ⟨q, rfl, hb2⟩
          have T2 := Lib.hid (blThen (blThenAlloc HB.out _) hb2)
          clear hb2 xa' xb' y0 y1 y2 x1 HM HB
          go_wp2_with fail
          go_ret2
          first
            | exact NdAns.mk (HG.out.trans HM'.out) (blThen T1.out T2.out)
            | exact NdAns.mk (HG.out.trans HM'.out) (blThenAlloc (blThen T1.out T2.out) _)
      · obtain rfl : k = n := by omega
        go_wp2_with fail
        go_ret2
        exact NdAns.mk (HG.out.trans hz.out) (blThen T1.out HB.out)
  · have HG := Lib.hid (HG2.out hn)
    have he : ((n : Int) == (N : Int)) = false := by simp; omega
    have T1' := T1
    go_wp2_with fail
    go_ret2
    exact NdAns.mk HG.out T1.out
theorem nodesOf_any (A : Option Addr) (n c : Nat) (sd : Int) (rs : Rws) (bs : List Nat) (w : World) (h : Hd w (rowsD rs) (.slice A n c) bs) :
    Calls Try.prog 44 #[.agg #[.int .i64 sd, .slice A n c]] w (NdAns w sd rs) := by
  rcases Bool.eq_false_or_eq_true (inB sd 2 4) with hs | hs
  · obtain ⟨s, rfl⟩ : ∃ s : Nat, sd = s := ⟨sd.toNat, by have := inB_iff.1 hs; omega⟩
    exact nodesOf_in A n c s rs bs w h hs
  · exact nodesOf_side A n c sd rs w hs
set_option maxHeartbeats 400000 in
theorem GridFault_any (A : Option Addr) (n c : Nat) (sd : Int) (rs : Rws) (bs : List Nat) (w : World) (h : Hd w (rowsD rs) (.slice A n c) bs) :
    Calls Try.prog 22 #[.agg #[.int .i64 sd, .slice A n c]] w fun e w' => e = .returned (.int .i64 (gf sd rs)) ∧ Below w.heap.size w w' := by
  have H := Lib.hid h
  clear h
  go_enter Try.func22, Try.ntmps22
  go_wp2_with fail
  refine (nodesOf_any A n c sd rs bs _ (H.out.alloc _)).mono ?_
  rintro e w1 ⟨m, rfl, hb⟩
  have T := Lib.hid (blThen (blAlloc w _) hb)
  clear hb
  go_wp2_with fail
  go_ret
  exact ⟨rfl, T.out⟩
end Go.Proofs.Ythplngcdldongaa
namespace Go.Proofs.Ythplngcdldongaa
open Go.RowKit Go.Maps
set_option linter.unusedVariables false

theorem gfl_zero {rs : Rws} : ∀ {n : Nat}, gfl rs n = 0 → ∀ k, k < n → lf (rw_ rs k) = 0 := by
  intro n
  induction n with
  | zero => intro _ k hk; omega
  | succ n ih =>
    intro h k hk
    have h0 : gfl rs n = 0 := by
      by_cases e : gfl rs n = 0
      · exact e
      · simp only [gfl] at h; rw [if_neg e] at h; exact absurd h e
    by_cases e : k = n
    · subst e; simp only [gfl] at h; rw [if_pos h0] at h; exact h
    · exact ih h0 k (by omega)
theorem gf_zero {sd : Int} {rs : Rws} (h : gf sd rs = 0) : inB sd 2 4 = true ∧ (rs.length : Int) = sd * sd * sd ∧ ∀ k, k < rs.length → lf (rw_ rs k) = 0 := by
  unfold gf at h
  split at h
  · omega
  · rename_i h1
    split at h
    · omega
    · rename_i h2
      exact ⟨by simpa using h1, by simpa using h2, gfl_zero h⟩
theorem wfN {n : Nat} (h : n ≤ 1000) : (Lit.int .i64 (n : Int)).wf = true := WalkArith.wf_i64 (by omega)
theorem kp_inj {x y z x' y' z' : Int} (hx : (Lit.int .i64 x).wf = true) (hy : (Lit.int .i64 y).wf = true) (hz : (Lit.int .i64 z).wf = true) (hx' : (Lit.int .i64 x').wf = true) (hy' : (Lit.int .i64 y').wf = true) (hz' : (Lit.int .i64 z').wf = true)
    (h : kp x y z = kp x' y' z') : x = x' ∧ y = y' ∧ z = z' := by
  have h1 := kp_of x y z hx hy hz
  have h2 := kp_of x' y' z' hx' hy' hz'
  rw [h] at h1
  have e := keyP.inj h1 h2
  simpa using e
/-- the key of place number t. -/
def kt (s t : Nat) : Lit := kp ((t / (s * s) : Nat) : Int) ((t / s % s : Nat) : Int) ((t % s : Nat) : Int)
theorem pl_le {s t : Nat} (ht : t ≤ 1000) : t / (s * s) ≤ 1000 ∧ t / s % s ≤ 1000 ∧ t % s ≤ 1000 :=
  ⟨Nat.le_trans (Nat.div_le_self _ _) ht, Nat.le_trans (Nat.le_trans (Nat.mod_le _ _) (Nat.div_le_self _ _)) ht, Nat.le_trans (Nat.mod_le _ _) ht⟩
theorem gplace_inj {s t u : Nat} (hs : s = 2 ∨ s = 3 ∨ s = 4) (h1 : t / (s * s) = u / (s * s)) (h2 : t / s % s = u / s % s) (h3 : t % s = u % s) (ht : t < s * s * s) (hu : u < s * s * s) : t = u := by
  rcases hs with rfl | rfl | rfl <;> simp only [Nat.reduceMul] at * <;> omega
theorem kt_inj {s t u : Nat} (hs : s = 2 ∨ s = 3 ∨ s = 4) (ht : t < s * s * s) (hu : u < s * s * s) (h : kt s t = kt s u) : t = u := by
  have h64 : s * s * s ≤ 64 := by rcases hs with rfl | rfl | rfl <;> simp
  obtain ⟨a, b, c⟩ := pl_le (s := s) (t := t) (by omega)
  obtain ⟨a', b', c'⟩ := pl_le (s := s) (t := u) (by omega)
  obtain ⟨e1, e2, e3⟩ := kp_inj (wfN a) (wfN b) (wfN c) (wfN a') (wfN b') (wfN c') h
  exact gplace_inj hs (Int.ofNat.inj e1) (Int.ofNat.inj e2) (Int.ofNat.inj e3) ht hu
def rowDat (rs : Rws) (t : Nat) : DataW Unit := .agg [.lit (.int .i64 ((rw_ rs t).getD 0 0)), .lit (.int .i64 ((rw_ rs t).getD 1 0)), .lit (.int .i64 ((rw_ rs t).getD 2 0))]
/-- the map of the first k nodes. -/
structure MapN (w : World) (B s : Nat) (rs : Rws) (k : Nat) (D : DataW Unit) : Prop where
  own : w.ownsMap Try.prog 82 lightElem B k D
  at_ : ∀ t, t < k → ∀ z, D.atKey (kt s t) z = rowDat rs t
  has : ∀ x y z : Int, (Lit.int .i64 x).wf = true → (Lit.int .i64 y).wf = true → (Lit.int .i64 z).wf = true → (Maps.has D (kp x y z) = true ↔ ∃ t, t < k ∧ ((t / (s * s) : Nat) : Int) = x ∧ ((t / s % s : Nat) : Int) = y ∧ ((t % s : Nat) : Int) = z)
theorem MapN.new (w : World) (s : Nat) (rs : Rws) : MapN (w.alloc (.map #[] 0)) w.heap.size s rs 0 (.map []) :=
  ⟨World.ownsMap_made _ _ _ _, fun t ht => absurd ht (by omega), fun x y z _ _ _ => ⟨fun h => (by cases h), fun ⟨t, ht, _⟩ => absurd ht (by omega)⟩⟩
theorem MapN.kept {w w' : World} {B s k : Nat} {rs : Rws} {D : DataW Unit} (h : MapN w B s rs k D) (hb : Below w.heap.size w w') : MapN w' B s rs k D :=
  ⟨h.own.kept (row := none) ⟨hb.os, hb.tape, hb.output, hb.size, fun k hk _ => hb.block k hk⟩ (by simp), h.at_, h.has⟩
theorem MapN.put {w w' : World} {B s k : Nat} {rs : Rws} {D : DataW Unit} (h : MapN w B s rs k D) (hs : s = 2 ∨ s = 3 ∨ s = 4) (hk : k < s * s * s)
    (ho : w'.ownsMap Try.prog 82 lightElem B (k + 1) (D.put (kt s k) (rowDat rs k))) : MapN w' B s rs (k + 1) (D.put (kt s k) (rowDat rs k)) := by
  have hM : IsMap D := h.own.isMap
  have h64 : s * s * s ≤ 64 := by rcases hs with rfl | rfl | rfl <;> simp
  obtain ⟨a, b, c⟩ := pl_le (s := s) (t := k) (by omega)
  have hK : WideAt.IsKeyLit (kt s k) := keyP.key (kp_of _ _ _ (wfN a) (wfN b) (wfN c))
  refine ⟨ho, fun t ht z => ?_, fun x y z hx hy hz => ?_⟩
  · by_cases e : t = k
    · subst e; rw [atKey_put_same hM hK]
    · rw [atKey_put_other (fun e' => e (kt_inj hs (by omega) hk e')), h.at_ t (by omega) z]
  · by_cases e : kp x y z = kt s k
    · rw [e, has_put_same hM hK]
      obtain ⟨e1, e2, e3⟩ := kp_inj hx hy hz (wfN a) (wfN b) (wfN c) e
      exact ⟨fun _ => ⟨k, by omega, e1.symm, e2.symm, e3.symm⟩, fun _ => rfl⟩
    · rw [has_put_other (fun e' => e e'), h.has x y z hx hy hz]
      constructor
      · rintro ⟨t, ht, r⟩; exact ⟨t, by omega, r⟩
      · rintro ⟨t, ht, r1, r2, r3⟩
        refine ⟨t, ?_, r1, r2, r3⟩
        by_cases e2 : t = k
        · subst e2; exact absurd (by rw [← r1, ← r2, ← r3]; rfl) e
        · omega
def NdM (w : World) (s : Nat) (rs : Rws) (e : Ending) (w' : World) : Prop := ∃ B D, e = .returned (.tuple #[.map (some B), .int .i64 0]) ∧ MapN w' B s rs (s * s * s) D ∧ Below w.heap.size w w'
def Lt3 (W : World) (a0 a1 a2 : Int) (e : Ending) (w' : World) : Prop := e = .returned (.tuple #[.agg #[.int .i64 a0, .int .i64 a1, .int .i64 a2], .int .i64 0]) ∧ Below W.heap.size W w'
theorem lt_three {W : World} {A : Option Addr} {n c : Nat} {xs : List Int} {a0 a1 a2 : Int} (hf : lf xs = 0) (h0 : a0 = xs.getD 0 0) (h1 : a1 = xs.getD 1 0) (h2 : a2 = xs.getD 2 0) (h : Rd .i64 W A n xs) (hcap : n ≤ c) (hm : c ≤ maxLen) : Calls Try.prog 45 #[.slice A n c, .int .i64 1] W (Lt3 W a0 a1 a2) :=
  (lightsOf_any A n c xs W h hcap hm).mono fun e w' hh => by
    obtain ⟨q, he, hq, hb⟩ := hh
    refine ⟨?_, hb⟩
    rw [he, hf, hq hf 0 (by omega), hq hf 1 (by omega), hq hf 2 (by omega), h0, h1, h2]
set_option maxRecDepth 100000 in
set_option maxHeartbeats 4000000 in
theorem nodesOf_ok (A : Option Addr) (n c s : Nat) (rs : Rws) (bs : List Nat) (w : World) (h : Hd w (rowsD rs) (.slice A n c) bs) (h0 : gf (s : Int) rs = 0) :
    Calls Try.prog 44 #[.agg #[.int .i64 (s : Int), .slice A n c]] w (NdM w s rs) := by
  obtain ⟨hs, hlen, hrow⟩ := gf_zero h0
  have CS : Hid (∀ W, Calls Try.prog 48 #[.int .i64 (s : Int)] W fun e w' => e = .returned (.bool true) ∧ W = w') := fun W => by rw [← hs]; exact isSide_any _ W
  have h3 : s = 2 ∨ s = 3 ∨ s = 4 := by rcases side_cases hs with e | e | e <;> omega
  have hl := h.rows.1
  have hNI : ((s * s * s : Nat) : Int) = (s : Int) * s * s := by simp
  have hNN : n = s * s * s := by rw [hl, ← hNI] at hlen; omega
  have hN : n = 8 ∨ n = 27 ∨ n = 64 := by rw [hNN]; rcases h3 with rfl | rfl | rfl <;> simp
  have hmx := h.rows.2.2.1
  have hcx := h.rows.2.1
  unfold maxLen at hmx
  rw [hl] at hrow
  have HROW := Lib.hid hrow
  have H := Lib.hid h
  have H3 := Lib.hid h3
  have HNN := Lib.hid hNN
  have hmm := fun w => run_makeMapP_hint n w (by omega)
  have HMM := Lib.hid hmm
  clear h hs h3 hl hNI hNN hmm hlen hrow h0
  go_enter Try.func44, Try.ntmps44
  go_wp2_with (go_at_call 48; refine (CS.out _).mono ?_; rintro e w' ⟨rfl, rfl⟩)
  refine (gridPlaces_any s _ H3.out).mono ?_
  rintro e w1 ⟨v, rfl, ho, hb⟩
  rw [← HNN.out] at ho
  obtain ⟨g, o, cp, rfl, hbg, hgl, hc1, hc2, hcells⟩ := ho.look (by omega)
  have xa : w1.cell? ⟨w.heap.size, 0, none⟩ = some (.int .i64 (s : Int)) := cell_later hb (by simp)
  have xb : w1.cell? ⟨w.heap.size, 1, none⟩ = some (.slice A n c) := cell_later hb (by simp)
  have T1 := Lib.hid (blThen (blAlloc w _) hb)
  have H1 := Lib.hid ((H.out.alloc _).bel hb)
  have HC := Lib.hid hcells
  unfold maxLen at hc2
  have hmm := HMM.out
  clear ho hb hcells hbg HMM CS
  go_wp2_with fail
  clear hmm
  go_loopw [28] (fun i wr => ∃ (k : Nat) (D : DataW Unit), k ≤ n ∧ i = .int .i64 k ∧ Hid (MapN wr w1.heap.size s rs k D) ∧ Hid (Below w1.heap.size w1 wr) ∧ w1.heap.size < wr.heap.size) (fun i _ => n - (intOf i).toNat)
  case atStart => exact ⟨0, .map [], by omega, rfl, MapN.new _ _ _, blAlloc _ _, by simp⟩
  case round =>
    obtain ⟨k, D, hk, rfl, HM, HB, hsz⟩ := hrel
    have xa' := cell_later HB.out xa
    have xb' := cell_later HB.out xb
    have lz := cell_lt xa'
    by_cases hlt : k < n
    · obtain ⟨c0, c1, c2⟩ := HC.out k hlt
      have y0 := cell_later HB.out c0
      have y1 := cell_later HB.out c1
      have y2 := cell_later HB.out c2
      clear c0 c1 c2
      obtain ⟨b, o', B1, L1, C1, g1, rfl, x1, x3, -⟩ := (H1.out.bel HB.out).row hlt
      have lb := cell_lt x1
      have lg := cell_lt y0
      have HR := Lib.hid x3.rd
      have hcap := Lib.hid x3.caps.1
      have hm1 := Lib.hid x3.caps.2
      clear x3
      have HKEY0 : Hid (keyOf Try.prog 82 (.agg #[.int .i64 ((k / (s * s) : Nat) : Int), .int .i64 ((k / s % s : Nat) : Int), .int .i64 ((k % s : Nat) : Int)]) = some (kt s k)) := by
        obtain ⟨e0, e1, e2⟩ := pl_le (s := s) (t := k) (by omega)
        exact kp_nat _ _ _ e0 e1 e2
      obtain ⟨p0, hp0⟩ : ∃ p : Int, p = ((k / (s * s) : Nat) : Int) := ⟨_, rfl⟩
      obtain ⟨p1, hp1⟩ : ∃ p : Int, p = ((k / s % s : Nat) : Int) := ⟨_, rfl⟩
      obtain ⟨p2, hp2⟩ : ∃ p : Int, p = ((k % s : Nat) : Int) := ⟨_, rfl⟩
      rw [← hp0] at y0
      rw [← hp1] at y1
      rw [← hp2] at y2
      have HKEY : Hid (keyOf Try.prog 82 (.agg #[.int .i64 p0, .int .i64 p1, .int .i64 p2]) = some (kt s k)) := by rw [hp0, hp1, hp2]; exact HKEY0.out
      clear hp0 hp1 hp2 HKEY0
      obtain ⟨a0, ha0⟩ : ∃ a, a = (rw_ rs k).getD 0 0 := ⟨_, rfl⟩
      obtain ⟨a1, ha1⟩ : ∃ a, a = (rw_ rs k).getD 1 0 := ⟨_, rfl⟩
      obtain ⟨a2, ha2⟩ : ∃ a, a = (rw_ rs k).getD 2 0 := ⟨_, rfl⟩
      have HDAT : Hid (rowDat rs k = .agg [.lit (.int .i64 a0), .lit (.int .i64 a1), .lit (.int .i64 a2)]) := by show _ = _; rw [ha0, ha1, ha2]; rfl
      have CL := Lib.hid (fun W (hW : Below wr.heap.size wr W) => lt_three (HROW.out k hlt) ha0 ha1 ha2 (HR.out.below hW) hcap.out hm1.out)
      clear ha0 ha1 ha2
      go_wp2_with fail
      refine (CL.out _ (blAlloc _ _)).mono ?_
      rintro e w2 ⟨rfl, hb2⟩
      have z0 : w2.cell? ⟨wr.heap.size, 0, none⟩ = some (.int .i64 p0) := cell_later hb2 (by simp)
      have z1 : w2.cell? ⟨wr.heap.size, 1, none⟩ = some (.int .i64 p1) := cell_later hb2 (by simp)
      have z2 : w2.cell? ⟨wr.heap.size, 2, none⟩ = some (.int .i64 p2) := cell_later hb2 (by simp)
      have T2 := Lib.hid (blThen (blThenAlloc HB.out _) hb2)
      have HM2 := Lib.hid (HM.out.kept (blThen (blAlloc wr _) hb2))
      have hw2 : wr.heap.size < w2.heap.size := by have := hb2.size; simp at this; omega
      clear hb2 xa' xb' y0 y1 y2 x1 HM HB CL
      go_wp2_with (at_mapUpdate; refine wpList_mapUpdate_own _ rfl _ _ _ 71 rfl 82 75 keyP Try.underlying71 _ w1.heap.size k D rfl (by first | exact HM2.out.own | exact HM2.out.own.alloc _ | exact (HM2.out.own.alloc _).alloc _) (by unfold maxLen; omega) _ _ _ rfl rfl HKEY.out _ [] (lightElem_mk _ _ _) ?_; intro w3 hown3 hg3)
      have HM3 := Lib.hid (HM2.out.put H3.out (by rw [← HNN.out]; exact hlt) (by rw [HDAT.out]; exact hown3))
      have T3 : Hid (Below w1.heap.size w1 w3) := by
        show Below _ _ _
        first
          | exact T2.out.grown hg3 (by have := T2.out.size; simp; omega) (fun j hj => by cases hj; omega)
          | exact (blThenAlloc T2.out _).grown hg3 (by have := T2.out.size; simp; omega) (fun j hj => by cases hj; omega)
      have hw3 : w2.heap.size ≤ w3.heap.size := by have := hg3.size; simp at this; omega
      clear hown3 hg3
      go_wp2_with fail
      go_roundw
      case rel => exact ⟨k + 1, _, by omega, by go_num, HM3.out, T3.out, by omega⟩
      case measure => simp [intOf]; omega
    · obtain rfl : k = n := by omega
      go_wp2_with fail
      go_ret2
      exact ⟨_, D, rfl, by rw [← HNN.out]; exact HM.out, blThen T1.out HB.out⟩
end Go.Proofs.Ythplngcdldongaa
namespace Go.Proofs.Ythplngcdldongaa
open Go.RowKit Go.Maps
set_option linter.unusedVariables false

def inS (sd : Int) (ps : List Int) : Bool := inB (ps.getD 0 0) 0 (sd - 1) && (inB (ps.getD 1 0) 0 (sd - 1) && inB (ps.getD 2 0) 0 (sd - 1))
def ndI (sd : Int) (ps : List Int) : Nat := ((ps.getD 0 0 * sd + ps.getD 1 0) * sd + ps.getD 2 0).toNat
def ncd (sd : Int) (rs : Rws) (ps : List Int) : Int := if gf sd rs = 0 then (if ps.length = 3 then (if inS sd ps = true then 0 else 3) else 2) else gf sd rs
def nls (sd : Int) (rs : Rws) (ps : List Int) : List Int := if gf sd rs = 0 ∧ ps.length = 3 ∧ inS sd ps = true then rw_ rs (ndI sd ps) else []
theorem ncd_f {sd : Int} {rs : Rws} {ps : List Int} (h : gf sd rs ≠ 0) : ncd sd rs ps = gf sd rs ∧ nls sd rs ps = [] := ⟨by unfold ncd; rw [if_neg h], by unfold nls; rw [if_neg (fun q => h q.1)]⟩
theorem ncd_l {sd : Int} {rs : Rws} {ps : List Int} (h : gf sd rs = 0) (h2 : ps.length ≠ 3) : ncd sd rs ps = 2 ∧ nls sd rs ps = [] := ⟨by unfold ncd; rw [if_pos h, if_neg h2], by unfold nls; rw [if_neg (fun q => h2 q.2.1)]⟩
theorem ncd_n {sd : Int} {rs : Rws} {ps : List Int} (h : gf sd rs = 0) (h2 : ps.length = 3) (h3 : inS sd ps = false) : ncd sd rs ps = 3 ∧ nls sd rs ps = [] := ⟨by unfold ncd; rw [if_pos h, if_pos h2, if_neg (by rw [h3]; simp)], by unfold nls; rw [if_neg (fun q => by have := q.2.2; rw [h3] at this; cases this)]⟩
theorem ncd_y {sd : Int} {rs : Rws} {ps : List Int} (h : gf sd rs = 0) (h2 : ps.length = 3) (h3 : inS sd ps = true) : ncd sd rs ps = 0 ∧ nls sd rs ps = rw_ rs (ndI sd ps) := ⟨by unfold ncd; rw [if_pos h, if_pos h2, if_pos h3], by unfold nls; rw [if_pos ⟨h, h2, h3⟩]⟩
theorem inS_iff {sd : Int} {ps : List Int} : inS sd ps = true ↔ (0 ≤ ps.getD 0 0 ∧ ps.getD 0 0 ≤ sd - 1) ∧ (0 ≤ ps.getD 1 0 ∧ ps.getD 1 0 ≤ sd - 1) ∧ (0 ≤ ps.getD 2 0 ∧ ps.getD 2 0 ≤ sd - 1) := by
  unfold inS; rw [Bool.and_eq_true, Bool.and_eq_true, inB_iff, inB_iff, inB_iff]
theorem pl_lt {s t : Nat} (hs : s = 2 ∨ s = 3 ∨ s = 4) (ht : t < s * s * s) : t / (s * s) < s ∧ t / s % s < s ∧ t % s < s := by
  rcases hs with rfl | rfl | rfl <;> simp only [Nat.reduceMul] at * <;> omega
/-- a place that is there. -/
theorem nd_yes {s : Nat} {ps : List Int} (hs : s = 2 ∨ s = 3 ∨ s = 4) (h : inS (s : Int) ps = true) : ndI (s : Int) ps < s * s * s ∧ ((ndI s ps : Nat) : Int) = (ps.getD 0 0 * s + ps.getD 1 0) * s + ps.getD 2 0 ∧ ((ndI s ps / (s * s) : Nat) : Int) = ps.getD 0 0 ∧ ((ndI s ps / s % s : Nat) : Int) = ps.getD 1 0 ∧ ((ndI s ps % s : Nat) : Int) = ps.getD 2 0 := by
  obtain ⟨⟨a, a'⟩, ⟨b, b'⟩, c, c'⟩ := inS_iff.1 h
  unfold ndI
  generalize ps.getD 0 0 = x at *
  generalize ps.getD 1 0 = y at *
  generalize ps.getD 2 0 = z at *
  rcases hs with rfl | rfl | rfl <;> simp only [Nat.reduceMul] at * <;> refine ⟨?_, ?_, ?_, ?_, ?_⟩ <;> omega
theorem nd_of {s t : Nat} {ps : List Int} (hs : s = 2 ∨ s = 3 ∨ s = 4) (ht : t < s * s * s) (h0 : ((t / (s * s) : Nat) : Int) = ps.getD 0 0) (h1 : ((t / s % s : Nat) : Int) = ps.getD 1 0) (h2 : ((t % s : Nat) : Int) = ps.getD 2 0) : inS (s : Int) ps = true := by
  obtain ⟨a, b, c⟩ := pl_lt hs ht
  rw [inS_iff, ← h0, ← h1, ← h2]
  generalize t / (s * s) = x at *
  generalize t / s % s = y at *
  generalize t % s = z at *
  omega

def IAns (w : World) (code : Int) (xs : List Int) (e : Ending) (w' : World) : Prop :=
  ∃ G n c, e = .returned (.agg #[.int .i64 code, .slice G n c]) ∧ Own w' (.ints .i64 xs) (.slice G n c) w.heap.size w'.heap.size ∧ Below w.heap.size w w'
theorem IAns.bad {w w' : World} {code c : Int} {xs : List Int} (h : code = c ∧ xs = []) (hb : Below w.heap.size w w') : IAns w code xs (.returned (.agg #[.int .i64 c, .slice none 0 0])) w' :=
  ⟨none, 0, 0, by rw [h.1], by rw [h.2]; exact Own.nil _ _ _ _ _ _ (Nat.zero_le _), hb⟩
theorem own3 {w : World} {b lo : Nat} {a0 a1 a2 : Int} (h0 : w.cell? ⟨b, 0, none⟩ = some (.int .i64 a0)) (h1 : w.cell? ⟨b, 1, none⟩ = some (.int .i64 a1)) (h2 : w.cell? ⟨b, 2, none⟩ = some (.int .i64 a2)) (hlo : lo ≤ b) (hhi : b < w.heap.size) (hf : Thaw w b) :
    Own w (.ints .i64 [a0, a1, a2]) (.slice (some ⟨b, 0, none⟩) 3 3) lo w.heap.size := by
  obtain ⟨bs, k1, k2, k3⟩ := Hd.of_rd (c := 3) (k := .i64) (xs := [a0, a1, a2]) (w := w) (A := some ⟨b, 0, none⟩) (n := 3) ⟨rfl, fun _ => ⟨b, 0, rfl, fun i hi => by
    match i, hi with
    | 0, _ => simpa using h0
    | 1, _ => simpa using h1
    | 2, _ => simpa using h2⟩⟩ (by omega) (by unfold maxLen; omega)
  refine ⟨bs, k1, k2, fun x hx => ?_⟩
  obtain ⟨_, o, e⟩ := k3 x hx
  injection e with e
  injection e with e1 e2
  subst e1
  exact ⟨hlo, hhi, hf⟩
theorem list3 {xs : List Int} (h : xs.length = 3) : xs = [xs.getD 0 0, xs.getD 1 0, xs.getD 2 0] := by
  match xs, h with
  | [a, b, c], _ => rfl
theorem lightElem_form {v : Value} {z : DataW Unit × List MemPlace} (h : lightElem v = some z) : ∃ a b c, v = .agg #[.int .i64 a, .int .i64 b, .int .i64 c] ∧ z.1 = .agg [.lit (.int .i64 a), .lit (.int .i64 b), .lit (.int .i64 c)] := by
  unfold lightElem at h
  split at h
  · rename_i xs
    split at h
    · rename_i a b c hx
      refine ⟨a, b, c, ?_, ?_⟩
      · congr 1
        apply Array.ext'
        exact hx
      · injection h with h; rw [← h]
    · cases h
  · cases h
theorem zeroLights (w : World) : (zeroValue 75).run Try.prog w = .ok (.agg #[.int .i64 0, .int .i64 0, .int .i64 0]) w := by kernel_rfl
theorem wpList_lookup_light (w : World) {ops : Array Oper} {rest : List Oper} {o : Oper} {a : Act} {Q : Exit → Act → World → Prop} (hg : o.guard = none) (m x : Operand) (hop : o.op = Op.lookup 71 m x true) (b n : Nat) (D : DataW Unit)
    (hm : a.eval m = .map (some b)) (hown : w.ownsMap Try.prog 82 lightElem b n D) (key : Value) (kl : Lit) (hx : a.eval x = key) (hkey : keyOf Try.prog 82 key = some kl)
    (hK : ∀ a0 a1 a2 : Int, D.atKey kl (.agg [.lit (.int .i64 0), .lit (.int .i64 0), .lit (.int .i64 0)]) = .agg [.lit (.int .i64 a0), .lit (.int .i64 a1), .lit (.int .i64 a2)] → wpList Try.prog ops Q rest (a.put o.dst (.tuple #[.agg #[.int .i64 a0, .int .i64 a1, .int .i64 a2], .bool (Maps.has D kl)])) w) : wpList Try.prog ops Q (o :: rest) a w :=
  wpList_lookup_own_ok w hg m x _ hop _ 75 keyP Try.underlying71 lightElem (zeroLights w) _ [] (lightElem_mk 0 0 0) b n D hm hown key kl hx hkey (fun v ps hv => by
    obtain ⟨a0, a1, a2, rfl, he⟩ := lightElem_form hv
    exact hK a0 a1 a2 he)
theorem run_arrayAt3 (b o d : Nat) (w : World) : (Instr.arrayAt 75 (.slice (some ⟨b, o, none⟩) 3 d)).run Try.prog w = .ok (.pointer (some ⟨b, o, none⟩)) w := by
  first
    | kernel_rfl
    | simp [Instr.arrayAt, run_underlying Try.underlying75]
theorem al_cell (W : World) (x0 x1 : Value) (r : Nat) (o : Obj) (hr : r < W.heap.size) (i : Nat) : (((W.setCell ⟨r, 0, none⟩ x0).setCell ⟨r, 1, none⟩ x1).alloc o).cell? ⟨r, i, none⟩ = ((W.setCell ⟨r, 0, none⟩ x0).setCell ⟨r, 1, none⟩ x1).cell? ⟨r, i, none⟩ :=
  (bcell (blAlloc _ _)).1 r i (by simp [World.setCell]; exact hr)
theorem al_size (W : World) (x0 x1 : Value) (r : Nat) : ((W.setCell ⟨r, 0, none⟩ x0).setCell ⟨r, 1, none⟩ x1).heap.size = W.heap.size := by simp [World.setCell]
theorem al_own (W : World) (x0 x1 : Value) (r lo : Nat) (a0 a1 a2 : Int) (ty : TypeId) (hlo : lo ≤ W.heap.size) : Own (((W.setCell ⟨r, 0, none⟩ x0).setCell ⟨r, 1, none⟩ x1).alloc (.cells #[.int .i64 a0, .int .i64 a1, .int .i64 a2] ty)) (.ints .i64 [a0, a1, a2]) (.slice (some ⟨W.heap.size, 0, none⟩) 3 3) lo (((W.setCell ⟨r, 0, none⟩ x0).setCell ⟨r, 1, none⟩ x1).alloc (.cells #[.int .i64 a0, .int .i64 a1, .int .i64 a2] ty)).heap.size := by
  have e := al_size W x0 x1 r
  generalize (W.setCell ⟨r, 0, none⟩ x0).setCell ⟨r, 1, none⟩ x1 = X at *
  rw [← e]
  exact own3 (by simp) (by simp) (by simp) (by omega) (by simp) (thaw_new _ _ _)
def NdF (W : World) (f : Int) (e : Ending) (w' : World) : Prop := ∃ m, e = .returned (.tuple #[.map m, .int .i64 f]) ∧ Below W.heap.size W w'
set_option maxRecDepth 100000 in
set_option maxHeartbeats 2000000 in
theorem NodeOf_f (A P : Option Addr) (n c m d : Nat) (sd : Int) (rs : Rws) (ps : List Int) (bs : List Nat) (w : World) (h : Hd w (rowsD rs) (.slice A n c) bs) (h0 : gf sd rs ≠ 0) :
    Calls Try.prog 11 #[.agg #[.int .i64 sd, .slice A n c], .slice P m d] w (IAns w (ncd sd rs ps) (nls sd rs ps)) := by
  have HA := Lib.hid (ncd_f (ps := ps) h0)
  obtain ⟨f, hfe⟩ : ∃ f, gf sd rs = f := ⟨_, rfl⟩
  have CN : Hid (∀ W, Hd W (rowsD rs) (.slice A n c) bs → Calls Try.prog 44 #[.agg #[.int .i64 sd, .slice A n c]] W (NdF W f)) := fun W hW => (nodesOf_any A n c sd rs bs W hW).mono fun e w' hh => by
    obtain ⟨m, he, hb⟩ := hh; exact ⟨m, by rw [he, hfe], hb⟩
  rw [hfe] at h0 HA
  have hqn : (f == 0) = false := by simpa using h0
  have H := Lib.hid h
  clear h hfe
  go_enter Try.func11, Try.ntmps11
  go_wp2_with fail
  refine (CN.out _ ((H.out.alloc _).alloc _)).mono ?_
  rintro e w1 ⟨q, rfl, hb⟩
  obtain ⟨hc, hf⟩ := bcell hb
  have hz : w.heap.size + 1 < w1.heap.size := by have := hb.size; simp at this; omega
  have T := Lib.hid (blThen (blThenAlloc (blAlloc w _) _) hb)
  clear hb CN H
  go_wp2_with fail
  refine bodyPost_ret (v := .agg #[.int .i64 f, .slice none 0 0]) (by simp [results, Try.results11, go_sem, hc]) rfl (IAns.bad HA.out ?_)
  repeat (first | exact T.out | refine Below.setCell ?_ (by simp; try omega) _)
set_option maxRecDepth 100000 in
set_option maxHeartbeats 4000000 in
theorem NodeOf_z (A P : Option Addr) (n c m d s : Nat) (rs : Rws) (ps : List Int) (bs gs : List Nat) (w : World) (h : Hd w (rowsD rs) (.slice A n c) bs) (hp : Hd w (.ints .i64 ps) (.slice P m d) gs) (hu : I64s ps) (h0 : gf (s : Int) rs = 0) :
    Calls Try.prog 11 #[.agg #[.int .i64 (s : Int), .slice A n c], .slice P m d] w (IAns w (ncd (s : Int) rs ps) (nls (s : Int) rs ps)) := by
  obtain ⟨hs, hlen, hrow⟩ := gf_zero h0
  have h3 : s = 2 ∨ s = 3 ∨ s = 4 := by rcases side_cases hs with e | e | e <;> omega
  have hNI : ((s * s * s : Nat) : Int) = (s : Int) * s * s := by simp
  have hNN : rs.length = s * s * s := by rw [← hNI] at hlen; omega
  have CN := Lib.hid (fun W (hW : Hd W (rowsD rs) (.slice A n c) bs) => nodesOf_ok A n c s rs bs W hW h0)
  have HROW := Lib.hid hrow
  have H := Lib.hid h
  have HP := Lib.hid hp.rd
  have hpl := hp.rd.1
  have hpm := hp.caps.2
  have hpc := hp.caps.1
  unfold maxLen at hpm
  have HU := Lib.hid hu
  have H3 := Lib.hid h3
  have HNN := Lib.hid hNN
  by_cases hm : m = 3
  · subst hm
    obtain ⟨b, o, rfl, hx⟩ := HP.out.2 (by omega)
    have x0 := hx 0 (by omega)
    have x1 := hx 1 (by omega)
    have x2 := hx 2 (by omega)
    rw [Nat.add_zero] at x0
    have W0 : (Lit.int .i64 (ps.getD 0 0)).wf = true := WalkArith.wf_i64 (hu 0)
    have W1 : (Lit.int .i64 (ps.getD 1 0)).wf = true := WalkArith.wf_i64 (hu 1)
    have W2 : (Lit.int .i64 (ps.getD 2 0)).wf = true := WalkArith.wf_i64 (hu 2)
    have HY := Lib.hid (fun q => ncd_y h0 hpl q)
    have HN := Lib.hid (fun q => ncd_n h0 hpl q)
    have HHAS : Hid (∀ W B D, MapN W B s rs (s * s * s) D → Maps.has D (kp (ps.getD 0 0) (ps.getD 1 0) (ps.getD 2 0)) = inS (s : Int) ps) := fun W B D hM => by
      rcases Bool.eq_false_or_eq_true (inS (s : Int) ps) with q | q
      · obtain ⟨t1, _, t2, t3, t4⟩ := nd_yes h3 q
        rw [q]; exact (hM.has _ _ _ W0 W1 W2).2 ⟨_, t1, t2, t3, t4⟩
      · rw [q]
        rcases Bool.eq_false_or_eq_true (Maps.has D (kp (ps.getD 0 0) (ps.getD 1 0) (ps.getD 2 0))) with r | r
        · obtain ⟨t, t1, t2, t3, t4⟩ := (hM.has _ _ _ W0 W1 W2).1 r
          rw [nd_of h3 t1 t2 t3 t4] at q; cases q
        · exact r
    have HAT : Hid (∀ W B D, MapN W B s rs (s * s * s) D → inS (s : Int) ps = true → ∀ z a0 a1 a2, D.atKey (kp (ps.getD 0 0) (ps.getD 1 0) (ps.getD 2 0)) z = .agg [.lit (.int .i64 a0), .lit (.int .i64 a1), .lit (.int .i64 a2)] → rw_ rs (ndI (s : Int) ps) = [a0, a1, a2]) := fun W B D hM q z a0 a1 a2 ha => by
      obtain ⟨t1, _, t2, t3, t4⟩ := nd_yes h3 q
      have hk : kp (ps.getD 0 0) (ps.getD 1 0) (ps.getD 2 0) = kt s (ndI s ps) := by unfold kt; rw [t2, t3, t4]
      rw [hk, hM.at_ _ t1] at ha
      have hl3 := (lf_zero (hrow (ndI s ps) (by rw [hNN]; exact t1))).1
      unfold rowDat at ha
      simp only [DataW.agg.injEq, List.cons.injEq, DataW.lit.injEq, Lit.int.injEq, true_and, and_true] at ha
      rw [list3 hl3, ha.1, ha.2.1, ha.2.2]
    have HKEY0 := Lib.hid (kp_of _ _ _ W0 W1 W2)
    obtain ⟨p0, hp0⟩ : ∃ p, p = ps.getD 0 0 := ⟨_, rfl⟩
    obtain ⟨p1, hp1⟩ : ∃ p, p = ps.getD 1 0 := ⟨_, rfl⟩
    obtain ⟨p2, hp2⟩ : ∃ p, p = ps.getD 2 0 := ⟨_, rfl⟩
    rw [← hp0] at x0
    rw [← hp1] at x1
    rw [← hp2] at x2
    rw [← hp0, ← hp1, ← hp2] at HHAS HAT HKEY0
    have lb := cell_lt x0
    clear h hp hs hlen hrow h3 hNI hNN W0 W1 W2 hx h0 hp0 hp1 hp2 hpl hu
    go_enter Try.func11, Try.ntmps11
    go_wp2_with fail
    refine (CN.out _ ((H.out.alloc _).alloc _)).mono ?_
    rintro e w1 ⟨B, D, rfl, hM, hb⟩
    obtain ⟨hc, hf⟩ := bcell hb
    have y0 : w1.cell? ⟨b, o, none⟩ = some (.int .i64 p0) := cell_later hb (cell_later (blAlloc _ _) (cell_later (blAlloc _ _) x0))
    have y1 : w1.cell? ⟨b, o + 1, none⟩ = some (.int .i64 p1) := cell_later hb (cell_later (blAlloc _ _) (cell_later (blAlloc _ _) x1))
    have y2 : w1.cell? ⟨b, o + 2, none⟩ = some (.int .i64 p2) := cell_later hb (cell_later (blAlloc _ _) (cell_later (blAlloc _ _) x2))
    have hz : w.heap.size + 1 < w1.heap.size := by have := hb.size; simp at this; omega
    have T := Lib.hid (blThen (blThenAlloc (blAlloc w _) _) hb)
    have HM := Lib.hid hM
    have hra := fun w => run_arrayAt3 b o d w
    clear hb CN H x0 x1 x2 hM
    rcases Bool.eq_false_or_eq_true (inS (s : Int) ps) with q | q
    · have hh := HHAS.out _ _ _ HM.out
      rw [q] at hh
      have HQ := Lib.hid q
      have HA := Lib.hid (HY.out q)
      clear q
      go_wp2_with (at_lookup; refine wpList_lookup_light _ rfl _ _ rfl B (s * s * s) D rfl HM.out.own _ _ rfl HKEY0.out ?_; intro a0 a1 a2 hat; rw [hh])
      have HL := Lib.hid (HAT.out _ _ _ HM.out HQ.out _ _ _ _ hat)
      clear hat hh
      go_wp2_with fail
      have hal := fun x0 x1 o i => al_cell w1 x0 x1 (w.heap.size + 1) o hz i
      refine bodyPost_ret (v := .agg #[.int .i64 0, .slice (some ⟨w1.heap.size, 0, none⟩) 3 3]) (by simp [results, Try.results11, go_sem, hc, hal]) rfl ⟨_, _, _, by rw [HA.out.1], ?_, ?_⟩
      · rw [HA.out.2, HL.out]
        exact al_own _ _ _ _ _ _ _ _ _ (by omega)
      · repeat (first | exact T.out | refine Below.setCell ?_ (by simp; try omega) _ | refine blThenAlloc ?_ _)
    · have hh := HHAS.out _ _ _ HM.out
      rw [q] at hh
      have HA := Lib.hid (HN.out q)
      clear q
      go_wp2_with (at_lookup; refine wpList_lookup_light _ rfl _ _ rfl B (s * s * s) D rfl HM.out.own _ _ rfl HKEY0.out ?_; intro a0 a1 a2 hat; rw [hh])
      clear hat hh
      go_wp2_with fail
      have hal := fun x0 x1 o i => al_cell w1 x0 x1 (w.heap.size + 1) o hz i
      refine bodyPost_ret (v := .agg #[.int .i64 3, .slice none 0 0]) (by simp [results, Try.results11, go_sem, hc, hal]) rfl (IAns.bad HA.out ?_)
      repeat (first | exact T.out | refine Below.setCell ?_ (by simp; try omega) _ | refine blThenAlloc ?_ _)
  · have HA := Lib.hid (ncd_l (ps := ps) h0 (by omega))
    have hqm : ((m : Int) == 3) = false := by simp; omega
    clear h hp hs hlen hrow h3 hNI hNN h0 hu hpl
    go_enter Try.func11, Try.ntmps11
    go_wp2_with fail
    refine (CN.out _ ((H.out.alloc _).alloc _)).mono ?_
    rintro e w1 ⟨B, D, rfl, hM, hb⟩
    obtain ⟨hc, hf⟩ := bcell hb
    have hz : w.heap.size + 1 < w1.heap.size := by have := hb.size; simp at this; omega
    have T := Lib.hid (blThen (blThenAlloc (blAlloc w _) _) hb)
    clear hb CN H hM
    go_wp2_with fail
    refine bodyPost_ret (v := .agg #[.int .i64 2, .slice none 0 0]) (by simp [results, Try.results11, go_sem, hc]) rfl (IAns.bad HA.out ?_)
    repeat (first | exact T.out | refine Below.setCell ?_ (by simp; try omega) _)
theorem NodeOf_any (A P : Option Addr) (n c m d : Nat) (sd : Int) (rs : Rws) (ps : List Int) (bs gs : List Nat) (w : World) (h : Hd w (rowsD rs) (.slice A n c) bs) (hp : Hd w (.ints .i64 ps) (.slice P m d) gs) (hu : I64s ps) :
    Calls Try.prog 11 #[.agg #[.int .i64 sd, .slice A n c], .slice P m d] w (IAns w (ncd sd rs ps) (nls sd rs ps)) := by
  by_cases h0 : gf sd rs = 0
  · obtain ⟨s, rfl⟩ : ∃ s : Nat, sd = s := ⟨sd.toNat, by have := inB_iff.1 (gf_zero h0).1; omega⟩
    exact NodeOf_z A P n c m d s rs ps bs gs w h hp hu h0
  · exact NodeOf_f A P n c m d sd rs ps bs w h h0
end Go.Proofs.Ythplngcdldongaa
