/-
  A fix read from four bytes: contracts of impl.getFix, GetFix and of the reference model's l1Get, GetFix; of the laws' toByteS (a copy of bytes).
-/
import Derived.Test.YtfheofbgoaggmaaDoorFixP
import Derived.Laws.BitsAllLaws
import Derived.Deep.OwnRows
import Derived.OpenShut
namespace Go.Proofs.YtfheofbgoaggmaaDoor
open Go.RowKit
set_option linter.unusedVariables false

def U8s (xs : List Int) : Prop := ∀ i, 0 ≤ xs.getD i 0 ∧ xs.getD i 0 ≤ 255
def acc (xs : List Int) (t : Nat) : Nat → Int
  | 0 => 0
  | j + 1 => acc xs t j * 256 + xs.getD (t + j) 0
theorem acc_bd (xs : List Int) (t : Nat) (h : U8s xs) : (0 ≤ acc xs t 0 ∧ acc xs t 0 < 1) ∧ (0 ≤ acc xs t 1 ∧ acc xs t 1 < 256) ∧ (0 ≤ acc xs t 2 ∧ acc xs t 2 < 65536) ∧ (0 ≤ acc xs t 3 ∧ acc xs t 3 < 16777216) ∧ (0 ≤ acc xs t 4 ∧ acc xs t 4 < 4294967296) := by
  have h0 := h (t + 0); have h1 := h (t + 1); have h2 := h (t + 2); have h3 := h (t + 3)
  simp only [acc]
  omega
theorem acc_lt (xs : List Int) (t j : Nat) (h : U8s xs) (hj : j < 4) : 0 ≤ acc xs t j ∧ acc xs t j < 16777216 := by
  have := acc_bd xs t h
  match j, hj with
  | 0, _ => omega
  | 1, _ => omega
  | 2, _ => omega
  | 3, _ => omega
theorem or_join (u x : Int) (h0 : 0 ≤ u) (h1 : u < 16777216) (h2 : 0 ≤ x) (h3 : x ≤ 255) : bits .or .u32 (u * 256) x = u * 256 + x := by
  rw [u32_or _ _ (by omega) (by omega) h2 (by omega), nat_join 8 _ _ (by omega) (by omega)]
  omega
/-- the signed number that four bytes tell. -/
def gv (xs : List Int) (t : Nat) : Int := if acc xs t 4 < 2147483648 then acc xs t 4 else acc xs t 4 - 4294967296

set_option maxHeartbeats 1000000 in
theorem getFix_yes (A : Option Addr) (n c : Nat) (xs : List Int) (t : Nat) (w : World) (h : Rd .u8 w A n xs) (hx : U8s xs) (hn : n ≤ c) (hc : c ≤ maxLen) (ht : t + 4 ≤ n) :
    Calls Tryd.prog 58 #[.slice A n c, .int .i64 t] w fun e w' => e = .returned (.tuple #[.int .i64 (hdV (gv xs t)), errV (hdC (gv xs t))]) ∧ ∃ m, w' = w.drewN m := by
  unfold maxLen at hc
  obtain ⟨b, o, rfl, hcell⟩ := h.2 (by omega)
  have HC := Lib.hid hcell
  have HX := Lib.hid hx
  clear h hcell hx
  go_enter Tryd.func58, Tryd.ntmps58
  go_wp2
  go_loop [6, 26] (fun u i => ∃ j : Nat, j ≤ 4 ∧ i = .int .i64 j ∧ u = .int .u32 (acc xs t j)) (fun _ i => 4 - (intOf i).toNat)
  case atStart => exact ⟨0, by omega, rfl, rfl⟩
  case round =>
    obtain ⟨j, hj, rfl, rfl⟩ := hrel
    by_cases hlt : j < 4
    · have c1 := HC.out (t + j) (by omega)
      rw [← Nat.add_assoc] at c1
      obtain ⟨x0, x1⟩ := HX.out (t + j)
      obtain ⟨u0, u1⟩ := acc_lt xs t j HX.out hlt
      have hs : acc xs t (j + 1) = acc xs t j * 256 + xs.getD (t + j) 0 := rfl
      generalize xs.getD (t + j) 0 = x at c1 x0 x1 hs
      have HS := Lib.hid hs
      clear hs
      have hor := or_join (acc xs t j) x u0 u1 x0 x1
      go_wp2_with fail
      go_round
      case rel => exact ⟨j + 1, by omega, by go_num, by rw [HS.out]⟩
      case measure => simp [intOf]; omega
    · obtain rfl : j = 4 := by omega
      obtain ⟨_, _, _, _, u0, u1⟩ := acc_bd xs t HX.out
      by_cases hs : acc xs t 4 < 2147483648
      · have HG : Hid (gv xs t = acc xs t 4) := if_pos hs
        go_wp2_with (go_at_call 66; refine (fitFix_any _ _).mono ?_; rintro e w' ⟨rfl, rfl⟩)
        go_ret2
        refine ⟨?_, 0, rfl⟩
        rw [HG.out]
        rfl
      · have HG : Hid (gv xs t = acc xs t 4 - 4294967296) := if_neg hs
        have hw : IntKind.i32.wrap (acc xs t 4) = acc xs t 4 - 4294967296 := by rw [IntKind.wrap_i32]; omega
        go_wp2_with (go_at_call 66; refine (fitFix_any _ _).mono ?_; rintro e w' ⟨rfl, rfl⟩)
        go_ret2
        refine ⟨?_, 0, rfl⟩
        rw [HG.out]
        rfl
theorem getFix_no (A : Option Addr) (n c : Nat) (a : Int) (w : World) (hn : n ≤ c) (hc : c ≤ maxLen) (h : inB a 0 ((n : Int) - 4) = false) :
    Calls Tryd.prog 58 #[.slice A n c, .int .i64 a] w fun e w' => e = .returned (.tuple #[.int .i64 0, .iface 72 (.agg #[.int .i64 3])]) ∧ w = w' := by
  unfold maxLen at hc
  by_cases h0 : a < 0
  · clear h
    go_enter Tryd.func58, Tryd.ntmps58
    go_wp2
    go_ret2
    exact ⟨rfl, rfl⟩
  · have h1 : (n : Int) - 4 < a := by
      unfold inB at h; simp at h; omega
    clear h
    go_enter Tryd.func58, Tryd.ntmps58
    go_wp2
    go_ret2
    exact ⟨rfl, rfl⟩

def gfC (xs : List Int) (a : Int) : Int := if inB a 0 ((xs.length : Int) - 4) then hdC (gv xs a.toNat) else 3
def gfV (xs : List Int) (a : Int) : Int := if inB a 0 ((xs.length : Int) - 4) then hdV (gv xs a.toNat) else 0
theorem gf_ans (xs : List Int) (a : Int) : ansV (gfC xs a) (gfV xs a) = gfV xs a := by
  unfold gfC gfV
  split
  · exact hd_ans _
  · simp [ansV]
theorem getFix_any (A : Option Addr) (n c : Nat) (xs : List Int) (a : Int) (w : World) (h : Rd .u8 w A n xs) (hx : U8s xs) (hn : n ≤ c) (hc : c ≤ maxLen) :
    Calls Tryd.prog 58 #[.slice A n c, .int .i64 a] w fun e w' => e = .returned (.tuple #[.int .i64 (gfV xs a), errV (gfC xs a)]) ∧ ∃ m, w' = w.drewN m := by
  unfold gfV gfC
  rw [h.1]
  by_cases hi : inB a 0 ((n : Int) - 4) = true
  · rw [if_pos hi, if_pos hi]
    obtain ⟨h1, h2⟩ := inB_iff.1 hi
    obtain ⟨t, rfl⟩ : ∃ t : Nat, a = t := ⟨a.toNat, by omega⟩
    exact getFix_yes A n c xs t w h hx hn hc (by omega)
  · rw [if_neg hi, if_neg hi, errV_n (by decide)]
    exact (getFix_no A n c a w hn hc (by simpa using hi)).mono fun e w' ⟨h1, h2⟩ => ⟨h1, 0, h2.symm⟩
set_option maxHeartbeats 400000 in
theorem GetFix_any (A : Option Addr) (n c : Nat) (xs : List Int) (a : Int) (w : World) (hL : Laid w) (h : Rd .u8 w A n xs) (hx : U8s xs) (hn : n ≤ c) (hc : c ≤ maxLen) :
    Calls Tryd.prog 29 #[.slice A n c, .int .i64 a] w fun e w' => e = .returned (.agg #[.int .i64 (gfC xs a), .int .i64 (gfV xs a)]) ∧ Below w.heap.size w w' := by
  have H := Lib.hid h
  clear h
  go_enter Tryd.func29, Tryd.ntmps29
  go_wp2_with fail
  refine (getFix_any _ _ _ xs _ _ (H.out.alloc _) hx hn hc).mono ?_
  rintro e w' ⟨rfl, n, rfl⟩
  go_wp2_with fail
  refine (intAnswer_any _ _ _ ((hL.alloc _).drewN n)).mono ?_
  rintro e w1 ⟨rfl, hb⟩
  obtain ⟨hc, hf⟩ := bcell hb
  have hz : w.heap.size < w1.heap.size := by have := hb.size; simp at this; omega
  go_wp2_with fail
  refine bodyPost_ret (v := .agg #[.int .i64 (gfC xs a), .int .i64 (ansV (gfC xs a) (gfV xs a))]) (by simp [results, Tryd.results29, go_sem, hc]) rfl ⟨?_, by repeat (first | exact blThen ((blAlloc _ _).trans (below_drewN _ _ _)) hb | refine Below.setCell ?_ (by simp) _)⟩
  rw [gf_ans]

theorem acc4 (xs : List Int) (t : Nat) : acc xs t 4 = xs.getD t 0 * 16777216 + xs.getD (t + 1) 0 * 65536 + xs.getD (t + 2) 0 * 256 + xs.getD (t + 3) 0 := by
  simp only [acc, Nat.add_zero]; omega
set_option maxHeartbeats 1000000 in
theorem sGet_any (A : Option Addr) (n c : Nat) (xs : List Int) (t : Nat) (w : World) (h : Rd .u8 w A n xs) (hx : U8s xs) (hn : n ≤ c) (hc : c ≤ maxLen) (ht : t + 4 ≤ n) :
    Calls Tryd.prog 59 #[.slice A n c, .int .i64 t] w fun e w' => e = .returned (.int .i64 (gv xs t)) ∧ ∃ m, w' = w.drewN m := by
  unfold maxLen at hc
  obtain ⟨b, o, rfl, hcell⟩ := h.2 (by omega)
  obtain ⟨_, _, _, _, u0, u1⟩ := acc_bd xs t hx
  rw [acc4] at u0 u1
  have c0 := hcell t (by omega)
  have c1 := hcell (t + 1) (by omega)
  have c2 := hcell (t + 2) (by omega)
  have c3 := hcell (t + 3) (by omega)
  have HG : Hid (gv xs t = if xs.getD t 0 * 16777216 + xs.getD (t + 1) 0 * 65536 + xs.getD (t + 2) 0 * 256 + xs.getD (t + 3) 0 < 2147483648 then xs.getD t 0 * 16777216 + xs.getD (t + 1) 0 * 65536 + xs.getD (t + 2) 0 * 256 + xs.getD (t + 3) 0 else xs.getD t 0 * 16777216 + xs.getD (t + 1) 0 * 65536 + xs.getD (t + 2) 0 * 256 + xs.getD (t + 3) 0 - 4294967296) := by unfold gv; rw [acc4]; rfl
  obtain ⟨p0, q0⟩ := hx t
  obtain ⟨p1, q1⟩ := hx (t + 1)
  obtain ⟨p2, q2⟩ := hx (t + 2)
  obtain ⟨p3, q3⟩ := hx (t + 3)
  generalize xs.getD t 0 = y0 at *
  generalize xs.getD (t + 1) 0 = y1 at *
  generalize xs.getD (t + 2) 0 = y2 at *
  generalize xs.getD (t + 3) 0 = y3 at *
  clear h hcell hx
  go_enter Tryd.func59, Tryd.ntmps59
  go_wp2_with fail
  go_quiet (fail)
  go_wp2_with fail
  · go_ret
    exact ⟨ret_int (by rw [HG.out, if_neg (by omega)]), _, rfl⟩
  · go_ret
    exact ⟨ret_int (by rw [HG.out, if_pos (by omega)]), _, rfl⟩

set_option maxHeartbeats 400000 in
theorem sGetFix_any (A : Option Addr) (n c : Nat) (xs : List Int) (a : Int) (w : World) (h : Rd .u8 w A n xs) (hx : U8s xs) (hn : n ≤ c) (hc : c ≤ maxLen) :
    Calls Tryd.prog 31 #[.slice A n c, .int .i64 a] w fun e w' => e = .returned (.agg #[.int .i64 (gfC xs a), .int .i64 (gfV xs a)]) ∧ Below w.heap.size w w' := by
  have hm := hc
  unfold maxLen at hm
  unfold gfC gfV
  rw [h.1]
  have H := Lib.hid h
  clear h
  by_cases hi : inB a 0 ((n : Int) - 4) = true
  · rw [if_pos hi, if_pos hi]
    obtain ⟨h1, h2⟩ := inB_iff.1 hi
    obtain ⟨t, rfl⟩ : ∃ t : Nat, a = t := ⟨a.toNat, by omega⟩
    rw [Int.toNat_natCast]
    have ht : t + 4 ≤ n := by omega
    go_enter Tryd.func31, Tryd.ntmps31
    go_wp2_with (go_at_call 52; refine (sIn_any _ _ _ _).mono ?_; rintro e w' ⟨rfl, rfl⟩)
    refine (sGet_any _ _ _ xs _ _ (H.out.alloc _) hx hn hc ht).mono ?_
    rintro e w1 ⟨rfl, m, rfl⟩
    go_wp2_with fail
    refine (sHeld_any _ _).mono ?_
    rintro e w1 ⟨rfl, hb⟩
    obtain ⟨hc, hf⟩ := bcell hb
    have hz : w.heap.size < w1.heap.size := by have := hb.size; simp at this; omega
    go_wp2_with fail
    exact bodyPost_ret (v := .agg #[.int .i64 (hdC (gv xs t)), .int .i64 (hdV (gv xs t))]) (by simp [results, Tryd.results31, go_sem, hc]) rfl ⟨rfl, by repeat (first | exact blThen ((blAlloc _ _).trans (below_drewN _ _ _)) hb | refine Below.setCell ?_ (by simp) _)⟩
  · rw [if_neg hi, if_neg hi]
    have hi' : inB a 0 ((n : Int) - 4) = false := by simpa using hi
    clear hi
    go_enter Tryd.func31, Tryd.ntmps31
    go_wp2_with (go_at_call 52; refine (sIn_any _ _ _ _).mono ?_; rintro e w' ⟨rfl, rfl⟩)
    exact bodyPost_ret (v := .agg #[.int .i64 3, .int .i64 0]) (by simp [results, Tryd.results31, go_sem]) rfl ⟨rfl, blAlloc _ _⟩

theorem info_u8 : (Tryd.prog.info? 5).map (fun i => (i.zero, i.size, i.bytes)) = some (some (.int .u8 0), 1, 1) := by kernel_rfl
theorem made_cell (w : World) (z : Value) (n t : Nat) (e : TypeId) (ht : t < n) : (w.alloc (.cells (madeCells #[z] n) e)).cell? ⟨w.heap.size, t, none⟩ = some z := by
  simp [madeCells, ht, Nat.mod_one]
set_option maxHeartbeats 400000 in
theorem toByteS_any (A : Option Addr) (n c : Nat) (xs : List Int) (w : World) (h : Rd .u8 w A n xs) (hn : n ≤ 1000000000000) :
    Calls Tryd.prog 37 #[.slice A n c] w fun e w' => ∃ B, e = .returned (.slice B n n) ∧ Rd .u8 w' B n xs ∧ New w w' B n ∧ Below w.heap.size w w' := by
  have hmk := run_make_row' (P := Tryd.prog) 22 5 (.int .u8 0) 1 Tryd.underlying22 info_u8 rfl .i64 .i64 n (by omega) (by omega)
  have H := Lib.hid h
  clear h
  go_enter Tryd.func37, Tryd.ntmps37
  go_wp2_with fail
  clear hmk
  go_loopw [4] (fun i wr => ∃ j : Nat, j ≤ n ∧ i = .int .i64 j ∧ (∀ t, t < n → wr.cell? ⟨w.heap.size, t, none⟩ = some (.int .u8 (if t < j then xs.getD t 0 else 0))) ∧ Only (w.alloc (.cells (madeCells #[.int .u8 0] n) 5)) wr (some ⟨w.heap.size, 0, none⟩)) (fun i _ => n - (intOf i).toNat)
  case atStart => exact ⟨0, by omega, rfl, fun t ht => by simpa using made_cell w (.int .u8 0) n t 5 ht, Only.refl _ _⟩
  case round =>
    obtain ⟨j, hj, rfl, hcell, honly⟩ := hrel
    by_cases hlt : j < n
    · obtain ⟨b, o, rfl, hc⟩ := H.out.2 (by omega)
      have hbl := cell_lt (hc j hlt)
      have c1 : wr.cell? ⟨b, o + j, none⟩ = some (.int .u8 (xs.getD j 0)) := by
        rw [honly.cell_far (p := ⟨b, o + j, none⟩) (fun a e => by injection e with e; subst e; show w.heap.size ≠ b; omega), World.cell?_alloc_lt _ _ ⟨b, o + j, none⟩ hbl]; exact hc j hlt
      have c2 := hcell j hlt
      have f2 : wr.frozen? ⟨w.heap.size, j, none⟩ = false := by rw [honly.2.2.2.2.2]; simp
      have HCell := Lib.hid hcell
      have HOnly := Lib.hid honly
      clear hcell honly hc
      go_wp2_with fail
      go_roundw
      case rel =>
        refine ⟨j + 1, by omega, by go_num, fun t ht => ?_, HOnly.out.setCell _ _⟩
        by_cases e : t = j
        · subst e
          rw [if_pos (by omega), World.cell?_setCell_same' wr _ _ (by rw [c2]; rfl)]
          simp
        · rw [World.cell?_setCell_other _ _ _ _ (by simp; try omega), HCell.out t ht]
          by_cases h2 : t < j
          · rw [if_pos h2, if_pos (by omega)]
          · rw [if_neg h2, if_neg (by omega)]
      case measure => simp [intOf]; omega
    · obtain rfl : j = n := by omega
      have HCell := Lib.hid hcell
      have HOnly := Lib.hid honly
      clear hcell honly
      go_wp2
      go_ret
      refine ⟨_, rfl, ⟨H.out.1, fun _ => ⟨w.heap.size, 0, rfl, fun i hi => ?_⟩⟩, .inr ⟨w.heap.size, 0, rfl, Nat.le_refl _, ?_, fun i hi => ?_⟩, (blAlloc _ _).trans (HOnly.out.below (fun a e => by injection e with e; subst e; exact Nat.le_refl _))⟩
      · have := HCell.out i hi
        rw [if_pos hi] at this
        simpa using this
      · rw [HOnly.out.2.2.2.1]; simp
      · rw [HOnly.out.2.2.2.2.2]; simp
/-- an argument of bytes, as the frame opens it. -/
theorem IsRow.rd {w : World} {a : Option Addr} {len cap : Nat} {zs : List Int} (h : IsRow .u8 w a len cap zs) : Rd .u8 w a len (zs.take len) ∧ U8s (zs.take len) ∧ len ≤ cap ∧ cap ≤ maxLen := by
  rcases h with ⟨rfl, rfl, rfl, rfl⟩ | ⟨⟨b, o, sp⟩, rfl, hl, hm, hz, hcell, hwf⟩
  · exact ⟨Rd.nil, fun i => by simp, Nat.le_refl _, Nat.zero_le _⟩
  · have hlen : (zs.take len).length = len := by simp; omega
    have hget : ∀ i, i < len → (zs.take len).getD i 0 = zs.getD i 0 := fun i hi => by simp [List.getD, hi]
    refine ⟨⟨hlen, fun hp => ?_⟩, fun i => ?_, hl, hm⟩
    · obtain rfl : sp = none := by
        have := hcell 0 (by omega)
        simpa [Addr.add] using World.cell?_spot this
      refine ⟨b, o, rfl, fun i hi => ?_⟩
      rw [hget i hi]
      have := hcell i (by omega)
      by_cases h0 : i = 0
      · subst h0; simpa [Addr.add] using this
      · simpa [Addr.add, h0] using this
    · by_cases hi : i < len
      · rw [hget i hi]
        have : zs.getD i 0 ∈ zs := by
          rw [List.getD_eq_getElem?_getD, List.getElem?_eq_getElem (by omega)]; simp
        exact bounds_u8 (hwf _ this)
      · have : (zs.take len).getD i 0 = 0 := by simp [List.getD, List.getElem?_take, hi]
        rw [this]; omega
end Go.Proofs.YtfheofbgoaggmaaDoor
