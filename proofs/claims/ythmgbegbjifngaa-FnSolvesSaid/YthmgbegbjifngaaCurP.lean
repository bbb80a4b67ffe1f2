/-
  PackCurve, by the program and by the reference model.
-/
import Derived.Test.YthmgbegbjifngaaCur2
import Derived.Test.YthmgbegbjifngaaTwo
import Derived.Test.YthmgbegbjifngaaGrow
import Derived.Deep.RegionHeldLaw
namespace Go.Proofs.Ythmgbegbjifngaa
open Go.RowKit
set_option linter.unusedVariables false

/-- how many points, and the first k of them. -/
def pkAt (ps : List Int) : Nat → List Int
  | 0 => [(ps.length : Int)]
  | k + 1 => pkAt ps k ++ two (pt ps k).toNat
theorem two_len (v : Nat) : (two v).length = 2 := rfl
theorem pkAt_len (ps : List Int) (k : Nat) : (pkAt ps k).length = 1 + 2 * k := by
  induction k with
  | zero => rfl
  | succ k ih => rw [pkAt, List.length_append, ih, two_len]; omega
def pkB (ps : List Int) : List Int := if cf ps = 0 then pkAt ps ps.length else []
theorem pkB_len (ps : List Int) : (pkB ps).length ≤ 35 := by
  unfold pkB
  split
  · rename_i h
    have := (cfine h).hi
    rw [pkAt_len]; omega
  · simp
set_option maxRecDepth 100000 in
set_option maxHeartbeats 1000000 in
theorem PackCurve_any (A : Option Addr) (n c : Nat) (ps : List Int) (w : World) (h : Rd .i64 w A n ps) (hm : n ≤ maxLen) :
    Calls Try.prog 36 #[.agg #[.slice A n c]] w (BAns w (cf ps) (pkB ps)) := by
  have H := Lib.hid h
  clear h
  go_enter Try.func36, Try.ntmps36
  go_wp2_with fail
  refine (CurveFault_any _ _ _ ps _ ((H.out.alloc _).alloc _) hm).mono ?_
  rintro e w1 ⟨rfl, hb⟩
  obtain ⟨hc, hf⟩ := bcell hb
  have hz : w.heap.size + 1 < w1.heap.size := by have := hb.size; simp at this; omega
  have hz0 : w.heap.size < w1.heap.size := by omega
  have T := Lib.hid (blThen (blThenAlloc (blAlloc w _) _) hb)
  by_cases hk : cf ps = 0
  · have HF := cfine hk
    have hlo := HF.lo
    have hhi := HF.hi
    rw [H.out.1] at hlo hhi
    have HLV := Lib.hid HF.lv
    have HK := Lib.hid hk
    have HPB : Hid (pkB ps = pkAt ps n) := by show _ = _; unfold pkB; rw [if_pos hk, H.out.1]
    have HP0 : Hid (pkAt ps 0 = [(n : Int)]) := by show [(ps.length : Int)] = [(n : Int)]; rw [H.out.1]
    have x0 : w1.cell? ⟨w.heap.size, 0, none⟩ = some (.slice A n c) := by rw [hc _ _ (by simp; omega)]; simp
    have x1 : w1.cell? ⟨w.heap.size + 1, 0, none⟩ = some (.int .i64 0) := by rw [hc _ _ (by simp)]; simp
    have x2 : w1.cell? ⟨w.heap.size + 1, 1, none⟩ = some (.slice none 0 0) := by rw [hc _ _ (by simp)]; simp
    have tx : Hid (Thaw w1 (w.heap.size + 1)) := fun i => by rw [hf _ _ (by simp)]; simp
    have HR := Lib.hid (((H.out.alloc (.cells #[.slice A n c] 43)).alloc (.cells #[.int .i64 0, .slice none 0 0] 33)).below hb)
    have X1 := Lib.hid x1
    have X2 := Lib.hid x2
    have u8n : IntKind.u8.wrap (n : Int) = (n : Int) := by rw [IntKind.wrap_u8]; omega
    rw [hk]
    clear hb HF hc hf hk
    have hown0 : OwnB (w1.alloc (.cells #[.int .u8 (n : Int)] 5)) (w.heap.size + 2) (.slice (some ⟨w1.heap.size, 0, none⟩) 1 1) 1 (pkAt ps 0) := by
      rw [HP0.out]
      exact OwnB.lit w1 [(n : Int)] (w.heap.size + 2) 1 rfl (by omega) (by unfold maxLen; omega)
    have HO0 := Lib.hid hown0
    clear hown0
    go_wp2_with fail
    clear u8n x1 x2
    go_loopw [4, 21] (fun d i wr => ∃ (k g cap : Nat), k ≤ n ∧ i = .int .i64 k ∧ d = .slice (some ⟨g, 0, none⟩) (1 + 2 * k) cap ∧ OwnB wr (w.heap.size + 2) (.slice (some ⟨g, 0, none⟩) (1 + 2 * k) cap) (1 + 2 * k) (pkAt ps k) ∧ Below (w.heap.size + 2) w1 wr) (fun _ i _ => n - (intOf i).toNat)
    case atStart => exact ⟨0, w1.heap.size, 1, by omega, rfl, rfl, HO0.out, (Below.refl _ _).alloc (by omega) _⟩
    case round =>
      obtain ⟨k, g, cap, hkn, rfl, rfl, hown, hbl⟩ := hrel
      have HO := Lib.hid hown
      have HBL := Lib.hid hbl
      by_cases hlt : k < n
      · obtain ⟨b, o, rfl, hcl⟩ := H.out.2 (by omega)
        have hbw : b < w.heap.size := cell_lt (hcl k hlt)
        have c1 : wr.cell? ⟨b, o + k, none⟩ = some (.int .i64 (pt ps k)) := by
          rw [hbl.cell (p := ⟨b, o + k, none⟩) (by show b < _; omega)]
          obtain ⟨b', o', e, hc'⟩ := HR.out.2 (by omega)
          injection e with e
          injection e with e1 e2
          subst e1 e2
          exact hc' k hlt
        obtain ⟨l0, l1⟩ := HLV.out k
        obtain ⟨P, hP⟩ : ∃ P : Nat, pt ps k = P := ⟨(pt ps k).toNat, by omega⟩
        have HPK : Hid (pkAt ps (k + 1) = pkAt ps k ++ two P) := by show _ = _; rw [pkAt, hP, Int.toNat_natCast]
        rw [hP] at c1 l0 l1
        have hsz : w.heap.size + 2 ≤ wr.heap.size := Nat.le_trans (by omega) hbl.size
        clear hown hbl hcl hP
        go_wp2_with fail
        refine (putTwo_any (w.heap.size + 2) g (1 + 2 * k) cap (pkAt ps k) P _ HO.out (by omega) (by omega) hsz).mono ?_
        rintro e w2 ⟨v, rfl, hown2, hg2⟩
        obtain ⟨g2, cap2, rfl, q1, q2, q3, q4⟩ := hown2.form
        have hgb := gb_to_below hg2 (B := w.heap.size + 2) (by obtain ⟨g', cap', e, q, _⟩ := HO.out.form; injection e with e; injection e with e; injection e with e; omega) hsz
        have HO2 := Lib.hid hown2
        have HB2 := Lib.hid (HBL.out.trans hgb)
        clear hown2 hg2 hgb
        go_wp2_with fail
        go_roundw
        case rel => exact ⟨k + 1, g2, cap2, by omega, by go_num, rfl, by rw [HPK.out]; exact HO2.out, HB2.out⟩
        case measure => simp [intOf]; omega
      · obtain rfl : k = n := by omega
        have y1 : wr.cell? ⟨w.heap.size + 1, 0, none⟩ = some (.int .i64 0) := by rw [hbl.cell (p := ⟨w.heap.size + 1, 0, none⟩) (by show w.heap.size + 1 < _; omega)]; exact X1.out
        have y2 : wr.cell? ⟨w.heap.size + 1, 1, none⟩ = some (.slice none 0 0) := by rw [hbl.cell (p := ⟨w.heap.size + 1, 1, none⟩) (by show w.heap.size + 1 < _; omega)]; exact X2.out
        have f1 : ∀ i, wr.frozen? ⟨w.heap.size + 1, i, none⟩ = false := fun i => by rw [hbl.frozen (p := ⟨w.heap.size + 1, i, none⟩) (by show w.heap.size + 1 < _; omega)]; exact tx.out i
        clear hown hbl
        go_wp2_with fail
        refine bodyPost_ret (v := .agg #[.int .i64 0, .slice (some ⟨g, 0, none⟩) (1 + 2 * k) cap]) (by simp [results, Try.results36, go_sem, y1, y2]) rfl ?_
        rw [HPB.out, HK.out]
        refine ⟨_, _, _, rfl, ?_, ?_⟩
        · refine Own.mono (lo := w.heap.size + 2) (hi := wr.heap.size) ?_ (by omega) (by simp [World.setCell])
          repeat (first | exact HO.out.own | refine Own.set ?_ (.inl (by omega)) _ _)
        · have hT : Below w.heap.size w wr := T.out.trans (HBL.out.mono (by omega))
          repeat (first | exact hT | refine Below.setCell ?_ (by simp) _)
  · have HPB : Hid (pkB ps = []) := by show _ = _; unfold pkB; rw [if_neg hk]
    have hk' : (cf ps == 0) = false := by simpa using hk
    clear hk hb
    generalize cf ps = q at *
    go_wp2_with fail
    refine bodyPost_ret (v := .agg #[.int .i64 q, .slice none 0 0]) (by simp [results, Try.results36, go_sem, hc]) rfl ?_
    rw [HPB.out]
    refine BAns.nothing ?_
    repeat (first | exact T.out | refine Below.setCell ?_ (by simp) _)

/-! ### the reference model's -/
theorem two_wrap (P : Nat) (h : P ≤ 65535) : [IntKind.u8.wrap (IntKind.i64.wrap ((P : Int) / 256)), IntKind.u8.wrap ((P : Int) % 256)] = two P := by
  unfold two
  rw [IntWalk.i64_in _ (by omega), IntKind.wrap_u8, IntKind.wrap_u8]
  simp only [List.cons.injEq, and_true]
  omega
def PkAns (w : World) (n : Nat) (xs : List Int) (e : Ending) (w' : World) : Prop := ∃ v, e = .returned v ∧ OwnB w' w.heap.size v n xs ∧ Below w.heap.size w w'
set_option maxRecDepth 100000 in
set_option maxHeartbeats 2000000 in
theorem sPack_any (g0 o0 : Nat) (A : Option Addr) (n c : Nat) (ps : List Int) (w : World) (hg : w.cell? ⟨g0, o0, none⟩ = some (.slice A n c)) (h : Rd .i64 w A n ps) (hf : CFine ps) :
    Calls Try.prog 90 #[.pointer (some ⟨g0, o0, none⟩)] w (PkAns w (1 + 2 * n) (pkAt ps n)) := by
  have hlo := hf.lo
  have hhi := hf.hi
  rw [h.1] at hlo hhi
  have HLV := Lib.hid hf.lv
  have HP0 : Hid (pkAt ps 0 = [(n : Int)]) := by show [(ps.length : Int)] = [(n : Int)]; rw [h.1]
  have H := Lib.hid h
  have HG := Lib.hid hg
  have u8n : IntKind.u8.wrap (n : Int) = (n : Int) := by rw [IntKind.wrap_u8]; omega
  have HO0 : Hid (OwnB (w.alloc (.cells #[.int .u8 (n : Int)] 5)) w.heap.size (.slice (some ⟨w.heap.size, 0, none⟩) 1 1) 1 (pkAt ps 0)) := by
    show OwnB _ _ _ _ _
    rw [HP0.out]
    exact OwnB.lit w [(n : Int)] w.heap.size 1 rfl (Nat.le_refl _) (by unfold maxLen; omega)
  have hgl := cell_lt hg
  clear h hf
  go_enter Try.func90, Try.ntmps90
  go_wp2_with fail
  clear u8n hg
  go_loopw [3, 4] (fun d i wr => ∃ (k g cap : Nat), k ≤ n ∧ i = .int .i64 k ∧ d = .slice (some ⟨g, 0, none⟩) (1 + 2 * k) cap ∧ OwnB wr w.heap.size (.slice (some ⟨g, 0, none⟩) (1 + 2 * k) cap) (1 + 2 * k) (pkAt ps k) ∧ Below w.heap.size w wr) (fun _ i _ => n - (intOf i).toNat)
  case atStart => exact ⟨0, w.heap.size, 1, by omega, rfl, rfl, HO0.out, blAlloc _ _⟩
  case round =>
    obtain ⟨k, g, cap, hkn, rfl, rfl, hown, hbl⟩ := hrel
    have HO := Lib.hid hown
    have HBL := Lib.hid hbl
    have x0 : wr.cell? ⟨g0, o0, none⟩ = some (.slice A n c) := by rw [hbl.cell (p := ⟨g0, o0, none⟩) hgl]; exact HG.out
    by_cases hlt : k < n
    · obtain ⟨b, o, rfl, hcl⟩ := (H.out.below hbl).2 (by omega)
      have c1 : wr.cell? ⟨b, o + k, none⟩ = some (.int .i64 (pt ps k)) := hcl k hlt
      obtain ⟨l0, l1⟩ := HLV.out k
      obtain ⟨P, hP⟩ : ∃ P : Nat, pt ps k = P := ⟨(pt ps k).toNat, by omega⟩
      have HPK : Hid (pkAt ps (k + 1) = pkAt ps k ++ two P) := by show _ = _; rw [pkAt, hP, Int.toNat_natCast]
      rw [hP] at c1 l0 l1
      have hsz : w.heap.size ≤ wr.heap.size := hbl.size
      have HTW := Lib.hid (two_wrap P (by omega))
      have C0 : Hid (w.cell? ⟨b, o + k, none⟩ = some (.int .i64 (P : Int))) := by
        show _ = _
        obtain ⟨b', o', e, hc'⟩ := H.out.2 (by omega)
        injection e with e
        injection e with e1 e2
        subst e1 e2
        rw [← hP]; exact hc' k hlt
      have htm : Int.tmod (P : Int) 256 = (P : Int) % 256 := Int.tmod_eq_emod_of_nonneg (by omega)
      clear hown hbl hcl hP
      go_wp2_with fail
      go_region_held_law (fun w' => w'.cell? ⟨g0, o0, none⟩ = some (.slice (some ⟨b, o, none⟩) n c) ∧ w'.cell? ⟨b, o + k, none⟩ = some (.int .i64 (P : Int))) (first | exact ⟨x0, c1⟩ | exact ⟨cell_later bb HG.out, cell_later bb C0.out⟩ | exact ⟨cell_later (blAlloc _ _).drew x0, cell_later (blAlloc _ _).drew c1⟩)
        (first | (refine step_append_bytes _ rfl _ _ rfl w.heap.size (.slice (some ⟨g, 0, none⟩) (1 + 2 * k) cap) (1 + 2 * k) (pkAt ps k) rfl ((HO.out.alloc _).below (below_drewN _ 1 _)) (some ⟨wr.heap.size, 0, none⟩) 2 2 [IntKind.u8.wrap (IntKind.i64.wrap ((P : Int) / 256)), IntKind.u8.wrap ((P : Int) % 256)] rfl ((rd_lits wr [IntKind.u8.wrap (IntKind.i64.wrap ((P : Int) / 256)), IntKind.u8.wrap ((P : Int) % 256)] 5).drewN 1) (by omega) (by simp; omega) ?_; intro v5 w5 ho5 hg5; obtain ⟨g5, c5, rfl, q5⟩ := ho5.form; have bb := (HBL.out.trans ((Below.refl w.heap.size wr).alloc hsz (.cells #[.int .u8 (IntKind.u8.wrap (IntKind.i64.wrap ((P : Int) / 256))), .int .u8 (IntKind.u8.wrap ((P : Int) % 256))] 5))).trans ((Below.refl _ _).drew.trans (gb_low' hg5 (base := w.heap.size) ((HO.out.alloc (.cells #[.int .u8 (IntKind.u8.wrap (IntKind.i64.wrap ((P : Int) / 256))), .int .u8 (IntKind.u8.wrap ((P : Int) % 256))] 5)).at) (Nat.le_refl _) (by simp; omega)))))
      have HO5 : Hid (OwnB w5 w.heap.size (.slice (some ⟨g5, 0, none⟩) (1 + 2 * (k + 1)) c5) (1 + 2 * (k + 1)) (pkAt ps (k + 1))) := by
        show OwnB _ _ _ _ _
        rw [HPK.out, ← HTW.out]; exact ho5
      have HB5 := Lib.hid bb
      clear ho5 hg5 q5 bb
      go_wp2_with fail
      go_roundw
      case rel => exact ⟨k + 1, g5, c5, by omega, by go_num, rfl, HO5.out, HB5.out⟩
      case measure => simp [intOf]; omega
    · obtain rfl : k = n := by omega
      clear hown hbl
      go_wp2_with fail
      go_ret
      exact ⟨_, rfl, HO.out, HBL.out⟩
set_option maxHeartbeats 1000000 in
theorem sPackCurve_any (A : Option Addr) (n c : Nat) (ps : List Int) (w : World) (h : Rd .i64 w A n ps) (hm : n ≤ maxLen) :
    Calls Try.prog 39 #[.agg #[.slice A n c]] w (BAns w (cf ps) (pkB ps)) := by
  have H := Lib.hid h
  clear h
  go_enter Try.func39, Try.ntmps39
  go_wp2_with fail
  refine (sFault3_any _ _ A n c ps _ (by simp) ((H.out.alloc _).alloc _) hm).mono ?_
  rintro e w1 ⟨rfl, rfl⟩
  by_cases hk : cf ps = 0
  · have HK := Lib.hid hk
    have HPB : Hid (pkB ps = pkAt ps n) := by show _ = _; unfold pkB; rw [if_pos hk, H.out.1]
    rw [hk]
    clear hk
    go_wp2_with fail
    refine (sPack_any _ _ A n c ps _ (by simp) ((H.out.alloc _).alloc _) (cfine HK.out)).mono ?_
    rintro e w1 ⟨v, rfl, hown, hb⟩
    obtain ⟨g, cap, rfl, q1, q2, q3, q4⟩ := hown.form
    obtain ⟨hc, hf⟩ := bcell hb
    have hz : w.heap.size + 1 < w1.heap.size := by have := hb.size; simp at this; omega
    have T := Lib.hid (blThen (blThenAlloc (blAlloc w _) _) hb)
    have HO := Lib.hid hown
    clear hown hb
    go_wp2_with fail
    refine bodyPost_ret (v := .agg #[.int .i64 0, .slice (some ⟨g, 0, none⟩) (1 + 2 * n) cap]) (by simp [results, Try.results39, go_sem, hc]) rfl ?_
    rw [HPB.out, HK.out]
    refine ⟨_, _, _, rfl, ?_, ?_⟩
    · refine Own.mono (lo := w.heap.size + 2) (hi := w1.heap.size) ?_ (by omega) (by simp [World.setCell])
      repeat (first | exact HO.out.own.mono (by simp) (Nat.le_refl _) | refine Own.set ?_ (.inl (by omega)) _ _)
    · repeat (first | exact T.out | refine Below.setCell ?_ (by simp) _)
  · have HPB : Hid (pkB ps = []) := by show _ = _; unfold pkB; rw [if_neg hk]
    have hk' : (cf ps == 0) = false := by simpa using hk
    clear hk
    generalize cf ps = q at *
    go_wp2_with fail
    refine bodyPost_ret (v := .agg #[.int .i64 q, .slice none 0 0]) (by simp [results, Try.results39, go_sem]) rfl ?_
    rw [HPB.out]
    refine BAns.nothing ?_
    repeat (first | exact blThenAlloc (blAlloc w _) _ | refine Below.setCell ?_ (by simp) _)
end Go.Proofs.Ythmgbegbjifngaa
