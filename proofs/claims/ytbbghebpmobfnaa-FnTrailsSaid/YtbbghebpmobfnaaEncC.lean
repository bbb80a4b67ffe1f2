/-
  A profile written, behind a code: the reference model's l2Encode at the second field.
-/
import Derived.Test.YtbbghebpmobfnaaEncS
import Derived.Test.YtbbghebpmobfnaaParS3
import Derived.Test.YtbbghebpmobfnaaEnc2
import Derived.Deep.RegionHeldLaw
import Derived.Lib.ConvBytes
namespace Go.Proofs.Ytbbghebpmobfnaa
open Go.RowKit
set_option linter.unusedVariables false

set_option maxRecDepth 100000 in
set_option maxHeartbeats 4000000 in
theorem sEncode1_any (g0 : Nat) (A : Option Addr) (n c : Nat) (cl : Int) (ts : List Tg) (bs : List Nat) (w : World) (hg : w.cell? ⟨g0, 1, none⟩ = some (.int .i64 cl) ∧ w.cell? ⟨g0, 2, none⟩ = some (.slice A n c)) (h : Hd w (tagsD ts) (.slice A n c) bs) (hf : Fine cl ts) :
    Calls Try.prog 54 #[.pointer (some ⟨g0, 1, none⟩)] w fun e w' => ∃ v, e = .returned v ∧ OwnB w' w.heap.size v (endAt ts n) (bodyAt cl ts n) ∧ Below w.heap.size w w' := by
  have HL := Lib.hid h.tags.1
  have h8 : n ≤ 8 := by rw [← h.tags.1]; exact hf.len
  have c1 := hf.lo
  have c3 := hf.hi
  have H := Lib.hid h
  have HF := Lib.hid hf
  have HG := Lib.hid hg
  obtain ⟨x0, x1⟩ := hg
  have hlt0 := cell_lt x0
  have kA : (convert 22 22 (.slice (some ⟨w.heap.size, 0, none⟩) 4 4)).run Try.prog (w.alloc (.cells #[.int .u8 112, .int .u8 114, .int .u8 111, .int .u8 102] 5)).drew = .ok (.slice (some ⟨w.heap.size, 0, none⟩) 4 4) (w.alloc (.cells #[.int .u8 112, .int .u8 114, .int .u8 111, .int .u8 102] 5 (4, 5))).drew := Lib.run_convert_bytes_const (P := Try.prog) w.drew 22 5 #[.int .u8 112, .int .u8 114, .int .u8 111, .int .u8 102] 4 4 Try.underlying22 Try.underlying5
  have kB : (convert 22 22 (.slice (some ⟨w.heap.size, 0, none⟩) 4 4)).run Try.prog ((w.alloc (.cells #[.int .u8 112, .int .u8 114, .int .u8 111, .int .u8 102] 5)).alloc (.cells #[.int .u8 cl, .int .u8 (n : Int)] 5)).drew = .ok (.slice (some ⟨w.heap.size, 0, none⟩) 4 4) ((w.alloc (.cells #[.int .u8 112, .int .u8 114, .int .u8 111, .int .u8 102] 5 (4, 5))).alloc (.cells #[.int .u8 cl, .int .u8 (n : Int)] 5)).drew := convert_early w.drew _ #[.int .u8 112, .int .u8 114, .int .u8 111, .int .u8 102] 4 4
  have kC : (convert 22 22 (.slice (some ⟨w.heap.size + 1, 0, none⟩) 4 4)).run Try.prog ((w.alloc (.cells #[.int .u8 cl, .int .u8 (n : Int)] 5)).alloc (.cells #[.int .u8 112, .int .u8 114, .int .u8 111, .int .u8 102] 5)).drew = .ok (.slice (some ⟨w.heap.size + 1, 0, none⟩) 4 4) ((w.alloc (.cells #[.int .u8 cl, .int .u8 (n : Int)] 5)).alloc (.cells #[.int .u8 112, .int .u8 114, .int .u8 111, .int .u8 102] 5 (4, 5))).drew := by
    have := Lib.run_convert_bytes_const (P := Try.prog) (w.alloc (.cells #[.int .u8 cl, .int .u8 (n : Int)] 5)).drew 22 5 #[.int .u8 112, .int .u8 114, .int .u8 111, .int .u8 102] 4 4 Try.underlying22 Try.underlying5
    have e : (w.alloc (.cells #[.int .u8 cl, .int .u8 (n : Int)] 5)).drew.heap.size = w.heap.size + 1 := by simp
    rw [e] at this
    exact this
  have R1 : Hid (Rd .u8 ((w.alloc (.cells #[.int .u8 112, .int .u8 114, .int .u8 111, .int .u8 102] 5 (4, 5))).alloc (.cells #[.int .u8 cl, .int .u8 (n : Int)] 5)).drew (some ⟨w.heap.size, 0, none⟩) 4 [112, 114, 111, 102]) := ((rd_marks w [112, 114, 111, 102] 5 (4, 5)).alloc (.cells #[.int .u8 cl, .int .u8 (n : Int)] 5)).drewN 1
  have R2 : Hid (Rd .u8 ((w.alloc (.cells #[.int .u8 112, .int .u8 114, .int .u8 111, .int .u8 102] 5 (4, 5))).alloc (.cells #[.int .u8 cl, .int .u8 (n : Int)] 5)).drew (some ⟨w.heap.size + 1, 0, none⟩) 2 [cl, (n : Int)]) := by
    have := (rd_lits (w.alloc (.cells #[.int .u8 112, .int .u8 114, .int .u8 111, .int .u8 102] 5 (4, 5))) [cl, (n : Int)] 5).drewN 1
    simp only [World.size_alloc] at this
    exact this
  have Q1 : Hid (Rd .u8 ((w.alloc (.cells #[.int .u8 cl, .int .u8 (n : Int)] 5)).alloc (.cells #[.int .u8 112, .int .u8 114, .int .u8 111, .int .u8 102] 5 (4, 5))).drew (some ⟨w.heap.size + 1, 0, none⟩) 4 [112, 114, 111, 102]) := by
    have := (rd_marks (w.alloc (.cells #[.int .u8 cl, .int .u8 (n : Int)] 5)) [112, 114, 111, 102] 5 (4, 5)).drewN 1
    simp only [World.size_alloc] at this
    exact this
  have Q2 : Hid (Rd .u8 ((w.alloc (.cells #[.int .u8 cl, .int .u8 (n : Int)] 5)).alloc (.cells #[.int .u8 112, .int .u8 114, .int .u8 111, .int .u8 102] 5 (4, 5))).drew (some ⟨w.heap.size, 0, none⟩) 2 [cl, (n : Int)]) := ((rd_lits w [cl, (n : Int)] 5).alloc (.cells #[.int .u8 112, .int .u8 114, .int .u8 111, .int .u8 102] 5 (4, 5))).drewN 1
  have BA : Hid (Below w.heap.size w ((w.alloc (.cells #[.int .u8 112, .int .u8 114, .int .u8 111, .int .u8 102] 5 (4, 5))).alloc (.cells #[.int .u8 cl, .int .u8 (n : Int)] 5)).drew) := (blThenAlloc (blAlloc w _) _).drew
  have BC : Hid (Below w.heap.size w ((w.alloc (.cells #[.int .u8 cl, .int .u8 (n : Int)] 5)).alloc (.cells #[.int .u8 112, .int .u8 114, .int .u8 111, .int .u8 102] 5 (4, 5))).drew) := (blThenAlloc (blAlloc w _) _).drew
  have u1 : IntKind.u8.wrap cl = cl := by rw [IntKind.wrap_u8]; omega
  have u2 : IntKind.u8.wrap (n : Int) = (n : Int) := by rw [IntKind.wrap_u8]; omega
  clear h hf
  go_enter Try.func54, Try.ntmps54
  go_wp2_with fail
  go_region_held_law (fun w' => w'.cell? ⟨g0, 1, none⟩ = some (.int .i64 cl) ∧ w'.cell? ⟨g0, 2, none⟩ = some (.slice A n c)) (first | exact ⟨x0, x1⟩ | exact ⟨cell_later bb x0, cell_later bb x1⟩ | exact ⟨cell_later (blAlloc _ _).drew x0, cell_later (blAlloc _ _).drew x1⟩ | exact ⟨cell_later (blThenAlloc (blAlloc _ _) _).drew x0, cell_later (blThenAlloc (blAlloc _ _) _).drew x1⟩) (first | (refine step_append_full _ rfl _ _ rfl w.heap.size w.heap.size 0 4 [112, 114, 111, 102] rfl R1.out (by omega) (w.heap.size + 1) 0 2 2 [cl, (n : Int)] rfl R2.out (by omega) (by omega) BA.out.size ?_; intro v1 w1 hown1 hb1; have bb := blThen BA.out hb1; clear hb1) | (refine step_append_full _ rfl _ _ rfl w.heap.size (w.heap.size + 1) 0 4 [112, 114, 111, 102] rfl Q1.out (by omega) w.heap.size 0 2 2 [cl, (n : Int)] rfl Q2.out (by omega) (by omega) BC.out.size ?_; intro v1 w1 hown1 hb1; have bb := blThen BC.out hb1; clear hb1))
  all_goals
    obtain ⟨g1, cap1, hv1, gl1, gu1, gc1, gm1⟩ := hown1.form
    subst hv1
    have HO1 := Lib.hid hown1
    have T1 := Lib.hid bb
    clear hown1 bb u1 u2 kA kB kC R1 R2 Q1 Q2 BA BC
  all_goals
    obtain ⟨b0, b1⟩ : w1.cell? ⟨g0, 1, none⟩ = some (.int .i64 cl) ∧ w1.cell? ⟨g0, 2, none⟩ = some (.slice A n c) := ⟨cell_later T1.out x0, cell_later T1.out x1⟩
    go_wp2_with fail
    clear b0 b1
    go_loopw [3, 4, 5, 6] (fun d q i _ wr => ∃ (k g cap : Nat), k ≤ n ∧ i = .int .i64 k ∧ q = .int .i64 (endAt ts k : Nat) ∧ d = .slice (some ⟨g, 0, none⟩) (6 + 8 * k) cap ∧ OwnB wr w.heap.size (.slice (some ⟨g, 0, none⟩) (6 + 8 * k) cap) (6 + 8 * k) (hdB cl ts k) ∧ Below w.heap.size w wr) (fun _ _ i _ _ => n - (intOf i).toNat)
    case atStart =>
      refine ⟨0, g1, cap1, by omega, rfl, ?_, rfl, ?_, T1.out⟩
      · rw [endAt, HL.out]; go_num
      · have := HO1.out
        simpa [hdB, tabAt, HL.out] using this
    case round =>
      obtain ⟨k, g, cap, hk, rfl, rfl, rfl, ho, hb⟩ := hrel
      have HO := Lib.hid ho
      have HB := Lib.hid hb
      obtain ⟨g', cap', e', gl, gu, gc, gm⟩ := ho.form
      cases e'
      have hwz := hb.size
      have b0 := cell_later hb x0
      have b1 := cell_later hb x1
      clear ho hb T1 HO1
      by_cases hlt : k < n
      · obtain ⟨b, o, B1, L1, C1, gg, rfl, y1, y2, y3, -⟩ := (H.out.bel HB.out).tag hlt
        have h4 := nm_size (HF.out.name k (by rw [HL.out]; exact hlt))
        have hL2 : L1 ≤ 96 := by rw [← y3.rd.1]; exact HF.out.bhi k (by rw [HL.out]; exact hlt)
        have HR := Lib.hid y3.rd.1
        have he := endAt_le' HF.out (i := k) (by rw [HL.out]; omega)
        have hp : padI (endAt ts k) ≤ 880 := by unfold padI; omega
        obtain ⟨W2, cp, hcv, hrd2, hb2⟩ := convert_text wr (tg ts k).1
        rw [h4] at hcv hrd2
        have H4 := Lib.hid h4
        clear h4
        have R2 := Lib.hid hrd2
        have HO2 := Lib.hid (HO.out.below hb2)
        have hz2 := hb2.size
        have HB2 := Lib.hid (blThen HB.out hb2)
        clear y3 hrd2 hb2
        go_wp2_with (first | (go_at_call 73; refine (sPad_any _ _ (by omega)).mono ?_; rintro e w' ⟨rfl, rfl⟩) | (at_builtin; (refine wpList_append_bytes _ rfl (.tmp 50) _ rfl w.heap.size (.slice (some ⟨g, 0, none⟩) (6 + 8 * k) cap) (6 + 8 * k) (hdB cl ts k) rfl HO2.out (some ⟨wr.heap.size, 0, none⟩) 4 cp (nb (tg ts k).1) rfl R2.out (by omega) (by omega) ?_; intro v3 w3 hown3 hg3; obtain ⟨g3, cap3, hv3, gl3, gu3, gc3, gm3⟩ := hown3.form; rw [hv3] at hown3 ⊢; have HO3 := Lib.hid (hown3.alloc (.cells #[.int .u8 ((padI (endAt ts k) : Nat) / 256 : Int), .int .u8 ((padI (endAt ts k) : Nat) % 256 : Int), .int .u8 ((L1 : Int) / 256), .int .u8 ((L1 : Int) % 256)] 5)); have HG3 : Hid (World.grownBy W2 w3 (some g)) := hg3; have hz3 := HG3.out.size; have HB3 := Lib.hid (HB2.out.trans (gb_to_below (B := w.heap.size) HG3.out gl (by omega))); have HBS : Hid (w.heap.size ≤ (w3.alloc (.cells #[.int .u8 ((padI (endAt ts k) : Nat) / 256 : Int), .int .u8 ((padI (endAt ts k) : Nat) % 256 : Int), .int .u8 ((L1 : Int) / 256), .int .u8 ((L1 : Int) % 256)] 5)).heap.size) := (by show _ ≤ _; simp only [World.size_alloc]; omega); clear hown3 hg3 hv3 hcv)) | (at_builtin; (refine wpList_append_bytes _ rfl (.tmp 61) _ rfl w.heap.size (.slice (some ⟨g3, 0, none⟩) (6 + 8 * k + 4) cap3) (6 + 8 * k + 4) (hdB cl ts k ++ nb (tg ts k).1) rfl HO3.out (some ⟨w3.heap.size, 0, none⟩) 4 4 [((padI (endAt ts k) : Nat) : Int) / 256, ((padI (endAt ts k) : Nat) : Int) % 256, (L1 : Int) / 256, (L1 : Int) % 256] rfl (rd_lits w3 [((padI (endAt ts k) : Nat) : Int) / 256, ((padI (endAt ts k) : Nat) : Int) % 256, (L1 : Int) / 256, (L1 : Int) % 256] 5) (by omega) HBS.out ?_; intro v4 w4 hown4 hg4; obtain ⟨g4, cap4, hv4, gl4, gu4, gc4, gm4⟩ := hown4.form; rw [hv4] at hown4 ⊢; have HO4 := Lib.hid hown4; have HG4 : Hid (World.grownBy _ w4 (some g3)) := hg4; clear hown4 hg4 hv4)))
        go_roundw
        case rel =>
          refine ⟨k + 1, g4, cap4, by omega, by go_num, ?_, ?_, ?_, (blThenAlloc HB3.out _).trans (gb_to_below (B := w.heap.size) HG4.out gl3 HBS.out)⟩
          · rw [endAt, HR.out]; go_num
          · rw [show 6 + 8 * k + 4 + 4 = 6 + 8 * (k + 1) by omega]
          · have := HO4.out
            rw [show 6 + 8 * k + 4 + 4 = 6 + 8 * (k + 1) by omega] at this
            have e : hdB cl ts (k + 1) = hdB cl ts k ++ nb (tg ts k).1 ++ [((padI (endAt ts k) : Nat) : Int) / 256, ((padI (endAt ts k) : Nat) : Int) % 256, (L1 : Int) / 256, (L1 : Int) % 256] := by simp [hdB, tabAt, HR.out, two]
            rw [e]; exact this
        case measure => simp [intOf]; omega
      · obtain rfl : k = n := by omega
        go_wp2_with fail
        clear b0 b1
        go_loopw [3, 7] (fun d i wr => ∃ (j g m cap : Nat), j ≤ k ∧ i = .int .i64 j ∧ d = .slice (some ⟨g, 0, none⟩) m cap ∧ OwnB wr w.heap.size (.slice (some ⟨g, 0, none⟩) m cap) m (bodyAt cl ts j) ∧ Below w.heap.size w wr) (fun _ i _ => k - (intOf i).toNat)
        case atStart =>
          refine ⟨0, g, _, cap, by omega, rfl, rfl, ?_, HB.out⟩
          rw [bodyAt, HL.out]; exact HO.out
        case round =>
          obtain ⟨j, g5, m, cap5, hj, rfl, rfl, ho5, hb5⟩ := hrel
          have HO5 := Lib.hid ho5
          have HB5 := Lib.hid hb5
          have hm5 := ho5.len
          rw [bodyAt_len HF.out j (by rw [HL.out]; omega)] at hm5
          have he5 := endAt_le' HF.out (i := j) (by rw [HL.out]; omega)
          have hm6 : m ≤ 870 := by omega
          have HM := Lib.hid ho5.len
          have b0 := cell_later hb5 x0
          have b1 := cell_later hb5 x1
          clear ho5 hb5 hm5 he5
          by_cases hlt5 : j < k
          · go_wp2_with fail
            clear b0 b1
            go_loopw [3] (fun d wr => ∃ (t g m' cap : Nat), m' = m + t ∧ m' ≤ padI m ∧ d = .slice (some ⟨g, 0, none⟩) m' cap ∧ OwnB wr w.heap.size (.slice (some ⟨g, 0, none⟩) m' cap) m' (bodyAt cl ts j ++ List.replicate t 0) ∧ Below w.heap.size w wr) (fun d _ => padI m - slLen d)
            case atStart => exact ⟨0, g5, m, cap5, by omega, by unfold padI; omega, rfl, by simpa using HO5.out, HB5.out⟩
            case round =>
              obtain ⟨t, g6, m', cap6, hmt, hmp, rfl, ho6, hb6⟩ := hrel
              have hp6 : padI m ≤ m + 3 ∧ padI m % 4 = 0 := by unfold padI; omega
              obtain ⟨hp6a, hp6b⟩ := hp6
              have HO6 := Lib.hid ho6
              have HB6 := Lib.hid hb6
              obtain ⟨g6', cap6', e6, gl6, gu6, gc6, gm6⟩ := ho6.form
              cases e6
              have hz6 := hb6.size
              have HMT := Lib.hid hmt
              by_cases hend : m' = padI m
              · have hb0 : ((m' : Int) % 4 != 0) = false := by simp; omega
                have b0 := cell_later hb6 x0
                have b1 := cell_later hb6 x1
                obtain ⟨b, o, B1, L1, C1, gg, hA, y1, y2, y3, -⟩ := (H.out.bel hb6).tag hlt5
                subst hA
                have hL2 : L1 ≤ 96 := by rw [← y3.rd.1]; exact HF.out.bhi j (by rw [HL.out]; exact hlt5)
                have R7 := Lib.hid y3.rd
                have HE : Hid (t = padI m - m) := by show _ = _; omega
                have hm7 : m' ≤ 900 := by omega
                clear ho6 hb6 hmt hend y3
                go_wp2_with (at_builtin; (refine wpList_append_bytes _ rfl (.tmp 95) _ rfl w.heap.size (.slice (some ⟨g6, 0, none⟩) m' cap6) m' (bodyAt cl ts j ++ List.replicate t 0) rfl HO6.out B1 L1 C1 (tg ts j).2 rfl R7.out (by omega) hz6 ?_; intro v8 w8 hown8 hg8; obtain ⟨g8, cap8, hv8, gl8, gu8, gc8, gm8⟩ := hown8.form; rw [hv8] at hown8 ⊢; have HO8 := Lib.hid hown8; have HG8 : Hid (World.grownBy _ w8 (some g6)) := hg8; clear hown8 hg8 hv8))
                go_roundw
                case rel =>
                  refine ⟨j + 1, g8, _, cap8, by omega, by go_num, rfl, ?_, HB6.out.trans (gb_to_below (B := w.heap.size) HG8.out gl6 hz6)⟩
                  have := HO8.out
                  rw [bodyAt, HM.out, ← HE.out]
                  exact this
                case measure => simp [intOf]; omega
              · have hb1' : ((m' : Int) % 4 != 0) = true := by simp; omega
                have HO7 := Lib.hid (ho6.alloc (.cells #[.int .u8 0] 5))
                have HBS7 : Hid (w.heap.size ≤ (wr.alloc (.cells #[.int .u8 0] 5)).heap.size) := by show _ ≤ _; simp only [World.size_alloc]; omega
                have hm7 : m' ≤ 900 := by omega
                have hlt7 : m' < padI m := by omega
                clear ho6 hb6 hmt hend
                go_wp2_with (at_builtin; (refine wpList_append_bytes _ rfl (.tmp 92) _ rfl w.heap.size (.slice (some ⟨g6, 0, none⟩) m' cap6) m' (bodyAt cl ts j ++ List.replicate t 0) rfl HO7.out (some ⟨wr.heap.size, 0, none⟩) 1 1 [0] rfl (rd_lits wr [0] 5) (by omega) HBS7.out ?_; intro v8 w8 hown8 hg8; obtain ⟨g8, cap8, hv8, gl8, gu8, gc8, gm8⟩ := hown8.form; rw [hv8] at hown8 ⊢; have HO8 := Lib.hid hown8; have HG8 : Hid (World.grownBy _ w8 (some g6)) := hg8; clear hown8 hg8 hv8))
                go_roundw
                case rel =>
                  refine ⟨t + 1, g8, m' + 1, cap8, by rw [HMT.out]; omega, by omega, rfl, ?_, (blThenAlloc HB6.out _).trans (gb_to_below (B := w.heap.size) HG8.out gl6 HBS7.out)⟩
                  have := HO8.out
                  rw [List.append_assoc, ← List.replicate_succ'] at this
                  exact this
                case measure => simp [slLen]; omega
          · obtain rfl : j = k := by omega
            go_wp2_with fail
            go_ret
            refine ⟨_, rfl, ?_, HB5.out⟩
            have := HO5.out
            rw [show m = endAt ts j from by rw [← HM.out]; exact bodyAt_len HF.out j (by rw [HL.out]; omega)] at this ⊢
            exact this
end Go.Proofs.Ytbbghebpmobfnaa
