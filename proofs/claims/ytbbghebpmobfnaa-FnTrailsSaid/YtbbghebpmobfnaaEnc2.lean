/-
  A profile written out: impl.EncodeProfile.
-/
import Derived.Test.YtbbghebpmobfnaaEnc
namespace Go.Proofs.Ytbbghebpmobfnaa
open Go.RowKit
set_option linter.unusedVariables false

def enB (cl : Int) (ts : List Tg) : List Int := if pf cl ts = 0 then enc cl ts else []
theorem bytesAns_err {w w1 : World} {c : Int} {xs : List Int} (h : xs = []) {g : Nat} {x y : Value} (hg : w.heap.size ≤ g) (hb : Below w.heap.size w w1) :
    BytesAns w c xs (.returned (.agg #[.int .i64 c, .slice none 0 0])) ((w1.setCell ⟨g, 0, none⟩ x).setCell ⟨g, 1, none⟩ y) := by
  subst h; exact BytesAns.nothing' hg hb
set_option maxRecDepth 100000 in
set_option maxHeartbeats 1000000 in
theorem EncodeProfile_any (A : Option Addr) (n c : Nat) (cl : Int) (ts : List Tg) (bs : List Nat) (w : World) (h : Hd w (tagsD ts) (.slice A n c) bs) (hs : TsOk ts) :
    Calls Try.prog 16 #[.agg #[.int .i64 cl, .slice A n c]] w (BytesAns w (pf cl ts) (enB cl ts)) := by
  have HL := Lib.hid h.tags.1
  have H := Lib.hid h
  have HS := Lib.hid hs
  clear h hs
  go_enter Try.func16, Try.ntmps16
  go_wp2_with fail
  refine (ProfileFault_any A n c cl ts bs _ ((H.out.alloc _).alloc _) HS.out).mono ?_
  rintro e w1 ⟨rfl, hb1⟩
  have X1 := Lib.hid (((Box2.new w 27 (.int .i64 cl) (.slice A n c)).alloc (.cells #[.int .i64 0, .slice none 0 0] 33)).below hb1)
  have H1 := Lib.hid (((H.out.alloc (.cells #[.int .i64 cl, .slice A n c] 27)).alloc (.cells #[.int .i64 0, .slice none 0 0] 33)).bel hb1)
  have T1 := Lib.hid (blThen (blThenAlloc (blAlloc w (.cells #[.int .i64 cl, .slice A n c] 27)) (.cells #[.int .i64 0, .slice none 0 0] 33)) hb1)
  have R1 : Hid (Box2 w1 (w.heap.size + 1) (.int .i64 0) (.slice none 0 0)) := Box2.below (w := (w.alloc (.cells #[.int .i64 cl, .slice A n c] 27)).alloc (.cells #[.int .i64 0, .slice none 0 0] 33)) ⟨by simp, by simp⟩ hb1
  have f0 : w1.frozen? ⟨w.heap.size + 1, 0, none⟩ = false := by rw [hb1.frozen (p := ⟨w.heap.size + 1, 0, none⟩) (by simp)]; simp
  have f1 : w1.frozen? ⟨w.heap.size + 1, 1, none⟩ = false := by rw [hb1.frozen (p := ⟨w.heap.size + 1, 1, none⟩) (by simp)]; simp
  have hz1 : w.heap.size + 1 < w1.heap.size := by have := hb1.size; simp at this; omega
  clear hb1
  by_cases hp : pf cl ts = 0
  · have HF := Lib.hid (fine_of hp)
    have hp' : (pf cl ts != 0) = false := by simpa using hp
    have E2 : Hid (enB cl ts = enc cl ts) := by show enB cl ts = _; unfold enB; rw [if_pos hp]
    have HP := Lib.hid hp
    have h8 : n ≤ 8 := by rw [← HL.out]; exact HF.out.len
    clear hp
    obtain ⟨x0, x1⟩ := X1.out
    go_wp2_with fail
    refine (putHead_any A n c cl ts bs _ H1.out HF.out).mono ?_
    rintro e w2 ⟨v2, rfl, hown2, hb2⟩
    obtain ⟨g2, cap2, hv2, gl2, gu2, gc2, gm2⟩ := hown2.form
    subst hv2
    have HO2 := Lib.hid hown2
    have T2 := Lib.hid (blThen T1.out hb2)
    have X2 := Lib.hid (X1.out.below hb2)
    have R2 := Lib.hid (R1.out.below hb2)
    have F2 : Hid (w2.frozen? ⟨w.heap.size + 1, 0, none⟩ = false ∧ w2.frozen? ⟨w.heap.size + 1, 1, none⟩ = false) := ⟨by rw [hb2.frozen (p := ⟨w.heap.size + 1, 0, none⟩) (by omega)]; exact f0, by rw [hb2.frozen (p := ⟨w.heap.size + 1, 1, none⟩) (by omega)]; exact f1⟩
    clear x0 x1 f0 f1 hb2 hown2 T1 X1 R1
    obtain ⟨x0, x1⟩ := X2.out
    go_wp2_with fail
    clear x0 x1
    go_loopw [4, 18] (fun d i wr => ∃ (k g m cap : Nat), k ≤ n ∧ i = .int .i64 k ∧ d = .slice (some ⟨g, 0, none⟩) m cap ∧ OwnB wr (w.heap.size + 2) (.slice (some ⟨g, 0, none⟩) m cap) m (bodyAt cl ts k) ∧ Below w.heap.size w wr ∧ Box2 wr (w.heap.size + 1) (.int .i64 0) (.slice none 0 0) ∧ (wr.frozen? ⟨w.heap.size + 1, 0, none⟩ = false ∧ wr.frozen? ⟨w.heap.size + 1, 1, none⟩ = false) ∧ w.heap.size + 2 ≤ wr.heap.size) (fun _ i _ => n - (intOf i).toNat)
    case atStart =>
      refine ⟨0, g2, _, cap2, by omega, rfl, rfl, ?_, T2.out, R2.out, F2.out, by omega⟩
      have := HO2.out
      rw [bodyAt, HL.out]
      exact ⟨⟨this.1.1, this.1.2.imp id (fun ⟨a, b, c, d, e, f⟩ => ⟨a, b, c, d, by omega, f⟩)⟩, this.2⟩
    case round =>
      obtain ⟨k, g, m, cap, hk, rfl, rfl, ho, hb, hr, hf, hwz⟩ := hrel
      have HO := Lib.hid ho
      have HB := Lib.hid hb
      have HR := Lib.hid hr
      have HFR := Lib.hid hf
      obtain ⟨g', cap', e', gl, gu, gc, gm⟩ := ho.form
      cases e'
      have hm : m = endAt ts k := by rw [← ho.len]; exact bodyAt_len HF.out k (by rw [HL.out]; omega)
      have he := endAt_le' HF.out (i := k) (by rw [HL.out]; omega)
      have hm2 : m ≤ 870 := by omega
      have HM := Lib.hid ho.len
      clear ho hb hr hf hm he HO2 T2 X2 R2 F2
      by_cases hlt : k < n
      · obtain ⟨b, o, B1, L1, C1, gg, rfl, x1w, x2w, x3, -⟩ := H.out.tag hlt
        have x1 := cell_later HB.out x1w
        have x2 := cell_later HB.out x2w
        have HD := Lib.hid x3
        clear x1w x2w
        have hL2 : L1 ≤ 96 := by rw [← x3.rd.1]; exact HF.out.bhi k (by rw [HL.out]; exact hlt)
        have HRd := Lib.hid x3.rd
        have hlb := cell_lt x2
        have hpm : m ≤ padI m ∧ padI m ≤ m + 3 := by unfold padI; omega
        obtain ⟨hp1, hp2⟩ := hpm
        have ecast : ((padI m : Nat) : Int) - (m : Int) = ((padI m - m : Nat) : Int) := by omega
        have HO' := Lib.hid (HO.out.alloc (.cells #[.string (tg ts k).1, .slice B1 L1 C1] 63))
        have BX := Lib.hid (Box2.new wr 63 (.string (tg ts k).1) (.slice B1 L1 C1))
        have HBS : Hid (w.heap.size + 2 ≤ (wr.alloc (.cells #[.string (tg ts k).1, .slice B1 L1 C1] 63)).heap.size) := by show _ ≤ _; simp only [World.size_alloc]; omega
        clear x3
        have HPE : Hid (m + (padI m - m) = padI m) := by show _ = _; omega
        have TY := Lib.hid (TyAt.new wr #[.string (tg ts k).1, .slice B1 L1 C1] 63)
        go_wp2_with (first | (go_at_call 47; refine (stepAt_any _ _ (by omega)).mono ?_; rintro e w' ⟨rfl, rfl⟩) | (at_builtin; (refine wpList_append_zeros _ rfl _ _ rfl (w.heap.size + 2) (.slice (some ⟨g, 0, none⟩) m cap) m (bodyAt cl ts k) rfl HO'.out (padI m - m) rfl (by omega) HBS.out ?_; intro v3 w3 hown3 hg3; rw [HPE.out] at hown3; obtain ⟨g3, cap3, hv3, gl3, gu3, gc3, gm3⟩ := hown3.form; rw [hv3] at hown3 ⊢; have HO3 := Lib.hid hown3; have HG3 : Hid (World.grownBy _ w3 (some g)) := hg3; have b0 := gb_cell hg3 (p := ⟨wr.heap.size, 0, none⟩) (by simp) (by simp; omega); have b1 := gb_cell hg3 (p := ⟨wr.heap.size, 1, none⟩) (by simp) (by simp; omega); rw [BX.out.1] at b0; rw [BX.out.2] at b1; have T3 := Lib.hid ((blThenAlloc HB.out _).trans ((gb_to_below (B := w.heap.size + 2) HG3.out gl HBS.out).mono (by omega))); have HR3 := Lib.hid (HD.out.bel T3.out).rd; have hz3 := hg3.size; have ty3 := TY.out.gb HG3.out (by omega); clear hown3 hg3 hv3)) | (at_builtin; (refine wpList_append_bytes _ rfl _ _ rfl (w.heap.size + 2) (.slice (some ⟨g3, 0, none⟩) (padI m) cap3) (padI m) (bodyAt cl ts k ++ List.replicate (padI m - m) 0) rfl HO3.out B1 L1 C1 (tg ts k).2 rfl HR3.out (by omega) (by simp at hz3; omega) ?_; intro v4 w4 hown4 hg4; obtain ⟨g4, cap4, hv4, gl4, gu4, gc4, gm4⟩ := hown4.form; rw [hv4] at hown4 ⊢; have HO4 := Lib.hid hown4; have HG4 : Hid (World.grownBy _ w4 (some g3)) := hg4; clear hown4 hg4 hv4)))
        go_roundw
        case rel =>
          have D3 := gb_to_below (B := w.heap.size + 2) HG3.out gl HBS.out
          have D4 := gb_to_below (B := w.heap.size + 2) HG4.out gl3 (by simp at hz3; omega)
          have hz4 := HG4.out.size
          refine ⟨k + 1, g4, _, cap4, by omega, by go_num, rfl, ?_, T3.out.trans (D4.mono (by omega)), ⟨?_, ?_⟩, ⟨?_, ?_⟩, by simp at hz3; omega⟩
          · have := HO4.out
            rw [bodyAt, HM.out]
            exact this
          · rw [D4.cell (p := ⟨w.heap.size + 1, 0, none⟩) (by simp), D3.cell (p := ⟨w.heap.size + 1, 0, none⟩) (by simp), World.cell?_alloc_lt _ _ _ (by simp; omega)]; exact HR.out.1
          · rw [D4.cell (p := ⟨w.heap.size + 1, 1, none⟩) (by simp), D3.cell (p := ⟨w.heap.size + 1, 1, none⟩) (by simp), World.cell?_alloc_lt _ _ _ (by simp; omega)]; exact HR.out.2
          · rw [D4.frozen (p := ⟨w.heap.size + 1, 0, none⟩) (by simp), D3.frozen (p := ⟨w.heap.size + 1, 0, none⟩) (by simp), World.frozen?_alloc_old _ _ _ (by simp; omega)]; exact HFR.out.1
          · rw [D4.frozen (p := ⟨w.heap.size + 1, 1, none⟩) (by simp), D3.frozen (p := ⟨w.heap.size + 1, 1, none⟩) (by simp), World.frozen?_alloc_old _ _ _ (by simp; omega)]; exact HFR.out.2
        case measure => simp [intOf]; omega
      · obtain rfl : k = n := by omega
        obtain ⟨r0, r1⟩ := HR.out
        obtain ⟨f0, f1⟩ := HFR.out
        have EB : Hid (enc cl ts = bodyAt cl ts k) := by show enc cl ts = _; unfold enc; rw [HL.out]
        go_wp2_with fail
        refine bodyPost_ret (v := .agg #[.int .i64 0, .slice (some ⟨g, 0, none⟩) m cap]) (by simp [results, Try.results16, go_sem, r0, r1]) rfl ?_
        rw [HP.out, E2.out, EB.out]
        exact BytesAns.done (lo := w.heap.size + 2) HO.out.own (by omega) (by omega) HB.out
  · have e2 : enB cl ts = [] := by unfold enB; rw [if_neg hp]
    have hp' : (pf cl ts != 0) = true := by simpa using hp
    have E2 := Lib.hid e2
    obtain ⟨r0, r1⟩ := R1.out
    clear hp e2
    go_wp2_with fail
    refine bodyPost_ret (v := .agg #[.int .i64 (pf cl ts), .slice none 0 0]) (by simp [results, Try.results16, go_sem, r0, r1]) rfl ?_
    exact bytesAns_err E2.out (g := w.heap.size + 1) (by omega) T1.out
end Go.Proofs.Ytbbghebpmobfnaa
