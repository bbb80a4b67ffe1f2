/-
  Proved: whatever the bytes draw, a grid of like nodes tells that node everywhere, and it has no span (the law FnEven returns true), and the argument reads afterwards as it read before. Conditions: none.
-/
import Derived.Test.YtlfdpambbgddoaaOpenA
import Derived.Test.YtlfdpambbgddoaaDrawF
import Derived.Test.YtlfdpambbgddoaaEvnA
import Derived.Test.YtlfdpambbgddoaaLwN
import Derived.Test.YtlfdpambbgddoaaBaseA
import Derived.Deep.RegionHeld3
namespace Go.Proofs.Ytlfdpambbgddoaa.lEven
open Go.ChangeShapes Go.WideShapes Go.ChangeAt Go.RowKit
set_option linter.unusedVariables false
set_option linter.unusedSimpArgs false

theorem run_fldI0 (a : Int) (A : Option Addr) (n c : Nat) (W : World) : (Instr.field 48 (.agg #[.int .i64 a, .slice A n c]) 0).run Try.prog W = .ok (.int .i64 a) W := by kernel_rfl
theorem run_fldV (a b : Int) (W : World) : (Instr.field 23 (.agg #[.int .i64 a, .int .i64 b]) 1).run Try.prog W = .ok (.int .i64 b) W := by kernel_rfl
theorem run_fldV0 (a b : Int) (W : World) : (Instr.field 23 (.agg #[.int .i64 a, .int .i64 b]) 0).run Try.prog W = .ok (.int .i64 a) W := by kernel_rfl
set_option maxRecDepth 100000 in
set_option maxHeartbeats 4000000 in
theorem walk (A : Option Addr) (n c : Nat) (xs : List Int) (bs : List Nat) (w : World) (h : Hd w (.ints .u8 xs) (.slice A n c) bs) (hu : U8s xs) :
    Calls Try.prog 6 #[.slice A n c] w fun e w' => e = .returned (.bool true) ∧ Below w.heap.size w w' := by
  have hm := Nat.le_trans h.caps.1 h.caps.2
  by_cases hbig : 1048576 < n
  · have hb' : decide ((1048576 : Int) < (n : Int)) = true := by simp; omega
    clear h
    go_enter Try.func6, Try.ntmps6
    go_wp2_with (go_at_call 17; refine (lwBig_any _ _ _ _ hm).mono ?_; rintro e w' ⟨rfl, rfl⟩)
    go_ret
    exact ⟨rfl, Below.refl _ _⟩
  have hb' : decide ((1048576 : Int) < (n : Int)) = false := by simp; omega
  have H : Hid (Code w A n xs) := ⟨h.rd, hu, by omega⟩
  clear h hu
  go_enter Try.func6, Try.ntmps6
  go_wp2_with (go_at_call 17; refine (lwBig_any _ _ _ _ hm).mono ?_; rintro e w' ⟨rfl, rfl⟩)
  clear hb' hm
  refine (lwAtS_any A n c xs 1 3 _ H.out (by omega) (by omega) (by omega) (by omega)).mono ?_
  rintro e w1 ⟨r, r0, r1, rfl, m1, rfl⟩
  obtain ⟨s, hs⟩ : ∃ s : Nat, 2 + r = s := ⟨(2 + r).toNat, by omega⟩
  have h3 : s = 2 ∨ s = 3 ∨ s = 4 := by omega
  have i1 : IntKind.i64.wrap (2 + r) = (s : Int) := by rw [hs]; exact IntWalk.i64_in _ (by omega)
  have H1 : Hid (Code (w.drewN m1) A n xs) := H.out.below (below_drewN _ _ _)
  clear hs r0 r1
  go_wp2_with fail
  refine (lwAt_any A n c xs 2 65536 _ H1.out (by omega) (by omega) (by omega) (by omega)).mono ?_
  rintro e w2 ⟨a, a0, a1, rfl, m2, rfl⟩
  have H2 : Hid (Code ((w.drewN m1).drewN m2) A n xs) := H1.out.below (below_drewN _ _ _)
  go_wp2_with fail
  refine (lwAt_any A n c xs 4 65536 _ (by first | exact H2.out | simpa using H2.out) (by omega) (by omega) (by omega) (by omega)).mono ?_
  rintro e w3 ⟨b, b0, b1, rfl, m3, rfl⟩
  go_wp2_with fail
  refine (lwAt_any A n c xs 6 65536 _ (by first | exact H2.out | exact H.out.below (below_drewN _ _ _)) (by omega) (by omega) (by omega) (by omega)).mono ?_
  rintro e w4 ⟨d, d0, d1, rfl, m4, rfl⟩
  have hlf : lf [a, b, d] = 0 := lfo_ok (o := 1) rfl fun j hj => inB_iff.2 (by
    match j, hj with
    | 0, _ => show 0 ≤ a ∧ a ≤ 65535 * 1; omega
    | 1, _ => show 0 ≤ b ∧ b ≤ 65535 * 1; omega
    | 2, _ => show 0 ≤ d ∧ d ≤ 65535 * 1; omega)
  have HLF := Lib.hid hlf
  obtain ⟨W0, hW0⟩ : ∃ W0, W0 = ((w.drewN (m1 + m2 + m3 + m4)).alloc (.cells #[.int .i64 a, .int .i64 b, .int .i64 d] 2)).alloc (.cells #[.int .i64 (s : Int), .slice none 0 0] 52) := ⟨_, rfl⟩
  have N0 : Hid (Bx W0 w.heap.size [.int .i64 a, .int .i64 b, .int .i64 d]) := by show Bx _ _ _; rw [hW0]; exact (Bx.new _ _ _ (by simp)).alloc _
  have G0 : Hid (Bx W0 (w.heap.size + 1) [.int .i64 (s : Int), .slice none 0 0]) := by show Bx _ _ _; rw [hW0]; exact Bx.new _ _ _ (by simp)
  have T0 : Hid (Below w.heap.size w W0) := by show Below _ _ _; rw [hW0]; exact blThenAlloc (blThenAlloc (below_drewN _ _ _) _) _
  have C0 : Hid (Code W0 A n xs) := by show Code _ _ _ _; rw [hW0]; exact ((H.out.below (below_drewN _ _ _)).alloc _).alloc _
  have hz0 : W0.heap.size = w.heap.size + 2 := by rw [hW0]; simp
  have HW0 := Lib.hid hW0
  obtain ⟨Q, hQ⟩ : ∃ Q : Int, Q = (s : Int) * s := ⟨_, rfl⟩
  obtain ⟨N, hN⟩ : ∃ N : Nat, N = s * s * s := ⟨_, rfl⟩
  have HN1 : Hid (0 < N ∧ N ≤ 64) := by show _ ∧ _; rw [hN]; rcases h3 with rfl | rfl | rfl <;> simp
  have j1 : IntKind.i64.wrap ((s : Int) * s) = Q := by rw [hQ]; rcases h3 with rfl | rfl | rfl <;> exact IntWalk.i64_in _ (by omega)
  have j2 : IntKind.i64.wrap (Q * s) = (N : Int) := by rw [hQ, hN]; rcases h3 with rfl | rfl | rfl <;> exact IntWalk.i64_in _ (by omega)
  have HN := Lib.hid hN
  have H3 := Lib.hid h3
  clear hW0 hQ hN h3 i1 H1 H2 a0 a1 b0 b1 d0 d1 hlf
  go_wp2_with fail
  rw [← HW0.out]
  clear HW0
  go_loopw [6] (fun i wr => ∃ (k : Nat) (v : Value), k ≤ N ∧ i = .int .i64 k ∧ Hid (Bx wr (w.heap.size + 1) [.int .i64 (s : Int), v]) ∧ Hid (OwnV wr (w.heap.size + 2) v k (List.replicate k (.slice (some ⟨w.heap.size, 0, none⟩) 3 3))) ∧ Hid (Below (w.heap.size + 1) W0 wr)) (fun i _ => N - (intOf i).toNat)
  case atStart => exact ⟨0, _, by omega, rfl, G0.out, World.ownsRow_nil _ _ _ _, Below.refl _ _⟩
  case round =>
    obtain ⟨k, v, hk, rfl, HG, HV, HB⟩ := hrel
    have x0 := HG.out.c 0 rfl
    have x1 := HG.out.c 1 rfl
    have xl := HG.out.lt
    have hsz := HB.out.size
    have hN64 := HN1.out.2
    by_cases hlt : k < N
    · obtain ⟨WA, hWA⟩ : ∃ WA, WA = wr.alloc (.cells #[.slice (some ⟨w.heap.size, 0, none⟩) 3 3] 40) := ⟨_, rfl⟩
      have OVA : Hid (OwnV WA (w.heap.size + 2) v k (List.replicate k (.slice (some ⟨w.heap.size, 0, none⟩) 3 3))) := by
        show OwnV _ _ _ _ _
        rw [hWA]
        exact HV.out.block (fun g q => by have := (World.ownsRow.lt HV.out g q).2; rw [(blAlloc wr _).block g this])
      have GA : Hid (Bx WA (w.heap.size + 1) [.int .i64 (s : Int), v]) := by show Bx _ _ _; rw [hWA]; exact HG.out.alloc _
      have BA : Hid (Below (w.heap.size + 1) W0 WA) := by show Below _ _ _; rw [hWA]; exact HB.out.trans ((blAlloc wr _).mono (by omega))
      have hza : WA.heap.size = wr.heap.size + 1 := by rw [hWA]; simp
      have hqa : WA.cell? ⟨wr.heap.size, 0, none⟩ = some (.slice (some ⟨w.heap.size, 0, none⟩) 3 3) := by rw [hWA]; simp
      have HWA := Lib.hid hWA
      clear hWA
      go_wp2_with (at_builtin; (try rw [← HWA.out]); refine wpList_append_rv _ rfl _ _ rfl (w.heap.size + 2) v k _ rfl OVA.out wr.heap.size 1 (.slice (some ⟨w.heap.size, 0, none⟩) 3 3) rfl hqa rfl (by omega) (by omega) ?_; intro g' c' w5 ha; have hbb : Below (w.heap.size + 2) WA w5 := gb_low' ha.gb (fun g q => (World.ownsRow.lt OVA.out g q).1) (Nat.le_refl _) (by omega); have B5 := GA.out.low' hbb (by omega); have b0 := B5.c 0 rfl; have b1 := B5.c 1 rfl; have f1 := B5.f 1; have bl := B5.lt)
      have HA5 := Lib.hid ha.own
      have HB5 := Lib.hid B5
      have HBB := Lib.hid (BA.out.trans (hbb.mono (by omega)))
      rw [rep_snoc] at HA5
      clear ha hbb B5 b0 b1 f1 hqa
      go_roundw
      case rel =>
        refine ⟨k + 1, .slice (some ⟨g', 0, none⟩) (k + 1) c', by omega, by go_num, HB5.out.set 1 _, ?_, ?_⟩
        · show OwnV _ _ _ _ _
          exact HA5.out.block (fun g q => Below.heap_setCell _ _ _ _ (by have := (World.ownsRow.lt HA5.out g q).1; show g ≠ w.heap.size + 1; omega))
        · exact HBB.out.setCell (p := ⟨w.heap.size + 1, 1, none⟩) (Nat.le_refl _) _
      case measure => simp [intOf]; omega
    · obtain rfl : k = N := by omega
      obtain ⟨gq, cq, hvq, -, -⟩ := World.ownsRow.form HV.out HN1.out.1
      subst hvq
      have NR := N0.out.low' HB.out (by omega)
      obtain ⟨gn, hn⟩ := (own3L NR).hd
      obtain ⟨bg, hgd⟩ := hd_rep HV.out hn HN1.out.1
      have TR := T0.out.trans (HB.out.mono (by omega))
      have HGD := Lib.hid hgd
      have HND := Lib.hid hn
      have HT := Lib.hid TR
      have HGB := Lib.hid HG.out
      clear NR hn hgd TR HV HG HB x0 x1 xl
      have hgf := Lib.hid (gf_rep (nd := [a, b, d]) H3.out HLF.out)
      have hsv := Lib.hid (spV_rep (nd := [a, b, d]) H3.out HLF.out)
      go_wp2_with fail
      refine (drawEvalGrid_any A n c xs wr (H.out.below HT.out)).mono ?_
      rintro e w1 ⟨sd', G', k', cp', rs', V, mv, dv, ps, rfl, -, hl, -, ⟨gv, hv⟩, hb⟩
      obtain ⟨W2, hW2⟩ : ∃ W2, W2 = w1.alloc (.cells #[.int .i64 sd', .slice G' k' cp'] 52) := ⟨_, rfl⟩
      have B2 : Below wr.heap.size wr W2 := by rw [hW2]; exact blThenAlloc hb _
      have HV2 : Hid (Hd W2 (.ints .i64 ps) (.slice V mv dv) gv) := by show Hd _ _ _ _; rw [hW2]; exact hv.alloc _
      have HG2 := Lib.hid (HGD.out.bel B2)
      have HN2 := Lib.hid (HND.out.bel B2)
      have GB2 := Lib.hid (HGB.out.bel B2)
      have T2 := Lib.hid (blThen HT.out B2)
      have HW2 := Lib.hid hW2
      have GB1 := HGB.out.bel hb
      have x0 := GB1.c 0 rfl
      have x1 := GB1.c 1 rfl
      have xl := GB1.lt
      clear hb hv B2 hW2 HGD HND HGB HT GB1
      rw [← HN.out] at hgf hsv
      go_wp2_with fail
      rw [← HW2.out]
      clear HW2
      have HEC : Hid (egC (s : Int) (rep k [a, b, d]) ps = lf ps) := by show _ = _; unfold egC; rw [if_pos hgf.out]
      have HEL : Hid (lf ps = 0 → egL (s : Int) (rep k [a, b, d]) ps = [a, b, d]) := fun q => by have := egL_rep H3.out HLF.out q; rw [← HN.out] at this; exact this
      refine (EvalGrid_any (some ⟨gq, 0, none⟩) V k cq mv dv (s : Int) (rep k [a, b, d]) ps bg gv W2 HG2.out HV2.out).mono ?_
      rw [HEC.out]
      rintro e w3 ⟨E, ne, ce, rfl, hoe, hbe⟩
      obtain ⟨f, hf⟩ : ∃ f, f = lf ps := ⟨_, rfl⟩
      rw [← hf] at HEL ⊢
      obtain ⟨W4, hW4⟩ : ∃ W4, W4 = w3.alloc (.cells #[.int .i64 f, .slice E ne ce] 48) := ⟨_, rfl⟩
      have B24 : Below W2.heap.size W2 W4 := by rw [hW4]; exact blThenAlloc hbe _
      have E4 : Hid (Bx W4 w3.heap.size [.int .i64 f, .slice E ne ce]) := by show Bx _ _ _; rw [hW4]; exact Bx.new _ _ _ rfl
      have HE4 : Hid (∃ be, Hd W4 (.ints .i64 (egL (s : Int) (rep k [a, b, d]) ps)) (.slice E ne ce) be) := by
        obtain ⟨be, h⟩ := hoe.hd
        exact ⟨be, by rw [hW4]; exact h.alloc _⟩
      have HV4 := Lib.hid (HV2.out.bel B24)
      have HG4 := Lib.hid (HG2.out.bel B24)
      have HN4 := Lib.hid (HN2.out.bel B24)
      have GB4 := Lib.hid (GB2.out.bel B24)
      have T4 := Lib.hid (blThen T2.out B24)
      have HW4 := Lib.hid hW4
      have HFF := Lib.hid hf
      clear hoe hbe B24 hW4 hf HV2 HG2 HN2 GB2 T2 x0 x1 xl
      have x0 := GB4.out.c 0 rfl
      have x1 := GB4.out.c 1 rfl
      have xl := GB4.out.lt
      have e0 := E4.out.c 0 rfl
      have e1 := E4.out.c 1 rfl
      have el := E4.out.lt
      by_cases h0 : f = 0
      · obtain ⟨be, hbe⟩ := HE4.out
        rw [HEL.out h0] at hbe
        obtain rfl : ne = 3 := by have := hbe.rd.1; simpa using this.symm
        have HBE := Lib.hid hbe
        have fv := fun W => run_fldV 0 0 W
        have fv0 := fun W => run_fldV0 0 0 W
        have CSP : Hid (∀ W, Below W4.heap.size W4 W → Calls Try.prog 27 #[.agg #[.int .i64 (s : Int), .slice (some ⟨gq, 0, none⟩) k cq]] W (fun e w' => e = .returned (.agg #[.int .i64 0, .int .i64 0]) ∧ Below W.heap.size W w')) := fun W hW => by
          have := SpanOf_any (some ⟨gq, 0, none⟩) k cq (s : Int) (rep k [a, b, d]) bg W (HG4.out.bel hW)
          unfold SpAns at this
          rw [hgf.out, hsv.out] at this
          exact this
        subst h0
        clear hbe
        go_wp2_with fail
        rw [← HW4.out]
        clear HW4
        refine (lwNums_same E (some ⟨w.heap.size, 0, none⟩) 3 3 ce 3 [a, b, d] W4 HBE.out.rd HN4.out.rd (by omega)).mono ?_
        rintro e w5 ⟨rfl, m5, rfl⟩
        have x0' := cell_later (below_drewN _ m5 W4) x0
        have x1' := cell_later (below_drewN _ m5 W4) x1
        go_wp2_with fail
        refine (CSP.out _ (below_drewN _ _ _)).mono ?_
        rintro e w6 ⟨rfl, hb6⟩
        have T6 := Lib.hid (blThen (blThenDrew T4.out m5) hb6)
        have B46 := Lib.hid (blThen (below_drewN _ m5 W4) hb6)
        have y0 := cell_later B46.out x0
        have y1 := cell_later B46.out x1
        clear hb6 x0' x1'
        go_wp2_with fail
        refine (CSP.out _ B46.out).mono ?_
        rintro e w7 ⟨rfl, hb7⟩
        have T7 := Lib.hid (blThen T6.out hb7)
        clear hb7
        go_wp2_with fail
        go_ret
        exact ⟨rfl, T7.out⟩
      · have hqn : (f == 0) = false := by simpa using h0
        have CSE : Hid (∀ W, Below W4.heap.size W4 W → Calls Try.prog 26 #[.agg #[.int .i64 (s : Int), .slice (some ⟨gq, 0, none⟩) k cq], .slice V mv dv] W (IAns W f (egL (s : Int) (rep k [a, b, d]) ps))) := fun W hW => by
          have := sEvalGrid_any (some ⟨gq, 0, none⟩) V k cq mv dv (s : Int) (rep k [a, b, d]) ps bg gv W (HG4.out.bel hW) (HV4.out.bel hW)
          rw [HEC.out, ← HFF.out] at this
          exact this
        have fi := fun A n c W => run_fldI0 f A n c W
        go_wp2_with fail
        rw [← HW4.out]
        clear HW4
        go_region_held3 (fun w' => w'.cell? ⟨w.heap.size + 1, 0, none⟩ = some (.int .i64 (s : Int)) ∧ w'.cell? ⟨w.heap.size + 1, 1, none⟩ = some (.slice (some ⟨gq, 0, none⟩) k cq) ∧ w'.cell? ⟨w3.heap.size, 0, none⟩ = some (.int .i64 f)) (first | (with_reducible exact ⟨ca, cb, cc⟩) | (with_reducible exact ⟨cell_later (Below.refl _ _).drew x0, cell_later (Below.refl _ _).drew x1, cell_later (Below.refl _ _).drew e0⟩)) (first | (go_at_call 26; (with_reducible refine (CSE.out _ (by repeat (first | (with_reducible exact (Below.refl W4.heap.size W4)) | (with_reducible refine Below.drew ?_)))).mono ?_); rintro e wa ⟨E1, e2, e3, rfl, -, hb⟩; have Ta := Lib.hid (show Below W4.heap.size W4 wa from blThen (by repeat (first | (with_reducible exact (Below.refl W4.heap.size W4)) | (with_reducible refine Below.drew ?_))) hb); have ca := cell_later Ta.out x0; have cb := cell_later Ta.out x1; have cc := cell_later Ta.out e0; clear hb))
        all_goals
          have TA := Lib.hid (blThen T4.out Ta.out)
          go_wp2_with fail
          go_ret
          exact ⟨rfl, TA.out⟩

set_option maxRecDepth 100000 in
theorem lifted (os : Os) (started : os.Started) (H : Type) (enc : TypeId × Value → H) :
    ReturnsInHanded {} Try.checked os 6 .any (Rows.fnEvenSpec.pre6 enc Try.prog Try.f6 Rows.fnEvenRow.domain false) (Rows.fnEvenSpec.post enc Try.prog Try.f6 false true false false) := by
  refine returnsInHanded_of_change (C := Try.checked) own started (by kernel_rfl) Try.func6
    (ChangeSpec.witness6 (enc := enc) (C := Try.checked) false ⟨#[], #[.slice none 0 0], []⟩ 8 (by kernel_rfl) (by kernel_rfl) (by kernel_rfl) (by kernel_rfl)) ?_
  intro W base args ds gs before hval0 hW hcnd _
  have hval : ∀ (j : Nat) t v, Try.f6.params[j]? = some t → args[j]? = some v → Value.okWide Try.prog W .any base t v := hval0
  have hW' := hW
  obtain ⟨p, q, hA0, hV0, rfl, hfz, hnd⟩ := hW
  have hA : DataW.TrodAll enc Try.prog W 0 (fun _ => true) true Try.f6.params.toList args.toList ds p := hA0
  have hV : DataW.TrodVars enc Try.prog W (fun _ => true) [] gs q := hV0
  rw [Try.params6] at hA hval
  obtain ⟨v0, vs0, d0, ds0, p0, q0, hargs, rfl, rfl, h0, r0⟩ := trodAll_cons hA
  obtain ⟨rfl, rfl, rfl⟩ := trodAll_nil r0
  obtain rfl : args = #[v0] := by cases args; simp_all
  obtain ⟨rfl, rfl⟩ : gs = [] ∧ q = [] := by
    cases gs with
    | nil => exact ⟨rfl, hV⟩
    | cons g r => exact absurd hV (by intro h; cases h)
  have k0 := h0
  have lt0 : ∀ x ∈ p0, x.block < W.heap.size := by obtain ⟨m, hm⟩ := k0; exact DataW.trod_lt m _ _ _ hm
  obtain ⟨a0, n0, c0, xs0, bs0, rfl, hd0, u0⟩ := open_bytes (hval 0 38 v0 rfl rfl) h0
  clear hA0 hval0
  refine (walk a0 n0 c0 xs0 bs0 W hd0 u0).mono fun e W' ⟨he, bel⟩ => ?_
  subst he
  exact ⟨_, rfl, _, _, _, [], _, [], hW', trodAll_mk1 (shut_bool Try.underlying4 _), (trodAll_cons_mk (Below.trod laidOut (by kernel_rfl) (of_decide_eq_true (by kernel_rfl)) k0 bel lt0) trodAll_mk0), rfl, bel.frame _, fun h => by cases h⟩

theorem row_holds : Rows.FnEvenSaid :=
  OpenClaim.holds_of_wide 6 Try.f6 rfl rfl rfl rfl rfl rfl rfl ⟨rfl, rfl, rfl, rfl, rfl⟩ rfl rfl rfl rfl rfl (by kernel_rfl) Try.func6 (by kernel_rfl)
    (of_decide_eq_true (by kernel_rfl)) (by unfold Func.isWrapper; rw [if_neg (of_decide_eq_false (by kernel_rfl))]; exact ⟨rfl, rfl⟩)
    (fun os started H enc _ => lifted os started H enc)

theorem proved : Rows.FnEvenSaid := row_holds
#print axioms proved

end Go.Proofs.Ytlfdpambbgddoaa.lEven
