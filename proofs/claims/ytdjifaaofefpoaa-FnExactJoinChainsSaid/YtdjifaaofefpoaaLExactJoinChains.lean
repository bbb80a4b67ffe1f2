/-
  Proved: at every two chains the Go function JoinChains answers as its reference model does, every field, in new memory, and changes nothing of them (the law FnExactJoinChains returns true), and the arguments read afterwards as they read before. Conditions: none.
-/
import Derived.Test.YtdjifaaofefpoaaOpenA
import Derived.Test.YtdjifaaofefpoaaHelpSt
import Derived.Test.YtdjifaaofefpoaaMrkA
import Derived.Test.YtdjifaaofefpoaaHelpCn
import Derived.Test.YtdjifaaofefpoaaJonE
import Derived.Test.YtdjifaaofefpoaaSceneM
import Derived.Test.YtdjifaaofefpoaaBaseA
import Derived.Deep.RegionHeld3
import Derived.Deep.CutRange
namespace Go.Proofs.Ytdjifaaofefpoaa.lExactJoinChains
open Go.ChangeShapes Go.WideShapes Go.ChangeAt Go.RowKit
set_option linter.unusedVariables false
set_option linter.unusedSimpArgs false

set_option maxRecDepth 100000 in
set_option maxHeartbeats 4000000 in
theorem walk (A0 : Option Addr) (n0 c0 : Nat) (xs0 : List Stg) (bs0 : List Nat) (A1 : Option Addr) (n1 c1 : Nat) (xs1 : List Stg) (bs1 : List Nat) (w : World) (h0 : Hd w (chD xs0) (.slice A0 n0 c0) bs0) (u0 : I64C xs0) (h1 : Hd w (chD xs1) (.slice A1 n1 c1) bs1) (u1 : I64C xs1) :
    Calls Try.prog 4 #[.agg #[.slice A0 n0 c0], .agg #[.slice A1 n1 c1]] w fun e w' => e = .returned (.bool true) ∧ Below w.heap.size w w' := by
  have hm0 := h0.caps.2
  have hnc0 := h0.caps.1
  have HU0 := Lib.hid u0
  have HL0 := Lib.hid h0.stgs.1
  have hm1 := h1.caps.2
  have hnc1 := h1.caps.1
  have HU1 := Lib.hid u1
  have HL1 := Lib.hid h1.stgs.1
  have S0 : Scene w w [(chD xs0, .slice A0 n0 c0), (chD xs1, .slice A1 n1 c1)] [] [] := Scene.start w _ (by intro p hp; simp only [List.mem_cons, List.not_mem_nil, or_false] at hp; rcases hp with rfl | rfl <;> first | exact ⟨_, h0⟩ | exact ⟨_, h1⟩)
  have S1 : Scene w (w.alloc (.cells #[.slice A0 n0 c0] 24)) [(chD xs0, .slice A0 n0 c0), (chD xs1, .slice A1 n1 c1)] [] [(w.heap.size, [.slice A0 n0 c0])] := by have q := Scene.addBox S0 [.slice A0 n0 c0] 24; simpa only [World.size_alloc, List.length_cons, Nat.add_assoc] using q
  have S2 : Scene w ((w.alloc (.cells #[.slice A0 n0 c0] 24)).alloc (.cells #[.slice A1 n1 c1] 24)) [(chD xs0, .slice A0 n0 c0), (chD xs1, .slice A1 n1 c1)] [] [(w.heap.size + 1, [.slice A1 n1 c1]), (w.heap.size, [.slice A0 n0 c0])] := by have q := Scene.addBox S1 [.slice A1 n1 c1] 24; simpa only [World.size_alloc, List.length_cons, Nat.add_assoc] using q
  clear h0 u0 h1 u1
  have hxl := joL_len xs0 xs1
  have HM : Hid ((1000000000000 : Nat) ≤ maxLen) := by show _ ≤ _; unfold maxLen; omega
  go_enter Try.func4, Try.ntmps4
  go_wp2_with fail
  obtain ⟨bsa0, hda0⟩ := S2.argI 0 rfl
  refine (szChain_any A0 n0 c0 xs0 _ _ _ hda0 (by omega) (by omega)).mono ?_
  rintro e w1 ⟨r0, rfl, hr10, hr20, hr30, hb0⟩
  have i1 := Below.size hb0
  try simp only [World.size_alloc] at i1
  have S3 : Scene w w1 [(chD xs0, .slice A0 n0 c0), (chD xs1, .slice A1 n1 c1)] [] [(w.heap.size + 1, [.slice A1 n1 c1]), (w.heap.size, [.slice A0 n0 c0])] := Scene.below S2 hb0
  have HR0 := Lib.hid hr30
  clear hr30 hb0
  by_cases hr0 : r0 < 0
  · go_wp2_with fail
    go_ret
    exact ⟨rfl, S3.bel⟩
  have hn0 := Lib.hid (HR0.out (by omega))
  clear HR0 hda0
  have hq0 : n0 ≤ 1048576 := by have := hn0.out.1; rw [HL0.out] at this; exact this
  have x0_0 : w1.cell? ⟨w.heap.size + 1, 0, none⟩ = some (.slice A1 n1 c1) := S3.boxI 0 0 rfl rfl
  have z0 : w.heap.size + 1 < w1.heap.size := cell_lt x0_0
  have x1_0 : w1.cell? ⟨w.heap.size, 0, none⟩ = some (.slice A0 n0 c0) := S3.boxI 1 0 rfl rfl
  have z1 : w.heap.size < w1.heap.size := cell_lt x1_0
  go_wp2_with fail
  obtain ⟨bsa1, hda1⟩ := S3.argI 1 rfl
  refine (szChain_any A1 n1 c1 xs1 _ _ _ hda1 (by omega) (by omega)).mono ?_
  rintro e w2 ⟨r1, rfl, hr11, hr21, hr31, hb1⟩
  have i2 := Below.size hb1
  try simp only [World.size_alloc] at i2
  have S4 : Scene w w2 [(chD xs0, .slice A0 n0 c0), (chD xs1, .slice A1 n1 c1)] [] [(w.heap.size + 1, [.slice A1 n1 c1]), (w.heap.size, [.slice A0 n0 c0])] := Scene.below S3 hb1
  have HR1 := Lib.hid hr31
  clear hr31 hb1
  clear x0_0 z0 x1_0 z1
  by_cases hr1 : r1 < 0
  · go_wp2_with fail
    go_ret
    exact ⟨rfl, S4.bel⟩
  have hn1 := Lib.hid (HR1.out (by omega))
  clear HR1 hda1
  have hq1 : n1 ≤ 1048576 := by have := hn1.out.1; rw [HL1.out] at this; exact this
  have x0_0 : w2.cell? ⟨w.heap.size + 1, 0, none⟩ = some (.slice A1 n1 c1) := S4.boxI 0 0 rfl rfl
  have z0 : w.heap.size + 1 < w2.heap.size := cell_lt x0_0
  have x1_0 : w2.cell? ⟨w.heap.size, 0, none⟩ = some (.slice A0 n0 c0) := S4.boxI 1 0 rfl rfl
  have z1 : w.heap.size < w2.heap.size := cell_lt x1_0
  go_wp2_with fail
  clear x0_0 z0 x1_0 z1
  have x0_0 : w2.cell? ⟨w.heap.size + 1, 0, none⟩ = some (.slice A1 n1 c1) := S4.boxI 0 0 rfl rfl
  have z0 : w.heap.size + 1 < w2.heap.size := cell_lt x0_0
  have x1_0 : w2.cell? ⟨w.heap.size, 0, none⟩ = some (.slice A0 n0 c0) := S4.boxI 1 0 rfl rfl
  have z1 : w.heap.size < w2.heap.size := cell_lt x1_0
  obtain ⟨bsa0, hda0⟩ := S4.argI 0 rfl
  have HA0 := Lib.hid hda0
  clear hda0
  obtain ⟨bsa1, hda1⟩ := S4.argI 1 rfl
  have HA1 := Lib.hid hda1
  clear hda1
  go_cut [6] from 24 to 28 (fun p wxW => ∃ (g : Nat) (G : Option Addr) (nG cG la lb : Nat), p = .pointer (some ⟨g, 0, none⟩) ∧ MR w2 wxW [.int .i64 (joC xs0 xs1), .slice G nG cG] (chD (joL xs0 xs1)) (.slice G nG cG) g la lb)
  case first =>
    go_region_held3 (fun w' => w'.cell? ⟨w.heap.size + 1, 0, none⟩ = some (.slice A1 n1 c1) ∧ w'.cell? ⟨w.heap.size, 0, none⟩ = some (.slice A0 n0 c0)) (first | exact ⟨x0_0, x1_0⟩ | (go_split_ands; exact ⟨cell_later hb (by assumption), cell_later hb (by assumption)⟩) | (go_split_ands; exact ⟨cell_later (blAlloc _ _) (by assumption), cell_later (blAlloc _ _) (by assumption)⟩) | (go_split_ands; exact ⟨cell_later (blAlloc _ _) (cell_later hb (by assumption)), cell_later (blAlloc _ _) (cell_later hb (by assumption))⟩) | (go_split_ands; exact ⟨(cell_s (cell_s (by assumption) (by omega)) (by omega)), (cell_s (cell_s (by assumption) (by omega)) (by omega))⟩)) (first | (go_at_call 12; (with_reducible refine (toChain_any A0 n0 c0 xs0 _ _ (HA0.out.bel (by first | exact (Below.refl _ _).drew | exact blThenAlloc (Below.refl _ _).drew _ | exact (blThenAlloc (Below.refl _ _) _).drew | exact Below.refl _ _)) hn0.out).mono ?_); rintro e wq0 ⟨BB0, rfl, ho, hb⟩; have T0 := Lib.hid (show Below w2.heap.size w2 wq0 from blThen (by first | exact (Below.refl _ _).drew | exact blThenAlloc (Below.refl _ _).drew _ | exact (blThenAlloc (Below.refl _ _) _).drew | exact Below.refl _ _) hb); have O0_0 := Lib.hid ho; (first | (have BX0 : Hid (Bx wq0 w2.heap.size _) := (Bx.new w2.drew _ _ rfl).bel hb) | (have BX0 : Hid (Bx wq0 w2.heap.size _) := ((Bx.new w2 _ _ rfl).drewN 1).bel hb) | (have BX0 : Hid (Bx wq0 w2.heap.size _) := (Bx.new w2 _ _ rfl).bel hb) | skip); have y0_0_0 := cell_later T0.out x0_0; have yz0_0 := cell_lt y0_0_0; have y0_1_0 := cell_later T0.out x1_0; have yz0_1 := cell_lt y0_1_0; clear ho) | (go_at_call 12; (with_reducible refine (toChain_any A1 n1 c1 xs1 _ _ (HA1.out.bel (by first | exact T0.out | exact blThenAlloc T0.out _)) hn1.out).mono ?_); rintro e wq1 ⟨BB1, rfl, ho, hb⟩; have T1 := Lib.hid (show Below w2.heap.size w2 wq1 from blThen (by first | exact T0.out | exact blThenAlloc T0.out _) hb); have O1_1 := Lib.hid ho; have L1 := Lib.hid (show Below wq0.heap.size wq0 wq1 from blThen (by first | exact Below.refl _ _ | exact blAlloc _ _) hb); have O0_1 := Lib.hid (O0_0.out.below L1.out); (first | (have BX1 := Lib.hid (BX0.out.bel hb)) | (have BX1 : Hid (Bx wq1 wq0.heap.size _) := (Bx.new wq0 _ _ rfl).bel hb) | skip); have y1_0_0 := cell_later T1.out x0_0; have yz1_0 := cell_lt y1_0_0; have y1_1_0 := cell_later T1.out x1_0; have yz1_1 := cell_lt y1_1_0; clear ho) | (go_at_call 16; refine (sJoinChains_any BB0 BB1 n0 n0 n1 n1 xs0 xs1 _ _ _ (O0_1.out.hd.choose_spec.bel (by first | exact Below.refl _ _ | exact blAlloc _ _)) (O1_1.out.hd.choose_spec.bel (by first | exact Below.refl _ _ | exact blAlloc _ _))).mono ?_; rintro e wz ⟨G, nG, cG, rfl, ho, hb⟩; have TZ := Lib.hid (show Below w2.heap.size w2 wz from blThen (by first | exact T1.out | exact blThenAlloc T1.out _) hb); have OZ := Lib.hid ho; have SZ := Lib.hid hb.size; (first | (have hg := BX1.out.lt; have BZ := Lib.hid (BX1.out.bel hb)) | (have BZ : Hid (Bx wz wq1.heap.size _) := (Bx.new wq1 _ _ rfl).bel hb) | skip); (first | (have gz := BZ.out.lt; have bc0 := BZ.out.c 0 rfl; have bf0 := BZ.out.f 0; have bc1 := BZ.out.c 1 rfl; have bf1 := BZ.out.f 1) | skip); clear ho))
    all_goals (try go_wp2_with fail)
    all_goals go_meet
    all_goals (first | exact ⟨_, G, nG, cG, _, _, rfl, MR.last _ TZ.out OZ.out (by have := T1.out.size; first | omega | (simp; omega)) SZ.out⟩ | exact ⟨_, G, nG, cG, _, _, rfl, MR.set TZ.out OZ.out BZ.out (by have := T1.out.size; first | omega | (simp; omega)) SZ.out (by first | exact Nat.le_refl _ | exact T0.out.size | exact T1.out.size) (by first | exact hg | simp) (Ch.set1 (Ch.set1 (Ch.refl _ _) 0 _) 1 _) (((BZ.out).set 0 _).set 1 _)⟩)
  case rest =>
  rename World => wxW
  obtain ⟨gW, W, nW, cW, laW, lbW, rfl, hmr⟩ := hcut
  obtain ⟨bsn, hdn⟩ := hmr.own.hd
  have hlW := hdn.stgs.1
  have hnW : nW ≤ 5 := by omega
  have hgW := hmr.g1
  have hggW := hmr.g0
  have hlaW := hmr.hla
  have hlbW := hmr.hlb
  have hllW := hmr.hll
  have hszW := hmr.bl.size
  have S5 : Scene w wxW [(chD xs0, .slice A0 n0 c0), (chD xs1, .slice A1 n1 c1)] [⟨chD (joL xs0 xs1), .slice W nW cW, laW, lbW⟩] [(gW, [.int .i64 (joC xs0 xs1), .slice W nW cW]), (w.heap.size + 1, [.slice A1 n1 c1]), (w.heap.size, [.slice A0 n0 c0])] := Scene.addMR S4 hmr
  clear hmr hdn hlW S4 HA0 HA1
  clear x0_0 z0 x1_0 z1
  have x0_0 : wxW.cell? ⟨gW, 0, none⟩ = some (.int .i64 (joC xs0 xs1)) := S5.boxI 0 0 rfl rfl
  have x0_1 : wxW.cell? ⟨gW, 1, none⟩ = some (.slice W nW cW) := S5.boxI 0 1 rfl rfl
  have z0 : gW < wxW.heap.size := cell_lt x0_0
  have x1_0 : wxW.cell? ⟨w.heap.size + 1, 0, none⟩ = some (.slice A1 n1 c1) := S5.boxI 1 0 rfl rfl
  have z1 : w.heap.size + 1 < wxW.heap.size := cell_lt x1_0
  have x2_0 : wxW.cell? ⟨w.heap.size, 0, none⟩ = some (.slice A0 n0 c0) := S5.boxI 2 0 rfl rfl
  have z2 : w.heap.size < wxW.heap.size := cell_lt x2_0
  go_wp2_with fail
  obtain ⟨bsa0, hda0⟩ := S5.argI 0 rfl
  refine (toChain_any A0 n0 c0 xs0 _ _ hda0 hn0.out).mono ?_
  rintro e w3 ⟨X0, rfl, ho, hb⟩
  have i3 := Below.size hb
  try simp only [World.size_alloc] at i3
  have S6 : Scene w w3 [(chD xs0, .slice A0 n0 c0), (chD xs1, .slice A1 n1 c1)] [⟨chD (joL xs0 xs1), .slice W nW cW, laW, lbW⟩] [(gW, [.int .i64 (joC xs0 xs1), .slice W nW cW]), (w.heap.size + 1, [.slice A1 n1 c1]), (w.heap.size, [.slice A0 n0 c0])] := Scene.below S5 hb
  have S7 : Scene w w3 [(chD xs0, .slice A0 n0 c0), (chD xs1, .slice A1 n1 c1)] [⟨chD xs0, .slice X0 n0 n0, wxW.heap.size, w3.heap.size⟩, ⟨chD (joL xs0 xs1), .slice W nW cW, laW, lbW⟩] [(gW, [.int .i64 (joC xs0 xs1), .slice W nW cW]), (w.heap.size + 1, [.slice A1 n1 c1]), (w.heap.size, [.slice A0 n0 c0])] := Scene.addOwn S6 (ho.mono (by simp) (Nat.le_refl _)) (by have := S6.bel.size; omega) (Nat.le_refl _)
  clear ho hb hda0 S6
  clear x0_0 x0_1 z0 x1_0 z1 x2_0 z2
  have x0_0 : w3.cell? ⟨gW, 0, none⟩ = some (.int .i64 (joC xs0 xs1)) := S7.boxI 0 0 rfl rfl
  have x0_1 : w3.cell? ⟨gW, 1, none⟩ = some (.slice W nW cW) := S7.boxI 0 1 rfl rfl
  have z0 : gW < w3.heap.size := cell_lt x0_0
  have x1_0 : w3.cell? ⟨w.heap.size + 1, 0, none⟩ = some (.slice A1 n1 c1) := S7.boxI 1 0 rfl rfl
  have z1 : w.heap.size + 1 < w3.heap.size := cell_lt x1_0
  have x2_0 : w3.cell? ⟨w.heap.size, 0, none⟩ = some (.slice A0 n0 c0) := S7.boxI 2 0 rfl rfl
  have z2 : w.heap.size < w3.heap.size := cell_lt x2_0
  have S8 : Scene w (w3.alloc (.cells #[.slice X0 n0 n0] 31)) [(chD xs0, .slice A0 n0 c0), (chD xs1, .slice A1 n1 c1)] [⟨chD xs0, .slice X0 n0 n0, wxW.heap.size, w3.heap.size⟩, ⟨chD (joL xs0 xs1), .slice W nW cW, laW, lbW⟩] [(w3.heap.size, [.slice X0 n0 n0]), (gW, [.int .i64 (joC xs0 xs1), .slice W nW cW]), (w.heap.size + 1, [.slice A1 n1 c1]), (w.heap.size, [.slice A0 n0 c0])] := Scene.addBox S7 [.slice X0 n0 n0] 31
  clear S7
  go_wp2_with fail
  obtain ⟨bsa1, hda1⟩ := S8.argI 1 rfl
  refine (toChain_any A1 n1 c1 xs1 _ _ hda1 hn1.out).mono ?_
  rintro e w4 ⟨X1, rfl, ho, hb⟩
  have i4 := Below.size hb
  try simp only [World.size_alloc] at i4
  have S9 : Scene w w4 [(chD xs0, .slice A0 n0 c0), (chD xs1, .slice A1 n1 c1)] [⟨chD xs0, .slice X0 n0 n0, wxW.heap.size, w3.heap.size⟩, ⟨chD (joL xs0 xs1), .slice W nW cW, laW, lbW⟩] [(w3.heap.size, [.slice X0 n0 n0]), (gW, [.int .i64 (joC xs0 xs1), .slice W nW cW]), (w.heap.size + 1, [.slice A1 n1 c1]), (w.heap.size, [.slice A0 n0 c0])] := Scene.below S8 hb
  have S10 : Scene w w4 [(chD xs0, .slice A0 n0 c0), (chD xs1, .slice A1 n1 c1)] [⟨chD xs1, .slice X1 n1 n1, w3.heap.size + 1, w4.heap.size⟩, ⟨chD xs0, .slice X0 n0 n0, wxW.heap.size, w3.heap.size⟩, ⟨chD (joL xs0 xs1), .slice W nW cW, laW, lbW⟩] [(w3.heap.size, [.slice X0 n0 n0]), (gW, [.int .i64 (joC xs0 xs1), .slice W nW cW]), (w.heap.size + 1, [.slice A1 n1 c1]), (w.heap.size, [.slice A0 n0 c0])] := Scene.addOwn S9 (ho.mono (by simp) (Nat.le_refl _)) (by have := S9.bel.size; omega) (Nat.le_refl _)
  clear ho hb hda1 S9
  clear x0_0 x0_1 z0 x1_0 z1 x2_0 z2
  have x0_0 : w4.cell? ⟨w3.heap.size, 0, none⟩ = some (.slice X0 n0 n0) := S10.boxI 0 0 rfl rfl
  have z0 : w3.heap.size < w4.heap.size := cell_lt x0_0
  have x1_0 : w4.cell? ⟨gW, 0, none⟩ = some (.int .i64 (joC xs0 xs1)) := S10.boxI 1 0 rfl rfl
  have x1_1 : w4.cell? ⟨gW, 1, none⟩ = some (.slice W nW cW) := S10.boxI 1 1 rfl rfl
  have z1 : gW < w4.heap.size := cell_lt x1_0
  have x2_0 : w4.cell? ⟨w.heap.size + 1, 0, none⟩ = some (.slice A1 n1 c1) := S10.boxI 2 0 rfl rfl
  have z2 : w.heap.size + 1 < w4.heap.size := cell_lt x2_0
  have x3_0 : w4.cell? ⟨w.heap.size, 0, none⟩ = some (.slice A0 n0 c0) := S10.boxI 3 0 rfl rfl
  have z3 : w.heap.size < w4.heap.size := cell_lt x3_0
  have S11 : Scene w (w4.alloc (.cells #[.slice X1 n1 n1] 31)) [(chD xs0, .slice A0 n0 c0), (chD xs1, .slice A1 n1 c1)] [⟨chD xs1, .slice X1 n1 n1, w3.heap.size + 1, w4.heap.size⟩, ⟨chD xs0, .slice X0 n0 n0, wxW.heap.size, w3.heap.size⟩, ⟨chD (joL xs0 xs1), .slice W nW cW, laW, lbW⟩] [(w4.heap.size, [.slice X1 n1 n1]), (w3.heap.size, [.slice X0 n0 n0]), (gW, [.int .i64 (joC xs0 xs1), .slice W nW cW]), (w.heap.size + 1, [.slice A1 n1 c1]), (w.heap.size, [.slice A0 n0 c0])] := Scene.addBox S10 [.slice X1 n1 n1] 31
  clear S10
  go_wp2_with fail
  obtain ⟨dx0, hx0⟩ := (S11.ownI 1 rfl).hd
  obtain ⟨dx1, hx1⟩ := (S11.ownI 0 rfl).hd
  refine (JoinChains_any X0 X1 n0 n0 n1 n1 xs0 xs1 _ _ _ hx0 hx1).mono ?_
  rintro e w5 ⟨G, nG, cG, rfl, ho, hb⟩
  replace ho := ho.mono (lo' := w4.heap.size + 1) (by simp) (Nat.le_refl _)
  have i5 := Below.size hb
  try simp only [World.size_alloc] at i5
  have S12 : Scene w w5 [(chD xs0, .slice A0 n0 c0), (chD xs1, .slice A1 n1 c1)] [⟨chD xs1, .slice X1 n1 n1, w3.heap.size + 1, w4.heap.size⟩, ⟨chD xs0, .slice X0 n0 n0, wxW.heap.size, w3.heap.size⟩, ⟨chD (joL xs0 xs1), .slice W nW cW, laW, lbW⟩] [(w4.heap.size, [.slice X1 n1 n1]), (w3.heap.size, [.slice X0 n0 n0]), (gW, [.int .i64 (joC xs0 xs1), .slice W nW cW]), (w.heap.size + 1, [.slice A1 n1 c1]), (w.heap.size, [.slice A0 n0 c0])] := Scene.below S11 hb
  clear hx0 hx1
  obtain ⟨bsn, hdn⟩ := ho.hd
  have hlG := hdn.stgs.1
  obtain ⟨bsw, hdw⟩ := (S12.ownI 2 rfl).hd
  have hlW := hdw.stgs.1
  obtain rfl : nW = nG := by omega
  have S13 : Scene w w5 [(chD xs0, .slice A0 n0 c0), (chD xs1, .slice A1 n1 c1)] [⟨chD (joL xs0 xs1), .slice G nW cG, w4.heap.size + 1, w5.heap.size⟩, ⟨chD xs1, .slice X1 n1 n1, w3.heap.size + 1, w4.heap.size⟩, ⟨chD xs0, .slice X0 n0 n0, wxW.heap.size, w3.heap.size⟩, ⟨chD (joL xs0 xs1), .slice W nW cW, laW, lbW⟩] [(w4.heap.size, [.slice X1 n1 n1]), (w3.heap.size, [.slice X0 n0 n0]), (gW, [.int .i64 (joC xs0 xs1), .slice W nW cW]), (w.heap.size + 1, [.slice A1 n1 c1]), (w.heap.size, [.slice A0 n0 c0])] := Scene.addOwn S12 ho (by have := S12.bel.size; omega) (Nat.le_refl _)
  clear ho hb hdn hdw hlW hlG S12
  clear x0_0 z0 x1_0 x1_1 z1 x2_0 z2 x3_0 z3
  have x0_0 : w5.cell? ⟨w4.heap.size, 0, none⟩ = some (.slice X1 n1 n1) := S13.boxI 0 0 rfl rfl
  have z0 : w4.heap.size < w5.heap.size := cell_lt x0_0
  have x1_0 : w5.cell? ⟨w3.heap.size, 0, none⟩ = some (.slice X0 n0 n0) := S13.boxI 1 0 rfl rfl
  have z1 : w3.heap.size < w5.heap.size := cell_lt x1_0
  have x2_0 : w5.cell? ⟨gW, 0, none⟩ = some (.int .i64 (joC xs0 xs1)) := S13.boxI 2 0 rfl rfl
  have x2_1 : w5.cell? ⟨gW, 1, none⟩ = some (.slice W nW cW) := S13.boxI 2 1 rfl rfl
  have z2 : gW < w5.heap.size := cell_lt x2_0
  have x3_0 : w5.cell? ⟨w.heap.size + 1, 0, none⟩ = some (.slice A1 n1 c1) := S13.boxI 3 0 rfl rfl
  have z3 : w.heap.size + 1 < w5.heap.size := cell_lt x3_0
  have x4_0 : w5.cell? ⟨w.heap.size, 0, none⟩ = some (.slice A0 n0 c0) := S13.boxI 4 0 rfl rfl
  have z4 : w.heap.size < w5.heap.size := cell_lt x4_0
  have S14 : Scene w (w5.alloc (.cells #[.int .i64 (joC xs0 xs1), .slice G nW cG] 37)) [(chD xs0, .slice A0 n0 c0), (chD xs1, .slice A1 n1 c1)] [⟨chD (joL xs0 xs1), .slice G nW cG, w4.heap.size + 1, w5.heap.size⟩, ⟨chD xs1, .slice X1 n1 n1, w3.heap.size + 1, w4.heap.size⟩, ⟨chD xs0, .slice X0 n0 n0, wxW.heap.size, w3.heap.size⟩, ⟨chD (joL xs0 xs1), .slice W nW cW, laW, lbW⟩] [(w5.heap.size, [.int .i64 (joC xs0 xs1), .slice G nW cG]), (w4.heap.size, [.slice X1 n1 n1]), (w3.heap.size, [.slice X0 n0 n0]), (gW, [.int .i64 (joC xs0 xs1), .slice W nW cW]), (w.heap.size + 1, [.slice A1 n1 c1]), (w.heap.size, [.slice A0 n0 c0])] := Scene.addBox S13 [.int .i64 (joC xs0 xs1), .slice G nW cG] 37
  clear S13
  go_wp2_with fail
  obtain ⟨bsx, hdx⟩ := (S14.ownI 0 rfl).hd
  obtain ⟨bsy, hdy⟩ := (S14.ownI 3 rfl).hd
  refine (eqChainResult_same _ _ _ _ _ _ _ (joL xs0 xs1) _ _ _ hdx hdy (joL_small xs0 xs1)).mono ?_
  rintro e w6 ⟨rfl, hb⟩
  have i6 := Below.size hb
  try simp only [World.size_alloc] at i6
  have S15 : Scene w w6 [(chD xs0, .slice A0 n0 c0), (chD xs1, .slice A1 n1 c1)] [⟨chD (joL xs0 xs1), .slice G nW cG, w4.heap.size + 1, w5.heap.size⟩, ⟨chD xs1, .slice X1 n1 n1, w3.heap.size + 1, w4.heap.size⟩, ⟨chD xs0, .slice X0 n0 n0, wxW.heap.size, w3.heap.size⟩, ⟨chD (joL xs0 xs1), .slice W nW cW, laW, lbW⟩] [(w5.heap.size, [.int .i64 (joC xs0 xs1), .slice G nW cG]), (w4.heap.size, [.slice X1 n1 n1]), (w3.heap.size, [.slice X0 n0 n0]), (gW, [.int .i64 (joC xs0 xs1), .slice W nW cW]), (w.heap.size + 1, [.slice A1 n1 c1]), (w.heap.size, [.slice A0 n0 c0])] := Scene.below S14 hb
  clear hb hdx hdy
  clear x0_0 z0 x1_0 z1 x2_0 x2_1 z2 x3_0 z3 x4_0 z4
  have x0_0 : w6.cell? ⟨w5.heap.size, 0, none⟩ = some (.int .i64 (joC xs0 xs1)) := S15.boxI 0 0 rfl rfl
  have x0_1 : w6.cell? ⟨w5.heap.size, 1, none⟩ = some (.slice G nW cG) := S15.boxI 0 1 rfl rfl
  have z0 : w5.heap.size < w6.heap.size := cell_lt x0_0
  have x1_0 : w6.cell? ⟨w4.heap.size, 0, none⟩ = some (.slice X1 n1 n1) := S15.boxI 1 0 rfl rfl
  have z1 : w4.heap.size < w6.heap.size := cell_lt x1_0
  have x2_0 : w6.cell? ⟨w3.heap.size, 0, none⟩ = some (.slice X0 n0 n0) := S15.boxI 2 0 rfl rfl
  have z2 : w3.heap.size < w6.heap.size := cell_lt x2_0
  have x3_0 : w6.cell? ⟨gW, 0, none⟩ = some (.int .i64 (joC xs0 xs1)) := S15.boxI 3 0 rfl rfl
  have x3_1 : w6.cell? ⟨gW, 1, none⟩ = some (.slice W nW cW) := S15.boxI 3 1 rfl rfl
  have z3 : gW < w6.heap.size := cell_lt x3_0
  have x4_0 : w6.cell? ⟨w.heap.size + 1, 0, none⟩ = some (.slice A1 n1 c1) := S15.boxI 4 0 rfl rfl
  have z4 : w.heap.size + 1 < w6.heap.size := cell_lt x4_0
  have x5_0 : w6.cell? ⟨w.heap.size, 0, none⟩ = some (.slice A0 n0 c0) := S15.boxI 5 0 rfl rfl
  have z5 : w.heap.size < w6.heap.size := cell_lt x5_0
  go_wp2_with fail
  go_region_held3 (fun w' => w'.cell? ⟨w5.heap.size, 0, none⟩ = some (.int .i64 (joC xs0 xs1)) ∧ w'.cell? ⟨w5.heap.size, 1, none⟩ = some (.slice G nW cG) ∧ w'.cell? ⟨w4.heap.size, 0, none⟩ = some (.slice X1 n1 n1) ∧ w'.cell? ⟨w3.heap.size, 0, none⟩ = some (.slice X0 n0 n0) ∧ w'.cell? ⟨gW, 0, none⟩ = some (.int .i64 (joC xs0 xs1)) ∧ w'.cell? ⟨gW, 1, none⟩ = some (.slice W nW cW) ∧ w'.cell? ⟨w.heap.size + 1, 0, none⟩ = some (.slice A1 n1 c1) ∧ w'.cell? ⟨w.heap.size, 0, none⟩ = some (.slice A0 n0 c0) ∧ Scene w w' [(chD xs0, .slice A0 n0 c0), (chD xs1, .slice A1 n1 c1)] [⟨chD (joL xs0 xs1), .slice G nW cG, w4.heap.size + 1, w5.heap.size⟩, ⟨chD xs1, .slice X1 n1 n1, w3.heap.size + 1, w4.heap.size⟩, ⟨chD xs0, .slice X0 n0 n0, wxW.heap.size, w3.heap.size⟩, ⟨chD (joL xs0 xs1), .slice W nW cW, laW, lbW⟩] [(w5.heap.size, [.int .i64 (joC xs0 xs1), .slice G nW cG]), (w4.heap.size, [.slice X1 n1 n1]), (w3.heap.size, [.slice X0 n0 n0]), (gW, [.int .i64 (joC xs0 xs1), .slice W nW cW]), (w.heap.size + 1, [.slice A1 n1 c1]), (w.heap.size, [.slice A0 n0 c0])])
    (first | (go_split_ands; exact ⟨cell_later hb (by assumption), cell_later hb (by assumption), cell_later hb (by assumption), cell_later hb (by assumption), cell_later hb (by assumption), cell_later hb (by assumption), cell_later hb (by assumption), cell_later hb (by assumption), Scene.below (by assumption) hb⟩) | exact ⟨x0_0, x0_1, x1_0, x2_0, x3_0, x3_1, x4_0, x5_0, Scene.drew S15⟩)
    (first | (go_at_call 12; go_split_ands; obtain ⟨bsq, hdq⟩ := Scene.argI (by assumption) 0 rfl; refine (toChain_any A0 n0 c0 xs0 _ _ hdq hn0.out).mono ?_; rintro e w' ⟨Bq, rfl, ho, hb⟩) | (go_at_call 15; go_split_ands; obtain ⟨bsr, hdr⟩ := ho.hd; obtain ⟨bst, hdt⟩ := (Scene.ownI (by assumption) 2 rfl).hd; refine (eqChain_same _ _ _ _ _ _ xs0 _ _ _ hdt hdr hn0.out).mono ?_; rintro e w' ⟨rfl, hb⟩))
  go_split_ands
  rename Scene w _ _ _ _ => S16
  rename World => w7
  clear S15
  clear x0_0 x0_1 x1_0 x2_0 x3_0 x3_1 x4_0 x5_0 z0 z1 z2 z3 z4 z5
  clear ho
  have x0_0 : w7.cell? ⟨w5.heap.size, 0, none⟩ = some (.int .i64 (joC xs0 xs1)) := S16.boxI 0 0 rfl rfl
  have x0_1 : w7.cell? ⟨w5.heap.size, 1, none⟩ = some (.slice G nW cG) := S16.boxI 0 1 rfl rfl
  have z0 : w5.heap.size < w7.heap.size := cell_lt x0_0
  have x1_0 : w7.cell? ⟨w4.heap.size, 0, none⟩ = some (.slice X1 n1 n1) := S16.boxI 1 0 rfl rfl
  have z1 : w4.heap.size < w7.heap.size := cell_lt x1_0
  have x2_0 : w7.cell? ⟨w3.heap.size, 0, none⟩ = some (.slice X0 n0 n0) := S16.boxI 2 0 rfl rfl
  have z2 : w3.heap.size < w7.heap.size := cell_lt x2_0
  have x3_0 : w7.cell? ⟨gW, 0, none⟩ = some (.int .i64 (joC xs0 xs1)) := S16.boxI 3 0 rfl rfl
  have x3_1 : w7.cell? ⟨gW, 1, none⟩ = some (.slice W nW cW) := S16.boxI 3 1 rfl rfl
  have z3 : gW < w7.heap.size := cell_lt x3_0
  have x4_0 : w7.cell? ⟨w.heap.size + 1, 0, none⟩ = some (.slice A1 n1 c1) := S16.boxI 4 0 rfl rfl
  have z4 : w.heap.size + 1 < w7.heap.size := cell_lt x4_0
  have x5_0 : w7.cell? ⟨w.heap.size, 0, none⟩ = some (.slice A0 n0 c0) := S16.boxI 5 0 rfl rfl
  have z5 : w.heap.size < w7.heap.size := cell_lt x5_0
  go_wp2_with fail
  go_region_held3 (fun w' => w'.cell? ⟨w5.heap.size, 0, none⟩ = some (.int .i64 (joC xs0 xs1)) ∧ w'.cell? ⟨w5.heap.size, 1, none⟩ = some (.slice G nW cG) ∧ w'.cell? ⟨w4.heap.size, 0, none⟩ = some (.slice X1 n1 n1) ∧ w'.cell? ⟨w3.heap.size, 0, none⟩ = some (.slice X0 n0 n0) ∧ w'.cell? ⟨gW, 0, none⟩ = some (.int .i64 (joC xs0 xs1)) ∧ w'.cell? ⟨gW, 1, none⟩ = some (.slice W nW cW) ∧ w'.cell? ⟨w.heap.size + 1, 0, none⟩ = some (.slice A1 n1 c1) ∧ w'.cell? ⟨w.heap.size, 0, none⟩ = some (.slice A0 n0 c0) ∧ Scene w w' [(chD xs0, .slice A0 n0 c0), (chD xs1, .slice A1 n1 c1)] [⟨chD (joL xs0 xs1), .slice G nW cG, w4.heap.size + 1, w5.heap.size⟩, ⟨chD xs1, .slice X1 n1 n1, w3.heap.size + 1, w4.heap.size⟩, ⟨chD xs0, .slice X0 n0 n0, wxW.heap.size, w3.heap.size⟩, ⟨chD (joL xs0 xs1), .slice W nW cW, laW, lbW⟩] [(w5.heap.size, [.int .i64 (joC xs0 xs1), .slice G nW cG]), (w4.heap.size, [.slice X1 n1 n1]), (w3.heap.size, [.slice X0 n0 n0]), (gW, [.int .i64 (joC xs0 xs1), .slice W nW cW]), (w.heap.size + 1, [.slice A1 n1 c1]), (w.heap.size, [.slice A0 n0 c0])])
    (first | (go_split_ands; exact ⟨cell_later hb (by assumption), cell_later hb (by assumption), cell_later hb (by assumption), cell_later hb (by assumption), cell_later hb (by assumption), cell_later hb (by assumption), cell_later hb (by assumption), cell_later hb (by assumption), Scene.below (by assumption) hb⟩) | exact ⟨x0_0, x0_1, x1_0, x2_0, x3_0, x3_1, x4_0, x5_0, Scene.drew S16⟩)
    (first | (go_at_call 12; go_split_ands; obtain ⟨bsq, hdq⟩ := Scene.argI (by assumption) 1 rfl; refine (toChain_any A1 n1 c1 xs1 _ _ hdq hn1.out).mono ?_; rintro e w' ⟨Bq, rfl, ho, hb⟩) | (go_at_call 15; go_split_ands; obtain ⟨bsr, hdr⟩ := ho.hd; obtain ⟨bst, hdt⟩ := (Scene.ownI (by assumption) 1 rfl).hd; refine (eqChain_same _ _ _ _ _ _ xs1 _ _ _ hdt hdr hn1.out).mono ?_; rintro e w' ⟨rfl, hb⟩))
  go_split_ands
  rename Scene w _ _ _ _ => S17
  rename World => w8
  clear S16
  clear x0_0 x0_1 x1_0 x2_0 x3_0 x3_1 x4_0 x5_0 z0 z1 z2 z3 z4 z5
  clear ho
  have x0_0 : w8.cell? ⟨w5.heap.size, 0, none⟩ = some (.int .i64 (joC xs0 xs1)) := S17.boxI 0 0 rfl rfl
  have x0_1 : w8.cell? ⟨w5.heap.size, 1, none⟩ = some (.slice G nW cG) := S17.boxI 0 1 rfl rfl
  have z0 : w5.heap.size < w8.heap.size := cell_lt x0_0
  have x1_0 : w8.cell? ⟨w4.heap.size, 0, none⟩ = some (.slice X1 n1 n1) := S17.boxI 1 0 rfl rfl
  have z1 : w4.heap.size < w8.heap.size := cell_lt x1_0
  have x2_0 : w8.cell? ⟨w3.heap.size, 0, none⟩ = some (.slice X0 n0 n0) := S17.boxI 2 0 rfl rfl
  have z2 : w3.heap.size < w8.heap.size := cell_lt x2_0
  have x3_0 : w8.cell? ⟨gW, 0, none⟩ = some (.int .i64 (joC xs0 xs1)) := S17.boxI 3 0 rfl rfl
  have x3_1 : w8.cell? ⟨gW, 1, none⟩ = some (.slice W nW cW) := S17.boxI 3 1 rfl rfl
  have z3 : gW < w8.heap.size := cell_lt x3_0
  have x4_0 : w8.cell? ⟨w.heap.size + 1, 0, none⟩ = some (.slice A1 n1 c1) := S17.boxI 4 0 rfl rfl
  have z4 : w.heap.size + 1 < w8.heap.size := cell_lt x4_0
  have x5_0 : w8.cell? ⟨w.heap.size, 0, none⟩ = some (.slice A0 n0 c0) := S17.boxI 5 0 rfl rfl
  have z5 : w.heap.size < w8.heap.size := cell_lt x5_0
  go_wp2_with fail
  obtain ⟨bsm, hdm, ndm, inm⟩ := S17.ownI 2 rfl
  refine (markChain_any _ _ _ 1 xs0 bsm _ hdm ndm (fun b hb => (inm b hb).2.2) hn0.out (by omega)).mono ?_
  rintro e w9 ⟨rfl, hdm2, hchm⟩
  have sz9 := hchm.size
  have S18 : Scene w w9 [(chD xs0, .slice A0 n0 c0), (chD xs1, .slice A1 n1 c1)] [⟨chD (mkC xs0 1 xs0.length), .slice X0 n0 n0, wxW.heap.size, w3.heap.size⟩, ⟨chD (joL xs0 xs1), .slice G nW cG, w4.heap.size + 1, w5.heap.size⟩, ⟨chD xs1, .slice X1 n1 n1, w3.heap.size + 1, w4.heap.size⟩, ⟨chD (joL xs0 xs1), .slice W nW cW, laW, lbW⟩] [(w5.heap.size, [.int .i64 (joC xs0 xs1), .slice G nW cG]), (w4.heap.size, [.slice X1 n1 n1]), (w3.heap.size, [.slice X0 n0 n0]), (gW, [.int .i64 (joC xs0 xs1), .slice W nW cW]), (w.heap.size + 1, [.slice A1 n1 c1]), (w.heap.size, [.slice A0 n0 c0])] := Scene.turn (lo := wxW.heap.size) (hi := w3.heap.size) (os' := [⟨chD (joL xs0 xs1), .slice G nW cG, w4.heap.size + 1, w5.heap.size⟩, ⟨chD xs1, .slice X1 n1 n1, w3.heap.size + 1, w4.heap.size⟩, ⟨chD (joL xs0 xs1), .slice W nW cW, laW, lbW⟩]) S17 hchm (fun k hk => ⟨(inm k hk).1, (inm k hk).2.1⟩) (by have := S17.bel.size; omega) (S17.own _ (List.mem_of_getElem? (i := 2) rfl)).2.2
    ⟨bsm, hdm2, ndm, fun b hb => ⟨(inm b hb).1, (inm b hb).2.1, (inm b hb).2.2.ch hchm (hdm.lt b hb)⟩⟩ (by simp; try omega) (by simp; try omega)
  clear hdm ndm inm hdm2 hchm S17
  clear x0_0 x0_1 z0 x1_0 z1 x2_0 z2 x3_0 x3_1 z3 x4_0 z4 x5_0 z5
  have x0_0 : w9.cell? ⟨w5.heap.size, 0, none⟩ = some (.int .i64 (joC xs0 xs1)) := S18.boxI 0 0 rfl rfl
  have x0_1 : w9.cell? ⟨w5.heap.size, 1, none⟩ = some (.slice G nW cG) := S18.boxI 0 1 rfl rfl
  have z0 : w5.heap.size < w9.heap.size := cell_lt x0_0
  have x1_0 : w9.cell? ⟨w4.heap.size, 0, none⟩ = some (.slice X1 n1 n1) := S18.boxI 1 0 rfl rfl
  have z1 : w4.heap.size < w9.heap.size := cell_lt x1_0
  have x2_0 : w9.cell? ⟨w3.heap.size, 0, none⟩ = some (.slice X0 n0 n0) := S18.boxI 2 0 rfl rfl
  have z2 : w3.heap.size < w9.heap.size := cell_lt x2_0
  have x3_0 : w9.cell? ⟨gW, 0, none⟩ = some (.int .i64 (joC xs0 xs1)) := S18.boxI 3 0 rfl rfl
  have x3_1 : w9.cell? ⟨gW, 1, none⟩ = some (.slice W nW cW) := S18.boxI 3 1 rfl rfl
  have z3 : gW < w9.heap.size := cell_lt x3_0
  have x4_0 : w9.cell? ⟨w.heap.size + 1, 0, none⟩ = some (.slice A1 n1 c1) := S18.boxI 4 0 rfl rfl
  have z4 : w.heap.size + 1 < w9.heap.size := cell_lt x4_0
  have x5_0 : w9.cell? ⟨w.heap.size, 0, none⟩ = some (.slice A0 n0 c0) := S18.boxI 5 0 rfl rfl
  have z5 : w.heap.size < w9.heap.size := cell_lt x5_0
  have hbd0 := kC_big hn0.out (k := 1) (by omega) (Nat.le_refl _)
  go_wp2_with fail
  obtain ⟨bsm, hdm, ndm, inm⟩ := S18.ownI 2 rfl
  refine (markChain_any _ _ _ (kC xs0 1 xs0.length) xs1 bsm _ hdm ndm (fun b hb => (inm b hb).2.2) hn1.out (by omega)).mono ?_
  rintro e w10 ⟨rfl, hdm2, hchm⟩
  have sz10 := hchm.size
  have S19 : Scene w w10 [(chD xs0, .slice A0 n0 c0), (chD xs1, .slice A1 n1 c1)] [⟨chD (mkC xs1 (kC xs0 1 xs0.length) xs1.length), .slice X1 n1 n1, w3.heap.size + 1, w4.heap.size⟩, ⟨chD (mkC xs0 1 xs0.length), .slice X0 n0 n0, wxW.heap.size, w3.heap.size⟩, ⟨chD (joL xs0 xs1), .slice G nW cG, w4.heap.size + 1, w5.heap.size⟩, ⟨chD (joL xs0 xs1), .slice W nW cW, laW, lbW⟩] [(w5.heap.size, [.int .i64 (joC xs0 xs1), .slice G nW cG]), (w4.heap.size, [.slice X1 n1 n1]), (w3.heap.size, [.slice X0 n0 n0]), (gW, [.int .i64 (joC xs0 xs1), .slice W nW cW]), (w.heap.size + 1, [.slice A1 n1 c1]), (w.heap.size, [.slice A0 n0 c0])] := Scene.turn (lo := w3.heap.size + 1) (hi := w4.heap.size) (os' := [⟨chD (mkC xs0 1 xs0.length), .slice X0 n0 n0, wxW.heap.size, w3.heap.size⟩, ⟨chD (joL xs0 xs1), .slice G nW cG, w4.heap.size + 1, w5.heap.size⟩, ⟨chD (joL xs0 xs1), .slice W nW cW, laW, lbW⟩]) S18 hchm (fun k hk => ⟨(inm k hk).1, (inm k hk).2.1⟩) (by have := S18.bel.size; omega) (S18.own _ (List.mem_of_getElem? (i := 2) rfl)).2.2
    ⟨bsm, hdm2, ndm, fun b hb => ⟨(inm b hb).1, (inm b hb).2.1, (inm b hb).2.2.ch hchm (hdm.lt b hb)⟩⟩ (by simp; try omega) (by simp; try omega)
  clear hdm ndm inm hdm2 hchm S18
  clear x0_0 x0_1 z0 x1_0 z1 x2_0 z2 x3_0 x3_1 z3 x4_0 z4 x5_0 z5
  have x0_0 : w10.cell? ⟨w5.heap.size, 0, none⟩ = some (.int .i64 (joC xs0 xs1)) := S19.boxI 0 0 rfl rfl
  have x0_1 : w10.cell? ⟨w5.heap.size, 1, none⟩ = some (.slice G nW cG) := S19.boxI 0 1 rfl rfl
  have z0 : w5.heap.size < w10.heap.size := cell_lt x0_0
  have x1_0 : w10.cell? ⟨w4.heap.size, 0, none⟩ = some (.slice X1 n1 n1) := S19.boxI 1 0 rfl rfl
  have z1 : w4.heap.size < w10.heap.size := cell_lt x1_0
  have x2_0 : w10.cell? ⟨w3.heap.size, 0, none⟩ = some (.slice X0 n0 n0) := S19.boxI 2 0 rfl rfl
  have z2 : w3.heap.size < w10.heap.size := cell_lt x2_0
  have x3_0 : w10.cell? ⟨gW, 0, none⟩ = some (.int .i64 (joC xs0 xs1)) := S19.boxI 3 0 rfl rfl
  have x3_1 : w10.cell? ⟨gW, 1, none⟩ = some (.slice W nW cW) := S19.boxI 3 1 rfl rfl
  have z3 : gW < w10.heap.size := cell_lt x3_0
  have x4_0 : w10.cell? ⟨w.heap.size + 1, 0, none⟩ = some (.slice A1 n1 c1) := S19.boxI 4 0 rfl rfl
  have z4 : w.heap.size + 1 < w10.heap.size := cell_lt x4_0
  have x5_0 : w10.cell? ⟨w.heap.size, 0, none⟩ = some (.slice A0 n0 c0) := S19.boxI 5 0 rfl rfl
  have z5 : w.heap.size < w10.heap.size := cell_lt x5_0
  have hbd1 := kC_big hn1.out (k := (kC xs0 1 xs0.length)) (by omega) (Nat.le_refl _)
  have hkneg : ¬ (((kC xs1 (kC xs0 1 xs0.length) xs1.length : Nat) : Int) : Int) < 0 := by omega
  go_wp2_with fail
  obtain ⟨bsx, hdx⟩ := (S19.ownI 2 rfl).hd
  obtain ⟨bsy, hdy⟩ := (S19.ownI 3 rfl).hd
  refine (eqChainResult_same _ _ _ _ _ _ _ (joL xs0 xs1) _ _ _ hdx hdy (joL_small xs0 xs1)).mono ?_
  rintro e w11 ⟨rfl, hb⟩
  have i11 := Below.size hb
  try simp only [World.size_alloc] at i11
  have S20 : Scene w w11 [(chD xs0, .slice A0 n0 c0), (chD xs1, .slice A1 n1 c1)] [⟨chD (mkC xs1 (kC xs0 1 xs0.length) xs1.length), .slice X1 n1 n1, w3.heap.size + 1, w4.heap.size⟩, ⟨chD (mkC xs0 1 xs0.length), .slice X0 n0 n0, wxW.heap.size, w3.heap.size⟩, ⟨chD (joL xs0 xs1), .slice G nW cG, w4.heap.size + 1, w5.heap.size⟩, ⟨chD (joL xs0 xs1), .slice W nW cW, laW, lbW⟩] [(w5.heap.size, [.int .i64 (joC xs0 xs1), .slice G nW cG]), (w4.heap.size, [.slice X1 n1 n1]), (w3.heap.size, [.slice X0 n0 n0]), (gW, [.int .i64 (joC xs0 xs1), .slice W nW cW]), (w.heap.size + 1, [.slice A1 n1 c1]), (w.heap.size, [.slice A0 n0 c0])] := Scene.below S19 hb
  clear hb hdx hdy
  clear x0_0 x0_1 z0 x1_0 z1 x2_0 z2 x3_0 x3_1 z3 x4_0 z4 x5_0 z5
  have x0_0 : w11.cell? ⟨w5.heap.size, 0, none⟩ = some (.int .i64 (joC xs0 xs1)) := S20.boxI 0 0 rfl rfl
  have x0_1 : w11.cell? ⟨w5.heap.size, 1, none⟩ = some (.slice G nW cG) := S20.boxI 0 1 rfl rfl
  have z0 : w5.heap.size < w11.heap.size := cell_lt x0_0
  have x1_0 : w11.cell? ⟨w4.heap.size, 0, none⟩ = some (.slice X1 n1 n1) := S20.boxI 1 0 rfl rfl
  have z1 : w4.heap.size < w11.heap.size := cell_lt x1_0
  have x2_0 : w11.cell? ⟨w3.heap.size, 0, none⟩ = some (.slice X0 n0 n0) := S20.boxI 2 0 rfl rfl
  have z2 : w3.heap.size < w11.heap.size := cell_lt x2_0
  have x3_0 : w11.cell? ⟨gW, 0, none⟩ = some (.int .i64 (joC xs0 xs1)) := S20.boxI 3 0 rfl rfl
  have x3_1 : w11.cell? ⟨gW, 1, none⟩ = some (.slice W nW cW) := S20.boxI 3 1 rfl rfl
  have z3 : gW < w11.heap.size := cell_lt x3_0
  have x4_0 : w11.cell? ⟨w.heap.size + 1, 0, none⟩ = some (.slice A1 n1 c1) := S20.boxI 4 0 rfl rfl
  have z4 : w.heap.size + 1 < w11.heap.size := cell_lt x4_0
  have x5_0 : w11.cell? ⟨w.heap.size, 0, none⟩ = some (.slice A0 n0 c0) := S20.boxI 5 0 rfl rfl
  have z5 : w.heap.size < w11.heap.size := cell_lt x5_0
  go_wp2_with fail
  obtain ⟨bsm, hdm, ndm, inm⟩ := S20.ownI 2 rfl
  refine (markChainResult_any _ _ _ 1 _ (joL xs0 xs1) bsm _ hdm ndm (fun b hb => (inm b hb).2.2) (joL_small xs0 xs1) (by omega)).mono ?_
  rintro e w12 ⟨rfl, hdm2, hchm⟩
  have sz12 := hchm.size
  have S21 : Scene w w12 [(chD xs0, .slice A0 n0 c0), (chD xs1, .slice A1 n1 c1)] [⟨chD (mkC (joL xs0 xs1) 1 (joL xs0 xs1).length), .slice G nW cG, w4.heap.size + 1, w5.heap.size⟩, ⟨chD (mkC xs1 (kC xs0 1 xs0.length) xs1.length), .slice X1 n1 n1, w3.heap.size + 1, w4.heap.size⟩, ⟨chD (mkC xs0 1 xs0.length), .slice X0 n0 n0, wxW.heap.size, w3.heap.size⟩, ⟨chD (joL xs0 xs1), .slice W nW cW, laW, lbW⟩] [(w5.heap.size, [.int .i64 (joC xs0 xs1), .slice G nW cG]), (w4.heap.size, [.slice X1 n1 n1]), (w3.heap.size, [.slice X0 n0 n0]), (gW, [.int .i64 (joC xs0 xs1), .slice W nW cW]), (w.heap.size + 1, [.slice A1 n1 c1]), (w.heap.size, [.slice A0 n0 c0])] := Scene.turn (lo := w4.heap.size + 1) (hi := w5.heap.size) (os' := [⟨chD (mkC xs1 (kC xs0 1 xs0.length) xs1.length), .slice X1 n1 n1, w3.heap.size + 1, w4.heap.size⟩, ⟨chD (mkC xs0 1 xs0.length), .slice X0 n0 n0, wxW.heap.size, w3.heap.size⟩, ⟨chD (joL xs0 xs1), .slice W nW cW, laW, lbW⟩]) S20 hchm (fun k hk => ⟨(inm k hk).1, (inm k hk).2.1⟩) (by have := S20.bel.size; omega) (S20.own _ (List.mem_of_getElem? (i := 2) rfl)).2.2
    ⟨bsm, hdm2, ndm, fun b hb => ⟨(inm b hb).1, (inm b hb).2.1, (inm b hb).2.2.ch hchm (hdm.lt b hb)⟩⟩ (by simp; try omega) (by simp; try omega)
  clear hdm ndm inm hdm2 hchm S20
  clear x0_0 x0_1 z0 x1_0 z1 x2_0 z2 x3_0 x3_1 z3 x4_0 z4 x5_0 z5
  have x0_0 : w12.cell? ⟨w5.heap.size, 0, none⟩ = some (.int .i64 (joC xs0 xs1)) := S21.boxI 0 0 rfl rfl
  have x0_1 : w12.cell? ⟨w5.heap.size, 1, none⟩ = some (.slice G nW cG) := S21.boxI 0 1 rfl rfl
  have z0 : w5.heap.size < w12.heap.size := cell_lt x0_0
  have x1_0 : w12.cell? ⟨w4.heap.size, 0, none⟩ = some (.slice X1 n1 n1) := S21.boxI 1 0 rfl rfl
  have z1 : w4.heap.size < w12.heap.size := cell_lt x1_0
  have x2_0 : w12.cell? ⟨w3.heap.size, 0, none⟩ = some (.slice X0 n0 n0) := S21.boxI 2 0 rfl rfl
  have z2 : w3.heap.size < w12.heap.size := cell_lt x2_0
  have x3_0 : w12.cell? ⟨gW, 0, none⟩ = some (.int .i64 (joC xs0 xs1)) := S21.boxI 3 0 rfl rfl
  have x3_1 : w12.cell? ⟨gW, 1, none⟩ = some (.slice W nW cW) := S21.boxI 3 1 rfl rfl
  have z3 : gW < w12.heap.size := cell_lt x3_0
  have x4_0 : w12.cell? ⟨w.heap.size + 1, 0, none⟩ = some (.slice A1 n1 c1) := S21.boxI 4 0 rfl rfl
  have z4 : w.heap.size + 1 < w12.heap.size := cell_lt x4_0
  have x5_0 : w12.cell? ⟨w.heap.size, 0, none⟩ = some (.slice A0 n0 c0) := S21.boxI 5 0 rfl rfl
  have z5 : w.heap.size < w12.heap.size := cell_lt x5_0
  go_wp2_with fail
  obtain ⟨bsh, hdh⟩ := (S21.ownI 0 rfl).hd
  refine (heldChainResult_any _ _ _ 1 _ (joL xs0 xs1) _ _ hdh (joL_small xs0 xs1) (by omega)).mono ?_
  rintro e w13 ⟨rfl, hb⟩
  have i13 := Below.size hb
  try simp only [World.size_alloc] at i13
  have S22 : Scene w w13 [(chD xs0, .slice A0 n0 c0), (chD xs1, .slice A1 n1 c1)] [⟨chD (mkC (joL xs0 xs1) 1 (joL xs0 xs1).length), .slice G nW cG, w4.heap.size + 1, w5.heap.size⟩, ⟨chD (mkC xs1 (kC xs0 1 xs0.length) xs1.length), .slice X1 n1 n1, w3.heap.size + 1, w4.heap.size⟩, ⟨chD (mkC xs0 1 xs0.length), .slice X0 n0 n0, wxW.heap.size, w3.heap.size⟩, ⟨chD (joL xs0 xs1), .slice W nW cW, laW, lbW⟩] [(w5.heap.size, [.int .i64 (joC xs0 xs1), .slice G nW cG]), (w4.heap.size, [.slice X1 n1 n1]), (w3.heap.size, [.slice X0 n0 n0]), (gW, [.int .i64 (joC xs0 xs1), .slice W nW cW]), (w.heap.size + 1, [.slice A1 n1 c1]), (w.heap.size, [.slice A0 n0 c0])] := Scene.below S21 hb
  clear hb hdh
  have hneg : ¬ ((kC (joL xs0 xs1) 1 (joL xs0 xs1).length : Nat) : Int) < 0 := by omega
  clear x0_0 x0_1 z0 x1_0 z1 x2_0 z2 x3_0 x3_1 z3 x4_0 z4 x5_0 z5
  have x0_0 : w13.cell? ⟨w5.heap.size, 0, none⟩ = some (.int .i64 (joC xs0 xs1)) := S22.boxI 0 0 rfl rfl
  have x0_1 : w13.cell? ⟨w5.heap.size, 1, none⟩ = some (.slice G nW cG) := S22.boxI 0 1 rfl rfl
  have z0 : w5.heap.size < w13.heap.size := cell_lt x0_0
  have x1_0 : w13.cell? ⟨w4.heap.size, 0, none⟩ = some (.slice X1 n1 n1) := S22.boxI 1 0 rfl rfl
  have z1 : w4.heap.size < w13.heap.size := cell_lt x1_0
  have x2_0 : w13.cell? ⟨w3.heap.size, 0, none⟩ = some (.slice X0 n0 n0) := S22.boxI 2 0 rfl rfl
  have z2 : w3.heap.size < w13.heap.size := cell_lt x2_0
  have x3_0 : w13.cell? ⟨gW, 0, none⟩ = some (.int .i64 (joC xs0 xs1)) := S22.boxI 3 0 rfl rfl
  have x3_1 : w13.cell? ⟨gW, 1, none⟩ = some (.slice W nW cW) := S22.boxI 3 1 rfl rfl
  have z3 : gW < w13.heap.size := cell_lt x3_0
  have x4_0 : w13.cell? ⟨w.heap.size + 1, 0, none⟩ = some (.slice A1 n1 c1) := S22.boxI 4 0 rfl rfl
  have z4 : w.heap.size + 1 < w13.heap.size := cell_lt x4_0
  have x5_0 : w13.cell? ⟨w.heap.size, 0, none⟩ = some (.slice A0 n0 c0) := S22.boxI 5 0 rfl rfl
  have z5 : w.heap.size < w13.heap.size := cell_lt x5_0
  go_wp2_with fail
  clear x0_0 x0_1 z0 x1_0 z1 x2_0 z2 x3_0 x3_1 z3 x4_0 z4 x5_0 z5
  have x0_0 : w13.cell? ⟨w5.heap.size, 0, none⟩ = some (.int .i64 (joC xs0 xs1)) := S22.boxI 0 0 rfl rfl
  have x0_1 : w13.cell? ⟨w5.heap.size, 1, none⟩ = some (.slice G nW cG) := S22.boxI 0 1 rfl rfl
  have z0 : w5.heap.size < w13.heap.size := cell_lt x0_0
  have x1_0 : w13.cell? ⟨w4.heap.size, 0, none⟩ = some (.slice X1 n1 n1) := S22.boxI 1 0 rfl rfl
  have z1 : w4.heap.size < w13.heap.size := cell_lt x1_0
  have x2_0 : w13.cell? ⟨w3.heap.size, 0, none⟩ = some (.slice X0 n0 n0) := S22.boxI 2 0 rfl rfl
  have z2 : w3.heap.size < w13.heap.size := cell_lt x2_0
  have x3_0 : w13.cell? ⟨gW, 0, none⟩ = some (.int .i64 (joC xs0 xs1)) := S22.boxI 3 0 rfl rfl
  have x3_1 : w13.cell? ⟨gW, 1, none⟩ = some (.slice W nW cW) := S22.boxI 3 1 rfl rfl
  have z3 : gW < w13.heap.size := cell_lt x3_0
  have x4_0 : w13.cell? ⟨w.heap.size + 1, 0, none⟩ = some (.slice A1 n1 c1) := S22.boxI 4 0 rfl rfl
  have z4 : w.heap.size + 1 < w13.heap.size := cell_lt x4_0
  have x5_0 : w13.cell? ⟨w.heap.size, 0, none⟩ = some (.slice A0 n0 c0) := S22.boxI 5 0 rfl rfl
  have z5 : w.heap.size < w13.heap.size := cell_lt x5_0
  obtain ⟨bsa0, hda0⟩ := S22.argI 0 rfl
  have HA0 := Lib.hid hda0
  clear hda0
  obtain ⟨bsa1, hda1⟩ := S22.argI 1 rfl
  have HA1 := Lib.hid hda1
  clear hda1
  go_cut [13] from 75 to 79 (fun p wxH => ∃ (g : Nat) (G : Option Addr) (nG cG la lb : Nat), p = .pointer (some ⟨g, 0, none⟩) ∧ MR w13 wxH [.int .i64 (joC xs0 xs1), .slice G nG cG] (chD (joL xs0 xs1)) (.slice G nG cG) g la lb)
  case first =>
    go_region_held3 (fun w' => w'.cell? ⟨w5.heap.size, 0, none⟩ = some (.int .i64 (joC xs0 xs1)) ∧ w'.cell? ⟨w5.heap.size, 1, none⟩ = some (.slice G nW cG) ∧ w'.cell? ⟨w4.heap.size, 0, none⟩ = some (.slice X1 n1 n1) ∧ w'.cell? ⟨w3.heap.size, 0, none⟩ = some (.slice X0 n0 n0) ∧ w'.cell? ⟨gW, 0, none⟩ = some (.int .i64 (joC xs0 xs1)) ∧ w'.cell? ⟨gW, 1, none⟩ = some (.slice W nW cW) ∧ w'.cell? ⟨w.heap.size + 1, 0, none⟩ = some (.slice A1 n1 c1) ∧ w'.cell? ⟨w.heap.size, 0, none⟩ = some (.slice A0 n0 c0)) (first | exact ⟨x0_0, x0_1, x1_0, x2_0, x3_0, x3_1, x4_0, x5_0⟩ | (go_split_ands; exact ⟨cell_later hb (by assumption), cell_later hb (by assumption), cell_later hb (by assumption), cell_later hb (by assumption), cell_later hb (by assumption), cell_later hb (by assumption), cell_later hb (by assumption), cell_later hb (by assumption)⟩) | (go_split_ands; exact ⟨cell_later (blAlloc _ _) (by assumption), cell_later (blAlloc _ _) (by assumption), cell_later (blAlloc _ _) (by assumption), cell_later (blAlloc _ _) (by assumption), cell_later (blAlloc _ _) (by assumption), cell_later (blAlloc _ _) (by assumption), cell_later (blAlloc _ _) (by assumption), cell_later (blAlloc _ _) (by assumption)⟩) | (go_split_ands; exact ⟨cell_later (blAlloc _ _) (cell_later hb (by assumption)), cell_later (blAlloc _ _) (cell_later hb (by assumption)), cell_later (blAlloc _ _) (cell_later hb (by assumption)), cell_later (blAlloc _ _) (cell_later hb (by assumption)), cell_later (blAlloc _ _) (cell_later hb (by assumption)), cell_later (blAlloc _ _) (cell_later hb (by assumption)), cell_later (blAlloc _ _) (cell_later hb (by assumption)), cell_later (blAlloc _ _) (cell_later hb (by assumption))⟩) | (go_split_ands; exact ⟨(cell_s (cell_s (by assumption) (by omega)) (by omega)), (cell_s (cell_s (by assumption) (by omega)) (by omega)), (cell_s (cell_s (by assumption) (by omega)) (by omega)), (cell_s (cell_s (by assumption) (by omega)) (by omega)), (cell_s (cell_s (by assumption) (by omega)) (by omega)), (cell_s (cell_s (by assumption) (by omega)) (by omega)), (cell_s (cell_s (by assumption) (by omega)) (by omega)), (cell_s (cell_s (by assumption) (by omega)) (by omega))⟩)) (first | (go_at_call 12; (with_reducible refine (toChain_any A0 n0 c0 xs0 _ _ (HA0.out.bel (by first | exact (Below.refl _ _).drew | exact blThenAlloc (Below.refl _ _).drew _ | exact (blThenAlloc (Below.refl _ _) _).drew | exact Below.refl _ _)) hn0.out).mono ?_); rintro e wq0 ⟨BB0, rfl, ho, hb⟩; have T0 := Lib.hid (show Below w13.heap.size w13 wq0 from blThen (by first | exact (Below.refl _ _).drew | exact blThenAlloc (Below.refl _ _).drew _ | exact (blThenAlloc (Below.refl _ _) _).drew | exact Below.refl _ _) hb); have O0_0 := Lib.hid ho; (first | (have BX0 : Hid (Bx wq0 w13.heap.size _) := (Bx.new w13.drew _ _ rfl).bel hb) | (have BX0 : Hid (Bx wq0 w13.heap.size _) := ((Bx.new w13 _ _ rfl).drewN 1).bel hb) | (have BX0 : Hid (Bx wq0 w13.heap.size _) := (Bx.new w13 _ _ rfl).bel hb) | skip); have y0_0_0 := cell_later T0.out x0_0; have y0_0_1 := cell_later T0.out x0_1; have yz0_0 := cell_lt y0_0_0; have y0_1_0 := cell_later T0.out x1_0; have yz0_1 := cell_lt y0_1_0; have y0_2_0 := cell_later T0.out x2_0; have yz0_2 := cell_lt y0_2_0; have y0_3_0 := cell_later T0.out x3_0; have y0_3_1 := cell_later T0.out x3_1; have yz0_3 := cell_lt y0_3_0; have y0_4_0 := cell_later T0.out x4_0; have yz0_4 := cell_lt y0_4_0; have y0_5_0 := cell_later T0.out x5_0; have yz0_5 := cell_lt y0_5_0; clear ho) | (go_at_call 12; (with_reducible refine (toChain_any A1 n1 c1 xs1 _ _ (HA1.out.bel (by first | exact T0.out | exact blThenAlloc T0.out _)) hn1.out).mono ?_); rintro e wq1 ⟨BB1, rfl, ho, hb⟩; have T1 := Lib.hid (show Below w13.heap.size w13 wq1 from blThen (by first | exact T0.out | exact blThenAlloc T0.out _) hb); have O1_1 := Lib.hid ho; have L1 := Lib.hid (show Below wq0.heap.size wq0 wq1 from blThen (by first | exact Below.refl _ _ | exact blAlloc _ _) hb); have O0_1 := Lib.hid (O0_0.out.below L1.out); (first | (have BX1 := Lib.hid (BX0.out.bel hb)) | (have BX1 : Hid (Bx wq1 wq0.heap.size _) := (Bx.new wq0 _ _ rfl).bel hb) | skip); have y1_0_0 := cell_later T1.out x0_0; have y1_0_1 := cell_later T1.out x0_1; have yz1_0 := cell_lt y1_0_0; have y1_1_0 := cell_later T1.out x1_0; have yz1_1 := cell_lt y1_1_0; have y1_2_0 := cell_later T1.out x2_0; have yz1_2 := cell_lt y1_2_0; have y1_3_0 := cell_later T1.out x3_0; have y1_3_1 := cell_later T1.out x3_1; have yz1_3 := cell_lt y1_3_0; have y1_4_0 := cell_later T1.out x4_0; have yz1_4 := cell_lt y1_4_0; have y1_5_0 := cell_later T1.out x5_0; have yz1_5 := cell_lt y1_5_0; clear ho) | (go_at_call 17; refine (JoinChains_any BB0 BB1 n0 n0 n1 n1 xs0 xs1 _ _ _ (O0_1.out.hd.choose_spec.bel (by first | exact Below.refl _ _ | exact blAlloc _ _)) (O1_1.out.hd.choose_spec.bel (by first | exact Below.refl _ _ | exact blAlloc _ _))).mono ?_; rintro e wz ⟨G, nG, cG, rfl, ho, hb⟩; have TZ := Lib.hid (show Below w13.heap.size w13 wz from blThen (by first | exact T1.out | exact blThenAlloc T1.out _) hb); have OZ := Lib.hid ho; have SZ := Lib.hid hb.size; (first | (have hg := BX1.out.lt; have BZ := Lib.hid (BX1.out.bel hb)) | (have BZ : Hid (Bx wz wq1.heap.size _) := (Bx.new wq1 _ _ rfl).bel hb) | skip); (first | (have gz := BZ.out.lt; have bc0 := BZ.out.c 0 rfl; have bf0 := BZ.out.f 0; have bc1 := BZ.out.c 1 rfl; have bf1 := BZ.out.f 1) | skip); clear ho))
    all_goals (try go_wp2_with fail)
    all_goals go_meet
    all_goals (first | exact ⟨_, G, nG, cG, _, _, rfl, MR.last _ TZ.out OZ.out (by have := T1.out.size; first | omega | (simp; omega)) SZ.out⟩ | exact ⟨_, G, nG, cG, _, _, rfl, MR.set TZ.out OZ.out BZ.out (by have := T1.out.size; first | omega | (simp; omega)) SZ.out (by first | exact Nat.le_refl _ | exact T0.out.size | exact T1.out.size) (by first | exact hg | simp) (Ch.set1 (Ch.set1 (Ch.refl _ _) 0 _) 1 _) (((BZ.out).set 0 _).set 1 _)⟩)
  case rest =>
  rename World => wxH
  obtain ⟨gH, H, nH, cH, laH, lbH, rfl, hmr⟩ := hcut
  obtain ⟨bsn, hdn⟩ := hmr.own.hd
  have hlH := hdn.stgs.1
  obtain ⟨bsw, hdw⟩ := (S22.ownI 3 rfl).hd
  have hlW := hdw.stgs.1
  obtain rfl : nW = nH := by omega
  clear hdw hlW
  have hgH := hmr.g1
  have hggH := hmr.g0
  have hlaH := hmr.hla
  have hlbH := hmr.hlb
  have hllH := hmr.hll
  have hszH := hmr.bl.size
  have S23 : Scene w wxH [(chD xs0, .slice A0 n0 c0), (chD xs1, .slice A1 n1 c1)] [⟨chD (joL xs0 xs1), .slice H nW cH, laH, lbH⟩, ⟨chD (mkC (joL xs0 xs1) 1 (joL xs0 xs1).length), .slice G nW cG, w4.heap.size + 1, w5.heap.size⟩, ⟨chD (mkC xs1 (kC xs0 1 xs0.length) xs1.length), .slice X1 n1 n1, w3.heap.size + 1, w4.heap.size⟩, ⟨chD (mkC xs0 1 xs0.length), .slice X0 n0 n0, wxW.heap.size, w3.heap.size⟩, ⟨chD (joL xs0 xs1), .slice W nW cW, laW, lbW⟩] [(gH, [.int .i64 (joC xs0 xs1), .slice H nW cH]), (w5.heap.size, [.int .i64 (joC xs0 xs1), .slice G nW cG]), (w4.heap.size, [.slice X1 n1 n1]), (w3.heap.size, [.slice X0 n0 n0]), (gW, [.int .i64 (joC xs0 xs1), .slice W nW cW]), (w.heap.size + 1, [.slice A1 n1 c1]), (w.heap.size, [.slice A0 n0 c0])] := Scene.addMR S22 hmr
  clear hmr hdn hlH S22 HA0 HA1
  clear x0_0 x0_1 z0 x1_0 z1 x2_0 z2 x3_0 x3_1 z3 x4_0 z4 x5_0 z5
  have x0_0 : wxH.cell? ⟨gH, 0, none⟩ = some (.int .i64 (joC xs0 xs1)) := S23.boxI 0 0 rfl rfl
  have x0_1 : wxH.cell? ⟨gH, 1, none⟩ = some (.slice H nW cH) := S23.boxI 0 1 rfl rfl
  have z0 : gH < wxH.heap.size := cell_lt x0_0
  have x1_0 : wxH.cell? ⟨w5.heap.size, 0, none⟩ = some (.int .i64 (joC xs0 xs1)) := S23.boxI 1 0 rfl rfl
  have x1_1 : wxH.cell? ⟨w5.heap.size, 1, none⟩ = some (.slice G nW cG) := S23.boxI 1 1 rfl rfl
  have z1 : w5.heap.size < wxH.heap.size := cell_lt x1_0
  have x2_0 : wxH.cell? ⟨w4.heap.size, 0, none⟩ = some (.slice X1 n1 n1) := S23.boxI 2 0 rfl rfl
  have z2 : w4.heap.size < wxH.heap.size := cell_lt x2_0
  have x3_0 : wxH.cell? ⟨w3.heap.size, 0, none⟩ = some (.slice X0 n0 n0) := S23.boxI 3 0 rfl rfl
  have z3 : w3.heap.size < wxH.heap.size := cell_lt x3_0
  have x4_0 : wxH.cell? ⟨gW, 0, none⟩ = some (.int .i64 (joC xs0 xs1)) := S23.boxI 4 0 rfl rfl
  have x4_1 : wxH.cell? ⟨gW, 1, none⟩ = some (.slice W nW cW) := S23.boxI 4 1 rfl rfl
  have z4 : gW < wxH.heap.size := cell_lt x4_0
  have x5_0 : wxH.cell? ⟨w.heap.size + 1, 0, none⟩ = some (.slice A1 n1 c1) := S23.boxI 5 0 rfl rfl
  have z5 : w.heap.size + 1 < wxH.heap.size := cell_lt x5_0
  have x6_0 : wxH.cell? ⟨w.heap.size, 0, none⟩ = some (.slice A0 n0 c0) := S23.boxI 6 0 rfl rfl
  have z6 : w.heap.size < wxH.heap.size := cell_lt x6_0
  go_wp2_with fail
  obtain ⟨bsx, hdx⟩ := (S23.ownI 0 rfl).hd
  obtain ⟨bsy, hdy⟩ := (S23.ownI 4 rfl).hd
  refine (eqChainResult_same _ _ _ _ _ _ _ (joL xs0 xs1) _ _ _ hdx hdy (joL_small xs0 xs1)).mono ?_
  rintro e w14 ⟨rfl, hb⟩
  have i14 := Below.size hb
  try simp only [World.size_alloc] at i14
  have S24 : Scene w w14 [(chD xs0, .slice A0 n0 c0), (chD xs1, .slice A1 n1 c1)] [⟨chD (joL xs0 xs1), .slice H nW cH, laH, lbH⟩, ⟨chD (mkC (joL xs0 xs1) 1 (joL xs0 xs1).length), .slice G nW cG, w4.heap.size + 1, w5.heap.size⟩, ⟨chD (mkC xs1 (kC xs0 1 xs0.length) xs1.length), .slice X1 n1 n1, w3.heap.size + 1, w4.heap.size⟩, ⟨chD (mkC xs0 1 xs0.length), .slice X0 n0 n0, wxW.heap.size, w3.heap.size⟩, ⟨chD (joL xs0 xs1), .slice W nW cW, laW, lbW⟩] [(gH, [.int .i64 (joC xs0 xs1), .slice H nW cH]), (w5.heap.size, [.int .i64 (joC xs0 xs1), .slice G nW cG]), (w4.heap.size, [.slice X1 n1 n1]), (w3.heap.size, [.slice X0 n0 n0]), (gW, [.int .i64 (joC xs0 xs1), .slice W nW cW]), (w.heap.size + 1, [.slice A1 n1 c1]), (w.heap.size, [.slice A0 n0 c0])] := Scene.below S23 hb
  clear hb hdx hdy
  clear x0_0 x0_1 z0 x1_0 x1_1 z1 x2_0 z2 x3_0 z3 x4_0 x4_1 z4 x5_0 z5 x6_0 z6
  have x0_0 : w14.cell? ⟨gH, 0, none⟩ = some (.int .i64 (joC xs0 xs1)) := S24.boxI 0 0 rfl rfl
  have x0_1 : w14.cell? ⟨gH, 1, none⟩ = some (.slice H nW cH) := S24.boxI 0 1 rfl rfl
  have z0 : gH < w14.heap.size := cell_lt x0_0
  have x1_0 : w14.cell? ⟨w5.heap.size, 0, none⟩ = some (.int .i64 (joC xs0 xs1)) := S24.boxI 1 0 rfl rfl
  have x1_1 : w14.cell? ⟨w5.heap.size, 1, none⟩ = some (.slice G nW cG) := S24.boxI 1 1 rfl rfl
  have z1 : w5.heap.size < w14.heap.size := cell_lt x1_0
  have x2_0 : w14.cell? ⟨w4.heap.size, 0, none⟩ = some (.slice X1 n1 n1) := S24.boxI 2 0 rfl rfl
  have z2 : w4.heap.size < w14.heap.size := cell_lt x2_0
  have x3_0 : w14.cell? ⟨w3.heap.size, 0, none⟩ = some (.slice X0 n0 n0) := S24.boxI 3 0 rfl rfl
  have z3 : w3.heap.size < w14.heap.size := cell_lt x3_0
  have x4_0 : w14.cell? ⟨gW, 0, none⟩ = some (.int .i64 (joC xs0 xs1)) := S24.boxI 4 0 rfl rfl
  have x4_1 : w14.cell? ⟨gW, 1, none⟩ = some (.slice W nW cW) := S24.boxI 4 1 rfl rfl
  have z4 : gW < w14.heap.size := cell_lt x4_0
  have x5_0 : w14.cell? ⟨w.heap.size + 1, 0, none⟩ = some (.slice A1 n1 c1) := S24.boxI 5 0 rfl rfl
  have z5 : w.heap.size + 1 < w14.heap.size := cell_lt x5_0
  have x6_0 : w14.cell? ⟨w.heap.size, 0, none⟩ = some (.slice A0 n0 c0) := S24.boxI 6 0 rfl rfl
  have z6 : w.heap.size < w14.heap.size := cell_lt x6_0
  go_wp2_with fail
  obtain ⟨bsh, hdh⟩ := (S24.ownI 1 rfl).hd
  refine (heldChainResult_any _ _ _ 1 _ (joL xs0 xs1) _ _ hdh (joL_small xs0 xs1) (by omega)).mono ?_
  rintro e w15 ⟨rfl, hb⟩
  have i15 := Below.size hb
  try simp only [World.size_alloc] at i15
  have S25 : Scene w w15 [(chD xs0, .slice A0 n0 c0), (chD xs1, .slice A1 n1 c1)] [⟨chD (joL xs0 xs1), .slice H nW cH, laH, lbH⟩, ⟨chD (mkC (joL xs0 xs1) 1 (joL xs0 xs1).length), .slice G nW cG, w4.heap.size + 1, w5.heap.size⟩, ⟨chD (mkC xs1 (kC xs0 1 xs0.length) xs1.length), .slice X1 n1 n1, w3.heap.size + 1, w4.heap.size⟩, ⟨chD (mkC xs0 1 xs0.length), .slice X0 n0 n0, wxW.heap.size, w3.heap.size⟩, ⟨chD (joL xs0 xs1), .slice W nW cW, laW, lbW⟩] [(gH, [.int .i64 (joC xs0 xs1), .slice H nW cH]), (w5.heap.size, [.int .i64 (joC xs0 xs1), .slice G nW cG]), (w4.heap.size, [.slice X1 n1 n1]), (w3.heap.size, [.slice X0 n0 n0]), (gW, [.int .i64 (joC xs0 xs1), .slice W nW cW]), (w.heap.size + 1, [.slice A1 n1 c1]), (w.heap.size, [.slice A0 n0 c0])] := Scene.below S24 hb
  clear hb hdh
  have HB := Lib.hid S25.bel
  clear S25
  clear x0_0 x0_1 z0 x1_0 x1_1 z1 x2_0 z2 x3_0 z3 x4_0 x4_1 z4 x5_0 z5 x6_0 z6
  go_wp2_with fail
  go_ret
  exact ⟨rfl, HB.out⟩

set_option maxRecDepth 100000 in
theorem lifted (os : Os) (started : os.Started) (H : Type) (enc : TypeId × Value → H) :
    ReturnsInHanded {} Try.checked os 4 .any (Rows.fnExactJoinChainsSpec.pre6 enc Try.prog Try.f4 Rows.fnExactJoinChainsRow.domain false) (Rows.fnExactJoinChainsSpec.post enc Try.prog Try.f4 false true false false) := by
  refine returnsInHanded_of_change (C := Try.checked) own started (by kernel_rfl) Try.func4
    (ChangeSpec.witness6 (enc := enc) (C := Try.checked) false ⟨#[], #[.agg #[.slice none 0 0], .agg #[.slice none 0 0]], []⟩ 8 (by kernel_rfl) (by kernel_rfl) (by kernel_rfl) (by kernel_rfl)) ?_
  intro W base args ds gs before hval0 hW hcnd _
  have hval : ∀ (j : Nat) t v, Try.f4.params[j]? = some t → args[j]? = some v → Value.okWide Try.prog W .any base t v := hval0
  have hW' := hW
  obtain ⟨p, q, hA0, hV0, rfl, hfz, hnd⟩ := hW
  have hA : DataW.TrodAll enc Try.prog W 0 (fun _ => true) true Try.f4.params.toList args.toList ds p := hA0
  have hV : DataW.TrodVars enc Try.prog W (fun _ => true) [] gs q := hV0
  rw [Try.params4] at hA hval
  obtain ⟨v0, vs0, d0, ds0, p0, q0, hargs, rfl, rfl, h0, r0⟩ := trodAll_cons hA
  obtain ⟨v1, vs1, d1, ds1, p1, q1, rfl, rfl, rfl, h1, r1⟩ := trodAll_cons r0
  obtain ⟨rfl, rfl, rfl⟩ := trodAll_nil r1
  obtain rfl : args = #[v0, v1] := by cases args; simp_all
  obtain ⟨rfl, rfl⟩ : gs = [] ∧ q = [] := by
    cases gs with
    | nil => exact ⟨rfl, hV⟩
    | cons g r => exact absurd hV (by intro h; cases h)
  have k0 := h0
  have lt0 : ∀ x ∈ p0, x.block < W.heap.size := by obtain ⟨m, hm⟩ := k0; exact DataW.trod_lt m _ _ _ hm
  obtain ⟨a0, n0, c0, xs0, bs0, rfl, hd0, u0⟩ := open_chain (hval 0 24 v0 rfl rfl) h0
  have k1 := h1
  have lt1 : ∀ x ∈ p1, x.block < W.heap.size := by obtain ⟨m, hm⟩ := k1; exact DataW.trod_lt m _ _ _ hm
  obtain ⟨a1, n1, c1, xs1, bs1, rfl, hd1, u1⟩ := open_chain (hval 1 24 v1 rfl rfl) h1
  clear hA0 hval0
  refine (walk a0 n0 c0 xs0 bs0 a1 n1 c1 xs1 bs1 W hd0 u0 hd1 u1).mono fun e W' ⟨he, bel⟩ => ?_
  subst he
  exact ⟨_, rfl, _, _, _, [], _, [], hW', trodAll_mk1 (shut_bool Try.underlying4 _), (trodAll_cons_mk (Below.trod laidOut (by kernel_rfl) (of_decide_eq_true (by kernel_rfl)) k0 bel lt0) (trodAll_cons_mk (Below.trod laidOut (by kernel_rfl) (of_decide_eq_true (by kernel_rfl)) k1 bel lt1) trodAll_mk0)), rfl, bel.frame _, fun h => by cases h⟩

theorem row_holds : Rows.FnExactJoinChainsSaid :=
  OpenClaim.holds_of_wide 4 Try.f4 rfl rfl rfl rfl rfl rfl rfl ⟨rfl, rfl, rfl, rfl, rfl⟩ rfl rfl rfl rfl rfl (by kernel_rfl) Try.func4 (by kernel_rfl)
    (of_decide_eq_true (by kernel_rfl)) (by unfold Func.isWrapper; rw [if_neg (of_decide_eq_false (by kernel_rfl))]; exact ⟨rfl, rfl⟩)
    (fun os started H enc _ => lifted os started H enc)

theorem proved : Rows.FnExactJoinChainsSaid := row_holds
#print axioms proved

end Go.Proofs.Ytdjifaaofefpoaa.lExactJoinChains
