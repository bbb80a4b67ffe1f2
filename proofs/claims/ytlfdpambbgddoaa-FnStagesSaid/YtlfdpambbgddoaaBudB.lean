/-
  BudgetOf, by the program (a complex number that a closure takes on) and by the reference model.
-/
import Derived.Test.YtlfdpambbgddoaaBudA
import Derived.Deep.RegionHeld3
import Derived.Laws.EntriesVeiled
namespace Go.Proofs.Ytlfdpambbgddoaa
open Go.RowKit Go.Maps
set_option linter.unusedVariables false
set_option linter.unusedSimpArgs false

theorem fl_is (w : World) : (Try.prog.underlying 164).isSome = true := by kernel_rfl
theorem run_f2i {z : Int} (h : 0 ≤ z ∧ z ≤ 100000000000) (W : World) : (convert 164 2 (.float .f64 (flI z))).run Try.prog W = .ok (.int .i64 z) W :=
  run_convert_float_int W _ _ _ _ _ _ (by kernel_rfl) Try.underlying2 (flI_to h)
theorem run_i2f {z : Int} (h : 0 ≤ z ∧ z ≤ 100000000000) (W : World) : (convert 2 164 (.int .i64 z)).run Try.prog W = .ok (.float .f64 (flI z)) W := by
  rw [← flI_of h]
  exact run_convert_int_float W _ _ _ _ _ (by kernel_rfl) (by kernel_rfl)
theorem flI_128 : flI 128 = 4638707616191610880 := by decide
theorem flI_1 : flI 1 = 4607182418800017408 := by decide
theorem flI_0 : flI 0 = 0 := by decide
theorem run_cadd {a b : Int} (ha : 0 ≤ a ∧ a ≤ 200000000) (hb : 0 ≤ b ∧ b ≤ 200000000) (W : World) :
    (binOp .add 162 (.complex .f64 (flI a) (flI b)) (.complex .f64 4638707616191610880 4607182418800017408)).run Try.prog W = .ok (.complex .f64 (flI (a + 128)) (flI (b + 1))) W := by
  refine run_complex_sum W .add (.inl rfl) _ _ _ _ _ _ _ _ ?_
  rw [← flI_128, ← flI_1]
  exact flI_add (by omega) (by omega) (by omega) (by omega)
set_option maxHeartbeats 400000 in
theorem roundUp_any (a b : Int) (w : World) (ha : 0 ≤ a ∧ a ≤ 1000000000000000) (hb : 0 < b ∧ b ≤ 1000000) : Calls Try.prog 50 #[.int .i64 a, .int .i64 b] w fun e w' => e = .returned (.int .i64 (upV a b)) ∧ w = w' := by
  have i1 : IntKind.i64.wrap (a + b) = a + b := IntWalk.i64_in _ (by omega)
  have i2 : IntKind.i64.wrap (a + b - 1) = a + b - 1 := IntWalk.i64_in _ (by omega)
  have hq : (a + b - 1).tdiv b = upV a b := by unfold upV; exact Int.tdiv_eq_ediv_of_nonneg (by omega)
  have hu : 0 ≤ upV a b ∧ upV a b ≤ a + b - 1 := by
    unfold upV
    exact ⟨Int.ediv_nonneg (by omega) (by omega), Int.ediv_le_self _ (by omega)⟩
  have i3 : IntKind.i64.wrap (upV a b) = upV a b := IntWalk.i64_in _ (by omega)
  have hb0 : ¬ b = 0 := by omega
  go_enter Try.func50, Try.ntmps50
  go_wp2_with fail
  go_ret
  exact ⟨rfl, rfl⟩
/-! ### the closures -/
set_option maxHeartbeats 1000000 in
theorem budgetStep1_any (g : Nat) (z N D x : Int) (w : World) (h : Bx w g [.int .i64 z, .int .i64 N, .int .i64 D]) (hx : 0 ≤ x ∧ x ≤ 8947840) (hN : 0 ≤ N ∧ N ≤ 1048560) (hD : 65535 ≤ D ∧ D ≤ 65536) (hND : N ≤ 16 * D) :
    Calls Try.prog 156 #[.float .f64 (flI x), .pointer (some ⟨g, 0, none⟩)] w fun e w' => e = .returned (.float .f64 (flI (upV (x * N) D))) ∧ w = w' := by
  have x1 := h.c 1 rfl
  have x2 := h.c 2 rfl
  have hl := h.lt
  have hm : 0 ≤ x * N ∧ x * N ≤ 10000000000000 := ⟨Int.mul_nonneg hx.1 hN.1, by
    have a1 := Int.mul_le_mul_of_nonneg_left hN.2 hx.1
    omega⟩
  have hu := upV_bd hx.1 hN.1 (by omega : 0 < D) hND
  have CR : Hid (∀ W, Calls Try.prog 50 #[.int .i64 (x * N), .int .i64 D] W fun e w' => e = .returned (.int .i64 (upV (x * N) D)) ∧ W = w') := fun W => roundUp_any _ _ W (by omega) (by omega)
  have i1 : IntKind.i64.wrap (x * N) = x * N := IntWalk.i64_in _ (by omega)
  obtain ⟨U, hU⟩ : ∃ U, U = upV (x * N) D := ⟨_, rfl⟩
  rw [← hU] at CR hu ⊢
  have f1 := fun W => run_f2i (z := x) (by omega) W
  have f2 := fun W => run_i2f (z := U) (by omega) W
  clear h hU
  go_enter Try.func156, Try.ntmps156
  go_wp2_with (go_at_call 50; refine (CR.out _).mono ?_; rintro e w' ⟨rfl, rfl⟩)
  go_ret
  exact ⟨rfl, rfl⟩
set_option maxRecDepth 100000 in
set_option maxHeartbeats 2000000 in
theorem budgetStep2_any (t g : Nat) (z N D x y : Int) (w : World) (ht : w.cell? ⟨t, 0, none⟩ = some (.func (.func 156) #[] #[.pointer (some ⟨g, 0, none⟩)])) (h : Bx w g [.int .i64 z, .int .i64 N, .int .i64 D]) (hx : 0 ≤ x ∧ x ≤ 8947840) (hy : 0 ≤ y ∧ y ≤ 8947840) (hN : 0 ≤ N ∧ N ≤ 1048560) (hD : 65535 ≤ D ∧ D ≤ 65536) (hND : N ≤ 16 * D) :
    Calls Try.prog 157 #[.complex .f64 (flI x) (flI y), .pointer (some ⟨t, 0, none⟩)] w fun e w' => e = .returned (.complex .f64 (flI (upV (x * N) D + 128)) (flI (upV (y * N) D + 1))) ∧ Below w.heap.size w w' := by
  have hux := upV_bd hx.1 hN.1 (by omega : 0 < D) hND
  have huy := upV_bd hy.1 hN.1 (by omega : 0 < D) hND
  have C1 : Hid (∀ W, Below w.heap.size w W → Calls Try.prog 156 #[.float .f64 (flI x), .pointer (some ⟨g, 0, none⟩)] W fun e w' => e = .returned (.float .f64 (flI (upV (x * N) D))) ∧ W = w') := fun W hW => budgetStep1_any g z N D x W (h.bel hW) hx hN hD hND
  have C2 : Hid (∀ W, Below w.heap.size w W → Calls Try.prog 156 #[.float .f64 (flI y), .pointer (some ⟨g, 0, none⟩)] W fun e w' => e = .returned (.float .f64 (flI (upV (y * N) D))) ∧ W = w') := fun W hW => budgetStep1_any g z N D y W (h.bel hW) hy hN hD hND
  obtain ⟨U, hU⟩ : ∃ U, U = upV (x * N) D := ⟨_, rfl⟩
  obtain ⟨V, hV⟩ : ∃ V, V = upV (y * N) D := ⟨_, rfl⟩
  rw [← hU] at C1 hux ⊢
  rw [← hV] at C2 huy ⊢
  have f3 := fun W => run_cadd (a := U) (b := V) (by omega) (by omega) W
  have hl := cell_lt ht
  obtain ⟨fx, hfx⟩ : ∃ f, f = flI x := ⟨_, rfl⟩
  obtain ⟨fy, hfy⟩ : ∃ f, f = flI y := ⟨_, rfl⟩
  obtain ⟨fu, hfu⟩ : ∃ f, f = flI U := ⟨_, rfl⟩
  obtain ⟨fv, hfv⟩ : ∃ f, f = flI V := ⟨_, rfl⟩
  obtain ⟨gu, hgu⟩ : ∃ f, f = flI (U + 128) := ⟨_, rfl⟩
  obtain ⟨gv, hgv⟩ : ∃ f, f = flI (V + 1) := ⟨_, rfl⟩
  rw [← hfx, ← hfu] at C1
  rw [← hfy, ← hfv] at C2
  rw [← hfu, ← hfv, ← hgu, ← hgv] at f3
  rw [← hfx, ← hfy, ← hgu, ← hgv]
  clear hU hV h hfx hfy hfu hfv hgu hgv hux huy
  go_enter Try.func157, Try.ntmps157
  go_wp2_with fail
  go_region_held3 (fun w' => w'.cell? ⟨t, 0, none⟩ = some (.func (.func 156) #[] #[.pointer (some ⟨g, 0, none⟩)])) (first | assumption | exact ht) (first | (go_at_call 156; (with_reducible refine (C1.out _ (by first | exact Below.refl _ _ | exact (Below.refl _ _).drew | exact below_drewN _ _ _)).mono ?_); rintro e w' ⟨rfl, rfl⟩) | (go_at_call 156; (with_reducible refine (C2.out _ (by first | exact Below.refl _ _ | exact (Below.refl _ _).drew | exact below_drewN _ _ _)).mono ?_); rintro e w' ⟨rfl, rfl⟩))
  all_goals (try go_wp2_with fail)
  all_goals go_ret
  all_goals exact ⟨rfl, (Below.refl _ _).drew⟩
set_option maxRecDepth 100000 in
set_option maxHeartbeats 1000000 in
theorem budgetStep_any (z N D : Int) (w : World) : Calls Try.prog 134 #[.agg #[.int .i64 z, .int .i64 N, .int .i64 D]] w fun e w' =>
    ∃ g t, e = .returned (.func (.func 157) #[] #[.pointer (some ⟨t, 0, none⟩)]) ∧ w'.cell? ⟨t, 0, none⟩ = some (.func (.func 156) #[] #[.pointer (some ⟨g, 0, none⟩)]) ∧ Bx w' g [.int .i64 z, .int .i64 N, .int .i64 D] ∧ Below w.heap.size w w' := by
  go_enter Try.func134, Try.ntmps134
  go_wp2_with fail
  go_ret
  exact ⟨w.heap.size, w.heap.size + 1, rfl, by simp, (Bx.new _ _ _ rfl).alloc _, blThenAlloc (blAlloc _ _) _⟩
def BgAns (w : World) (x y : Int) (e : Ending) (w' : World) : Prop := e = .returned (.complex .f64 (flI x) (flI y)) ∧ Below w.heap.size w w'
set_option maxRecDepth 100000 in
set_option maxHeartbeats 4000000 in
theorem budgetOf_any (A : Option Addr) (n c : Nat) (ts : List Stg) (vs : List Value) (w : World) (h : Sts w ts A n vs) (hn : n ≤ 5) :
    Calls Try.prog 94 #[.slice A n c] w (BgAns w (budV 128 ts n) (budV 1 ts n)) := by
  have H := Lib.hid h
  have HN : Hid (ts.length = n) := h.len
  have HBD : Hid (∀ q : Int, 0 ≤ q ∧ q ≤ 128 → ∀ k, k ≤ n → 0 ≤ budV q ts k ∧ budV q ts k ≤ 8947840) := fun q hq k hk => budV_bd hq (fun i hi => h.fine i (by have := h.len; omega)) (by have := h.len; omega) k (by have := h.len; omega)
  have hz := flI_0
  clear h
  go_enter Try.func94, Try.ntmps94
  go_wp2_with fail
  go_loopw [3, 8] (fun q i wr => ∃ k : Nat, k ≤ n ∧ i = .int .i64 k ∧ q = .complex .f64 (flI (budV 128 ts k)) (flI (budV 1 ts k)) ∧ Below w.heap.size w wr) (fun _ i _ => n - (intOf i).toNat)
  case atStart => exact ⟨0, by omega, rfl, by simp only [budV, hz], Below.refl _ _⟩
  case round =>
    obtain ⟨k, hk, rfl, rfl, hb⟩ := hrel
    have HB := Lib.hid hb
    clear hb
    by_cases hlt : k < n
    · obtain ⟨b, rfl, vc⟩ := H.out.at_ k hlt
      have hfi := H.out.fine k hlt
      have CS := Lib.hid (slopeOf_any (st_ ts k) (vs.getD k undef) wr ((H.out.st k hlt).bel HB.out) hfi)
      have hsl := sl_bd hfi
      have bx := HBD.out 128 (by omega) k hk
      have by_ := HBD.out 1 (by omega) k hk
      have HX : Hid (budV 128 ts (k + 1) = upV (budV 128 ts k * slN (st_ ts k)) (slD (st_ ts k)) + 128) := rfl
      have HY : Hid (budV 1 ts (k + 1) = upV (budV 1 ts k * slN (st_ ts k)) (slD (st_ ts k)) + 1) := rfl
      obtain ⟨x, hx⟩ : ∃ x, x = budV 128 ts k := ⟨_, rfl⟩
      obtain ⟨y, hy⟩ : ∃ y, y = budV 1 ts k := ⟨_, rfl⟩
      obtain ⟨N, hN⟩ : ∃ N, N = slN (st_ ts k) := ⟨_, rfl⟩
      obtain ⟨D, hD⟩ : ∃ D, D = slD (st_ ts k) := ⟨_, rfl⟩
      rw [← hx, ← hN, ← hD] at HX
      rw [← hy, ← hN, ← hD] at HY
      rw [← hN, ← hD] at CS hsl
      rw [← hx] at bx ⊢
      rw [← hy] at by_ ⊢
      replace vc := cell_later HB.out vc
      have HSL := Lib.hid hsl
      have HBX := Lib.hid bx
      have HBY := Lib.hid by_
      generalize vs.getD k undef = sv at *
      obtain ⟨fx, hfx⟩ : ∃ f, f = flI x := ⟨_, rfl⟩
      obtain ⟨fy, hfy⟩ : ∃ f, f = flI y := ⟨_, rfl⟩
      rw [← hfx, ← hfy]
      have HFX := Lib.hid hfx
      have HFY := Lib.hid hfy
      clear hx hy hN hD hfi bx by_ hsl hfx hfy
      go_wp2_with fail
      refine CS.out.mono ?_
      rintro e w2 ⟨rfl, hb⟩
      have HB2 := Lib.hid (blThen HB.out hb)
      clear hb CS vc
      go_wp2_with fail
      refine (budgetStep_any 0 N D _).mono ?_
      rintro e w3 ⟨g, t, rfl, ht, hg, hb⟩
      have HB3 := Lib.hid (blThen HB2.out hb)
      have CC := Lib.hid (budgetStep2_any t g 0 N D x y w3 ht hg HBX.out HBY.out (by have := HSL.out; omega) (by have := HSL.out; omega) (by have := HSL.out; omega))
      rw [← HFX.out, ← HFY.out] at CC
      clear hb ht hg HB2
      go_wp2_with fail
      refine CC.out.mono ?_
      rintro e w4 ⟨rfl, hb⟩
      have HB4 := Lib.hid (blThen HB3.out hb)
      rw [← HX.out, ← HY.out]
      clear hb HB3 CC
      go_wp2_with fail
      go_roundw
      case rel => exact ⟨k + 1, by omega, by go_num, rfl, HB4.out⟩
      case measure => simp [intOf]; omega
    · obtain rfl : k = n := by omega
      go_wp2_with fail
      go_ret
      exact ⟨rfl, HB.out⟩
def BuAns (w : World) (ts : List Stg) (e : Ending) (w' : World) : Prop := e = .returned (.agg #[.int .i64 (chf ts), .int .i64 (bgV 128 ts), .int .i64 (bgV 1 ts)]) ∧ Below w.heap.size w w'
set_option maxRecDepth 100000 in
set_option maxHeartbeats 4000000 in
theorem BudgetOf_any (A : Option Addr) (n c : Nat) (ts : List Stg) (bs : List Nat) (w : World) (h : Hd w (chD ts) (.slice A n c) bs) :
    Calls Try.prog 52 #[.agg #[.slice A n c]] w (BuAns w ts) := by
  have H := Lib.hid h
  clear h
  go_enter Try.func52, Try.ntmps52
  go_wp2_with fail
  refine (chainStages_any A n c ts bs _ ((H.out.alloc _).alloc _)).mono ?_
  rintro e w1 ⟨v, rfl, hok, hb⟩
  have R1 := Lib.hid ((Bx.new (w.alloc (.cells #[.slice A n c] 34)) #[.int .i64 0, .int .i64 0, .int .i64 0] 93 (b := w.heap.size + 1) (by simp)).bel hb)
  have T1 := Lib.hid (blThen (blThenAlloc (blAlloc w _) _) hb)
  have r0 := R1.out.c 0 rfl
  have r1 := R1.out.c 1 rfl
  have r2 := R1.out.c 2 rfl
  have z0 := R1.out.f 0
  have z1 := R1.out.f 1
  have z2 := R1.out.f 2
  have l1 := R1.out.lt
  clear hb H
  by_cases h0 : chf ts = 0
  · obtain ⟨vs, hov, hst⟩ := hok h0
    have H5 := Lib.hid (chf_zr h0)
    obtain ⟨A', c', rfl, hc1, hc2, hsts⟩ := Sts.of hov hst (sgL_all _ H5.out.2)
    have HX := Lib.hid (bgV_y (q := 128) h0)
    have HY := Lib.hid (bgV_y (q := 1) h0)
    have H0 := Lib.hid h0
    have CB := Lib.hid (budgetOf_any A' ts.length c' ts vs w1 hsts H5.out.1)
    have bx := budV_bd (q := 128) (by omega) (sgL_all _ H5.out.2) H5.out.1 ts.length (Nat.le_refl _)
    have by_ := budV_bd (q := 1) (by omega) (sgL_all _ H5.out.2) H5.out.1 ts.length (Nat.le_refl _)
    obtain ⟨x, hx⟩ : ∃ x, x = budV 128 ts ts.length := ⟨_, rfl⟩
    obtain ⟨y, hy⟩ : ∃ y, y = budV 1 ts ts.length := ⟨_, rfl⟩
    rw [← hx] at HX CB bx
    rw [← hy] at HY CB by_
    have f1 := fun W => run_f2i (z := x) (by omega) W
    have f2 := fun W => run_f2i (z := y) (by omega) W
    unfold BgAns at CB
    obtain ⟨fx, hfx⟩ : ∃ f, f = flI x := ⟨_, rfl⟩
    obtain ⟨fy, hfy⟩ : ∃ f, f = flI y := ⟨_, rfl⟩
    rw [← hfx, ← hfy] at CB
    rw [← hfx] at f1
    rw [← hfy] at f2
    rw [h0]
    clear hok hov hst h0 hsts hc1 hc2 hx hy hfx hfy bx by_
    go_wp2_with fail
    refine CB.out.mono ?_
    rintro e w2 ⟨rfl, hb⟩
    have R2 := Lib.hid (R1.out.bel hb)
    have T2 := Lib.hid (blThen T1.out hb)
    clear hb R1 T1 r0 r1 r2 z0 z1 z2 l1 CB
    have r0 := R2.out.c 0 rfl
    have r1 := R2.out.c 1 rfl
    have r2 := R2.out.c 2 rfl
    have z0 := R2.out.f 0
    have z1 := R2.out.f 1
    have z2 := R2.out.f 2
    have l1 := R2.out.lt
    go_wp2_with fail
    have KK := ((R2.out.set 0 (.int .i64 0)).set 1 (.int .i64 x)).set 2 (.int .i64 y)
    have k0 := KK.c 0 rfl
    have k1 := KK.c 1 rfl
    have k2 := KK.c 2 rfl
    clear KK
    refine bodyPost_ret (v := .agg #[.int .i64 0, .int .i64 x, .int .i64 y]) (by simp [results, Try.results52, go_sem, k0, k1, k2]) rfl ⟨by rw [H0.out, HX.out, HY.out], ?_⟩
    exact bel_set3 T2.out (by omega) _ _ _
  · have HX := Lib.hid (bgV_n (q := 128) h0)
    have HY := Lib.hid (bgV_n (q := 1) h0)
    obtain ⟨f, hf⟩ : ∃ f, chf ts = f := ⟨_, rfl⟩
    have HFF := Lib.hid hf
    rw [hf] at h0 ⊢
    have hqn : (f == 0) = false := by simpa using h0
    clear hok hf
    go_wp2_with fail
    have KK := ((R1.out.set 0 (.int .i64 f)).set 1 (.int .i64 0)).set 2 (.int .i64 0)
    have k0 := KK.c 0 rfl
    have k1 := KK.c 1 rfl
    have k2 := KK.c 2 rfl
    clear KK
    refine bodyPost_ret (v := .agg #[.int .i64 f, .int .i64 0, .int .i64 0]) (by simp [results, Try.results52, go_sem, k0, k1, k2]) rfl ⟨by rw [HFF.out, HX.out, HY.out], ?_⟩
    exact bel_set3 T1.out (by omega) _ _ _
/-! ### the model's -/
set_option maxHeartbeats 400000 in
theorem sUp7_any (a b : Int) (w : World) (ha : 0 ≤ a ∧ a ≤ 1000000000000000) (hb : 0 < b ∧ b ≤ 1000000) : Calls Try.prog 87 #[.int .i64 a, .int .i64 b] w fun e w' => e = .returned (.int .i64 (upV a b)) ∧ w = w' := by
  have i1 : IntKind.i64.wrap (a + b) = a + b := IntWalk.i64_in _ (by omega)
  have i2 : IntKind.i64.wrap (a + b - 1) = a + b - 1 := IntWalk.i64_in _ (by omega)
  have hq : (a + b - 1).tdiv b = upV a b := by unfold upV; exact Int.tdiv_eq_ediv_of_nonneg (by omega)
  have hu : 0 ≤ upV a b ∧ upV a b ≤ a + b - 1 := by
    unfold upV
    exact ⟨Int.ediv_nonneg (by omega) (by omega), Int.ediv_le_self _ (by omega)⟩
  have i3 : IntKind.i64.wrap (upV a b) = upV a b := IntWalk.i64_in _ (by omega)
  have hb0 : ¬ b = 0 := by omega
  go_enter Try.func87, Try.ntmps87
  go_wp2_with fail
  go_ret
  exact ⟨rfl, rfl⟩
def TwAns (w : World) (x y : Int) (e : Ending) (w' : World) : Prop := e = .returned (.tuple #[.int .i64 x, .int .i64 y]) ∧ Below w.heap.size w w'
set_option maxRecDepth 100000 in
set_option maxHeartbeats 4000000 in
theorem sBudget7_any (g o : Nat) (A : Option Addr) (n c : Nat) (ts : List Stg) (bs : List Nat) (w : World) (h : Hd w (chD ts) (.slice A n c) bs) (hg : w.cell? ⟨g, o, none⟩ = some (.slice A n c)) (h0 : chf ts = 0) :
    Calls Try.prog 89 #[.pointer (some ⟨g, o, none⟩)] w (TwAns w (budV 128 ts ts.length) (budV 1 ts ts.length)) := by
  have hl := h.stgs.1
  have h5 := (chf_zr h0).1
  have H := Lib.hid h
  have HG := Lib.hid hg
  have HL := Lib.hid hl
  have HFN := Lib.hid (sgL_all _ (chf_zr h0).2)
  have HBD : Hid (∀ q : Int, 0 ≤ q ∧ q ≤ 128 → ∀ k, k ≤ n → 0 ≤ budV q ts k ∧ budV q ts k ≤ 8947840) := fun q hq k hk => budV_bd hq HFN.out h5 k (by omega)
  have hn : n ≤ 5 := by omega
  rw [hl]
  clear h hg h0 hl h5
  go_enter Try.func89, Try.ntmps89
  go_wp2_with fail
  go_loopw [4, 5, 6] (fun p q i wr => ∃ k : Nat, k ≤ n ∧ i = .int .i64 k ∧ p = .int .i64 (budV 128 ts k) ∧ q = .int .i64 (budV 1 ts k) ∧ Below w.heap.size w wr) (fun _ _ i _ => n - (intOf i).toNat)
  case atStart => exact ⟨0, by omega, rfl, rfl, rfl, Below.refl _ _⟩
  case round =>
    obtain ⟨k, hk, rfl, rfl, rfl, hb⟩ := hrel
    have hgr := cell_later hb HG.out
    have HB := Lib.hid hb
    clear hb
    by_cases hlt : k < n
    · obtain ⟨b, o', A1, n1, c1, A2, n2, c2, A3, n3, c3, rfl, x0, x1, x2, x3, x4, xst⟩ := (H.out.bel HB.out).stg hlt
      have hfi := HFN.out k (by have := HL.out; omega)
      have CE := Lib.hid (sSlope7_any b (o' + k * 5) (st_ ts k) A1 n1 c1 A2 n2 c2 A3 n3 c3 wr ⟨x0, x1, x2, x3, x4⟩ xst hfi)
      have hsl := sl_bd hfi
      have bx := HBD.out 128 (by omega) k hk
      have by_ := HBD.out 1 (by omega) k hk
      have HX : Hid (budV 128 ts (k + 1) = upV (budV 128 ts k * slN (st_ ts k)) (slD (st_ ts k)) + 128) := rfl
      have HY : Hid (budV 1 ts (k + 1) = upV (budV 1 ts k * slN (st_ ts k)) (slD (st_ ts k)) + 1) := rfl
      obtain ⟨x, hx⟩ : ∃ x, x = budV 128 ts k := ⟨_, rfl⟩
      obtain ⟨y, hy⟩ : ∃ y, y = budV 1 ts k := ⟨_, rfl⟩
      obtain ⟨N, hN⟩ : ∃ N, N = slN (st_ ts k) := ⟨_, rfl⟩
      obtain ⟨D, hD⟩ : ∃ D, D = slD (st_ ts k) := ⟨_, rfl⟩
      unfold S7Ans at CE
      rw [← hx, ← hN, ← hD] at HX
      rw [← hy, ← hN, ← hD] at HY
      rw [← hN, ← hD] at CE hsl
      rw [← hx] at bx ⊢
      rw [← hy] at by_ ⊢
      have ux := upV_bd bx.1 hsl.1 (by omega : 0 < D) hsl.2.2.2.2
      have uy := upV_bd by_.1 hsl.1 (by omega : 0 < D) hsl.2.2.2.2
      have mx : 0 ≤ x * N ∧ x * N ≤ 10000000000000 := ⟨Int.mul_nonneg bx.1 hsl.1, by have a1 := Int.mul_le_mul_of_nonneg_left hsl.2.1 bx.1; omega⟩
      have my : 0 ≤ y * N ∧ y * N ≤ 10000000000000 := ⟨Int.mul_nonneg by_.1 hsl.1, by have a1 := Int.mul_le_mul_of_nonneg_left hsl.2.1 by_.1; omega⟩
      have CX : Hid (∀ W, Calls Try.prog 87 #[.int .i64 (x * N), .int .i64 D] W fun e w' => e = .returned (.int .i64 (upV (x * N) D)) ∧ W = w') := fun W => sUp7_any _ _ W (by omega) (by omega)
      have CY : Hid (∀ W, Calls Try.prog 87 #[.int .i64 (y * N), .int .i64 D] W fun e w' => e = .returned (.int .i64 (upV (y * N) D)) ∧ W = w') := fun W => sUp7_any _ _ W (by omega) (by omega)
      have i1 : IntKind.i64.wrap (x * N) = x * N := IntWalk.i64_in _ (by omega)
      have i2 : IntKind.i64.wrap (y * N) = y * N := IntWalk.i64_in _ (by omega)
      have i3 : IntKind.i64.wrap (upV (x * N) D + 128) = upV (x * N) D + 128 := IntWalk.i64_in _ (by omega)
      have i4 : IntKind.i64.wrap (upV (y * N) D + 1) = upV (y * N) D + 1 := IntWalk.i64_in _ (by omega)
      clear hx hy hN hD hfi hsl bx by_ x0 x1 x2 x3 x4 xst ux uy mx my
      go_wp2_with fail
      refine CE.out.mono ?_
      rintro e w2 ⟨rfl, hb⟩
      have HB2 := Lib.hid (blThen HB.out hb)
      clear hb CE
      go_wp2_with fail
      refine (CX.out _).mono ?_
      rintro e w3 ⟨rfl, rfl⟩
      go_wp2_with fail
      refine (CY.out _).mono ?_
      rintro e w3 ⟨rfl, rfl⟩
      go_wp2_with fail
      go_roundw
      case rel => exact ⟨k + 1, by omega, by go_num, by rw [HX.out], by rw [HY.out], HB2.out⟩
      case measure => simp [intOf]; omega
    · obtain rfl : k = n := by omega
      go_wp2_with fail
      go_ret2
      exact ⟨rfl, HB.out⟩
end Go.Proofs.Ytlfdpambbgddoaa
