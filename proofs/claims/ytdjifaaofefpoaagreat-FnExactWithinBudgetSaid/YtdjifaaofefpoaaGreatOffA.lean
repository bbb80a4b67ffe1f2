/-
  How far levels and fine numbers part on the way through a chain: the program's farthest on fine numbers, the model's l7Off, OffBy.
-/
import Derived.Test.YtdjifaaofefpoaaGreatChwA
import Derived.Test.YtdjifaaofefpoaaGreatSpnA
namespace Go.Proofs.YtdjifaaofefpoaaGreat
open Go.RowKit Go.Maps
set_option linter.unusedVariables false
set_option linter.unusedSimpArgs false

theorem far3_bdT {T : Int} {f g : Nat → Int} (hf : LvT T f) (hg : LvT T g) (hT : 0 ≤ T) : ∀ k, k ≤ 3 → 0 ≤ far3 f g k ∧ far3 f g k ≤ T := by
  intro k
  induction k with
  | zero => intro _; exact ⟨Int.le_refl _, hT⟩
  | succ k ih =>
    intro hk
    have h1 := ih (by omega)
    have h2 := hf k (by omega)
    have h3 := hg k (by omega)
    show 0 ≤ max (far3 f g k) (max (f k - g k) (g k - f k)) ∧ max (far3 f g k) (max (f k - g k) (g k - f k)) ≤ T
    omega
def offV (ts : List Stg) (xs : List Int) : Int := if chC ts xs = 0 then far3 (fun j => evW 1 ts (chX 1 xs) ts.length j * 256) (evW 256 ts (chX 256 xs) ts.length) 3 else 0
theorem offV_n {ts : List Stg} {xs : List Int} (h : chC ts xs ≠ 0) : offV ts xs = 0 := by unfold offV; rw [if_neg h]
theorem offV_y {ts : List Stg} {xs : List Int} (h : chC ts xs = 0) : offV ts xs = far3 (fun j => evW 1 ts (chX 1 xs) ts.length j * 256) (evW 256 ts (chX 256 xs) ts.length) 3 := by unfold offV; rw [if_pos h]
theorem off_bd {ts : List Stg} {xs : List Int} (h : chC ts xs = 0) : LvT 65535 (evW 1 ts (chX 1 xs) ts.length) ∧ LvT 16776960 (fun j => evW 1 ts (chX 1 xs) ts.length j * 256) ∧ LvT 16776960 (evW 256 ts (chX 256 xs) ts.length) := by
  obtain ⟨h0, h1⟩ := chC_zero h
  have hf := sgL_all _ (chf_zero h0).2
  have b1 := evW_bd (.inl rfl) (chX_bd (.inl rfl) h1) ts.length (fun i hi => hf i hi)
  have b2 := evW_bd (.inr rfl) (chX_bd (.inr rfl) h1) ts.length (fun i hi => hf i hi)
  refine ⟨b1, fun j hj => ?_, b2⟩
  have := b1 j hj
  show 0 ≤ evW 1 ts (chX 1 xs) ts.length j * 256 ∧ evW 1 ts (chX 1 xs) ts.length j * 256 ≤ 16776960
  omega
set_option maxRecDepth 100000 in
set_option maxHeartbeats 4000000 in
theorem sOff7_any (g o : Nat) (A : Option Addr) (n c : Nat) (ts : List Stg) (bs : List Nat) (P : Option Addr) (d : Nat) (xs : List Int) (w : World) (h : Hd w (chD ts) (.slice A n c) bs) (hg : w.cell? ⟨g, o, none⟩ = some (.slice A n c)) (hp : Rd .i64 w P 3 xs) (h0 : chC ts xs = 0) :
    Calls Tryz.prog 27 #[.pointer (some ⟨g, o, none⟩), .slice P 3 d] w fun e w' => e = .returned (.int .i64 (offV ts xs)) ∧ Below w.heap.size w w' := by
  have hl := h.stgs.1
  have H := Lib.hid h
  have HG := Lib.hid hg
  have HP := Lib.hid hp
  have H0 := Lib.hid h0
  have HL := Lib.hid hl
  have HO := Lib.hid (offV_y h0)
  have HBD := Lib.hid (off_bd h0)
  clear h hg hp h0 hl
  go_enter Tryz.func27, Tryz.ntmps27
  go_wp2_with fail
  refine (sChain6_any g o A n c ts bs P d xs w H.out HG.out HP.out H0.out).mono ?_
  rintro e w1 ⟨B1, c1, rfl, how, hb⟩
  have O1 := Lib.hid how
  have T1 := Lib.hid hb
  clear how hb
  go_wp2_with fail
  refine (sFineChain_any0 g o A n c ts bs P d xs w1 (H.out.bel T1.out) (cell_later T1.out HG.out) (HP.out.below T1.out) H0.out).mono ?_
  rintro e w2 ⟨B2, c2, rfl, how, hb⟩
  obtain ⟨b1, o1, rfl, q1⟩ := (O1.out.below hb).hd.choose_spec.rd.2 (by omega)
  obtain ⟨b2, o2, rfl, q2⟩ := how.hd.choose_spec.rd.2 (by omega)
  have HX : Hid (∀ k, k < 3 → w2.cell? ⟨b1, o1 + k, none⟩ = some (.int .i64 (evW 1 ts (chX 1 xs) ts.length k))) := fun k hk => by
    have := q1 k hk
    rw [ev3_at 1 ts xs n k hk, ← HL.out] at this
    exact this
  have HY : Hid (∀ k, k < 3 → w2.cell? ⟨b2, o2 + k, none⟩ = some (.int .i64 (evW 256 ts (chX 256 xs) ts.length k))) := fun k hk => by
    have := q2 k hk
    rw [ev3_at 256 ts xs n k hk, ← HL.out] at this
    exact this
  have T2 := Lib.hid (blThen T1.out hb)
  obtain ⟨f, hf⟩ : ∃ f, f = evW 1 ts (chX 1 xs) ts.length := ⟨_, rfl⟩
  obtain ⟨y, hy⟩ : ∃ y, y = evW 256 ts (chX 256 xs) ts.length := ⟨_, rfl⟩
  rw [← hf] at HX HBD HO
  rw [← hy] at HY HBD HO
  have HF3 := Lib.hid (far3_bdT HBD.out.2.1 HBD.out.2.2 (by omega))
  clear how hb q1 q2 O1 T1 hf hy
  go_wp2_with fail
  go_loopw [7, 8] (fun q i wr => ∃ k m : Nat, k ≤ 3 ∧ i = .int .i64 k ∧ q = .int .i64 (far3 (fun j => f j * 256) y k) ∧ wr = w2.drewN m) (fun _ i _ => 3 - (intOf i).toNat)
  case atStart => exact ⟨0, 0, by omega, rfl, rfl, rfl⟩
  case round =>
    obtain ⟨k, m, hk, rfl, rfl, rfl⟩ := hrel
    by_cases hlt : k < 3
    · have y1 := HX.out k hlt
      have y2 := HY.out k hlt
      have e1 := HBD.out.1 k hlt
      have e2 := HBD.out.2.2 k hlt
      have e3 := HF3.out k hk
      have HS : Hid (far3 (fun j => f j * 256) y (k + 1) = max (far3 (fun j => f j * 256) y k) (max (f k * 256 - y k) (y k - f k * 256))) := rfl
      obtain ⟨z, hz⟩ : ∃ z, z = far3 (fun j => f j * 256) y k := ⟨_, rfl⟩
      obtain ⟨u, hu⟩ : ∃ u, u = f k := ⟨_, rfl⟩
      obtain ⟨v, hv⟩ : ∃ v, v = y k := ⟨_, rfl⟩
      rw [← hz, ← hu, ← hv] at HS
      rw [← hu] at y1 e1
      rw [← hv] at y2 e2
      rw [← hz] at e3 ⊢
      clear hz hu hv
      have i1 : IntKind.i64.wrap (u * 256) = u * 256 := IntWalk.i64_in _ (by omega)
      have i2 : IntKind.i64.wrap (u * 256 - v) = u * 256 - v := IntWalk.i64_in _ (by omega)
      have i3 : IntKind.i64.wrap (-(u * 256 - v)) = -(u * 256 - v) := IntWalk.i64_in _ (by omega)
      go_wp2_with fail
      go_quiet (fail)
      go_wp2_with (go_at_call 50; refine (sMax_any _ _ _).mono ?_; rintro e w' ⟨rfl, rfl⟩)
      go_roundw
      case rel => exact ⟨k + 1, _, by omega, by go_num, by rw [HS.out]; congr 1; omega, rfl⟩
      case measure => simp [intOf]; omega
    · obtain rfl : k = 3 := by omega
      go_wp2_with fail
      go_ret
      exact ⟨by rw [HO.out]; rfl, T2.out.trans (below_drewN _ _ _)⟩
set_option maxRecDepth 100000 in
set_option maxHeartbeats 2000000 in
theorem sOffBy_any (A : Option Addr) (n c : Nat) (ts : List Stg) (bs : List Nat) (P : Option Addr) (m d : Nat) (xs : List Int) (gs : List Nat) (w : World) (h : Hd w (chD ts) (.slice A n c) bs) (hp : Hd w (.ints .i64 xs) (.slice P m d) gs) :
    Calls Tryz.prog 8 #[.agg #[.slice A n c], .slice P m d] w fun e w' => e = .returned (.agg #[.int .i64 (chC ts xs), .int .i64 (offV ts xs)]) ∧ Below w.heap.size w w' := by
  have B := Lib.hid ((Bx.new w #[.slice A n c] 32 rfl).alloc (.cells #[.int .i64 0, .int .i64 0] 28))
  have R := Lib.hid (Bx.new (w.alloc (.cells #[.slice A n c] 32)) #[.int .i64 0, .int .i64 0] 28 (b := w.heap.size + 1) (by simp))
  have H := Lib.hid ((h.alloc (.cells #[.slice A n c] 32)).alloc (.cells #[.int .i64 0, .int .i64 0] 28))
  have HP := Lib.hid ((hp.alloc (.cells #[.slice A n c] 32)).alloc (.cells #[.int .i64 0, .int .i64 0] 28))
  clear h hp
  go_enter Tryz.func8, Tryz.ntmps8
  go_wp2_with fail
  refine (sAsked_any w.heap.size 0 A n c ts bs P m d xs gs _ H.out (B.out.c 0 rfl) HP.out).mono ?_
  rintro e w1 ⟨rfl, mm, rfl⟩
  have B1 := Lib.hid (B.out.drewN mm)
  have R1 := Lib.hid (R.out.drewN mm)
  have H1 := Lib.hid (H.out.bel (below_drewN _ mm _))
  have P1 := Lib.hid (HP.out.bel (below_drewN _ mm _))
  have T1 := Lib.hid (blThenDrew (blThenAlloc (blAlloc w (.cells #[.slice A n c] 32)) (.cells #[.int .i64 0, .int .i64 0] 28)) mm)
  obtain ⟨W1, hW1⟩ : ∃ W, W = ((w.alloc (.cells #[.slice A n c] 32)).alloc (.cells #[.int .i64 0, .int .i64 0] 28)).drewN mm := ⟨_, rfl⟩
  rw [← hW1] at B1 R1 H1 T1 P1 ⊢
  clear hW1 B R H HP
  have r0 := R1.out.c 0 rfl
  have r1 := R1.out.c 1 rfl
  have z0 := R1.out.f 0
  have z1 := R1.out.f 1
  by_cases h0 : chC ts xs = 0
  · obtain rfl : 3 = m := by rw [← (lfo_zero (chC_zero h0).2).1]; exact P1.out.rd.1
    have CE := Lib.hid (sOff7_any w.heap.size 0 A n c ts bs P d xs W1 H1.out (B1.out.c 0 rfl) P1.out.rd h0)
    obtain ⟨V, hV⟩ : ∃ V, V = offV ts xs := ⟨_, rfl⟩
    rw [← hV] at CE
    have HVV := Lib.hid hV
    have H0 := Lib.hid h0
    rw [h0]
    clear h0 hV
    go_wp2_with fail
    refine CE.out.mono ?_
    rintro e w3 ⟨rfl, hb⟩
    have R3 := Lib.hid (R1.out.bel hb)
    have T3 := Lib.hid (blThen T1.out hb)
    clear hb r0 r1 z0 z1 R1 CE
    have r0 := R3.out.c 0 rfl
    have r1 := R3.out.c 1 rfl
    have z0 := R3.out.f 0
    have z1 := R3.out.f 1
    go_wp2_with fail
    have KK := (R3.out.set 0 (.int .i64 0)).set 1 (.int .i64 V)
    have k0 := KK.c 0 rfl
    have k1 := KK.c 1 rfl
    clear KK
    refine bodyPost_ret (v := .agg #[.int .i64 0, .int .i64 V]) (by simp [results, Tryz.results8, go_sem, k0, k1]) rfl ⟨by rw [H0.out, ← HVV.out], ?_⟩
    exact bel1 (bel1 T3.out (c := w.heap.size + 1) (by omega) 0 _) (c := w.heap.size + 1) (by omega) 1 _
  · have HA := Lib.hid (offV_n h0)
    obtain ⟨f, hf⟩ : ∃ f, chC ts xs = f := ⟨_, rfl⟩
    have HFF := Lib.hid hf
    rw [hf] at h0 ⊢
    have hqn : (f == 0) = false := by simpa using h0
    clear hf
    go_wp2_with fail
    have KK := (R1.out.set 0 (.int .i64 f)).set 1 (.int .i64 0)
    have k0 := KK.c 0 rfl
    have k1 := KK.c 1 rfl
    clear KK
    refine bodyPost_ret (v := .agg #[.int .i64 f, .int .i64 0]) (by simp [results, Tryz.results8, go_sem, k0, k1]) rfl ⟨by rw [HFF.out, HA.out], ?_⟩
    exact bel1 (bel1 T1.out (c := w.heap.size + 1) (by omega) 0 _) (c := w.heap.size + 1) (by omega) 1 _
end Go.Proofs.YtdjifaaofefpoaaGreat
