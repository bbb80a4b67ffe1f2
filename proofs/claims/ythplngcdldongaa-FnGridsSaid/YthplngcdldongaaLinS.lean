/-
  A grid that does nothing, by the reference model: l5Line, LineGrid.
-/
import Derived.Test.YthplngcdldongaaLinG
import Derived.Deep.RegionLaw
namespace Go.Proofs.Ythplngcdldongaa
open Go.RowKit
set_option linter.unusedVariables false
set_option linter.unusedSimpArgs false

theorem run_append_rv (w : World) (ty : TypeId) (base : Nat) (v : Value) (n : Nat) (ys : List Value) (hown : OwnV w base v n ys) (q c : Nat) (y : Value) (hq : w.cell? ⟨q, 0, none⟩ = some y) (hy : y.oneCell' = true) (h63 : n ≤ 1000000) (hbase : base ≤ w.heap.size) :
    ∃ g' c' w', (Builtin.append_ #[24, 24] ty #[v, .slice (some ⟨q, 0, none⟩) 1 c]).run Try.prog w = .ok (.slice (some ⟨g', 0, none⟩) (n + 1) c') w' ∧ AppV w w' base v (n + 1) (ys ++ [y]) g' c' := by
  obtain ⟨i, hi, hz, hs, hb⟩ := info_rvx
  obtain ⟨v', w', h1, h2, h3, _, h5⟩ := run_append_own_at (P := Try.prog) w base 24 ty 27 i (.slice none 0 0) 1 24 Try.underlying24 hi hz hs hb rfl (by omega) v n ys hown ⟨q, 0, none⟩ 1 c [y] rfl (by
      intro j u hj
      match j, hj with
      | 0, hj => obtain rfl := Option.some.inj hj; exact hq) (by
      intro u hu
      simp only [List.mem_cons, List.not_mem_nil, or_false] at hu
      subst hu; exact hy) (by unfold maxLen; omega) (by omega) hbase
  obtain ⟨g', c', hv, -, -⟩ := World.ownsRow.form h2 (by omega)
  subst hv
  refine ⟨g', c', w', h1, h2, h3, ?_⟩
  rcases h5 with h5 | h5
  · exact .inl h5.symm
  · exact .inr (by injection h5)
/-- the same in a drawn region. -/
theorem step_append_rsl (w : World) {ops : Array Oper} {op : Oper} {a : Act} {K : Act → World → Prop} {Q : Exit → Act → World → Prop} {E : Prop} (hgd : op.guard = none) (s x : Operand)
    (ho : op.op = .call { callee := .builtin .append, args := #[s, x], argTypes := #[24, 24] })
    (w0 : World) (t : TypeId) (base : Nat) (v : Value) (n : Nat) (rs : Rws) (xs : List Int) (y : Value) (lo : Nat) (hs : a.eval s = v) (hw : w = w0.alloc (.cells #[y] t)) (q : Nat) (hx : a.eval x = .slice (some ⟨q, 0, none⟩) 1 1) (hq : q = w0.heap.size)
    (W1 : World) (hW : Below W1.heap.size W1 w0) (h : RsL W1 base v n rs) (hr : Own w0 (.ints .i64 xs) y lo w0.heap.size) (hlo : W1.heap.size ≤ lo) (hlw : lo ≤ w0.heap.size) (hy : y.oneCell' = true) (h63 : n ≤ 1000000)
    (H : ∀ g' c' w', RsL w' base (.slice (some ⟨g', 0, none⟩) (n + 1) c') (n + 1) (rs ++ [xs]) → Below base w w' → K (a.put op.dst (.slice (some ⟨g', 0, none⟩) (n + 1) c')) w') : if Region.wanted op (yielded ops a.tmps) = true then Oper.wp Try.prog op a w K Q else E := by
  have hwn : Region.wanted op (yielded ops a.tmps) = true := by simp [Region.wanted, hgd]
  rw [if_pos hwn]
  subst hw hq
  obtain ⟨V, lo1, hi1, h⟩ := h
  have h0 := h.bel hW
  have hb : base ≤ w0.heap.size := by have := h0.bl; have := h0.ll; omega
  obtain ⟨g', c', w', hr', ha⟩ := run_append_rv (w0.alloc (.cells #[y] t)) op.type base v n _ (h0.below (blAlloc _ _)).own w0.heap.size 1 y (by simp) hy h63 (by simp; omega)
  unfold Oper.wp execOp
  simp only [ho, resolve, invoke, builtin, Sem.run_bind, Sem.run_pure, Result.andThen_ok, List.map_toArray, List.map_cons, List.map_nil, hs, hx, hr']
  refine H g' c' w' ⟨_, _, _, h0.next hr hlo hlw (Nat.le_refl _) ha⟩ ?_
  exact gb_low' ha.gb (fun g q => (World.ownsRow.lt h0.own g q).1) (Nat.le_refl _) (by simp; omega)
theorem bel1' {w W : World} {c : Nat} (h : Below w.heap.size w W) (hc : w.heap.size ≤ c) (i : Nat) (v : Value) : Below w.heap.size w (W.setCell ⟨c, i, none⟩ v) := h.setCell (p := ⟨c, i, none⟩) hc v
theorem Bx.low' {w w' : World} {b lim : Nat} {l : List Value} (h : Bx w b l) (hb : Below lim w w') (hl : b < lim) : Bx w' b l :=
  ⟨Nat.lt_of_lt_of_le h.lt hb.size, fun j => by rw [hb.frozen (p := ⟨b, j, none⟩) hl]; exact h.th j, fun j v e => by rw [hb.cell (p := ⟨b, j, none⟩) hl]; exact h.at_ j v e⟩
/-- the rows, and the box that holds them. -/
structure LsS (w W : World) (s k : Nat) (v : Value) : Prop where
  box : Bx W (w.heap.size + 1) [.int .i64 (s : Int), v]
  res : Bx W w.heap.size [.int .i64 0, .slice none 0 0]
  rows : RsL W (w.heap.size + 2) v k (lgRs s k)
  b : Below w.heap.size w W
theorem lgRow_eq {s a b c : Nat} (hs : s = 2 ∨ s = 3 ∨ s = 4) (ha : a < s) (hb : b < s) (hc : c < s) : lgRow s (a * (s * s) + b * s + c) = [lgV s a, lgV s b, lgV s c] := by
  obtain ⟨h1, h2, h3⟩ := place_eq hs ha hb hc
  unfold lgRow; rw [h1, h2, h3]
set_option maxRecDepth 100000 in
set_option maxHeartbeats 4000000 in
theorem sLine5_any (s : Nat) (w : World) (hs : s = 2 ∨ s = 3 ∨ s = 4) : Calls Try.prog 64 #[.int .i64 (s : Int)] w fun e w' => ∃ G n c, e = .returned (.agg #[.int .i64 (s : Int), .slice G n c]) ∧ Own w' (rowsD (lgRs s (s * s * s))) (.slice G n c) w.heap.size w'.heap.size ∧ Below w.heap.size w w' := by
  have H3 := Lib.hid hs
  have hs1 : 2 ≤ s ∧ s ≤ 4 := by omega
  have wd : IntKind.i64.wrap ((s : Int) - 1) = (s : Int) - 1 := IntWalk.i64_in _ (by omega)
  have HN64 : Hid (∀ a b c, a < s → b < s → c < s → a * (s * s) + b * s + c ≤ 1000) := fun a b c ha hb hc => by
    have := bound_n hs ha hb hc
    rcases hs with rfl | rfl | rfl <;> simp only [Nat.reduceMul] <;> omega
  clear hs
  obtain ⟨W0, hW0⟩ : ∃ W0, W0 = (w.alloc (.cells #[.int .i64 0, .slice none 0 0] 26)).alloc (.cells #[.int .i64 (s : Int), .slice none 0 0] 26) := ⟨_, rfl⟩
  have hz0 : W0.heap.size = w.heap.size + 2 := by rw [hW0]; simp
  have HS : Hid (LsS w W0 s 0 (.slice none 0 0)) := by
    refine ⟨?_, ?_, RsL.nil _ _ (by omega), ?_⟩
    · rw [hW0]; exact Bx.new _ _ _ (by simp)
    · rw [hW0]; exact (Bx.new _ _ _ rfl).alloc _
    · rw [hW0]; exact blThenAlloc (blAlloc _ _) _
  go_enter Try.func64, Try.ntmps64
  go_wp2_with fail
  rw [← hW0]
  clear hW0 hz0
  go_loopw [4] (fun i wr => ∃ a : Nat, a ≤ s ∧ i = .int .i64 a ∧ Hid (∃ v, LsS w wr s (a * (s * s)) v)) (fun i _ => s - (intOf i).toNat)
  case atStart => exact ⟨0, by omega, rfl, _, by rw [Nat.zero_mul]; exact HS.out⟩
  case round =>
    obtain ⟨a, ha, rfl, HA⟩ := hrel
    by_cases hlt : a < s
    · go_wp2_with fail
      (try simp only [show decide ((a : Int) < (s : Int)) = true from decide_eq_true (by omega)])
      go_loopw [5] (fun i wr => ∃ b : Nat, b ≤ s ∧ i = .int .i64 b ∧ Hid (∃ v, LsS w wr s (a * (s * s) + b * s) v)) (fun i _ => s - (intOf i).toNat)
      case atStart => exact ⟨0, by omega, rfl, by show ∃ v, _; rw [Nat.zero_mul, Nat.add_zero]; exact HA.out⟩
      case round =>
        obtain ⟨b, hb, rfl, HB⟩ := hrel
        by_cases hlb : b < s
        · go_wp2_with fail
          (try simp only [show decide ((b : Int) < (s : Int)) = true from decide_eq_true (by omega)])
          go_loopw [6] (fun i wr => ∃ c : Nat, c ≤ s ∧ i = .int .i64 c ∧ Hid (∃ v, LsS w wr s (a * (s * s) + b * s + c) v)) (fun i _ => s - (intOf i).toNat)
          case atStart => exact ⟨0, by omega, rfl, HB⟩
          case round =>
            obtain ⟨c, hc, rfl, HC⟩ := hrel
            by_cases hlc : c < s
            · obtain ⟨v, hv⟩ := HC.out
              have HV := Lib.hid hv
              clear hv HC HA HB HS
              obtain ⟨k, hk⟩ : ∃ k, k = a * (s * s) + b * s + c := ⟨_, rfl⟩
              have HR : Hid (lgRow s k = [lgV s a, lgV s b, lgV s c]) := by show _ = _; rw [hk]; exact lgRow_eq H3.out hlt hlb hlc
              have HKS := Lib.hid hk
              have hk64 : k ≤ 1000 := by rw [hk]; exact HN64.out a b c hlt hlb hlc
              rw [← hk] at HV
              clear hk
              have x0 := HV.out.box.c 0 rfl
              have x1 := HV.out.box.c 1 rfl
              have z1 := HV.out.box.f 1
              have l1 := HV.out.box.lt
              have wa : IntKind.i64.wrap ((a : Int) * 65535) = (a : Int) * 65535 := IntWalk.i64_in _ (by omega)
              have wb : IntKind.i64.wrap ((b : Int) * 65535) = (b : Int) * 65535 := IntWalk.i64_in _ (by omega)
              have wc : IntKind.i64.wrap ((c : Int) * 65535) = (c : Int) * 65535 := IntWalk.i64_in _ (by omega)
              have CR : Hid (∀ (x : Nat) (W : World), x < s → Calls Try.prog 81 #[.int .i64 ((x : Int) * 65535), .int .i64 ((s : Int) - 1)] W fun e w' => e = .returned (.int .i64 (lgV s x)) ∧ w' = W) := fun x W hx => (sRound_any _ _ _ (by omega) (by omega) (by omega) (by omega)).mono fun e w' ⟨he, hw⟩ => ⟨he, hw.symm⟩
              go_wp2_with fail
              have l0 := HV.out.b.size
              have l2 : w.heap.size + 1 < wr.heap.size + 1 := by omega
              have l3 : w.heap.size < wr.heap.size := by omega
              go_region_law (first
                | (refine step_append_rsl _ rfl _ _ rfl ((wr.drewN 1).alloc (.cells #[.int .i64 (lgV s a), .int .i64 (lgV s b), .int .i64 (lgV s c)] 2)) 27 (w.heap.size + 2) v k (lgRs s k) (lgRow s k) _ wr.heap.size rfl rfl _ rfl (by simp) wr (blThenAlloc (below_drewN _ 1 _) _) HV.out.rows (by rw [HR.out]; exact own3L (Bx.new _ _ _ (by simp))) (Nat.le_refl _) (by simp) rfl (by omega) ?_; intro g' c' w5 hr5 hb5; have BX5 := Lib.hid ((HV.out.box.bel (blThenAlloc (blThenAlloc (below_drewN _ 1 wr) (.cells #[.int .i64 (lgV s a), .int .i64 (lgV s b), .int .i64 (lgV s c)] 2)) (.cells #[.slice (some ⟨wr.heap.size, 0, none⟩) 3 3] 27))).low' hb5 (by omega)); have y1 := BX5.out.c 1 rfl; have yf := BX5.out.f 1)
                | (go_simp; go_at_call 81; first | ((with_reducible refine (CR.out a _ hlt).mono ?_); rintro e w' ⟨rfl, rfl⟩) | ((with_reducible refine (CR.out b _ hlb).mono ?_); rintro e w' ⟨rfl, rfl⟩) | ((with_reducible refine (CR.out c _ hlc).mono ?_); rintro e w' ⟨rfl, rfl⟩)))
              all_goals
                have HNX : Hid (LsS w (w5.setCell ⟨w.heap.size + 1, 1, none⟩ (.slice (some ⟨g', 0, none⟩) (k + 1) c')) s (a * (s * s) + b * s + (c + 1)) (.slice (some ⟨g', 0, none⟩) (k + 1) c')) := by
                  have hbb := blThenAlloc (blThenAlloc (below_drewN wr.heap.size 1 wr) (.cells #[.int .i64 (lgV s a), .int .i64 (lgV s b), .int .i64 (lgV s c)] 2)) (.cells #[.slice (some ⟨wr.heap.size, 0, none⟩) 3 3] 27)
                  have hsz := hb5.size
                  refine ⟨BX5.out.set 1 _, ((HV.out.res.bel hbb).low' hb5 (by omega)).oth (by omega) 1 _, ?_, bel1' ((blThen HV.out.b hbb).trans (hb5.mono (by omega))) (by omega) 1 _⟩
                  rw [← Nat.add_assoc, ← HKS.out, lgRs_succ]
                  exact hr5.keep (fun g hg _ => Below.heap_setCell _ _ _ _ (by show g ≠ w.heap.size + 1; omega)) (by simp [setSize])
                clear hr5 hb5 BX5 y1 yf HV
                go_wp2_with fail
                go_roundw
                case rel => exact ⟨c + 1, by omega, by go_num, _, HNX.out⟩
                case measure => simp [intOf]; omega
            · obtain rfl : c = s := by omega
              go_wp2_with fail
              go_roundw
              case rel => exact ⟨b + 1, by omega, by go_num, by show ∃ v, _; rw [Nat.succ_mul, ← Nat.add_assoc]; exact HC.out⟩
              case measure => simp [intOf]; omega
        · obtain rfl : b = s := by omega
          go_wp2_with fail
          go_roundw
          case rel => exact ⟨a + 1, by omega, by go_num, by show ∃ v, _; rw [Nat.succ_mul]; exact HB.out⟩
          case measure => simp [intOf]; omega
    · obtain rfl : a = s := by omega
      obtain ⟨v, hv⟩ := HA.out
      have HV := Lib.hid hv
      clear hv HA
      have ep : a * (a * a) = a * a * a := (Nat.mul_assoc _ _ _).symm
      have hn0 : 0 < a * (a * a) := Nat.mul_pos (by omega) (Nat.mul_pos (by omega) (by omega))
      have hfm : ∃ g c, v = .slice (some ⟨g, 0, none⟩) (a * (a * a)) c := by
        obtain ⟨V, lo, hi, h⟩ := HV.out.rows
        obtain ⟨g, c, hv, -, -⟩ := World.ownsRow.form h.own hn0
        exact ⟨g, c, hv⟩
      obtain ⟨gq, cq, rfl⟩ := hfm
      have HEP := Lib.hid ep
      obtain ⟨n, hn⟩ : ∃ n, n = a * (a * a) := ⟨_, rfl⟩
      rw [← hn] at HV hn0 HEP
      clear hn ep
      have x0 := HV.out.box.c 0 rfl
      have x1 := HV.out.box.c 1 rfl
      have r0 := HV.out.res.c 0 rfl
      have r1 := HV.out.res.c 1 rfl
      have z0 := HV.out.res.f 0
      have z1 := HV.out.res.f 1
      go_wp2_with fail
      have KK := (HV.out.res.set 0 (.int .i64 (a : Int))).set 1 (.slice (some ⟨gq, 0, none⟩) n cq)
      have k0 := KK.c 0 rfl
      have k1 := KK.c 1 rfl
      clear KK
      refine bodyPost_ret (v := .agg #[.int .i64 (a : Int), .slice (some ⟨gq, 0, none⟩) n cq]) (by simp [results, Try.results64, go_sem, k0, k1]) rfl ⟨_, _, _, rfl, ?_, ?_⟩
      · rw [← HEP.out]
        refine Own.mono (lo := w.heap.size + 2) (hi := wr.heap.size) ?_ (by omega) (by simp [setSize])
        exact (HV.out.rows.fin.set (.inl (by omega)) _ _).set (.inl (by omega)) _ _
      · exact bel1' (bel1' HV.out.b (Nat.le_refl _) 0 _) (Nat.le_refl _) 1 _
set_option maxHeartbeats 2000000 in
theorem sLineGrid_any (sd : Int) (w : World) : Calls Try.prog 20 #[.int .i64 sd] w (GrAns w (lgC sd) (lgS sd) (lgL sd)) := by
  obtain ⟨W0, hW0⟩ : ∃ W0, W0 = w.alloc (.cells #[.int .i64 0, .int .i64 0, .slice none 0 0] 45) := ⟨_, rfl⟩
  have R0 : Hid (Bx W0 w.heap.size [.int .i64 0, .int .i64 0, .slice none 0 0]) := by show Bx _ _ _; rw [hW0]; exact Bx.new _ _ _ rfl
  have T0 : Hid (Below w.heap.size w W0) := by show Below _ _ _; rw [hW0]; exact blAlloc _ _
  have HW := Lib.hid hW0
  clear hW0
  rcases Bool.eq_false_or_eq_true (inB sd 2 4) with hs | hs
  · have hsb := inB_iff.1 hs
    obtain ⟨s, rfl⟩ : ∃ s : Nat, sd = s := ⟨sd.toNat, by omega⟩
    have h3 : s = 2 ∨ s = 3 ∨ s = 4 := by omega
    have CS : Hid (∀ W, Calls Try.prog 52 #[.int .i64 (s : Int)] W fun e w' => e = .returned (.bool true) ∧ W = w') := fun W => by rw [← hs]; exact sSide5_any _ W
    have HE := Lib.hid (lg_yes hs)
    have H3 := Lib.hid h3
    clear hs h3 hsb
    go_enter Try.func20, Try.ntmps20
    go_wp2_with (go_at_call 52; refine (CS.out _).mono ?_; rintro e w' ⟨rfl, rfl⟩)
    rw [← HW.out]
    clear HW CS
    refine (sLine5_any s W0 H3.out).mono ?_
    rintro e w1 ⟨G, n, c, rfl, ho, hb⟩
    have R1 := Lib.hid (R0.out.bel hb)
    have T1 := Lib.hid (blThen T0.out hb)
    have HO := Lib.hid ho
    have l0 := R0.out.lt
    clear ho hb
    have r0 := R1.out.c 0 rfl
    have r1 := R1.out.c 1 rfl
    have r2 := R1.out.c 2 rfl
    have z0 := R1.out.f 0
    have z1 := R1.out.f 1
    have z2 := R1.out.f 2
    go_wp2_with fail
    have KK := ((R1.out.set 0 (.int .i64 0)).set 1 (.int .i64 (s : Int))).set 2 (.slice G n c)
    have k0 := KK.c 0 rfl
    have k1 := KK.c 1 rfl
    have k2 := KK.c 2 rfl
    clear KK
    refine bodyPost_ret (v := .agg #[.int .i64 0, .int .i64 (s : Int), .slice G n c]) (by simp [results, Try.results20, go_sem, k0, k1, k2]) rfl ⟨_, _, _, by rw [HE.out.1, HE.out.2.1], ?_, ?_⟩
    · rw [HE.out.2.2]
      refine Own.mono (lo := W0.heap.size) (hi := w1.heap.size) ?_ (by omega) (by simp [setSize])
      exact ((HO.out.set (.inl (by omega)) _ _).set (.inl (by omega)) _ _).set (.inl (by omega)) _ _
    · exact bel1' (bel1' (bel1' T1.out (Nat.le_refl _) 0 _) (Nat.le_refl _) 1 _) (Nat.le_refl _) 2 _
  · have CS : Hid (∀ W, Calls Try.prog 52 #[.int .i64 sd] W fun e w' => e = .returned (.bool false) ∧ W = w') := fun W => by rw [← hs]; exact sSide5_any sd W
    have HE := Lib.hid (lg_no hs)
    clear hs
    go_enter Try.func20, Try.ntmps20
    go_wp2_with (go_at_call 52; refine (CS.out _).mono ?_; rintro e w' ⟨rfl, rfl⟩)
    refine bodyPost_ret (v := .agg #[.int .i64 3, .int .i64 0, .slice none 0 0]) (by simp [results, Try.results20, go_sem]) rfl ⟨none, 0, 0, by rw [HE.out.1, HE.out.2.1], by rw [HE.out.2.2]; exact Own.snil _ _ _ _ _ _ (Nat.zero_le _), ?_⟩
    repeat (first | exact blAlloc _ _ | refine Below.setCell ?_ (by simp) _)
end Go.Proofs.Ythplngcdldongaa
