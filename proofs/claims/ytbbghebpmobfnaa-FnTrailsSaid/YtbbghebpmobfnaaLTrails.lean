/-
  Proved: at every row of bytes the law FnTrails returns true, and the argument reads afterwards as it read before. Conditions: none.
-/
import Derived.Test.YtbbghebpmobfnaaFront
import Derived.Test.YtbbghebpmobfnaaDrawD
import Derived.Test.YtbbghebpmobfnaaScene
import Derived.Deep.RegionWith
namespace Go.Proofs.Ytbbghebpmobfnaa.lTrails
open Go.ChangeShapes Go.WideShapes Go.ChangeAt Go.RowKit
set_option linter.unusedVariables false

theorem wpList_append_bytes_g (w : World) {ops : Array Oper} {rest : List Oper} {o : Oper} {a : Act} {Q : Exit → Act → World → Prop} (hw : Region.wanted o (yielded ops a.tmps) = true) (s x : Operand)
    (ho : o.op = .call { callee := .builtin .append, args := #[s, x], argTypes := #[22, 22] })
    (base : Nat) (v : Value) (n : Nat) (ys : List Int) (hs : a.eval s = v) (hown : OwnB w base v n ys) (A : Option Addr) (m c : Nat) (zs : List Int) (hx : a.eval x = .slice A m c) (hr : Rd .u8 w A m zs)
    (h63 : n + m ≤ 1000000000000) (hbase : base ≤ w.heap.size)
    (h : ∀ v' w', OwnB w' base v' (n + m) (ys ++ zs) → w.grownBy w' v.ownBlock → wpList Try.prog ops Q rest (a.put o.dst v') w') : wpList Try.prog ops Q (o :: rest) a w := by
  unfold wpList
  rw [if_pos hw]
  refine Or.inl ?_
  obtain ⟨v', w', hr', h2, h3⟩ := run_append_bytes w o.type base v n ys hown A m c zs hr h63 hbase
  unfold Oper.wp execOp
  simp only [ho, resolve, invoke, builtin, Sem.run_bind, Sem.run_pure, Result.andThen_ok, List.map_toArray, List.map_cons, List.map_nil, hs, hx, hr']
  exact h v' w' h2 h3
theorem sameT_self (t : Tg) : sameT t t = true := by unfold sameT sameB; simp
theorem sameN_self (ts : List Tg) (n : Nat) : sameN ts ts n = true := by
  induction n with
  | zero => rfl
  | succ n ih => simp only [sameN, ih, sameT_self]; rfl
theorem sameP_self (cl : Int) (ts : List Tg) : sameP cl cl ts ts = true := by unfold sameP sameTs; simp [sameN_self]
set_option maxRecDepth 100000 in
set_option maxHeartbeats 4000000 in
theorem walk (A : Option Addr) (n c : Nat) (xs : List Int) (bs : List Nat) (w : World) (h : Hd w (.ints .u8 xs) (.slice A n c) bs) (hu : U8s xs) :
    Calls Try.prog 4 #[.slice A n c] w fun e w' => e = .returned (.bool true) ∧ Below w.heap.size w w' := by
  have hf2 : ∀ a b w, (Instr.field 33 (.agg #[a, b]) 1).run Try.prog w = .ok b w := fun a b w => by kernel_rfl
  have hf3 : ∀ a b d w, (Instr.field 29 (.agg #[a, b, d]) 0).run Try.prog w = .ok a w := fun a b d w => by kernel_rfl
  have HU := Lib.hid hu
  have H := Lib.hid h
  have hcc := h.caps
  have hnm : n ≤ maxLen := by omega
  clear h hu
  go_enter Try.func4, Try.ntmps4
  go_wp2_with fail
  refine (lwBig_any A n c _ hnm).mono ?_
  rintro e w0 ⟨rfl, rfl⟩
  by_cases hbig : (1048576 : Int) < n
  · rw [decide_eq_true hbig]
    go_wp2_with fail
    go_ret
    exact ⟨rfl, Below.refl _ _⟩
  rw [decide_eq_false hbig]
  go_wp2_with fail
  refine (drawParse_any A n c xs _ H.out.rd HU.out (by omega)).mono ?_
  rintro e w1 ⟨B, m, cp, ys, rfl, hu1, hm1, ⟨bs1, hd1⟩, hb1⟩
  have hcap := hd1.caps
  have hcm : cp ≤ maxLen := hcap.2
  have hmc : m ≤ cp := hcap.1
  have HU1 := Lib.hid hu1
  have HD1 := Lib.hid hd1
  have T1 := Lib.hid hb1
  have HLm := Lib.hid hd1.rd.1
  clear hu1 hd1 hb1 H HU hcap hcc
  go_wp2_with fail
  refine (ParseProfile_any B m cp ys _ HD1.out.rd HU1.out hmc hcm).mono ?_
  rintro e w2 ⟨A2, n2, c2, rfl, ho2, hb2⟩
  obtain ⟨bs2, hd2⟩ := ho2.hd
  have HD2 := Lib.hid hd2
  have HR2 := Lib.hid (HD1.out.bel hb2)
  have T2 := Lib.hid (blThen T1.out hb2)
  have HOK := Lib.hid (ppT_small ys HU1.out).2
  have HK := Lib.hid HU1.out
  clear ho2 hd2 hb2 HD1 T1
  by_cases hC : ppC ys = 0
  · by_cases hL : m + 3 ≤ 900
    · rw [hC]
      have hp := pp_pf hC
      obtain ⟨p1, p2, p3⟩ := pp_app (zs := [1, 2, 3]) hC (by rw [HLm.out]; exact hL)
      have P1 := Lib.hid p1
      have P2 := Lib.hid p2
      have P3 := Lib.hid p3
      have HP := Lib.hid hp
      have HEU := Lib.hid (enc_u8 hp (ppT_b8 HU1.out))
      have HE0 := Lib.hid (enc_trail hp 0)
      have U3 := Lib.hid ((HU1.out.b8.app (ys := [1, 2, 3]) (fun x hx => by simp at hx; omega)).u8)
      have U4 := Lib.hid ((HEU.out.b8.app (ys := [0]) (fun x hx => by simp at hx; omega)).u8)
      have EE : Hid (enB (ppK ys) (ppT ys) = enc (ppK ys) (ppT ys)) := by show enB _ _ = _; unfold enB; rw [if_pos hp]
      have hel := enc_len (fine_of hp)
      clear p1 p2 p3 hp hC
      generalize ppK ys = cl at *
      generalize ppT ys = ts at *
      generalize enc cl ts = en at *
      have HO3 : Hid (OwnB ((w2.alloc (.cells #[.int .i64 0, .int .i64 cl, .slice A2 n2 c2] 29)).alloc (.cells #[] 5)) (w2.heap.size + 1) (.slice (some ⟨w2.heap.size + 1, 0, none⟩) 0 0) 0 []) := by
        have hh := OwnB.lit (w2.alloc (.cells #[.int .i64 0, .int .i64 cl, .slice A2 n2 c2] 29)) [] (w2.heap.size + 1) 0 rfl (by simp) (Nat.zero_le _)
        rw [World.size_alloc] at hh
        exact hh
      have R3 := Lib.hid ((HR2.out.rd.alloc (.cells #[.int .i64 0, .int .i64 cl, .slice A2 n2 c2] 29)).alloc (.cells #[] 5))
      go_wp2_with (at_builtin; first
        | (refine wpList_append_bytes _ rfl _ _ rfl (w2.heap.size + 1) (.slice (some ⟨w2.heap.size + 1, 0, none⟩) 0 0) 0 [] rfl HO3.out B m cp ys rfl R3.out (by omega) (by simp) ?_; intro v4 w4 hown4 hg4; rw [Nat.zero_add, List.nil_append] at hown4; obtain ⟨g4, cap4, rfl, gl4, gu4, gc4, gm4⟩ := hown4.form; have R5 : Hid (Rd .u8 (w4.alloc (.cells #[.int .u8 1, .int .u8 2, .int .u8 3] 5)) (some ⟨w4.heap.size, 0, none⟩) 3 [1, 2, 3]) := rd_lits w4 [1, 2, 3] _; have B5 : Hid (OwnB (w4.alloc (.cells #[.int .u8 1, .int .u8 2, .int .u8 3] 5)) (w2.heap.size + 1) (.slice (some ⟨g4, 0, none⟩) m cap4) m ys) := hown4.alloc _; have hb5 : Hid (w2.heap.size + 1 ≤ (w4.alloc (.cells #[.int .u8 1, .int .u8 2, .int .u8 3] 5)).heap.size) := Nat.le_of_lt (Nat.lt_of_le_of_lt gl4 (Nat.lt_of_lt_of_le gu4 (by simp))))
        | (refine wpList_append_bytes _ rfl _ _ rfl (w2.heap.size + 1) (.slice (some ⟨g4, 0, none⟩) m cap4) m ys rfl B5.out (some ⟨w4.heap.size, 0, none⟩) 3 3 [1, 2, 3] rfl R5.out (by omega) hb5.out ?_; intro v6 w6 hown6 hg6; obtain ⟨g6, cap6, rfl, gl6, gu6, gc6, gm6⟩ := hown6.form))
      have Q6 : Below (w2.alloc (.cells #[.int .i64 0, .int .i64 cl, .slice A2 n2 c2] 29)).heap.size (w2.alloc (.cells #[.int .i64 0, .int .i64 cl, .slice A2 n2 c2] 29)) w6 := by
        have q1 := gb_to_below (B := w2.heap.size + 1) (g := w2.heap.size + 1) hg4 (Nat.le_refl _) (by simp)
        have q2 := gb_to_below (B := w2.heap.size + 1) (g := g4) hg6 gl4 hb5.out
        rw [World.size_alloc]
        exact (((Below.refl _ _).alloc (by simp) _).trans q1).trans (((Below.refl _ _).alloc (by omega) _).trans q2)
      obtain ⟨x0, x1, x2⟩ : w6.cell? ⟨w2.heap.size, 0, none⟩ = some (.int .i64 0) ∧ w6.cell? ⟨w2.heap.size, 1, none⟩ = some (.int .i64 cl) ∧ w6.cell? ⟨w2.heap.size, 2, none⟩ = some (.slice A2 n2 c2) := by
        refine ⟨?_, ?_, ?_⟩ <;> rw [Q6.cell (by simp)] <;> simp
      have D6 := Lib.hid ((HD2.out.alloc _).bel Q6)
      have T6 := Lib.hid (blThen (blThenAlloc T2.out _) Q6)
      have O6 := Lib.hid hown6
      clear Q6 hg4 hg6 hown4 hown6 HO3 R3 R5 B5 hb5 HD2 HR2
      refine (ParseProfile_any (some ⟨g6, 0, none⟩) (m + 3) cap6 (ys ++ [1, 2, 3]) _ O6.out.rd U3.out gc6 gm6).mono ?_
      rintro e w7 ⟨A7, n7, c7, rfl, ho7, hb7⟩
      rw [P3.out] at ho7
      rw [P1.out, P2.out]
      obtain ⟨bs7, hd7⟩ := ho7.hd
      have D7 := Lib.hid hd7
      have E7 := Lib.hid (D6.out.bel hb7)
      have T7 := Lib.hid (blThen T6.out hb7)
      have hz7 : w2.heap.size < w7.heap.size := Nat.lt_of_lt_of_le (cell_lt x0) hb7.size
      have y1 := cell_later hb7 x1
      have y2 := cell_later hb7 x2
      clear ho7 hd7 hb7 x0 x1 x2 D6 T6 O6
      go_wp2_with fail
      refine (SameProfiles_any _ _ _ _ _ _ _ _ ts ts _ _ _ (E7.out.alloc _) (D7.out.alloc _)).mono ?_
      rintro e w8 ⟨rfl, hb8⟩
      rw [sameP_self]
      have E8 := Lib.hid ((E7.out.alloc (.cells #[.int .i64 0, .int .i64 cl, .slice A7 n7 c7] 29)).bel hb8)
      have T8 := Lib.hid (blThen (blThenAlloc T7.out _) hb8)
      have hz8 : w2.heap.size < w8.heap.size := by have := hb8.size; simp at this; omega
      have z1 : w8.cell? ⟨w2.heap.size, 1, none⟩ = some (.int .i64 cl) := by rw [hb8.cell (by simp; omega), World.cell?_alloc_lt _ _ _ hz7]; exact y1
      have z2 : w8.cell? ⟨w2.heap.size, 2, none⟩ = some (.slice A2 n2 c2) := by rw [hb8.cell (by simp; omega), World.cell?_alloc_lt _ _ _ hz7]; exact y2
      clear hb8 y1 y2 E7 D7 T7
      go_wp2_with fail
      refine (EncodeProfile_any A2 n2 c2 cl ts bs2 _ (E8.out.alloc _) HOK.out).mono ?_
      rintro e w9 ⟨B9, n9, c9, rfl, ho9, hb9⟩
      rw [EE.out] at ho9
      obtain ⟨bs9, hd9⟩ := ho9.hd
      have hn9 := hd9.rd.1
      have R9 := Lib.hid hd9.rd
      have O9 : Hid (OwnB w9 w8.heap.size (.slice (some ⟨w8.heap.size, 0, none⟩) 0 0) 0 []) := (OwnB.lit w8 [] w8.heap.size 0 rfl (Nat.le_refl _) (Nat.zero_le _)).below hb9
      have T9 := Lib.hid (blThen (blThenAlloc T8.out _) hb9)
      have hz9 : w8.heap.size < w9.heap.size := by have := hb9.size; simp at this; omega
      have t8 := T8.out.size
      clear ho9 hd9 hb9 E8 T8 z1 z2
      go_wp2_with (first
        | (refine wpList_append_bytes_g _ (by rfl) _ _ rfl w8.heap.size (.slice (some ⟨w8.heap.size, 0, none⟩) 0 0) 0 [] rfl O9.out B9 n9 c9 en rfl R9.out (by omega) (by omega) ?_; intro v10 w10 hown10 hg10; rw [Nat.zero_add, List.nil_append] at hown10; obtain ⟨g10, cap10, rfl, gl10, gu10, gc10, gm10⟩ := hown10.form; have R11 : Hid (Rd .u8 (w10.alloc (.cells #[.int .u8 0] 5)) (some ⟨w10.heap.size, 0, none⟩) 1 [0]) := rd_lits w10 [0] _; have B11 : Hid (OwnB (w10.alloc (.cells #[.int .u8 0] 5)) w8.heap.size (.slice (some ⟨g10, 0, none⟩) n9 cap10) n9 en) := hown10.alloc _; have hb11 : Hid (w8.heap.size ≤ (w10.alloc (.cells #[.int .u8 0] 5)).heap.size) := Nat.le_of_lt (Nat.lt_of_le_of_lt gl10 (Nat.lt_of_lt_of_le gu10 (by simp))))
        | (refine wpList_append_bytes_g _ (by rfl) _ _ rfl w8.heap.size (.slice (some ⟨g10, 0, none⟩) n9 cap10) n9 en rfl B11.out (some ⟨w10.heap.size, 0, none⟩) 1 1 [0] rfl R11.out (by omega) hb11.out ?_; intro v12 w12 hown12 hg12; obtain ⟨g12, cap12, rfl, gl12, gu12, gc12, gm12⟩ := hown12.form))
      have T12 : Hid (Below w.heap.size w w12) := by
        have q1 := gb_to_below (B := w.heap.size) (g := w8.heap.size) hg10 (by omega) (by omega)
        have q2 := gb_to_below (B := w.heap.size) (g := g10) hg12 (by omega) (by have := hb11.out; omega)
        exact (T9.out.trans q1).trans (((Below.refl _ _).alloc (by omega) _).trans q2)
      refine (IsCanonical_any (some ⟨g12, 0, none⟩) (n9 + 1) cap12 (en ++ [0]) _ hown12.rd U4.out gc12 gm12).mono ?_
      rintro e w13 ⟨rfl, hb13⟩
      rw [HE0.out]
      have T13 := Lib.hid (blThen T12.out hb13)
      clear hb13 T12 hg10 hg12 hown10 hown12 R11 B11 hb11
      go_wp2_with fail
      go_ret
      exact ⟨rfl, T13.out⟩
    · have hL' : (900 : Int) < (m : Int) + 3 := by omega
      rw [hC]
      go_wp2_with fail
      go_region_with (go_at_call 19; refine (sParseProfile_any B m cp ys _ ((HR2.out.rd.alloc _).drewN 1) HU1.out hmc hcm).mono ?_; rintro e w3 ⟨A3, n3, c3, rfl, ho3, hb3⟩; have k3 : w3.cell? ⟨w2.heap.size, 0, none⟩ = some (.int .i64 0) := (by rw [hb3.cell (by simp)]; simp); have T3 := Lib.hid (blThen (blThenDrew (blThenAlloc T2.out _) 1) hb3); clear ho3 hb3)
      all_goals
        go_wp2_with fail
        go_ret
        exact ⟨by first | rfl | simp, T3.out⟩
  · have hC0 : (ppC ys != 0) = true := by simpa using hC
    go_wp2_with fail
    go_region_with (go_at_call 19; refine (sParseProfile_any B m cp ys _ ((HR2.out.rd.alloc _).drewN 1) HU1.out hmc hcm).mono ?_; rintro e w3 ⟨A3, n3, c3, rfl, ho3, hb3⟩; have k3 : w3.cell? ⟨w2.heap.size, 0, none⟩ = some (.int .i64 (ppC ys)) := (by rw [hb3.cell (by simp)]; simp); have T3 := Lib.hid (blThen (blThenDrew (blThenAlloc T2.out _) 1) hb3); clear ho3 hb3)
    all_goals
      go_wp2_with fail
      go_ret
      exact ⟨by first | rfl | simp, T3.out⟩

set_option maxRecDepth 100000 in
theorem lifted (os : Os) (started : os.Started) (H : Type) (enc : TypeId × Value → H) :
    ReturnsInHanded {} Try.checked os 4 .any (Rows.fnTrailsSpec.pre6 enc Try.prog Try.f4 Rows.fnTrailsRow.domain false) (Rows.fnTrailsSpec.post enc Try.prog Try.f4 false true false false) := by
  refine returnsInHanded_of_change (C := Try.checked) own started (by kernel_rfl) Try.func4
    (ChangeSpec.witness6 (enc := enc) (C := Try.checked) false ⟨#[], #[.slice none 0 0], []⟩ 8 (by kernel_rfl) (by kernel_rfl) (by kernel_rfl) (by kernel_rfl)) ?_
  intro W base args ds gs before hval0 hW hcnd _
  have hval : ∀ (j : Nat) t v, Try.f4.params[j]? = some t → args[j]? = some v → Value.okWide Try.prog W .any base t v := hval0
  have hW' := hW
  obtain ⟨p, q, hA0, hV0, rfl, hfz, hnd⟩ := hW
  have hA : DataW.TrodAll enc Try.prog W 0 (fun _ => true) true Try.f4.params.toList args.toList ds p := hA0
  have hV : DataW.TrodVars enc Try.prog W (fun _ => true) [] gs q := hV0
  rw [Try.params4] at hA hval
  obtain ⟨v0, vs0, d0, ds0, p0, q0, hargs, rfl, rfl, h0, r0⟩ := trodAll_cons hA
  obtain ⟨rfl, rfl, rfl⟩ := trodAll_nil r0
  obtain rfl : args = #[v0] := by cases args; simp_all
  obtain ⟨rfl, rfl⟩ : gs = [] ∧ q = [] := by
    cases gs with
    | nil => exact ⟨rfl, hV⟩
    | cons g r => exact absurd hV (by intro h; cases h)
  have k0 := h0
  have lt0 : ∀ x ∈ p0, x.block < W.heap.size := by obtain ⟨m, hm⟩ := k0; exact DataW.trod_lt m _ _ _ hm
  obtain ⟨a0, n0, c0, xs0, bs0, rfl, hd0, u0⟩ := open_bytes (hval 0 22 v0 rfl rfl) h0
  clear hA0 hval0
  refine (walk a0 n0 c0 xs0 bs0 W hd0 u0).mono fun e W' ⟨he, bel⟩ => ?_
  subst he
  exact ⟨_, rfl, _, _, _, [], _, [], hW', trodAll_mk1 (shut_bool Try.underlying4 _), (trodAll_cons_mk (Below.trod laidOut (by kernel_rfl) (of_decide_eq_true (by kernel_rfl)) k0 bel lt0) trodAll_mk0), rfl, bel.frame _, fun h => by cases h⟩

theorem row_holds : Rows.FnTrailsSaid :=
  OpenClaim.holds_of_wide 4 Try.f4 rfl rfl rfl rfl rfl rfl rfl ⟨rfl, rfl, rfl, rfl, rfl⟩ rfl rfl rfl rfl rfl (by kernel_rfl) Try.func4 (by kernel_rfl)
    (of_decide_eq_true (by kernel_rfl)) (by unfold Func.isWrapper; rw [if_neg (of_decide_eq_false (by kernel_rfl))]; exact ⟨rfl, rfl⟩)
    (fun os started H enc _ => lifted os started H enc)

theorem proved : Rows.FnTrailsSaid := row_holds
#print axioms proved

end Go.Proofs.Ytbbghebpmobfnaa.lTrails
