/-
  Chains that are handed back: copyLists, stageAnswer, chainAnswer: each list in memory of its own.
-/
import Derived.Test.YtdjifaaofefpoaaGreatEowA
import Derived.Test.YtdjifaaofefpoaaGreatStpB
import Derived.Test.YtdjifaaofefpoaaGreatLinS
import Derived.Test.YtdjifaaofefpoaaGreatMatA
import Derived.Test.YtdjifaaofefpoaaGreatSceneM
import Derived.Deep.RegionHeld3
namespace Go.Proofs.YtdjifaaofefpoaaGreat
open Go.RowKit Go.Maps
set_option linter.unusedVariables false
set_option linter.unusedSimpArgs false

theorem take_row {rs : Rws} {k : Nat} (h : k < rs.length) : rs.take (k + 1) = rs.take k ++ [rw_ rs k] := by
  rw [List.take_succ_eq_append_getElem h]
  simp [rw_, List.getD, h]
theorem RsL.form {W : World} {base n : Nat} {v : Value} {rs : Rws} (h : RsL W base v n rs) : ∃ A c, v = .slice A n c := by
  obtain ⟨V, lo, hi, h⟩ := h
  rcases h.own.2 with ⟨rfl, hn⟩ | ⟨g, cap, cur, rfl, b1, b2, b3, b4, b5, b6⟩
  · rw [hn]; exact ⟨_, _, rfl⟩
  · exact ⟨_, _, rfl⟩
theorem Bx.low {W W' : World} {b B : Nat} {l : List Value} (h : Bx W b l) (hb : Below B W W') (hB : b < B) : Bx W' b l :=
  ⟨Nat.lt_of_lt_of_le h.lt hb.size, fun i => by rw [hb.frozen (p := ⟨b, i, none⟩) hB]; exact h.th i, fun j v e => by rw [hb.cell (p := ⟨b, j, none⟩) hB]; exact h.at_ j v e⟩
theorem info_cv : (Tryz.prog.info? 136).map (fun i => (i.zero, i.size, i.bytes)) = some (some (.agg #[.slice none 0 0]), 1, 24) := by kernel_rfl
theorem ety_curve : Ety 94 136 1 24 := by
  obtain ⟨i, hi, h⟩ := Option.map_eq_some_iff.1 info_cv
  simp only [Prod.mk.injEq] at h
  exact ⟨Tryz.underlying94, ⟨i, _, hi, h.1, h.2.1, h.2.2, rfl⟩, by omega, by omega⟩
theorem info_sg : (Tryz.prog.info? 98).map (fun i => (i.zero, i.size, i.bytes)) = some (some (.agg #[.int .i64 0, .slice none 0 0, .slice none 0 0, .int .i64 0, .slice none 0 0]), 5, 88) := by kernel_rfl
theorem ety_stage : Ety 30 98 5 88 := by
  obtain ⟨i, hi, h⟩ := Option.map_eq_some_iff.1 info_sg
  simp only [Prod.mk.injEq] at h
  exact ⟨Tryz.underlying30, ⟨i, _, hi, h.1, h.2.1, h.2.2, rfl⟩, by omega, by omega⟩
def RwAns (w : World) (n : Nat) (rs : Rws) (e : Ending) (w' : World) : Prop := ∃ A c, e = .returned (.slice A n c) ∧ Own w' (rowsD rs) (.slice A n c) w.heap.size w'.heap.size ∧ Below w.heap.size w w'
set_option maxRecDepth 100000 in
set_option maxHeartbeats 4000000 in
theorem copyLists_any (A : Option Addr) (n c : Nat) (rs : Rws) (bs : List Nat) (w : World) (h : Hd w (rowsD rs) (.slice A n c) bs) (hn : n ≤ 100) (hr : ∀ k, k < n → 0 < (rw_ rs k).length ∧ (rw_ rs k).length ≤ 100) :
    Calls Tryz.prog 110 #[.slice A n c] w (RwAns w n rs) := by
  have HL := Lib.hid h.rows.1
  have H := Lib.hid h
  have HR := Lib.hid hr
  clear h hr
  go_enter Tryz.func110, Tryz.ntmps110
  go_wp2_with fail
  go_loopw [3, 8] (fun v i wr => ∃ k : Nat, k ≤ n ∧ i = .int .i64 k ∧ Hid (RsL wr w.heap.size v k (rs.take k)) ∧ Hid (Below w.heap.size w wr)) (fun _ i _ => n - (intOf i).toNat)
  case atStart => exact ⟨0, by omega, rfl, by rw [List.take_zero]; exact RsL.nil _ _ (Nat.le_refl _), Below.refl _ _⟩
  case round =>
    obtain ⟨k, hk, rfl, HS, HB⟩ := hrel
    by_cases hlt : k < n
    · obtain ⟨b, o, B1, L1, C1, g1, rfl, x1, x3, -⟩ := (H.out.bel HB.out).row hlt
      have hL : (rw_ rs k).length = L1 := x3.rd.1
      have hLL := HR.out k hlt
      obtain ⟨p, q, rfl, -⟩ := x3.rd.2 (by omega)
      have HRD := Lib.hid x3.rd
      have HTK : Hid (rs.take (k + 1) = rs.take k ++ [rw_ rs k]) := take_row (by rw [HL.out]; exact hlt)
      have hL1 : 0 < L1 ∧ L1 ≤ 100 := by omega
      clear x3 hL hLL
      go_wp2_with fail
      refine (Clone_any p q L1 C1 (rw_ rs k) _ HRD.out hL1.1 (by omega)).mono ?_
      rintro e w2 ⟨G, cq, rfl, how, hb⟩
      have HOW := Lib.hid how
      have HBX := Lib.hid hb
      have hsz := hb.size
      clear how hb HRD x1
      go_wp2_with (at_builtin; refine wpList_append_rsl _ rfl _ _ rfl w2 _ w.heap.size _ k (rs.take k) (rw_ rs k) _ _ rfl rfl rfl wr HBX.out HS.out HOW.out (by omega) (by omega) rfl (by omega) ?_; intro g' c' w5 hr5 hb5)
      have HR5 : Hid (RsL w5 w.heap.size (.slice (some ⟨g', 0, none⟩) (k + 1) c') (k + 1) (rs.take (k + 1))) := by show RsL _ _ _ _ _; rw [HTK.out]; exact hr5
      have HB5 := Lib.hid ((blThenAlloc (blThen HB.out HBX.out) _).trans hb5)
      clear hr5 hb5 HOW HBX HS HB
      go_wp2_with fail
      go_roundw
      case rel => exact ⟨k + 1, by omega, by go_num, HR5, HB5⟩
      case measure => simp [intOf]; omega
    · obtain rfl : k = n := by omega
      obtain ⟨A', c', rfl⟩ := HS.out.form
      have HF := Lib.hid (show Own wr (rowsD rs) (.slice A' k c') w.heap.size wr.heap.size from by
        obtain ⟨V, lo, hi, q⟩ := HS.out
        have := q.fin
        rw [List.take_of_length_le (by rw [HL.out]; exact Nat.le_refl _)] at this
        exact this)
      clear HS
      go_wp2_with fail
      go_ret
      exact ⟨A', c', rfl, HF.out, HB.out⟩
/-- the values of a stage's five cells. -/
def stV (kd : Int) (s1 s2 : Value) (sd : Int) (s3 : Value) (j : Nat) : Value := match j with
  | 0 => .int .i64 kd
  | 1 => s1
  | 2 => s2
  | 3 => .int .i64 sd
  | _ => s3
theorem stV_box {W : World} {g : Nat} {kd sd : Int} {s1 s2 s3 : Value} (h : Bx W g [.int .i64 kd, s1, s2, .int .i64 sd, s3]) : ∀ j, j < 5 → W.cell? ⟨g, j, none⟩ = some (stV kd s1 s2 sd s3 j) := fun j hj =>
  match j, hj with
  | 0, _ => h.c 0 rfl
  | 1, _ => h.c 1 rfl
  | 2, _ => h.c 2 rfl
  | 3, _ => h.c 3 rfl
  | 4, _ => h.c 4 rfl
theorem stV_one (kd : Int) (s1 s2 : Value) (sd : Int) (s3 : Value) (h1 : s1.oneCell' = true) (h2 : s2.oneCell' = true) (h3 : s3.oneCell' = true) : ∀ j, j < 5 → (stV kd s1 s2 sd s3 j).oneCell' = true := fun j hj =>
  match j, hj with
  | 0, _ => rfl
  | 1, _ => h1
  | 2, _ => h2
  | 3, _ => rfl
  | 4, _ => h3
def StAns (w : World) (t : Stg) (e : Ending) (w' : World) : Prop :=
  ∃ B1 m1 d1 B2 m2 d2 B3 m3 d3, e = .returned (.agg #[.int .i64 t.kd, .slice B1 m1 d1, .slice B2 m2 d2, .int .i64 t.sd, .slice B3 m3 d3]) ∧
    OwnX 5 w' (stD t) (stV t.kd (.slice B1 m1 d1) (.slice B2 m2 d2) t.sd (.slice B3 m3 d3)) w.heap.size w'.heap.size ∧ Below w.heap.size w w'
theorem OwnX.of3 {w : World} {t : Stg} {s1 s2 s3 : Value} {lo p q hi : Nat} (h1 : Own w (rowsD t.cs) s1 lo p) (h2 : Own w (rowsD t.rs) s2 p q) (h3 : Own w (rowsD t.ns) s3 q hi) (l1 : lo ≤ p) (l2 : p ≤ q) (l3 : q ≤ hi) :
    OwnX 5 w (stD t) (stV t.kd s1 s2 t.sd s3) lo hi := by
  obtain ⟨b1, x1, y1, z1⟩ := h1
  obtain ⟨b2, x2, y2, z2⟩ := h2
  obtain ⟨b3, x3, y3, z3⟩ := h3
  refine ⟨fun j => if j = 1 then b1 else if j = 2 then b2 else if j = 4 then b3 else [], fun j hj => ?_, ?_, fun j hj b hb => ?_⟩
  · match j, hj with
    | 0, _ => exact .int _ _
    | 1, _ => exact x1
    | 2, _ => exact x2
    | 3, _ => exact .int _ _
    | 4, _ => exact x3
  · have e : ((List.range 5).flatMap fun j => if j = 1 then b1 else if j = 2 then b2 else if j = 4 then b3 else []) = b1 ++ (b2 ++ b3) := by simp [List.range_succ]
    rw [e]
    refine List.nodup_append.2 ⟨y1, List.nodup_append.2 ⟨y2, y3, fun a ha b hb e => ?_⟩, fun a ha b hb e => ?_⟩
    · subst e; have := z2 a ha; have := z3 a hb; omega
    · subst e
      have := z1 a ha
      rcases List.mem_append.1 hb with hb | hb
      · have := z2 a hb; omega
      · have := z3 a hb; omega
  · match j, hj with
    | 0, _ => simp at hb
    | 1, _ => have := z1 b (by simpa using hb); exact ⟨by omega, by omega, this.2.2⟩
    | 2, _ => have := z2 b (by simpa using hb); exact ⟨by omega, by omega, this.2.2⟩
    | 3, _ => simp at hb
    | 4, _ => have := z3 b (by simpa using hb); exact ⟨by omega, by omega, this.2.2⟩
theorem own_rs0 (w : World) (A : Option Addr) (c lo hi : Nat) (hc : c ≤ maxLen) : Own w (rowsD []) (.slice A 0 c) lo hi := Own.snil _ _ _ _ _ _ hc
set_option maxRecDepth 100000 in
set_option maxHeartbeats 4000000 in
theorem stageAnswer_2 (t : Stg) (A : Option Addr) (n c : Nat) (w : World) (h : ∃ bs, Hd w (rowsD t.rs) (.slice A n c) bs) (kd : t.kd = 2) (h0 : mf t.rs = 0) (hx : t.cs = [] ∧ t.sd = 0 ∧ t.ns = []) :
    Calls Tryz.prog 65 #[.iface 163 (.agg #[.slice A n c])] w (StAns w t) := by
  obtain ⟨bs, h⟩ := h
  have hl := h.rows.1
  have hm := mf_zero h0
  obtain rfl : 3 = n := by omega
  have H := Lib.hid h
  have HR := Lib.hid hm.2
  have HX := Lib.hid hx
  have HKD := Lib.hid kd
  have t1 := fun W => ta_21 A 3 c W
  have t2 := fun W => ta_22 A 3 c W
  obtain ⟨W0, hW0⟩ : ∃ W0, W0 = ((w.alloc (.cells #[.int .i64 0, .slice none 0 0, .slice none 0 0, .int .i64 0, .slice none 0 0] 98)).alloc (.cells #[.int .i64 2, .slice none 0 0, .slice none 0 0, .int .i64 0, .slice none 0 0] 98)).alloc (.cells #[.slice A 3 c] 163) := ⟨_, rfl⟩
  clear h hm hl h0 kd hx
  go_enter Tryz.func65, Tryz.ntmps65
  go_wp2_with fail
  rw [← hW0]
  have R0 : Hid (Bx W0 w.heap.size [.int .i64 0, .slice none 0 0, .slice none 0 0, .int .i64 0, .slice none 0 0]) := by show Bx _ _ _; rw [hW0]; exact ((Bx.new _ _ _ rfl).alloc _).alloc _
  have M0 : Hid (Bx W0 (w.heap.size + 1) [.int .i64 2, .slice none 0 0, .slice none 0 0, .int .i64 0, .slice none 0 0]) := by show Bx _ _ _; rw [hW0]; exact (Bx.new _ _ _ (by simp)).alloc _
  have T0 : Hid (Below w.heap.size w W0) := by show Below _ _ _; rw [hW0]; exact blThenAlloc (blThenAlloc (blAlloc _ _) _) _
  have hsz : W0.heap.size = w.heap.size + 3 := by rw [hW0]; simp
  have HZ := Lib.hid hsz
  clear hW0 t1 t2 hsz
  refine (copyLists_any A 3 c t.rs bs W0 (H.out.bel T0.out) (by omega) (fun k hk => by have := (rowF_zero (HR.out k hk)).1; omega)).mono ?_
  rintro e w1 ⟨B, d, rfl, ho, hb⟩
  have R1 := Lib.hid (R0.out.bel hb)
  have M1 := Lib.hid (M0.out.bel hb)
  have T1 := Lib.hid (blThen T0.out hb)
  have O1 := Lib.hid ho
  have SB := Lib.hid hb.size
  have HD := Lib.hid ho.hd.choose_spec.caps
  clear ho hb R0 M0 T0 H HR
  have r0 := R1.out.c 0 rfl
  have q0 := R1.out.f 0
  have m0 := M1.out.c 0 rfl
  have p0 := M1.out.f 0
  have r1 := R1.out.c 1 rfl
  have q1 := R1.out.f 1
  have m1 := M1.out.c 1 rfl
  have p1 := M1.out.f 1
  have r2 := R1.out.c 2 rfl
  have q2 := R1.out.f 2
  have m2 := M1.out.c 2 rfl
  have p2 := M1.out.f 2
  have r3 := R1.out.c 3 rfl
  have q3 := R1.out.f 3
  have m3 := M1.out.c 3 rfl
  have p3 := M1.out.f 3
  have r4 := R1.out.c 4 rfl
  have q4 := R1.out.f 4
  have m4 := M1.out.c 4 rfl
  have p4 := M1.out.f 4
  have rl := R1.out.lt
  have ml := M1.out.lt
  go_wp2_with fail
  have KK := (((((R1.out.oth (c := w.heap.size + 1) (by omega) 2 (.slice B 3 d)).set 0 (.int .i64 2)).set 1 (.slice none 0 0)).set 2 (.slice B 3 d)).set 3 (.int .i64 0)).set 4 (.slice none 0 0)
  have k0 := KK.c 0 rfl
  have k1 := KK.c 1 rfl
  have k2 := KK.c 2 rfl
  have k3 := KK.c 3 rfl
  have k4 := KK.c 4 rfl
  clear KK
  refine bodyPost_ret (v := .agg #[.int .i64 2, .slice none 0 0, .slice B 3 d, .int .i64 0, .slice none 0 0]) (by simp [results, Tryz.results65, go_sem, k0, k1, k2, k3, k4]) rfl ⟨none, 0, 0, B, 3, d, none, 0, 0, by rw [HKD.out, HX.out.2.1], ?_, ?_⟩
  · refine OwnX.of3 (p := w.heap.size) (q := w1.heap.size) (by rw [HX.out.1]; exact own_rs0 _ _ _ _ _ (Nat.zero_le _)) ?_ (by rw [HX.out.2.2]; exact own_rs0 _ _ _ _ _ (Nat.zero_le _)) (Nat.le_refl _) (by have := HZ.out; have := SB.out; omega) (by simp only [setSize]; exact Nat.le_refl _)
    refine Own.mono (lo := W0.heap.size) (hi := w1.heap.size) ?_ (by have := HZ.out; omega) (Nat.le_refl _)
    repeat (refine Own.set ?_ (.inl (by have := HZ.out; omega)) _ _)
    exact O1.out
  · repeat (refine Below.setCell ?_ (by simp; try omega) _)
    exact T1.out
set_option maxRecDepth 100000 in
set_option maxHeartbeats 4000000 in
theorem stageAnswer_3 (t : Stg) (A : Option Addr) (n c : Nat) (w : World) (h : ∃ bs, Hd w (rowsD t.ns) (.slice A n c) bs) (kd : t.kd = 3) (h0 : gf t.sd t.ns = 0) (hx : t.cs = [] ∧ t.rs = []) :
    Calls Tryz.prog 65 #[.iface 166 (.agg #[.int .i64 t.sd, .slice A n c])] w (StAns w t) := by
  obtain ⟨bs, h⟩ := h
  have hl := h.rows.1
  have hm := gf_zero h0
  have hn : n ≤ 64 := by
    have a := side_cases hm.1
    have b := hm.2.1
    rcases a with e | e | e <;> rw [e] at b <;> omega
  have H := Lib.hid h
  have HR : Hid (∀ k, k < n → lf (rw_ t.ns k) = 0) := fun k hk => hm.2.2 k (by omega)
  have HX := Lib.hid hx
  have HKD := Lib.hid kd
  obtain ⟨sd, hsd⟩ : ∃ sd, sd = t.sd := ⟨_, rfl⟩
  rw [← hsd]
  have HSD := Lib.hid hsd
  have t1 := fun W => ta_31 sd A n c W
  have t2 := fun W => ta_32 sd A n c W
  have t3 := fun W => ta_33 sd A n c W
  obtain ⟨W0, hW0⟩ : ∃ W0, W0 = ((w.alloc (.cells #[.int .i64 0, .slice none 0 0, .slice none 0 0, .int .i64 0, .slice none 0 0] 98)).alloc (.cells #[.int .i64 3, .slice none 0 0, .slice none 0 0, .int .i64 0, .slice none 0 0] 98)).alloc (.cells #[.int .i64 sd, .slice A n c] 166) := ⟨_, rfl⟩
  clear h hm hl h0 kd hx hsd
  go_enter Tryz.func65, Tryz.ntmps65
  go_wp2_with fail
  try rw [← hW0]
  have R0 : Hid (Bx W0 w.heap.size [.int .i64 0, .slice none 0 0, .slice none 0 0, .int .i64 0, .slice none 0 0]) := by show Bx _ _ _; rw [hW0]; exact ((Bx.new _ _ _ rfl).alloc _).alloc _
  have M0 : Hid (Bx W0 (w.heap.size + 1) [.int .i64 3, .slice none 0 0, .slice none 0 0, .int .i64 0, .slice none 0 0]) := by show Bx _ _ _; rw [hW0]; exact (Bx.new _ _ _ (by simp)).alloc _
  have G0 : Hid (Bx W0 (w.heap.size + 1 + 1) [.int .i64 sd, .slice A n c]) := by show Bx _ _ _; rw [hW0]; exact Bx.new _ _ _ (by simp)
  have T0 : Hid (Below w.heap.size w W0) := by show Below _ _ _; rw [hW0]; exact blThenAlloc (blThenAlloc (blAlloc _ _) _) _
  have hsz : W0.heap.size = w.heap.size + 3 := by rw [hW0]; simp
  have HZ := Lib.hid hsz
  have g0 := G0.out.c 0 rfl
  have g1 := G0.out.c 1 rfl
  have CC : Hid (∀ W, Below W0.heap.size W0 W → Calls Tryz.prog 110 #[.slice A n c] W (RwAns W n t.ns)) := fun W hW => copyLists_any A n c t.ns bs W ((H.out.bel T0.out).bel hW) (by omega) (fun k hk => by have := (lf_zero (HR.out k hk)).1; omega)
  clear hW0 t1 t2 t3 hsz H HR
  go_region_held3 (fun w' => w'.cell? ⟨w.heap.size + 1 + 1, 0, none⟩ = some (.int .i64 sd) ∧ w'.cell? ⟨w.heap.size + 1 + 1, 1, none⟩ = some (.slice A n c)) (first | (refine ⟨?_, ?_⟩ <;> ((with_reducible refine cell_s ?_ (by omega)); (with_reducible refine cell_s ?_ (by omega)); (first | (with_reducible exact cell_later T1.out g0) | (with_reducible exact cell_later T1.out g1)))) | (with_reducible exact ⟨cell_later T1.out g0, cell_later T1.out g1⟩) | (with_reducible exact ⟨cell_later (Below.refl _ _).drew g0, cell_later (Below.refl _ _).drew g1⟩)) (first | (go_at_call 110; (with_reducible refine (CC.out _ (Below.refl _ _).drew).mono ?_); rintro e w1 ⟨B, d, rfl, ho, hb⟩; have T1 := Lib.hid (show Below W0.heap.size W0 w1 from blThen (Below.refl _ _).drew hb); have O1 := Lib.hid ho; have SB := Lib.hid hb.size; have R1 := Lib.hid (R0.out.bel T1.out); have M1 := Lib.hid (M0.out.bel T1.out); have m3 := M1.out.c 3 rfl; have m4 := M1.out.c 4 rfl; have p3 := M1.out.f 3; have p4 := M1.out.f 4; have ml := M1.out.lt; clear ho))
  have r0 := R1.out.c 0 rfl
  have q0 := R1.out.f 0
  have m0 := M1.out.c 0 rfl
  have r1 := R1.out.c 1 rfl
  have q1 := R1.out.f 1
  have m1 := M1.out.c 1 rfl
  have r2 := R1.out.c 2 rfl
  have q2 := R1.out.f 2
  have m2 := M1.out.c 2 rfl
  have r3 := R1.out.c 3 rfl
  have q3 := R1.out.f 3
  have r4 := R1.out.c 4 rfl
  have q4 := R1.out.f 4
  have rl := R1.out.lt
  go_wp2_with fail
  have KK := ((((((R1.out.oth (c := w.heap.size + 1) (by omega) 3 (.int .i64 sd)).oth (c := w.heap.size + 1) (by omega) 4 (.slice B n d)).set 0 (.int .i64 3)).set 1 (.slice none 0 0)).set 2 (.slice none 0 0)).set 3 (.int .i64 sd)).set 4 (.slice B n d)
  have k0 := KK.c 0 rfl
  have k1 := KK.c 1 rfl
  have k2 := KK.c 2 rfl
  have k3 := KK.c 3 rfl
  have k4 := KK.c 4 rfl
  clear KK
  refine bodyPost_ret (v := .agg #[.int .i64 3, .slice none 0 0, .slice none 0 0, .int .i64 sd, .slice B n d]) (by simp [results, Tryz.results65, go_sem, k0, k1, k2, k3, k4]) rfl ⟨none, 0, 0, none, 0, 0, B, n, d, by rw [HKD.out, HSD.out], ?_, ?_⟩
  · refine OwnX.of3 (p := w.heap.size) (q := w.heap.size) (by rw [HX.out.1]; exact own_rs0 _ _ _ _ _ (Nat.zero_le _)) (by rw [HX.out.2]; exact own_rs0 _ _ _ _ _ (Nat.zero_le _)) ?_ (Nat.le_refl _) (Nat.le_refl _) (by simp only [setSize]; have := HZ.out; have := T1.out.size; omega)
    refine Own.mono (lo := W0.heap.size) (hi := w1.heap.size) ?_ (by have := HZ.out; omega) (by simp only [setSize]; exact Nat.le_refl _)
    repeat (refine Own.set ?_ (.inl (by have := HZ.out; omega)) _ _)
    exact O1.out
  · repeat (refine Below.setCell ?_ (by simp; try omega) _)
    exact blThen T0.out T1.out
set_option maxRecDepth 100000 in
set_option maxHeartbeats 4000000 in
theorem stageAnswer_1 (t : Stg) (A : Option Addr) (n c : Nat) (w : World) (h : ∃ bs, Hd w (rowsD t.cs) (.slice A n c) bs) (kd : t.kd = 1) (h0 : crF t.cs = 0) (hx : t.rs = [] ∧ t.sd = 0 ∧ t.ns = []) :
    Calls Tryz.prog 65 #[.iface 161 (.agg #[.slice A n c])] w (StAns w t) := by
  obtain ⟨bs, h⟩ := h
  have hl := h.rows.1
  have hm := crF_fine h0
  obtain rfl : 3 = n := by omega
  have H := Lib.hid h
  have HL := Lib.hid hl
  have HR : Hid (∀ k, k < 3 → CFine (rw_ t.cs k)) := fun k hk => cfine (hm.2 k hk)
  have HX := Lib.hid hx
  have HKD := Lib.hid kd
  have t1 := fun W => ta_11 A 3 c W
  obtain ⟨W0, hW0⟩ : ∃ W0, W0 = ((w.alloc (.cells #[.int .i64 0, .slice none 0 0, .slice none 0 0, .int .i64 0, .slice none 0 0] 98)).alloc (.cells #[.int .i64 1, .slice none 0 0, .slice none 0 0, .int .i64 0, .slice none 0 0] 98)).alloc (.cells #[.slice A 3 c] 161) := ⟨_, rfl⟩
  have R0 : Hid (Bx W0 w.heap.size [.int .i64 0, .slice none 0 0, .slice none 0 0, .int .i64 0, .slice none 0 0]) := by show Bx _ _ _; rw [hW0]; exact ((Bx.new _ _ _ rfl).alloc _).alloc _
  have M0 : Hid (Bx W0 (w.heap.size + 1) [.int .i64 1, .slice none 0 0, .slice none 0 0, .int .i64 0, .slice none 0 0]) := by show Bx _ _ _; rw [hW0]; exact (Bx.new _ _ _ (by simp)).alloc _
  have T0 : Hid (Below w.heap.size w W0) := by show Below _ _ _; rw [hW0]; exact blThenAlloc (blThenAlloc (blAlloc _ _) _) _
  have HZ : Hid (W0.heap.size = w.heap.size + 3) := by show _ = _; rw [hW0]; simp
  have HW := Lib.hid hW0
  clear h hm hl h0 kd hx hW0
  go_enter Tryz.func65, Tryz.ntmps65
  go_wp2_with fail
  rw [← HW.out]
  clear HW t1
  go_loopw [17] (fun i wr => ∃ (k : Nat) (v : Value), k ≤ 3 ∧ i = .int .i64 k ∧ Hid (OwnE 136 1 wr W0.heap.size v k ((t.cs.take k).map fun r => [Dat.ints .i64 r]) wr.heap.size) ∧ Hid (Bx wr (w.heap.size + 1) [.int .i64 1, v, .slice none 0 0, .int .i64 0, .slice none 0 0]) ∧ Hid (Bx wr w.heap.size [.int .i64 0, .slice none 0 0, .slice none 0 0, .int .i64 0, .slice none 0 0]) ∧ Hid (Below w.heap.size w wr) ∧ W0.heap.size ≤ wr.heap.size ∧ Hid (Hd wr (rowsD t.cs) (.slice A 3 c) bs)) (fun i _ => 3 - (intOf i).toNat)
  case atStart => exact ⟨0, .slice none 0 0, by omega, rfl, by rw [List.take_zero]; exact OwnE.nil _ _ _ _ _, M0.out, R0.out, T0.out, Nat.le_refl _, H.out.bel T0.out⟩
  case round =>
    obtain ⟨k, v, hk, rfl, HO, HM, HB, HT, hsz, HH⟩ := hrel
    by_cases hlt : k < 3
    · obtain ⟨b, o, B1, L1, C1, g1, rfl, x1, x3, -⟩ := HH.out.row hlt
      have hfi := HR.out k hlt
      have hlo := hfi.lo
      have hhi := hfi.hi
      have hL : (rw_ t.cs k).length = L1 := x3.rd.1
      obtain ⟨p, q, rfl, -⟩ := x3.rd.2 (by omega)
      have HRD := Lib.hid x3.rd
      have hL1 : 0 < L1 ∧ L1 ≤ 17 := by omega
      have HTK : Hid (t.cs.take (k + 1) = t.cs.take k ++ [rw_ t.cs k]) := take_row (by rw [HL.out]; exact hlt)
      obtain ⟨A9, c9, rfl⟩ := HO.out.form
      have m1 := HM.out.c 1 rfl
      have p1 := HM.out.f 1
      have ml := HM.out.lt
      obtain ⟨WR, hWR⟩ : ∃ WR, WR = wr.alloc (.cells #[.slice (some ⟨p, q, none⟩) L1 C1] 136) := ⟨_, rfl⟩
      have TR : Hid (Below wr.heap.size wr WR) := by show Below _ _ _; rw [hWR]; exact blAlloc _ _
      have c0 : WR.cell? ⟨wr.heap.size, 0, none⟩ = some (.slice (some ⟨p, q, none⟩) L1 C1) := by rw [hWR]; exact (Bx.new wr #[.slice (some ⟨p, q, none⟩) L1 C1] 136 rfl).c 0 rfl
      have sR : WR.heap.size = wr.heap.size + 1 := by rw [hWR]; simp
      have HSR := Lib.hid sR
      have HWR := Lib.hid hWR
      have MR_ := Lib.hid (HM.out.bel TR.out)
      have BR_ := Lib.hid (HB.out.bel TR.out)
      have OR_ := Lib.hid (HO.out.below TR.out)
      have DR_ := Lib.hid (HH.out.bel TR.out)
      have CC : Hid (∀ W, Below WR.heap.size WR W → Calls Tryz.prog 109 #[.slice (some ⟨p, q, none⟩) L1 C1] W (SlAns W L1 (rw_ t.cs k))) := fun W hW => Clone_any p q L1 C1 (rw_ t.cs k) W ((HRD.out.below TR.out).below hW) hL1.1 (by omega)
      have n1 := MR_.out.c 1 rfl
      clear x3 hfi hlo hhi hL sR hWR HRD
      go_wp2_with fail
      rw [← HWR.out]
      clear HWR x1 m1 p1
      go_region_law (first
        | (refine step_append_owne ety_curve _ rfl _ _ rfl W0.heap.size (.slice A9 k c9) k _ wr.heap.size rfl (O2.out.below (blAlloc _ _)) [Dat.ints .i64 (rw_ t.cs k)] (fun _ => .slice G L1 cq) _ _ ((OwnX.one OW2.out).below (blAlloc _ _)) w2.heap.size 1 rfl AE.out (fun _ _ => rfl) (by omega) (by have := HSR.out; simp only [World.size_drew]; omega) (by simp) hsz (by have := HSR.out; have := B2.out.size; simp; omega) ?_; intro A' c' w4 ho4 hb4; have M4 := Lib.hid ((M2.out.alloc _).low hb4 (by have := HZ.out; omega)); have B4 := Lib.hid ((BB2.out.alloc _).low hb4 (by have := HZ.out; omega)); have m41 := M4.out.c 1 rfl; have p41 := M4.out.f 1; have ml4 := M4.out.lt)
        | (go_simp; go_at_call 109; (with_reducible refine (CC.out _ (by first | exact Below.refl _ _ | exact (Below.refl _ _).drew | exact below_drewN _ _ _)).mono ?_); rintro e w2 ⟨G, cq, rfl, how, hb2⟩; have B2 := Lib.hid (blThen (by first | exact Below.refl _ _ | exact (Below.refl _ _).drew | exact below_drewN _ _ _) hb2 : Below WR.heap.size WR w2); have OW2 := Lib.hid how; have O2 := Lib.hid (OR_.out.below B2.out); have M2 := Lib.hid (MR_.out.bel B2.out); have BB2 := Lib.hid (BR_.out.bel B2.out); have D2 := Lib.hid (DR_.out.bel B2.out); have AE : Hid (∀ j, j < 1 → (w2.alloc (.cells #[.slice G L1 cq] 136)).cell? ⟨w2.heap.size, j, none⟩ = some (.slice G L1 cq)) := (fun j hj => by rw [show j = 0 from (by omega)]; exact (Bx.new w2 #[.slice G L1 cq] 136 rfl).c 0 rfl); have n12 := M2.out.c 1 rfl; have nl2 := M2.out.lt; have c02 := cell_later B2.out c0; have cl2 := cell_lt c02; clear how hb2))
      all_goals
        have e1 : ((t.cs.take (k + 1)).map fun r => [Dat.ints .i64 r]) = ((t.cs.take k).map fun r => [Dat.ints .i64 r]) ++ [[Dat.ints .i64 (rw_ t.cs k)]] := by rw [HTK.out, List.map_append]; rfl
        have T4 := Lib.hid (show Below w.heap.size w w4 from (blThen HT.out (blThen TR.out (blThenAlloc B2.out _))).trans (hb4.mono (by have := HZ.out; omega)))
        have HO4 := Lib.hid ho4
        have HE1 := Lib.hid e1
        have HSW := Lib.hid (show W0.heap.size ≤ w4.heap.size from by have a1 := hb4.size; have a2 := B2.out.size; have a3 := HSR.out; simp only [World.size_alloc] at a1; omega)
        clear ho4 hb4 e1
        try go_wp2_with fail
        go_roundw
        case rel =>
          refine ⟨k + 1, .slice A' (k + 1) c', by omega, by go_num, ?_, M4.out.set 1 _, B4.out.oth (c := w.heap.size + 1) (by omega) _ _, ?_, ?_, ?_⟩
          · show OwnE _ _ _ _ _ _ _ _
            rw [HE1.out]
            simp only [setSize]
            exact HO4.out.set (.inl (by have := HZ.out; omega)) _ _
          · exact T4.out.setCell (by simp) _
          · simp only [setSize]; exact HSW.out
          · exact H.out.bel (T4.out.setCell (by simp) _)
        case measure => simp [intOf]; omega
    · obtain rfl : k = 3 := by omega
      obtain ⟨B, d, rfl⟩ := HO.out.form
      have HF := Lib.hid (show Own wr (rowsD t.cs) (.slice B 3 d) W0.heap.size wr.heap.size from by
        have := HO.out.own (by omega)
        rw [List.take_of_length_le (by rw [HL.out]; exact Nat.le_refl _)] at this
        exact this)
      have r0 := HB.out.c 0 rfl
      have q0 := HB.out.f 0
      have m0 := HM.out.c 0 rfl
      have r1 := HB.out.c 1 rfl
      have q1 := HB.out.f 1
      have m1 := HM.out.c 1 rfl
      have r2 := HB.out.c 2 rfl
      have q2 := HB.out.f 2
      have m2 := HM.out.c 2 rfl
      have r3 := HB.out.c 3 rfl
      have q3 := HB.out.f 3
      have m3 := HM.out.c 3 rfl
      have r4 := HB.out.c 4 rfl
      have q4 := HB.out.f 4
      have m4 := HM.out.c 4 rfl
      have rl := HB.out.lt
      have ml := HM.out.lt
      clear HO HM
      go_wp2_with fail
      have KK := ((((HB.out.set 0 (.int .i64 1)).set 1 (.slice B 3 d)).set 2 (.slice none 0 0)).set 3 (.int .i64 0)).set 4 (.slice none 0 0)
      have k0 := KK.c 0 rfl
      have k1 := KK.c 1 rfl
      have k2 := KK.c 2 rfl
      have k3 := KK.c 3 rfl
      have k4 := KK.c 4 rfl
      clear KK
      refine bodyPost_ret (v := .agg #[.int .i64 1, .slice B 3 d, .slice none 0 0, .int .i64 0, .slice none 0 0]) (by simp [results, Tryz.results65, go_sem, k0, k1, k2, k3, k4]) rfl ⟨B, 3, d, none, 0, 0, none, 0, 0, by rw [HKD.out, HX.out.2.1], ?_, ?_⟩
      · refine OwnX.of3 (p := wr.heap.size) (q := wr.heap.size) ?_ (by rw [HX.out.1]; exact own_rs0 _ _ _ _ _ (Nat.zero_le _)) (by rw [HX.out.2.2]; exact own_rs0 _ _ _ _ _ (Nat.zero_le _)) (by have := HZ.out; omega) (Nat.le_refl _) (by simp only [setSize]; exact Nat.le_refl _)
        refine Own.mono (lo := W0.heap.size) (hi := wr.heap.size) ?_ (by have := HZ.out; omega) (Nat.le_refl _)
        repeat (refine Own.set ?_ (.inl (by have := HZ.out; omega)) _ _)
        exact HF.out
      · repeat (refine Below.setCell ?_ (by simp; try omega) _)
        exact HT.out
/-- a stage without fault, handed back. -/
theorem stF_has {t : Stg} (h : stF t = true) : (t.kd = 1 → t.rs = [] ∧ t.sd = 0 ∧ t.ns = []) ∧ (t.kd = 2 → t.cs = [] ∧ t.sd = 0 ∧ t.ns = []) ∧ (t.kd = 3 → t.cs = [] ∧ t.rs = []) := by
  unfold stF at h
  refine ⟨fun k => ?_, fun k => ?_, fun k => ?_⟩
  · rw [if_pos k] at h
    have := of_decide_eq_true h
    exact ⟨List.eq_nil_of_length_eq_zero this.1, this.2.1, List.eq_nil_of_length_eq_zero this.2.2⟩
  · rw [if_neg (by omega), if_pos k] at h
    have := of_decide_eq_true h
    exact ⟨List.eq_nil_of_length_eq_zero this.1, this.2.1, List.eq_nil_of_length_eq_zero this.2.2⟩
  · rw [if_neg (by omega), if_neg (by omega), if_pos k] at h
    have := of_decide_eq_true h
    exact ⟨List.eq_nil_of_length_eq_zero this.1, List.eq_nil_of_length_eq_zero this.2⟩
theorem stageAnswer_any (t : Stg) (v : Value) (w : World) (h : IsStg w t v) (h0 : sgf t = 0) : Calls Tryz.prog 65 #[v] w (StAns w t) := by
  obtain ⟨hsf, A1, n1, c1, A2, n2, c2, A3, n3, c3, V, XS⟩ := h
  have hx := stF_has hsf
  obtain ⟨-, ⟨kd, hff⟩ | ⟨kd, hff⟩ | ⟨kd, hff⟩⟩ := sgf_zero h0
  · rw [V.one kd]; exact stageAnswer_1 t A1 n1 c1 w XS.a kd hff (hx.1 kd)
  · rw [V.two kd]; exact stageAnswer_2 t A2 n2 c2 w XS.b kd hff (hx.2.1 kd)
  · rw [V.thr kd]; exact stageAnswer_3 t A3 n3 c3 w XS.d kd hff (hx.2.2 kd)
end Go.Proofs.YtdjifaaofefpoaaGreat
