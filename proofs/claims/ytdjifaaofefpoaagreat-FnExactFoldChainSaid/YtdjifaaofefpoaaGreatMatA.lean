/-
  A matrix as an answer: slices.Clone over int64; three rows in a list; the program's matrixAnswer.
-/
import Derived.Test.YtdjifaaofefpoaaGreatMatPA
import Derived.Test.YtdjifaaofefpoaaGreatGrdRA
namespace Go.Proofs.YtdjifaaofefpoaaGreat
open Go.RowKit
set_option linter.unusedVariables false
set_option linter.unusedSimpArgs false

/-- three lists of one's own, in a list of one's own. -/
theorem rows3 {W : World} {b lo l0 h0 l1 h1 l2 h2 c0 c1 c2 n0 n1 n2 : Nat} {A0 A1 A2 : Option Addr} {xs0 xs1 xs2 : List Int} (hB : Bx W b [.slice A0 n0 c0, .slice A1 n1 c1, .slice A2 n2 c2])
    (k0 : Own W (.ints .i64 xs0) (.slice A0 n0 c0) l0 h0) (k1 : Own W (.ints .i64 xs1) (.slice A1 n1 c1) l1 h1) (k2 : Own W (.ints .i64 xs2) (.slice A2 n2 c2) l2 h2) (hb : lo ≤ b) (hl : lo ≤ l0) (e0 : b < l0 ∨ h2 ≤ b) (e1 : h0 ≤ l1) (e2 : h1 ≤ l2) (e3 : h2 ≤ W.heap.size) (f0 : l0 ≤ h0) (f1 : l1 ≤ h1) (f2 : l2 ≤ h2) :
    Own W (rowsD [xs0, xs1, xs2]) (.slice (some ⟨b, 0, none⟩) 3 3) lo W.heap.size := by
  obtain ⟨bs0, d0, nd0, in0⟩ := k0
  obtain ⟨bs1, d1, nd1, in1⟩ := k1
  obtain ⟨bs2, d2, nd2, in2⟩ := k2
  have hd : Hd W (rowsD [xs0, xs1, xs2]) (.slice (some ⟨b, 0, none⟩) 3 3) (b :: (List.range 3).flatMap fun i => (List.range 1).flatMap ((fun i _ => if i = 0 then bs0 else if i = 1 then bs1 else bs2) i)) := by
    refine .sl 1 b 0 3 3 _ (fun i _ => if i = 0 then .slice A0 n0 c0 else if i = 1 then .slice A1 n1 c1 else .slice A2 n2 c2) (fun i _ => if i = 0 then bs0 else if i = 1 then bs1 else bs2) (by omega) (by omega) (by simp) (fun i hi j hj => ?_) (fun i hi j hj => ?_) (Nat.le_refl _) (by unfold maxLen; omega)
    · obtain rfl : j = 0 := by omega
      match i, hi with
      | 0, _ => exact hB.c 0 rfl
      | 1, _ => exact hB.c 1 rfl
      | 2, _ => exact hB.c 2 rfl
    · obtain rfl : j = 0 := by omega
      match i, hi with
      | 0, _ => exact d0
      | 1, _ => exact d1
      | 2, _ => exact d2
  have e : ((List.range 3).flatMap fun i => (List.range 1).flatMap ((fun i _ => if i = 0 then bs0 else if i = 1 then bs1 else bs2) i)) = bs0 ++ (bs1 ++ bs2) := by
    simp [List.range_succ]
  rw [e] at hd
  refine ⟨_, hd, ?_, ?_⟩
  · rw [List.nodup_cons, List.nodup_append, List.nodup_append]
    refine ⟨?_, nd0, ⟨nd1, nd2, ?_⟩, ?_⟩
    · intro hm
      simp only [List.mem_append] at hm
      rcases hm with hm | hm | hm
      · have := (in0 b hm); omega
      · have := (in1 b hm); omega
      · have := (in2 b hm); omega
    · intro x hx y hy e
      subst e
      have := (in1 x hx).2.1; have := (in2 x hy).1; omega
    · intro x hx y hy e
      subst e
      simp only [List.mem_append] at hy
      have := (in0 x hx).2.1
      rcases hy with hy | hy
      · have := (in1 x hy).1; omega
      · have := (in2 x hy).1; omega
  · intro x hx
    simp only [List.mem_cons, List.mem_append] at hx
    rcases hx with rfl | hx | hx | hx
    · exact ⟨hb, hB.lt, hB.th⟩
    · obtain ⟨p, q, r⟩ := in0 x hx; exact ⟨by omega, by omega, r⟩
    · obtain ⟨p, q, r⟩ := in1 x hx; exact ⟨by omega, by omega, r⟩
    · obtain ⟨p, q, r⟩ := in2 x hx; exact ⟨by omega, by omega, r⟩
theorem Own.setE {w w' : World} {d : Dat} {v : Value} {lo hi b i : Nat} {x : Value} (h : Own w d v lo hi) (e : w' = w.setCell ⟨b, i, none⟩ x) (hb : b < lo ∨ hi ≤ b) : Own w' d v lo hi := by rw [e]; exact h.set hb i x
set_option maxRecDepth 100000 in
set_option maxHeartbeats 1000000 in
theorem Clone_any (b o n c : Nat) (xs : List Int) (w : World) (h : Rd .i64 w (some ⟨b, o, none⟩) n xs) (hn : 0 < n) (hsm : n ≤ 1000000) :
    Calls Tryz.prog 109 #[.slice (some ⟨b, o, none⟩) n c] w (SlAns w n xs) := by
  have H := Lib.hid h
  clear h
  have hnil : ∀ W, (binOp .eql 25 (.slice (some ⟨b, o, none⟩) n c) (.slice none 0 0)).run Tryz.prog W = .ok (.bool false) W := fun W => by kernel_rfl
  go_enter Tryz.func109, Tryz.ntmps109
  go_wp2_with (at_builtin; refine wpList_append_list _ rfl _ _ rfl w.heap.size _ 0 [] rfl (OwnI.empty w _ (Nat.le_refl _)) ⟨b, o, none⟩ n c xs rfl H.out.1 (fun j hj => by
      obtain ⟨b', o', e, hx⟩ := (H.out.below (blAlloc w (.cells #[] 2))).2 hn
      injection e with e; injection e with e1 e2; subst e1; subst e2
      rw [add_at]; exact hx j hj) (by omega) (by simp) ?_; intro v3 w3 ho3 hg3 hgb)
  obtain ⟨A3, c3, rfl⟩ := ho3.form
  have HO := Lib.hid ho3
  have T := Lib.hid ((blAlloc w _).trans (gb_low' hg3 hgb (Nat.le_refl _) (by simp)))
  clear ho3 hg3 hgb
  go_wp2_with fail
  go_ret
  exact ⟨A3, c3, by simp, by have := HO.out.own; simpa using this, T.out⟩
theorem make3r (W : World) : (Instr.makeSlice 85 (.int .i64 3) (.int .i64 3)).run Tryz.prog W = .ok (.slice (some ⟨W.heap.size, 0, none⟩) 3 3) (W.alloc (.cells #[.slice none 0 0, .slice none 0 0, .slice none 0 0] 25)) := by
  have h := run_make_many (P := Tryz.prog) 85 25 (.slice none 0 0) 1 24 Tryz.underlying85 info_rows .i64 .i64 3 (by omega) (by omega) W
  have e : madeCells (Value.slice none 0 0).cells (3 * 1) = #[.slice none 0 0, .slice none 0 0, .slice none 0 0] := by first | kernel_rfl | (simp [madeCells, Value.cells]; rfl)
  rw [e] at h
  exact h
/-- all nine are cells. -/
def all9 (q : Nat → Int) : Bool := all3 (fun i => all3 (fun k => cel (q (3 * i + k))))
theorem all9_iff {q : Nat → Int} : all9 q = true ↔ ∀ t, t < 9 → cel (q t) = true := by
  unfold all9
  rw [all3_iff]
  constructor
  · intro h t ht
    have := all3_iff.1 (h (t / 3) (by omega)) (t % 3) (by omega)
    rwa [show 3 * (t / 3) + t % 3 = t by omega] at this
  · intro h i hi
    rw [all3_iff]
    exact fun k hk => h _ (by omega)
def maC (q : Nat → Int) : Int := if all9 q = true then 0 else 7
def maR (q : Nat → Int) : Rws := if all9 q = true then [[q 0, q 1, q 2], [q 3, q 4, q 5], [q 6, q 7, q 8]] else []
theorem ma_y {q : Nat → Int} (h : ∀ t, t < 9 → cel (q t) = true) : maC q = 0 ∧ maR q = [[q 0, q 1, q 2], [q 3, q 4, q 5], [q 6, q 7, q 8]] := by
  have e : all9 q = true := all9_iff.2 h
  exact ⟨by unfold maC; rw [if_pos e], by unfold maR; rw [if_pos e]⟩
theorem ma_n {q : Nat → Int} {t : Nat} (ht : t < 9) (h : cel (q t) = false) : maC q = 7 ∧ maR q = [] := by
  have e : ¬ all9 q = true := fun e => by have := all9_iff.1 e t ht; rw [h] at this; cases this
  exact ⟨by unfold maC; rw [if_neg e], by unfold maR; rw [if_neg e]⟩
theorem maR_small (q : Nat → Int) : RsSmall (maR q) := by
  unfold maR
  split
  · refine ⟨by simp, fun i hi => ?_⟩
    match i, hi with
    | 0, _ => simp [rw_]
    | 1, _ => simp [rw_]
    | 2, _ => simp [rw_]
  · exact ⟨by simp, fun i hi => by simp at hi⟩
theorem maR_len (q : Nat → Int) : (maR q).length ≤ 3 := by unfold maR; split <;> simp
def MAns (w : World) (code : Int) (rs : Rws) (e : Ending) (w' : World) : Prop :=
  ∃ G n c, e = .returned (.agg #[.int .i64 code, .slice G n c]) ∧ Own w' (rowsD rs) (.slice G n c) w.heap.size w'.heap.size ∧ Below w.heap.size w w'
theorem MAns.bad {w w' : World} {code c : Int} {rs : Rws} (h : code = c ∧ rs = []) (hb : Below w.heap.size w w') : MAns w code rs (.returned (.agg #[.int .i64 c, .slice none 0 0])) w' :=
  ⟨none, 0, 0, by rw [h.1], by rw [h.2]; exact Own.snil _ _ _ _ _ _ (Nat.zero_le _), hb⟩
theorem rd3 {W : World} {b : Nat} {a0 a1 a2 : Int} (h : Bx W b [.int .i64 a0, .int .i64 a1, .int .i64 a2]) : Rd .i64 W (some ⟨b, 0, none⟩) 3 [a0, a1, a2] :=
  ⟨rfl, fun _ => ⟨b, 0, rfl, fun i hi => by
    match i, hi with
    | 0, _ => exact h.c 0 rfl
    | 1, _ => exact h.c 1 rfl
    | 2, _ => exact h.c 2 rfl⟩⟩
theorem own3b {W : World} {b : Nat} {a0 a1 a2 : Int} (h : Bx W b [.int .i64 a0, .int .i64 a1, .int .i64 a2]) : Own W (.ints .i64 [a0, a1, a2]) (.slice (some ⟨b, 0, none⟩) 3 3) b (b + 1) := by
  obtain ⟨bs, k1, k2, k3⟩ := Hd.of_rd (c := 3) (rd3 h) (Nat.le_refl _) (by unfold maxLen; omega)
  refine ⟨bs, k1, k2, fun x hx => ?_⟩
  obtain ⟨_, o, e⟩ := k3 x hx
  obtain rfl : b = x := by injection e with e; injection e
  exact ⟨Nat.le_refl _, by omega, h.th⟩

set_option maxRecDepth 100000 in
set_option maxHeartbeats 8000000 in
theorem matrixAnswer_any (q : Nat → Int) (w : World) :
    Calls Tryz.prog 181 #[.agg #[.int .i64 (q 0), .int .i64 (q 1), .int .i64 (q 2), .int .i64 (q 3), .int .i64 (q 4), .int .i64 (q 5), .int .i64 (q 6), .int .i64 (q 7), .int .i64 (q 8)]] w (MAns w (maC q) (maR q)) := by
  obtain ⟨W0, hW0⟩ : ∃ W0, W0 = ((w.alloc (.cells #[.int .i64 (q 0), .int .i64 (q 1), .int .i64 (q 2), .int .i64 (q 3), .int .i64 (q 4), .int .i64 (q 5), .int .i64 (q 6), .int .i64 (q 7), .int .i64 (q 8)] 224)).alloc (.cells #[.int .i64 0, .slice none 0 0] 193)).alloc (.cells #[.slice none 0 0, .slice none 0 0, .slice none 0 0] 25) := ⟨_, rfl⟩
  have R0 : Hid (Bx W0 (w.heap.size + 1) [.int .i64 0, .slice none 0 0]) := by show Bx _ _ _; rw [hW0]; exact (Bx.new _ _ _ (by simp)).alloc _
  have L0 : Hid (Bx W0 (w.heap.size + 1 + 1) [.slice none 0 0, .slice none 0 0, .slice none 0 0]) := by show Bx _ _ _; rw [hW0]; exact Bx.new _ _ _ (by simp)
  have T0 : Hid (Below w.heap.size w W0) := by show Below _ _ _; rw [hW0]; exact blThenAlloc (blThenAlloc (blAlloc _ _) _) _
  have HZ : Hid (W0.heap.size = w.heap.size + 3) := by show _ = _; rw [hW0]; simp
  have HW := Lib.hid hW0
  clear hW0
  have hmk := fun W => make3r W
  go_enter Tryz.func181, Tryz.ntmps181
  go_wp2_with fail
  clear hmk
  rw [← HW.out]
  refine wp_loop_rounds 4 ?_
  -- row 0
  rw [rounds_succ]
  have r0 := R0.out.c 0 rfl
  have r1 := R0.out.c 1 rfl
  have z0 := R0.out.f 0
  have z1 := R0.out.f 1
  have m1 := R0.out.lt
  have m2 := L0.out.lt
  have ii := fun W => ix9_0 q W
  go_wp2_with fail
  clear ii
  refine wp_loop_rounds 4 ?_
  rw [rounds_succ]
  have jj := fun W => ix3_0 (q 0) (q 1) (q 2) W
  have CI0 : Hid (∀ v W, cel (q 0) = v → Calls Tryz.prog 199 #[.int .i64 (q 0)] W fun e w' => e = .returned (.bool v) ∧ W = w') := fun v W h => h ▸ isCell_any (q 0) W
  rcases Bool.eq_false_or_eq_true (cel (q 0)) with hc0 | hc0
  rotate_left
  · have HA := Lib.hid (ma_n (by omega) hc0)
    have k0 := (((R0.out.set 0 (.int .i64 7)).set 1 (.slice none 0 0)).alloc (.cells #[.int .i64 (q 0), .int .i64 (q 1), .int .i64 (q 2)] 58)).c 0 rfl
    have k1 := (((R0.out.set 0 (.int .i64 7)).set 1 (.slice none 0 0)).alloc (.cells #[.int .i64 (q 0), .int .i64 (q 1), .int .i64 (q 2)] 58)).c 1 rfl
    have HC := Lib.hid hc0
    clear hc0
    go_wp2_with (go_at_call 199; refine (CI0.out false _ HC.out).mono ?_; rintro e w' ⟨rfl, rfl⟩)
    refine bodyPost_ret (v := .agg #[.int .i64 7, .slice none 0 0]) (by simp [results, Tryz.results181, go_sem, k0, k1]) rfl (MAns.bad HA.out ?_)
    refine blThenAlloc ?_ _
    repeat (refine Below.setCell ?_ (by simp) _)
    exact T0.out
  have HC0 := Lib.hid hc0
  clear hc0
  go_wp2_with (go_at_call 199; refine (CI0.out true _ HC0.out).mono ?_; rintro e w' ⟨rfl, rfl⟩)
  clear jj CI0
  rw [rounds_succ]
  have jj := fun W => ix3_1 (q 0) (q 1) (q 2) W
  have CI1 : Hid (∀ v W, cel (q 1) = v → Calls Tryz.prog 199 #[.int .i64 (q 1)] W fun e w' => e = .returned (.bool v) ∧ W = w') := fun v W h => h ▸ isCell_any (q 1) W
  rcases Bool.eq_false_or_eq_true (cel (q 1)) with hc1 | hc1
  rotate_left
  · have HA := Lib.hid (ma_n (by omega) hc1)
    have k0 := (((R0.out.set 0 (.int .i64 7)).set 1 (.slice none 0 0)).alloc (.cells #[.int .i64 (q 0), .int .i64 (q 1), .int .i64 (q 2)] 58)).c 0 rfl
    have k1 := (((R0.out.set 0 (.int .i64 7)).set 1 (.slice none 0 0)).alloc (.cells #[.int .i64 (q 0), .int .i64 (q 1), .int .i64 (q 2)] 58)).c 1 rfl
    have HC := Lib.hid hc1
    clear hc1
    go_wp2_with (go_at_call 199; refine (CI1.out false _ HC.out).mono ?_; rintro e w' ⟨rfl, rfl⟩)
    refine bodyPost_ret (v := .agg #[.int .i64 7, .slice none 0 0]) (by simp [results, Tryz.results181, go_sem, k0, k1]) rfl (MAns.bad HA.out ?_)
    refine blThenAlloc ?_ _
    repeat (refine Below.setCell ?_ (by simp) _)
    exact T0.out
  have HC1 := Lib.hid hc1
  clear hc1
  go_wp2_with (go_at_call 199; refine (CI1.out true _ HC1.out).mono ?_; rintro e w' ⟨rfl, rfl⟩)
  clear jj CI1
  rw [rounds_succ]
  have jj := fun W => ix3_2 (q 0) (q 1) (q 2) W
  have CI2 : Hid (∀ v W, cel (q 2) = v → Calls Tryz.prog 199 #[.int .i64 (q 2)] W fun e w' => e = .returned (.bool v) ∧ W = w') := fun v W h => h ▸ isCell_any (q 2) W
  rcases Bool.eq_false_or_eq_true (cel (q 2)) with hc2 | hc2
  rotate_left
  · have HA := Lib.hid (ma_n (by omega) hc2)
    have k0 := (((R0.out.set 0 (.int .i64 7)).set 1 (.slice none 0 0)).alloc (.cells #[.int .i64 (q 0), .int .i64 (q 1), .int .i64 (q 2)] 58)).c 0 rfl
    have k1 := (((R0.out.set 0 (.int .i64 7)).set 1 (.slice none 0 0)).alloc (.cells #[.int .i64 (q 0), .int .i64 (q 1), .int .i64 (q 2)] 58)).c 1 rfl
    have HC := Lib.hid hc2
    clear hc2
    go_wp2_with (go_at_call 199; refine (CI2.out false _ HC.out).mono ?_; rintro e w' ⟨rfl, rfl⟩)
    refine bodyPost_ret (v := .agg #[.int .i64 7, .slice none 0 0]) (by simp [results, Tryz.results181, go_sem, k0, k1]) rfl (MAns.bad HA.out ?_)
    refine blThenAlloc ?_ _
    repeat (refine Below.setCell ?_ (by simp) _)
    exact T0.out
  have HC2 := Lib.hid hc2
  clear hc2
  go_wp2_with (go_at_call 199; refine (CI2.out true _ HC2.out).mono ?_; rintro e w' ⟨rfl, rfl⟩)
  clear jj CI2
  rw [rounds_succ]
  go_wp2_with fail
  refine (Clone_any W0.heap.size 0 3 3 [q 0, q 1, q 2] _ (rd3 (Bx.new W0 #[.int .i64 (q 0), .int .i64 (q 1), .int .i64 (q 2)] 58 rfl)) (by omega) (by omega)).mono ?_
  rintro e v0 ⟨B0, cp0, rfl, ho, hb⟩
  have hsz0 := hb.size
  simp only [World.size_alloc] at hsz0
  have RV := Lib.hid ((R0.out.alloc (.cells #[.int .i64 (q 0), .int .i64 (q 1), .int .i64 (q 2)] 58)).bel hb)
  have LV := Lib.hid ((L0.out.alloc (.cells #[.int .i64 (q 0), .int .i64 (q 1), .int .i64 (q 2)] 58)).bel hb)
  have TV := Lib.hid (blThen (blThenAlloc T0.out _) hb)
  have O0 := Lib.hid (ho.mono (lo' := W0.heap.size + 1) (by simp) (Nat.le_refl _))
  have l0 := LV.out.c 0 rfl
  have f0 := LV.out.f 0
  have m3 := LV.out.lt
  clear ho hb r0 r1 z0 z1 m1 m2 R0 L0 T0
  go_wp2_with fail
  obtain ⟨W1, hW1⟩ : ∃ W1, W1 = v0.setCell ⟨w.heap.size + 1 + 1, 0, none⟩ (.slice B0 3 cp0) := ⟨_, rfl⟩
  rw [← hW1]
  have R1 := Lib.hid (RV.out.othE hW1 (by omega))
  have L1 := Lib.hid (LV.out.setE hW1)
  have T1 : Hid (Below w.heap.size w W1) := by show Below _ _ _; rw [hW1]; exact TV.out.setCell (by simp; omega) _
  have HSW1 : Hid (W1.heap.size = v0.heap.size) := by show _ = _; rw [hW1, setSize]
  have O0 := Lib.hid (O0.out.setE hW1 (.inl (by have := HZ.out; omega)))
  clear hW1 RV LV TV l0 f0 m3
  -- row 1
  rw [rounds_succ]
  have r0 := R1.out.c 0 rfl
  have r1 := R1.out.c 1 rfl
  have z0 := R1.out.f 0
  have z1 := R1.out.f 1
  have m1 := R1.out.lt
  have m2 := L1.out.lt
  have ii := fun W => ix9_1 q W
  go_wp2_with fail
  clear ii
  refine wp_loop_rounds 4 ?_
  rw [rounds_succ]
  have jj := fun W => ix3_0 (q 3) (q 4) (q 5) W
  have CI3 : Hid (∀ v W, cel (q 3) = v → Calls Tryz.prog 199 #[.int .i64 (q 3)] W fun e w' => e = .returned (.bool v) ∧ W = w') := fun v W h => h ▸ isCell_any (q 3) W
  rcases Bool.eq_false_or_eq_true (cel (q 3)) with hc3 | hc3
  rotate_left
  · have HA := Lib.hid (ma_n (by omega) hc3)
    have k0 := (((R1.out.set 0 (.int .i64 7)).set 1 (.slice none 0 0)).alloc (.cells #[.int .i64 (q 3), .int .i64 (q 4), .int .i64 (q 5)] 58)).c 0 rfl
    have k1 := (((R1.out.set 0 (.int .i64 7)).set 1 (.slice none 0 0)).alloc (.cells #[.int .i64 (q 3), .int .i64 (q 4), .int .i64 (q 5)] 58)).c 1 rfl
    have HC := Lib.hid hc3
    clear hc3
    go_wp2_with (go_at_call 199; refine (CI3.out false _ HC.out).mono ?_; rintro e w' ⟨rfl, rfl⟩)
    refine bodyPost_ret (v := .agg #[.int .i64 7, .slice none 0 0]) (by simp [results, Tryz.results181, go_sem, k0, k1]) rfl (MAns.bad HA.out ?_)
    refine blThenAlloc ?_ _
    repeat (refine Below.setCell ?_ (by simp) _)
    exact T1.out
  have HC3 := Lib.hid hc3
  clear hc3
  go_wp2_with (go_at_call 199; refine (CI3.out true _ HC3.out).mono ?_; rintro e w' ⟨rfl, rfl⟩)
  clear jj CI3
  rw [rounds_succ]
  have jj := fun W => ix3_1 (q 3) (q 4) (q 5) W
  have CI4 : Hid (∀ v W, cel (q 4) = v → Calls Tryz.prog 199 #[.int .i64 (q 4)] W fun e w' => e = .returned (.bool v) ∧ W = w') := fun v W h => h ▸ isCell_any (q 4) W
  rcases Bool.eq_false_or_eq_true (cel (q 4)) with hc4 | hc4
  rotate_left
  · have HA := Lib.hid (ma_n (by omega) hc4)
    have k0 := (((R1.out.set 0 (.int .i64 7)).set 1 (.slice none 0 0)).alloc (.cells #[.int .i64 (q 3), .int .i64 (q 4), .int .i64 (q 5)] 58)).c 0 rfl
    have k1 := (((R1.out.set 0 (.int .i64 7)).set 1 (.slice none 0 0)).alloc (.cells #[.int .i64 (q 3), .int .i64 (q 4), .int .i64 (q 5)] 58)).c 1 rfl
    have HC := Lib.hid hc4
    clear hc4
    go_wp2_with (go_at_call 199; refine (CI4.out false _ HC.out).mono ?_; rintro e w' ⟨rfl, rfl⟩)
    refine bodyPost_ret (v := .agg #[.int .i64 7, .slice none 0 0]) (by simp [results, Tryz.results181, go_sem, k0, k1]) rfl (MAns.bad HA.out ?_)
    refine blThenAlloc ?_ _
    repeat (refine Below.setCell ?_ (by simp) _)
    exact T1.out
  have HC4 := Lib.hid hc4
  clear hc4
  go_wp2_with (go_at_call 199; refine (CI4.out true _ HC4.out).mono ?_; rintro e w' ⟨rfl, rfl⟩)
  clear jj CI4
  rw [rounds_succ]
  have jj := fun W => ix3_2 (q 3) (q 4) (q 5) W
  have CI5 : Hid (∀ v W, cel (q 5) = v → Calls Tryz.prog 199 #[.int .i64 (q 5)] W fun e w' => e = .returned (.bool v) ∧ W = w') := fun v W h => h ▸ isCell_any (q 5) W
  rcases Bool.eq_false_or_eq_true (cel (q 5)) with hc5 | hc5
  rotate_left
  · have HA := Lib.hid (ma_n (by omega) hc5)
    have k0 := (((R1.out.set 0 (.int .i64 7)).set 1 (.slice none 0 0)).alloc (.cells #[.int .i64 (q 3), .int .i64 (q 4), .int .i64 (q 5)] 58)).c 0 rfl
    have k1 := (((R1.out.set 0 (.int .i64 7)).set 1 (.slice none 0 0)).alloc (.cells #[.int .i64 (q 3), .int .i64 (q 4), .int .i64 (q 5)] 58)).c 1 rfl
    have HC := Lib.hid hc5
    clear hc5
    go_wp2_with (go_at_call 199; refine (CI5.out false _ HC.out).mono ?_; rintro e w' ⟨rfl, rfl⟩)
    refine bodyPost_ret (v := .agg #[.int .i64 7, .slice none 0 0]) (by simp [results, Tryz.results181, go_sem, k0, k1]) rfl (MAns.bad HA.out ?_)
    refine blThenAlloc ?_ _
    repeat (refine Below.setCell ?_ (by simp) _)
    exact T1.out
  have HC5 := Lib.hid hc5
  clear hc5
  go_wp2_with (go_at_call 199; refine (CI5.out true _ HC5.out).mono ?_; rintro e w' ⟨rfl, rfl⟩)
  clear jj CI5
  rw [rounds_succ]
  go_wp2_with fail
  refine (Clone_any W1.heap.size 0 3 3 [q 3, q 4, q 5] _ (rd3 (Bx.new W1 #[.int .i64 (q 3), .int .i64 (q 4), .int .i64 (q 5)] 58 rfl)) (by omega) (by omega)).mono ?_
  rintro e v1 ⟨B1, cp1, rfl, ho, hb⟩
  have hsz1 := hb.size
  simp only [World.size_alloc] at hsz1
  have RV := Lib.hid ((R1.out.alloc (.cells #[.int .i64 (q 3), .int .i64 (q 4), .int .i64 (q 5)] 58)).bel hb)
  have LV := Lib.hid ((L1.out.alloc (.cells #[.int .i64 (q 3), .int .i64 (q 4), .int .i64 (q 5)] 58)).bel hb)
  have TV := Lib.hid (blThen (blThenAlloc T1.out _) hb)
  have O1 := Lib.hid (ho.mono (lo' := W1.heap.size + 1) (by simp) (Nat.le_refl _))
  have O0 := Lib.hid ((O0.out.alloc (.cells #[.int .i64 (q 3), .int .i64 (q 4), .int .i64 (q 5)] 58)).below hb)
  have l0 := LV.out.c 1 rfl
  have f0 := LV.out.f 1
  have m3 := LV.out.lt
  clear ho hb r0 r1 z0 z1 m1 m2 R1 L1 T1
  go_wp2_with fail
  obtain ⟨W2, hW2⟩ : ∃ W2, W2 = v1.setCell ⟨w.heap.size + 1 + 1, 1, none⟩ (.slice B1 3 cp1) := ⟨_, rfl⟩
  rw [← hW2]
  have R2 := Lib.hid (RV.out.othE hW2 (by omega))
  have L2 := Lib.hid (LV.out.setE hW2)
  have T2 : Hid (Below w.heap.size w W2) := by show Below _ _ _; rw [hW2]; exact TV.out.setCell (by simp; omega) _
  have HSW2 : Hid (W2.heap.size = v1.heap.size) := by show _ = _; rw [hW2, setSize]
  have O0 := Lib.hid (O0.out.setE hW2 (.inl (by have := HZ.out; have := HSW1.out; omega)))
  have O1 := Lib.hid (O1.out.setE hW2 (.inl (by have := HZ.out; have := HSW1.out; omega)))
  clear hW2 RV LV TV l0 f0 m3
  -- row 2
  rw [rounds_succ]
  have r0 := R2.out.c 0 rfl
  have r1 := R2.out.c 1 rfl
  have z0 := R2.out.f 0
  have z1 := R2.out.f 1
  have m1 := R2.out.lt
  have m2 := L2.out.lt
  have ii := fun W => ix9_2 q W
  go_wp2_with fail
  clear ii
  refine wp_loop_rounds 4 ?_
  rw [rounds_succ]
  have jj := fun W => ix3_0 (q 6) (q 7) (q 8) W
  have CI6 : Hid (∀ v W, cel (q 6) = v → Calls Tryz.prog 199 #[.int .i64 (q 6)] W fun e w' => e = .returned (.bool v) ∧ W = w') := fun v W h => h ▸ isCell_any (q 6) W
  rcases Bool.eq_false_or_eq_true (cel (q 6)) with hc6 | hc6
  rotate_left
  · have HA := Lib.hid (ma_n (by omega) hc6)
    have k0 := (((R2.out.set 0 (.int .i64 7)).set 1 (.slice none 0 0)).alloc (.cells #[.int .i64 (q 6), .int .i64 (q 7), .int .i64 (q 8)] 58)).c 0 rfl
    have k1 := (((R2.out.set 0 (.int .i64 7)).set 1 (.slice none 0 0)).alloc (.cells #[.int .i64 (q 6), .int .i64 (q 7), .int .i64 (q 8)] 58)).c 1 rfl
    have HC := Lib.hid hc6
    clear hc6
    go_wp2_with (go_at_call 199; refine (CI6.out false _ HC.out).mono ?_; rintro e w' ⟨rfl, rfl⟩)
    refine bodyPost_ret (v := .agg #[.int .i64 7, .slice none 0 0]) (by simp [results, Tryz.results181, go_sem, k0, k1]) rfl (MAns.bad HA.out ?_)
    refine blThenAlloc ?_ _
    repeat (refine Below.setCell ?_ (by simp) _)
    exact T2.out
  have HC6 := Lib.hid hc6
  clear hc6
  go_wp2_with (go_at_call 199; refine (CI6.out true _ HC6.out).mono ?_; rintro e w' ⟨rfl, rfl⟩)
  clear jj CI6
  rw [rounds_succ]
  have jj := fun W => ix3_1 (q 6) (q 7) (q 8) W
  have CI7 : Hid (∀ v W, cel (q 7) = v → Calls Tryz.prog 199 #[.int .i64 (q 7)] W fun e w' => e = .returned (.bool v) ∧ W = w') := fun v W h => h ▸ isCell_any (q 7) W
  rcases Bool.eq_false_or_eq_true (cel (q 7)) with hc7 | hc7
  rotate_left
  · have HA := Lib.hid (ma_n (by omega) hc7)
    have k0 := (((R2.out.set 0 (.int .i64 7)).set 1 (.slice none 0 0)).alloc (.cells #[.int .i64 (q 6), .int .i64 (q 7), .int .i64 (q 8)] 58)).c 0 rfl
    have k1 := (((R2.out.set 0 (.int .i64 7)).set 1 (.slice none 0 0)).alloc (.cells #[.int .i64 (q 6), .int .i64 (q 7), .int .i64 (q 8)] 58)).c 1 rfl
    have HC := Lib.hid hc7
    clear hc7
    go_wp2_with (go_at_call 199; refine (CI7.out false _ HC.out).mono ?_; rintro e w' ⟨rfl, rfl⟩)
    refine bodyPost_ret (v := .agg #[.int .i64 7, .slice none 0 0]) (by simp [results, Tryz.results181, go_sem, k0, k1]) rfl (MAns.bad HA.out ?_)
    refine blThenAlloc ?_ _
    repeat (refine Below.setCell ?_ (by simp) _)
    exact T2.out
  have HC7 := Lib.hid hc7
  clear hc7
  go_wp2_with (go_at_call 199; refine (CI7.out true _ HC7.out).mono ?_; rintro e w' ⟨rfl, rfl⟩)
  clear jj CI7
  rw [rounds_succ]
  have jj := fun W => ix3_2 (q 6) (q 7) (q 8) W
  have CI8 : Hid (∀ v W, cel (q 8) = v → Calls Tryz.prog 199 #[.int .i64 (q 8)] W fun e w' => e = .returned (.bool v) ∧ W = w') := fun v W h => h ▸ isCell_any (q 8) W
  rcases Bool.eq_false_or_eq_true (cel (q 8)) with hc8 | hc8
  rotate_left
  · have HA := Lib.hid (ma_n (by omega) hc8)
    have k0 := (((R2.out.set 0 (.int .i64 7)).set 1 (.slice none 0 0)).alloc (.cells #[.int .i64 (q 6), .int .i64 (q 7), .int .i64 (q 8)] 58)).c 0 rfl
    have k1 := (((R2.out.set 0 (.int .i64 7)).set 1 (.slice none 0 0)).alloc (.cells #[.int .i64 (q 6), .int .i64 (q 7), .int .i64 (q 8)] 58)).c 1 rfl
    have HC := Lib.hid hc8
    clear hc8
    go_wp2_with (go_at_call 199; refine (CI8.out false _ HC.out).mono ?_; rintro e w' ⟨rfl, rfl⟩)
    refine bodyPost_ret (v := .agg #[.int .i64 7, .slice none 0 0]) (by simp [results, Tryz.results181, go_sem, k0, k1]) rfl (MAns.bad HA.out ?_)
    refine blThenAlloc ?_ _
    repeat (refine Below.setCell ?_ (by simp) _)
    exact T2.out
  have HC8 := Lib.hid hc8
  clear hc8
  go_wp2_with (go_at_call 199; refine (CI8.out true _ HC8.out).mono ?_; rintro e w' ⟨rfl, rfl⟩)
  clear jj CI8
  rw [rounds_succ]
  go_wp2_with fail
  refine (Clone_any W2.heap.size 0 3 3 [q 6, q 7, q 8] _ (rd3 (Bx.new W2 #[.int .i64 (q 6), .int .i64 (q 7), .int .i64 (q 8)] 58 rfl)) (by omega) (by omega)).mono ?_
  rintro e v2 ⟨B2, cp2, rfl, ho, hb⟩
  have hsz2 := hb.size
  simp only [World.size_alloc] at hsz2
  have RV := Lib.hid ((R2.out.alloc (.cells #[.int .i64 (q 6), .int .i64 (q 7), .int .i64 (q 8)] 58)).bel hb)
  have LV := Lib.hid ((L2.out.alloc (.cells #[.int .i64 (q 6), .int .i64 (q 7), .int .i64 (q 8)] 58)).bel hb)
  have TV := Lib.hid (blThen (blThenAlloc T2.out _) hb)
  have O2 := Lib.hid (ho.mono (lo' := W2.heap.size + 1) (by simp) (Nat.le_refl _))
  have O0 := Lib.hid ((O0.out.alloc (.cells #[.int .i64 (q 6), .int .i64 (q 7), .int .i64 (q 8)] 58)).below hb)
  have O1 := Lib.hid ((O1.out.alloc (.cells #[.int .i64 (q 6), .int .i64 (q 7), .int .i64 (q 8)] 58)).below hb)
  have l0 := LV.out.c 2 rfl
  have f0 := LV.out.f 2
  have m3 := LV.out.lt
  clear ho hb r0 r1 z0 z1 m1 m2 R2 L2 T2
  have r0 := RV.out.c 0 rfl
  have r1 := RV.out.c 1 rfl
  have z0 := RV.out.f 0
  have z1 := RV.out.f 1
  have m1 := RV.out.lt
  go_wp2_with fail
  rw [rounds_succ]
  go_wp2_with fail
  have k0 := (((RV.out.oth (c := w.heap.size + 1 + 1) (by omega) 2 (.slice B2 3 cp2)).set 0 (.int .i64 0)).set 1 (.slice (some ⟨w.heap.size + 1 + 1, 0, none⟩) 3 3)).c 0 rfl
  have k1 := (((RV.out.oth (c := w.heap.size + 1 + 1) (by omega) 2 (.slice B2 3 cp2)).set 0 (.int .i64 0)).set 1 (.slice (some ⟨w.heap.size + 1 + 1, 0, none⟩) 3 3)).c 1 rfl
  have L6 := Lib.hid (((LV.out.set 2 (.slice B2 3 cp2)).oth (c := w.heap.size + 1) (by omega) 0 (.int .i64 0)).oth (c := w.heap.size + 1) (by omega) 1 (.slice (some ⟨w.heap.size + 1 + 1, 0, none⟩) 3 3))
  have P0 := Lib.hid (((O0.out.set (b := w.heap.size + 1 + 1) (.inl (by have := HZ.out; have := HSW1.out; have := HSW2.out; omega)) 2 (.slice B2 3 cp2)).set (b := w.heap.size + 1) (.inl (by have := HZ.out; have := HSW1.out; have := HSW2.out; omega)) 0 (.int .i64 0)).set (b := w.heap.size + 1) (.inl (by have := HZ.out; have := HSW1.out; have := HSW2.out; omega)) 1 (.slice (some ⟨w.heap.size + 1 + 1, 0, none⟩) 3 3))
  have P1 := Lib.hid (((O1.out.set (b := w.heap.size + 1 + 1) (.inl (by have := HZ.out; have := HSW1.out; have := HSW2.out; omega)) 2 (.slice B2 3 cp2)).set (b := w.heap.size + 1) (.inl (by have := HZ.out; have := HSW1.out; have := HSW2.out; omega)) 0 (.int .i64 0)).set (b := w.heap.size + 1) (.inl (by have := HZ.out; have := HSW1.out; have := HSW2.out; omega)) 1 (.slice (some ⟨w.heap.size + 1 + 1, 0, none⟩) 3 3))
  have P2 := Lib.hid (((O2.out.set (b := w.heap.size + 1 + 1) (.inl (by have := HZ.out; have := HSW1.out; have := HSW2.out; omega)) 2 (.slice B2 3 cp2)).set (b := w.heap.size + 1) (.inl (by have := HZ.out; have := HSW1.out; have := HSW2.out; omega)) 0 (.int .i64 0)).set (b := w.heap.size + 1) (.inl (by have := HZ.out; have := HSW1.out; have := HSW2.out; omega)) 1 (.slice (some ⟨w.heap.size + 1 + 1, 0, none⟩) 3 3))
  have HA := Lib.hid (ma_y (q := q) (fun t ht => by match t, ht with | 0, _ => exact HC0.out | 1, _ => exact HC1.out | 2, _ => exact HC2.out | 3, _ => exact HC3.out | 4, _ => exact HC4.out | 5, _ => exact HC5.out | 6, _ => exact HC6.out | 7, _ => exact HC7.out | 8, _ => exact HC8.out))
  refine bodyPost_ret (v := .agg #[.int .i64 0, .slice (some ⟨w.heap.size + 1 + 1, 0, none⟩) 3 3]) (by simp [results, Tryz.results181, go_sem, k0, k1]) rfl ⟨_, _, _, by rw [HA.out.1], ?_, ?_⟩
  · rw [HA.out.2]
    have q0 := HZ.out
    have q1 := HSW1.out
    have q2 := HSW2.out
    exact rows3 L6.out P0.out P1.out P2.out (by omega) (by omega) (.inl (by omega)) (by omega) (by omega) (by simp only [setSize]; exact Nat.le_refl _) (by omega) (by omega) (by omega)
  · repeat (refine Below.setCell ?_ (by simp; try omega) _)
    exact TV.out
end Go.Proofs.YtdjifaaofefpoaaGreat
