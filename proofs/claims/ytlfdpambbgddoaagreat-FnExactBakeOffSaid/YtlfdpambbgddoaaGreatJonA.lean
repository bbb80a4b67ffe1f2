/-
  Chains that are handed back: copyLists, stageAnswer, chainAnswer: each list in memory of its own.
-/
import Derived.Test.YtlfdpambbgddoaaGreatEowA
import Derived.Test.YtlfdpambbgddoaaGreatStpB
import Derived.Test.YtlfdpambbgddoaaGreatLinS
import Derived.Test.YtlfdpambbgddoaaGreatMatA
import Derived.Test.YtlfdpambbgddoaaGreatSceneM
import Derived.Deep.RegionHeld3
namespace Go.Proofs.YtlfdpambbgddoaaGreat
open Go.RowKit Go.Maps
set_option linter.unusedVariables false
set_option linter.unusedSimpArgs false

theorem take_row {rs : Rws} {k : Nat} (h : k < rs.length) : rs.take (k + 1) = rs.take k ++ [rw_ rs k] := by
  rw [List.take_succ_eq_append_getElem h]
  simp [rw_, List.getD, h]
theorem RsL.form {W : World} {base n : Nat} {v : Value} {rs : Rws} (h : RsL W base v n rs) : ∃ A c, v = .slice A n c := by
  obtain ⟨V, lo, hi, h⟩ := h
  rcases h.own.2 with ⟨rfl, hn⟩ | ⟨g, cap, cur, rfl, b1, b2, b3, b4, b5, b6⟩
  · rw [hn]; exact ⟨_, _, rfl⟩
  · exact ⟨_, _, rfl⟩
theorem Bx.low {W W' : World} {b B : Nat} {l : List Value} (h : Bx W b l) (hb : Below B W W') (hB : b < B) : Bx W' b l :=
  ⟨Nat.lt_of_lt_of_le h.lt hb.size, fun i => by rw [hb.frozen (p := ⟨b, i, none⟩) hB]; exact h.th i, fun j v e => by rw [hb.cell (p := ⟨b, j, none⟩) hB]; exact h.at_ j v e⟩
theorem info_cv : (Tryz.prog.info? 131).map (fun i => (i.zero, i.size, i.bytes)) = some (some (.agg #[.slice none 0 0]), 1, 24) := by kernel_rfl
theorem ety_curve : Ety 81 131 1 24 := by
  obtain ⟨i, hi, h⟩ := Option.map_eq_some_iff.1 info_cv
  simp only [Prod.mk.injEq] at h
  exact ⟨Tryz.underlying81, ⟨i, _, hi, h.1, h.2.1, h.2.2, rfl⟩, by omega, by omega⟩
theorem info_sg : (Tryz.prog.info? 85).map (fun i => (i.zero, i.size, i.bytes)) = some (some (.agg #[.int .i64 0, .slice none 0 0, .slice none 0 0, .int .i64 0, .slice none 0 0]), 5, 88) := by kernel_rfl
theorem ety_stage : Ety 32 85 5 88 := by
  obtain ⟨i, hi, h⟩ := Option.map_eq_some_iff.1 info_sg
  simp only [Prod.mk.injEq] at h
  exact ⟨Tryz.underlying32, ⟨i, _, hi, h.1, h.2.1, h.2.2, rfl⟩, by omega, by omega⟩
def RwAns (w : World) (n : Nat) (rs : Rws) (e : Ending) (w' : World) : Prop := ∃ A c, e = .returned (.slice A n c) ∧ Own w' (rowsD rs) (.slice A n c) w.heap.size w'.heap.size ∧ Below w.heap.size w w'
/-- the values of a stage's five cells. -/
def stV (kd : Int) (s1 s2 : Value) (sd : Int) (s3 : Value) (j : Nat) : Value := match j with
  | 0 => .int .i64 kd
  | 1 => s1
  | 2 => s2
  | 3 => .int .i64 sd
  | _ => s3
theorem stV_box {W : World} {g : Nat} {kd sd : Int} {s1 s2 s3 : Value} (h : Bx W g [.int .i64 kd, s1, s2, .int .i64 sd, s3]) : ∀ j, j < 5 → W.cell? ⟨g, j, none⟩ = some (stV kd s1 s2 sd s3 j) := fun j hj =>
  match j, hj with
  | 0, _ => h.c 0 rfl
  | 1, _ => h.c 1 rfl
  | 2, _ => h.c 2 rfl
  | 3, _ => h.c 3 rfl
  | 4, _ => h.c 4 rfl
theorem stV_one (kd : Int) (s1 s2 : Value) (sd : Int) (s3 : Value) (h1 : s1.oneCell' = true) (h2 : s2.oneCell' = true) (h3 : s3.oneCell' = true) : ∀ j, j < 5 → (stV kd s1 s2 sd s3 j).oneCell' = true := fun j hj =>
  match j, hj with
  | 0, _ => rfl
  | 1, _ => h1
  | 2, _ => h2
  | 3, _ => rfl
  | 4, _ => h3
def StAns (w : World) (t : Stg) (e : Ending) (w' : World) : Prop :=
  ∃ B1 m1 d1 B2 m2 d2 B3 m3 d3, e = .returned (.agg #[.int .i64 t.kd, .slice B1 m1 d1, .slice B2 m2 d2, .int .i64 t.sd, .slice B3 m3 d3]) ∧
    OwnX 5 w' (stD t) (stV t.kd (.slice B1 m1 d1) (.slice B2 m2 d2) t.sd (.slice B3 m3 d3)) w.heap.size w'.heap.size ∧ Below w.heap.size w w'
theorem OwnX.of3 {w : World} {t : Stg} {s1 s2 s3 : Value} {lo p q hi : Nat} (h1 : Own w (rowsD t.cs) s1 lo p) (h2 : Own w (rowsD t.rs) s2 p q) (h3 : Own w (rowsD t.ns) s3 q hi) (l1 : lo ≤ p) (l2 : p ≤ q) (l3 : q ≤ hi) :
    OwnX 5 w (stD t) (stV t.kd s1 s2 t.sd s3) lo hi := by
  obtain ⟨b1, x1, y1, z1⟩ := h1
  obtain ⟨b2, x2, y2, z2⟩ := h2
  obtain ⟨b3, x3, y3, z3⟩ := h3
  refine ⟨fun j => if j = 1 then b1 else if j = 2 then b2 else if j = 4 then b3 else [], fun j hj => ?_, ?_, fun j hj b hb => ?_⟩
  · match j, hj with
    | 0, _ => exact .int _ _
    | 1, _ => exact x1
    | 2, _ => exact x2
    | 3, _ => exact .int _ _
    | 4, _ => exact x3
  · have e : ((List.range 5).flatMap fun j => if j = 1 then b1 else if j = 2 then b2 else if j = 4 then b3 else []) = b1 ++ (b2 ++ b3) := by simp [List.range_succ]
    rw [e]
    refine List.nodup_append.2 ⟨y1, List.nodup_append.2 ⟨y2, y3, fun a ha b hb e => ?_⟩, fun a ha b hb e => ?_⟩
    · subst e; have := z2 a ha; have := z3 a hb; omega
    · subst e
      have := z1 a ha
      rcases List.mem_append.1 hb with hb | hb
      · have := z2 a hb; omega
      · have := z3 a hb; omega
  · match j, hj with
    | 0, _ => simp at hb
    | 1, _ => have := z1 b (by simpa using hb); exact ⟨by omega, by omega, this.2.2⟩
    | 2, _ => have := z2 b (by simpa using hb); exact ⟨by omega, by omega, this.2.2⟩
    | 3, _ => simp at hb
    | 4, _ => have := z3 b (by simpa using hb); exact ⟨by omega, by omega, this.2.2⟩
theorem own_rs0 (w : World) (A : Option Addr) (c lo hi : Nat) (hc : c ≤ maxLen) : Own w (rowsD []) (.slice A 0 c) lo hi := Own.snil _ _ _ _ _ _ hc
/-- a stage without fault, handed back. -/
theorem stF_has {t : Stg} (h : stF t = true) : (t.kd = 1 → t.rs = [] ∧ t.sd = 0 ∧ t.ns = []) ∧ (t.kd = 2 → t.cs = [] ∧ t.sd = 0 ∧ t.ns = []) ∧ (t.kd = 3 → t.cs = [] ∧ t.rs = []) := by
  unfold stF at h
  refine ⟨fun k => ?_, fun k => ?_, fun k => ?_⟩
  · rw [if_pos k] at h
    have := of_decide_eq_true h
    exact ⟨List.eq_nil_of_length_eq_zero this.1, this.2.1, List.eq_nil_of_length_eq_zero this.2.2⟩
  · rw [if_neg (by omega), if_pos k] at h
    have := of_decide_eq_true h
    exact ⟨List.eq_nil_of_length_eq_zero this.1, this.2.1, List.eq_nil_of_length_eq_zero this.2.2⟩
  · rw [if_neg (by omega), if_neg (by omega), if_pos k] at h
    have := of_decide_eq_true h
    exact ⟨List.eq_nil_of_length_eq_zero this.1, List.eq_nil_of_length_eq_zero this.2⟩
end Go.Proofs.YtlfdpambbgddoaaGreat
