/-
  A row of tags that grows: names, and bytes that lie elsewhere.
-/
import Derived.Test.YtbbghebpmobfnaaPar3
import Derived.Maps.AppendAt
namespace Go.Proofs.Ytbbghebpmobfnaa
open Go.RowKit
set_option linter.unusedVariables false

def tcs (ts : List Tg) (U : Nat → Value) : List Value := (List.range ts.length).flatMap fun i => [.string (tg ts i).1, U i]
theorem tcs_congr {ts us : List Tg} {U V : Nat → Value} {n : Nat} (h : ∀ i, i < n → (tg ts i).1 = (tg us i).1 ∧ U i = V i) : ((List.range n).flatMap fun i => [Value.string (tg ts i).1, U i]) = (List.range n).flatMap fun i => [Value.string (tg us i).1, V i] := by
  induction n with
  | zero => rfl
  | succ n ih =>
    rw [List.range_succ, List.flatMap_append, List.flatMap_append, ih (fun i hi => h i (by omega))]
    obtain ⟨a, b⟩ := h n (by omega)
    simp [a, b]
theorem tcs_len (ts : List Tg) (U : Nat → Value) (n : Nat) : ((List.range n).flatMap fun i => [Value.string (tg ts i).1, U i]).length = n * 2 := by
  induction n with
  | zero => rfl
  | succ n ih => rw [List.range_succ, List.flatMap_append, List.length_append, ih]; simp; omega
theorem tcs_at (ts : List Tg) (U : Nat → Value) (n : Nat) : ∀ i, i < n → ((List.range n).flatMap fun i => [Value.string (tg ts i).1, U i])[i * 2]? = some (.string (tg ts i).1) ∧ ((List.range n).flatMap fun i => [Value.string (tg ts i).1, U i])[i * 2 + 1]? = some (U i) := by
  induction n with
  | zero => intro i hi; omega
  | succ n ih =>
    intro i hi
    rw [List.range_succ, List.flatMap_append]
    have hl := tcs_len ts U n
    by_cases e : i < n
    · rw [List.getElem?_append_left (by omega), List.getElem?_append_left (by omega)]
      exact ih i e
    · obtain rfl : i = n := by omega
      rw [List.getElem?_append_right (by omega), List.getElem?_append_right (by omega), hl]
      have e1 : i * 2 - i * 2 = 0 := by omega
      have e2 : i * 2 + 1 - i * 2 = 1 := by omega
      rw [e1, e2]
      exact ⟨rfl, rfl⟩
theorem fm_congr {α : Type} {n : Nat} {f g : Nat → List α} (h : ∀ i, i < n → f i = g i) : (List.range n).flatMap f = (List.range n).flatMap g := by
  induction n with
  | zero => rfl
  | succ n ih =>
    rw [List.range_succ, List.flatMap_append, List.flatMap_append, ih (fun i hi => h i (by omega))]
    simp [h n (by omega)]
theorem tg_app {ts : List Tg} {t : Tg} {i : Nat} (h : i < ts.length) : tg (ts ++ [t]) i = tg ts i := by unfold tg; rw [List.getD, List.getElem?_append_left h]; rfl
theorem tg_last (ts : List Tg) (t : Tg) : tg (ts ++ [t]) ts.length = t := by unfold tg; simp [List.getD]
theorem tcs_push (ts : List Tg) (t : Tg) (U : Nat → Value) (x : Value) : tcs (ts ++ [t]) (fun i => if i < ts.length then U i else x) = tcs ts U ++ [.string t.1, x] := by
  unfold tcs
  rw [List.length_append, List.length_singleton, List.range_succ, List.flatMap_append]
  congr 1
  · exact tcs_congr fun i hi => ⟨by rw [tg_app hi], by simp [hi]⟩
  · simp [tg_last]

/-- a row of the call's own; v: the slice; children at or above base, below hi. -/
def OwnT (w : World) (base hi : Nat) (v : Value) (n : Nat) (ts : List Tg) : Prop :=
  ∃ (U : Nat → Value) (G : Nat → List Nat), ts.length = n ∧ w.ownsRow base 63 2 v n (tcs ts U) ∧ (∀ i, i < n → Hd w (.ints .u8 (tg ts i).2) (U i) (G i)) ∧ ((List.range n).flatMap G).Nodup ∧
    (∀ i, i < n → ∀ b ∈ G i, base ≤ b ∧ b < hi ∧ Thaw w b ∧ v.ownBlock ≠ some b) ∧ (∀ g, v.ownBlock = some g → g < hi)
theorem OwnT.nil (w : World) (base hi : Nat) : OwnT w base hi (.slice none 0 0) 0 [] :=
  ⟨fun _ => .bool true, fun _ => [], rfl, World.ownsRow_nil w base _ _, fun i hi => absurd hi (by omega), by simp, fun i hi => absurd hi (by omega), fun g hg => by simp [Value.ownBlock] at hg⟩
theorem OwnT.ch {w w' : World} {base hi n : Nat} {v : Value} {ts : List Tg} (h : OwnT w base hi v n ts) {q : Option Nat} (hc : w.grownBy w' q) (hq : ∀ b, q = some b → b < base) : OwnT w' base hi v n ts := by
  obtain ⟨U, G, h1, h2, h3, h4, h5, h6⟩ := h
  have hne : ∀ b, base ≤ b → some b ≠ q := fun b hb e => by have := hq b e.symm; omega
  refine ⟨U, G, h1, h2.kept hc ?_, fun i hi' => ?_, h4, fun i hi' b hb => ?_, h6⟩
  · cases hv : v.ownBlock with
    | none => exact .inl rfl
    | some g => exact .inr (hne g (h2.lt g hv).1)
  · refine (h3 i hi').keep fun b hb j => World.cell?_of_block (hc.block b ((h3 i hi').lt b hb) (hne b (h5 i hi' b hb).1))
  · obtain ⟨a1, a2, a3, a4⟩ := h5 i hi' b hb
    refine ⟨a1, a2, fun j => ?_, a4⟩
    rw [← a3 j]
    unfold World.frozen?
    rw [hc.block b ((h3 i hi').lt b hb) (hne b a1)]
theorem OwnT.below {w w' : World} {base hi n : Nat} {v : Value} {ts : List Tg} (h : OwnT w base hi v n ts) (hb : Below w.heap.size w w') : OwnT w' base hi v n ts := h.ch (q := none) ⟨hb.os, hb.tape, hb.output, hb.size, fun k hk _ => hb.block k hk⟩ (fun b e => by cases e)
theorem OwnT.mono {w : World} {base hi hi' n : Nat} {v : Value} {ts : List Tg} (h : OwnT w base hi v n ts) (hh : hi ≤ hi') : OwnT w base hi' v n ts := by
  obtain ⟨U, G, h1, h2, h3, h4, h5, h6⟩ := h
  exact ⟨U, G, h1, h2, h3, h4, fun i hi' b hb => by obtain ⟨a1, a2, a3, a4⟩ := h5 i hi' b hb; exact ⟨a1, by omega, a3, a4⟩, fun g hg => by have := h6 g hg; omega⟩
theorem OwnT.set {w : World} {base hi n : Nat} {v : Value} {ts : List Tg} (h : OwnT w base hi v n ts) {b : Nat} (hb : b < base) (i : Nat) (x : Value) : OwnT (w.setCell ⟨b, i, none⟩ x) base hi v n ts :=
  h.ch (q := some b) ⟨rfl, rfl, rfl, by simp [World.setCell], fun k _ hn => Below.heap_setCell _ _ _ _ (fun e => hn (by rw [e]))⟩ (fun c e => by injection e with e; omega)
/-- one tag more. -/
theorem OwnT.push {w w' : World} {base mid n : Nat} {v v' x : Value} {ts : List Tg} {t : Tg} {U : Nat → Value} {G : Nat → List Nat}
    (h1 : ts.length = n) (h3 : ∀ i, i < n → Hd w (.ints .u8 (tg ts i).2) (U i) (G i)) (h4 : ((List.range n).flatMap G).Nodup)
    (h5 : ∀ i, i < n → ∀ b ∈ G i, base ≤ b ∧ b < mid ∧ Thaw w b ∧ v.ownBlock ≠ some b) (h6 : ∀ g, v.ownBlock = some g → g < mid)
    (hx : Own w (.ints .u8 t.2) x mid w.heap.size) (hbm : base ≤ mid)
    (ho : w'.ownsRow base 63 2 v' (n + 1) (tcs ts U ++ [.string t.1, x])) (hg : w.grownBy w' v.ownBlock) (hat : v'.ownBlock = v.ownBlock ∨ v'.ownBlock = some w.heap.size) (hmw : mid ≤ w.heap.size) :
    OwnT w' base w'.heap.size v' (n + 1) (ts ++ [t]) := by
  subst h1
  obtain ⟨bs, x1, x2, x3⟩ := hx
  have hnew : ∀ b ∈ bs, some b ≠ v.ownBlock := fun b hb e => by have := h6 b e.symm; have := (x3 b hb).1; omega
  refine ⟨fun i => if i < ts.length then U i else x, fun i => if i < ts.length then G i else bs, by simp, by rw [tcs_push]; exact ho, fun i hi => ?_, ?_, fun i hi b hb => ?_, fun g hgv => (ho.lt g hgv).2⟩
  · by_cases e : i < ts.length
    · simp only [e, if_true]
      rw [tg_app e]
      exact (h3 i e).keep fun b hb j => World.cell?_of_block (hg.block b ((h3 i e).lt b hb) (fun e' => (h5 i e b hb).2.2.2 e'.symm))
    · obtain rfl : i = ts.length := by omega
      simp only [e, if_false]
      rw [tg_last]
      exact x1.keep fun b hb j => World.cell?_of_block (hg.block b (x1.lt b hb) (hnew b hb))
  · rw [List.range_succ, List.flatMap_append]
    have e1 : ((List.range ts.length).flatMap fun i => if i < ts.length then G i else bs) = (List.range ts.length).flatMap G := by
      exact fm_congr fun i hi => by simp [hi]
    rw [e1]
    simp only [List.flatMap_cons, List.flatMap_nil, List.append_nil, Nat.lt_irrefl, if_false]
    refine List.nodup_append.2 ⟨h4, x2, fun a ha b hb e => ?_⟩
    simp only [List.mem_flatMap, List.mem_range] at ha
    obtain ⟨i, hi, ha⟩ := ha
    have := (h5 i hi a ha).2.1
    have := (x3 b hb).1
    omega
  · have hcore : base ≤ b ∧ b < w.heap.size ∧ Thaw w b ∧ v.ownBlock ≠ some b := by
      by_cases e : i < ts.length
      · simp only [e, if_true] at hb
        obtain ⟨a1, a2, a3, a4⟩ := h5 i e b hb
        exact ⟨a1, by omega, a3, a4⟩
      · simp only [e, if_false] at hb
        obtain ⟨a1, a2, a3⟩ := x3 b hb
        exact ⟨by omega, a2, a3, fun e' => hnew b hb e'.symm⟩
    obtain ⟨a1, a2, a3, a4⟩ := hcore
    refine ⟨a1, by have := hg.size; omega, fun j => ?_, fun e => ?_⟩
    · rw [← a3 j]
      unfold World.frozen?
      rw [hg.block b a2 (fun e' => a4 e'.symm)]
    · rcases hat with hh | hh
      · exact a4 (hh ▸ e)
      · rw [hh] at e; injection e with e; omega
/-- it reads as tags of one's own. -/
theorem OwnT.own {w : World} {base hi n : Nat} {v : Value} {ts : List Tg} (h : OwnT w base hi v n ts) : ∃ A c, v = .slice A n c ∧ Own w (tagsD ts) v base hi := by
  obtain ⟨U, G, h1, h2, h3, h4, h5, h6⟩ := h
  subst h1
  rcases h2.2 with ⟨rfl, hn⟩ | ⟨g, cap, cur, rfl, b1, b2, b3, b4, b5, b6⟩
  · obtain rfl : ts = [] := List.eq_nil_of_length_eq_zero hn
    exact ⟨_, _, rfl, Own.snil _ _ _ _ _ _ (Nat.zero_le _)⟩
  · refine ⟨_, _, rfl, ?_⟩
    rcases Nat.eq_zero_or_pos ts.length with hn | hn
    · obtain rfl : ts = [] := List.eq_nil_of_length_eq_zero hn
      exact Own.snil _ _ _ _ _ _ b4
    · have hgt : g < w.heap.size := (h2.lt g rfl).2
      refine ⟨_, .sl 2 g 0 ts.length cap (ts.map tgD) (fun i j => if j = 0 then .string (tg ts i).1 else U i) (fun i j => if j = 0 then [] else G i) hn (by omega) (by simp) (fun i hi' j hj => ?_) (fun i hi' j hj => ?_) b3 b4, ?_, fun b hb => ?_⟩
      · have hc := h2.cellAt (i * 2 + j) (by omega)
        rw [Nat.zero_add, hc]
        obtain ⟨t0, t1⟩ := tcs_at ts U ts.length i hi'
        match j, hj with
        | 0, _ => exact t0
        | 1, _ => exact t1
      · have e : (ts.map tgD).getD i [] = tgD (tg ts i) := by simp [List.getD, hi', tg]
        rw [e]
        match j, hj with
        | 0, _ => exact .str _
        | 1, _ => exact h3 i hi'
      · have e : ((List.range ts.length).flatMap fun i => (List.range 2).flatMap fun j => if j = 0 then [] else G i) = (List.range ts.length).flatMap G := by
          exact fm_congr fun i _ => by simp [List.range_succ]
        rw [e]
        refine List.nodup_cons.2 ⟨fun hm => ?_, h4⟩
        simp only [List.mem_flatMap, List.mem_range] at hm
        obtain ⟨i, hi', hm⟩ := hm
        exact (h5 i hi' g hm).2.2.2 rfl
      · rcases List.mem_cons.1 hb with rfl | hb
        · exact ⟨b1, h6 _ rfl, fun j => h2.frozenAt j⟩
        · simp only [List.mem_flatMap, List.mem_range] at hb
          obtain ⟨i, hi', j, hj, hb⟩ := hb
          split at hb
          · cases hb
          · obtain ⟨a1, a2, a3, _⟩ := h5 i hi' b hb
            exact ⟨a1, a2, a3⟩
theorem info_tagx : ∃ i, Try.prog.info? 63 = some i ∧ i.zero = some (.agg #[.string ByteArray.empty, .slice none 0 0]) ∧ i.size = 2 ∧ i.bytes = 40 := by
  obtain ⟨i, hi, h⟩ := Option.map_eq_some_iff.1 info_tag
  simp only [Prod.mk.injEq] at h
  exact ⟨i, hi, h.1, h.2.1, h.2.2⟩
theorem wpList_append_tag (w : World) {ops : Array Oper} {rest : List Oper} {o : Oper} {a : Act} {Q : Exit → Act → World → Prop} (hgd : o.guard = none) (s x : Operand)
    (ho : o.op = .call { callee := .builtin .append, args := #[s, x], argTypes := #[25, 25] })
    (base mid : Nat) (v : Value) (n : Nat) (ts : List Tg) (t : Tg) (hs : a.eval s = v) (hown : OwnT w base mid v n ts) (q c : Nat) (A : Option Addr) (L cp : Nat) (hx : a.eval x = .slice (some ⟨q, 0, none⟩) 1 c)
    (hq : Box2 w q (.string t.1) (.slice A L cp)) (hO : Own w (.ints .u8 t.2) (.slice A L cp) mid w.heap.size) (hbm : base ≤ mid) (hmw : mid ≤ w.heap.size) (h63 : n ≤ 1000000)
    (h : ∀ v' w', OwnT w' base w'.heap.size v' (n + 1) (ts ++ [t]) → w.grownBy w' v.ownBlock → (∀ g, v.ownBlock = some g → base ≤ g) → wpList Try.prog ops Q rest (a.put o.dst v') w') : wpList Try.prog ops Q (o :: rest) a w := by
  obtain ⟨i, hi, hz, hsz, hby⟩ := info_tagx
  obtain ⟨U, G, h1, h2, h3, h4, h5, h6⟩ := hown
  refine wpList_append_own_at w hgd s x 25 ho base 63 i _ 2 40 Try.underlying25 hi hz hsz hby rfl (by omega) v n _ hs h2 ⟨q, 0, none⟩ 1 c [.string t.1, .slice A L cp] hx rfl ?_ ?_ (by unfold maxLen; omega) (by omega) (by omega) ?_
  · intro j u hj
    match j, hj with
    | 0, hj => obtain rfl := Option.some.inj hj; exact hq.1
    | 1, hj => obtain rfl := Option.some.inj hj; exact hq.2
  · intro u hu
    simp only [List.mem_cons, List.not_mem_nil, or_false] at hu
    rcases hu with rfl | rfl <;> rfl
  · intro v' w' a1 a2 _ a4
    exact h v' w' (OwnT.push h1 h3 h4 h5 h6 hO hbm a1 a2 a4 hmw) a2 (fun g hg => (h2.lt g hg).1)
end Go.Proofs.Ytbbghebpmobfnaa
