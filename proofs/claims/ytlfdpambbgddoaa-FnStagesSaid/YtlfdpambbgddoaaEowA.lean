/-
  A list of elements of m cells that a call makes by append, each element with memory of its own (OwnE): any type, any depth.
-/
import Derived.Test.YtlfdpambbgddoaaGrdLA
import Derived.Test.YtlfdpambbgddoaaHelpSt
namespace Go.Proofs.Ytlfdpambbgddoaa
open Go.RowKit Go.Maps
set_option linter.unusedVariables false
set_option linter.unusedSimpArgs false

/-- the cells of n elements. -/
def ecs (m : Nat) (U : Nat → Nat → Value) (n : Nat) : List Value := (List.range n).flatMap fun i => (List.range m).map (U i)
theorem fmE {α : Type} {n : Nat} {f g : Nat → List α} (h : ∀ i, i < n → f i = g i) : (List.range n).flatMap f = (List.range n).flatMap g := by
  induction n with
  | zero => rfl
  | succ n ih => rw [List.range_succ, List.flatMap_append, List.flatMap_append, ih (fun i hi => h i (by omega))]; simp [h n (by omega)]
theorem ecs_succ (m : Nat) (U : Nat → Nat → Value) (n : Nat) : ecs m U (n + 1) = ecs m U n ++ (List.range m).map (U n) := by
  unfold ecs; rw [List.range_succ, List.flatMap_append]; simp
theorem ecs_len (m : Nat) (U : Nat → Nat → Value) (n : Nat) : (ecs m U n).length = n * m := by
  induction n with
  | zero => simp [ecs]
  | succ n ih => rw [ecs_succ, List.length_append, ih, Nat.succ_mul]; simp
theorem ecs_at {m : Nat} (U : Nat → Nat → Value) {n i j : Nat} (hi : i < n) (hj : j < m) : (ecs m U n)[i * m + j]? = some (U i j) := by
  induction n with
  | zero => omega
  | succ n ih =>
    rw [ecs_succ]
    have hl := ecs_len m U n
    by_cases e : i < n
    · rw [List.getElem?_append_left (by rw [hl]; have := Nat.mul_le_mul_right m (Nat.succ_le_of_lt e); rw [Nat.succ_mul] at this; omega)]
      exact ih e
    · obtain rfl : i = n := by omega
      rw [List.getElem?_append_right (by omega), hl]
      simp [hj]
theorem ecs_congr {m n : Nat} {U U' : Nat → Nat → Value} (h : ∀ i, i < n → ∀ j, j < m → U i j = U' i j) : ecs m U n = ecs m U' n := by
  induction n with
  | zero => rfl
  | succ n ih =>
    rw [ecs_succ, ecs_succ, ih (fun i hi => h i (by omega))]
    congr 1
    exact List.map_congr_left fun j hj => h n (by omega) j (List.mem_range.1 hj)
/-- a row of the call's own; v: the slice; what the elements lead to: at or above base, below hi. -/
def OwnE (T : TypeId) (m : Nat) (w : World) (base : Nat) (v : Value) (n : Nat) (els : List (List Dat)) (hi : Nat) : Prop :=
  ∃ (U : Nat → Nat → Value) (G : Nat → Nat → List Nat), els.length = n ∧ w.ownsRow base T m v n (ecs m U n) ∧ (∀ i, i < n → ∀ j, j < m → Hd w (At els i j) (U i j) (G i j)) ∧ (fam n m G).Nodup ∧
    (∀ i, i < n → ∀ j, j < m → ∀ b ∈ G i j, base ≤ b ∧ b < hi ∧ Thaw w b ∧ v.ownBlock ≠ some b) ∧ (∀ g, v.ownBlock = some g → g < hi)
theorem OwnE.nil (T : TypeId) (m : Nat) (w : World) (base hi : Nat) : OwnE T m w base (.slice none 0 0) 0 [] hi :=
  ⟨fun _ _ => .bool true, fun _ _ => [], rfl, World.ownsRow_nil w base _ _, fun i hi => absurd hi (by omega), by simp [fam], fun i hi => absurd hi (by omega), fun g hg => by simp [Value.ownBlock] at hg⟩
theorem OwnE.keep {T : TypeId} {m : Nat} {w w' : World} {base hi n : Nat} {v : Value} {els : List (List Dat)} (h : OwnE T m w base v n els hi) {q : Option Nat} (hc : w.grownBy w' q) (hq : ∀ b, q = some b → b < base ∨ hi ≤ b) : OwnE T m w' base v n els hi := by
  obtain ⟨U, G, h1, h2, h3, h4, h5, h6⟩ := h
  have hne : ∀ b, base ≤ b → b < hi → some b ≠ q := fun b hb hb2 e => by have := hq b e.symm; omega
  refine ⟨U, G, h1, h2.kept hc ?_, fun i hi' j hj => ?_, h4, fun i hi' j hj b hb => ?_, h6⟩
  · cases hv : v.ownBlock with
    | none => exact .inl rfl
    | some g => exact .inr (hne g (h2.lt g hv).1 (h6 g hv))
  · exact (h3 i hi' j hj).keep fun b hb k => World.cell?_of_block (hc.block b ((h3 i hi' j hj).lt b hb) (hne b (h5 i hi' j hj b hb).1 (h5 i hi' j hj b hb).2.1))
  · obtain ⟨a1, a2, a3, a4⟩ := h5 i hi' j hj b hb
    refine ⟨a1, a2, fun k => ?_, a4⟩
    rw [← a3 k]
    unfold World.frozen?
    rw [hc.block b ((h3 i hi' j hj).lt b hb) (hne b a1 a2)]
theorem OwnE.below {T : TypeId} {m : Nat} {w w' : World} {base hi n : Nat} {v : Value} {els : List (List Dat)} (h : OwnE T m w base v n els hi) (hb : Below w.heap.size w w') : OwnE T m w' base v n els hi := h.keep (q := none) ⟨hb.os, hb.tape, hb.output, hb.size, fun k hk _ => hb.block k hk⟩ (fun b e => by cases e)
theorem OwnE.mono {T : TypeId} {m : Nat} {w : World} {base hi hi' n : Nat} {v : Value} {els : List (List Dat)} (h : OwnE T m w base v n els hi) (hh : hi ≤ hi') : OwnE T m w base v n els hi' := by
  obtain ⟨U, G, h1, h2, h3, h4, h5, h6⟩ := h
  exact ⟨U, G, h1, h2, h3, h4, fun i hi' j hj b hb => by obtain ⟨a1, a2, a3, a4⟩ := h5 i hi' j hj b hb; exact ⟨a1, by omega, a3, a4⟩, fun g hg => by have := h6 g hg; omega⟩
theorem OwnE.set {T : TypeId} {m : Nat} {w : World} {base hi n : Nat} {v : Value} {els : List (List Dat)} (h : OwnE T m w base v n els hi) {b : Nat} (hb : b < base ∨ hi ≤ b) (i : Nat) (x : Value) : OwnE T m (w.setCell ⟨b, i, none⟩ x) base v n els hi :=
  h.keep (q := some b) ⟨rfl, rfl, rfl, by simp [World.setCell], fun k _ hn => Below.heap_setCell _ _ _ _ (fun e => hn (by rw [e]))⟩ (fun c e => by injection e with e; omega)
theorem OwnE.form {T : TypeId} {m : Nat} {w : World} {base hi n : Nat} {v : Value} {els : List (List Dat)} (h : OwnE T m w base v n els hi) : ∃ A c, v = .slice A n c := by
  obtain ⟨U, G, h1, h2, h3, h4, h5, h6⟩ := h
  rcases h2.2 with ⟨rfl, hn⟩ | ⟨g, cap, cur, rfl, b1, b2, b3, b4, b5, b6⟩
  · obtain rfl : n = 0 := hn
    exact ⟨_, _, rfl⟩
  · exact ⟨_, _, rfl⟩
/-- the m values of an element, with memory of their own. -/
def OwnX (m : Nat) (w : World) (ds : List Dat) (X : Nat → Value) (lo hi : Nat) : Prop :=
  ∃ G : Nat → List Nat, (∀ j, j < m → Hd w (ds.getD j default) (X j) (G j)) ∧ ((List.range m).flatMap G).Nodup ∧ ∀ j, j < m → ∀ b ∈ G j, lo ≤ b ∧ b < hi ∧ Thaw w b
theorem OwnX.one {w : World} {d : Dat} {v : Value} {lo hi : Nat} (h : Own w d v lo hi) : OwnX 1 w [d] (fun _ => v) lo hi := by
  obtain ⟨bs, h1, h2, h3⟩ := h
  refine ⟨fun _ => bs, fun j hj => ?_, by simpa using h2, fun j hj b hb => h3 b hb⟩
  obtain rfl : j = 0 := by omega
  exact h1
theorem OwnX.below {m : Nat} {w w' : World} {ds : List Dat} {X : Nat → Value} {lo hi : Nat} (h : OwnX m w ds X lo hi) (hb : Below w.heap.size w w') : OwnX m w' ds X lo hi := by
  obtain ⟨G, h1, h2, h3⟩ := h
  refine ⟨G, fun j hj => (h1 j hj).bel hb, h2, fun j hj b hbb => ⟨(h3 j hj b hbb).1, (h3 j hj b hbb).2.1, fun i => ?_⟩⟩
  rw [hb.frozen (p := ⟨b, i, none⟩) ((h1 j hj).lt b hbb)]
  exact (h3 j hj b hbb).2.2 i
theorem OwnX.mono {m : Nat} {w : World} {ds : List Dat} {X : Nat → Value} {lo hi lo' hi' : Nat} (h : OwnX m w ds X lo hi) (h1 : lo' ≤ lo) (h2 : hi ≤ hi') : OwnX m w ds X lo' hi' := by
  obtain ⟨G, a, b, c⟩ := h
  exact ⟨G, a, b, fun j hj x hx => ⟨by have := (c j hj x hx).1; omega, by have := (c j hj x hx).2.1; omega, (c j hj x hx).2.2⟩⟩
/-- one element more. -/
theorem OwnE.push {T : TypeId} {m : Nat} {w w' : World} {base mid n lo top : Nat} {v v' : Value} {els : List (List Dat)} {ds : List Dat} {X : Nat → Value} {U : Nat → Nat → Value} {G : Nat → Nat → List Nat}
    (h1 : els.length = n) (h3 : ∀ i, i < n → ∀ j, j < m → Hd w (At els i j) (U i j) (G i j)) (h4 : (fam n m G).Nodup)
    (h5 : ∀ i, i < n → ∀ j, j < m → ∀ b ∈ G i j, base ≤ b ∧ b < mid ∧ Thaw w b ∧ v.ownBlock ≠ some b) (h6 : ∀ g, v.ownBlock = some g → g < mid)
    (hx : OwnX m w ds X lo top) (hlo : mid ≤ lo) (htop : top ≤ w.heap.size) (hbm : base ≤ mid)
    (ho : w'.ownsRow base T m v' (n + 1) (ecs m U n ++ (List.range m).map X)) (hg : w.grownBy w' v.ownBlock) (hat : v'.ownBlock = v.ownBlock ∨ v'.ownBlock = some w.heap.size) :
    OwnE T m w' base v' (n + 1) (els ++ [ds]) w'.heap.size := by
  subst h1
  obtain ⟨H, x1, x2, x3⟩ := hx
  have hnew : ∀ j, j < m → ∀ b ∈ H j, some b ≠ v.ownBlock := fun j hj b hb e => by have := h6 b e.symm; have := (x3 j hj b hb).1; omega
  have a1 : ∀ i j, i < els.length → At (els ++ [ds]) i j = At els i j := fun i j hi => by unfold At; congr 1; simp only [List.getD]; rw [List.getElem?_append_left hi]
  have a2 : ∀ j, At (els ++ [ds]) els.length j = ds.getD j default := fun j => by unfold At; simp [List.getD]
  refine ⟨fun i j => if i < els.length then U i j else X j, fun i j => if i < els.length then G i j else H j, by simp, ?_, fun i hi j hj => ?_, ?_, fun i hi j hj b hb => ?_, fun g hgv => (ho.lt g hgv).2⟩
  · rw [ecs_succ]
    have e1 : ecs m (fun i j => if i < els.length then U i j else X j) els.length = ecs m U els.length := ecs_congr fun i hi j _ => by simp [hi]
    rw [e1]
    simpa using ho
  · by_cases e : i < els.length
    · simp only [e, if_true]
      rw [a1 i j e]
      exact (h3 i e j hj).keep fun b hb k => World.cell?_of_block (hg.block b ((h3 i e j hj).lt b hb) (fun e' => (h5 i e j hj b hb).2.2.2 e'.symm))
    · obtain rfl : i = els.length := by omega
      simp only [e, if_false]
      rw [a2]
      exact (x1 j hj).keep fun b hb k => World.cell?_of_block (hg.block b ((x1 j hj).lt b hb) (hnew j hj b hb))
  · have e1 : fam (els.length + 1) m (fun i j => if i < els.length then G i j else H j) = fam els.length m G ++ (List.range m).flatMap H := by
      unfold fam
      rw [List.range_succ, List.flatMap_append]
      congr 1
      · exact fmE fun i hi => by
          refine fmE fun j _ => ?_
          simp [hi]
      · simp
    rw [e1]
    refine List.nodup_append.2 ⟨h4, x2, fun a ha b hb e => ?_⟩
    obtain ⟨i, hi, j, hj, ha⟩ := mem_fam.1 ha
    simp only [List.mem_flatMap, List.mem_range] at hb
    obtain ⟨k, hk, hb⟩ := hb
    have := (h5 i hi j hj a ha).2.1
    have := (x3 k hk b hb).1
    omega
  · have hcore : base ≤ b ∧ b < w.heap.size ∧ Thaw w b ∧ v.ownBlock ≠ some b := by
      by_cases e : i < els.length
      · simp only [e, if_true] at hb
        obtain ⟨c1, c2, c3, c4⟩ := h5 i e j hj b hb
        exact ⟨c1, (h3 i e j hj).lt b hb, c3, c4⟩
      · simp only [e, if_false] at hb
        obtain ⟨c1, c2, c3⟩ := x3 j hj b hb
        exact ⟨by omega, by omega, c3, fun e' => hnew j hj b hb e'.symm⟩
    obtain ⟨c1, c2, c3, c4⟩ := hcore
    refine ⟨c1, by have := hg.size; omega, fun k => ?_, fun e => ?_⟩
    · rw [← c3 k]
      unfold World.frozen?
      rw [hg.block b c2 (fun e' => c4 e'.symm)]
    · rcases hat with hh | hh
      · exact c4 (hh ▸ e)
      · rw [hh] at e; injection e with e; omega
/-- it reads as a list of one's own. -/
theorem OwnE.own {T : TypeId} {m : Nat} (hm : 0 < m) {w : World} {base hi n : Nat} {v : Value} {els : List (List Dat)} (h : OwnE T m w base v n els hi) : Own w (.sl m els) v base hi := by
  obtain ⟨U, G, h1, h2, h3, h4, h5, h6⟩ := h
  subst h1
  rcases h2.2 with ⟨rfl, hn⟩ | ⟨g, cap, cur, rfl, b1, b2, b3, b4, b5, b6⟩
  · obtain rfl : els = [] := List.eq_nil_of_length_eq_zero hn
    exact Own.snil _ _ _ _ _ _ (Nat.zero_le _)
  · rcases Nat.eq_zero_or_pos els.length with hn | hn
    · obtain rfl : els = [] := List.eq_nil_of_length_eq_zero hn
      exact Own.snil _ _ _ _ _ _ b4
    · refine ⟨_, .sl m g 0 els.length cap els U G hn hm rfl (fun i hi' j hj => ?_) (fun i hi' j hj => h3 i hi' j hj) b3 b4, ?_, fun b hb => ?_⟩
      · have hlen := ecs_len m U els.length
        have hlt : i * m + j < (ecs m U els.length).length := by
          rw [hlen]
          have := Nat.mul_le_mul_right m (Nat.succ_le_of_lt hi')
          rw [Nat.succ_mul] at this
          omega
        have hc := h2.cellAt (i * m + j) (by rw [hlen] at hlt; exact hlt)
        rw [Nat.zero_add, hc]
        exact ecs_at U hi' hj
      · refine List.nodup_cons.2 ⟨fun hmm => ?_, h4⟩
        obtain ⟨i, hi', j, hj, hmm⟩ := mem_fam.1 hmm
        exact (h5 i hi' j hj g hmm).2.2.2 rfl
      · rcases List.mem_cons.1 hb with rfl | hb
        · exact ⟨b1, h6 _ rfl, fun j => h2.frozenAt j⟩
        · obtain ⟨i, hi', j, hj, hb⟩ := mem_fam.1 hb
          obtain ⟨c1, c2, c3, _⟩ := h5 i hi' j hj b hb
          exact ⟨c1, c2, c3⟩
/-- a type of elements of m cells. -/
structure Ety (ts T : TypeId) (m by_ : Nat) : Prop where
  u : Try.prog.underlying ts = some (.slice T)
  inf : ∃ i z, Try.prog.info? T = some i ∧ i.zero = some z ∧ i.size = m ∧ i.bytes = by_ ∧ z.cells.size = m
  pos : 0 < m
  le : by_ ≤ 1000
theorem run_append_owne {ts T : TypeId} {m by_ : Nat} (E : Ety ts T m by_) (w : World) (ty : TypeId) (base : Nat) (v : Value) (n : Nat) (els : List (List Dat)) (mid : Nat) (h : OwnE T m w base v n els mid) (ds : List Dat) (X : Nat → Value) (lo top : Nat) (hx : OwnX m w ds X lo top)
    (q c : Nat) (hq : ∀ j, j < m → w.cell? ⟨q, j, none⟩ = some (X j)) (h1c : ∀ j, j < m → (X j).oneCell' = true) (h63 : n ≤ 1000000) (hlo : mid ≤ lo) (htop : top ≤ w.heap.size) (hbm : base ≤ mid) (hmw : mid ≤ w.heap.size) :
    ∃ v' w', (Builtin.append_ #[ts, ts] ty #[v, .slice (some ⟨q, 0, none⟩) 1 c]).run Try.prog w = .ok v' w' ∧ OwnE T m w' base v' (n + 1) (els ++ [ds]) w'.heap.size ∧ Below base w w' := by
  obtain ⟨i, z, hi, hz, hs, hb, hzs⟩ := E.inf
  obtain ⟨U, G, a1, a2, a3, a4, a5, a6⟩ := h
  have hby : (n + 1) * by_ ≤ 140737488355328 := Nat.le_trans (Nat.mul_le_mul (show n + 1 ≤ 1000001 by omega) E.le) (by omega)
  obtain ⟨v', w', e1, e2, e3, e4, e5⟩ := run_append_own_at (P := Try.prog) w base ts ty T i z m by_ E.u hi hz hs hb hzs E.pos v n _ a2 ⟨q, 0, none⟩ 1 c ((List.range m).map X) (by simp) (by
    intro j u hj
    have hjm : j < m := by
      have := (List.getElem?_eq_some_iff.1 hj).1
      simpa using this
    have : u = X j := by
      have := hj
      simp [hjm] at this
      exact this.symm
    rw [this]
    have := hq j hjm
    have e : (({ block := q, off := 0 } : Addr).add j) = ⟨q, j, none⟩ := by unfold Addr.add; split <;> simp_all
    rw [e]; exact this) (by
    intro u hu
    simp only [List.mem_map, List.mem_range] at hu
    obtain ⟨j, hj, rfl⟩ := hu
    exact h1c j hj) (by unfold maxLen; omega) hby (by omega)
  exact ⟨v', w', e1, OwnE.push a1 a3 a4 a5 a6 hx hlo htop hbm e2 e3 e5, gb_low' e3 (fun g hg => (World.ownsRow.lt a2 g hg).1) (Nat.le_refl _) (by omega)⟩
theorem wpList_append_owne {ts T : TypeId} {m by_ : Nat} (E : Ety ts T m by_) (w : World) {ops : Array Oper} {rest : List Oper} {o : Oper} {a : Act} {Q : Exit → Act → World → Prop} (hgd : o.guard = none) (s x : Operand)
    (ho : o.op = .call { callee := .builtin .append, args := #[s, x], argTypes := #[ts, ts] })
    (base : Nat) (v : Value) (n : Nat) (els : List (List Dat)) (mid : Nat) (hs : a.eval s = v) (h : OwnE T m w base v n els mid) (ds : List Dat) (X : Nat → Value) (lo top : Nat) (hx : OwnX m w ds X lo top)
    (q c : Nat) (hxx : a.eval x = .slice (some ⟨q, 0, none⟩) 1 c) (hq : ∀ j, j < m → w.cell? ⟨q, j, none⟩ = some (X j)) (h1c : ∀ j, j < m → (X j).oneCell' = true) (h63 : n ≤ 1000000) (hlo : mid ≤ lo) (htop : top ≤ w.heap.size) (hbm : base ≤ mid) (hmw : mid ≤ w.heap.size)
    (K : ∀ A c' w', OwnE T m w' base (.slice A (n + 1) c') (n + 1) (els ++ [ds]) w'.heap.size → Below base w w' → wpList Try.prog ops Q rest (a.put o.dst (.slice A (n + 1) c')) w') : wpList Try.prog ops Q (o :: rest) a w := by
  obtain ⟨v', w', e1, e2, e3⟩ := run_append_owne E w o.type base v n els mid h ds X lo top hx q c hq h1c h63 hlo htop hbm hmw
  obtain ⟨A, c', rfl⟩ := e2.form
  refine wpList_plain hgd fun K' hK => ?_
  unfold Oper.wp execOp
  simp only [ho, resolve, invoke, builtin, Sem.run_bind, Sem.run_pure, Result.andThen_ok, List.map_toArray, List.map_cons, List.map_nil, hs, hxx, e1]
  exact hK _ _ (K A c' w' e2 e3)
/-- the same in a drawn region. -/
theorem step_append_owne {ts T : TypeId} {m by_ : Nat} (E : Ety ts T m by_) (w : World) {ops : Array Oper} {op : Oper} {a : Act} {K : Act → World → Prop} {Q : Exit → Act → World → Prop} {EE : Prop} (hgd : op.guard = none) (s x : Operand)
    (ho : op.op = .call { callee := .builtin .append, args := #[s, x], argTypes := #[ts, ts] })
    (base : Nat) (v : Value) (n : Nat) (els : List (List Dat)) (mid : Nat) (hs : a.eval s = v) (h : OwnE T m w base v n els mid) (ds : List Dat) (X : Nat → Value) (lo top : Nat) (hx : OwnX m w ds X lo top)
    (q c : Nat) (hxx : a.eval x = .slice (some ⟨q, 0, none⟩) 1 c) (hq : ∀ j, j < m → w.cell? ⟨q, j, none⟩ = some (X j)) (h1c : ∀ j, j < m → (X j).oneCell' = true) (h63 : n ≤ 1000000) (hlo : mid ≤ lo) (htop : top ≤ w.heap.size) (hbm : base ≤ mid) (hmw : mid ≤ w.heap.size)
    (H : ∀ A c' w', OwnE T m w' base (.slice A (n + 1) c') (n + 1) (els ++ [ds]) w'.heap.size → Below base w w' → K (a.put op.dst (.slice A (n + 1) c')) w') : if Region.wanted op (yielded ops a.tmps) = true then Oper.wp Try.prog op a w K Q else EE := by
  have hwn : Region.wanted op (yielded ops a.tmps) = true := by simp [Region.wanted, hgd]
  rw [if_pos hwn]
  obtain ⟨v', w', e1, e2, e3⟩ := run_append_owne E w op.type base v n els mid h ds X lo top hx q c hq h1c h63 hlo htop hbm hmw
  obtain ⟨A, c', rfl⟩ := e2.form
  unfold Oper.wp execOp
  simp only [ho, resolve, invoke, builtin, Sem.run_bind, Sem.run_pure, Result.andThen_ok, List.map_toArray, List.map_cons, List.map_nil, hs, hxx, e1]
  exact H A c' w' e2 e3
end Go.Proofs.Ytlfdpambbgddoaa
