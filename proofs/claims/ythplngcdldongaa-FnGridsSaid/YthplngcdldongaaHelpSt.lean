/-
  Stages and chains: their data (Stg, chD); the laws' helpers over lists of curves, stages, lists of stages and chains: eq, sz, to.
  Stages and chains as the frame hands them, as data in known blocks.
-/
import Derived.Test.YthplngcdldongaaHelpA
import Derived.Test.YthplngcdldongaaBaseA
import Derived.Test.YthplngcdldongaaOpenB
namespace Go.Proofs.Ythplngcdldongaa
open Go.RowKit
set_option linter.unusedVariables false
set_option linter.unusedSimpArgs false

/-! ### curves in a list: they lie as rows do -/
/-! ### stages -/
structure Stg where
  kd : Int
  cs : Rws
  rs : Rws
  sd : Int
  ns : Rws
def stZ : Stg := ⟨0, [], [], 0, []⟩
def stD (t : Stg) : List Dat := [.int .i64 t.kd, rowsD t.cs, rowsD t.rs, .int .i64 t.sd, rowsD t.ns]
def st_ (ts : List Stg) (i : Nat) : Stg := ts.getD i stZ
def chD (ts : List Stg) : Dat := .sl 5 (ts.map stD)
theorem st_el {ts : List Stg} {i : Nat} (h : i < ts.length) : (ts.map stD).getD i [] = stD (st_ ts i) := by simp [st_, List.getD, h]
theorem Hd.sl_form {w : World} {m : Nat} {els : List (List Dat)} {v : Value} {bs : List Nat} (h : Hd w (.sl m els) v bs) : ∃ A n c, v = .slice A n c := by
  cases h with
  | sl0 _ A c _ => exact ⟨A, 0, c, rfl⟩
  | sl _ b o n c _ _ _ _ _ _ _ _ _ _ => exact ⟨_, n, c, rfl⟩
/-- what a stage's lists lead to. -/
structure HdSt (w : World) (t : Stg) (A1 : Option Addr) (n1 c1 : Nat) (A2 : Option Addr) (n2 c2 : Nat) (A3 : Option Addr) (n3 c3 : Nat) : Prop where
  a : ∃ bs, Hd w (rowsD t.cs) (.slice A1 n1 c1) bs
  b : ∃ bs, Hd w (rowsD t.rs) (.slice A2 n2 c2) bs
  d : ∃ bs, Hd w (rowsD t.ns) (.slice A3 n3 c3) bs
section
variable {w w' : World} {t : Stg} {A1 : Option Addr} {n1 c1 : Nat} {A2 : Option Addr} {n2 c2 : Nat} {A3 : Option Addr} {n3 c3 : Nat}
theorem HdSt.bel (h : HdSt w t A1 n1 c1 A2 n2 c2 A3 n3 c3) (hb : Below w.heap.size w w') : HdSt w' t A1 n1 c1 A2 n2 c2 A3 n3 c3 :=
  ⟨⟨_, h.a.choose_spec.bel hb⟩, ⟨_, h.b.choose_spec.bel hb⟩, ⟨_, h.d.choose_spec.bel hb⟩⟩
theorem HdSt.alloc (h : HdSt w t A1 n1 c1 A2 n2 c2 A3 n3 c3) (o : Obj) : HdSt (w.alloc o) t A1 n1 c1 A2 n2 c2 A3 n3 c3 := h.bel (blAlloc _ _)
end
/-- the k-th stage of a list. -/
theorem Hd.stg {w : World} {ts : List Stg} {A : Option Addr} {n c : Nat} {bs : List Nat} (h : Hd w (chD ts) (.slice A n c) bs) {k : Nat} (hk : k < n) :
    ∃ b o A1 n1 c1 A2 n2 c2 A3 n3 c3, A = some ⟨b, o, none⟩ ∧ w.cell? ⟨b, o + k * 5, none⟩ = some (.int .i64 (st_ ts k).kd) ∧ w.cell? ⟨b, o + k * 5 + 1, none⟩ = some (.slice A1 n1 c1) ∧ w.cell? ⟨b, o + k * 5 + 2, none⟩ = some (.slice A2 n2 c2) ∧
      w.cell? ⟨b, o + k * 5 + 3, none⟩ = some (.int .i64 (st_ ts k).sd) ∧ w.cell? ⟨b, o + k * 5 + 4, none⟩ = some (.slice A3 n3 c3) ∧ HdSt w (st_ ts k) A1 n1 c1 A2 n2 c2 A3 n3 c3 := by
  obtain ⟨hl, _, _, hf⟩ := h.sl_inv
  rw [List.length_map] at hl
  obtain ⟨b, o, V, G, rfl, _, hr, hh, _⟩ := hf (by omega)
  have e : ∀ j, j < 5 → Hd w ((stD (st_ ts k)).getD j default) (V k j) (G k j) := fun j hj => by
    have := hh k hk j hj
    rwa [st_el (by omega)] at this
  obtain ⟨A1, n1, c1, e1⟩ := Hd.sl_form (e 1 (by omega))
  obtain ⟨A2, n2, c2, e2⟩ := Hd.sl_form (e 2 (by omega))
  obtain ⟨A3, n3, c3, e3⟩ := Hd.sl_form (e 4 (by omega))
  have e0 : V k 0 = .int .i64 (st_ ts k).kd := Hd.int_inv (e 0 (by omega))
  have e4 : V k 3 = .int .i64 (st_ ts k).sd := Hd.int_inv (e 3 (by omega))
  refine ⟨b, o, A1, n1, c1, A2, n2, c2, A3, n3, c3, rfl, ?_, ?_, ?_, ?_, ?_, ⟨⟨_, e1 ▸ e 1 (by omega)⟩, ⟨_, e2 ▸ e 2 (by omega)⟩, ⟨_, e3 ▸ e 4 (by omega)⟩⟩⟩
  · rw [← e0]; exact hr k hk 0 (by omega)
  · rw [← e1]; exact hr k hk 1 (by omega)
  · rw [← e2]; exact hr k hk 2 (by omega)
  · rw [← e4]; exact hr k hk 3 (by omega)
  · rw [← e3]; exact hr k hk 4 (by omega)
theorem Hd.stgs {w : World} {ts : List Stg} {A : Option Addr} {n c : Nat} {bs : List Nat} (h : Hd w (chD ts) (.slice A n c) bs) : ts.length = n ∧ n ≤ c ∧ c ≤ maxLen := by
  obtain ⟨hl, hc, hm, _⟩ := h.sl_inv
  rw [List.length_map] at hl
  exact ⟨hl, hc, hm⟩
def StSmall (t : Stg) : Prop := RsSmall t.cs ∧ RsSmall t.rs ∧ RsSmall t.ns
def ChSmall (ts : List Stg) : Prop := ts.length ≤ 1048576 ∧ ∀ i, i < ts.length → StSmall (st_ ts i)

/-! ### eq -/
structure EqSt (w w' : World) (t : Stg) (A1 : Option Addr) (n1 c1 : Nat) (A2 : Option Addr) (n2 c2 : Nat) (A3 : Option Addr) (n3 c3 : Nat) (B1 : Option Addr) (m1 d1 : Nat) (B2 : Option Addr) (m2 d2 : Nat) (B3 : Option Addr) (m3 d3 : Nat) : Prop where
  a : HdSt w' t A1 n1 c1 A2 n2 c2 A3 n3 c3
  b : HdSt w' t B1 m1 d1 B2 m2 d2 B3 m3 d3
  c : Below w.heap.size w w'
theorem EqSt.below {w w1 w' : World} {t : Stg} {A1 : Option Addr} {n1 c1 : Nat} {A2 : Option Addr} {n2 c2 : Nat} {A3 : Option Addr} {n3 c3 : Nat} {B1 : Option Addr} {m1 d1 : Nat} {B2 : Option Addr} {m2 d2 : Nat} {B3 : Option Addr} {m3 d3 : Nat}
    (h : EqSt w w1 t A1 n1 c1 A2 n2 c2 A3 n3 c3 B1 m1 d1 B2 m2 d2 B3 m3 d3) (hb : Below w1.heap.size w1 w') : EqSt w w' t A1 n1 c1 A2 n2 c2 A3 n3 c3 B1 m1 d1 B2 m2 d2 B3 m3 d3 :=
  ⟨h.a.bel hb, h.b.bel hb, blThen h.c hb⟩

/-! ### sz -/
/-! ### to -/
/-- a stage's three lists, in new memory, one behind the other. -/
structure OwnSt (w : World) (t : Stg) (B1 : Option Addr) (n1 : Nat) (B2 : Option Addr) (n2 : Nat) (B3 : Option Addr) (n3 : Nat) (lo p q hi : Nat) : Prop where
  a : Own w (rowsD t.cs) (.slice B1 n1 n1) lo p
  b : Own w (rowsD t.rs) (.slice B2 n2 n2) p q
  d : Own w (rowsD t.ns) (.slice B3 n3 n3) q hi
  le : lo ≤ p ∧ p ≤ q ∧ q ≤ hi
theorem OwnSt.hd {w : World} {t : Stg} {B1 : Option Addr} {n1 : Nat} {B2 : Option Addr} {n2 : Nat} {B3 : Option Addr} {n3 : Nat} {lo p q hi : Nat} (h : OwnSt w t B1 n1 B2 n2 B3 n3 lo p q hi) : HdSt w t B1 n1 n1 B2 n2 n2 B3 n3 n3 := ⟨h.a.hd, h.b.hd, h.d.hd⟩
def ToSt (w : World) (t : Stg) (n1 n2 n3 : Nat) (e : Ending) (w' : World) : Prop :=
  ∃ B1 B2 B3 p q, e = .returned (.agg #[.int .i64 t.kd, .slice B1 n1 n1, .slice B2 n2 n2, .int .i64 t.sd, .slice B3 n3 n3]) ∧ OwnSt w' t B1 n1 B2 n2 B3 n3 w.heap.size p q w'.heap.size ∧ Below w.heap.size w w'
def partS (ts : List Stg) (k : Nat) : List (List Dat) := (List.range ts.length).map fun i => if i < k then stD (st_ ts i) else stD stZ
theorem partS_zero (ts : List Stg) : partS ts 0 = List.replicate ts.length (stD stZ) := by
  unfold partS
  refine List.ext_getElem (by simp) (fun i h1 h2 => ?_)
  simp
theorem partS_wide {ts : List Stg} {k i : Nat} (hi : i < ts.length) : ((partS ts k).getD i []).length = 5 := by
  unfold partS; rw [el_range hi]; split <;> rfl
theorem partS_old {ts : List Stg} {k : Nat} (hk : k < ts.length) (j : Nat) : At (partS ts k) k j = (stD stZ).getD j default := by
  unfold partS; rw [at_range hk, if_neg (by omega)]
theorem zero_stage (w : World) (j : Nat) (hj : j < (#[.int .i64 0, .slice none 0 0, .slice none 0 0, .int .i64 0, .slice none 0 0] : Array Value).size) : Hd w ((stD stZ).getD j default) ((#[.int .i64 0, .slice none 0 0, .slice none 0 0, .int .i64 0, .slice none 0 0] : Array Value)[j]) [] := by
  match j, hj with
  | 0, _ => exact .int _ _
  | 1, _ => exact .sl0 _ _ _ (Nat.zero_le _)
  | 2, _ => exact .sl0 _ _ _ (Nat.zero_le _)
  | 3, _ => exact .int _ _
  | 4, _ => exact .sl0 _ _ _ (Nat.zero_le _)
theorem partS_all (ts : List Stg) : partS ts ts.length = ts.map stD := by
  unfold partS
  refine List.ext_getElem (by simp) (fun i h1 h2 => ?_)
  have : i < ts.length := by simpa using h1
  simp [this, st_, List.getD]
/-- one cell of the stage that is being laid. -/
theorem cellS {w : World} {els : List (List Dat)} {n c b o lo mid hi : Nat} {k j : Nat} {x : Value} {d : Dat} (pl : els.length = n) (hk : k < n) (hj : j < 5) (wd : (els.getD k []).length = 5) (h : Own w (.sl 5 els) (.slice (some ⟨b, o, none⟩) n c) lo mid) (h0 : ∀ gs x, Hd w (At els k j) x gs → gs = []) (hx : Own w d x mid hi) (hlo : lo ≤ mid) (hmid : mid ≤ hi) :
    Own (w.setCell ⟨b, o + k * 5 + j, none⟩ x) (.sl 5 (setEl els k j d)) (.slice (some ⟨b, o, none⟩) n c) lo hi :=
  h.fill hk hj h0 hx hlo hmid (put_setEl pl hk (by rw [wd]; exact hj))
/-- one stage more has been laid. -/
theorem partS_step {w : World} {ts : List Stg} {k n c b o lo mid p q hi : Nat} {B1 : Option Addr} {n1 : Nat} {B2 : Option Addr} {n2 : Nat} {B3 : Option Addr} {n3 : Nat} (hl : ts.length = n) (hk : k < n) (h : Own w (.sl 5 (partS ts k)) (.slice (some ⟨b, o, none⟩) n c) lo mid) (hx : OwnSt w (st_ ts k) B1 n1 B2 n2 B3 n3 mid p q hi) (hlo : lo ≤ mid) (hblk : b < mid) :
    Own (((((w.setCell ⟨b, o + k * 5 + 0, none⟩ (.int .i64 (st_ ts k).kd)).setCell ⟨b, o + k * 5 + 1, none⟩ (.slice B1 n1 n1)).setCell ⟨b, o + k * 5 + 2, none⟩ (.slice B2 n2 n2)).setCell ⟨b, o + k * 5 + 3, none⟩ (.int .i64 (st_ ts k).sd)).setCell ⟨b, o + k * 5 + 4, none⟩ (.slice B3 n3 n3)) (.sl 5 (partS ts (k + 1))) (.slice (some ⟨b, o, none⟩) n c) lo hi := by
  obtain ⟨ha, hb', hd, l1, l2, l3⟩ := hx
  have pl : (partS ts k).length = n := by simp [partS, hl]
  have wd : ((partS ts k).getD k []).length = 5 := partS_wide (by omega)
  have s0 := cellS (d := .int .i64 (st_ ts k).kd) pl hk (by omega : 0 < 5) wd h (fun gs x hd => by rw [partS_old (by omega)] at hd; exact hd.flat_int) (Own.int w .i64 _ mid mid) hlo (Nat.le_refl _)
  have pl0 : (setEl (partS ts k) k 0 (.int .i64 (st_ ts k).kd)).length = n := by rw [setEl_len, pl]
  have wd0 : ((setEl (partS ts k) k 0 (.int .i64 (st_ ts k).kd)).getD k []).length = 5 := by rw [setEl_wide, wd]
  have s1 := cellS (d := rowsD (st_ ts k).cs) pl0 hk (by omega : 1 < 5) wd0 s0 (fun gs x hd => by rw [at_setEl (by omega) (by omega), if_neg (by omega), partS_old (by omega)] at hd; exact hd.flat_snil) (ha.set (.inl hblk) _ _) hlo l1
  have pl1 : (setEl (setEl (partS ts k) k 0 (.int .i64 (st_ ts k).kd)) k 1 (rowsD (st_ ts k).cs)).length = n := by rw [setEl_len, pl0]
  have wd1 : ((setEl (setEl (partS ts k) k 0 (.int .i64 (st_ ts k).kd)) k 1 (rowsD (st_ ts k).cs)).getD k []).length = 5 := by rw [setEl_wide, wd0]
  have s2 := cellS (d := rowsD (st_ ts k).rs) pl1 hk (by omega : 2 < 5) wd1 s1 (fun gs x hd => by rw [at_setEl (by omega) (by omega), if_neg (by omega), at_setEl (by omega) (by omega), if_neg (by omega), partS_old (by omega)] at hd; exact hd.flat_snil) ((hb'.set (.inl (by omega)) _ _).set (.inl (by omega)) _ _) (by omega) l2
  have pl2 := setEl_len (setEl (setEl (partS ts k) k 0 (.int .i64 (st_ ts k).kd)) k 1 (rowsD (st_ ts k).cs)) k 2 (rowsD (st_ ts k).rs)
  have wd2 : ((setEl (setEl (setEl (partS ts k) k 0 (.int .i64 (st_ ts k).kd)) k 1 (rowsD (st_ ts k).cs)) k 2 (rowsD (st_ ts k).rs)).getD k []).length = 5 := by rw [setEl_wide, wd1]
  have s3 := cellS (d := .int .i64 (st_ ts k).sd) (pl2.trans pl1) hk (by omega : 3 < 5) wd2 s2 (fun gs x hd => by rw [at_setEl (by omega) (by omega), if_neg (by omega), at_setEl (by omega) (by omega), if_neg (by omega), at_setEl (by omega) (by omega), if_neg (by omega), partS_old (by omega)] at hd; exact hd.flat_int) (Own.int _ .i64 _ q q) (by omega) (Nat.le_refl _)
  have pl3 := setEl_len (setEl (setEl (setEl (partS ts k) k 0 (.int .i64 (st_ ts k).kd)) k 1 (rowsD (st_ ts k).cs)) k 2 (rowsD (st_ ts k).rs)) k 3 (.int .i64 (st_ ts k).sd)
  have wd3 : ((setEl (setEl (setEl (setEl (partS ts k) k 0 (.int .i64 (st_ ts k).kd)) k 1 (rowsD (st_ ts k).cs)) k 2 (rowsD (st_ ts k).rs)) k 3 (.int .i64 (st_ ts k).sd)).getD k []).length = 5 := by rw [setEl_wide, wd2]
  have s4 := cellS (d := rowsD (st_ ts k).ns) (pl3.trans (pl2.trans pl1)) hk (by omega : 4 < 5) wd3 s3 (fun gs x hd => by rw [at_setEl (by omega) (by omega), if_neg (by omega), at_setEl (by omega) (by omega), if_neg (by omega), at_setEl (by omega) (by omega), if_neg (by omega), at_setEl (by omega) (by omega), if_neg (by omega), partS_old (by omega)] at hd; exact hd.flat_snil) ((((hd.set (.inl (by omega)) _ _).set (.inl (by omega)) _ _).set (.inl (by omega)) _ _).set (.inl (by omega)) _ _) (by omega) l3
  refine s4.ext (by rw [setEl_len, pl3, pl2, pl1]; simp [partS, hl]) (fun i hi' j hj => ?_)
  rw [at_setEl (by omega) (by omega), at_setEl (by omega) (by omega), at_setEl (by omega) (by omega), at_setEl (by omega) (by omega), at_setEl (by omega) (by omega)]
  unfold partS
  rw [at_range (by omega), at_range (by omega)]
  by_cases e : i = k
  · subst e
    match j, hj with
    | 0, _ => simp [stD]
    | 1, _ => simp [stD]
    | 2, _ => simp [stD]
    | 3, _ => simp [stD]
    | 4, _ => simp [stD]
  · by_cases h2 : i < k
    · simp [e, h2, show i < k + 1 by omega]
    · simp [e, h2, show ¬ i < k + 1 by omega]
end Go.Proofs.Ythplngcdldongaa
namespace Go.Proofs.Ythplngcdldongaa
open Go.RowKit Go.ChangeShapes Go.WideShapes Go.Deep Go.Joins
set_option linter.unusedVariables false
set_option linter.unusedSimpArgs false

/-- each number of a stage is an int64. -/
structure I64T (t : Stg) : Prop where
  kd : -9223372036854775808 ≤ t.kd ∧ t.kd ≤ 9223372036854775807
  cs : I64R t.cs
  rs : I64R t.rs
  sd : -9223372036854775808 ≤ t.sd ∧ t.sd ≤ 9223372036854775807
  ns : I64R t.ns
def I64C (ts : List Stg) : Prop := ∀ i, I64T (st_ ts i)
theorem st_range {n : Nat} {f : Nat → Stg} {i : Nat} (h : i < n) : st_ ((List.range n).map f) i = f i := by simp [st_, List.getD, h]
theorem st_out {ts : List Stg} {i : Nat} (h : ts.length ≤ i) : st_ ts i = stZ := by simp [st_, List.getD, h]
theorem i64_Z : I64T stZ := ⟨by simp [stZ], fun i j => by simp [stZ, rw_], fun i j => by simp [stZ, rw_], by simp [stZ], fun i j => by simp [stZ, rw_]⟩
section
variable {H : Type} {enc : TypeId × Value → H} {w : World} {base : Nat} {spare : Nat → Bool} {held : Bool}
theorem list5 {α : Type} {cs : List α} (h : cs.length = 5) : ∃ a b c d e, cs = [a, b, c, d, e] := by
  match cs, h with
  | [a, b, c, d, e], _ => exact ⟨a, b, c, d, e, rfl⟩
theorem array5 {α : Type} {cs : Array α} (h : cs.size = 5) : ∃ a b c d e, cs = #[a, b, c, d, e] := by
  obtain ⟨l⟩ := cs
  obtain ⟨a, b, c, d, e, rfl⟩ := list5 h
  exact ⟨a, b, c, d, e, rfl⟩
end
end Go.Proofs.Ythplngcdldongaa
