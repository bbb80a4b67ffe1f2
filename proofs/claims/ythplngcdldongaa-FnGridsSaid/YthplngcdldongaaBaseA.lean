/-
  Memory, for every seat: a slice that reads as a list (Rd), data with depth that lie in known blocks (Dat, Hd), blocks of one's own (Own), what has turned (Ch). No function of the program is named here.
  The laws' helpers over bytes: eqByteS (two lists that are alike), markByteS (marks are written), heldByteS (marks are still there), toByteS (a copy), szByteS.
  Tags as data: a list of tags that lies in memory, one of them looked at, what is left of a size.
  A box of cells that a call has made, as a list of values (Bx): kept, written into, read.
  What a law's walk carries from call to call: arguments (ag), memory of its own in intervals of blocks (os), boxes with known cells (bx).
-/
import Derived.Test.YthplngcdldongaaProg
import Derived.WalkKit
import Derived.RowKitTokens
import Derived.Lib.Hide
import Derived.Deep.QuietTactic
import Derived.BigQuiet
import Derived.IntWalk
import Derived.WalkSpells
import Derived.Laws.BitsAllLaws
import Derived.Deep.OwnRows
import Derived.OpenShut
import Derived.Deep.RegionHeld3
namespace Go.Proofs.Ythplngcdldongaa
open Go.RowKit
set_option linter.unusedVariables false

theorem ret_int {k : IntKind} {a b : Int} (h : a = b) : Ending.returned (.int k a) = .returned (.int k b) := by rw [h]
theorem ret_bool {a b : Bool} (h : a = b) : Ending.returned (.bool a) = .returned (.bool b) := by rw [h]
theorem below_drewN (B n : Nat) (w : World) : Below B w (w.drewN n) := by
  induction n with
  | zero => exact Below.refl _ _
  | succ n ih => exact ih.drew
def inB (v lo hi : Int) : Bool := decide (lo ≤ v ∧ v ≤ hi)
theorem inB_t {v lo hi : Int} (h1 : lo ≤ v) (h2 : v ≤ hi) : inB v lo hi = true := decide_eq_true ⟨h1, h2⟩
theorem inB_lo {v lo hi : Int} (h : v < lo) : inB v lo hi = false := decide_eq_false (by omega)
theorem inB_hi {v lo hi : Int} (h : hi < v) : inB v lo hi = false := decide_eq_false (by omega)
theorem inB_iff {v lo hi : Int} : inB v lo hi = true ↔ (lo ≤ v ∧ v ≤ hi) := by unfold inB; simp
theorem inB_f {v lo hi : Int} (h : inB v lo hi = false) : v < lo ∨ hi < v := by unfold inB at h; simp at h; omega
theorem bcell {W w1 : World} (hb : Below W.heap.size W w1) : (∀ b o, b < W.heap.size → w1.cell? ⟨b, o, none⟩ = W.cell? ⟨b, o, none⟩) ∧ (∀ b o, b < W.heap.size → w1.frozen? ⟨b, o, none⟩ = W.frozen? ⟨b, o, none⟩) :=
  ⟨fun b o h => hb.cell (p := ⟨b, o, none⟩) h, fun b o h => hb.frozen (p := ⟨b, o, none⟩) h⟩
theorem blThen {w W w1 : World} (h : Below w.heap.size w W) (hb : Below W.heap.size W w1) : Below w.heap.size w w1 := h.trans (hb.mono h.size)
theorem blAlloc (w : World) (o : Obj) : Below w.heap.size w (w.alloc o) := (Below.refl _ _).alloc (Nat.le_refl _) o
theorem blThenAlloc {w W : World} (h : Below w.heap.size w W) (o : Obj) : Below w.heap.size w (W.alloc o) := blThen h (blAlloc _ _)
theorem blThenDrew {w W : World} (h : Below w.heap.size w W) (m : Nat) : Below w.heap.size w (W.drewN m) := h.trans (below_drewN _ _ _)
theorem cell_lt {w : World} {b o : Nat} {v : Value} (h : w.cell? ⟨b, o, none⟩ = some v) : b < w.heap.size := by
  rcases Nat.lt_or_ge b w.heap.size with h1 | h1
  · exact h1
  · simp [World.cell?, Array.getElem?_eq_none h1] at h

/-! ### a slice of integers that reads as a list -/
def Rd (k : IntKind) (w : World) (A : Option Addr) (n : Nat) (xs : List Int) : Prop :=
  xs.length = n ∧ (0 < n → ∃ b o, A = some ⟨b, o, none⟩ ∧ ∀ i, i < n → w.cell? ⟨b, o + i, none⟩ = some (.int k (xs.getD i 0)))
theorem Rd.nil {k : IntKind} {w : World} {A : Option Addr} : Rd k w A 0 [] := ⟨rfl, fun h => absurd h (by omega)⟩
theorem Rd.keep {k : IntKind} {w w' : World} {A : Option Addr} {n : Nat} {xs : List Int} (h : Rd k w A n xs)
    (hk : 0 < n → ∀ b o, A = some ⟨b, o, none⟩ → b < w.heap.size → ∀ i, w'.cell? ⟨b, i, none⟩ = w.cell? ⟨b, i, none⟩) : Rd k w' A n xs :=
  ⟨h.1, fun hn => by
    obtain ⟨b, o, e, hc⟩ := h.2 hn
    exact ⟨b, o, e, fun i hi => by rw [hk hn b o e (cell_lt (hc 0 hn))]; exact hc i hi⟩⟩
theorem Rd.below {k : IntKind} {w w' : World} {A : Option Addr} {n : Nat} {xs : List Int} (h : Rd k w A n xs) (hb : Below w.heap.size w w') : Rd k w' A n xs :=
  h.keep fun _ b o _ hlt i => hb.cell (p := ⟨b, i, none⟩) hlt
theorem Rd.drewN {k : IntKind} {w : World} {A : Option Addr} {n : Nat} {xs : List Int} (h : Rd k w A n xs) (m : Nat) : Rd k (w.drewN m) A n xs := h.below (below_drewN _ _ _)
theorem Rd.alloc {k : IntKind} {w : World} {A : Option Addr} {n : Nat} {xs : List Int} (h : Rd k w A n xs) (o : Obj) : Rd k (w.alloc o) A n xs := h.below (blAlloc _ _)

/-- each is a byte. -/
def U8s (xs : List Int) : Prop := ∀ i, 0 ≤ xs.getD i 0 ∧ xs.getD i 0 ≤ 255

/-! ### what has turned -/
structure Ch (w w' : World) (P : Nat → Prop) : Prop where
  os : w'.os = w.os
  tape : w'.tape = w.tape
  output : w'.output = w.output
  size : w.heap.size ≤ w'.heap.size
  block : ∀ k, k < w.heap.size → ¬ P k → w'.heap[k]? = w.heap[k]?
  frozen : ∀ b i, b < w.heap.size → w'.frozen? ⟨b, i, none⟩ = w.frozen? ⟨b, i, none⟩
theorem Ch.refl (w : World) (P : Nat → Prop) : Ch w w P := ⟨rfl, rfl, rfl, Nat.le_refl _, fun _ _ _ => rfl, fun _ _ _ => rfl⟩
theorem Ch.trans {a b c : World} {P : Nat → Prop} (h : Ch a b P) (k : Ch b c P) : Ch a c P :=
  ⟨k.os.trans h.os, k.tape.trans h.tape, k.output.trans h.output, Nat.le_trans h.size k.size, fun i hi hn => (k.block i (Nat.lt_of_lt_of_le hi h.size) hn).trans (h.block i hi hn), fun i j hi => (k.frozen i j (Nat.lt_of_lt_of_le hi h.size)).trans (h.frozen i j hi)⟩
theorem Ch.mono {a b : World} {P Q : Nat → Prop} (h : Ch a b P) (hPQ : ∀ k, P k → Q k) : Ch a b Q :=
  ⟨h.os, h.tape, h.output, h.size, fun i hi hn => h.block i hi (fun hp => hn (hPQ i hp)), h.frozen⟩
theorem Ch.of_below {a b : World} (P : Nat → Prop) (h : Below a.heap.size a b) : Ch a b P :=
  ⟨h.os, h.tape, h.output, h.size, fun i hi _ => h.block i hi, fun i j hi => h.frozen (p := ⟨i, j, none⟩) hi⟩
theorem Ch.setCell (w : World) {P : Nat → Prop} {b : Nat} (hb : P b) (i : Nat) (v : Value) : Ch w (w.setCell ⟨b, i, none⟩ v) P :=
  ⟨rfl, rfl, rfl, by simp [World.setCell], fun k _ hn => Below.heap_setCell _ _ _ _ (fun e => hn (by rw [e]; exact hb)), fun _ _ _ => by simp⟩
theorem Ch.below {a b : World} {P : Nat → Prop} {B : Nat} (h : Ch a b P) (hP : ∀ k, P k → B ≤ k) (hB : B ≤ a.heap.size) : Below B a b :=
  ⟨h.os, h.tape, h.output, h.size, fun i hi => h.block i (by omega) (fun hp => by have := hP i hp; omega)⟩
theorem Ch.cell {a b : World} {P : Nat → Prop} (h : Ch a b P) {k : Nat} (hk : k < a.heap.size) (hn : ¬ P k) (i : Nat) : b.cell? ⟨k, i, none⟩ = a.cell? ⟨k, i, none⟩ :=
  World.cell?_of_block (h.block k hk hn)

/-! ### data with depth -/
inductive Dat where
  | int (k : IntKind) (z : Int)
  | str (s : ByteArray)
  | ints (k : IntKind) (xs : List Int)
  | sl (m : Nat) (els : List (List Dat))
instance : Inhabited Dat := ⟨.int .i64 0⟩

/-- the value v reads as d; bs: the blocks that it leads to, each met once for each list that lies there. -/
inductive Hd (w : World) : Dat → Value → List Nat → Prop
  | int (k : IntKind) (z : Int) : Hd w (.int k z) (.int k z) []
  | str (s : ByteArray) : Hd w (.str s) (.string s) []
  | ints0 (k : IntKind) (A : Option Addr) (c : Nat) (hc : c ≤ maxLen) : Hd w (.ints k []) (.slice A 0 c) []
  | ints (k : IntKind) (b o n c : Nat) (xs : List Int) (hn : 0 < n) (hl : xs.length = n) (hr : ∀ i, i < n → w.cell? ⟨b, o + i, none⟩ = some (.int k (xs.getD i 0))) (hc : n ≤ c) (hm : c ≤ maxLen) :
      Hd w (.ints k xs) (.slice (some ⟨b, o, none⟩) n c) [b]
  | sl0 (m : Nat) (A : Option Addr) (c : Nat) (hc : c ≤ maxLen) : Hd w (.sl m []) (.slice A 0 c) []
  | sl (m b o n c : Nat) (els : List (List Dat)) (V : Nat → Nat → Value) (G : Nat → Nat → List Nat) (hn : 0 < n) (h0 : 0 < m) (hl : els.length = n)
      (hr : ∀ i, i < n → ∀ j, j < m → w.cell? ⟨b, o + i * m + j, none⟩ = some (V i j)) (hh : ∀ i, i < n → ∀ j, j < m → Hd w ((els.getD i []).getD j default) (V i j) (G i j)) (hc : n ≤ c) (hm : c ≤ maxLen) :
      Hd w (.sl m els) (.slice (some ⟨b, o, none⟩) n c) (b :: (List.range n).flatMap fun i => (List.range m).flatMap (G i))

theorem Hd.lt {w : World} {d : Dat} {v : Value} {bs : List Nat} (h : Hd w d v bs) : ∀ b ∈ bs, b < w.heap.size := by
  induction h with
  | int => simp
  | str => simp
  | ints0 => simp
  | ints k b o n c xs hn hl hr hc hm =>
    intro x hx
    obtain rfl : x = b := by simpa using hx
    exact cell_lt (hr 0 hn)
  | sl0 => simp
  | sl m b o n c els V G hn h0 hl hr hh hc hm ih =>
    intro x hx
    rcases List.mem_cons.1 hx with rfl | hx
    · exact cell_lt (hr 0 hn 0 h0)
    · simp only [List.mem_flatMap, List.mem_range] at hx
      obtain ⟨i, hi, j, hj, hx⟩ := hx
      exact ih i hi j hj x hx

theorem Hd.keep {w w' : World} {d : Dat} {v : Value} {bs : List Nat} (h : Hd w d v bs) : (∀ b ∈ bs, ∀ i, w'.cell? ⟨b, i, none⟩ = w.cell? ⟨b, i, none⟩) → Hd w' d v bs := by
  induction h with
  | int k z => exact fun _ => .int k z
  | str s => exact fun _ => .str s
  | ints0 k A c hc => exact fun _ => .ints0 k A c hc
  | ints k b o n c xs hn hl hr hc hm =>
    intro hk
    exact .ints k b o n c xs hn hl (fun i hi => by rw [hk b (by simp)]; exact hr i hi) hc hm
  | sl0 m A c hc => exact fun _ => .sl0 m A c hc
  | sl m b o n c els V G hn h0 hl hr hh hc hm ih =>
    intro hk
    refine .sl m b o n c els V G hn h0 hl (fun i hi j hj => by rw [hk b (by simp)]; exact hr i hi j hj) (fun i hi j hj => ih i hi j hj fun x hx => hk x ?_) hc hm
    refine List.mem_cons_of_mem _ ?_
    simp only [List.mem_flatMap, List.mem_range]
    exact ⟨i, hi, j, hj, hx⟩
theorem Hd.ch {w w' : World} {d : Dat} {v : Value} {bs : List Nat} {P : Nat → Prop} (h : Hd w d v bs) (hc : Ch w w' P) (hn : ∀ b ∈ bs, ¬ P b) : Hd w' d v bs :=
  h.keep fun b hb i => hc.cell (h.lt b hb) (hn b hb) i
theorem Hd.bel {w w' : World} {d : Dat} {v : Value} {bs : List Nat} (h : Hd w d v bs) (hb : Below w.heap.size w w') : Hd w' d v bs :=
  h.keep fun b hb' i => hb.cell (p := ⟨b, i, none⟩) (h.lt b hb')
theorem Hd.alloc {w : World} {d : Dat} {v : Value} {bs : List Nat} (h : Hd w d v bs) (o : Obj) : Hd (w.alloc o) d v bs := h.bel (blAlloc _ _)
theorem Hd.drewN {w : World} {d : Dat} {v : Value} {bs : List Nat} (h : Hd w d v bs) (m : Nat) : Hd (w.drewN m) d v bs := h.bel (below_drewN _ _ _)

/-! lists of integers -/
theorem Hd.ints_inv {w : World} {k : IntKind} {xs : List Int} {v : Value} {bs : List Nat} (h : Hd w (.ints k xs) v bs) :
    ∃ A n c, v = .slice A n c ∧ Rd k w A n xs ∧ n ≤ c ∧ c ≤ maxLen ∧ ((n = 0 ∧ bs = []) ∨ ∃ b o, 0 < n ∧ A = some ⟨b, o, none⟩ ∧ bs = [b]) := by
  cases h with
  | ints0 _ A c hc => exact ⟨A, 0, c, rfl, Rd.nil, Nat.zero_le _, hc, .inl ⟨rfl, rfl⟩⟩
  | ints _ b o n c _ hn hl hr hc hm => exact ⟨_, n, c, rfl, ⟨hl, fun _ => ⟨b, o, rfl, hr⟩⟩, hc, hm, .inr ⟨b, o, hn, rfl, rfl⟩⟩
theorem Hd.rd {w : World} {k : IntKind} {xs : List Int} {A : Option Addr} {n c : Nat} {bs : List Nat} (h : Hd w (.ints k xs) (.slice A n c) bs) : Rd k w A n xs := by
  obtain ⟨A', n', c', e, hr, _⟩ := h.ints_inv
  cases e
  exact hr
theorem Hd.caps {w : World} {d : Dat} {A : Option Addr} {n c : Nat} {bs : List Nat} (h : Hd w d (.slice A n c) bs) : n ≤ c ∧ c ≤ maxLen := by
  cases h with
  | ints0 _ _ _ hc => exact ⟨Nat.zero_le _, hc⟩
  | ints _ _ _ _ _ _ _ _ _ hc hm => exact ⟨hc, hm⟩
  | sl0 _ _ _ hc => exact ⟨Nat.zero_le _, hc⟩
  | sl _ _ _ _ _ _ _ _ _ _ _ _ _ hc hm => exact ⟨hc, hm⟩
theorem Hd.of_rd {w : World} {k : IntKind} {xs : List Int} {A : Option Addr} {n c : Nat} (h : Rd k w A n xs) (hc : n ≤ c) (hm : c ≤ maxLen) :
    ∃ bs, Hd w (.ints k xs) (.slice A n c) bs ∧ bs.Nodup ∧ ∀ b ∈ bs, 0 < n ∧ ∃ o, A = some ⟨b, o, none⟩ := by
  rcases Nat.eq_zero_or_pos n with rfl | hn
  · obtain rfl : xs = [] := List.eq_nil_of_length_eq_zero h.1
    exact ⟨[], .ints0 k A c hm, by simp, by simp⟩
  · obtain ⟨b, o, rfl, hr⟩ := h.2 hn
    exact ⟨[b], .ints k b o n c xs hn h.1 hr hc hm, by simp, by simp [hn]⟩

/-! lists of structs -/
theorem Hd.sl_inv {w : World} {m : Nat} {els : List (List Dat)} {A : Option Addr} {n c : Nat} {bs : List Nat} (h : Hd w (.sl m els) (.slice A n c) bs) :
    els.length = n ∧ n ≤ c ∧ c ≤ maxLen ∧ (0 < n → ∃ (b o : Nat) (V : Nat → Nat → Value) (G : Nat → Nat → List Nat), A = some ⟨b, o, none⟩ ∧ 0 < m ∧ (∀ i, i < n → ∀ j, j < m → w.cell? ⟨b, o + i * m + j, none⟩ = some (V i j)) ∧
      (∀ i, i < n → ∀ j, j < m → Hd w ((els.getD i []).getD j default) (V i j) (G i j)) ∧ bs = b :: (List.range n).flatMap fun i => (List.range m).flatMap (G i)) := by
  cases h with
  | sl0 _ _ _ hc => exact ⟨rfl, Nat.zero_le _, hc, fun h => absurd h (by omega)⟩
  | sl _ b o _ _ _ V G hn h0 hl hr hh hc hm => exact ⟨hl, hc, hm, fun _ => ⟨b, o, V, G, rfl, h0, hr, hh, rfl⟩⟩

/-! ### memory of one's own -/
def Thaw (w : World) (b : Nat) : Prop := ∀ i, w.frozen? ⟨b, i, none⟩ = false
def Own (w : World) (d : Dat) (v : Value) (lo hi : Nat) : Prop := ∃ bs, Hd w d v bs ∧ bs.Nodup ∧ ∀ b ∈ bs, lo ≤ b ∧ b < hi ∧ Thaw w b
theorem Own.ch {w w' : World} {d : Dat} {v : Value} {lo hi : Nat} {P : Nat → Prop} (h : Own w d v lo hi) (hc : Ch w w' P) (hP : ∀ k, lo ≤ k → k < hi → ¬ P k) : Own w' d v lo hi := by
  obtain ⟨bs, h1, h2, h3⟩ := h
  refine ⟨bs, h1.ch hc (fun b hb => hP b (h3 b hb).1 (h3 b hb).2.1), h2, fun b hb => ⟨(h3 b hb).1, (h3 b hb).2.1, fun i => ?_⟩⟩
  rw [hc.frozen b i (h1.lt b hb)]; exact (h3 b hb).2.2 i
theorem Own.below {w w' : World} {d : Dat} {v : Value} {lo hi : Nat} (h : Own w d v lo hi) (hb : Below w.heap.size w w') : Own w' d v lo hi := h.ch (Ch.of_below (fun _ => False) hb) (fun _ _ _ => id)
theorem Own.alloc {w : World} {d : Dat} {v : Value} {lo hi : Nat} (h : Own w d v lo hi) (o : Obj) : Own (w.alloc o) d v lo hi := h.below (blAlloc _ _)
theorem Own.drewN {w : World} {d : Dat} {v : Value} {lo hi : Nat} (h : Own w d v lo hi) (m : Nat) : Own (w.drewN m) d v lo hi := h.below (below_drewN _ _ _)
theorem Own.mono {w : World} {d : Dat} {v : Value} {lo hi lo' hi' : Nat} (h : Own w d v lo hi) (h1 : lo' ≤ lo) (h2 : hi ≤ hi') : Own w d v lo' hi' := by
  obtain ⟨bs, a, b, c⟩ := h
  exact ⟨bs, a, b, fun x hx => ⟨by have := (c x hx).1; omega, by have := (c x hx).2.1; omega, (c x hx).2.2⟩⟩
theorem Own.hd {w : World} {d : Dat} {v : Value} {lo hi : Nat} (h : Own w d v lo hi) : ∃ bs, Hd w d v bs := ⟨_, h.choose_spec.1⟩
/-- a store elsewhere. -/
theorem Own.set {w : World} {d : Dat} {v : Value} {lo hi : Nat} (h : Own w d v lo hi) {b : Nat} (hb : b < lo ∨ hi ≤ b) (i : Nat) (x : Value) : Own (w.setCell ⟨b, i, none⟩ x) d v lo hi :=
  h.ch (Ch.setCell w (P := (· = b)) rfl i x) (fun k h1 h2 e => by subst e; omega)
theorem Hd.set {w : World} {d : Dat} {v : Value} {bs : List Nat} (h : Hd w d v bs) {b : Nat} (hb : b ∉ bs) (i : Nat) (x : Value) : Hd (w.setCell ⟨b, i, none⟩ x) d v bs :=
  h.ch (Ch.setCell w (P := (· = b)) rfl i x) (fun k h1 e => by subst e; exact hb h1)
theorem Thaw.ch {w w' : World} {b : Nat} {P : Nat → Prop} (h : Thaw w b) (hc : Ch w w' P) (hb : b < w.heap.size) : Thaw w' b := fun i => by rw [hc.frozen b i hb]; exact h i
theorem thaw_new (w : World) (cs : Array Value) (t : TypeId) : Thaw (w.alloc (.cells cs t)) w.heap.size := fun i => by simp

/-- a box of two cells. -/
def Box2 (w : World) (g : Nat) (x y : Value) : Prop := w.cell? ⟨g, 0, none⟩ = some x ∧ w.cell? ⟨g, 1, none⟩ = some y
theorem Box2.new (w : World) (t : TypeId) (x y : Value) : Box2 (w.alloc (.cells #[x, y] t)) w.heap.size x y := ⟨by simp, by simp⟩
theorem Box2.below {w w' : World} {g : Nat} {x y : Value} (h : Box2 w g x y) (hb : Below w.heap.size w w') : Box2 w' g x y :=
  ⟨by rw [hb.cell (p := ⟨g, 0, none⟩) (cell_lt h.1)]; exact h.1, by rw [hb.cell (p := ⟨g, 1, none⟩) (cell_lt h.1)]; exact h.2⟩
theorem Box2.alloc {w : World} {g : Nat} {x y : Value} (h : Box2 w g x y) (o : Obj) : Box2 (w.alloc o) g x y := h.below (blAlloc _ _)
theorem Box2.ch {w w' : World} {P : Nat → Prop} {g : Nat} {x y : Value} (h : Box2 w g x y) (hc : Ch w w' P) (hg : ¬ P g) : Box2 w' g x y :=
  ⟨by rw [hc.cell (cell_lt h.1) hg]; exact h.1, by rw [hc.cell (cell_lt h.1) hg]; exact h.2⟩
/-! ### one place of a list of structs: looked at, written, filled -/
def At (els : List (List Dat)) (i j : Nat) : Dat := (els.getD i []).getD j default
/-- els' is els but for the place i, j, where it is d. -/
def Put (m n i j : Nat) (d : Dat) (els els' : List (List Dat)) : Prop :=
  els'.length = n ∧ At els' i j = d ∧ ∀ i', i' < n → ∀ j', j' < m → ¬ (i' = i ∧ j' = j) → At els' i' j' = At els i' j'
def updG (G : Nat → Nat → List Nat) (i j : Nat) (gs : List Nat) : Nat → Nat → List Nat := fun i' j' => if i' = i ∧ j' = j then gs else G i' j'
def updV (V : Nat → Nat → Value) (i j : Nat) (x : Value) : Nat → Nat → Value := fun i' j' => if i' = i ∧ j' = j then x else V i' j'
def fam (n m : Nat) (G : Nat → Nat → List Nat) : List Nat := (List.range n).flatMap fun i => (List.range m).flatMap (G i)
theorem mem_fam {n m : Nat} {G : Nat → Nat → List Nat} {x : Nat} : x ∈ fam n m G ↔ ∃ i, i < n ∧ ∃ j, j < m ∧ x ∈ G i j := by
  unfold fam; simp only [List.mem_flatMap, List.mem_range]
theorem nodup_flat {α : Type} {n : Nat} {f : Nat → List α} (h1 : ∀ i, i < n → (f i).Nodup) (h2 : ∀ i, i < n → ∀ k, k < n → i ≠ k → ∀ x ∈ f i, x ∉ f k) : ((List.range n).flatMap f).Nodup := by
  induction n with
  | zero => simp
  | succ n ih =>
    rw [List.range_succ, List.flatMap_append, List.nodup_append]
    refine ⟨ih (fun i hi => h1 i (by omega)) (fun i hi k hk => h2 i (by omega) k (by omega)), by simpa using h1 n (by omega), ?_⟩
    intro a ha b hb hab
    subst hab
    simp only [List.mem_flatMap, List.mem_range] at ha
    obtain ⟨i, hi, hx⟩ := ha
    exact h2 i (by omega) n (by omega) (by omega) a hx (by simpa using hb)
theorem flat_nodup {α : Type} {n : Nat} {f : Nat → List α} (h : ((List.range n).flatMap f).Nodup) : (∀ i, i < n → (f i).Nodup) ∧ ∀ i, i < n → ∀ k, k < n → i ≠ k → ∀ x ∈ f i, x ∉ f k := by
  induction n with
  | zero => exact ⟨fun i hi => absurd hi (by omega), fun i hi => absurd hi (by omega)⟩
  | succ n ih =>
    rw [List.range_succ, List.flatMap_append, List.nodup_append] at h
    obtain ⟨a, b, c⟩ := h
    obtain ⟨p, q⟩ := ih a
    have b' : (f n).Nodup := by simpa using b
    have c' : ∀ i, i < n → ∀ x ∈ f i, x ∉ f n := fun i hi x hx hx' => c x (by simp only [List.mem_flatMap, List.mem_range]; exact ⟨i, hi, hx⟩) x (by simpa using hx') rfl
    refine ⟨fun i hi => ?_, fun i hi k hk hne x hx hx' => ?_⟩
    · rcases Nat.lt_or_ge i n with h1 | h1
      · exact p i h1
      · obtain rfl : i = n := by omega
        exact b'
    · rcases Nat.lt_or_ge i n with h1 | h1
      · rcases Nat.lt_or_ge k n with h2 | h2
        · exact q i h1 k h2 hne x hx hx'
        · obtain rfl : k = n := by omega
          exact c' i h1 x hx hx'
      · obtain rfl : i = n := by omega
        exact c' k (by omega) x hx' hx
theorem fam_nodup {n m : Nat} {G : Nat → Nat → List Nat} : (fam n m G).Nodup ↔ (∀ i, i < n → ∀ j, j < m → (G i j).Nodup) ∧ ∀ i, i < n → ∀ j, j < m → ∀ i', i' < n → ∀ j', j' < m → ¬ (i' = i ∧ j' = j) → ∀ x ∈ G i j, x ∉ G i' j' := by
  constructor
  · intro h
    obtain ⟨p, q⟩ := flat_nodup h
    refine ⟨fun i hi j hj => (flat_nodup (p i hi)).1 j hj, fun i hi j hj i' hi' j' hj' hne x hx hx' => ?_⟩
    by_cases e : i' = i
    · subst e
      exact (flat_nodup (p i' hi')).2 j hj j' hj' (fun e => hne ⟨rfl, e.symm⟩) x hx hx'
    · exact q i hi i' hi' (fun e' => e e'.symm) x (by simp only [List.mem_flatMap, List.mem_range]; exact ⟨j, hj, hx⟩) (by simp only [List.mem_flatMap, List.mem_range]; exact ⟨j', hj', hx'⟩)
  · rintro ⟨p, q⟩
    refine nodup_flat (fun i hi => nodup_flat (p i hi) (fun j hj j' hj' hne x hx => q i hi j hj i hi j' hj' (fun e => hne e.2.symm) x hx)) (fun i hi k hk hne x hx hx' => ?_)
    simp only [List.mem_flatMap, List.mem_range] at hx hx'
    obtain ⟨j, hj, hx⟩ := hx
    obtain ⟨j', hj', hx'⟩ := hx'
    exact q i hi j hj k hk j' hj' (fun e => hne e.1.symm) x hx hx'

theorem place_inj {i j i' j' m : Nat} (hj : j < m) (hj' : j' < m) (h : i * m + j = i' * m + j') : i' = i ∧ j' = j := by
  have hm : 0 < m := by omega
  have e1 : (i * m + j) / m = i := by rw [Nat.mul_comm, Nat.mul_add_div hm, Nat.div_eq_of_lt hj]; omega
  have e2 : (i' * m + j') / m = i' := by rw [Nat.mul_comm, Nat.mul_add_div hm, Nat.div_eq_of_lt hj']; omega
  have e : i = i' := by rw [← e1, ← e2, h]
  subst e
  omega

/-- the place i, j looked at, and the way back. -/
theorem Hd.focus {w : World} {m b o n c : Nat} {els : List (List Dat)} {bs : List Nat} (h : Hd w (.sl m els) (.slice (some ⟨b, o, none⟩) n c) bs) (nd : bs.Nodup) {i j : Nat} (hi : i < n) (hj : j < m) :
    ∃ x gs, w.cell? ⟨b, o + i * m + j, none⟩ = some x ∧ Hd w (At els i j) x gs ∧ (∀ g ∈ gs, g ∈ bs) ∧ b ∉ gs ∧ gs.Nodup ∧
      ∀ w' d els', Ch w w' (· ∈ gs) → Hd w' d x gs → Put m n i j d els els' → Hd w' (.sl m els') (.slice (some ⟨b, o, none⟩) n c) bs := by
  obtain ⟨hl, hc, hm, hf⟩ := h.sl_inv
  obtain ⟨b', o', V, G, e, h0, hr, hh, rfl⟩ := hf (by omega)
  injection e with e
  injection e with e1 e2
  subst e1 e2
  rw [List.nodup_cons] at nd
  obtain ⟨nd1, nd2⟩ := nd
  have nd2' := fam_nodup.1 nd2
  have nb : ∀ i, i < n → ∀ j, j < m → b ∉ G i j := fun i hi j hj hx => nd1 (mem_fam.2 ⟨i, hi, j, hj, hx⟩)
  refine ⟨V i j, G i j, hr i hi j hj, hh i hi j hj, fun g hg => List.mem_cons_of_mem _ (mem_fam.2 ⟨i, hi, j, hj, hg⟩), nb i hi j hj, nd2'.1 i hi j hj, ?_⟩
  intro w' d els' hch hd hp
  have hb := cell_lt (hr i hi j hj)
  refine .sl m b o n c els' V G (by omega) h0 hp.1 (fun i' hi' j' hj' => ?_) (fun i' hi' j' hj' => ?_) hc hm
  · rw [hch.cell hb (nb i hi j hj)]; exact hr i' hi' j' hj'
  · by_cases e : i' = i ∧ j' = j
    · obtain ⟨rfl, rfl⟩ := e
      show Hd w' (At els' i' j') _ _
      rw [hp.2.1]; exact hd
    · show Hd w' (At els' i' j') _ _
      rw [hp.2.2 i' hi' j' hj' e]
      exact (hh i' hi' j' hj').ch hch (fun g hg hg' => nd2'.2 i' hi' j' hj' i hi j hj (fun e' => e ⟨e'.1.symm, e'.2.symm⟩) g hg hg')

/-- a store at the place i, j of something with blocks gs, where there was something without blocks. -/
theorem Hd.fill {w : World} {m b o n c : Nat} {els els' : List (List Dat)} {bs gs : List Nat} {d : Dat} {x x0 : Value} (h : Hd w (.sl m els) (.slice (some ⟨b, o, none⟩) n c) bs) (nd : bs.Nodup) {i j : Nat} (hi : i < n) (hj : j < m)
    (h0 : ∀ gs x, Hd w (At els i j) x gs → gs = []) (hd : Hd w d x gs) (ndg : gs.Nodup) (dis : ∀ g ∈ gs, g ∉ bs) (hp : Put m n i j d els els') :
    ∃ bs', Hd (w.setCell ⟨b, o + i * m + j, none⟩ x) (.sl m els') (.slice (some ⟨b, o, none⟩) n c) bs' ∧ bs'.Nodup ∧ (∀ y ∈ bs', y ∈ bs ∨ y ∈ gs) ∧ (gs = [] → bs' = bs) := by
  obtain ⟨hl, hc, hm, hf⟩ := h.sl_inv
  obtain ⟨b', o', V, G, e, hm0, hr, hh, rfl⟩ := hf (by omega)
  injection e with e
  injection e with e1 e2
  subst e1 e2
  rw [List.nodup_cons] at nd
  obtain ⟨nd1, nd2⟩ := nd
  have nd2' := fam_nodup.1 nd2
  have nb : ∀ i, i < n → ∀ j, j < m → b ∉ G i j := fun i hi j hj hx => nd1 (mem_fam.2 ⟨i, hi, j, hj, hx⟩)
  have g0 : G i j = [] := h0 _ _ (hh i hi j hj)
  have nbg : b ∉ gs := fun hb => dis b hb (by simp)
  have far : ∀ i', i' < n → ∀ j', j' < m → ∀ g ∈ gs, g ∉ G i' j' := fun i' hi' j' hj' g hg hg' => dis g hg (List.mem_cons_of_mem _ (mem_fam.2 ⟨i', hi', j', hj', hg'⟩))
  have hch : Ch w (w.setCell ⟨b, o + i * m + j, none⟩ x) (· = b) := Ch.setCell w (P := (· = b)) rfl _ x
  refine ⟨b :: fam n m (updG G i j gs), ?_, ?_, ?_, ?_⟩
  · refine .sl m b o n c els' (updV V i j x) (updG G i j gs) (by omega) hm0 hp.1 (fun i' hi' j' hj' => ?_) (fun i' hi' j' hj' => ?_) hc hm
    · by_cases e : i' = i ∧ j' = j
      · obtain ⟨rfl, rfl⟩ := e
        rw [World.cell?_setCell_same' w _ _ (by rw [hr i' hi' j' hj']; rfl)]
        simp [updV]
      · rw [World.cell?_setCell_other _ _ _ _ (by simp only [ne_eq, Addr.mk.injEq, true_and, and_true]; intro e'; exact e (place_inj hj hj' (by omega)))]
        simp only [updV, if_neg e]; exact hr i' hi' j' hj'
    · by_cases e : i' = i ∧ j' = j
      · obtain ⟨rfl, rfl⟩ := e
        show Hd _ (At els' i' j') _ _
        rw [hp.2.1]
        simp only [updV, updG, and_self, if_true]
        exact hd.ch hch (fun y hy e => by subst e; exact nbg hy)
      · show Hd _ (At els' i' j') _ _
        rw [hp.2.2 i' hi' j' hj' e]
        simp only [updV, updG, if_neg e]
        exact (hh i' hi' j' hj').ch hch (fun y hy e => by subst e; exact nb i' hi' j' hj' hy)
  · rw [List.nodup_cons, fam_nodup]
    refine ⟨fun hb => ?_, fun i' hi' j' hj' => ?_, fun i1 hi1 j1 hj1 i2 hi2 j2 hj2 hne y hy hy' => ?_⟩
    · obtain ⟨i', hi', j', hj', hb⟩ := mem_fam.1 hb
      unfold updG at hb
      split at hb
      · exact nbg hb
      · exact nb i' hi' j' hj' hb
    · unfold updG; split
      · exact ndg
      · exact nd2'.1 i' hi' j' hj'
    · unfold updG at hy hy'
      split at hy
      · rename_i e1
        split at hy'
        · rename_i e2
          exact hne ⟨by rw [e1.1, e2.1], by rw [e1.2, e2.2]⟩
        · exact far i2 hi2 j2 hj2 y hy hy'
      · split at hy'
        · exact far i1 hi1 j1 hj1 y hy' hy
        · exact nd2'.2 i1 hi1 j1 hj1 i2 hi2 j2 hj2 hne y hy hy'
  · intro y hy
    rcases List.mem_cons.1 hy with rfl | hy
    · exact .inl (by simp)
    · obtain ⟨i', hi', j', hj', hy⟩ := mem_fam.1 hy
      unfold updG at hy
      split at hy
      · exact .inr hy
      · exact .inl (List.mem_cons_of_mem _ (mem_fam.2 ⟨i', hi', j', hj', hy⟩))
  · rintro rfl
    have : updG G i j [] = G := by
      funext i' j'
      unfold updG
      split
      · rename_i e; rw [e.1, e.2, g0]
      · rfl
    rw [this]; rfl
theorem Hd.flat_int {w : World} {k : IntKind} {z : Int} {gs : List Nat} {x : Value} (h : Hd w (.int k z) x gs) : gs = [] := by cases h; rfl
theorem Hd.flat_str {w : World} {s : ByteArray} {gs : List Nat} {x : Value} (h : Hd w (.str s) x gs) : gs = [] := by cases h; rfl
theorem Hd.flat_nil {w : World} {k : IntKind} {gs : List Nat} {x : Value} (h : Hd w (.ints k []) x gs) : gs = [] := by
  cases h with
  | ints0 => rfl
  | ints _ _ _ _ _ _ hn hl => simp at hl; omega
theorem Hd.flat_snil {w : World} {m : Nat} {gs : List Nat} {x : Value} (h : Hd w (.sl m []) x gs) : gs = [] := by
  cases h with
  | sl0 => rfl
  | sl _ _ _ _ _ _ _ _ hn _ hl => simp at hl; omega
theorem Hd.str_inv {w : World} {s : ByteArray} {x : Value} {gs : List Nat} (h : Hd w (.str s) x gs) : x = .string s := by cases h; rfl
theorem Hd.int_inv {w : World} {k : IntKind} {z : Int} {x : Value} {gs : List Nat} (h : Hd w (.int k z) x gs) : x = .int k z := by cases h; rfl
/-! ### lists of structs by their places -/
theorem Hd.ext {w : World} {m n c : Nat} {A : Option Addr} {els els' : List (List Dat)} {bs : List Nat} (h : Hd w (.sl m els) (.slice A n c) bs) (hl : els'.length = els.length) (he : ∀ i, i < n → ∀ j, j < m → At els' i j = At els i j) : Hd w (.sl m els') (.slice A n c) bs := by
  cases h with
  | sl0 _ _ _ hc =>
    obtain rfl : els' = [] := List.eq_nil_of_length_eq_zero hl
    exact .sl0 m A c hc
  | sl _ b o _ _ _ V G hn h0 hl' hr hh hc hm =>
    exact .sl m b o n c els' V G hn h0 (hl.trans hl') hr (fun i hi j hj => by
      show Hd w (At els' i j) _ _
      rw [he i hi j hj]; exact hh i hi j hj) hc hm
theorem Own.ext {w : World} {m n c lo hi : Nat} {A : Option Addr} {els els' : List (List Dat)} (h : Own w (.sl m els) (.slice A n c) lo hi) (hl : els'.length = els.length) (he : ∀ i, i < n → ∀ j, j < m → At els' i j = At els i j) : Own w (.sl m els') (.slice A n c) lo hi := by
  obtain ⟨bs, a, b, c⟩ := h
  exact ⟨bs, a.ext hl he, b, c⟩
def setEl (els : List (List Dat)) (i j : Nat) (d : Dat) : List (List Dat) := els.set i ((els.getD i []).set j d)
theorem setEl_len (els : List (List Dat)) (i j : Nat) (d : Dat) : (setEl els i j d).length = els.length := by simp [setEl]
theorem at_setEl {els : List (List Dat)} {i j i' j' : Nat} {d : Dat} (hi : i < els.length) (hj : j < (els.getD i []).length) : At (setEl els i j d) i' j' = if i' = i ∧ j' = j then d else At els i' j' := by
  have e : els.getD i [] = els[i] := by simp [List.getD, hi]
  rw [e] at hj
  unfold At setEl
  rw [e]
  by_cases h1 : i' = i
  · subst h1
    have e2 : (els.set i' (els[i'].set j d)).getD i' [] = els[i'].set j d := by simp [List.getD, hi]
    rw [e2, e]
    by_cases h2 : j' = j
    · subst h2
      simp [List.getD, hj]
    · rw [if_neg (by simp [h2])]
      simp [List.getD, List.getElem?_set_ne (Ne.symm h2)]
  · rw [if_neg (by simp [h1])]
    simp [List.getD, List.getElem?_set_ne (Ne.symm h1)]
theorem put_setEl {m n i j : Nat} {d : Dat} {els : List (List Dat)} (hl : els.length = n) (hi : i < n) (hj : j < (els.getD i []).length) : Put m n i j d els (setEl els i j d) :=
  ⟨by rw [setEl_len]; exact hl, by rw [at_setEl (by omega) hj]; simp, fun i' _ j' _ hne => by rw [at_setEl (by omega) hj, if_neg hne]⟩
theorem setEl_wide {els : List (List Dat)} {i j : Nat} {d : Dat} {k : Nat} : ((setEl els i j d).getD k []).length = (els.getD k []).length := by
  unfold setEl
  by_cases h : i < els.length
  · by_cases e : k = i
    · subst e; simp [List.getD, h]
    · simp [List.getD, List.getElem?_set_ne (Ne.symm e)]
  · rw [List.set_eq_of_length_le (by omega)]
theorem Own.str (w : World) (s : ByteArray) (lo hi : Nat) : Own w (.str s) (.string s) lo hi := ⟨[], .str s, by simp, by simp⟩
theorem Own.int (w : World) (k : IntKind) (z : Int) (lo hi : Nat) : Own w (.int k z) (.int k z) lo hi := ⟨[], .int k z, by simp, by simp⟩
theorem Own.nil (w : World) (k : IntKind) (A : Option Addr) (c lo hi : Nat) (hc : c ≤ maxLen) : Own w (.ints k []) (.slice A 0 c) lo hi := ⟨[], .ints0 k A c hc, by simp, by simp⟩
theorem Own.snil (w : World) (m : Nat) (A : Option Addr) (c lo hi : Nat) (hc : c ≤ maxLen) : Own w (.sl m []) (.slice A 0 c) lo hi := ⟨[], .sl0 m A c hc, by simp, by simp⟩
theorem Own.fill {w : World} {m b o n c lo mid hi : Nat} {els els' : List (List Dat)} {d : Dat} {x : Value} (h : Own w (.sl m els) (.slice (some ⟨b, o, none⟩) n c) lo mid) {i j : Nat} (hi' : i < n) (hj : j < m)
    (h0 : ∀ gs x, Hd w (At els i j) x gs → gs = []) (hd : Own w d x mid hi) (hlo : lo ≤ mid) (hmid : mid ≤ hi) (hp : Put m n i j d els els') :
    Own (w.setCell ⟨b, o + i * m + j, none⟩ x) (.sl m els') (.slice (some ⟨b, o, none⟩) n c) lo hi := by
  obtain ⟨bs, h1, h2, h3⟩ := h
  obtain ⟨gs, g1, g2, g3⟩ := hd
  obtain ⟨bs', k1, k2, k3, _⟩ := h1.fill (x0 := x) h2 hi' hj h0 g1 g2 (fun g hg hb => by have := (h3 g hb).2.1; have := (g3 g hg).1; omega) hp
  refine ⟨bs', k1, k2, fun y hy => ?_⟩
  rcases k3 y hy with hy | hy
  · obtain ⟨a, b, c⟩ := h3 y hy
    exact ⟨a, by omega, fun i => by rw [← c i]; simp⟩
  · obtain ⟨a, b, c⟩ := g3 y hy
    exact ⟨by omega, b, fun i => by rw [← c i]; simp⟩
theorem at_range {n : Nat} {f : Nat → List Dat} {i j : Nat} (hi : i < n) : At ((List.range n).map f) i j = (f i).getD j default := by
  unfold At; simp [List.getD, hi]
theorem el_range {n : Nat} {f : Nat → List Dat} {i : Nat} (hi : i < n) : ((List.range n).map f).getD i [] = f i := by simp [List.getD, hi]

/-! ### make -/
theorem run_make_many {P : Program} (t e : TypeId) (z : Value) (m bytes : Nat) (ht : P.underlying t = some (.slice e)) (hinfo : (P.info? e).map (fun i => (i.zero, i.size, i.bytes)) = some (some z, m, bytes))
    (kl kc : IntKind) (n : Nat) (hbytes : bytes * n ≤ 281474976710656) (h63 : n ≤ 9223372036854775807) (w : World) :
    (Instr.makeSlice t (.int kl (n : Int)) (.int kc (n : Int))).run P w = .ok (.slice (some ⟨w.heap.size, 0, none⟩) n n) (w.alloc (.cells (madeCells z.cells (n * m)) e)) := by
  obtain ⟨i, hi, hzz⟩ := Option.map_eq_some_iff.1 hinfo
  simp only [Prod.mk.injEq] at hzz
  obtain ⟨hz, hs, hb⟩ := hzz
  have hb' : (i.bytes : Int) * (n : Int) ≤ 281474976710656 := by
    have h : ((i.bytes * n : Nat) : Int) ≤ 281474976710656 := by rw [hb]; omega
    rwa [Int.natCast_mul] at h
  have hr := run_make (P := P) w t e i z ht hi hz kl kc n n (by omega) (Int.le_refl _) hb' (by omega)
  simp only [Int.toNat_natCast, hs] at hr
  exact hr
theorem made_at (w : World) (zs : Array Value) (n i j : Nat) (e : TypeId) (hi : i < n) (hj : j < zs.size) : (w.alloc (.cells (madeCells zs (n * zs.size)) e)).cell? ⟨w.heap.size, i * zs.size + j, none⟩ = some zs[j] := by
  have h1 : i * zs.size + j < n * zs.size := by
    have : (i + 1) * zs.size ≤ n * zs.size := Nat.mul_le_mul_right _ (by omega)
    rw [Nat.add_mul] at this; omega
  have h2 : (i * zs.size + j) % zs.size = j := by rw [Nat.mul_comm, Nat.mul_add_mod, Nat.mod_eq_of_lt hj]
  simp [madeCells, h1, h2, hj]
theorem Own.made (w : World) (zs : Array Value) (zd : List Dat) (n : Nat) (e : TypeId) (hm : 0 < zs.size) (hd : ∀ w j, (hj : j < zs.size) → Hd w (zd.getD j default) zs[j] []) (hmx : n ≤ maxLen) :
    Own (w.alloc (.cells (madeCells zs (n * zs.size)) e)) (.sl zs.size (List.replicate n zd)) (.slice (some ⟨w.heap.size, 0, none⟩) n n) w.heap.size (w.heap.size + 1) := by
  rcases Nat.eq_zero_or_pos n with rfl | hn
  · exact Own.snil _ _ _ _ _ _ (by unfold maxLen; omega)
  · refine ⟨[w.heap.size], ?_, by simp, fun b hb => ?_⟩
    · have : Hd (w.alloc (.cells (madeCells zs (n * zs.size)) e)) (.sl zs.size (List.replicate n zd)) (.slice (some ⟨w.heap.size, 0, none⟩) n n) (w.heap.size :: (List.range n).flatMap fun i => (List.range zs.size).flatMap ((fun _ _ => []) i)) := by
        refine .sl zs.size w.heap.size 0 n n _ (fun _ j => zs.getD j undef) (fun _ _ => []) hn hm (by simp) (fun i hi j hj => ?_) (fun i hi j hj => ?_) (Nat.le_refl _) hmx
        · rw [Nat.zero_add, made_at w zs n i j e hi hj]; simp [hj]
        · have := hd (w.alloc (.cells (madeCells zs (n * zs.size)) e)) j hj
          simpa [List.getD, hi, hj] using this
      have e : ((List.range n).flatMap fun i => (List.range zs.size).flatMap ((fun _ _ => []) i)) = ([] : List Nat) := by
        rw [List.flatMap_eq_nil_iff]; intro i _; rw [List.flatMap_eq_nil_iff]; intro j _; rfl
      rwa [e] at this
    · obtain rfl : b = w.heap.size := by simpa using hb
      exact ⟨Nat.le_refl _, by omega, thaw_new _ _ _⟩
theorem Own.slot {w : World} {m b o n c lo hi : Nat} {els : List (List Dat)} (h : Own w (.sl m els) (.slice (some ⟨b, o, none⟩) n c) lo hi) {i j : Nat} (hi' : i < n) (hj : j < m) :
    ∃ x, w.cell? ⟨b, o + i * m + j, none⟩ = some x ∧ w.frozen? ⟨b, o + i * m + j, none⟩ = false ∧ lo ≤ b ∧ b < hi := by
  obtain ⟨bs, h1, h2, h3⟩ := h
  obtain ⟨_, _, _, hf⟩ := h1.sl_inv
  obtain ⟨b', o', V, G, e, _, hr, _, rfl⟩ := hf (by omega)
  injection e with e
  injection e with e1 e2
  subst e1 e2
  obtain ⟨p, q, r⟩ := h3 b (by simp)
  exact ⟨_, hr i hi' j hj, r _, p, q⟩

/-! ### texts -/
theorem str_inj {s t : ByteArray} (h : s.toList = t.toList) : s = t := by
  rw [ByteArray.toList_eq, ByteArray.toList_eq] at h
  exact ByteArray.ext (Array.toList_inj.1 h)
theorem str_eq {s t : ByteArray} (h : s = t) : (s.toList == t.toList) = true := by subst h; simp
theorem str_ne {s t : ByteArray} (h : s ≠ t) : (s.toList == t.toList) = false := by
  rw [beq_eq_false_iff_ne]; exact fun e => h (str_inj e)
theorem str_eqB (s t : ByteArray) : (s.toList == t.toList) = decide (s = t) := by
  by_cases h : s = t
  · rw [str_eq h, decide_eq_true h]
  · rw [str_ne h, decide_eq_false h]
theorem quietL {P : Program} {f : FuncId} {args : Array Value} {w : World} {n : Nat} {v : Value}
    (h : Calls P f args (w.drewN n) fun e w' => e = .returned v ∧ w.drewN n = w') : Calls P f args (w.drewN n) fun e w'' => e = .returned v ∧ ∃ m, w'' = w.drewN m :=
  h.mono fun _ _ ⟨he, hm⟩ => ⟨he, n, hm.symm⟩
theorem quietA {P : Program} {f : FuncId} {args : Array Value} {w : World} {a n : Nat} {v : Value}
    (h : Calls P f args (w.drewN (a + n)) fun e w' => e = .returned v ∧ w.drewN (a + n) = w') : Calls P f args (w.drewN (a + n)) fun e w'' => e = .returned v ∧ ∃ m, w'' = w.drewN (a + m) :=
  h.mono fun _ _ ⟨he, hm⟩ => ⟨he, n, hm.symm⟩
theorem addr_add (b o j : Nat) : (⟨b, o, none⟩ : Addr).add j = ⟨b, o + j, none⟩ := by
  unfold Addr.add
  split
  · rename_i e; subst e; simp
  · rfl
end Go.Proofs.Ythplngcdldongaa
namespace Go.Proofs.Ythplngcdldongaa
open Go.RowKit
set_option linter.unusedVariables false

def mark (k : Int) (j : Nat) : Int := (k + j) % 256
def marks (k : Int) (n : Nat) : List Int := (List.range n).map (mark k)
theorem marks_get {k : Int} {n i : Nat} (h : i < n) : (marks k n).getD i 0 = mark k i := by
  unfold marks; simp [List.getD, h]
theorem marks_len (k : Int) (n : Nat) : (marks k n).length = n := by simp [marks]

theorem info_u8 : (Try.prog.info? 5).map (fun i => (i.zero, i.size, i.bytes)) = some (some (.int .u8 0), 1, 1) := by kernel_rfl
theorem made_cell (w : World) (z : Value) (n t : Nat) (e : TypeId) (ht : t < n) : (w.alloc (.cells (madeCells #[z] n) e)).cell? ⟨w.heap.size, t, none⟩ = some z := by
  simp [madeCells, ht, Nat.mod_one]
end Go.Proofs.Ythplngcdldongaa
namespace Go.Proofs.Ythplngcdldongaa
open Go.RowKit
set_option linter.unusedVariables false

abbrev Tg := ByteArray × List Int
def tgD (t : Tg) : List Dat := [.str t.1, .ints .u8 t.2]
def tagsD (ts : List Tg) : Dat := .sl 2 (ts.map tgD)
def tg (ts : List Tg) (i : Nat) : Tg := ts.getD i (ByteArray.empty, [])
theorem tags_el {ts : List Tg} {i : Nat} (h : i < ts.length) : (ts.map tgD).getD i [] = tgD (tg ts i) := by
  simp [tg, List.getD, h]
theorem tags_at0 {ts : List Tg} {i : Nat} (h : i < ts.length) : At (ts.map tgD) i 0 = .str (tg ts i).1 := by unfold At; rw [tags_el h]; rfl
theorem tags_at1 {ts : List Tg} {i : Nat} (h : i < ts.length) : At (ts.map tgD) i 1 = .ints .u8 (tg ts i).2 := by unfold At; rw [tags_el h]; rfl
theorem Hd.tags {w : World} {ts : List Tg} {A : Option Addr} {n c : Nat} {bs : List Nat} (h : Hd w (tagsD ts) (.slice A n c) bs) :
    ts.length = n ∧ n ≤ c ∧ c ≤ maxLen ∧ (0 < n → ∃ b o, A = some ⟨b, o, none⟩ ∧ ∀ i, i < n → w.cell? ⟨b, o + i * 2, none⟩ = some (.string (tg ts i).1) ∧
      ∃ B L C gs, w.cell? ⟨b, o + i * 2 + 1, none⟩ = some (.slice B L C) ∧ Hd w (.ints .u8 (tg ts i).2) (.slice B L C) gs ∧ ∀ g ∈ gs, g ∈ bs) := by
  obtain ⟨hl, hc, hm, hf⟩ := h.sl_inv
  rw [List.length_map] at hl
  refine ⟨hl, hc, hm, fun hn => ?_⟩
  obtain ⟨b, o, V, G, rfl, h0, hr, hh, rfl⟩ := hf hn
  refine ⟨b, o, rfl, fun i hi => ?_⟩
  have c0 := hr i hi 0 (by omega)
  have c1 := hr i hi 1 (by omega)
  have d0 : Hd w (At (ts.map tgD) i 0) _ _ := hh i hi 0 (by omega)
  have d1 : Hd w (At (ts.map tgD) i 1) _ _ := hh i hi 1 (by omega)
  rw [tags_at0 (by omega)] at d0
  rw [tags_at1 (by omega)] at d1
  rw [d0.str_inv] at c0
  obtain ⟨B, L, C, e, _⟩ := d1.ints_inv
  rw [e] at c1 d1
  exact ⟨c0, B, L, C, _, c1, d1, fun g hg => List.mem_cons_of_mem _ (mem_fam.2 ⟨i, hi, 1, by omega, hg⟩)⟩

theorem Rd.len_eq {k : IntKind} {w w' : World} {A A' : Option Addr} {n n' : Nat} {xs : List Int} (h : Rd k w A n xs) (h' : Rd k w' A' n' xs) : n = n' := h.1.symm.trans h'.1
/-- one tag of a list. -/
theorem Hd.tag {w : World} {ts : List Tg} {A : Option Addr} {n c : Nat} {bs : List Nat} (h : Hd w (tagsD ts) (.slice A n c) bs) {k : Nat} (hk : k < n) :
    ∃ b o B L C gs, A = some ⟨b, o, none⟩ ∧ w.cell? ⟨b, o + k * 2, none⟩ = some (.string (tg ts k).1) ∧ w.cell? ⟨b, o + k * 2 + 1, none⟩ = some (.slice B L C) ∧ Hd w (.ints .u8 (tg ts k).2) (.slice B L C) gs ∧ (∀ g ∈ gs, g ∈ bs) := by
  obtain ⟨_, _, _, hf⟩ := h.tags
  obtain ⟨b, o, e, hf⟩ := hf (by omega)
  obtain ⟨c0, B, L, C, gs, c1, hd, hg⟩ := hf k hk
  exact ⟨b, o, B, L, C, gs, e, c0, c1, hd, hg⟩
def TsOk (ts : List Tg) : Prop := ∀ i, (tg ts i).1.size ≤ maxLen
def TsSmall (ts : List Tg) : Prop := ts.length ≤ 1048576 ∧ ∀ i, i < ts.length → (tg ts i).1.size ≤ 1048576 ∧ (tg ts i).2.length ≤ 1048576
/-- how much is left: below 0, or both are small. -/
def Left (w : World) (p : Prop) (l : Int) (e : Ending) (w' : World) : Prop := ∃ r : Int, e = .returned (.int .i64 r) ∧ r ≤ l ∧ -1 ≤ r ∧ (0 ≤ r → p) ∧ Below w.heap.size w w'
def partT (ts : List Tg) (k : Nat) : List (List Dat) := (List.range ts.length).map fun i => if i < k then tgD (tg ts i) else [.str ByteArray.empty, .ints .u8 []]
theorem partT_zero (ts : List Tg) : partT ts 0 = List.replicate ts.length [.str ByteArray.empty, .ints .u8 []] := by
  unfold partT
  refine List.ext_getElem (by simp) (fun i h1 h2 => ?_)
  simp
theorem partT_wide {ts : List Tg} {k i : Nat} (hi : i < ts.length) : ((partT ts k).getD i []).length = 2 := by
  unfold partT; rw [el_range hi]; split <;> rfl
theorem partT_old {ts : List Tg} {k : Nat} (hk : k < ts.length) (j : Nat) : At (partT ts k) k j = [.str ByteArray.empty, .ints .u8 []].getD j default := by
  unfold partT; rw [at_range hk, if_neg (by omega)]
theorem zero_tag (w : World) (j : Nat) (hj : j < (#[.string ByteArray.empty, .slice none 0 0] : Array Value).size) : Hd w (([.str ByteArray.empty, .ints .u8 []] : List Dat).getD j default) ((#[.string ByteArray.empty, .slice none 0 0] : Array Value)[j]) [] := by
  match j, hj with
  | 0, _ => exact .str _
  | 1, _ => exact .ints0 _ _ _ (Nat.zero_le _)
/-- one tag more has been laid. -/
theorem partT_step {w : World} {ts : List Tg} {k n c b o lo mid hi : Nat} {x : Value} (hl : ts.length = n) (hk : k < n) (h : Own w (.sl 2 (partT ts k)) (.slice (some ⟨b, o, none⟩) n c) lo mid) (hx : Own w (.ints .u8 (tg ts k).2) x mid hi) (hlo : lo ≤ mid) (hmid : mid ≤ hi) (hblk : b < mid) :
    Own ((w.setCell ⟨b, o + k * 2 + 0, none⟩ (.string (tg ts k).1)).setCell ⟨b, o + k * 2 + 1, none⟩ x) (.sl 2 (partT ts (k + 1))) (.slice (some ⟨b, o, none⟩) n c) lo hi := by
  have w0 : 0 < ((partT ts k).getD k []).length := by rw [partT_wide (by omega)]; omega
  have pl : (partT ts k).length = n := by simp [partT, hl]
  have s1 := h.fill (els' := setEl (partT ts k) k 0 (.str (tg ts k).1)) (d := .str (tg ts k).1) hk (by omega : 0 < 2) (fun gs x hd => by rw [partT_old (by omega)] at hd; exact hd.flat_str) (Own.str w _ mid mid) hlo (Nat.le_refl _) (put_setEl pl hk w0)
  have w1 : 1 < ((setEl (partT ts k) k 0 (.str (tg ts k).1)).getD k []).length := by rw [setEl_wide, partT_wide (by omega)]; omega
  have pl1 : (setEl (partT ts k) k 0 (.str (tg ts k).1)).length = n := by rw [setEl_len, pl]
  have a1 : At (setEl (partT ts k) k 0 (.str (tg ts k).1)) k 1 = .ints .u8 [] := by rw [at_setEl (by omega) w0, if_neg (by omega), partT_old (by omega)]; rfl
  have s2 := s1.fill (els' := setEl (setEl (partT ts k) k 0 (.str (tg ts k).1)) k 1 (.ints .u8 (tg ts k).2)) hk (by omega : 1 < 2) (fun gs x hd => by rw [a1] at hd; exact hd.flat_nil) (hx.set (.inl hblk) _ _) hlo hmid (put_setEl pl1 hk w1)
  refine s2.ext (by rw [setEl_len, setEl_len]; simp [partT]) (fun i hi' j hj => ?_)
  rw [at_setEl (by omega) w1, at_setEl (by omega) w0]
  unfold partT
  rw [at_range (by omega), at_range (by omega)]
  by_cases e : i = k
  · subst e
    match j, hj with
    | 0, _ => simp [tgD]
    | 1, _ => simp [tgD]
  · by_cases h2 : i < k
    · simp [e, h2, show i < k + 1 by omega]
    · simp [e, h2, show ¬ i < k + 1 by omega]
theorem partT_all (ts : List Tg) : partT ts ts.length = ts.map tgD := by
  unfold partT
  refine List.ext_getElem (by simp) (fun i h1 h2 => ?_)
  have : i < ts.length := by simpa using h1
  simp [this, tg, List.getD]
end Go.Proofs.Ythplngcdldongaa
namespace Go.Proofs.Ythplngcdldongaa
open Go.RowKit
set_option linter.unusedVariables false
set_option linter.unusedSimpArgs false

structure Bx (W : World) (b : Nat) (l : List Value) : Prop where
  lt : b < W.heap.size
  th : Thaw W b
  at_ : ∀ (j : Nat) (v : Value), l[j]? = some v → W.cell? ⟨b, j, none⟩ = some v
theorem Bx.c {W : World} {b : Nat} {l : List Value} (h : Bx W b l) (j : Nat) {v : Value} (e : l[j]? = some v) : W.cell? ⟨b, j, none⟩ = some v := h.at_ j v e
theorem Bx.f {W : World} {b : Nat} {l : List Value} (h : Bx W b l) (j : Nat) : W.frozen? ⟨b, j, none⟩ = false := h.th j
theorem Bx.bel {W W' : World} {b : Nat} {l : List Value} (h : Bx W b l) (hb : Below W.heap.size W W') : Bx W' b l :=
  ⟨Nat.lt_of_lt_of_le h.lt hb.size, fun i => by rw [hb.frozen (p := ⟨b, i, none⟩) h.lt]; exact h.th i, fun j v e => by rw [hb.cell (p := ⟨b, j, none⟩) h.lt]; exact h.at_ j v e⟩
theorem Bx.alloc {W : World} {b : Nat} {l : List Value} (h : Bx W b l) (o : Obj) : Bx (W.alloc o) b l := h.bel (blAlloc _ _)
theorem Bx.drewN {W : World} {b : Nat} {l : List Value} (h : Bx W b l) (m : Nat) : Bx (W.drewN m) b l := h.bel (below_drewN _ _ _)
theorem Bx.new (W : World) (cs : Array Value) (t : TypeId) {b : Nat} (hb : b = W.heap.size) : Bx (W.alloc (.cells cs t)) b cs.toList := by
  subst hb
  exact ⟨by simp, thaw_new _ _ _, fun j v e => by simpa using e⟩
theorem Bx.set {W : World} {b : Nat} {l : List Value} (h : Bx W b l) (j : Nat) (v : Value) : Bx (W.setCell ⟨b, j, none⟩ v) b (l.set j v) := by
  refine ⟨by simpa [World.setCell] using h.lt, fun i => by simpa using h.th i, fun k u e => ?_⟩
  by_cases hk : k = j
  · subst hk
    have hl : k < l.length := by
      have := (List.getElem?_eq_some_iff.1 e).1
      simpa using this
    rw [World.cell?_setCell_same' W _ _ (by rw [h.at_ k l[k] (by simp)]; rfl)]
    rw [List.getElem?_set_self hl] at e
    exact e
  · rw [World.cell?_setCell_other _ _ _ _ (by simp only [ne_eq, Addr.mk.injEq, true_and, and_true]; omega)]
    rw [List.getElem?_set_ne (Ne.symm hk)] at e
    exact h.at_ k u e
theorem Bx.oth {W : World} {b c : Nat} {l : List Value} (h : Bx W b l) (hc : c ≠ b) (j : Nat) (v : Value) : Bx (W.setCell ⟨c, j, none⟩ v) b l :=
  ⟨by simpa [World.setCell] using h.lt, fun i => by simpa using h.th i, fun k u e => by
    rw [World.cell?_setCell_other _ _ _ _ (by simp only [ne_eq, Addr.mk.injEq, not_and]; intro q; omega)]; exact h.at_ k u e⟩
theorem Bx.othE {W W' : World} {b c j : Nat} {v : Value} {l : List Value} (h : Bx W b l) (e : W' = W.setCell ⟨c, j, none⟩ v) (hc : c ≠ b) : Bx W' b l := by rw [e]; exact h.oth hc j v
theorem Bx.setE {W W' : World} {b j : Nat} {v : Value} {l : List Value} (h : Bx W b l) (e : W' = W.setCell ⟨b, j, none⟩ v) : Bx W' b (l.set j v) := by rw [e]; exact h.set j v
theorem setSize (W : World) (a : Addr) (v : Value) : (W.setCell a v).heap.size = W.heap.size := by simp [World.setCell]
end Go.Proofs.Ythplngcdldongaa
namespace Go.Proofs.Ythplngcdldongaa
open Go.RowKit
set_option linter.unusedVariables false

structure Item where
  d : Dat
  v : Value
  lo : Nat
  hi : Nat
structure Scene (w w' : World) (ag : List (Dat × Value)) (os : List Item) (bx : List (Nat × List Value)) : Prop where
  arg : ∀ p ∈ ag, ∃ bs, Hd w' p.1 p.2 bs ∧ ∀ b ∈ bs, b < w.heap.size
  own : ∀ p ∈ os, Own w' p.d p.v p.lo p.hi ∧ w.heap.size ≤ p.lo ∧ p.hi ≤ w'.heap.size
  box : ∀ p ∈ bx, ∀ j x, p.2[j]? = some x → w'.cell? ⟨p.1, j, none⟩ = some x
  bel : Below w.heap.size w w'
theorem Scene.below {w w' w2 : World} {ag : List (Dat × Value)} {os : List Item} {bx : List (Nat × List Value)} (h : Scene w w' ag os bx) (hb : Below w'.heap.size w' w2) : Scene w w2 ag os bx where
  arg p hp := by
    obtain ⟨bs, a, b⟩ := h.arg p hp
    exact ⟨bs, a.bel hb, b⟩
  own p hp := by
    obtain ⟨a, b, c⟩ := h.own p hp
    exact ⟨a.below hb, b, Nat.le_trans c hb.size⟩
  box p hp j x hx := cell_later hb (h.box p hp j x hx)
  bel := blThen h.bel hb
theorem Scene.drew {w w' : World} {ag : List (Dat × Value)} {os : List Item} {bx : List (Nat × List Value)} (h : Scene w w' ag os bx) : Scene w w'.drew ag os bx := h.below (Below.refl _ _).drew
theorem Scene.alloc {w w' : World} {ag : List (Dat × Value)} {os : List Item} {bx : List (Nat × List Value)} (h : Scene w w' ag os bx) (o : Obj) : Scene w (w'.alloc o) ag os bx := h.below (blAlloc _ _)
/-- one thing more of one's own. -/
theorem Scene.addOwn {w w' : World} {ag : List (Dat × Value)} {os : List Item} {bx : List (Nat × List Value)} (h : Scene w w' ag os bx) {d : Dat} {v : Value} {lo hi : Nat} (ho : Own w' d v lo hi) (h1 : w.heap.size ≤ lo) (h2 : hi ≤ w'.heap.size) : Scene w w' ag (⟨d, v, lo, hi⟩ :: os) bx where
  arg := h.arg
  own p hp := by
    rcases List.mem_cons.1 hp with rfl | hp
    · exact ⟨ho, h1, h2⟩
    · exact h.own p hp
  box := h.box
  bel := h.bel
/-- a box more, just made. -/
theorem Scene.addBox {w w' : World} {ag : List (Dat × Value)} {os : List Item} {bx : List (Nat × List Value)} (h : Scene w w' ag os bx) (cs : List Value) (t : TypeId) : Scene w (w'.alloc (.cells cs.toArray t)) ag os ((w'.heap.size, cs) :: bx) where
  arg := (h.alloc _).arg
  own := (h.alloc _).own
  box p hp j x hx := by
    rcases List.mem_cons.1 hp with rfl | hp
    · simpa using hx
    · exact (h.alloc _).box p hp j x hx
  bel := (h.alloc _).bel
theorem Scene.start (w : World) (ag : List (Dat × Value)) (h : ∀ p ∈ ag, ∃ bs, Hd w p.1 p.2 bs) : Scene w w ag [] [] where
  arg p hp := by
    obtain ⟨bs, a⟩ := h p hp
    exact ⟨bs, a, a.lt⟩
  own p hp := by cases hp
  box p hp := by cases hp
  bel := Below.refl _ _
/-- what lies in one interval has turned. -/
theorem Scene.turn {w w' w2 : World} {ag : List (Dat × Value)} {os os' : List Item} {bx : List (Nat × List Value)} {P : Nat → Prop} {d' : Dat} {v : Value} {lo hi : Nat} (h : Scene w w' ag os bx)
    (hc : Ch w' w2 P) (hP : ∀ k, P k → lo ≤ k ∧ k < hi) (hlo : w.heap.size ≤ lo) (hhi : hi ≤ w'.heap.size) (hn : Own w2 d' v lo hi)
    (hos : ∀ q ∈ os', q ∈ os ∧ (q.hi ≤ lo ∨ hi ≤ q.lo)) (hbx : ∀ p ∈ bx, p.1 < lo ∨ hi ≤ p.1) : Scene w w2 ag (⟨d', v, lo, hi⟩ :: os') bx where
  arg p hp := by
    obtain ⟨bs, a, b⟩ := h.arg p hp
    exact ⟨bs, a.ch hc (fun x hx hPx => by have := hP x hPx; have := b x hx; omega), b⟩
  own p hp := by
    rcases List.mem_cons.1 hp with rfl | hp
    · exact ⟨hn, hlo, Nat.le_trans hhi hc.size⟩
    · obtain ⟨a, b⟩ := hos p hp
      obtain ⟨o1, o2, o3⟩ := h.own p a
      exact ⟨o1.ch hc (fun k k1 k2 hPk => by have := hP k hPk; omega), o2, Nat.le_trans o3 hc.size⟩
  box p hp j x hx := by
    have hcell := h.box p hp j x hx
    rw [hc.cell (cell_lt hcell) (fun hPk => by have := hP _ hPk; have := hbx p hp; omega)]; exact hcell
  bel := h.bel.trans (hc.below (fun k hk => by have := hP k hk; omega) h.bel.size)
theorem Scene.ownI {w w' : World} {ag : List (Dat × Value)} {os : List Item} {bx : List (Nat × List Value)} (h : Scene w w' ag os bx) (k : Nat) {p : Item} (hp : os[k]? = some p) : Own w' p.d p.v p.lo p.hi := (h.own p (List.mem_of_getElem? hp)).1
theorem Scene.boxI {w w' : World} {ag : List (Dat × Value)} {os : List Item} {bx : List (Nat × List Value)} (h : Scene w w' ag os bx) (k j : Nat) {p : Nat × List Value} {x : Value} (hp : bx[k]? = some p) (hx : p.2[j]? = some x) : w'.cell? ⟨p.1, j, none⟩ = some x := h.box p (List.mem_of_getElem? hp) j x hx
theorem Scene.argI {w w' : World} {ag : List (Dat × Value)} {os : List Item} {bx : List (Nat × List Value)} (h : Scene w w' ag os bx) (k : Nat) {p : Dat × Value} (hp : ag[k]? = some p) : ∃ bs, Hd w' p.1 p.2 bs := by
  obtain ⟨bs, a, _⟩ := h.arg p (List.mem_of_getElem? hp)
  exact ⟨bs, a⟩
end Go.Proofs.Ythplngcdldongaa
