/-
  Numbers of two bytes: putTwo, getTwo; a part of a slice of bytes; a row of bytes among other rows (TyAt, PutAns).
-/
import Derived.Test.YthplngcdldongaaBuf
import Derived.Lib.SlBytesConst
import Derived.Lib.SlBytesRow
import Derived.Deep.RegionLaw
import Derived.Deep.AppendLies
namespace Go.Proofs.Ythplngcdldongaa
open Go.RowKit
set_option linter.unusedVariables false

def two (v : Nat) : List Int := [(v / 256 : Nat), (v % 256 : Nat)]
/-- block q is a row of elements of type t. -/
def TyAt (w : World) (q : Nat) (t : TypeId) : Prop := ∃ cs fr, w.heap[q]? = some (.cells cs t fr)
theorem TyAt.new (w : World) (cs : Array Value) (t : TypeId) : TyAt (w.alloc (.cells cs t)) w.heap.size t := ⟨cs, (0, 0), heap_alloc_new w _⟩
theorem TyAt.lt {w : World} {q : Nat} {t : TypeId} (h : TyAt w q t) : q < w.heap.size := by
  obtain ⟨cs, fr, h⟩ := h
  exact (Array.getElem?_eq_some_iff.1 h).1
theorem TyAt.gb {w w' : World} {q g : Nat} {t : TypeId} (h : TyAt w q t) (hg : w.grownBy w' (some g)) (hne : q ≠ g) : TyAt w' q t := by
  have hl := h.lt
  obtain ⟨cs, fr, h⟩ := h
  exact ⟨cs, fr, (hg.block q hl (fun e => hne (by injection e))).trans h⟩
theorem TyAt.below {w w' : World} {q : Nat} {t : TypeId} (h : TyAt w q t) (hb : Below w.heap.size w w') : TyAt w' q t := by
  have hl := h.lt
  obtain ⟨cs, fr, h⟩ := h
  exact ⟨cs, fr, (hb.block q hl).trans h⟩
theorem OwnB.ne {w : World} {base g n cap q : Nat} {ys : List Int} {t : TypeId} (h : OwnB w base (.slice (some ⟨g, 0, none⟩) n cap) n ys) (hq : TyAt w q t) (ht : t ≠ 5) : q ≠ g := by
  rintro rfl
  obtain ⟨cs, fr, hq⟩ := hq
  rcases h.1.2 with ⟨e, _⟩ | ⟨g', cap', cur, e, _, h2, _⟩
  · exact h.2 e
  · obtain rfl : q = g' := by injection e with e; injection e with e; injection e
    rw [hq] at h2
    injection h2 with h2
    injection h2 with _ h2
    exact ht h2
def PutAns (w : World) (base g n : Nat) (ys : List Int) (e : Ending) (w' : World) : Prop := ∃ v, e = .returned v ∧ OwnB w' base v n ys ∧ w.grownBy w' (some g)
theorem rd_lits (w : World) (ys : List Int) (t : TypeId) : Rd .u8 (w.alloc (.cells (vals ys).toArray t)) (some ⟨w.heap.size, 0, none⟩) ys.length ys :=
  ⟨rfl, fun _ => ⟨w.heap.size, 0, rfl, fun i hi => by simp [vals, List.getD, hi]⟩⟩
theorem gb_trans {a b c : World} {r : Option Nat} (h : a.grownBy b r) (k : b.grownBy c r) : a.grownBy c r :=
  ⟨k.os.trans h.os, k.tape.trans h.tape, k.output.trans h.output, Nat.le_trans h.size k.size, fun i hi hne => (k.block i (Nat.lt_of_lt_of_le hi h.size) hne).trans (h.block i hi hne)⟩
theorem gb_below {a b : World} (r : Option Nat) (h : Below a.heap.size a b) : a.grownBy b r := ⟨h.os, h.tape, h.output, h.size, fun i hi _ => h.block i hi⟩
theorem rd_marks (w : World) (ys : List Int) (t : TypeId) (fr : Nat × Nat) : Rd .u8 (w.alloc (.cells (vals ys).toArray t fr)) (some ⟨w.heap.size, 0, none⟩) ys.length ys :=
  ⟨rfl, fun _ => ⟨w.heap.size, 0, rfl, fun i hi => by rw [Nat.zero_add, World.cell?_alloc_mark]; simp [vals, List.getD, hi]⟩⟩
def twoAt (xs : List Int) (a : Nat) : Nat := (256 * xs.getD a 0 + xs.getD (a + 1) 0).toNat
theorem twoAt_bd {xs : List Int} (h : U8s xs) (a : Nat) : twoAt xs a ≤ 65535 ∧ (twoAt xs a : Int) = 256 * xs.getD a 0 + xs.getD (a + 1) 0 := by
  have h1 := h a
  have h2 := h (a + 1)
  unfold twoAt; omega
theorem Rd.cut {w : World} {b o n : Nat} {xs : List Int} (h : Rd .u8 w (some ⟨b, o, none⟩) n xs) {lo hi : Nat} (h1 : lo ≤ hi) (h2 : hi ≤ n) : Rd .u8 w (some ⟨b, o + lo, none⟩) (hi - lo) ((xs.drop lo).take (hi - lo)) := by
  refine ⟨by simp [h.1]; omega, fun hn => ⟨b, o + lo, rfl, fun i hi' => ?_⟩⟩
  obtain ⟨b', o', e, hc⟩ := h.2 (by omega)
  injection e with e
  injection e with e1 e2
  subst e1 e2
  have := hc (lo + i) (by omega)
  rw [Nat.add_assoc, this]
  have hx : lo + i < xs.length := by rw [h.1]; omega
  simp [List.getD, hi', hx]
/-- 'data[lo:hi]'. -/
theorem slice_cut (b o n c lo hi : Nat) (H L : Int) (hL : L = (lo : Int)) (hH : H = (hi : Int)) (h1 : lo ≤ hi) (h2 : hi ≤ n) (h3 : n ≤ c) :
    ∃ A', (∀ W, (Instr.slice 22 (.slice (some ⟨b, o, none⟩) n c) (some (.int .i64 L)) (some (.int .i64 H)) none).run Try.prog W = .ok (.slice A' (hi - lo) (c - lo)) W) ∧
      ∀ W xs, Rd .u8 W (some ⟨b, o, none⟩) n xs → Rd .u8 W A' (hi - lo) ((xs.drop lo).take (hi - lo)) := by
  subst hL hH
  have hz : ∀ w, (Go.sizeOf 5).run Try.prog w = .ok 1 w := fun w => by kernel_rfl
  rcases Nat.lt_or_ge lo hi with h | h
  · exact ⟨_, fun W => Lib.run_slice_window W _ _ Try.underlying22 hz b o n c lo hi h (by omega), fun W xs hr => hr.cut h1 h2⟩
  · obtain rfl : lo = hi := by omega
    have ht' : Try.prog.underlying 22 = some (.slice (Try.prog.elem 22)) := by simp [Program.elem, Try.underlying22]
    have he : Try.prog.elem 22 = 5 := by simp [Program.elem, Try.underlying22]
    by_cases hc : c = lo
    · refine ⟨some ⟨b, o, none⟩, fun W => ?_, fun W xs hr => by simpa using Rd.nil⟩
      rw [run_slice_lh W 22 _ _ _ ht' .i64 .i64 _ _ (by omega) (by omega) (by omega), he, hz]
      simp [Result.andThen, sliced, hc]
    · refine ⟨some ⟨b, o + lo, none⟩, fun W => ?_, fun W xs hr => by simpa using Rd.nil⟩
      rw [run_slice_lh W 22 _ _ _ ht' .i64 .i64 _ _ (by omega) (by omega) (by omega), he, hz]
      simp [Result.andThen, sliced, hc, addr_add]

theorem or_two (x y : Int) (h0 : 0 ≤ x) (h1 : x ≤ 255) (h2 : 0 ≤ y) (h3 : y ≤ 255) : bits .or .i64 (x * 256) y = x * 256 + y := by
  obtain ⟨A, rfl⟩ := Int.eq_ofNat_of_zero_le h0
  obtain ⟨B, rfl⟩ := Int.eq_ofNat_of_zero_le h2
  show IntKind.i64.wrap ((BitVec.ofInt 64 ((A : Int) * 256) ||| BitVec.ofInt 64 (B : Int)).toNat : Int) = _
  have e : ((A : Int) * 256) = ((A * 256 : Nat) : Int) := by omega
  rw [e, BitVec.toNat_or, ofInt_u64 _ (by omega), ofInt_u64 _ (by omega), nat_join 8 _ _ (by omega) (by omega), IntKind.wrap_i64]
  omega
/-- bytes go behind, in a drawn region. -/
theorem step_append_bytes (w : World) {ops : Array Oper} {op : Oper} {a : Act} {K : Act → World → Prop} {Q : Exit → Act → World → Prop} {E : Prop} (hgd : op.guard = none) (s x : Operand)
    (ho : op.op = .call { callee := .builtin .append, args := #[s, x], argTypes := #[22, 22] })
    (base : Nat) (v : Value) (n : Nat) (ys : List Int) (hs : a.eval s = v) (hown : OwnB w base v n ys) (A : Option Addr) (m c : Nat) (zs : List Int) (hx : a.eval x = .slice A m c) (hr : Rd .u8 w A m zs)
    (h63 : n + m ≤ 1000000000000) (hbase : base ≤ w.heap.size)
    (h : ∀ v' w', OwnB w' base v' (n + m) (ys ++ zs) → w.grownBy w' v.ownBlock → K (a.put op.dst v') w') : if Region.wanted op (yielded ops a.tmps) = true then Oper.wp Try.prog op a w K Q else E := by
  have hw : Region.wanted op (yielded ops a.tmps) = true := by simp [Region.wanted, hgd]
  rw [if_pos hw]
  obtain ⟨v', w', hr', h2, h3⟩ := run_append_bytes w op.type base v n ys hown A m c zs hr h63 hbase
  unfold Oper.wp execOp
  simp only [ho, resolve, invoke, builtin, Sem.run_bind, Sem.run_pure, Result.andThen_ok, List.map_toArray, List.map_cons, List.map_nil, hs, hx, hr']
  exact h v' w' h2 h3
/-- an answer: a code and bytes in new memory. -/
def BAns (w : World) (co : Int) (xs : List Int) (e : Ending) (w' : World) : Prop :=
  ∃ G n c, e = .returned (.agg #[.int .i64 co, .slice G n c]) ∧ Own w' (.ints .u8 xs) (.slice G n c) w.heap.size w'.heap.size ∧ Below w.heap.size w w'
theorem BAns.nothing {w w' : World} {co : Int} (hb : Below w.heap.size w w') : BAns w co [] (.returned (.agg #[.int .i64 co, .slice none 0 0])) w' :=
  ⟨_, _, _, rfl, Own.nil _ _ _ _ _ _ (Nat.zero_le _), hb⟩
theorem OwnB.at {w : World} {base n : Nat} {v : Value} {ys : List Int} (h : OwnB w base v n ys) : ∀ g, v.ownBlock = some g → base ≤ g := fun g hg => (World.ownsRow.lt h.1 g hg).1
end Go.Proofs.Ythplngcdldongaa
