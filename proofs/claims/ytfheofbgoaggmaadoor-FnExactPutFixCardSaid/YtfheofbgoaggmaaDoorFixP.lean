/-
  Four bytes of a fix: contracts of impl.putFix, bytesAnswer, PutFix and of the reference model's l1Put, PutFix; of the laws' eqBytesResult, markBytesResult, heldBytesResult.
-/
import Derived.Test.YtfheofbgoaggmaaDoorFixS
import Derived.Test.YtfheofbgoaggmaaDoorBytes
namespace Go.Proofs.YtfheofbgoaggmaaDoor
open Go.RowKit
set_option linter.unusedVariables false

/-- A lies in memory that was not there in w. -/
def New (w w' : World) (A : Option Addr) (n : Nat) : Prop :=
  A = none ∨ ∃ b o, A = some ⟨b, o, none⟩ ∧ w.heap.size ≤ b ∧ b < w'.heap.size ∧ ∀ i, i < n → w'.frozen? ⟨b, o + i, none⟩ = false
theorem New.nil {w w' : World} {n : Nat} : New w w' none n := .inl rfl
theorem New.after {w W w' : World} {A : Option Addr} {n : Nat} (h : New W w' A n) (hs : w.heap.size ≤ W.heap.size) : New w w' A n := by
  rcases h with h | ⟨b, o, e, h1, h2, h3⟩
  · exact .inl h
  · exact .inr ⟨b, o, e, Nat.le_trans hs h1, h2, h3⟩
theorem New.below {w w' w2 : World} {A : Option Addr} {n : Nat} (h : New w w' A n) (hb : Below w'.heap.size w' w2) : New w w2 A n := by
  rcases h with h | ⟨b, o, e, h1, h2, h3⟩
  · exact .inl h
  · exact .inr ⟨b, o, e, h1, Nat.lt_of_lt_of_le h2 hb.size, fun i hi => by rw [hb.frozen (p := ⟨b, o + i, none⟩) h2]; exact h3 i hi⟩
theorem New.setCell {w w' : World} {A : Option Addr} {n : Nat} {p : Addr} {v : Value} (h : New w w' A n) : New w (w'.setCell p v) A n := by
  rcases h with h | ⟨b, o, e, h1, h2, h3⟩
  · exact .inl h
  · exact .inr ⟨b, o, e, h1, by simpa [World.setCell] using h2, fun i hi => by rw [← h3 i hi]; simp⟩
theorem New.alloc {w w' : World} {A : Option Addr} {n : Nat} (h : New w w' A n) (o : Obj) : New w (w'.alloc o) A n := h.below (blAlloc _ _)
theorem New.ge {w w' : World} {A : Option Addr} {n : Nat} (h : New w w' A n) : ∀ a, A = some a → w.heap.size ≤ a.block := by
  rintro a rfl
  rcases h with h | ⟨b, o, e, h1, h2, h3⟩
  · cases h
  · injection e with e; subst e; exact h1
theorem New.lt {w w' : World} {A : Option Addr} {n : Nat} (h : New w w' A n) : ∀ a, A = some a → a.block < w'.heap.size := by
  rintro a rfl
  rcases h with h | ⟨b, o, e, h1, h2, h3⟩
  · cases h
  · injection e with e; subst e; exact h2
theorem New.thaw {w w' : World} {A : Option Addr} {n : Nat} (h : New w w' A n) : ∀ b o, A = some ⟨b, o, none⟩ → ∀ i, i < n → w'.frozen? ⟨b, o + i, none⟩ = false := by
  rintro b o rfl i hi
  rcases h with h | ⟨b', o', e, h1, h2, h3⟩
  · cases h
  · obtain ⟨rfl, rfl⟩ : b = b' ∧ o = o' := by simpa using e
    exact h3 i hi
theorem Only.cell_far {W w' : World} {A : Option Addr} (h : Only W w' A) {p : Addr} (hp : ∀ a, A = some a → a.block ≠ p.block) : w'.cell? p = W.cell? p :=
  World.cell?_of_block (h.2.2.2.2.1 _ hp)
/-- what lies elsewhere reads as it did. -/
theorem Rd.only {k : IntKind} {W w' : World} {A A' : Option Addr} {n : Nat} {xs : List Int} (h : Rd k W A n xs) (ho : Only W w' A') (hne : ∀ a a', A = some a → A' = some a' → a'.block ≠ a.block) : Rd k w' A n xs :=
  h.keep fun _ b o e _ i => ho.cell_far (p := ⟨b, i, none⟩) (fun a' e' => hne ⟨b, o, none⟩ a' e e')
theorem Laid.only {W w' : World} {A : Option Addr} (h : Laid W) (ho : Only W w' A) (hA : ∀ a, A = some a → 0 < a.block) : Laid w' := by
  unfold Laid; rw [ho.cell_far (p := ⟨0, 0, none⟩) (fun a e => by have := hA a e; show a.block ≠ 0; omega)]; exact h
/-- a store into a block that is not A's. -/
theorem Rd.off {k : IntKind} {w : World} {A : Option Addr} {n : Nat} {xs : List Int} (h : Rd k w A n xs) {g : Nat} (hg : ∀ b o, A = some ⟨b, o, none⟩ → g ≠ b) (j : Nat) (v : Value) : Rd k (w.setCell ⟨g, j, none⟩ v) A n xs :=
  h.keep fun _ b o e _ i => World.cell?_setCell_other _ _ _ _ (fun e' => hg b o e (by injection e'))

/-- A result of a code and bytes: the bytes read as xs and lie in new memory; nothing that was there has turned. -/
def BytesAns (w : World) (c : Int) (xs : List Int) (e : Ending) (w' : World) : Prop :=
  ∃ A n cp, e = .returned (.agg #[.int .i64 c, .slice A n cp]) ∧ Rd .u8 w' A n xs ∧ New w w' A n ∧ Below w.heap.size w w' ∧ n ≤ cp ∧ cp ≤ maxLen

def pb (v : Int) : List Int := [v % 4294967296 / 16777216, v % 4294967296 / 65536 % 256, v % 4294967296 / 256 % 256, v % 4294967296 % 256]
def four (a b c d : Int) : Array Value := #[.int .u8 a, .int .u8 b, .int .u8 c, .int .u8 d]
theorem rd_four (w : World) (a b c d : Int) (t : TypeId) : Rd .u8 (w.alloc (.cells (four a b c d) t)) (some ⟨w.heap.size, 0, none⟩) 4 [a, b, c, d] :=
  ⟨rfl, fun _ => ⟨w.heap.size, 0, rfl, fun i hi => by
    match i, hi with
    | 0, _ => simp [four]
    | 1, _ => simp [four]
    | 2, _ => simp [four]
    | 3, _ => simp [four]⟩⟩
theorem new_alloc (w : World) (n : Nat) (t : TypeId) (cs : Array Value) : New w (w.alloc (.cells cs t)) (some ⟨w.heap.size, 0, none⟩) n :=
  .inr ⟨w.heap.size, 0, rfl, Nat.le_refl _, by simp, fun i _ => by simp⟩

theorem four_ans (w : World) (t : TypeId) (a b c d v : Int) (h : [a, b, c, d] = pb v) :
    Rd .u8 (w.alloc (.cells #[.int .u8 a, .int .u8 b, .int .u8 c, .int .u8 d] t)) (some ⟨w.heap.size, 0, none⟩) 4 (pb v) ∧ New w (w.alloc (.cells #[.int .u8 a, .int .u8 b, .int .u8 c, .int .u8 d] t)) (some ⟨w.heap.size, 0, none⟩) 4 ∧ Below w.heap.size w (w.alloc (.cells #[.int .u8 a, .int .u8 b, .int .u8 c, .int .u8 d] t)) :=
  ⟨by rw [← h]; exact rd_four w a b c d t, new_alloc w 4 t _, blAlloc _ _⟩

set_option maxHeartbeats 400000 in
theorem putFix_yes (v : Int) (w : World) (h : okF v = true) : Calls Tryd.prog 55 #[.int .i64 v] w fun e w' => ∃ A, e = .returned (.tuple #[.slice A 4 4, .nilIface]) ∧ Rd .u8 w' A 4 (pb v) ∧ New w w' A 4 ∧ Below w.heap.size w w' := by
  have h' : inB v (-16777216) 16777216 = true := h
  obtain ⟨h1, h2⟩ := inB_iff.1 h
  clear h
  go_enter Tryd.func55, Tryd.ntmps55
  go_wp2_with (go_at_call 65; refine (isFix_any _ _).mono ?_; rintro e w' ⟨rfl, rfl⟩)
  go_ret2
  exact ⟨_, rfl, four_ans _ _ _ _ _ _ v (by simp only [pb, List.cons.injEq, and_true, true_and]; omega)⟩
set_option maxHeartbeats 400000 in
theorem putFix_no (v : Int) (w : World) (h : okF v = false) : Calls Tryd.prog 55 #[.int .i64 v] w fun e w' => e = .returned (.tuple #[.slice none 0 0, .iface 72 (.agg #[.int .i64 3])]) ∧ w = w' := by
  have h' : inB v (-16777216) 16777216 = false := h
  clear h
  go_enter Tryd.func55, Tryd.ntmps55
  go_wp2_with (go_at_call 65; refine (isFix_any _ _).mono ?_; rintro e w' ⟨rfl, rfl⟩)
  go_ret2
  exact ⟨rfl, rfl⟩

set_option maxHeartbeats 400000 in
theorem bytesAnswer_ok (A : Option Addr) (n c : Nat) (w : World) : Calls Tryd.prog 54 #[.slice A n c, .nilIface] w fun e w' => e = .returned (.agg #[.int .i64 0, .slice A n c]) ∧ Below w.heap.size w w' := by
  go_enter Tryd.func54, Tryd.ntmps54
  go_wp2_with fail
  refine (codeOf_nil _).mono ?_
  rintro e w1 ⟨rfl, hb⟩
  obtain ⟨hc, hf⟩ := bcell hb
  have hz : w.heap.size < w1.heap.size := by have := hb.size; simp at this; omega
  go_wp2_with fail
  exact bodyPost_ret (v := .agg #[.int .i64 0, .slice A n c]) (by simp [results, Tryd.results54, go_sem, hc]) rfl ⟨rfl, by repeat (first | exact blThen (blAlloc _ _) hb | refine Below.setCell ?_ (by simp) _)⟩
set_option maxHeartbeats 400000 in
theorem bytesAnswer_err (A : Option Addr) (n cp : Nat) (c : Int) (w : World) (hL : Laid w) (h0 : c ≠ 0) : Calls Tryd.prog 54 #[.slice A n cp, .iface 72 (.agg #[.int .i64 c])] w fun e w' => e = .returned (.agg #[.int .i64 c, .slice none 0 0]) ∧ Below w.heap.size w w' := by
  have h0' : (c != 0) = true := by simpa using h0
  go_enter Tryd.func54, Tryd.ntmps54
  go_wp2_with fail
  refine (codeOf_hit c _ (hL.alloc _)).mono ?_
  rintro e w1 ⟨rfl, hb⟩
  obtain ⟨hc, hf⟩ := bcell hb
  have hz : w.heap.size < w1.heap.size := by have := hb.size; simp at this; omega
  go_wp2_with fail
  exact bodyPost_ret (v := .agg #[.int .i64 c, .slice none 0 0]) (by simp [results, Tryd.results54, go_sem, hc]) rfl ⟨rfl, by repeat (first | exact blThen (blAlloc _ _) hb | refine Below.setCell ?_ (by simp) _)⟩

def pfC (v : Int) : Int := if okF v then 0 else 3
def pfB (v : Int) : List Int := if okF v then pb v else []
set_option maxHeartbeats 400000 in
theorem PutFix_any (v : Int) (w : World) (hL : Laid w) : Calls Tryd.prog 27 #[.int .i64 v] w (BytesAns w (pfC v) (pfB v)) := by
  by_cases h : okF v = true
  · have e1 : pfC v = 0 := if_pos h
    have e2 : pfB v = pb v := if_pos h
    rw [e1, e2]
    clear e1 e2
    go_enter Tryd.func27, Tryd.ntmps27
    go_wp2_with fail
    refine (putFix_yes v _ h).mono ?_
    rintro e w1 ⟨A, rfl, hr, hn, hb1⟩
    obtain ⟨hc1, hf1⟩ := bcell hb1
    have hz1 : w.heap.size < w1.heap.size := by have := hb1.size; simp at this; omega
    have HR := Lib.hid hr
    have HN := Lib.hid hn
    clear hr hn
    go_wp2_with fail
    refine (bytesAnswer_ok _ _ _ _).mono ?_
    rintro e w2 ⟨rfl, hb2⟩
    obtain ⟨hc2, hf2⟩ := bcell hb2
    have hz2 : w.heap.size < w2.heap.size := by have := hb2.size; omega
    go_wp2_with fail
    refine bodyPost_ret (v := .agg #[.int .i64 0, .slice A 4 4]) (by simp [results, Tryd.results27, go_sem, hc2, hc1, hz1]) rfl ⟨A, 4, 4, rfl, ?_, ?_, ?_, by omega, by decide⟩
    · exact ((HR.out.below hb2).off (fun b o e => by have := HN.out.ge _ e; simp at this; omega) 0 _).off (fun b o e => by have := HN.out.ge _ e; simp at this; omega) 1 _
    · exact (((HN.out.below hb2).after (by simp)).setCell).setCell
    · repeat (first | exact blThen (blThen (blAlloc _ _) hb1) hb2 | refine Below.setCell ?_ (by simp) _)
  · have e1 : pfC v = 3 := if_neg h
    have e2 : pfB v = [] := if_neg h
    rw [e1, e2]
    clear e1 e2
    have h' : okF v = false := by simpa using h
    clear h
    go_enter Tryd.func27, Tryd.ntmps27
    go_wp2_with fail
    refine (putFix_no v _ h').mono ?_
    rintro e w1 ⟨rfl, rfl⟩
    go_wp2_with fail
    refine (bytesAnswer_err _ _ _ 3 _ (hL.alloc _) (by decide)).mono ?_
    rintro e w2 ⟨rfl, hb2⟩
    obtain ⟨hc2, hf2⟩ := bcell hb2
    have hz2 : w.heap.size < w2.heap.size := by have := hb2.size; simp at this; omega
    go_wp2_with fail
    exact bodyPost_ret (v := .agg #[.int .i64 3, .slice none 0 0]) (by simp [results, Tryd.results27, go_sem, hc2]) rfl ⟨none, 0, 0, rfl, Rd.nil, New.nil, by repeat (first | exact blThen (blAlloc _ _) hb2 | refine Below.setCell ?_ (by simp) _), by omega, by decide⟩
set_option maxHeartbeats 400000 in
theorem sPut_any (v : Int) (w : World) (h1 : -16777216 ≤ v) (h2 : v ≤ 16777216) : Calls Tryd.prog 56 #[.int .i64 v] w fun e w' => ∃ A, e = .returned (.slice A 4 4) ∧ Rd .u8 w' A 4 (pb v) ∧ New w w' A 4 ∧ Below w.heap.size w w' := by
  by_cases h : v < 0
  · go_enter Tryd.func56, Tryd.ntmps56
    go_wp2
    go_ret
    exact ⟨_, rfl, four_ans _ _ _ _ _ _ v (by simp only [pb, List.cons.injEq, and_true]; omega)⟩
  · go_enter Tryd.func56, Tryd.ntmps56
    go_wp2
    go_ret
    exact ⟨_, rfl, four_ans _ _ _ _ _ _ v (by simp only [pb, List.cons.injEq, and_true]; omega)⟩
set_option maxHeartbeats 400000 in
theorem sPutFix_any (v : Int) (w : World) : Calls Tryd.prog 30 #[.int .i64 v] w (BytesAns w (pfC v) (pfB v)) := by
  by_cases h : okF v = true
  · have e1 : pfC v = 0 := if_pos h
    have e2 : pfB v = pb v := if_pos h
    rw [e1, e2]
    clear e1 e2
    obtain ⟨h1, h2⟩ := inB_iff.1 h
    go_enter Tryd.func30, Tryd.ntmps30
    go_wp2_with (go_at_call 48; refine (sFix_any _ _).mono ?_; rintro e w' ⟨rfl, rfl⟩)
    refine (sPut_any v _ h1 h2).mono ?_
    rintro e w1 ⟨A, rfl, hr, hn, hb1⟩
    obtain ⟨hc1, hf1⟩ := bcell hb1
    have hz1 : w.heap.size < w1.heap.size := by have := hb1.size; simp at this; omega
    have HR := Lib.hid hr
    have HN := Lib.hid hn
    clear hr hn
    go_wp2_with fail
    refine bodyPost_ret (v := .agg #[.int .i64 0, .slice A 4 4]) (by simp [results, Tryd.results30, go_sem, hc1]) rfl ⟨A, 4, 4, rfl, ?_, ?_, ?_, by omega, by decide⟩
    · exact (HR.out.off (fun b o e => by have := HN.out.ge _ e; simp at this; omega) 0 _).off (fun b o e => by have := HN.out.ge _ e; simp at this; omega) 1 _
    · exact ((HN.out.after (by simp)).setCell).setCell
    · repeat (first | exact blThen (blAlloc _ _) hb1 | refine Below.setCell ?_ (by simp) _)
  · have e1 : pfC v = 3 := if_neg h
    have e2 : pfB v = [] := if_neg h
    rw [e1, e2]
    clear e1 e2
    have h' : okF v = false := by simpa using h
    clear h
    go_enter Tryd.func30, Tryd.ntmps30
    go_wp2_with (go_at_call 48; refine (sFix_any _ _).mono ?_; rintro e w' ⟨rfl, rfl⟩)
    exact bodyPost_ret (v := .agg #[.int .i64 3, .slice none 0 0]) (by simp [results, Tryd.results30, go_sem]) rfl ⟨none, 0, 0, rfl, Rd.nil, New.nil, blAlloc _ _, by omega, by decide⟩

/-! ### a box of two cells -/
def Box2 (w : World) (g : Nat) (x y : Value) : Prop := w.cell? ⟨g, 0, none⟩ = some x ∧ w.cell? ⟨g, 1, none⟩ = some y
theorem Box2.new (w : World) (t : TypeId) (x y : Value) : Box2 (w.alloc (.cells #[x, y] t)) w.heap.size x y := ⟨by simp, by simp⟩
theorem Box2.below {w w' : World} {g : Nat} {x y : Value} (h : Box2 w g x y) (hb : Below w.heap.size w w') : Box2 w' g x y :=
  ⟨by rw [hb.cell (p := ⟨g, 0, none⟩) (cell_lt h.1)]; exact h.1, by rw [hb.cell (p := ⟨g, 1, none⟩) (cell_lt h.1)]; exact h.2⟩
theorem Box2.alloc {w : World} {g : Nat} {x y : Value} (h : Box2 w g x y) (o : Obj) : Box2 (w.alloc o) g x y := h.below (blAlloc _ _)
theorem Box2.only {W w' : World} {A : Option Addr} {g : Nat} {x y : Value} (h : Box2 W g x y) (ho : Only W w' A) (hA : ∀ a, A = some a → a.block ≠ g) : Box2 w' g x y :=
  ⟨by rw [ho.cell_far (p := ⟨g, 0, none⟩) hA]; exact h.1, by rw [ho.cell_far (p := ⟨g, 1, none⟩) hA]; exact h.2⟩

/-! ### the laws' helpers over a code and bytes -/
set_option maxHeartbeats 400000 in
theorem eqBytes_same (A A' : Option Addr) (n c c' : Nat) (k : Int) (xs : List Int) (w : World) (h : Rd .u8 w A n xs) (h' : Rd .u8 w A' n xs) (hn : n ≤ 1000000000000) :
    Calls Tryd.prog 34 #[.agg #[.int .i64 k, .slice A n c], .agg #[.int .i64 k, .slice A' n c']] w fun e w' => e = .returned (.bool true) ∧ Below w.heap.size w w' := by
  have H := Lib.hid h
  have H' := Lib.hid h'
  clear h h'
  go_enter Tryd.func34, Tryd.ntmps34
  go_wp2_with (go_at_call 38; refine (eqByteS_same _ _ _ _ _ xs _ ((H.out.alloc _).alloc _) ((H'.out.alloc _).alloc _) hn).mono ?_; rintro e w' ⟨rfl, m, rfl⟩)
  go_ret
  exact ⟨rfl, ((blAlloc _ _).alloc (by simp) _).trans (below_drewN _ _ _)⟩

theorem Only.after {w W w' : World} {A : Option Addr} (h : Only W w' A) (hb : Below w.heap.size w W) (hA : ∀ a, A = some a → w.heap.size ≤ a.block) : Below w.heap.size w w' :=
  hb.trans (h.below hA)
set_option maxHeartbeats 400000 in
theorem markBytes_any (A : Option Addr) (n c : Nat) (q k : Int) (xs : List Int) (w : World) (h : Rd .u8 w A n xs) (hn : n ≤ 1000000000000) (h0 : 0 ≤ k) (h1 : k ≤ 1000000000000)
    (hf : ∀ b o, A = some ⟨b, o, none⟩ → ∀ i, i < n → w.frozen? ⟨b, o + i, none⟩ = false) :
    Calls Tryd.prog 35 #[.agg #[.int .i64 q, .slice A n c], .int .i64 k] w fun e w' => e = .returned (.int .i64 (k + n)) ∧ Rd .u8 w' A n (marks k n) ∧ ∃ W, Below w.heap.size w W ∧ w.heap.size < W.heap.size ∧ Only W w' A := by
  have H := Lib.hid h
  have HF := Lib.hid hf
  clear h hf
  go_enter Tryd.func35, Tryd.ntmps35
  go_wp2_with fail
  refine (markByteS_any _ _ _ _ xs _ (H.out.alloc _) hn h0 h1 ?_).mono ?_
  · intro b o e i hi
    obtain ⟨b', o', e', hc⟩ := H.out.2 (by omega)
    rw [e] at e'
    obtain ⟨rfl, rfl⟩ : b = b' ∧ o = o' := by simpa using e'
    have := cell_lt (hc i hi)
    rw [World.frozen?_alloc_old _ _ _ (by simp; omega)]; exact HF.out b o e i hi
  rintro e w1 ⟨rfl, hr, ho⟩
  have HR := Lib.hid hr
  have HO := Lib.hid ho
  clear hr ho
  go_wp2_with fail
  go_ret
  exact ⟨rfl, HR.out, _, blAlloc _ _, by simp, HO.out⟩

set_option maxHeartbeats 400000 in
theorem heldBytes_any (A : Option Addr) (n c : Nat) (q k : Int) (w : World) (h : Rd .u8 w A n (marks k n)) (hn : n ≤ 1000000000000) (h0 : 0 ≤ k) (h1 : k ≤ 1000000000000) :
    Calls Tryd.prog 36 #[.agg #[.int .i64 q, .slice A n c], .int .i64 k] w fun e w' => e = .returned (.int .i64 (k + n)) ∧ Below w.heap.size w w' := by
  have H := Lib.hid h
  clear h
  go_enter Tryd.func36, Tryd.ntmps36
  go_wp2_with (go_at_call 61; refine (heldByteS_any _ _ _ _ _ (H.out.alloc _) hn h0 h1).mono ?_; rintro e w' ⟨rfl, rfl⟩)
  go_ret
  exact ⟨rfl, blAlloc _ _⟩
end Go.Proofs.YtfheofbgoaggmaaDoor
