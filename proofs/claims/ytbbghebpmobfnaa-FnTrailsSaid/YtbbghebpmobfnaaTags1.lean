/-
  Names of tags: impl.nameOf and the reference model's l2Name.
-/
import Derived.Test.YtbbghebpmobfnaaBase
namespace Go.Proofs.Ytbbghebpmobfnaa
open Go.RowKit
set_option linter.unusedVariables false

/-- byte i of a text. -/
def bt (s : ByteArray) (i : Nat) : Int := ((s.data.toList.getD i 0).toNat : Int)
def okB (x : Int) : Bool := inB x 97 122
/-- a name of a tag. -/
def nm (s : ByteArray) : Bool := s.size == 4 && (okB (bt s 0) && (okB (bt s 1) && (okB (bt s 2) && okB (bt s 3))))
theorem nm_size {s : ByteArray} (h : nm s = true) : s.size = 4 := by unfold nm at h; simp at h; exact h.1
theorem four_of {s : ByteArray} (h : s.size = 4) : ∃ c0 c1 c2 c3, s = ⟨#[c0, c1, c2, c3]⟩ := by
  obtain ⟨⟨l⟩⟩ := s
  match l, h with
  | [c0, c1, c2, c3], _ => exact ⟨c0, c1, c2, c3, rfl⟩
theorem bt_mk (c0 c1 c2 c3 : UInt8) : bt ⟨#[c0, c1, c2, c3]⟩ 0 = (c0.toNat : Int) ∧ bt ⟨#[c0, c1, c2, c3]⟩ 1 = (c1.toNat : Int) ∧ bt ⟨#[c0, c1, c2, c3]⟩ 2 = (c2.toNat : Int) ∧ bt ⟨#[c0, c1, c2, c3]⟩ 3 = (c3.toNat : Int) := ⟨rfl, rfl, rfl, rfl⟩
theorem okB_t {x : Int} (h : okB x = true) : 97 ≤ x ∧ x ≤ 122 := inB_iff.1 h
theorem okB_f {x : Int} (h : okB x = false) : x < 97 ∨ 122 < x := inB_f h

def zero4 : Value := .agg #[.int .u8 0, .int .u8 0, .int .u8 0, .int .u8 0]
def arr4 (s : ByteArray) : Value := .agg #[.int .u8 (bt s 0), .int .u8 (bt s 1), .int .u8 (bt s 2), .int .u8 (bt s 3)]
theorem info_u8' : (Try.prog.info? 5).map (·.size) = some 1 := by kernel_rfl
/-- four bytes of a string go over into a new array. -/
theorem run_copy4 (W : World) (ty : TypeId) (c0 c1 c2 c3 : UInt8) : (Builtin.copy_ #[22, 9] ty #[.slice (some ⟨W.heap.size, 0, none⟩) 4 4, .string ⟨#[c0, c1, c2, c3]⟩]).run Try.prog (W.alloc (.cells #[.int .u8 0, .int .u8 0, .int .u8 0, .int .u8 0] 70)) =
    .ok (.int .i64 4) (W.alloc (.cells #[.int .u8 (c0.toNat : Int), .int .u8 (c1.toNat : Int), .int .u8 (c2.toNat : Int), .int .u8 (c3.toNat : Int)] 70)) := by
  have hs := info_u8'
  cases hq : Try.prog.info? 5 with
  | none => simp [hq] at hs
  | some i =>
    have hi : i.size = 1 := by simpa [hq] using hs
    simp [Builtin.copy_, run_underlying Try.underlying22, Builtin.lenOf, Builtin.firstCells, sizeOf, typeInfo, hq, goInt, storeCells, go_sem]
set_option maxHeartbeats 400000 in
theorem nameOf_long (s : ByteArray) (w : World) (hs : s.size ≤ maxLen) (h : s.size ≠ 4) : Calls Try.prog 50 #[.string s] w fun e w' => e = .returned (.tuple #[zero4, .bool false]) ∧ Below w.heap.size w w' := by
  unfold maxLen at hs
  have h' : ((s.size : Int) != 4) = true := by simp; omega
  go_enter Try.func50, Try.ntmps50
  go_wp2_with fail
  refine bodyPost_ret (v := .tuple #[.agg #[.int .u8 0, .int .u8 0, .int .u8 0, .int .u8 0], .bool false]) (by simp [results, Try.results50, go_sem]) rfl ⟨rfl, ?_⟩
  exact blAlloc _ _
/-- the first j bytes are letters; what then. -/
def okTo (s : ByteArray) (j : Nat) : Prop := ∀ i, i < j → okB (bt s i) = true
theorem nm_of {s : ByteArray} (h : s.size = 4) (ho : okTo s 4) : nm s = true := by
  unfold nm; rw [ho 0 (by omega), ho 1 (by omega), ho 2 (by omega), ho 3 (by omega), h]; rfl
theorem nm_not {s : ByteArray} {j : Nat} (hj : j < 4) (h : okB (bt s j) = false) : nm s = false := by
  unfold nm
  match j, hj with
  | 0, _ => rw [h]; simp
  | 1, _ => rw [h]; simp
  | 2, _ => rw [h]; simp
  | 3, _ => rw [h]; simp
theorem nm_bad {s : ByteArray} {j : Nat} (hj : j < s.size) (h : okB (bt s j) = false) : nm s = false := by
  by_cases h4 : s.size = 4
  · exact nm_not (by omega) h
  · unfold nm; simp [h4]
theorem nm_size_not {s : ByteArray} (h4 : s.size ≠ 4) : nm s = false := by unfold nm; simp [h4]
def NameAns (s : ByteArray) (w : World) (e : Ending) (w' : World) : Prop := e = .returned (.tuple #[if nm s then arr4 s else zero4, .bool (nm s)]) ∧ Below w.heap.size w w'
theorem idx0 (c0 c1 c2 c3 : UInt8) (w : World) : (Instr.index 70 (.agg #[.int .u8 (c0.toNat : Int), .int .u8 (c1.toNat : Int), .int .u8 (c2.toNat : Int), .int .u8 (c3.toNat : Int)]) (.int .i64 0)).run Try.prog w = .ok (.int .u8 (c0.toNat : Int)) w := by kernel_rfl
theorem idx1 (c0 c1 c2 c3 : UInt8) (w : World) : (Instr.index 70 (.agg #[.int .u8 (c0.toNat : Int), .int .u8 (c1.toNat : Int), .int .u8 (c2.toNat : Int), .int .u8 (c3.toNat : Int)]) (.int .i64 1)).run Try.prog w = .ok (.int .u8 (c1.toNat : Int)) w := by kernel_rfl
theorem idx2 (c0 c1 c2 c3 : UInt8) (w : World) : (Instr.index 70 (.agg #[.int .u8 (c0.toNat : Int), .int .u8 (c1.toNat : Int), .int .u8 (c2.toNat : Int), .int .u8 (c3.toNat : Int)]) (.int .i64 2)).run Try.prog w = .ok (.int .u8 (c2.toNat : Int)) w := by kernel_rfl
theorem idx3 (c0 c1 c2 c3 : UInt8) (w : World) : (Instr.index 70 (.agg #[.int .u8 (c0.toNat : Int), .int .u8 (c1.toNat : Int), .int .u8 (c2.toNat : Int), .int .u8 (c3.toNat : Int)]) (.int .i64 3)).run Try.prog w = .ok (.int .u8 (c3.toNat : Int)) w := by kernel_rfl
theorem idx4 (c0 c1 c2 c3 : UInt8) (j : Nat) (hj : j < 4) (w : World) : (Instr.index 70 (.agg #[.int .u8 (c0.toNat : Int), .int .u8 (c1.toNat : Int), .int .u8 (c2.toNat : Int), .int .u8 (c3.toNat : Int)]) (.int .i64 (j : Int))).run Try.prog w = .ok (.int .u8 (bt ⟨#[c0, c1, c2, c3]⟩ j)) w := by
  match j, hj with
  | 0, _ => exact idx0 c0 c1 c2 c3 w
  | 1, _ => exact idx1 c0 c1 c2 c3 w
  | 2, _ => exact idx2 c0 c1 c2 c3 w
  | 3, _ => exact idx3 c0 c1 c2 c3 w
set_option maxRecDepth 100000 in
set_option maxHeartbeats 1000000 in
theorem nameOf_four (c0 c1 c2 c3 : UInt8) (w : World) : Calls Try.prog 50 #[.string ⟨#[c0, c1, c2, c3]⟩] w (NameAns ⟨#[c0, c1, c2, c3]⟩ w) := by
  have hcp := fun ty => run_copy4 (w.alloc (.cells #[.int .u8 0, .int .u8 0, .int .u8 0, .int .u8 0] 70)) ty c0 c1 c2 c3
  simp only [World.size_alloc] at hcp
  have HIX := Lib.hid (idx4 c0 c1 c2 c3)
  have hA : Hid (arr4 ⟨#[c0, c1, c2, c3]⟩ = .agg #[.int .u8 (c0.toNat : Int), .int .u8 (c1.toNat : Int), .int .u8 (c2.toNat : Int), .int .u8 (c3.toNat : Int)]) := rfl
  go_enter Try.func50, Try.ntmps50
  go_wp2_with fail
  clear hcp
  go_loop [15] (fun i => ∃ j : Nat, j ≤ 4 ∧ i = .int .i64 j ∧ okTo ⟨#[c0, c1, c2, c3]⟩ j) (fun i => 4 - (intOf i).toNat)
  case atStart => exact ⟨0, by omega, rfl, fun i hi => absurd hi (by omega)⟩
  case round =>
    obtain ⟨j, hj, rfl, hok⟩ := hrel
    have HOK := Lib.hid hok
    clear hok
    by_cases hlt : j < 4
    · have hx := HIX.out j hlt
      rcases Bool.eq_false_or_eq_true (okB (bt ⟨#[c0, c1, c2, c3]⟩ j)) with hb | hb
      · obtain ⟨b1, b2⟩ := okB_t hb
        have HB := Lib.hid hb
        clear hb
        generalize bt ⟨#[c0, c1, c2, c3]⟩ j = x at hx b1 b2
        go_wp2_with fail
        go_round
        case rel => exact ⟨j + 1, by omega, by go_num, fun i hi => by
          by_cases e : i = j
          · subst e; exact HB.out
          · exact HOK.out i (by omega)⟩
        case measure => simp [intOf]; omega
      · have HN := Lib.hid (nm_not hlt hb)
        rcases okB_f hb with hb' | hb'
        · clear hb
          generalize bt ⟨#[c0, c1, c2, c3]⟩ j = x at hx hb'
          go_wp2_with fail
          refine bodyPost_ret (v := .tuple #[.agg #[.int .u8 0, .int .u8 0, .int .u8 0, .int .u8 0], .bool false]) (by simp [results, Try.results50, go_sem]) rfl ⟨?_, blThenAlloc (blAlloc _ _) _⟩
          rw [HN.out]; rfl
        · clear hb
          generalize bt ⟨#[c0, c1, c2, c3]⟩ j = x at hx hb'
          go_wp2_with fail
          refine bodyPost_ret (v := .tuple #[.agg #[.int .u8 0, .int .u8 0, .int .u8 0, .int .u8 0], .bool false]) (by simp [results, Try.results50, go_sem]) rfl ⟨?_, blThenAlloc (blAlloc _ _) _⟩
          rw [HN.out]; rfl
    · obtain rfl : j = 4 := by omega
      go_wp2_with fail
      refine bodyPost_ret (v := .tuple #[.agg #[.int .u8 (c0.toNat : Int), .int .u8 (c1.toNat : Int), .int .u8 (c2.toNat : Int), .int .u8 (c3.toNat : Int)], .bool true]) (by simp [results, Try.results50, go_sem]) rfl ⟨?_, ?_⟩
      · rw [nm_of rfl HOK.out]; rfl
      · exact blThenAlloc (blAlloc _ _) _
theorem nameOf_any (s : ByteArray) (w : World) (hs : s.size ≤ maxLen) : Calls Try.prog 50 #[.string s] w (NameAns s w) := by
  by_cases h : s.size = 4
  · obtain ⟨c0, c1, c2, c3, rfl⟩ := four_of h
    exact nameOf_four c0 c1 c2 c3 w
  · refine (nameOf_long s w hs h).mono fun e w' ⟨he, hb⟩ => ⟨?_, hb⟩
    have : nm s = false := by unfold nm; simp [h]
    rw [he, this]; rfl
theorem nameOf_yes (s : ByteArray) (w : World) (hs : s.size ≤ maxLen) (h : nm s = true) : Calls Try.prog 50 #[.string s] w fun e w' => e = .returned (.tuple #[.agg #[.int .u8 (bt s 0), .int .u8 (bt s 1), .int .u8 (bt s 2), .int .u8 (bt s 3)], .bool true]) ∧ Below w.heap.size w w' := by
  refine (nameOf_any s w hs).mono fun e w' ⟨he, hb⟩ => ⟨?_, hb⟩
  rw [he, h]; rfl
theorem nameOf_no (s : ByteArray) (w : World) (hs : s.size ≤ maxLen) (h : nm s = false) : Calls Try.prog 50 #[.string s] w fun e w' => e = .returned (.tuple #[.agg #[.int .u8 0, .int .u8 0, .int .u8 0, .int .u8 0], .bool false]) ∧ Below w.heap.size w w' := by
  refine (nameOf_any s w hs).mono fun e w' ⟨he, hb⟩ => ⟨?_, hb⟩
  rw [he, h]; rfl

theorem bt_at (s : ByteArray) (i : Nat) (h : i < s.size) : (s[i].toNat : Int) = bt s i := by
  unfold bt
  have : s.data.toList.getD i 0 = s[i] := by
    have h' : i < s.data.toList.length := by simpa using h
    rw [List.getD_eq_getElem?_getD, List.getElem?_eq_getElem h']; rfl
  rw [this]
set_option maxHeartbeats 400000 in
theorem sName_any (s : ByteArray) (w : World) (hs : s.size ≤ maxLen) : Calls Try.prog 75 #[.string s] w fun e w' => e = .returned (.bool (nm s)) ∧ w = w' := by
  unfold maxLen at hs
  go_enter Try.func75, Try.ntmps75
  go_wp2
  go_loop [3] (fun i => ∃ j : Nat, j ≤ s.size ∧ i = .int .i64 j ∧ okTo s j) (fun i => s.size - (intOf i).toNat)
  case atStart => exact ⟨0, by omega, rfl, fun i hi => absurd hi (by omega)⟩
  case round =>
    obtain ⟨j, hj, rfl, hok⟩ := hrel
    have HOK := Lib.hid hok
    clear hok
    by_cases hlt : j < s.size
    · rcases Bool.eq_false_or_eq_true (okB (bt s j)) with hb | hb
      · have HB := Lib.hid hb
        obtain ⟨b1, b2⟩ := okB_t hb
        rw [← bt_at s j hlt] at b1 b2
        clear hb
        go_wp2_with fail
        go_round
        case rel => exact ⟨j + 1, by omega, by go_num, fun i hi => by
          by_cases e : i = j
          · subst e; exact HB.out
          · exact HOK.out i (by omega)⟩
        case measure => simp [intOf]; omega
      · have HN := Lib.hid (nm_bad hlt hb)
        have hb' := okB_f hb
        rw [← bt_at s j hlt] at hb'
        clear hb
        rcases hb' with hb' | hb'
        · go_wp2_with fail
          go_ret
          exact ⟨ret_bool HN.out.symm, rfl⟩
        · go_wp2_with fail
          go_ret
          exact ⟨ret_bool HN.out.symm, rfl⟩
    · obtain rfl : j = s.size := by omega
      by_cases h4 : s.size = 4
      · have HN : Hid (nm s = true) := nm_of h4 (by rw [← h4]; exact HOK.out)
        have h' : ((s.size : Int) == 4) = true := by simp; omega
        clear h4
        go_wp2_with fail
        go_ret
        exact ⟨ret_bool HN.out.symm, rfl⟩
      · have HN := Lib.hid (nm_size_not h4)
        have h' : ((s.size : Int) == 4) = false := by simp; omega
        clear h4
        go_wp2_with fail
        go_ret
        exact ⟨ret_bool HN.out.symm, rfl⟩
end Go.Proofs.Ytbbghebpmobfnaa
