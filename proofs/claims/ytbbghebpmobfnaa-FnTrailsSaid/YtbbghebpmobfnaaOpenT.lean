/-
  Arguments as the frame hands them: bytes, and profiles, as data in known blocks.
-/
import Derived.Test.YtbbghebpmobfnaaHelpT
import Derived.Lib.SmallJoins
import Derived.Deep.SlicePairs
namespace Go.Proofs.Ytbbghebpmobfnaa
open Go.RowKit Go.ChangeShapes Go.WideShapes Go.Deep Go.Joins
set_option linter.unusedVariables false

section
variable {H : Type} {enc : TypeId × Value → H} {w : World} {base : Nat} {spare : Nat → Bool} {held : Bool}
theorem add_flat {b o : Nat} {sp : Option Nat} {i : Nat} (h : sp = none) : (⟨b, o, sp⟩ : Addr).add i = ⟨b, o + i, none⟩ := by
  subst h
  unfold Addr.add
  split
  · rename_i e; subst e; simp
  · rfl
theorem cell_spot {b o : Nat} {sp : Option Nat} {v : Value} (h : w.cell? ((⟨b, o, sp⟩ : Addr).add 0) = some v) : sp = none := by
  have := World.cell?_spot h
  simpa [Addr.add] using this
theorem open_hd_u8 {t e : TypeId} {fuel : Nat} {v : Value} {x : DataW H × List MemPlace} (ht : Try.prog.underlying t = some (.slice e)) (he : Try.prog.underlying e = some (.int .u8)) (hc : Try.prog.cellsOf e = 1)
    (h : DataW.trod enc Try.prog w base spare held fuel t [v] = some x) : ∃ A n c xs bs, v = .slice A n c ∧ Hd w (.ints .u8 xs) (.slice A n c) bs ∧ U8s xs := by
  rcases open_ints ht he hc h with ⟨hcs, _⟩ | ⟨a, l, c, zs, hcs, _, hl, hm, hz, _, hcell, hwz⟩
  · obtain rfl : v = .slice none 0 0 := by simpa using hcs
    exact ⟨none, 0, 0, [], [], rfl, .ints0 _ _ _ (Nat.zero_le _), fun i => by simp⟩
  · obtain rfl : v = .slice (some a) l c := by simpa using hcs
    obtain ⟨b, o, sp⟩ := a
    have hlz : l ≤ zs.length := by rw [hz]; split <;> omega
    have hlen : (zs.take l).length = l := by simp; omega
    have hget : ∀ i, i < l → (zs.take l).getD i 0 = zs.getD i 0 := fun i hi => by simp [List.getD, hi]
    have hu : U8s (zs.take l) := fun i => by
      by_cases hi : i < l
      · rw [hget i hi]
        have : zs.getD i 0 ∈ zs := by
          rw [List.getD_eq_getElem?_getD, List.getElem?_eq_getElem (by omega)]; simp
        exact bounds_u8 (hwz _ this)
      · have : (zs.take l).getD i 0 = 0 := by simp [List.getD, List.getElem?_take, hi]
        rw [this]; omega
    rcases Nat.eq_zero_or_pos l with h0 | h0
    · subst h0
      exact ⟨_, 0, c, [], [], rfl, .ints0 _ _ _ hm, fun i => by simp⟩
    · obtain rfl := cell_spot (hcell 0 (by omega))
      refine ⟨_, l, c, zs.take l, [b], rfl, .ints .u8 b o l c _ h0 hlen (fun i hi => ?_) hl hm, hu⟩
      rw [hget i hi, ← add_flat rfl]
      exact hcell i (by omega)
set_option maxRecDepth 100000 in
theorem open_bytes {r : Reach} {b0 : Nat} {v : Value} {d : DataW H} {p : List MemPlace} (hv : Value.okWide Try.prog w r b0 22 v) (h : DataW.Trod enc Try.prog w base spare held 22 v d p) :
    ∃ A n c xs bs, v = .slice A n c ∧ Hd w (.ints .u8 xs) (.slice A n c) bs ∧ U8s xs := by
  obtain ⟨A, n, c, rfl⟩ := okWide_slice Try.underlying22 hv
  obtain ⟨fuel, hf⟩ := h
  exact open_hd_u8 Try.underlying22 Try.underlying5 (by kernel_rfl) hf
theorem tg_range {n : Nat} {f : Nat → Tg} {i : Nat} (h : i < n) : tg ((List.range n).map f) i = f i := by simp [tg, List.getD, h]
theorem tg_out {ts : List Tg} {i : Nat} (h : ts.length ≤ i) : tg ts i = (ByteArray.empty, []) := by simp [tg, List.getD, h]
theorem open_tags {fuel : Nat} {v : Value} {x : DataW H × List MemPlace} (h : DataW.trod enc Try.prog w base spare held fuel 41 [v] = some x) :
    ∃ A n c ts bs, v = .slice A n c ∧ Hd w (tagsD ts) (.slice A n c) bs ∧ TsOk ts ∧ ∀ i, U8s (tg ts i).2 := by
  rcases open_slice_pairs Try.underlying41 Try.underlying98 (by kernel_rfl) rfl rfl (by kernel_rfl) (by kernel_rfl) h with ⟨hcs, _⟩ | ⟨a, len, cap, m, n, V0, V1, D0, D1, P0, P1, hcs, _, hl, hm, hmm, _, hx⟩
  · obtain rfl : v = .slice none 0 0 := by simpa using hcs
    exact ⟨none, 0, 0, [], [], rfl, .sl0 _ _ _ (Nat.zero_le _), fun i => by simp [tg], fun i j => by simp [tg]⟩
  · obtain rfl : v = .slice (some a) len cap := by simpa using hcs
    obtain ⟨b, o, sp⟩ := a
    have hlm : len ≤ m := by rw [hmm]; split <;> omega
    rcases Nat.eq_zero_or_pos len with h0 | h0
    · subst h0
      exact ⟨_, 0, cap, [], [], rfl, .sl0 _ _ _ hm, fun i => by simp [tg], fun i j => by simp [tg]⟩
    obtain rfl := cell_spot (by simpa using (hx 0 (by omega)).1)
    have each : ∀ i, ∃ q : Tg × List Nat, i < len → V0 i = .string q.1.1 ∧ q.1.1.size ≤ maxLen ∧ Hd w (.ints .u8 q.1.2) (V1 i) q.2 ∧ U8s q.1.2 := fun i => by
      by_cases hi : i < len
      · obtain ⟨_, _, t0, t1⟩ := hx i (by omega)
        obtain ⟨s, hs, _, hsz⟩ := DataW.trod_string Try.underlying9 t0
        obtain ⟨A', n', c', xs, gs, hv, hd, hu⟩ := open_hd_u8 Try.underlying22 Try.underlying5 (by kernel_rfl) t1
        exact ⟨((s, xs), gs), fun _ => ⟨by simpa using hs, hsz, by rw [hv]; exact hd, hu⟩⟩
      · exact ⟨default, fun h => absurd h hi⟩
    obtain ⟨q, hq⟩ := Classical.axiomOfChoice each
    refine ⟨_, len, cap, (List.range len).map fun i => (q i).1, _, rfl, .sl 2 b o len cap _ (fun i j => if j = 0 then V0 i else V1 i) (fun i j => if j = 0 then [] else (q i).2) h0 (by omega) (by simp) (fun i hi j hj => ?_) (fun i hi j hj => ?_) hl hm, fun i => ?_, fun i => ?_⟩
    · obtain ⟨c0, c1, _, _⟩ := hx i (by omega)
      rw [add_flat rfl] at c0 c1
      match j, hj with
      | 0, _ => simpa using c0
      | 1, _ => simpa [Nat.add_assoc] using c1
    · show Hd w (At _ i j) _ _
      obtain ⟨e0, _, e2, _⟩ := hq i hi
      match j, hj with
      | 0, _ => rw [tags_at0 (by simpa using hi), tg_range hi]; simp only [if_true]; rw [e0]; exact .str _
      | 1, _ => rw [tags_at1 (by simpa using hi), tg_range hi]; simpa using e2
    · by_cases hi : i < len
      · rw [tg_range hi]; exact (hq i hi).2.1
      · rw [tg_out (by simp; omega)]; decide
    · by_cases hi : i < len
      · rw [tg_range hi]; exact (hq i hi).2.2.2
      · rw [tg_out (by simp; omega)]; exact fun j => by simp
set_option maxRecDepth 100000 in
theorem open_profile {r : Reach} {b0 : Nat} {v : Value} {d : DataW H} {p : List MemPlace} (hv : Value.okWide Try.prog w r b0 43 v) (h : DataW.Trod enc Try.prog w base spare held 43 v d p) :
    ∃ cl A n c ts bs, v = .agg #[.int .i64 cl, .slice A n c] ∧ Hd w (tagsD ts) (.slice A n c) bs ∧ TsOk ts ∧ (∀ i, U8s (tg ts i).2) ∧ (Lit.int .i64 cl).wf = true := by
  obtain ⟨v0, v1, y0, y1, n, rfl, _, _, t0, t1⟩ := open_agg2 Try.underlying43 (by kernel_rfl) (by kernel_rfl) hv h
  obtain ⟨cl, h0, _, hw⟩ := DataW.trod_int Try.underlying2 t0
  obtain rfl : v0 = .int .i64 cl := by simpa using h0
  obtain ⟨A, n, c, ts, bs, rfl, hd, h1, h2⟩ := open_tags t1
  exact ⟨cl, A, n, c, ts, bs, rfl, hd, h1, h2, hw⟩
end
end Go.Proofs.Ytbbghebpmobfnaa
