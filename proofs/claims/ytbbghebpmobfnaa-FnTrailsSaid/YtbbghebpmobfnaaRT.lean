/-
  What was encoded is parsed back; what stands behind is nothing to it. Lists alone: no walk.
-/
import Derived.Test.YtbbghebpmobfnaaCan
namespace Go.Proofs.Ytbbghebpmobfnaa
open Go.RowKit
set_option linter.unusedVariables false

/-! ### behind the last byte -/
theorem cut_app {xs zs : List Int} {a k : Nat} (h : a + k ≤ xs.length) : ((xs ++ zs).drop a).take k = (xs.drop a).take k := by
  rw [List.drop_append_of_le_length (by omega), List.take_append_of_le_length (by simp; omega)]
theorem get_app {xs zs : List Int} {i : Nat} (h : i < xs.length) : (xs ++ zs).getD i 0 = xs.getD i 0 := by
  rw [List.getD, List.getElem?_append_left h]; rfl
theorem twoAt_app {xs zs : List Int} {a : Nat} (h : a + 1 < xs.length) : twoAt (xs ++ zs) a = twoAt xs a := by
  unfold twoAt; rw [get_app (by omega), get_app h]
theorem nmAt_app {xs zs : List Int} {a : Nat} (h : a + 4 ≤ xs.length) : nmAt (xs ++ zs) a = nmAt xs a := by unfold nmAt; rw [cut_app h]
theorem entC_zero {xs : List Int} {a e : Nat} : entC xs a e = 0 ↔ nm (nmAt xs a) = true ∧ e ≤ twoAt xs (a + 4) ∧ twoAt xs (a + 4) % 4 = 0 ∧ twoAt xs (a + 4) + twoAt xs (a + 6) ≤ xs.length := by
  unfold entC
  by_cases h1 : nm (nmAt xs a) = false
  · rw [if_pos h1]; simp [h1]
  · rw [if_neg h1]
    have h1' : nm (nmAt xs a) = true := by simpa using h1
    by_cases h2 : twoAt xs (a + 4) < e ∨ twoAt xs (a + 4) % 4 ≠ 0 ∨ xs.length < twoAt xs (a + 4) + twoAt xs (a + 6)
    · rw [if_pos h2]
      constructor
      · intro h; omega
      · rintro ⟨_, a1, a2, a3⟩; omega
    · rw [if_neg h2]
      constructor
      · intro _; exact ⟨h1', by omega, by omega, by omega⟩
      · intro _; rfl
theorem ent_app {xs zs : List Int} {a e : Nat} (h : entC xs a e = 0) (ha : a + 8 ≤ xs.length) : entC (xs ++ zs) a e = 0 ∧ entT (xs ++ zs) a = entT xs a := by
  obtain ⟨h1, h2, h3, h4⟩ := entC_zero.1 h
  have e1 := nmAt_app (xs := xs) (zs := zs) (a := a) (by omega)
  have e2 := twoAt_app (xs := xs) (zs := zs) (a := a + 4) (by omega)
  have e3 := twoAt_app (xs := xs) (zs := zs) (a := a + 6) (by omega)
  refine ⟨entC_zero.2 ⟨by rw [e1]; exact h1, by rw [e2]; exact h2, by rw [e2]; exact h3, by rw [e2, e3]; simp; omega⟩, ?_⟩
  unfold entT
  rw [e1, e2, e3, cut_app h4]
theorem rdC_all {xs : List Int} {e n : Nat} : rdC xs e n = 0 ↔ ∀ j, j < n → entC xs (6 + 8 * j) e = 0 := by
  induction n with
  | zero => simp [rdC]
  | succ n ih =>
    simp only [rdC]
    by_cases h : rdC xs e n = 0
    · rw [if_pos h]
      constructor
      · intro h1 j hj
        by_cases ej : j = n
        · subst ej; exact h1
        · exact ih.1 h j (by omega)
      · intro h1; exact h1 n (by omega)
    · rw [if_neg h]
      constructor
      · intro h1; exact absurd h1 h
      · intro h1; exact absurd (ih.2 fun j hj => h1 j (by omega)) h
theorem rdT_congr {xs ys : List Int} {n : Nat} (h : ∀ j, j < n → entT xs (6 + 8 * j) = entT ys (6 + 8 * j)) : rdT xs n = rdT ys n := by
  unfold rdT
  exact List.map_congr_left fun j hj => h j (by simpa using hj)
theorem rp_mk {xs : List Int} (h1 : xs.length ≤ 900) (h2 : 6 ≤ xs.length) (h3 : strOfNums (xs.take 4) = ⟨#[112, 114, 111, 102]⟩) (h4 : 6 + 8 * cntOf xs ≤ xs.length) (h5 : rdC xs (6 + 8 * cntOf xs) (cntOf xs) = 0) : rpC xs = 0 := by
  unfold rpC
  rw [if_neg (by omega), if_neg (fun hh => hh.elim (fun x => by omega) (fun x => x h3)), if_neg (by omega), h5]
theorem pp_mk {xs : List Int} (h : rpC xs = 0) (hp : pf (xs.getD 4 0) (rdT xs (cntOf xs)) = 0) : ppC xs = 0 ∧ ppK xs = xs.getD 4 0 ∧ ppT xs = rdT xs (cntOf xs) := by
  have h0 : ppC xs = 0 := by unfold ppC; rw [if_pos h, hp]
  exact ⟨h0, by unfold ppK; rw [if_pos h0], by unfold ppT; rw [if_pos h0]⟩
theorem pp_app {xs zs : List Int} (h : ppC xs = 0) (hl : xs.length + zs.length ≤ 900) : ppC (xs ++ zs) = 0 ∧ ppK (xs ++ zs) = ppK xs ∧ ppT (xs ++ zs) = ppT xs := by
  obtain ⟨hr, hp⟩ := pp_zero h
  obtain ⟨_, hK, hT⟩ := pp_mk hr hp
  obtain ⟨h1, h2, h3, h4, h5⟩ := rp_zero hr
  have c5 : cntOf (xs ++ zs) = cntOf xs := by unfold cntOf; rw [get_app (by omega)]
  have c4 : (xs ++ zs).getD 4 0 = xs.getD 4 0 := get_app (by omega)
  have ha := rdC_all.1 h5
  have he : ∀ j, j < cntOf xs → entC (xs ++ zs) (6 + 8 * j) (6 + 8 * cntOf xs) = 0 ∧ entT (xs ++ zs) (6 + 8 * j) = entT xs (6 + 8 * j) := fun j hj => ent_app (ha j hj) (by omega)
  have hT' : rdT (xs ++ zs) (cntOf xs) = rdT xs (cntOf xs) := rdT_congr fun j hj => (he j hj).2
  have hr' : rpC (xs ++ zs) = 0 := rp_mk (by simp; omega) (by simp; omega) (by rw [List.take_append_of_le_length (by omega)]; exact h3) (by rw [c5]; simp; omega) (by rw [c5]; exact rdC_all.2 fun j hj => (he j hj).1)
  obtain ⟨a1, a2, a3⟩ := pp_mk hr' (by rw [c4, c5, hT']; exact hp)
  exact ⟨a1, by rw [a2, c4, hK], by rw [a3, c5, hT', hT]⟩

/-! ### what was encoded -/
/-- ys lies in xs at a. -/
def Seg (xs : List Int) (a : Nat) (ys : List Int) : Prop := ∃ p q, xs = p ++ ys ++ q ∧ p.length = a
theorem Seg.cut {xs ys : List Int} {a : Nat} (h : Seg xs a ys) : (xs.drop a).take ys.length = ys := by
  obtain ⟨p, q, rfl, rfl⟩ := h
  rw [List.append_assoc, List.drop_left, List.take_left]
theorem Seg.len {xs ys : List Int} {a : Nat} (h : Seg xs a ys) : a + ys.length ≤ xs.length := by
  obtain ⟨p, q, rfl, rfl⟩ := h
  simp
theorem Seg.get {xs ys : List Int} {a i : Nat} (h : Seg xs a ys) (hi : i < ys.length) : xs.getD (a + i) 0 = ys.getD i 0 := by
  obtain ⟨p, q, rfl, rfl⟩ := h
  rw [List.append_assoc, List.getD, List.getElem?_append_right (by omega), Nat.add_sub_cancel_left, List.getElem?_append_left hi]; rfl
theorem Seg.sub {xs u v t : List Int} {a : Nat} (h : Seg xs a (u ++ v ++ t)) : Seg xs (a + u.length) v := by
  obtain ⟨p, q, rfl, rfl⟩ := h
  exact ⟨p ++ u, t ++ q, by simp, by simp⟩
theorem Seg.app {xs ys : List Int} {a : Nat} (h : Seg xs a ys) (zs : List Int) : Seg (xs ++ zs) a ys := by
  obtain ⟨p, q, rfl, rfl⟩ := h
  exact ⟨p, q ++ zs, by simp, rfl⟩
theorem bodyAt_more (cl : Int) (ts : List Tg) (i : Nat) : ∀ j, i ≤ j → ∃ r, bodyAt cl ts j = bodyAt cl ts i ++ r := by
  intro j hj
  induction j with
  | zero => obtain rfl : i = 0 := by omega
            exact ⟨[], by simp⟩
  | succ j ih =>
    by_cases e : i = j + 1
    · subst e; exact ⟨[], by simp⟩
    · obtain ⟨r, hr⟩ := ih (by omega)
      exact ⟨r ++ List.replicate (padI (bodyAt cl ts j).length - (bodyAt cl ts j).length) 0 ++ (tg ts j).2, by simp only [bodyAt]; rw [hr]; simp⟩
theorem tabAt_more (ts : List Tg) (i : Nat) : ∀ j, i ≤ j → ∃ r, tabAt ts j = tabAt ts i ++ r := by
  intro j hj
  induction j with
  | zero => obtain rfl : i = 0 := by omega
            exact ⟨[], by simp⟩
  | succ j ih =>
    by_cases e : i = j + 1
    · subst e; exact ⟨[], by simp⟩
    · obtain ⟨r, hr⟩ := ih (by omega)
      exact ⟨r ++ nb (tg ts j).1 ++ two (padI (endAt ts j)) ++ two (tg ts j).2.length, by simp only [tabAt]; rw [hr]; simp⟩
theorem str_nb (s : ByteArray) : strOfNums (nb s) = s := by
  have : (nb s).map (fun n => UInt8.ofNat n.toNat) = s.data.toList := by
    unfold nb
    rw [List.map_map]
    conv => rhs; rw [← List.map_id s.data.toList]
    exact List.map_congr_left fun b _ => by simp
  unfold strOfNums
  rw [this]
theorem padI_le (n : Nat) : n ≤ padI n ∧ padI n % 4 = 0 ∧ padI n ≤ n + 3 := by unfold padI; omega
theorem endAt_ge (ts : List Tg) (i : Nat) : 6 + 8 * ts.length ≤ endAt ts i := by
  induction i with
  | zero => exact Nat.le_refl _
  | succ i ih => simp only [endAt]; have := (padI_le (endAt ts i)).1; omega
theorem enc_head (cl : Int) (ts : List Tg) : Seg (enc cl ts) 0 ([112, 114, 111, 102] ++ [cl, (ts.length : Int)] ++ tabAt ts ts.length) := by
  obtain ⟨r, hr⟩ := bodyAt_more cl ts 0 ts.length (Nat.zero_le _)
  exact ⟨[], r, by unfold enc; rw [hr]; rfl, rfl⟩
theorem enc_row {cl : Int} {ts : List Tg} (h : Fine cl ts) {j : Nat} (hj : j < ts.length) : Seg (enc cl ts) (6 + 8 * j) (nb (tg ts j).1 ++ two (padI (endAt ts j)) ++ two (tg ts j).2.length) := by
  obtain ⟨r, hr⟩ := tabAt_more ts (j + 1) ts.length hj
  obtain ⟨p, q, e, hp⟩ := enc_head cl ts
  refine ⟨p ++ [112, 114, 111, 102] ++ [cl, (ts.length : Int)] ++ tabAt ts j, r ++ q, ?_, ?_⟩
  · rw [e, hr]; simp only [tabAt]; simp
  · simp [hp, tabAt_len h j (by omega)]; omega
theorem enc_bytes {cl : Int} {ts : List Tg} (h : Fine cl ts) {j : Nat} (hj : j < ts.length) : Seg (enc cl ts) (padI (endAt ts j)) (tg ts j).2 := by
  obtain ⟨r, hr⟩ := bodyAt_more cl ts (j + 1) ts.length hj
  refine ⟨bodyAt cl ts j ++ List.replicate (padI (bodyAt cl ts j).length - (bodyAt cl ts j).length) 0, r, by unfold enc; rw [hr]; rfl, ?_⟩
  have := bodyAt_len h j (by omega)
  have := (padI_le (endAt ts j)).1
  simp [*]
theorem two_at {xs : List Int} {a v : Nat} (h : Seg xs a (two v)) : twoAt xs a = v := by
  have g0 := h.get (i := 0) (by simp [two])
  have g1 := h.get (i := 1) (by simp [two])
  rw [Nat.add_zero] at g0
  unfold twoAt
  rw [g0, g1]
  simp only [two, List.getD_cons_zero, List.getD_cons_succ]
  omega
theorem enc_ent {cl : Int} {ts : List Tg} (h : Fine cl ts) {j : Nat} (hj : j < ts.length) : entC (enc cl ts) (6 + 8 * j) (6 + 8 * ts.length) = 0 ∧ entT (enc cl ts) (6 + 8 * j) = tg ts j := by
  have hr := enc_row h hj
  have h4 := nm_size (h.name j hj)
  have n4 : (nb (tg ts j).1).length = 4 := by rw [nb_len, h4]
  have s1 : Seg (enc cl ts) (6 + 8 * j) (nb (tg ts j).1) := by
    have := Seg.sub (u := []) (v := nb (tg ts j).1) (t := two (padI (endAt ts j)) ++ two (tg ts j).2.length) (by simpa using hr)
    simpa using this
  have s2 : Seg (enc cl ts) (6 + 8 * j + 4) (two (padI (endAt ts j))) := by
    have := Seg.sub hr
    rw [n4] at this
    exact this
  have s3 : Seg (enc cl ts) (6 + 8 * j + 6) (two (tg ts j).2.length) := by
    have := Seg.sub (u := nb (tg ts j).1 ++ two (padI (endAt ts j))) (v := two (tg ts j).2.length) (t := []) (by simpa using hr)
    have e : (nb (tg ts j).1 ++ two (padI (endAt ts j))).length = 6 := by simp [two, n4]
    rw [e] at this
    exact this
  have e1 : nmAt (enc cl ts) (6 + 8 * j) = (tg ts j).1 := by
    have := s1.cut
    rw [n4] at this
    unfold nmAt
    rw [this, str_nb]
  have e2 := two_at s2
  have e3 := two_at s3
  have hb := enc_bytes h hj
  have hbl := hb.len
  have hg := endAt_ge ts j
  obtain ⟨q1, q2, q3⟩ := padI_le (endAt ts j)
  refine ⟨entC_zero.2 ⟨by rw [e1]; exact h.name j hj, by rw [e2]; omega, by rw [e2]; exact q2, by rw [e2, e3]; exact hbl⟩, ?_⟩
  unfold entT
  rw [e1, e2, e3, hb.cut]
theorem enc_len {cl : Int} {ts : List Tg} (h : Fine cl ts) : (enc cl ts).length ≤ 870 := by
  unfold enc
  rw [bodyAt_len h _ (Nat.le_refl _)]
  exact endAt_le' h (Nat.le_refl _)
theorem enc_back {cl : Int} {ts : List Tg} (hp : pf cl ts = 0) : ppC (enc cl ts) = 0 ∧ ppK (enc cl ts) = cl ∧ ppT (enc cl ts) = ts := by
  have h := fine_of hp
  have hh := enc_head cl ts
  have hl := hh.len
  have tl := tabAt_len h _ (Nat.le_refl _)
  have hl' : 6 + 8 * ts.length ≤ (enc cl ts).length := by simp [tl] at hl; omega
  have g4 : (enc cl ts).getD 4 0 = cl := by have := hh.get (i := 4) (by simp); simpa using this
  have g5 : (enc cl ts).getD 5 0 = (ts.length : Int) := by have := hh.get (i := 5) (by simp); simpa using this
  have hc : cntOf (enc cl ts) = ts.length := by unfold cntOf; rw [g5]; rfl
  have ht : (enc cl ts).take 4 = [112, 114, 111, 102] := by
    have := Seg.cut (Seg.sub (u := []) (v := [112, 114, 111, 102]) (t := [cl, (ts.length : Int)] ++ tabAt ts ts.length) (by simpa using hh))
    simpa using this
  have hT : rdT (enc cl ts) ts.length = ts := by
    unfold rdT
    refine List.ext_getElem (by simp) fun i h1 h2 => ?_
    have : i < ts.length := h2
    simp only [List.getElem_map, List.getElem_range]
    rw [(enc_ent h this).2]
    simp [tg, List.getD, this]
  have hr : rpC (enc cl ts) = 0 := rp_mk (by have := enc_len h; omega) (by omega) (by rw [ht]; rfl) (by rw [hc]; exact hl') (by rw [hc]; exact rdC_all.2 fun j hj => (enc_ent h hj).1)
  obtain ⟨a1, a2, a3⟩ := pp_mk hr (by rw [g4, hc, hT]; exact hp)
  exact ⟨a1, by rw [a2, g4], by rw [a3, hc, hT]⟩
theorem enc_canon {cl : Int} {ts : List Tg} (hp : pf cl ts = 0) : icB (enc cl ts) = true := by
  obtain ⟨h1, h2, h3⟩ := enc_back hp
  unfold icB
  rw [if_pos h1, h2, h3]
  exact decide_eq_true rfl
/-- with one byte more it is not canonical. -/
theorem enc_trail {cl : Int} {ts : List Tg} (hp : pf cl ts = 0) (z : Int) : icB (enc cl ts ++ [z]) = false := by
  obtain ⟨h1, h2, h3⟩ := enc_back hp
  have hl := enc_len (fine_of hp)
  obtain ⟨a1, a2, a3⟩ := pp_app (zs := [z]) h1 (by simp; omega)
  unfold icB
  rw [if_pos a1, a2, a3, h2, h3]
  refine decide_eq_false fun e => ?_
  have := congrArg ByteArray.size e
  rw [strOfNums_size, strOfNums_size] at this
  simp at this
/-! ### bytes -/
def B8 (xs : List Int) : Prop := ∀ x ∈ xs, 0 ≤ x ∧ x ≤ 255
theorem B8.u8 {xs : List Int} (h : B8 xs) : U8s xs := fun i => by
  by_cases hi : i < xs.length
  · have : xs.getD i 0 = xs[i] := by simp [List.getD, hi]
    rw [this]; exact h _ (List.getElem_mem hi)
  · have : xs.getD i 0 = 0 := by rw [List.getD, List.getElem?_eq_none (by omega)]; rfl
    rw [this]; omega
theorem U8s.b8 {xs : List Int} (h : U8s xs) : B8 xs := fun x hx => by
  obtain ⟨i, hi, rfl⟩ := List.getElem_of_mem hx
  have := h i
  have e : xs.getD i 0 = xs[i] := by simp [List.getD, hi]
  rw [e] at this; exact this
theorem B8.app {xs ys : List Int} (h : B8 xs) (k : B8 ys) : B8 (xs ++ ys) := fun x hx => by
  rcases List.mem_append.1 hx with hx | hx
  · exact h x hx
  · exact k x hx
theorem B8.nb (s : ByteArray) : B8 (nb s) := fun x hx => by
  unfold Proofs.Ytbbghebpmobfnaa.nb at hx
  obtain ⟨b, _, rfl⟩ := List.mem_map.1 hx
  have := b.toNat_lt
  omega
theorem B8.two {v : Nat} (h : v ≤ 65535) : B8 (two v) := fun x hx => by
  unfold Proofs.Ytbbghebpmobfnaa.two at hx
  simp only [List.mem_cons, List.not_mem_nil, or_false] at hx
  rcases hx with rfl | rfl <;> omega
theorem B8.tab {cl : Int} {ts : List Tg} (h : Fine cl ts) (i : Nat) (hi : i ≤ ts.length) : B8 (tabAt ts i) := by
  induction i with
  | zero => intro x hx; cases hx
  | succ i ih =>
    have h1 := endAt_le' h (i := i) (by omega)
    have h2 := (padI_le (endAt ts i)).2.2
    have h3 := h.bhi i (by omega)
    exact (((ih (by omega)).app (B8.nb _)).app (B8.two (by omega))).app (B8.two (by omega))
theorem B8.body {cl : Int} {ts : List Tg} (h : Fine cl ts) (hu : ∀ i, B8 (tg ts i).2) (i : Nat) : B8 (bodyAt cl ts i) := by
  induction i with
  | zero =>
    have h1 := h.lo; have h2 := h.hi; have h3 := h.len
    refine B8.app (B8.app ?_ ?_) (B8.tab h _ (Nat.le_refl _))
    · intro x hx; simp only [List.mem_cons, List.not_mem_nil, or_false] at hx; rcases hx with rfl | rfl | rfl | rfl <;> omega
    · intro x hx; simp only [List.mem_cons, List.not_mem_nil, or_false] at hx; rcases hx with rfl | rfl <;> omega
  | succ i ih =>
    refine B8.app (B8.app ih ?_) (hu i)
    intro x hx
    have := (List.mem_replicate.1 hx).2
    omega
theorem enc_u8 {cl : Int} {ts : List Tg} (hp : pf cl ts = 0) (hu : ∀ i, B8 (tg ts i).2) : U8s (enc cl ts) := (B8.body (fine_of hp) hu _).u8
/-- the bytes of the tags that were read are bytes. -/
theorem ppT_b8 {xs : List Int} (h : U8s xs) (i : Nat) : B8 (tg (ppT xs) i).2 := by
  by_cases e : ppC xs = 0
  · have e2 : ppT xs = rdT xs (cntOf xs) := by unfold ppT; rw [if_pos e]
    rw [e2]
    by_cases hi : i < cntOf xs
    · rw [rdT_get hi]
      intro x hx
      exact h.b8 x (List.mem_of_mem_drop (List.mem_of_mem_take hx))
    · have : tg (rdT xs (cntOf xs)) i = default := by unfold tg; rw [List.getD, List.getElem?_eq_none (by rw [rdT_len]; omega)]; rfl
      rw [this]; intro x hx; cases hx
  · have e2 : ppT xs = [] := by unfold ppT; rw [if_neg e]
    rw [e2]; intro x hx; cases hx
end Go.Proofs.Ytbbghebpmobfnaa
