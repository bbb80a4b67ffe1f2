/-
  The span of a grid by the reference model: l5Span, SpanOf; the program's SpanOf at every grid.
-/
import Derived.Test.YtmmlcdbbjkligaaSpnH
namespace Go.Proofs.Ytmmlcdbbjkligaa
open Go.RowKit Go.Maps
set_option linter.unusedVariables false
set_option linter.unusedSimpArgs false

theorem SpanOf_any (A : Option Addr) (n c : Nat) (sd : Int) (rs : Rws) (bs : List Nat) (w : World) (h : Hd w (rowsD rs) (.slice A n c) bs) :
    Calls Try.prog 46 #[.agg #[.int .i64 sd, .slice A n c]] w (SpAns w sd rs) := by
  by_cases h0 : gf sd rs = 0
  · obtain ⟨s, rfl⟩ : ∃ s : Nat, sd = s := ⟨sd.toNat, by have := inB_iff.1 (gf_zero h0).1; omega⟩
    exact SpanOf_z A n c s rs bs w h h0
  · exact SpanOf_f A n c sd rs bs w h h0
theorem cor_div {s t k : Nat} (hs : s = 2 ∨ s = 3 ∨ s = 4) (ht : t < s * s * s) (hk : k < 3) : t / stq s k % s = cor s t k := by
  have hkk : k = 0 ∨ k = 1 ∨ k = 2 := by omega
  rcases hs with rfl | rfl | rfl <;> rcases hkk with rfl | rfl | rfl <;> simp [cor, stq] <;> omega
theorem stq_bd {s k : Nat} (hs : s = 2 ∨ s = 3 ∨ s = 4) : 1 ≤ stq s k ∧ stq s k ≤ 16 := by
  unfold stq
  rcases hs with rfl | rfl | rfl <;> (split <;> (try split) <;> simp)
set_option maxRecDepth 100000 in
set_option maxHeartbeats 8000000 in
theorem sSpan5_any (g oq : Nat) (A : Option Addr) (n c s : Nat) (rs : Rws) (bs : List Nat) (w : World) (h : Hd w (rowsD rs) (.slice A n c) bs) (hg0 : w.cell? ⟨g, oq, none⟩ = some (.int .i64 (s : Int))) (hg1 : w.cell? ⟨g, oq + 1, none⟩ = some (.slice A n c)) (h0 : gf (s : Int) rs = 0) :
    Calls Try.prog 115 #[.pointer (some ⟨g, oq, none⟩)] w fun e w' => e = .returned (.int .i64 (spn s rs (3 * (s * s * s)))) ∧ Below w.heap.size w w' := by
  obtain ⟨hs, hlen, hrow⟩ := gf_zero h0
  have h3 : s = 2 ∨ s = 3 ∨ s = 4 := by rcases side_cases hs with e | e | e <;> omega
  have hNI : ((s * s * s : Nat) : Int) = (s : Int) * s * s := by simp
  have hNN : rs.length = s * s * s := by rw [← hNI] at hlen; omega
  have hlv : ∀ t, t < s * s * s → Lv3 (rwf rs t) := fun t ht k hk => inB_iff.1 ((lf_zero (hrow t (by rw [hNN]; exact ht))).2 k hk)
  have hl3 : ∀ t, t < s * s * s → (rw_ rs t).length = 3 := fun t ht => (lf_zero (hrow t (by rw [hNN]; exact ht))).1
  have HLV := Lib.hid hlv
  have HL3 := Lib.hid hl3
  have HBD : Hid (∀ c, c ≤ 3 * (s * s * s) → 0 ≤ spn s rs c ∧ spn s rs c ≤ 65535) := spn_bd h3 hlv
  have H3 := Lib.hid h3
  have H := Lib.hid h
  have hn : n = s * s * s := by rw [← h.rows.1, hNN]
  have HN := Lib.hid hn
  have hN64 : n ≤ 64 := by rw [hn]; rcases h3 with rfl | rfl | rfl <;> simp
  have hs1 : 2 ≤ s ∧ s ≤ 4 := by omega
  have hcc := h.caps
  have hsq : IntKind.i64.wrap ((s : Int) * (s : Int)) = ((s * s : Nat) : Int) := by
    rcases h3 with rfl | rfl | rfl <;> decide
  have lg := cell_lt hg0
  clear h hs hlen hrow h3 hNI hNN h0 hlv hl3 hn
  go_enter Try.func115, Try.ntmps115
  go_wp2_with fail
  go_region
  go_wp2_with fail
  obtain ⟨W1, hW1⟩ : ∃ W, W = (w.alloc (.cells #[.int .i64 ((s : Int) * (s : Int)), .int .i64 (s : Int), .int .i64 1] 2)).drew := ⟨_, rfl⟩
  have Q1 : Hid (∀ k, k < 3 → W1.cell? ⟨w.heap.size, k, none⟩ = some (.int .i64 ((stq s k : Nat) : Int))) := fun k hk => by
    have b : Bx W1 w.heap.size [.int .i64 ((s : Int) * (s : Int)), .int .i64 (s : Int), .int .i64 1] := by rw [hW1]; exact (Bx.new _ _ _ rfl).drewN 1
    match k, hk with
    | 0, _ => have := b.c 0 rfl; simpa [stq] using this
    | 1, _ => have := b.c 1 rfl; simpa [stq] using this
    | 2, _ => have := b.c 2 rfl; simpa [stq] using this
  have T1 : Hid (Below w.heap.size w W1) := by show Below _ _ _; rw [hW1]; exact (blAlloc _ _).drew
  have x0 := cell_later T1.out hg0
  have x1 := cell_later T1.out hg1
  rw [← hW1]
  clear hW1 hg0 hg1 hsq
  go_loopw [3, 5] (fun m i wr => ∃ t q : Nat, t ≤ n ∧ i = .int .i64 t ∧ m = .int .i64 (spn s rs (3 * t)) ∧ wr = W1.drewN q) (fun _ i _ => n - (intOf i).toNat)
  case atStart => exact ⟨0, 0, by omega, rfl, rfl, rfl⟩
  case round =>
    obtain ⟨t, q, ht, rfl, rfl, rfl⟩ := hrel
    by_cases hlt : t < n
    · have htN : Hid (t < s * s * s) := by show _ < _; rw [← HN.out]; exact hlt
      go_wp2_with fail
      (try simp only [show decide ((t : Int) < (n : Int)) = true from decide_eq_true (by omega)])
      go_loopw [3, 6] (fun m i wr => ∃ k q : Nat, k ≤ 3 ∧ i = .int .i64 k ∧ m = .int .i64 (spn s rs (3 * t + k)) ∧ wr = W1.drewN q) (fun _ i _ => 3 - (intOf i).toNat)
      case atStart => exact ⟨0, _, by omega, rfl, rfl, rfl⟩
      case round =>
        obtain ⟨k, q, hk, rfl, rfl, rfl⟩ := hrel
        by_cases hkl : k < 3
        · have xq := Q1.out k hkl
          have hqb := stq_bd (k := k) H3.out
          obtain ⟨m, hm⟩ : ∃ m, m = spn s rs (3 * t + k) := ⟨_, rfl⟩
          rw [← hm]
          obtain ⟨Q, hQ⟩ : ∃ Q, Q = stq s k := ⟨_, rfl⟩
          rw [← hQ] at xq hqb
          have HQ := Lib.hid hQ
          have HM := Lib.hid hm
          have hq0 : ((Q : Int) == 0) = false := by simp; omega
          have hs0 : ((s : Int) == 0) = false := by simp; omega
          have wd : IntKind.i64.wrap ((s : Int) - 1) = (s : Int) - 1 := IntWalk.i64_in _ (by omega)
          obtain ⟨E, hE⟩ : ∃ E, E = t / Q := ⟨_, rfl⟩
          obtain ⟨F, hF⟩ : ∃ F, F = E % s := ⟨_, rfl⟩
          have hdv : wrap64 ((t : Int) / (Q : Int)) = (E : Int) := by
            have e : (t : Int) / (Q : Int) = ((t / Q : Nat) : Int) := rfl
            have hle : t / Q ≤ t := Nat.div_le_self _ _
            rw [e, hE]
            unfold wrap64
            generalize t / Q = y at *
            omega
          have hmd : ((E : Int)).tmod (s : Int) = (F : Int) := by rw [hF]; rfl
          have hFc : F = cor s t k := by rw [hF, hE, hQ]; exact cor_div H3.out htN.out hkl
          have HFC := Lib.hid hFc
          clear hQ hm hE hF hFc
          by_cases hc : F + 1 < s
          · have hd : decide ((F : Int) < (s : Int) - 1) = true := decide_eq_true (by omega)
            have hcor : cor s t k + 1 < s := by rw [← HFC.out]; exact hc
            have hnx := (cor_next H3.out htN.out hkl hcor).1
            obtain ⟨U, hU⟩ : ∃ U, U = t + Q := ⟨_, rfl⟩
            have hUs : U = t + stq s k := by rw [hU, HQ.out]
            have hUN : U < n := by rw [hUs, HN.out]; exact hnx
            have HSP : Hid (spn s rs (3 * t + (k + 1)) = max m (far3 (rwf rs t) (rwf rs U) 3)) := by show _ = _; rw [spn_at s rs hkl, if_pos hcor, hUs, HM.out]
            have wi : IntKind.i64.wrap ((t : Int) + (Q : Int)) = (U : Int) := by rw [IntWalk.i64_in _ (by omega), hU]; simp
            obtain ⟨b, o, B1, L1, C1, g1, eA, y1, y3, -⟩ := H.out.row hlt
            obtain ⟨b2, o2, B2, L2, C2, g2, eB, y4, y6, -⟩ := H.out.row hUN
            subst eA
            injection eB with eB
            injection eB with eB1 eB2
            subst eB1 eB2
            obtain rfl : L1 = 3 := by rw [← y3.rd.1, HL3.out _ htN.out]
            obtain rfl : L2 = 3 := by rw [← y6.rd.1, HL3.out _ (by rw [← HN.out]; exact hUN)]
            have R1 := Lib.hid y3.rd
            have R2 := Lib.hid y6.rd
            have CF : Hid (∀ W, Below w.heap.size w W → Calls Try.prog 144 #[.slice B1 3 C1, .slice B2 3 C2] W fun e w' => e = .returned (.int .i64 (far3 (rwf rs t) (rwf rs U) 3)) ∧ ∃ m, w' = W.drewN m) := fun W hW => sFar5_any B1 B2 C1 C2 (rw_ rs t) (rw_ rs U) W (R1.out.below hW) (R2.out.below hW) (HLV.out t htN.out) (HLV.out U (by rw [← HN.out]; exact hUN))
            have z1 := cell_later T1.out y1
            have z2 := cell_later T1.out y4
            have hni : (U : Int) < (n : Int) := by omega
            have hnt : (t : Int) < (n : Int) := by omega
            clear y3 y6 y1 y4 hU hUs hnx hcor R1 R2
            go_wp2_with fail
            go_quiet (fail)
            go_wp2_with fail
            go_quiet ((first | (go_at_call 144; first | exact Calls.quiet_of (CF.out _ (by first | exact blThenDrew (blThenDrew T1.out _) _ | exact blThenDrew T1.out _)) | exact quietAD' (CF.out _ (by first | exact blThenDrew (blThenDrew T1.out _) _ | exact blThenDrew T1.out _))) | (go_at_call 112; first | exact Calls.quiet_of ((sMax_any _ _ _).mono fun e w' ⟨he, hw⟩ => ⟨he, 0, hw.symm⟩) | exact quietAD' ((sMax_any _ _ _).mono fun e w' ⟨he, hw⟩ => ⟨he, 0, hw.symm⟩))))
            go_wp2_with fail
            go_roundw
            case rel => exact ⟨k + 1, _, by omega, by go_num, by rw [HSP.out], by first | rfl | simp only [World.drewN_drewN]⟩
            case measure => simp [intOf]; omega
          · have hd : decide ((F : Int) < (s : Int) - 1) = false := decide_eq_false (by omega)
            have HSP : Hid (spn s rs (3 * t + (k + 1)) = m) := by show _ = _; rw [spn_at s rs hkl, if_neg (by rw [← HFC.out]; exact hc), HM.out]
            go_wp2_with fail
            go_quiet (fail)
            go_wp2_with fail
            go_roundw
            case rel => exact ⟨k + 1, _, by omega, by go_num, by rw [HSP.out], by first | rfl | simp only [World.drewN_drewN]⟩
            case measure => simp [intOf]; omega
        · obtain rfl : k = 3 := by omega
          go_wp2_with fail
          go_roundw
          case rel => exact ⟨t + 1, _, by omega, by go_num, by rw [show 3 * t + 3 = 3 * (t + 1) by omega], rfl⟩
          case measure => simp [intOf]; omega
    · obtain rfl : t = n := by omega
      obtain ⟨v, hv⟩ : ∃ v, v = spn s rs (3 * t) := ⟨_, rfl⟩
      have HVV : Hid (v = spn s rs (3 * (s * s * s))) := by show _ = _; rw [hv, ← HN.out]
      rw [← hv]
      clear hv
      go_wp2_with fail
      go_ret
      exact ⟨ret_int HVV.out, blThenDrew T1.out _⟩
end Go.Proofs.Ytmmlcdbbjkligaa
