/-
  The span of a grid: the program's SpanOf, its walk.
-/
import Derived.Test.YtmmlcdbbjkligaaSpnG
namespace Go.Proofs.Ytmmlcdbbjkligaa
open Go.RowKit Go.Maps
set_option linter.unusedVariables false
set_option linter.unusedSimpArgs false

theorem blc {w W : World} {c : Nat} (h : Below w.heap.size w W) (hc : w.heap.size ≤ c) (i : Nat) (v : Value) : Below w.heap.size w (W.setCell ⟨c, i, none⟩ v) := h.setCell (p := ⟨c, i, none⟩) hc v
def spV (sd : Int) (rs : Rws) : Int := if gf sd rs = 0 then spn sd.toNat rs (3 * (sd.toNat * sd.toNat * sd.toNat)) else 0
theorem sp_f {sd : Int} {rs : Rws} (h : gf sd rs ≠ 0) : spV sd rs = 0 := by unfold spV; rw [if_neg h]
theorem sp_y {s : Nat} {rs : Rws} (h : gf (s : Int) rs = 0) : spV (s : Int) rs = spn s rs (3 * (s * s * s)) := by unfold spV; rw [if_pos h]; simp
def SpAns (w : World) (sd : Int) (rs : Rws) (e : Ending) (w' : World) : Prop := e = .returned (.agg #[.int .i64 (gf sd rs), .int .i64 (spV sd rs)]) ∧ Below w.heap.size w w'
theorem run_max2 (w : World) (x y : Int) : (Builtin.max_ #[2, 2] 2 #[.int .i64 x, .int .i64 y]).run Try.prog w = .ok (.int .i64 (max x y)) w := by
  have h1 : (if y > x then y else x) = max x y := by split <;> omega
  first
    | (simp [Builtin.max_, go_sem, h1]; done)
    | (rw [← h1]; rfl)
    | (rw [← h1]; simp [Builtin.max_, go_sem]; split <;> simp_all)
set_option maxRecDepth 100000 in
set_option maxHeartbeats 4000000 in
theorem SpanOf_f (A : Option Addr) (n c : Nat) (sd : Int) (rs : Rws) (bs : List Nat) (w : World) (h : Hd w (rowsD rs) (.slice A n c) bs) (h0 : gf sd rs ≠ 0) :
    Calls Try.prog 46 #[.agg #[.int .i64 sd, .slice A n c]] w (SpAns w sd rs) := by
  have HV := Lib.hid (sp_f h0)
  obtain ⟨f, hfe⟩ : ∃ f, gf sd rs = f := ⟨_, rfl⟩
  have CN : Hid (∀ W, Hd W (rowsD rs) (.slice A n c) bs → Calls Try.prog 88 #[.agg #[.int .i64 sd, .slice A n c]] W (NdF W f)) := fun W hW => (nodesOf_any A n c sd rs bs W hW).mono fun e w' hh => by
    obtain ⟨m, he, hb⟩ := hh; exact ⟨m, by rw [he, hfe], hb⟩
  have HF := Lib.hid hfe
  rw [hfe] at h0
  have hqn : (f == 0) = false := by simpa using h0
  have H := Lib.hid h
  clear h hfe
  go_enter Try.func46, Try.ntmps46
  go_wp2_with fail
  refine (CN.out _ ((H.out.alloc _).alloc _)).mono ?_
  rintro e w1 ⟨q, rfl, hb⟩
  have R1 := Lib.hid ((Bx.new (w.alloc (.cells #[.int .i64 sd, .slice A n c] 37)) #[.int .i64 0, .int .i64 0] 90 (b := w.heap.size + 1) (by simp)).bel hb)
  have T := Lib.hid (blThen (blThenAlloc (blAlloc w _) _) hb)
  clear hb CN H
  have r0 := R1.out.c 0 rfl
  have r1 := R1.out.c 1 rfl
  have z0 := R1.out.f 0
  have z1 := R1.out.f 1
  go_wp2_with fail
  have KK := (R1.out.set 0 (.int .i64 f)).set 1 (.int .i64 0)
  have k0 := KK.c 0 rfl
  have k1 := KK.c 1 rfl
  clear KK
  refine bodyPost_ret (v := .agg #[.int .i64 f, .int .i64 0]) (by simp [results, Try.results46, go_sem, k0, k1]) rfl ⟨by rw [HF.out, HV.out], ?_⟩
  exact blc (blc T.out (c := w.heap.size + 1) (by omega) 0 _) (c := w.heap.size + 1) (by omega) 1 _
set_option maxRecDepth 100000 in
set_option maxHeartbeats 8000000 in
theorem SpanOf_z (A : Option Addr) (n c s : Nat) (rs : Rws) (bs : List Nat) (w : World) (h : Hd w (rowsD rs) (.slice A n c) bs) (h0 : gf (s : Int) rs = 0) :
    Calls Try.prog 46 #[.agg #[.int .i64 (s : Int), .slice A n c]] w (SpAns w (s : Int) rs) := by
  obtain ⟨hs, hlen, hrow⟩ := gf_zero h0
  have h3 : s = 2 ∨ s = 3 ∨ s = 4 := by rcases side_cases hs with e | e | e <;> omega
  have hNI : ((s * s * s : Nat) : Int) = (s : Int) * s * s := by simp
  have hNN : rs.length = s * s * s := by rw [← hNI] at hlen; omega
  have hlv : ∀ t, t < s * s * s → Lv3 (rwf rs t) := fun t ht k hk => inB_iff.1 ((lf_zero (hrow t (by rw [hNN]; exact ht))).2 k hk)
  have HLV := Lib.hid hlv
  have HBD : Hid (∀ c, c ≤ 3 * (s * s * s) → 0 ≤ spn s rs c ∧ spn s rs c ≤ 65535) := spn_bd h3 hlv
  have CN := Lib.hid (fun W (hW : Hd W (rowsD rs) (.slice A n c) bs) => nodesOf_ok A n c s rs bs W hW h0)
  have HV := Lib.hid (sp_y h0)
  have HG := Lib.hid h0
  have H3 := Lib.hid h3
  have H := Lib.hid h
  have hN64 : s * s * s ≤ 64 := by rcases h3 with rfl | rfl | rfl <;> simp
  have hN0 : 0 < s * s * s := by rcases h3 with rfl | rfl | rfl <;> simp
  clear h hs hlen hrow h3 hNI hNN h0 hlv
  go_enter Try.func46, Try.ntmps46
  go_wp2_with fail
  refine (CN.out _ ((H.out.alloc _).alloc _)).mono ?_
  rintro e w1 ⟨B, D, rfl, hM, hb⟩
  have G1 := Lib.hid (((Bx.new w #[.int .i64 (s : Int), .slice A n c] 37 rfl).alloc (.cells #[.int .i64 0, .int .i64 0] 90)).bel hb)
  have R1 := Lib.hid ((Bx.new (w.alloc (.cells #[.int .i64 (s : Int), .slice A n c] 37)) #[.int .i64 0, .int .i64 0] 90 (b := w.heap.size + 1) (by simp)).bel hb)
  have T1 := Lib.hid (blThen (blThenAlloc (blAlloc w _) _) hb)
  have HM := Lib.hid hM
  clear hb hM CN H
  have x0 := G1.out.c 0 rfl
  go_wp2_with fail
  refine (gridPlaces_any s _ H3.out).mono ?_
  rintro e w2 ⟨v, rfl, ho, hb⟩
  obtain ⟨g, o, cp, rfl, hbg, hgl, hc1, hc2, hcells⟩ := ho.look hN0
  have R2 := Lib.hid (R1.out.bel hb)
  have T2 := Lib.hid (blThen T1.out hb)
  have HM2 := Lib.hid (HM.out.kept hb)
  have HC := Lib.hid hcells
  have hC2 := Lib.hid hc2
  obtain ⟨N, hN⟩ : ∃ N, N = s * s * s := ⟨_, rfl⟩
  have HN := Lib.hid hN
  rw [← hN] at HC hN64 hN0 hc1 ⊢
  have hcp : N ≤ 9223372036854775807 := by omega
  clear ho hb hcells hbg R1 T1 HM G1 x0 hN hc2
  go_wp2_with fail
  go_loopw [5, 24] (fun m i wr => ∃ t : Nat, t ≤ N ∧ i = .int .i64 t ∧ m = .int .i64 (spn s rs (3 * t)) ∧ Hid (Below w2.heap.size w2 wr)) (fun _ i _ => N - (intOf i).toNat)
  case atStart => exact ⟨0, by omega, rfl, rfl, Below.refl _ _⟩
  case round =>
    obtain ⟨t, ht, rfl, rfl, HB⟩ := hrel
    by_cases hlt : t < N
    · have htN : Hid (t < s * s * s) := by show _ < _; rw [← HN.out]; exact hlt
      obtain ⟨c0, c1, c2⟩ := HC.out t hlt
      have y0 : wr.cell? ⟨g, o + t * 3, none⟩ = some (.int .i64 ((cor s t 0 : Nat) : Int)) := cell_later HB.out c0
      have y1 : wr.cell? ⟨g, o + t * 3 + 1, none⟩ = some (.int .i64 ((cor s t 1 : Nat) : Int)) := cell_later HB.out c1
      have y2 : wr.cell? ⟨g, o + t * 3 + 2, none⟩ = some (.int .i64 ((cor s t 2 : Nat) : Int)) := cell_later HB.out c2
      clear c0 c1 c2
      have lg := cell_lt y0
      obtain ⟨W3, hW3⟩ : ∃ W, W = wr.alloc (.cells #[.int .i64 ((cor s t 0 : Nat) : Int), .int .i64 ((cor s t 1 : Nat) : Int), .int .i64 ((cor s t 2 : Nat) : Int)] 141) := ⟨_, rfl⟩
      have P3 : Hid (Bx W3 wr.heap.size [.int .i64 ((cor s t 0 : Nat) : Int), .int .i64 ((cor s t 1 : Nat) : Int), .int .i64 ((cor s t 2 : Nat) : Int)]) := by show Bx _ _ _; rw [hW3]; exact Bx.new _ _ _ rfl
      have B3 : Hid (Below w2.heap.size w2 W3) := by show Below _ _ _; rw [hW3]; exact blThenAlloc HB.out _
      have b0 := HBD.out (3 * t) (by rw [← HN.out]; omega)
      go_wp2_with fail
      rw [← hW3]
      obtain ⟨pb, hpb⟩ : ∃ x, x = wr.heap.size := ⟨_, rfl⟩
      rw [← hpb] at P3 ⊢
      clear hW3 y0 y1 y2 hpb
      go_loopw [5, 28] (fun m i wq => ∃ k : Nat, k ≤ 3 ∧ i = .int .i64 k ∧ m = .int .i64 (spn s rs (3 * t + k)) ∧ Hid (Bx wq pb [.int .i64 ((cor s t 0 : Nat) : Int), .int .i64 ((cor s t 1 : Nat) : Int), .int .i64 ((cor s t 2 : Nat) : Int)]) ∧ Hid (Below w2.heap.size w2 wq)) (fun _ i _ => 3 - (intOf i).toNat)
      case atStart => exact ⟨0, by omega, rfl, rfl, P3, B3⟩
      case round =>
        obtain ⟨k, hk, rfl, rfl, HP, HQ⟩ := hrel
        by_cases hkl : k < 3
        · have HNX := Lib.hid (has_next (HM2.out.kept HQ.out) htN.out hkl H3.out)
          have hcb : ∀ j, j < 3 → 0 ≤ ((cor s t j : Nat) : Int) ∧ ((cor s t j : Nat) : Int) ≤ 1000 := fun j hj => by
            have := cor_lt H3.out htN.out hj; have := H3.out; omega
          have HX : Hid (∀ j, (if j = k then ((cor s t j : Nat) : Int) + 1 else ((cor s t j : Nat) : Int)) = ((nxt s t k j : Nat) : Int)) := fun j => by unfold nxt; split <;> simp
          have HKEY : Hid (keyOf Try.prog 141 (.agg #[.int .i64 ((nxt s t k 0 : Nat) : Int), .int .i64 ((nxt s t k 1 : Nat) : Int), .int .i64 ((nxt s t k 2 : Nat) : Int)]) = some (kp ((nxt s t k 0 : Nat) : Int) ((nxt s t k 1 : Nat) : Int) ((nxt s t k 2 : Nat) : Int))) := by
            have nb : ∀ j, j < 3 → nxt s t k j ≤ 1000 := fun j hj => by
              have := cor_lt H3.out htN.out hj; have := H3.out
              unfold nxt; split <;> omega
            exact kp_nat _ _ _ (nb 0 (by omega)) (nb 1 (by omega)) (nb 2 (by omega))
          have HLK : Hid (∀ W, Below w2.heap.size w2 W → (Instr.lookup 147 (.map (some B)) (.agg #[.int .i64 ((cor s t 0 : Nat) : Int), .int .i64 ((cor s t 1 : Nat) : Int), .int .i64 ((cor s t 2 : Nat) : Int)]) false).run Try.prog W = .ok (.agg #[.int .i64 (rwf rs t 0), .int .i64 (rwf rs t 1), .int .i64 (rwf rs t 2)]) W) := fun W hW => look_at (HM2.out.kept hW) htN.out H3.out
          have p0 := HP.out.c 0 rfl
          have p1 := HP.out.c 1 rfl
          have p2 := HP.out.c 2 rfl
          have HCB := Lib.hid hcb
          clear hcb
          go_wp2_with fail
          refine (next_b _ _ _ k _ hkl (HCB.out 0 (by omega)) (HCB.out 1 (by omega)) (HCB.out 2 (by omega))).mono ?_
          rintro e w4 ⟨rfl, hb⟩
          rw [HX.out 0, HX.out 1, HX.out 2]
          have HP4 := Lib.hid (HP.out.bel hb)
          have HQ4 := Lib.hid (blThen HQ.out hb)
          have HM4 := Lib.hid (HM2.out.kept HQ4.out)
          clear hb HP HQ p0 p1 p2 HX HCB
          have p0 := HP4.out.c 0 rfl
          have p1 := HP4.out.c 1 rfl
          have p2 := HP4.out.c 2 rfl
          have lp := HP4.out.lt
          by_cases hc : cor s t k + 1 < s
          · have hh := HNX.out.1
            rw [decide_eq_true hc] at hh
            have HC1 := Lib.hid hc
            have HAT := Lib.hid (HNX.out.2 hc)
            have HSP : Hid (spn s rs (3 * t + (k + 1)) = max (spn s rs (3 * t + k)) (far3 (rwf rs t) (rwf rs (t + stq s k)) 3)) := by show _ = _; rw [spn_at s rs hkl, if_pos hc]
            have HTN := Lib.hid (cor_next H3.out htN.out hkl hc).1
            clear hc
            go_wp2_with (at_lookup; refine wpList_lookup_light _ rfl _ _ rfl B (s * s * s) D rfl HM4.out.own _ _ rfl HKEY.out ?_; intro a0 a1 a2 hat; rw [hh])
            obtain ⟨rfl, rfl, rfl⟩ := HAT.out _ _ _ _ hat
            clear hat hh HAT
            obtain ⟨W5, hW5⟩ : ∃ W, W = w4.alloc (.cells #[.int .i64 (rwf rs (t + stq s k) 0), .int .i64 (rwf rs (t + stq s k) 1), .int .i64 (rwf rs (t + stq s k) 2)] 137) := ⟨_, rfl⟩
            have N5 : Hid (Bx W5 w4.heap.size [.int .i64 (rwf rs (t + stq s k) 0), .int .i64 (rwf rs (t + stq s k) 1), .int .i64 (rwf rs (t + stq s k) 2)]) := by show Bx _ _ _; rw [hW5]; exact Bx.new _ _ _ rfl
            have P5 : Hid (Bx W5 pb [.int .i64 ((cor s t 0 : Nat) : Int), .int .i64 ((cor s t 1 : Nat) : Int), .int .i64 ((cor s t 2 : Nat) : Int)]) := by show Bx _ _ _; rw [hW5]; exact HP4.out.alloc _
            have B5 : Hid (Below w2.heap.size w2 W5) := by show Below _ _ _; rw [hW5]; exact blThenAlloc HQ4.out _
            go_wp2_with fail
            rw [← hW5]
            obtain ⟨nb, hnb⟩ : ∃ x, x = w4.heap.size := ⟨_, rfl⟩
            rw [← hnb] at N5 ⊢
            clear hW5 hnb p0 p1 p2 lp HP4 HQ4 HM4
            have p0 := P5.out.c 0 rfl
            have p1 := P5.out.c 1 rfl
            have p2 := P5.out.c 2 rfl
            have q0 := N5.out.c 0 rfl
            have q1 := N5.out.c 1 rfl
            have q2 := N5.out.c 2 rfl
            have hmx := fun W x y => run_max2 W x y
            go_region_held3 (fun w' => w'.cell? ⟨pb, 0, none⟩ = some (.int .i64 ((cor s t 0 : Nat) : Int)) ∧ w'.cell? ⟨pb, 1, none⟩ = some (.int .i64 ((cor s t 1 : Nat) : Int)) ∧ w'.cell? ⟨pb, 2, none⟩ = some (.int .i64 ((cor s t 2 : Nat) : Int)) ∧ w'.cell? ⟨nb, 0, none⟩ = some (.int .i64 (rwf rs (t + stq s k) 0)) ∧ w'.cell? ⟨nb, 1, none⟩ = some (.int .i64 (rwf rs (t + stq s k) 1)) ∧ w'.cell? ⟨nb, 2, none⟩ = some (.int .i64 (rwf rs (t + stq s k) 2)) ∧ Below W5.heap.size W5 w' ∧ (Instr.lookup 147 (.map (some B)) (.agg #[.int .i64 ((cor s t 0 : Nat) : Int), .int .i64 ((cor s t 1 : Nat) : Int), .int .i64 ((cor s t 2 : Nat) : Int)]) false).run Try.prog w' = .ok (.agg #[.int .i64 (rwf rs t 0), .int .i64 (rwf rs t 1), .int .i64 (rwf rs t 2)]) w')
              (first | (go_split_ands; exact ⟨cell_later hb (by assumption), cell_later hb (by assumption), cell_later hb (by assumption), cell_later hb (by assumption), cell_later hb (by assumption), cell_later hb (by assumption), blThen (by assumption) hb, HLK.out _ (blThen B5.out (blThen (by assumption) hb))⟩) | exact ⟨p0, p1, p2, q0, q1, q2, (Below.refl _ _).drew, HLK.out _ B5.out.drew⟩ | assumption | (go_split_ands; exact ⟨by assumption, by assumption, by assumption, by assumption, by assumption, by assumption, by assumption, by assumption⟩))
              (first | (go_at_call 96; refine (farthest_any (rwf rs t) (rwf rs (t + stq s k)) _ (HLV.out t htN.out) (HLV.out _ HTN.out)).mono ?_; rintro e w' ⟨rfl, hb⟩))
            go_split_ands
            rename World => W6
            rename Below W5.heap.size W5 W6 => hB6
            have HP6 := Lib.hid (P5.out.bel hB6)
            have HB6 := Lib.hid (blThen B5.out hB6)
            clear hmx p0 p1 p2 q0 q1 q2
            go_wp2_with fail
            go_roundw
            case rel => exact ⟨k + 1, by omega, by go_num, by rw [HSP.out], HP6, HB6⟩
            case measure => simp [intOf]; omega
          · have hh := HNX.out.1
            rw [decide_eq_false hc] at hh
            have HSP : Hid (spn s rs (3 * t + (k + 1)) = spn s rs (3 * t + k)) := by show _ = _; rw [spn_at s rs hkl, if_neg hc]
            go_wp2_with (at_lookup; refine wpList_lookup_light _ rfl _ _ rfl B (s * s * s) D rfl HM4.out.own _ _ rfl HKEY.out ?_; intro a0 a1 a2 hat; rw [hh])
            clear hat hh
            go_wp2_with fail
            go_roundw
            case rel => exact ⟨k + 1, by omega, by go_num, by rw [HSP.out], HP4.out.alloc _, blThenAlloc HQ4.out _⟩
            case measure => simp [intOf]; omega
        · obtain rfl : k = 3 := by omega
          go_wp2_with fail
          go_roundw
          case rel => exact ⟨t + 1, by omega, by go_num, by rw [show 3 * t + 3 = 3 * (t + 1) by omega], HQ⟩
          case measure => simp [intOf]; omega
    · obtain rfl : t = N := by omega
      have R3 := Lib.hid (R2.out.bel HB.out)
      have r0 := R3.out.c 0 rfl
      have r1 := R3.out.c 1 rfl
      have z0 := R3.out.f 0
      have z1 := R3.out.f 1
      have l3 := R3.out.lt
      obtain ⟨v, hv⟩ : ∃ v, v = spn s rs (3 * t) := ⟨_, rfl⟩
      have HVV := Lib.hid hv
      rw [← hv]
      clear hv
      go_wp2_with fail
      have KK := (R3.out.set 0 (.int .i64 0)).set 1 (.int .i64 v)
      have k0 := KK.c 0 rfl
      have k1 := KK.c 1 rfl
      clear KK
      refine bodyPost_ret (v := .agg #[.int .i64 0, .int .i64 v]) (by simp [results, Try.results46, go_sem, k0, k1]) rfl ⟨by rw [HG.out, HV.out, HVV.out, HN.out], ?_⟩
      exact blc (blc (blThen T2.out HB.out) (c := w.heap.size + 1) (by omega) 0 _) (c := w.heap.size + 1) (by omega) 1 _
end Go.Proofs.Ytmmlcdbbjkligaa
