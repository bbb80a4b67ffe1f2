/-
  The chain of a baked grid alone, by the program and by the reference model.
-/
import Derived.Test.YtlfdpambbgddoaaGreatBakF
import Derived.Test.YtlfdpambbgddoaaGreatJonB
namespace Go.Proofs.YtlfdpambbgddoaaGreat
open Go.RowKit Go.Maps
set_option linter.unusedVariables false
set_option linter.unusedSimpArgs false

/-- the stage of a grid. -/
def gSt (sd : Int) (rs : Rws) : Stg := ⟨3, [], [], sd, rs⟩
theorem own_grid1 {W : World} {b n c lo hi lo' hi' : Nat} {sd : Int} {rs : Rws} {G : Option Addr} (bx : Bx W b [.int .i64 3, .slice none 0 0, .slice none 0 0, .int .i64 sd, .slice G n c]) (ho : Own W (rowsD rs) (.slice G n c) lo hi) (hb : b < lo ∨ hi ≤ b) (h1 : lo' ≤ b ∧ b < hi') (h2 : lo' ≤ lo ∧ hi ≤ hi') :
    Own W (chD [gSt sd rs]) (.slice (some ⟨b, 0, none⟩) 1 1) lo' hi' := by
  obtain ⟨bs, hd, nd, hbs⟩ := ho
  have hnb : b ∉ bs := fun hx => by have := hbs b hx; omega
  obtain ⟨V, hV⟩ : ∃ V : Nat → Nat → Value, V = fun _ j => if j = 0 then .int .i64 3 else if j = 1 then .slice none 0 0 else if j = 2 then .slice none 0 0 else if j = 3 then .int .i64 sd else .slice G n c := ⟨_, rfl⟩
  obtain ⟨F, hF⟩ : ∃ F : Nat → Nat → List Nat, F = fun _ j => if j = 4 then bs else [] := ⟨_, rfl⟩
  have hm : ∀ y, y ∈ fam 1 5 F → y ∈ bs := fun y hy => by
    obtain ⟨i, -, j, -, hj⟩ := mem_fam.1 hy
    rw [hF] at hj
    by_cases e : j = 4
    · simpa [e] using hj
    · simp [e] at hj
  have hz : maxLen ≥ 1 := by unfold maxLen; omega
  refine ⟨b :: fam 1 5 F, .sl 5 b 0 1 1 [stD (gSt sd rs)] V F (by omega) (by omega) rfl (fun i hi j hj => ?_) (fun i hi j hj => ?_) (Nat.le_refl _) hz, ?_, fun y hy => ?_⟩
  · obtain rfl : i = 0 := by omega
    rw [hV]
    match j, hj with
    | 0, _ => exact bx.c 0 rfl
    | 1, _ => exact bx.c 1 rfl
    | 2, _ => exact bx.c 2 rfl
    | 3, _ => exact bx.c 3 rfl
    | 4, _ => exact bx.c 4 rfl
  · obtain rfl : i = 0 := by omega
    rw [hV, hF]
    match j, hj with
    | 0, _ => exact .int _ _
    | 1, _ => exact .sl0 _ _ _ (Nat.zero_le _)
    | 2, _ => exact .sl0 _ _ _ (Nat.zero_le _)
    | 3, _ => exact .int _ _
    | 4, _ => exact hd
  · rw [List.nodup_cons]
    refine ⟨fun hx => hnb (hm b hx), fam_nodup.2 ⟨fun i _ j _ => ?_, fun i hi j hj i' hi' j' hj' hne x hx hx' => ?_⟩⟩
    · rw [hF]
      by_cases e : j = 4
      · simpa [e] using nd
      · simp [e]
    · rw [hF] at hx hx'
      by_cases e : j = 4
      · by_cases e' : j' = 4
        · exact hne ⟨by omega, by omega⟩
        · simp [e'] at hx'
      · simp [e] at hx
  · rcases List.mem_cons.1 hy with rfl | hy
    · exact ⟨h1.1, h1.2, fun i => bx.f i⟩
    · obtain ⟨p, q, r⟩ := hbs y (hm y hy)
      exact ⟨by omega, by omega, r⟩
def bcC (ts : List Stg) (sd : Int) : List Stg := if bkC ts sd = 0 then [gSt (bcS ts sd) (bcL ts sd)] else []
theorem bcC_n {ts : List Stg} {sd : Int} (h : bkC ts sd ≠ 0) : bcC ts sd = [] := by unfold bcC; rw [if_neg h]
theorem bcC_y {ts : List Stg} {sd : Int} (h : bkC ts sd = 0) : bcC ts sd = [gSt (bcS ts sd) (bcL ts sd)] := by unfold bcC; rw [if_pos h]
theorem bel_2 {w W : World} {c : Nat} (h : Below w.heap.size w W) (hc : w.heap.size ≤ c) (x y : Value) : Below w.heap.size w ((W.setCell ⟨c, 0, none⟩ x).setCell ⟨c, 1, none⟩ y) :=
  (h.setCell (p := ⟨c, 0, none⟩) hc x).setCell (p := ⟨c, 1, none⟩) hc y
set_option maxRecDepth 100000 in
set_option maxHeartbeats 2000000 in
theorem BakedChain_any (A : Option Addr) (n c : Nat) (ts : List Stg) (bs : List Nat) (sd : Int) (w : World) (h : Hd w (chD ts) (.slice A n c) bs) :
    Calls Tryz.prog 21 #[.agg #[.slice A n c], .int .i64 sd] w (ChnAns w (bkC ts sd) (bcC ts sd)) := by
  have H := Lib.hid h
  clear h
  go_enter Tryz.func21, Tryz.ntmps21
  go_wp2_with fail
  refine (BakeChain_any A n c ts bs sd _ ((H.out.alloc _).alloc _)).mono ?_
  rintro e w1 ⟨G, m, cG, rfl, ho, hb⟩
  have R1 := Lib.hid ((Bx.new (w.alloc (.cells #[.slice A n c] 34)) #[.int .i64 0, .slice none 0 0] 50 (b := w.heap.size + 1) (by simp)).bel hb)
  have T1 := Lib.hid (blThen (blThenAlloc (blAlloc w _) _) hb)
  have HO : Hid (Own w1 (rowsD (bcL ts sd)) (.slice G m cG) (w.heap.size + 2) w1.heap.size) := by have := ho; simp only [World.size_alloc] at this; exact this
  have r0 := R1.out.c 0 rfl
  have r1 := R1.out.c 1 rfl
  have z0 := R1.out.f 0
  have z1 := R1.out.f 1
  have l1 := R1.out.lt
  clear hb H ho
  by_cases h0 : bkC ts sd = 0
  · have HC := Lib.hid (bcC_y h0)
    have H0 := Lib.hid h0
    obtain ⟨s, hs⟩ : ∃ s, s = bcS ts sd := ⟨_, rfl⟩
    have HS := Lib.hid hs
    rw [h0, ← hs]
    have RR := (R1.out.alloc (.cells #[.int .i64 0, .int .i64 s, .slice G m cG] 30)).alloc (.cells #[.int .i64 3, .slice none 0 0, .slice none 0 0, .int .i64 s, .slice G m cG] 85)
    have RH := Lib.hid RR
    have q0 := RR.c 0 rfl
    have q1 := RR.c 1 rfl
    have y0 := RR.f 0
    have y1 := RR.f 1
    clear h0 hs RR
    go_wp2_with fail
    have l2 : w.heap.size + 1 < w1.heap.size := R1.out.lt
    have KK := (RH.out.set 0 (.int .i64 0)).set 1 (.slice (some ⟨w1.heap.size + 1, 0, none⟩) 1 1)
    have k0 := KK.c 0 rfl
    have k1 := KK.c 1 rfl
    clear KK
    refine bodyPost_ret (v := .agg #[.int .i64 0, .slice (some ⟨w1.heap.size + 1, 0, none⟩) 1 1]) (by simp [results, Tryz.results21, go_sem, k0, k1]) rfl ⟨_, _, _, by rw [H0.out], ?_, ?_⟩
    · rw [HC.out, ← HS.out]
      refine Own.mono (lo := w.heap.size + 2) (hi := w1.heap.size + 2) ?_ (by omega) (by simp [setSize])
      have bx := Bx.new (w1.alloc (.cells #[.int .i64 0, .int .i64 s, .slice G m cG] 30)) #[.int .i64 3, .slice none 0 0, .slice none 0 0, .int .i64 s, .slice G m cG] 85 (b := w1.heap.size + 1) (by simp)
      have ho := (HO.out.alloc (.cells #[.int .i64 0, .int .i64 s, .slice G m cG] 30)).alloc (.cells #[.int .i64 3, .slice none 0 0, .slice none 0 0, .int .i64 s, .slice G m cG] 85)
      exact ((own_grid1 bx ho (.inr (by omega)) (by omega) (by omega)).set (.inl (by omega)) _ _).set (.inl (by omega)) _ _
    · exact bel_2 (blThenAlloc (blThenAlloc T1.out _) _) (by omega) _ _
  · have HC := Lib.hid (bcC_n h0)
    obtain ⟨f, hf⟩ : ∃ f, bkC ts sd = f := ⟨_, rfl⟩
    obtain ⟨s, hs⟩ : ∃ s, s = bcS ts sd := ⟨_, rfl⟩
    have HFF := Lib.hid hf
    rw [hf] at h0 ⊢
    rw [← hs]
    have hqn : (f == 0) = false := by simpa using h0
    have RR := R1.out.alloc (.cells #[.int .i64 f, .int .i64 s, .slice G m cG] 30)
    have RH := Lib.hid RR
    have q0 := RR.c 0 rfl
    have q1 := RR.c 1 rfl
    have y0 := RR.f 0
    have y1 := RR.f 1
    clear hf hs RR
    go_wp2_with fail
    have KK := ((R1.out.set 0 (.int .i64 f)).set 1 (.slice none 0 0)).alloc (.cells #[.int .i64 f, .int .i64 s, .slice G m cG] 30)
    have k0 := KK.c 0 rfl
    have k1 := KK.c 1 rfl
    clear KK
    refine bodyPost_ret (v := .agg #[.int .i64 f, .slice none 0 0]) (by simp [results, Tryz.results21, go_sem, k0, k1]) rfl ⟨none, 0, 0, by rw [HFF.out], by rw [HC.out]; exact Own.snil _ _ _ _ _ _ (Nat.zero_le _), ?_⟩
    exact blThenAlloc (bel_2 T1.out (by omega) _ _) _
set_option maxRecDepth 100000 in
set_option maxHeartbeats 2000000 in
theorem sBakedChain_any (A : Option Addr) (n c : Nat) (ts : List Stg) (bs : List Nat) (sd : Int) (w : World) (h : Hd w (chD ts) (.slice A n c) bs) :
    Calls Tryz.prog 20 #[.agg #[.slice A n c], .int .i64 sd] w (ChnAns w (bkC ts sd) (bcC ts sd)) := by
  obtain ⟨W0, hW0⟩ : ∃ W0, W0 = (w.alloc (.cells #[.slice A n c] 34)).alloc (.cells #[.int .i64 0, .slice none 0 0] 50) := ⟨_, rfl⟩
  have B : Hid (Bx W0 w.heap.size [.slice A n c]) := by show Bx _ _ _; rw [hW0]; exact (Bx.new _ _ _ rfl).alloc _
  have R : Hid (Bx W0 (w.heap.size + 1) [.int .i64 0, .slice none 0 0]) := by show Bx _ _ _; rw [hW0]; exact Bx.new _ _ _ (by simp)
  have H : Hid (Hd W0 (chD ts) (.slice A n c) bs) := by show Hd _ _ _ _; rw [hW0]; exact (h.alloc _).alloc _
  have T0 : Hid (Below w.heap.size w W0) := by show Below _ _ _; rw [hW0]; exact blThenAlloc (blAlloc _ _) _
  have HW := Lib.hid hW0
  clear h hW0
  go_enter Tryz.func20, Tryz.ntmps20
  go_wp2_with fail
  rw [← HW.out]
  clear HW
  refine (sAsked9_any w.heap.size 0 A n c ts bs sd _ H.out (B.out.c 0 rfl)).mono ?_
  rintro e w1 ⟨rfl, mm, rfl⟩
  have R1 := Lib.hid (R.out.drewN mm)
  have r0 := R1.out.c 0 rfl
  have r1 := R1.out.c 1 rfl
  have z0 := R1.out.f 0
  have z1 := R1.out.f 1
  have l1 := R1.out.lt
  have T1 := Lib.hid (blThenDrew T0.out mm)
  by_cases h0 : bkC ts sd = 0
  · have hsb := inB_iff.1 (bkC_zero h0).2
    obtain ⟨s, rfl⟩ : ∃ s : Nat, sd = s := ⟨sd.toNat, by omega⟩
    have HBC := Lib.hid (bc_y h0)
    have HC := Lib.hid (bcC_y h0)
    have H0 := Lib.hid h0
    have CB := Lib.hid (sBake9_any w.heap.size 0 A n c s ts bs (W0.drewN mm) (H.out.bel (below_drewN _ _ _)) ((B.out.drewN mm).c 0 rfl) h0)
    rw [h0]
    clear h0 hsb
    go_wp2_with fail
    refine CB.out.mono ?_
    rintro e w2 ⟨G, m, cG, rfl, ho, hb⟩
    have R2 := Lib.hid (R1.out.bel hb)
    have T2 := Lib.hid (blThen T1.out hb)
    have HO := Lib.hid ho
    have HL : Hid (w.heap.size + 1 < W0.heap.size) := R.out.lt
    have HL2 : Hid (W0.heap.size ≤ w2.heap.size) := by show _ ≤ _; have := hb.size; simpa using this
    clear ho hb R1 T1 r0 r1 z0 z1 l1 CB
    have q0 := R2.out.c 0 rfl
    have q1 := R2.out.c 1 rfl
    have y0 := R2.out.f 0
    have y1 := R2.out.f 1
    have l1 := R2.out.lt
    go_wp2_with fail
    have KK := ((R2.out.set 0 (.int .i64 0)).set 1 (.slice (some ⟨w2.heap.size, 0, none⟩) 1 1)).alloc (.cells #[.int .i64 3, .slice none 0 0, .slice none 0 0, .int .i64 (s : Int), .slice G m cG] 85)
    have k0 := KK.c 0 rfl
    have k1 := KK.c 1 rfl
    clear KK
    refine bodyPost_ret (v := .agg #[.int .i64 0, .slice (some ⟨w2.heap.size, 0, none⟩) 1 1]) (by simp [results, Tryz.results20, go_sem, k0, k1]) rfl ⟨_, _, _, by rw [H0.out], ?_, ?_⟩
    · rw [HC.out, HBC.out.1, HBC.out.2]
      have hl := HL.out
      have hl2 := HL2.out
      refine Own.mono (lo := w.heap.size + 2) (hi := w2.heap.size + 1) ?_ (by omega) (by simp [setSize])
      have bx := Bx.new ((w2.setCell ⟨w.heap.size + 1, 0, none⟩ (.int .i64 0)).setCell ⟨w.heap.size + 1, 1, none⟩ (.slice (some ⟨w2.heap.size, 0, none⟩) 1 1)) #[.int .i64 3, .slice none 0 0, .slice none 0 0, .int .i64 (s : Int), .slice G m cG] 85 (b := w2.heap.size) (by simp)
      have ho := ((HO.out.set (b := w.heap.size + 1) (.inl (by simp; omega)) 0 (.int .i64 0)).set (b := w.heap.size + 1) (.inl (by simp; omega)) 1 (.slice (some ⟨w2.heap.size, 0, none⟩) 1 1)).alloc (.cells #[.int .i64 3, .slice none 0 0, .slice none 0 0, .int .i64 (s : Int), .slice G m cG] 85)
      exact own_grid1 bx ho (.inr (by omega)) (by omega) (by simp; omega)
    · exact blThenAlloc (bel_2 T2.out (by omega) _ _) _
  · have HC := Lib.hid (bcC_n h0)
    obtain ⟨f, hf⟩ : ∃ f, bkC ts sd = f := ⟨_, rfl⟩
    have HFF := Lib.hid hf
    rw [hf] at h0 ⊢
    have hqn : (f == 0) = false := by simpa using h0
    clear hf
    go_wp2_with fail
    have KK := (R1.out.set 0 (.int .i64 f)).set 1 (.slice none 0 0)
    have k0 := KK.c 0 rfl
    have k1 := KK.c 1 rfl
    clear KK
    refine bodyPost_ret (v := .agg #[.int .i64 f, .slice none 0 0]) (by simp [results, Tryz.results20, go_sem, k0, k1]) rfl ⟨none, 0, 0, by rw [HFF.out], by rw [HC.out]; exact Own.snil _ _ _ _ _ _ (Nat.zero_le _), ?_⟩
    exact bel_2 T1.out (by omega) _ _
theorem bcC_len (ts : List Stg) (sd : Int) : (bcC ts sd).length ≤ 5 := by unfold bcC; split <;> simp
theorem bcC_small (ts : List Stg) (sd : Int) : ChSmall (bcC ts sd) := by
  refine ⟨by have := bcC_len ts sd; omega, fun i hi => ?_⟩
  unfold bcC at hi ⊢
  by_cases h : bkC ts sd = 0
  · rw [if_pos h] at hi ⊢
    obtain rfl : i = 0 := by simp at hi; omega
    exact ⟨⟨by simp [gSt, st_], fun i hi => by simp [gSt, st_] at hi⟩, ⟨by simp [gSt, st_], fun i hi => by simp [gSt, st_] at hi⟩, bcL_small ts sd⟩
  · rw [if_neg h] at hi; simp at hi
end Go.Proofs.YtlfdpambbgddoaaGreat
