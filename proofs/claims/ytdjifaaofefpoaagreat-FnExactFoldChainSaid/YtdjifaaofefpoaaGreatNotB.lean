/-
  IsNothing, by the program: slices.ContainsFunc over the stages that do nothing.
-/
import Derived.Test.YtdjifaaofefpoaaGreatNotA
namespace Go.Proofs.YtdjifaaofefpoaaGreat
open Go.RowKit Go.Maps
set_option linter.unusedVariables false
set_option linter.unusedSimpArgs false

theorem hd0 (w : World) : ∃ bs, Hd w (rowsD []) (.slice none 0 0) bs := ⟨_, .sl0 _ _ _ (Nat.zero_le _)⟩
theorem Nts.h1 {w : World} {g : Nat} {B1 : Option Addr} {k1 : Nat} {B2 : Option Addr} {k2 : Nat} {B3 : Option Addr} {k3 : Nat} {B4 : Option Addr} {k4 l0 l1 l2 l3 l4 : Nat} (h : Nts w g B1 k1 B2 k2 B3 k3 B4 k4 l0 l1 l2 l3 l4) : HdSt w nt1 B1 3 k1 none 0 0 none 0 0 := ⟨h.a.hd, hd0 _, hd0 _⟩
theorem Nts.h2 {w : World} {g : Nat} {B1 : Option Addr} {k1 : Nat} {B2 : Option Addr} {k2 : Nat} {B3 : Option Addr} {k3 : Nat} {B4 : Option Addr} {k4 l0 l1 l2 l3 l4 : Nat} (h : Nts w g B1 k1 B2 k2 B3 k3 B4 k4 l0 l1 l2 l3 l4) : HdSt w nt2 none 0 0 B2 3 k2 none 0 0 := ⟨hd0 _, h.b.hd, hd0 _⟩
theorem Nts.h3 {w : World} {g : Nat} {B1 : Option Addr} {k1 : Nat} {B2 : Option Addr} {k2 : Nat} {B3 : Option Addr} {k3 : Nat} {B4 : Option Addr} {k4 l0 l1 l2 l3 l4 : Nat} (h : Nts w g B1 k1 B2 k2 B3 k3 B4 k4 l0 l1 l2 l3 l4) : HdSt w nt3 none 0 0 none 0 0 B3 8 k3 := ⟨hd0 _, hd0 _, h.d.hd⟩
theorem Nts.h4 {w : World} {g : Nat} {B1 : Option Addr} {k1 : Nat} {B2 : Option Addr} {k2 : Nat} {B3 : Option Addr} {k3 : Nat} {B4 : Option Addr} {k4 l0 l1 l2 l3 l4 : Nat} (h : Nts w g B1 k1 B2 k2 B3 k3 B4 k4 l0 l1 l2 l3 l4) : HdSt w nt4 none 0 0 none 0 0 B4 64 k4 := ⟨hd0 _, hd0 _, h.e.hd⟩
set_option maxHeartbeats 1000000 in
theorem isN1_any (u t : Stg) (N1 : Option Addr) (m1 d1 : Nat) (N2 : Option Addr) (m2 d2 : Nat) (N3 : Option Addr) (m3 d3 : Nat) (A1 : Option Addr) (n1 c1 : Nat) (A2 : Option Addr) (n2 c2 : Nat) (A3 : Option Addr) (n3 c3 : Nat) (p : Nat) (w : World) (hp : Bx w p [.int .i64 t.kd, .slice A1 n1 c1, .slice A2 n2 c2, .int .i64 t.sd, .slice A3 n3 c3]) (h : HdSt w u N1 m1 d1 N2 m2 d2 N3 m3 d3) (h' : HdSt w t A1 n1 c1 A2 n2 c2 A3 n3 c3) :
    Calls Tryz.prog 104 #[.agg #[.int .i64 u.kd, .slice N1 m1 d1, .slice N2 m2 d2, .int .i64 u.sd, .slice N3 m3 d3], .pointer (some ⟨p, 0, none⟩)] w (SbAns w (sameStg u t)) := by
  have CS : Hid (∀ W, Below w.heap.size w W → Calls Tryz.prog 105 #[.agg #[.int .i64 u.kd, .slice N1 m1 d1, .slice N2 m2 d2, .int .i64 u.sd, .slice N3 m3 d3], .agg #[.int .i64 t.kd, .slice A1 n1 c1, .slice A2 n2 c2, .int .i64 t.sd, .slice A3 n3 c3]] W (SbAns W (sameStg u t))) := fun W hW => sameStages_any u t N1 N2 N3 m1 d1 m2 d2 m3 d3 A1 A2 A3 n1 c1 n2 c2 n3 c3 W (h.bel hW) (h'.bel hW)
  have x0 := hp.c 0 rfl
  have x1 := hp.c 1 rfl
  have x2 := hp.c 2 rfl
  have x3 := hp.c 3 rfl
  have x4 := hp.c 4 rfl
  have xl := hp.lt
  clear hp h h'
  go_enter Tryz.func104, Tryz.ntmps104
  go_wp2_with fail
  refine (CS.out _ (blAlloc _ _)).mono ?_
  rintro e w1 ⟨rfl, hb⟩
  have T1 := Lib.hid (blThen (blAlloc w _) hb)
  clear hb
  go_wp2_with fail
  go_ret
  exact ⟨rfl, T1.out⟩
def IxAns (w : World) (b : Bool) (e : Ending) (w' : World) : Prop := ∃ r : Int, e = .returned (.int .i64 r) ∧ decide (0 ≤ r) = b ∧ Below w.heap.size w w'
set_option maxRecDepth 100000 in
set_option maxHeartbeats 8000000 in
theorem IndexFunc_any (g : Nat) (B1 : Option Addr) (k1 : Nat) (B2 : Option Addr) (k2 : Nat) (B3 : Option Addr) (k3 : Nat) (B4 : Option Addr) (k4 l0 l1 l2 l3 l4 : Nat) (t : Stg) (A1 : Option Addr) (n1 c1 : Nat) (A2 : Option Addr) (n2 c2 : Nat) (A3 : Option Addr) (n3 c3 : Nat) (p : Nat) (w : World) (hn : Nts w g B1 k1 B2 k2 B3 k3 B4 k4 l0 l1 l2 l3 l4) (hp : Bx w p [.int .i64 t.kd, .slice A1 n1 c1, .slice A2 n2 c2, .int .i64 t.sd, .slice A3 n3 c3]) (h' : HdSt w t A1 n1 c1 A2 n2 c2 A3 n3 c3) :
    Calls Tryz.prog 142 #[.slice (some ⟨g, 0, none⟩) 4 4, .func (.func 104) #[] #[.pointer (some ⟨p, 0, none⟩)]] w (IxAns w (isN t)) := by
  have HN := Lib.hid hn
  obtain ⟨s1, hs1⟩ : ∃ s, s = sameStg nt1 t := ⟨_, rfl⟩
  have CC1 : Hid (∀ W, Below w.heap.size w W → Calls Tryz.prog 104 #[.agg #[.int .i64 1, .slice B1 3 k1, .slice none 0 0, .int .i64 0, .slice none 0 0], .pointer (some ⟨p, 0, none⟩)] W (SbAns W s1)) := fun W hW => by rw [hs1]; exact isN1_any nt1 t B1 3 k1 none 0 0 none 0 0 A1 n1 c1 A2 n2 c2 A3 n3 c3 p W (hp.bel hW) ((hn.bel hW).h1) (h'.bel hW)
  obtain ⟨s2, hs2⟩ : ∃ s, s = sameStg nt2 t := ⟨_, rfl⟩
  have CC2 : Hid (∀ W, Below w.heap.size w W → Calls Tryz.prog 104 #[.agg #[.int .i64 2, .slice none 0 0, .slice B2 3 k2, .int .i64 0, .slice none 0 0], .pointer (some ⟨p, 0, none⟩)] W (SbAns W s2)) := fun W hW => by rw [hs2]; exact isN1_any nt2 t none 0 0 B2 3 k2 none 0 0 A1 n1 c1 A2 n2 c2 A3 n3 c3 p W (hp.bel hW) ((hn.bel hW).h2) (h'.bel hW)
  obtain ⟨s3, hs3⟩ : ∃ s, s = sameStg nt3 t := ⟨_, rfl⟩
  have CC3 : Hid (∀ W, Below w.heap.size w W → Calls Tryz.prog 104 #[.agg #[.int .i64 3, .slice none 0 0, .slice none 0 0, .int .i64 2, .slice B3 8 k3], .pointer (some ⟨p, 0, none⟩)] W (SbAns W s3)) := fun W hW => by rw [hs3]; exact isN1_any nt3 t none 0 0 none 0 0 B3 8 k3 A1 n1 c1 A2 n2 c2 A3 n3 c3 p W (hp.bel hW) ((hn.bel hW).h3) (h'.bel hW)
  obtain ⟨s4, hs4⟩ : ∃ s, s = sameStg nt4 t := ⟨_, rfl⟩
  have CC4 : Hid (∀ W, Below w.heap.size w W → Calls Tryz.prog 104 #[.agg #[.int .i64 3, .slice none 0 0, .slice none 0 0, .int .i64 4, .slice B4 64 k4], .pointer (some ⟨p, 0, none⟩)] W (SbAns W s4)) := fun W hW => by rw [hs4]; exact isN1_any nt4 t none 0 0 none 0 0 B4 64 k4 A1 n1 c1 A2 n2 c2 A3 n3 c3 p W (hp.bel hW) ((hn.bel hW).h4) (h'.bel hW)
  have HI : Hid (isN t = (s1 || (s2 || (s3 || s4)))) := by show _ = _; unfold isN; rw [hs1, hs2, hs3, hs4]
  rw [HI.out]
  have hx := hn.x
  have X0 := Lib.hid (hx.c 0 rfl)
  have X1 := Lib.hid (hx.c 1 rfl)
  have X2 := Lib.hid (hx.c 2 rfl)
  have X3 := Lib.hid (hx.c 3 rfl)
  have X4 := Lib.hid (hx.c 4 rfl)
  have X5 := Lib.hid (hx.c 5 rfl)
  have X6 := Lib.hid (hx.c 6 rfl)
  have X7 := Lib.hid (hx.c 7 rfl)
  have X8 := Lib.hid (hx.c 8 rfl)
  have X9 := Lib.hid (hx.c 9 rfl)
  have X10 := Lib.hid (hx.c 10 rfl)
  have X11 := Lib.hid (hx.c 11 rfl)
  have X12 := Lib.hid (hx.c 12 rfl)
  have X13 := Lib.hid (hx.c 13 rfl)
  have X14 := Lib.hid (hx.c 14 rfl)
  have X15 := Lib.hid (hx.c 15 rfl)
  have X16 := Lib.hid (hx.c 16 rfl)
  have X17 := Lib.hid (hx.c 17 rfl)
  have X18 := Lib.hid (hx.c 18 rfl)
  have X19 := Lib.hid (hx.c 19 rfl)
  clear hn hp h' hs1 hs2 hs3 hs4 HI hx
  go_enter Tryz.func142, Tryz.ntmps142
  go_wp2_with fail
  go_loopw [8] (fun i wr => Hid (Below w.heap.size w wr) ∧ ((i = .int .i64 0) ∨ (i = .int .i64 1 ∧ s1 = false) ∨ (i = .int .i64 2 ∧ s1 = false ∧ s2 = false) ∨ (i = .int .i64 3 ∧ s1 = false ∧ s2 = false ∧ s3 = false) ∨ (i = .int .i64 4 ∧ s1 = false ∧ s2 = false ∧ s3 = false ∧ s4 = false))) (fun i _ => 4 - (intOf i).toNat)
  case atStart => exact ⟨Below.refl _ _, .inl rfl⟩
  case round =>
    obtain ⟨HB, rfl | ⟨rfl, rfl⟩ | ⟨rfl, rfl, rfl⟩ | ⟨rfl, rfl, rfl, rfl⟩ | ⟨rfl, rfl, rfl, rfl, rfl⟩⟩ := hrel
    · have y0 := cell_later HB.out X0.out
      have y1 := cell_later HB.out X1.out
      have y2 := cell_later HB.out X2.out
      have y3 := cell_later HB.out X3.out
      have y4 := cell_later HB.out X4.out
      have yl := cell_lt y0
      have CK := Lib.hid (CC1.out _ HB.out)
      cases s1
      · go_wp2_with fail
        refine CK.out.mono ?_
        rintro e w1 ⟨rfl, hb⟩
        have T1 := Lib.hid (blThen HB.out hb)
        clear hb y0 y1 y2 y3 y4 yl CK
        go_wp2_with fail
        go_roundw
        case rel => exact ⟨T1, .inr (.inl ⟨by go_num, by first | rfl | trivial⟩)⟩
        case measure => simp [intOf]
      · go_wp2_with fail
        refine CK.out.mono ?_
        rintro e w1 ⟨rfl, hb⟩
        have T1 := Lib.hid (blThen HB.out hb)
        clear hb y0 y1 y2 y3 y4 yl CK
        go_wp2_with fail
        go_ret
        exact ⟨0, rfl, by simp, T1.out⟩
    · have y0 := cell_later HB.out X5.out
      have y1 := cell_later HB.out X6.out
      have y2 := cell_later HB.out X7.out
      have y3 := cell_later HB.out X8.out
      have y4 := cell_later HB.out X9.out
      have yl := cell_lt y0
      have CK := Lib.hid (CC2.out _ HB.out)
      cases s2
      · go_wp2_with fail
        refine CK.out.mono ?_
        rintro e w1 ⟨rfl, hb⟩
        have T1 := Lib.hid (blThen HB.out hb)
        clear hb y0 y1 y2 y3 y4 yl CK
        go_wp2_with fail
        go_roundw
        case rel => exact ⟨T1, .inr (.inr (.inl ⟨by go_num, by first | rfl | trivial, by first | rfl | trivial⟩))⟩
        case measure => simp [intOf]
      · go_wp2_with fail
        refine CK.out.mono ?_
        rintro e w1 ⟨rfl, hb⟩
        have T1 := Lib.hid (blThen HB.out hb)
        clear hb y0 y1 y2 y3 y4 yl CK
        go_wp2_with fail
        go_ret
        exact ⟨1, rfl, by simp, T1.out⟩
    · have y0 := cell_later HB.out X10.out
      have y1 := cell_later HB.out X11.out
      have y2 := cell_later HB.out X12.out
      have y3 := cell_later HB.out X13.out
      have y4 := cell_later HB.out X14.out
      have yl := cell_lt y0
      have CK := Lib.hid (CC3.out _ HB.out)
      cases s3
      · go_wp2_with fail
        refine CK.out.mono ?_
        rintro e w1 ⟨rfl, hb⟩
        have T1 := Lib.hid (blThen HB.out hb)
        clear hb y0 y1 y2 y3 y4 yl CK
        go_wp2_with fail
        go_roundw
        case rel => exact ⟨T1, .inr (.inr (.inr (.inl ⟨by go_num, by first | rfl | trivial, by first | rfl | trivial, by first | rfl | trivial⟩)))⟩
        case measure => simp [intOf]
      · go_wp2_with fail
        refine CK.out.mono ?_
        rintro e w1 ⟨rfl, hb⟩
        have T1 := Lib.hid (blThen HB.out hb)
        clear hb y0 y1 y2 y3 y4 yl CK
        go_wp2_with fail
        go_ret
        exact ⟨2, rfl, by simp, T1.out⟩
    · have y0 := cell_later HB.out X15.out
      have y1 := cell_later HB.out X16.out
      have y2 := cell_later HB.out X17.out
      have y3 := cell_later HB.out X18.out
      have y4 := cell_later HB.out X19.out
      have yl := cell_lt y0
      have CK := Lib.hid (CC4.out _ HB.out)
      cases s4
      · go_wp2_with fail
        refine CK.out.mono ?_
        rintro e w1 ⟨rfl, hb⟩
        have T1 := Lib.hid (blThen HB.out hb)
        clear hb y0 y1 y2 y3 y4 yl CK
        go_wp2_with fail
        go_roundw
        case rel => exact ⟨T1, .inr (.inr (.inr (.inr ⟨by go_num, by first | rfl | trivial, by first | rfl | trivial, by first | rfl | trivial, by first | rfl | trivial⟩)))⟩
        case measure => simp [intOf]
      · go_wp2_with fail
        refine CK.out.mono ?_
        rintro e w1 ⟨rfl, hb⟩
        have T1 := Lib.hid (blThen HB.out hb)
        clear hb y0 y1 y2 y3 y4 yl CK
        go_wp2_with fail
        go_ret
        exact ⟨3, rfl, by simp, T1.out⟩
    · go_wp2_with fail
      go_ret
      exact ⟨-1, rfl, by simp, HB.out⟩
set_option maxRecDepth 100000 in
set_option maxHeartbeats 2000000 in
theorem IsNothing_any (t : Stg) (A1 : Option Addr) (n1 c1 : Nat) (A2 : Option Addr) (n2 c2 : Nat) (A3 : Option Addr) (n3 c3 : Nat) (w : World) (h : HdSt w t A1 n1 c1 A2 n2 c2 A3 n3 c3) :
    Calls Tryz.prog 61 #[.agg #[.int .i64 t.kd, .slice A1 n1 c1, .slice A2 n2 c2, .int .i64 t.sd, .slice A3 n3 c3]] w (SbAns w (isN t)) := by
  obtain ⟨W0, hW0⟩ : ∃ W0, W0 = w.alloc (.cells #[.int .i64 t.kd, .slice A1 n1 c1, .slice A2 n2 c2, .int .i64 t.sd, .slice A3 n3 c3] 98) := ⟨_, rfl⟩
  have P : Hid (Bx W0 w.heap.size [.int .i64 t.kd, .slice A1 n1 c1, .slice A2 n2 c2, .int .i64 t.sd, .slice A3 n3 c3]) := by show Bx _ _ _; rw [hW0]; exact Bx.new _ _ _ rfl
  have T0 : Hid (Below w.heap.size w W0) := by show Below _ _ _; rw [hW0]; exact blAlloc _ _
  have HW := Lib.hid hW0
  have H := Lib.hid (h.bel T0.out)
  clear h hW0
  go_enter Tryz.func61, Tryz.ntmps61
  go_wp2_with fail
  rw [← HW.out]
  clear HW
  refine (nothings_any _).mono ?_
  rintro e w1 ⟨g, B1, k1, B2, k2, B3, k3, B4, k4, l1, l2, l3, l4, rfl, hn, hb⟩
  have CI := Lib.hid (IndexFunc_any g B1 k1 B2 k2 B3 k3 B4 k4 _ l1 l2 l3 l4 t A1 n1 c1 A2 n2 c2 A3 n3 c3 w.heap.size w1 hn (P.out.bel hb) (H.out.bel hb))
  have T1 := Lib.hid (blThen T0.out hb)
  have CF : Hid (Calls Tryz.prog 102 #[.slice (some ⟨g, 0, none⟩) 4 4, .func (.func 104) #[] #[.pointer (some ⟨w.heap.size, 0, none⟩)]] w1 (SbAns w1 (isN t))) := by
    show Calls _ _ _ _ _
    clear hn hb P H
    go_enter Tryz.func102, Tryz.ntmps102
    go_wp2_with fail
    refine CI.out.mono ?_
    rintro e w2 ⟨r, rfl, hr, hb⟩
    have HR := Lib.hid hr
    have HB := Lib.hid hb
    clear hr hb
    go_wp2_with fail
    go_ret
    exact ⟨by rw [← HR.out]; simp [ge_iff_le], HB.out⟩
  clear hn hb CI
  go_wp2_with fail
  refine CF.out.mono ?_
  rintro e w2 ⟨rfl, hb⟩
  have T2 := Lib.hid (blThen T1.out hb)
  clear hb
  go_wp2_with fail
  go_ret
  exact ⟨rfl, T2.out⟩
end Go.Proofs.YtdjifaaofefpoaaGreat
