/-
  leftOf, NothingsIn: the program's.
-/
import Derived.Test.YtdjifaaofefpoaaGreatFldA
import Derived.Deep.RegionHeld3
namespace Go.Proofs.YtdjifaaofefpoaaGreat
open Go.RowKit Go.Maps
set_option linter.unusedVariables false
set_option linter.unusedSimpArgs false

/-- A place as a key; a stage as an element, whatever it is. -/
def lk (i : Nat) : Lit := .int .i64 (i : Int)
theorem lk_ne {i j : Nat} (h : i ≠ j) : lk i ≠ lk j := fun e => h (by injection e with e1 e2; exact Int.ofNat.inj e2)
theorem keyN : Keyed Tryz.prog 3 := int_keyed Tryz.underlying3
theorem lk_key (i : Nat) (h : i ≤ 1000) : keyOf Tryz.prog 3 (.int .i64 (i : Int)) = some (lk i) := keyOf_int_mk Tryz.underlying3 (WalkArith.wf_i64 (by omega))
def anyE (v : Value) : Option (DataW Value × List MemPlace) := some (.held v, [])
theorem run_makeMapL (n : Nat) (w : World) (h : n ≤ 1000) : (Instr.makeMap 68 (some (.int .i64 (n : Int)))).run Tryz.prog w = .ok (.map (some w.heap.size)) (w.alloc (.map #[] 0)) := by
  simp [Instr.makeMap, run_underlying Tryz.underlying68, asInt, asIntOf]
/-- A place and its stage's value, as an entry; the keys that are left, in order. -/
def ent (vs : List Value) (j : Nat) : Lit × DataW Value := (lk j, .held (vs.getD j undef))
theorem insert_last (x : Lit × DataW Value) : ∀ l : List (Lit × DataW Value), (∀ y ∈ l, x.1.before y.1 = false) → DataW.insert x l = l ++ [x] := by
  intro l
  induction l with
  | nil => intro _; rfl
  | cons y r ih =>
    intro h
    show (if x.1.before y.1 then x :: y :: r else y :: DataW.insert x r) = _
    rw [h y (by simp), ih fun z hz => h z (by simp [hz])]
    rfl
theorem lk_same (i j : Nat) : (lk i).sameKey (lk j) = decide (i = j) := by
  show decide (IntKind.i64 = IntKind.i64 ∧ (i : Int) = (j : Int)) = _
  exact decide_eq_decide.2 ⟨fun h => Int.ofNat.inj h.2, fun h => ⟨rfl, by rw [h]⟩⟩
theorem put_last {vs : List Value} {k : Nat} {d : Value} (hd : vs.getD k undef = d) : (DataW.map ((List.range k).map (ent vs))).put (lk k) (.held d) = .map ((List.range (k + 1)).map (ent vs)) := by
  show DataW.map (DataW.insert (lk k, .held d) (((List.range k).map (ent vs)).filter fun p => !p.1.sameKey (lk k))) = _
  have e1 : (((List.range k).map (ent vs)).filter fun p => !p.1.sameKey (lk k)) = (List.range k).map (ent vs) := by
    refine List.filter_eq_self.2 fun p hp => ?_
    obtain ⟨j, hj, rfl⟩ := List.mem_map.1 hp
    have := List.mem_range.1 hj
    show (!(lk j).sameKey (lk k)) = true
    rw [lk_same, decide_eq_false (by omega)]
    rfl
  rw [e1, insert_last _ _ (fun y hy => by
    obtain ⟨j, hj, rfl⟩ := List.mem_map.1 hy
    have := List.mem_range.1 hj
    show decide ((k : Int) < (j : Int)) = false
    exact decide_eq_false (by omega)), List.range_succ, List.map_append]
  rw [← hd]
  rfl
/-- the places that are left when k have been looked at. -/
def kps (ts : List Stg) (n k : Nat) : List Nat := (List.range n).filter fun j => decide (k ≤ j) || !noV (st_ ts j)
theorem kps_0 (ts : List Stg) (n : Nat) : kps ts n 0 = List.range n := List.filter_eq_self.2 fun j _ => by simp
theorem kps_keep {ts : List Stg} {n k : Nat} (h : noV (st_ ts k) = false) : kps ts n (k + 1) = kps ts n k := by
  unfold kps
  refine List.filter_congr fun j _ => ?_
  by_cases e : j = k
  · subst e; rw [h]; simp
  · have hd : decide (k + 1 ≤ j) = decide (k ≤ j) := decide_eq_decide.2 (by omega)
    rw [hd]
theorem kps_del {vs : List Value} {ts : List Stg} {n k : Nat} (h : noV (st_ ts k) = true) : (DataW.map ((kps ts n k).map (ent vs))).del (lk k) = .map ((kps ts n (k + 1)).map (ent vs)) := by
  show DataW.map (((kps ts n k).map (ent vs)).filter fun p => !p.1.sameKey (lk k)) = _
  rw [List.filter_map]
  unfold kps
  rw [List.filter_filter]
  congr 2
  refine List.filter_congr fun j _ => ?_
  show (!(lk j).sameKey (lk k) && (decide (k ≤ j) || !noV (st_ ts j))) = _
  rw [lk_same]
  by_cases e : j = k
  · subst e; rw [h]; simp
  · have hd : decide (k + 1 ≤ j) = decide (k ≤ j) := decide_eq_decide.2 (by omega)
    rw [hd, decide_eq_false e]; simp
/-- Of a map: the first k places are its keys. -/
structure MpF (w : World) (b k : Nat) (vs : List Value) (D : DataW Value) : Prop where
  own : w.ownsMap Tryz.prog 3 anyE b k D
  sz : Maps.size D = k
  hs : ∀ j, Maps.has D (lk j) = decide (j < k)
  ex : D = .map ((List.range k).map (ent vs))
theorem MpF.new (w : World) (vs : List Value) : MpF (w.alloc (.map #[] 0)) w.heap.size 0 vs (.map []) := ⟨World.ownsMap_made _ _ _ _, rfl, fun j => by simp [Maps.has], rfl⟩
theorem MpF.put {w w' : World} {b k : Nat} {vs : List Value} {D : DataW Value} {d : Value} (h : MpF w b k vs D) (hd : vs.getD k undef = d) (ho : w'.ownsMap Tryz.prog 3 anyE b (k + 1) (D.put (lk k) (.held d))) : MpF w' b (k + 1) vs (D.put (lk k) (.held d)) := by
  refine ⟨ho, ?_, fun j => ?_, by rw [h.ex]; exact put_last hd⟩
  · rw [size_put (h.own.tidy keyN), h.hs k, h.sz]; simp
  · by_cases e : j = k
    · subst e; rw [has_put_same h.own.isMap (show WideAt.IsKeyLit (lk j) from trivial)]; simp
    · rw [has_put_other (lk_ne e), h.hs j]
      exact decide_eq_decide.2 (by omega)
/-- .. of the places from k on all are keys; before it those that do something. -/
structure MpG (w : World) (b n k : Nat) (ts : List Stg) (vs : List Value) (D : DataW Value) : Prop where
  own : w.ownsMap Tryz.prog 3 anyE b n D
  sz : Maps.size D + nsN ts k = n
  hs : ∀ j, k ≤ j → j < n → Maps.has D (lk j) = true
  ex : D = .map ((kps ts n k).map (ent vs))
theorem MpF.turn {w : World} {b n : Nat} {ts : List Stg} {vs : List Value} {D : DataW Value} (h : MpF w b n vs D) : MpG w b n 0 ts vs D := ⟨h.own, by rw [h.sz]; rfl, fun j _ hj => by rw [h.hs j]; simpa using hj, by rw [kps_0]; exact h.ex⟩
theorem MpG.keep {w : World} {b n k : Nat} {ts : List Stg} {vs : List Value} {D : DataW Value} (h : MpG w b n k ts vs D) (hn : noV (st_ ts k) = false) : MpG w b n (k + 1) ts vs D := ⟨h.own, by rw [nsN_n hn]; exact h.sz, fun j hj => h.hs j (by omega), by rw [kps_keep hn]; exact h.ex⟩
theorem MpG.del {w w' : World} {b n k : Nat} {ts : List Stg} {vs : List Value} {D : DataW Value} (h : MpG w b n k ts vs D) (hk : k < n) (hn : noV (st_ ts k) = true) (ho : w'.ownsMap Tryz.prog 3 anyE b n (D.del (lk k))) : MpG w' b n (k + 1) ts vs (D.del (lk k)) := by
  refine ⟨ho, ?_, fun j hj hjn => ?_, by rw [h.ex]; exact kps_del hn⟩
  · have h1 := size_del (k := lk k) (h.own.tidy keyN)
    rw [h.hs k (Nat.le_refl _) hk] at h1
    simp only [if_true] at h1
    have h2 := h.sz
    rw [nsN_y hn]
    omega
  · rw [has_del_other (lk_ne (show j ≠ k by omega))]; exact h.hs j (by omega) hjn
theorem MpG.bel {w w' : World} {b n k : Nat} {ts : List Stg} {vs : List Value} {D : DataW Value} (h : MpG w b n k ts vs D) (hb : Below w.heap.size w w') : MpG w' b n k ts vs D :=
  ⟨World.ownsMap.kept (row := none) h.own ⟨hb.os, hb.tape, hb.output, hb.size, fun k hk _ => hb.block k hk⟩ (by simp), h.sz, h.hs, h.ex⟩

def LfAns (w : World) (ts : List Stg) (e : Ending) (w' : World) : Prop :=
  ∃ m, e = .returned (.tuple #[.map m, .int .i64 (chf ts)]) ∧ (chf ts = 0 → ∃ b D vs, m = some b ∧ MpG w' b ts.length ts.length ts vs D ∧ ∀ i, i < ts.length → IsStg w' (st_ ts i) (vs.getD i undef)) ∧ Below w.heap.size w w'
set_option maxRecDepth 100000 in
set_option maxHeartbeats 4000000 in
theorem leftOf_any (A : Option Addr) (n c : Nat) (ts : List Stg) (bs : List Nat) (w : World) (h : Hd w (chD ts) (.slice A n c) bs) :
    Calls Tryz.prog 38 #[.agg #[.slice A n c]] w (LfAns w ts) := by
  have hl := h.stgs.1
  have H := Lib.hid h
  clear h
  go_enter Tryz.func38, Tryz.ntmps38
  go_wp2_with fail
  refine (chainStages_any A n c ts bs _ (H.out.alloc _)).mono ?_
  rintro e w1 ⟨v, rfl, hok, hb⟩
  have B1 := Lib.hid ((Bx.new w #[.slice A n c] 32 rfl).bel hb)
  have T1 := Lib.hid (blThen (blAlloc w _) hb)
  have H1 := Lib.hid ((H.out.alloc (.cells #[.slice A n c] 32)).bel hb)
  clear hb H
  by_cases h0 : chf ts = 0
  · obtain ⟨vs, hov, hst⟩ := hok h0
    have H5 := Lib.hid (chf_zj h0)
    have HS := Lib.hid (sgL_all _ H5.out.2)
    obtain ⟨A', c', rfl, hc1, hc2, hsts⟩ := Sts.of hov hst HS.out
    have HT := Lib.hid hsts
    have H0 := Lib.hid h0
    have n5 : n ≤ 5 := by have := H5.out.1; omega
    have HL := Lib.hid hl
    have hmm := fun w => run_makeMapL n w (by omega)
    have b0 := B1.out.c 0 rfl
    rw [h0]
    rw [hl] at hc1 HT HS ⊢
    clear hok hov hst h0 hsts hl
    go_wp2_with fail
    clear hmm b0
    go_loopw [24] (fun i wr => ∃ (k : Nat) (D : DataW Value), k ≤ n ∧ i = .int .i64 k ∧ Hid (MpF wr w1.heap.size k vs D) ∧ Hid (Below w1.heap.size w1 wr)) (fun i _ => n - (intOf i).toNat)
    case atStart => exact ⟨0, .map [], by omega, rfl, MpF.new _ _, blAlloc _ _⟩
    case round =>
      obtain ⟨k, D, hk, rfl, HM, HB⟩ := hrel
      by_cases hlt : k < n
      · obtain ⟨b, rfl, vc⟩ := HT.out.at_ k hlt
        replace vc := cell_later HB.out vc
        obtain ⟨sv, hsv⟩ : ∃ sv, vs.getD k undef = sv := ⟨_, rfl⟩
        rw [hsv] at vc
        have HSV := Lib.hid hsv
        clear hsv
        go_wp2_with (at_mapUpdate; refine wpList_mapUpdate_own _ rfl _ _ _ 68 rfl 3 78 keyN Tryz.underlying68 anyE w1.heap.size k D rfl HM.out.own (by unfold maxLen; omega) _ _ _ rfl rfl (lk_key k (by omega)) _ [] rfl ?_; intro w3 hown3 hg3)
        have HM3 := Lib.hid (HM.out.put HSV.out hown3)
        have T3 : Hid (Below w1.heap.size w1 w3) := by
          show Below _ _ _
          exact HB.out.grown hg3 HB.out.size (fun j hj => by cases hj; omega)
        clear hown3 hg3 vc HM
        go_wp2_with fail
        go_roundw
        case rel => exact ⟨k + 1, _, by omega, by go_num, HM3.out, T3.out⟩
        case measure => simp [intOf]; omega
      · obtain rfl : k = n := by omega
        have HG : Hid (MpG wr w1.heap.size k 0 ts vs D) := HM.out.turn
        have b0 := (B1.out.bel HB.out).c 0 rfl
        obtain ⟨W2, hW2⟩ : ∃ W, W = wr := ⟨_, rfl⟩
        rw [← hW2] at HG HB b0 ⊢
        clear hW2 HM
        go_wp2_with fail
        clear b0
        go_loopw [36] (fun i wr => ∃ (j : Nat) (D : DataW Value), j ≤ k ∧ i = .int .i64 j ∧ Hid (MpG wr w1.heap.size k j ts vs D) ∧ Hid (Below w1.heap.size w1 wr)) (fun i _ => k - (intOf i).toNat)
        case atStart => exact ⟨0, D, by omega, rfl, HG.out, HB.out⟩
        case round =>
          obtain ⟨j, D', hj, rfl, HM, HBB⟩ := hrel
          by_cases hlt2 : j < k
          · obtain ⟨b, o', A1, n1, c1, A2, n2, c2, A3, n3, c3, rfl, x0, x1, x2, x3, x4, xs⟩ := (H1.out.bel HBB.out).stg hlt2
            have xl := cell_lt x0
            obtain ⟨W, hW⟩ : ∃ W, W = wr.alloc (.cells #[.int .i64 (st_ ts j).kd, .slice A1 n1 c1, .slice A2 n2 c2, .int .i64 (st_ ts j).sd, .slice A3 n3 c3] 98) := ⟨_, rfl⟩
            have CN : Hid (Calls Tryz.prog 61 #[.agg #[.int .i64 (st_ ts j).kd, .slice A1 n1 c1, .slice A2 n2 c2, .int .i64 (st_ ts j).sd, .slice A3 n3 c3]] (wr.alloc (.cells #[.int .i64 (st_ ts j).kd, .slice A1 n1 c1, .slice A2 n2 c2, .int .i64 (st_ ts j).sd, .slice A3 n3 c3] 98)) (SbAns (wr.alloc (.cells #[.int .i64 (st_ ts j).kd, .slice A1 n1 c1, .slice A2 n2 c2, .int .i64 (st_ ts j).sd, .slice A3 n3 c3] 98)) (noV (st_ ts j)))) := by
              show Calls _ _ _ _ _
              rw [← isN_y (HS.out j hlt2)]
              exact IsNothing_any (st_ ts j) _ _ _ _ _ _ _ _ _ _ (xs.alloc _)
            clear xs W hW
            obtain ⟨s, hs⟩ : ∃ s, noV (st_ ts j) = s := ⟨_, rfl⟩
            rw [hs] at CN
            have HSS := Lib.hid hs
            clear hs
            cases s
            · go_wp2_with fail
              refine CN.out.mono ?_
              rintro e w2 ⟨rfl, hb2⟩
              have HB2 := Lib.hid (blThen (blThenAlloc HBB.out _) hb2)
              have HM2 := Lib.hid ((HM.out.bel (blThen (blAlloc wr _) hb2)).keep HSS.out)
              clear hb2 x0 x1 x2 x3 x4 CN
              go_wp2_with fail
              go_roundw
              case rel => exact ⟨j + 1, _, by omega, by go_num, HM2.out, HB2.out⟩
              case measure => simp [intOf]; omega
            · go_wp2_with fail
              refine CN.out.mono ?_
              rintro e w2 ⟨rfl, hb2⟩
              have HB2 := Lib.hid (blThen (blThenAlloc HBB.out _) hb2)
              have HM2 := Lib.hid (HM.out.bel (blThen (blAlloc wr _) hb2))
              clear hb2 x0 x1 x2 x3 x4 CN
              go_wp2_with (at_delete; refine wpList_delete_own _ rfl _ _ 68 3 rfl 78 keyN Tryz.underlying68 anyE w1.heap.size k D' rfl HM2.out.own _ _ rfl (lk_key j (by omega)) ?_; intro w3 hown3 hturn3)
              have HM3 := Lib.hid (HM2.out.del hlt2 HSS.out hown3)
              have HB3 : Hid (Below w1.heap.size w1 w3) := by
                show Below _ _ _
                exact HB2.out.grown hturn3.grown HB2.out.size (fun j hj => by cases hj; omega)
              clear hown3 hturn3
              go_wp2_with fail
              go_roundw
              case rel => exact ⟨j + 1, _, by omega, by go_num, HM3.out, HB3.out⟩
              case measure => simp [intOf]; omega
          · obtain rfl : j = k := by omega
            go_wp2_with fail
            go_ret2
            exact ⟨_, by rw [H0.out]; rfl, fun _ => ⟨_, D', vs, rfl, by rw [HL.out]; exact HM.out, fun i hi => (HT.out.st i (by rw [← HL.out]; exact hi)).bel HBB.out⟩, blThen T1.out HBB.out⟩
  · obtain ⟨f, hf⟩ : ∃ f, chf ts = f := ⟨_, rfl⟩
    have HFF := Lib.hid hf
    rw [hf] at h0 ⊢
    have HNZ := Lib.hid h0
    have hqn : (f == 0) = false := by simpa using h0
    have hqm : (f != 0) = true := by simpa using h0
    clear hok hf
    go_wp2_with fail
    go_ret2
    exact ⟨_, by rw [HFF.out]; rfl, fun e => absurd (HFF.out.symm.trans e) HNZ.out, T1.out⟩
end Go.Proofs.YtdjifaaofefpoaaGreat
