/-
  The sorted keys of the map that is left (slices.Sorted(maps.Keys(..))), by the shelf.
-/
import Derived.Shelf.SlIterI.Nil
import Derived.Shelf.SortM.Plain
import Derived.Shelf.SortM.SortNone
import Derived.Ground.GgzProg
import Derived.Ground.SlgmProg
import Derived.Test.YtdjifaaofefpoaaGreatFldB
namespace Go.Proofs
open Go.RowKit Go.Maps Go.Sort Go.Shelf
set_option linter.unusedVariables false

shelf_lay_g SlLaysZI.n7 Ggz 7 at Tryz 40 as Tryz.keysA
shelf_lay_g SlLaysZI.n6 Ggz 6 at Tryz 39 as Tryz.sortedA
shelf_lay_g SlLaysM.n5 Slgm 5 at Tryz 63 as Tryz.sortA

theorem Tryz.sortsA (m : Nat) : AnyZI.SortsIn Tryz.prog Tryz.sortedA_ren Fence.wide m :=
  ⟨fun blk off cap ss W hH hblk hsz => callsIn_wide.2 (AnyM.slices_Sort_int Tryz.sortA blk off cap ss W hH hblk hsz),
   fun p cap W => callsIn_wide.2 (AnyM.slices_Sort_int_none Tryz.sortA p cap W)⟩
end Go.Proofs
namespace Go.Proofs.YtdjifaaofefpoaaGreat
open Go.RowKit Go.Maps Go.Sort Go.Shelf
set_option linter.unusedVariables false

theorem kps_sorted (ts : List Stg) (n k : Nat) : ((kps ts n k).map fun j : Nat => (j : Int)).mergeSort (fun x y => decide (x ≤ y)) = (kps ts n k).map fun j : Nat => (j : Int) := by
  refine List.mergeSort_of_pairwise (List.pairwise_map.2 ?_)
  unfold kps
  refine (List.pairwise_lt_range.filter _).imp fun {a b} h => ?_
  exact decide_eq_true (by omega)
theorem keysL_any (mb : Option Nat) (W : World) : Calls Tryz.prog 40 #[.map mb] W fun e w' => e = .returned (.func (.func 64) #[] #[.pointer (some ⟨W.heap.size, 0, none⟩)]) ∧ w' = W.alloc (.cells #[.map mb] 68) :=
  (callsIn_wide (n := 5)).1 (AnyZI.keys_in Tryz.keysA Fence.wide 5 trivial rfl mb W)
set_option maxHeartbeats 1000000 in
theorem sortedL_any (b nn : Nat) (ts : List Stg) (n : Nat) (vs : List Value) (D0 : DataW Value) (w : World) (hown : w.ownsMap Tryz.prog 3 anyE b nn D0) (hex : D0 = .map ((kps ts n n).map (ent vs))) (hn : n ≤ 100) :
    Calls Tryz.prog 39 #[.func (.func 64) #[] #[.pointer (some ⟨w.heap.size, 0, none⟩)]] (w.alloc (.cells #[.map (some b)] 68)) fun e w' => ∃ (v : Value), e = .returned v ∧
      w'.ownsRow (w.heap.size + 1) 3 1 v (kps ts n n).length (((kps ts n n).map fun j : Nat => (j : Int)).map encZ) ∧ Below (w.heap.size + 1) (w.alloc (.cells #[.map (some b)] 68)) w' := by
  have hbl := hown.lt
  have hsz : Maps.size D0 ≤ 100 := by
    rw [hex]
    show ((kps ts n n).map (ent vs)).length ≤ 100
    rw [List.length_map]
    refine Nat.le_trans (List.length_filter_le _ _) ?_
    rw [List.length_range]; exact hn
  have hik : intKeys D0 = (kps ts n n).map fun j : Nat => (j : Int) := by
    rw [hex]
    show List.map _ (List.map _ _) = _
    rw [List.map_map]
    rfl
  have hseq : SeqGives Fence.wide 2 Tryz.prog 64 #[.pointer (some ⟨w.heap.size, 0, none⟩)] encZ (fun ss => ss.Perm (intKeys D0)) (Maps.size D0) (w.alloc (.cells #[.map (some b)] 68)) :=
    AnyZI.keys_gives (ρ := Tryz.keysA_ren) { Tryz.keysA with } Fence.wide _ trivial rfl (by omega) w.heap.size b nn D0 _ (by simp) (by simp) (by
      obtain ⟨es, clock, hb, Ft, hs, hD⟩ := hown
      exact ⟨es, clock, (Below.heap_alloc _ _ b hbl).trans hb, Ft, hs, hD⟩)
  have cS := AnyZI.sorted_in Tryz.sortedA Fence.wide 5 trivial trivial trivial trivial rfl (by omega) (Tryz.sortsA _) (enters_of Tryz.func63 (by kernel_rfl) rfl) 64 #[.pointer (some ⟨w.heap.size, 0, none⟩)] trivial (enters_of Tryz.func64 (by kernel_rfl) rfl) _ _ (by unfold maxLen; omega) (by omega) _ hseq
  refine ((callsIn_wide (n := 5)).1 cS).mono ?_
  rintro e w' ⟨v, ss, rfl, hS, hrow, hnil, hb⟩
  have hm : ss.mergeSort (fun x y => decide (x ≤ y)) = (kps ts n n).map fun j : Nat => (j : Int) := by
    rw [mergeSort_of_perm_i hS, hik]
    exact kps_sorted ts n n
  have hl : ss.length = (kps ts n n).length := by rw [hS.length_eq, hik, List.length_map]
  rw [hm, hl] at hrow
  have hzz : (w.alloc (.cells #[.map (some b)] 68)).heap.size = w.heap.size + 1 := by simp
  rw [hzz] at hrow hb
  exact ⟨v, rfl, hrow, hb⟩
end Go.Proofs.YtdjifaaofefpoaaGreat
