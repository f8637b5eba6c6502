/- The keys of a map of sectors, sorted; no statement of the seat is proved here. -/
import Derived.Test.YtkgenmooepfhjaaSh
import Derived.Test.YtkgenmooepfhjaaAf
namespace Go.Proofs.Ytkgenmooepfhjaa
open Go.RowKit Go.Maps Go.Sort Go.Shelf

theorem sortsA (m : Nat) : AnyZI.SortsIn Try.prog Try.sortedA_ren Fence.wide m :=
  ⟨fun blk off cap ss W hH hblk hsz => callsIn_wide.2 (AnyM.slices_Sort_int Try.sortA blk off cap ss W hH hblk hsz),
   fun p cap W => callsIn_wide.2 (AnyM.slices_Sort_int_none Try.sortA p cap W)⟩

/-- maps.Keys: the map is boxed. -/
theorem keys_any (mb : Option Nat) (w : World) : Calls Try.prog 62 #[.map mb] w fun e w' => e = .returned (.func (.func 68) #[] #[.pointer (some ⟨w.heap.size, 0, none⟩)]) ∧ w' = w.alloc (.cells #[.map mb] 58) :=
  (callsIn_wide (n := 5)).1 (AnyZI.keys_in Try.keysA Fence.wide 5 trivial rfl mb w)

/-- slices.Sorted of them. -/
theorem sorted_any (b : Nat) (F : FS) (w : World) (hown : w.ownsMap Try.prog 3 secR b (idx F.dirt).length (dirtD F.dirt F.old)) (hmax : (idx F.dirt).length ≤ 100000) :
    Calls Try.prog 61 #[.func (.func 68) #[] #[.pointer (some ⟨w.heap.size, 0, none⟩)]] (w.alloc (.cells #[.map (some b)] 58)) fun e w' => ∃ v : Value, e = .returned v ∧
      w'.ownsRow w.heap.size 3 1 v (idx F.dirt).length ((idx F.dirt).map fun i : Nat => .int .i64 (i : Int)) ∧ Below w.heap.size w w' := by
  have hbl := hown.lt
  have hseq : SeqGives Fence.wide 2 Try.prog 68 #[.pointer (some ⟨w.heap.size, 0, none⟩)] encZ (fun ss => ss.Perm (intKeys (dirtD F.dirt F.old))) (Maps.size (dirtD F.dirt F.old)) (w.alloc (.cells #[.map (some b)] 58)) :=
    AnyZI.keys_gives (ρ := Try.keysA_ren) { Try.keysA with } Fence.wide _ trivial rfl (by omega) w.heap.size b _ (dirtD F.dirt F.old) _ (by simp) (by simp) (map_stay hown (heap_alloc_old _ _ _ hbl))
  have hs := size_dirt F.dirt F.old
  have cS := AnyZI.sorted_in Try.sortedA Fence.wide 5 trivial trivial trivial trivial rfl (by omega) (sortsA _) (enters_of Try.func67 (by kernel_rfl) rfl) 68 #[.pointer (some ⟨w.heap.size, 0, none⟩)] trivial (enters_of Try.func68 (by kernel_rfl) rfl) _ _ (by rw [hs]; unfold maxLen; omega) (by rw [hs]; omega) _ hseq
  change CallsIn _ _ Try.prog 61 _ _ _ at cS
  refine (callsIn_wide.1 cS).mono ?_
  rintro e w' ⟨v, ss, rfl, hS, hrow, _, hb⟩
  rw [keys_sorted hS] at hrow
  have hl : ss.length = (idx F.dirt).length := by rw [hS.length_eq, keys_dirt]; simp
  rw [hl, List.map_map] at hrow
  refine ⟨v, rfl, ownsRow_base_a hrow (by simp), ((Below.refl _ w).alloc (Nat.le_refl _) _).trans (hb.mono (by simp))⟩

end Go.Proofs.Ytkgenmooepfhjaa
