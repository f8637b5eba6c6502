/- The law BlobCanons; no statement of the seat is proved here. -/
import Derived.Test.YtpmfedimjjifaaaGreatDoorJ34
import Derived.Test.YtpmfedimjjifaaaGreatDoorJ30
namespace Go.Proofs.YtpmfedimjjifaaaGreatDoor
open Go.RowKit Go.Maps

theorem fl_lt (l b e : Bool) : fl l b e < 256 := by cases l <;> cases b <;> cases e <;> decide
theorem head_bytes (h : Hd) : ∀ x ∈ headBs h, x < 256 := by
  intro x hx
  unfold headBs at hx
  rw [List.mem_append, List.mem_append, List.mem_append] at hx
  rcases hx with hx | hx | hx | hx
  · exact mark_b x hx
  · rw [List.mem_singleton] at hx; rw [hx]; exact fl_lt _ _ _
  · exact putN_bytes _ _ _ x hx
  · split at hx
    · rw [ords4, List.mem_append, List.mem_append, List.mem_append] at hx
      rcases hx with hx | hx | hx | hx <;> exact putN_bytes _ _ _ x hx
    · cases hx
theorem mk_bytes (t : T) (id : Int) (l b : Bool) : ∀ x ∈ mkT t id l b, x < 256 := by
  intro x hx
  unfold mkT at hx
  rcases List.mem_append.1 hx with hx | hx
  · exact head_bytes _ x hx
  · exact bytesI_bytes _ _ x hx
theorem mk_len {t : T} (h : GoodT' t) (id : Int) (l b : Bool) : (mkT t id l b).length ≤ 100040 := by
  obtain ⟨S, W, p, h1, h2, h3, rfl⟩ := h
  unfold mkT
  rw [List.length_append, headBs_len, bytesI_length]
  have h4 := size_small h1 h3 l
  have h5 : szH (headV p.t.pt id l b).b ≤ 40 := by unfold szH; split <;> omega
  omega
theorem ret_bytes {xs : List Nat} (hx : ∀ x ∈ xs, x < 256) (srs : Int) (l : Bool) : ∀ x ∈ retV xs srs l, x < 256 := by
  intro x h
  unfold retV at h
  rw [List.mem_append, List.mem_append] at h
  rcases h with h | h | h
  · exact hx x (List.mem_of_mem_take h)
  · exact putN_bytes _ _ _ x h
  · exact hx x (List.mem_of_mem_drop h)
end Go.Proofs.YtpmfedimjjifaaaGreatDoor
