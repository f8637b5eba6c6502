/- What light returns; no statement of the seat is proved here. -/
import Derived.Test.YtbpcekhfjkodcaaBa
namespace Go.Proofs.Ytbpcekhfjkodcaa
open Go.RowKit

def lightL (k : Nat) : List C → Bool
  | [] => true
  | a :: l => if 5000 < k + a.n then false else lightL (k + a.n) l
/-- Are there not more cells than are looked at? -/
def lightN (cs : List C) : Bool := if 200 < cs.length then false else lightL 0 cs
theorem lightL_small (cs : List C) : ∀ k, lightL k cs = true → ∀ a ∈ cs, a.n ≤ 5000 := by
  induction cs with
  | nil => intro k _ a h; cases h
  | cons b l ih =>
    intro k h a ha
    simp only [lightL] at h
    split at h
    · cases h
    · rcases List.mem_cons.1 ha with rfl | h2
      · omega
      · exact ih _ h a h2
theorem light_few (cs : List C) (h : lightN cs = true) : Few cs := by
  unfold lightN at h
  split at h
  · cases h
  · exact ⟨by omega, fun a ha => by have := lightL_small cs 0 h a ha; omega⟩
theorem light_len (cs : List C) (h : lightN cs = true) : cs.length ≤ 200 := by
  unfold lightN at h
  split at h
  · cases h
  · omega

set_option maxHeartbeats 1000000 in
theorem light_any (leaf : Bool) (r : Int) (co : Option Addr) (cn cc : Nat) (cs : List C) (w : World) (h : Cs w co cn cc cs) (hB : cn ≤ 9223372036854775807) :
    Calls Try.prog 7 #[.agg #[.bool leaf, .int .i64 r, .slice co cn cc]] w fun e w' => e = .returned (.bool (lightN cs)) ∧ Below w.heap.size w w' := by
  have h' := hid h
  have hl' := hid h.len
  obtain ⟨V, hV⟩ : ∃ V, V = lightN cs := ⟨_, rfl⟩
  rw [← hV]
  unfold lightN at hV
  rw [h.len] at hV
  have q0 := hid (NB.new 24 w leaf r co cn cc)
  have b0 : Hid (Below w.heap.size w (w.alloc (.cells #[.bool leaf, .int .i64 r, .slice co cn cc] 24))) := hid (ext1 _)
  by_cases h2 : 200 < cn
  · rw [if_pos h2] at hV
    subst hV
    clear h
    go_enter Try.func7, Try.ntmps7
    go_wp2
    go_ret
    exact ⟨rfl, b0.out⟩
  · rw [if_neg h2] at hV
    have hV' := hid hV
    clear h hV
    go_enter Try.func7, Try.ntmps7
    go_wp2
    generalize w.alloc (.cells #[.bool leaf, .int .i64 r, .slice co cn cc] 24) = w0 at *
    go_loopw [3, 13] (fun a c W => ∃ (i k : Nat), i ≤ cn ∧ c = .int .i64 (i : Int) ∧ a = .int .i64 (k : Int) ∧ k ≤ 5000 ∧ lightL k (cs.drop i) = V ∧ Below w.heap.size w W) (fun _ c _ => cn - (intOf c).toNat)
    case atStart => exact ⟨0, 0, by omega, rfl, rfl, by omega, hV'.out.symm, b0.out⟩
    case round =>
      obtain ⟨i, k, hi, rfl, rfl, hk, he, hb⟩ := hrel
      have he' := hid he
      have hb' := hid hb
      clear he hb
      by_cases hik : i < cn
      · obtain ⟨b, off, rfl, hc⟩ := h'.out.at_ (by omega)
        have ha := (h'.out.ok_at hik).nB
        obtain ⟨x0, x1, x2, x3, x4⟩ := (hc i hik).keep hb'.out
        have hd := dropC cs i (by have := hl'.out; omega)
        generalize cs.getD i default = a at *
        rw [hd] at he'
        have hE := he'.out
        simp only [lightL] at hE
        unfold big at ha
        clear hd he' hc
        by_cases h5 : 5000 < k + a.n
        · rw [if_pos h5] at hE
          subst hE
          have h5' : (5000 : Int) < (k : Int) + (a.n : Int) := by omega
          go_wp2
          go_ret
          exact ⟨rfl, gt hb'.out (ext1 _)⟩
        · rw [if_neg h5] at hE
          have hE' := hid hE
          have h5' : (k : Int) + (a.n : Int) ≤ 5000 := by omega
          clear hE
          go_wp2
          exact ⟨⟨i + 1, k + a.n, by omega, by go_num, by simp, by omega, hE'.out, gt hb'.out (ext1 _)⟩, by simp [intOf]; omega⟩
      · obtain rfl : i = cn := by omega
        have hE := he'.out
        rw [List.drop_of_length_le (by have := hl'.out; omega)] at hE
        obtain rfl : V = true := hE.symm
        go_wp2
        go_ret
        exact ⟨rfl, hb'.out⟩

end Go.Proofs.Ytbpcekhfjkodcaa
