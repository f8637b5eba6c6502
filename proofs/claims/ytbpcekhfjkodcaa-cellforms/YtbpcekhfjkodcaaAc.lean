/- What Size and Fits return; no statement of the seat is proved here. -/
import Derived.Test.YtbpcekhfjkodcaaAb
namespace Go.Proofs.Ytbpcekhfjkodcaa
open Go.RowKit

/-- All cells' bytes. -/
def allN (leaf : Bool) (cs : List C) : List Nat := cs.flatMap (oneN leaf)
def sumN (leaf : Bool) : List C → Nat
  | [] => 0
  | a :: r => (oneN leaf a).length + sumN leaf r
theorem sumN_all (leaf : Bool) (cs : List C) : (allN leaf cs).length = sumN leaf cs := by
  induction cs with
  | nil => rfl
  | cons a r ih => simp [allN, sumN] at ih ⊢; omega
def sizeN (leaf : Bool) (cs : List C) : Nat := 7 + sumN leaf cs

theorem oneN_le (leaf : Bool) (a : C) : (oneN leaf a).length ≤ 22 + a.b.length := by
  have h1 := szN_le (zigN a.k)
  have h2 := szN_le (uN a.l)
  rw [oneN_length]
  cases leaf <;> cases spillB a <;> simp <;> omega

/-- So few bytes that sums of them are sums. -/
def Few (cs : List C) : Prop := cs.length ≤ 100000 ∧ ∀ a ∈ cs, a.n ≤ 100000

theorem sum_le {w : World} (leaf : Bool) (cs : List C) (h : ∀ a ∈ cs, Cok w a ∧ a.n ≤ 100000) : sumN leaf cs ≤ cs.length * 100022 := by
  induction cs with
  | nil => simp [sumN]
  | cons a r ih =>
    have h1 := h a (by simp)
    have h2 := ih (fun x hx => h x (by simp [hx]))
    have h3 := oneN_le leaf a
    have h4 := h1.1.rd.1
    simp [sumN]
    omega

set_option maxHeartbeats 1000000 in
theorem size_any9 (leaf : Bool) (r : Int) (co : Option Addr) (cn cc : Nat) (cs : List C) (w : World) (h : Cs w co cn cc cs) (hf : Few cs) :
    Calls Try.prog 14 #[.agg #[.bool leaf, .int .i64 r, .slice co cn cc]] w fun e w' => e = .returned (.int .i64 (sizeN leaf cs : Nat)) ∧ Below w.heap.size w w' := by
  have hB : sizeN leaf cs ≤ 100000000000 := by
    have := sum_le leaf cs (fun a ha => ⟨h.ok a ha, hf.2 a ha⟩)
    have := hf.1
    unfold sizeN
    omega
  have hlen := h.len
  have hcn : cn ≤ 100000 := by have := hf.1; omega
  have h' := hid h
  have hl' := hid hlen
  obtain ⟨T, hT⟩ : ∃ T, T = sizeN leaf cs := ⟨_, rfl⟩
  have hT' := hid hT
  rw [← hT] at hB ⊢
  clear h hf hT hlen
  have q0 := hid (NB.new 24 w leaf r co cn cc)
  have b0 : Hid (Below w.heap.size w (w.alloc (.cells #[.bool leaf, .int .i64 r, .slice co cn cc] 24))) := hid (ext1 _)
  go_enter Try.func14, Try.ntmps14
  go_wp2
  generalize w.alloc (.cells #[.bool leaf, .int .i64 r, .slice co cn cc] 24) = w0 at *
  go_loopw [3, 9] (fun a c W => ∃ (i acc : Nat), i ≤ cn ∧ c = .int .i64 i ∧ a = .int .i64 acc ∧ acc + sumN leaf (cs.drop i) = T ∧ NB 24 W w.heap.size leaf r co cn cc ∧ Below w.heap.size w W) (fun _ c _ => cn - (intOf c).toNat)
  case atStart => exact ⟨0, 7, by omega, rfl, rfl, by rw [hT'.out]; rfl, q0.out, b0.out⟩
  case round =>
    obtain ⟨i, acc, hi, rfl, rfl, he, hq, hb⟩ := hrel
    have he' := hid he
    have hq' := hid hq
    have hb' := hid hb
    obtain ⟨u0, u1, u2⟩ := hq.cells
    have hlt := hq.lt
    clear he hq hb
    by_cases hik : i < cn
    · obtain ⟨b, off, rfl, hc⟩ := h'.out.at_ (by omega)
      have ha := hid ((h'.out.keep hb'.out).ok_at hik)
      obtain ⟨x0, x1, x2, x3, x4⟩ := (hc i hik).keep hb'.out
      have hd := dropC cs i (by have := hl'.out; omega)
      generalize cs.getD i default = a at *
      rw [hd] at he'
      have ca := hid (fun W' => csize_any leaf a W')
      have hE := he'.out
      simp only [sumN] at hE
      have hE' := hid hE
      have hbound : acc + (oneN leaf a).length ≤ 100000000000 := by omega
      generalize (oneN leaf a).length = L at *
      clear hd he' hE hc
      go_wp2_with (go_at_call 44; refine (ca.out _ (ha.out.keep (ext1 _))).mono ?_; rintro e w1 ⟨rfl, hb1⟩; have H1 := hid hb1; clear hb1)
      refine ⟨⟨i + 1, acc + L, by omega, by go_num, by simp, by have := hE'.out; omega, ?_, ?_⟩, by simp [intOf]; omega⟩
      · exact (hq'.out.keep (ext1 _)).keep H1.out
      · exact gt hb'.out (gt (ext1 _) H1.out)
    · obtain rfl : i = cn := by omega
      go_wp2
      go_ret
      have := he'.out
      rw [List.drop_of_length_le (by have := hl'.out; omega)] at this
      simp only [sumN, Nat.add_zero] at this
      subst this
      exact ⟨rfl, hb'.out⟩

set_option maxHeartbeats 400000 in
theorem fits_any (leaf : Bool) (r : Int) (co : Option Addr) (cn cc : Nat) (cs : List C) (w : World) (h : Cs w co cn cc cs) (hf : Few cs) :
    Calls Try.prog 16 #[.agg #[.bool leaf, .int .i64 r, .slice co cn cc]] w fun e w' => e = .returned (.bool (decide (sizeN leaf cs ≤ 512))) ∧ Below w.heap.size w w' := by
  have c := hid (size_any9 leaf r co cn cc cs _ (h.keep (ext1 (.cells #[.bool leaf, .int .i64 r, .slice co cn cc] 24))) hf)
  generalize sizeN leaf cs = T at *
  clear h hf
  by_cases hT : (T : Int) ≤ 512
  · rw [show decide (T ≤ 512) = true by simp; omega]
    go_enter Try.func16, Try.ntmps16
    go_wp2_with (go_at_call 14; refine c.out.mono ?_; rintro e w1 ⟨rfl, hb1⟩; have H1 := hid hb1; clear hb1)
    go_ret
    exact ⟨rfl, gt (ext1 _) H1.out⟩
  · rw [show decide (T ≤ 512) = false by simp; omega]
    go_enter Try.func16, Try.ntmps16
    go_wp2_with (go_at_call 14; refine c.out.mono ?_; rintro e w1 ⟨rfl, hb1⟩; have H1 := hid hb1; clear hb1)
    go_ret
    exact ⟨by simp <;> omega, gt (ext1 _) H1.out⟩

end Go.Proofs.Ytbpcekhfjkodcaa
