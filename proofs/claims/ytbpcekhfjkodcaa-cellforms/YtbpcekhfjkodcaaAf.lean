/- What slices.IndexFunc does with the closures of all and Find; what all and Good return; no statement of the seat is proved here. -/
import Derived.Test.YtbpcekhfjkodcaaAe
namespace Go.Proofs.Ytbpcekhfjkodcaa
open Go.RowKit

/-- The first place of which it is said; how many there are, if it is said of none. -/
def firstN (p : C → Bool) : List C → Nat
  | [] => 0
  | a :: r => if p a then 0 else firstN p r + 1
def ixN (p : C → Bool) (cs : List C) : Int := if firstN p cs < cs.length then (firstN p cs : Int) else -1
theorem firstN_le (p : C → Bool) (cs : List C) : firstN p cs ≤ cs.length := by
  induction cs with
  | nil => simp [firstN]
  | cons a r ih => simp only [firstN, List.length_cons]; split <;> omega
theorem first_any (p : C → Bool) (cs : List C) : decide (firstN p cs < cs.length) = cs.any p := by
  induction cs with
  | nil => rfl
  | cons a r ih =>
    simp only [firstN, List.length_cons, List.any_cons]
    by_cases h : p a = true
    · simp [h]
    · simp only [Bool.not_eq_true] at h
      simp only [h, Bool.false_or, ← ih]
      simp

set_option maxHeartbeats 1000000 in
theorem index_48 (p : C → Bool) (q : Nat) (co : Option Addr) (cn cc : Nat) (cs : List C) (w : World) (h : Cs w co cn cc cs) (hcn : cn ≤ 100000)
    (hp : ∀ W a, Below w.heap.size w W → Cok W a → Calls Try.prog 48 #[.agg #[.int .i64 (a).k, .int .i64 (a).c, .int .i64 (a).l, .slice (a).o (a).n (a).m, .int .i64 (a).x], .pointer (some ⟨q, 0, none⟩)] W fun e w' => e = .returned (.bool (p a)) ∧ Below W.heap.size W w') :
    Calls Try.prog 47 #[.slice co cn cc, .func (.func 48) #[] #[.pointer (some ⟨q, 0, none⟩)]] w fun e w' => e = .returned (.int .i64 (ixN p cs)) ∧ Below w.heap.size w w' := by
  have h' := hid h
  have hl' := hid h.len
  have hp' := hid hp
  obtain ⟨V, hV⟩ : ∃ V, V = ixN p cs := ⟨_, rfl⟩
  have hV' := hid hV
  rw [← hV]
  clear h hV hp
  go_enter Try.func47, Try.ntmps47
  go_wp2
  go_loopw [8] (fun c W => ∃ (i : Nat), i ≤ cn ∧ c = .int .i64 (i : Int) ∧ i + firstN p (cs.drop i) = firstN p cs ∧ Below w.heap.size w W) (fun c _ => cn - (intOf c).toNat)
  case atStart => exact ⟨0, by omega, rfl, by simp, Below.refl _ _⟩
  case round =>
    obtain ⟨i, hi, rfl, he, hb⟩ := hrel
    have he' := hid he
    have hb' := hid hb
    clear he hb
    by_cases hik : i < cn
    · obtain ⟨b, off, rfl, hc⟩ := h'.out.at_ (by omega)
      have ha := hid ((h'.out.keep hb'.out).ok_at hik)
      obtain ⟨x0, x1, x2, x3, x4⟩ := (hc i hik).keep hb'.out
      have hd := dropC cs i (by have := hl'.out; omega)
      generalize cs.getD i default = a at *
      rw [hd] at he'
      have ca := hid (hp'.out wr a hb'.out ha.out)
      have hE := he'.out
      simp only [firstN] at hE
      clear hd he' hc
      cases hpa : p a with
      | true =>
        rw [hpa] at ca hE
        simp only [if_true, Nat.add_zero] at hE
        have hVi : V = (i : Int) := by
          have h1 := hV'.out
          have h2 := hl'.out
          unfold ixN at h1
          rw [if_pos (by omega)] at h1
          omega
        clear hpa hE hV'
        subst hVi
        go_wp2_with (go_at_call 48; refine ca.out.mono ?_; rintro e w1 ⟨rfl, hb1⟩; have H1 := hid hb1; clear hb1)
        go_ret
        exact ⟨rfl, gt hb'.out H1.out⟩
      | false =>
        rw [hpa] at ca hE
        simp only [Bool.false_eq_true, if_false] at hE
        have hE' := hid hE
        clear hpa hE
        go_wp2_with (go_at_call 48; refine ca.out.mono ?_; rintro e w1 ⟨rfl, hb1⟩; have H1 := hid hb1; clear hb1)
        exact ⟨⟨i + 1, by omega, by go_num, by have := hE'.out; omega, gt hb'.out H1.out⟩, by simp [intOf]; omega⟩
    · obtain rfl : i = cn := by omega
      have hVi : V = -1 := by
        have h1 := hV'.out
        have h2 := hl'.out
        have h3 := he'.out
        rw [List.drop_of_length_le (by omega)] at h3
        simp only [firstN, Nat.add_zero] at h3
        unfold ixN at h1
        rw [if_neg (by omega)] at h1
        exact h1
      clear hV'
      subst hVi
      go_wp2
      go_ret
      exact ⟨rfl, hb'.out⟩

set_option maxHeartbeats 1000000 in
theorem index_66 (p : C → Bool) (q : Nat) (co : Option Addr) (cn cc : Nat) (cs : List C) (w : World) (h : Cs w co cn cc cs) (hcn : cn ≤ 100000)
    (hp : ∀ W a, Below w.heap.size w W → Cok W a → Calls Try.prog 66 #[.agg #[.int .i64 (a).k, .int .i64 (a).c, .int .i64 (a).l, .slice (a).o (a).n (a).m, .int .i64 (a).x], .pointer (some ⟨q, 0, none⟩)] W fun e w' => e = .returned (.bool (p a)) ∧ Below W.heap.size W w') :
    Calls Try.prog 47 #[.slice co cn cc, .func (.func 66) #[] #[.pointer (some ⟨q, 0, none⟩)]] w fun e w' => e = .returned (.int .i64 (ixN p cs)) ∧ Below w.heap.size w w' := by
  have h' := hid h
  have hl' := hid h.len
  have hp' := hid hp
  obtain ⟨V, hV⟩ : ∃ V, V = ixN p cs := ⟨_, rfl⟩
  have hV' := hid hV
  rw [← hV]
  clear h hV hp
  go_enter Try.func47, Try.ntmps47
  go_wp2
  go_loopw [8] (fun c W => ∃ (i : Nat), i ≤ cn ∧ c = .int .i64 (i : Int) ∧ i + firstN p (cs.drop i) = firstN p cs ∧ Below w.heap.size w W) (fun c _ => cn - (intOf c).toNat)
  case atStart => exact ⟨0, by omega, rfl, by simp, Below.refl _ _⟩
  case round =>
    obtain ⟨i, hi, rfl, he, hb⟩ := hrel
    have he' := hid he
    have hb' := hid hb
    clear he hb
    by_cases hik : i < cn
    · obtain ⟨b, off, rfl, hc⟩ := h'.out.at_ (by omega)
      have ha := hid ((h'.out.keep hb'.out).ok_at hik)
      obtain ⟨x0, x1, x2, x3, x4⟩ := (hc i hik).keep hb'.out
      have hd := dropC cs i (by have := hl'.out; omega)
      generalize cs.getD i default = a at *
      rw [hd] at he'
      have ca := hid (hp'.out wr a hb'.out ha.out)
      have hE := he'.out
      simp only [firstN] at hE
      clear hd he' hc
      cases hpa : p a with
      | true =>
        rw [hpa] at ca hE
        simp only [if_true, Nat.add_zero] at hE
        have hVi : V = (i : Int) := by
          have h1 := hV'.out
          have h2 := hl'.out
          unfold ixN at h1
          rw [if_pos (by omega)] at h1
          omega
        clear hpa hE hV'
        subst hVi
        go_wp2_with (go_at_call 66; refine ca.out.mono ?_; rintro e w1 ⟨rfl, hb1⟩; have H1 := hid hb1; clear hb1)
        go_ret
        exact ⟨rfl, gt hb'.out H1.out⟩
      | false =>
        rw [hpa] at ca hE
        simp only [Bool.false_eq_true, if_false] at hE
        have hE' := hid hE
        clear hpa hE
        go_wp2_with (go_at_call 66; refine ca.out.mono ?_; rintro e w1 ⟨rfl, hb1⟩; have H1 := hid hb1; clear hb1)
        exact ⟨⟨i + 1, by omega, by go_num, by have := hE'.out; omega, gt hb'.out H1.out⟩, by simp [intOf]; omega⟩
    · obtain rfl : i = cn := by omega
      have hVi : V = -1 := by
        have h1 := hV'.out
        have h2 := hl'.out
        have h3 := he'.out
        rw [List.drop_of_length_le (by omega)] at h3
        simp only [firstN, Nat.add_zero] at h3
        unfold ixN at h1
        rw [if_neg (by omega)] at h1
        exact h1
      clear hV'
      subst hVi
      go_wp2
      go_ret
      exact ⟨rfl, hb'.out⟩

/-- A box with a function in it. -/
theorem box1 (t : TypeId) (w : World) (v : Value) : (w.alloc (.cells #[v] t)).cell? ⟨w.heap.size, 0, none⟩ = some v := by
  have h := heap_alloc_new w (.cells #[v] t)
  unfold World.cell?
  rw [h]; rfl

set_option maxHeartbeats 1000000 in
theorem contains_any (p : C → Bool) (q : Nat) (co : Option Addr) (cn cc : Nat) (cs : List C) (w : World) (h : Cs w co cn cc cs) (hcn : cn ≤ 100000)
    (hp : ∀ W a, Below w.heap.size w W → Cok W a → Calls Try.prog 66 #[.agg #[.int .i64 (a).k, .int .i64 (a).c, .int .i64 (a).l, .slice (a).o (a).n (a).m, .int .i64 (a).x], .pointer (some ⟨q, 0, none⟩)] W fun e w' => e = .returned (.bool (p a)) ∧ Below W.heap.size W w') :
    Calls Try.prog 65 #[.slice co cn cc, .func (.func 66) #[] #[.pointer (some ⟨q, 0, none⟩)]] w fun e w' => e = .returned (.bool (cs.any p)) ∧ Below w.heap.size w w' := by
  have c := hid (index_66 p q co cn cc cs w h hcn hp)
  have hx : (0 ≤ ixN p cs ∧ cs.any p = true) ∨ (ixN p cs < 0 ∧ cs.any p = false) := by
    rw [← first_any]
    unfold ixN
    split <;> rename_i h1
    · left; exact ⟨by omega, by simpa using h1⟩
    · right; exact ⟨by omega, by simpa using h1⟩
  generalize ixN p cs = I at *
  generalize cs.any p = V at *
  clear h hp
  rcases hx with ⟨h1, rfl⟩ | ⟨h1, rfl⟩
  · go_enter Try.func65, Try.ntmps65
    go_wp2_with (go_at_call 47; refine c.out.mono ?_; rintro e w1 ⟨rfl, hb1⟩; have H1 := hid hb1; clear hb1)
    go_ret
    exact ⟨rfl, H1.out⟩
  · have h2 : ¬ 0 ≤ I := by omega
    go_enter Try.func65, Try.ntmps65
    go_wp2_with (go_at_call 47; refine c.out.mono ?_; rintro e w1 ⟨rfl, hb1⟩; have H1 := hid hb1; clear hb1)
    go_ret
    exact ⟨by simp <;> omega, H1.out⟩

set_option maxHeartbeats 400000 in
theorem all1_39 (q : Nat) (a : C) (W : World) (hn : a.b.length = a.n) (hq : W.cell? ⟨q, 0, none⟩ = some (.func (.func 39) #[] #[])) :
    Calls Try.prog 66 #[.agg #[.int .i64 (a).k, .int .i64 (a).c, .int .i64 (a).l, .slice (a).o (a).n (a).m, .int .i64 (a).x], .pointer (some ⟨q, 0, none⟩)] W fun e w' => e = .returned (.bool (!leafB a)) ∧ Below W.heap.size W w' := by
  have c := hid (fun W => inleaf_any a W hn)
  have hlt := lt_cell hq
  simp only at hlt
  generalize leafB a = V at *
  clear hn
  go_enter Try.func66, Try.ntmps66
  go_wp2_with (go_at_call 39; refine (c.out _).mono ?_; rintro e w1 ⟨rfl, hb1⟩; have H1 := hid hb1; clear hb1)
  go_ret
  exact ⟨rfl, gt (ext1 _) H1.out⟩

set_option maxHeartbeats 400000 in
theorem all_39 (leaf : Bool) (r : Int) (co : Option Addr) (cn cc : Nat) (cs : List C) (w : World) (h : Cs w co cn cc cs) (hcn : cn ≤ 100000) :
    Calls Try.prog 38 #[.agg #[.bool leaf, .int .i64 r, .slice co cn cc], .func (.func 39) #[] #[]] w fun e w' => e = .returned (.bool (cs.all leafB)) ∧ Below w.heap.size w w' := by
  have B0 : Hid (Below w.heap.size w ((w.alloc (.cells #[.bool leaf, .int .i64 r, .slice co cn cc] 24)).alloc (.cells #[.func (.func 39) #[] #[]] 73))) := hid (gt (ext1 _) (ext1 _))
  have x0 := box1 73 (w.alloc (.cells #[.bool leaf, .int .i64 r, .slice co cn cc] 24)) (.func (.func 39) #[] #[])
  have c := hid (contains_any (fun a => !leafB a) (w.alloc (.cells #[.bool leaf, .int .i64 r, .slice co cn cc] 24)).heap.size co cn cc cs _ (h.keep B0.out) hcn (fun W a hb ha => all1_39 _ a W ha.rd.1 (keep_old hb x0)))
  have e1 : cs.all leafB = !(cs.any fun a => !leafB a) := List.all_eq_not_any_not
  rw [e1]
  generalize (cs.any fun a => !leafB a) = V at *
  clear h e1 x0
  rw [show (w.alloc (.cells #[.bool leaf, .int .i64 r, .slice co cn cc] 24)).heap.size = w.heap.size + 1 by simp] at c
  go_enter Try.func38, Try.ntmps38
  go_wp2_with (go_at_call 65; refine c.out.mono ?_; rintro e w1 ⟨rfl, hb1⟩; have H1 := hid hb1; clear hb1)
  go_ret
  exact ⟨rfl, gt B0.out H1.out⟩

set_option maxHeartbeats 400000 in
theorem all1_41 (q : Nat) (a : C) (W : World) (hn : a.b.length = a.n) (hq : W.cell? ⟨q, 0, none⟩ = some (.func (.func 41) #[] #[])) :
    Calls Try.prog 66 #[.agg #[.int .i64 (a).k, .int .i64 (a).c, .int .i64 (a).l, .slice (a).o (a).n (a).m, .int .i64 (a).x], .pointer (some ⟨q, 0, none⟩)] W fun e w' => e = .returned (.bool (!aboveB a)) ∧ Below W.heap.size W w' := by
  have c := hid (fun W => above_any a W hn)
  have hlt := lt_cell hq
  simp only at hlt
  generalize aboveB a = V at *
  clear hn
  go_enter Try.func66, Try.ntmps66
  go_wp2_with (go_at_call 41; refine (c.out _).mono ?_; rintro e w1 ⟨rfl, hb1⟩; have H1 := hid hb1; clear hb1)
  go_ret
  exact ⟨rfl, gt (ext1 _) H1.out⟩

set_option maxHeartbeats 400000 in
theorem all_41 (leaf : Bool) (r : Int) (co : Option Addr) (cn cc : Nat) (cs : List C) (w : World) (h : Cs w co cn cc cs) (hcn : cn ≤ 100000) :
    Calls Try.prog 38 #[.agg #[.bool leaf, .int .i64 r, .slice co cn cc], .func (.func 41) #[] #[]] w fun e w' => e = .returned (.bool (cs.all aboveB)) ∧ Below w.heap.size w w' := by
  have B0 : Hid (Below w.heap.size w ((w.alloc (.cells #[.bool leaf, .int .i64 r, .slice co cn cc] 24)).alloc (.cells #[.func (.func 41) #[] #[]] 73))) := hid (gt (ext1 _) (ext1 _))
  have x0 := box1 73 (w.alloc (.cells #[.bool leaf, .int .i64 r, .slice co cn cc] 24)) (.func (.func 41) #[] #[])
  have c := hid (contains_any (fun a => !aboveB a) (w.alloc (.cells #[.bool leaf, .int .i64 r, .slice co cn cc] 24)).heap.size co cn cc cs _ (h.keep B0.out) hcn (fun W a hb ha => all1_41 _ a W ha.rd.1 (keep_old hb x0)))
  have e1 : cs.all aboveB = !(cs.any fun a => !aboveB a) := List.all_eq_not_any_not
  rw [e1]
  generalize (cs.any fun a => !aboveB a) = V at *
  clear h e1 x0
  rw [show (w.alloc (.cells #[.bool leaf, .int .i64 r, .slice co cn cc] 24)).heap.size = w.heap.size + 1 by simp] at c
  go_enter Try.func38, Try.ntmps38
  go_wp2_with (go_at_call 65; refine c.out.mono ?_; rintro e w1 ⟨rfl, hb1⟩; have H1 := hid hb1; clear hb1)
  go_ret
  exact ⟨rfl, gt B0.out H1.out⟩

end Go.Proofs.Ytbpcekhfjkodcaa
