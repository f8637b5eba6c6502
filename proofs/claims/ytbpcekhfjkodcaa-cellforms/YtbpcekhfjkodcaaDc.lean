/- What the document's own one and Size return; no statement of the seat is proved here. -/
import Derived.Test.YtbpcekhfjkodcaaBe
import Derived.Test.YtbpcekhfjkodcaaOBs
import Derived.Test.YtbpcekhfjkodcaaKk
namespace Go.Proofs.Ytbpcekhfjkodcaa
open Go.RowKit

/-- Bytes that are told, in a slice of the call's own. -/
def Tells (B : Nat) (xs : List Nat) (e : Ending) (w' : World) : Prop := ∃ ao n cap, e = .returned (.slice ao n cap) ∧ w'.ownsRow B 5 1 (.slice ao n cap) n (bs xs) ∧ Rd w' ao n cap xs
theorem tell_of {w w' : World} {n : Nat} {xs : List Nat} {e : Ending} (h : ∃ r, e = .returned r ∧ w'.ownsRow w.heap.size 5 1 r n (bs xs) ∧ Below w.heap.size w w') : Tells w.heap.size xs e w' ∧ Below w.heap.size w w' := by
  obtain ⟨r, he, ho, hb⟩ := h
  obtain ⟨ao, cap, rfl, hr⟩ := rd_owned ho
  exact ⟨⟨ao, n, cap, he, ho, hr⟩, hb⟩
theorem tput (ao : Option Addr) (n cap : Nat) (xs : List Nat) (v : Nat) (s : Int) (k : Nat) (w : World) (h : Rd w ao n cap xs) (hn : n ≤ 1000000) (hs : s = (k : Int)) (hk : k ≤ 8) :
    Calls Try.prog 46 #[.slice ao n cap, .int .u64 v, .int .i64 s, .bool false] w fun e w' => Tells w.heap.size (xs ++ putN v k false) e w' ∧ Below w.heap.size w w' :=
  (rput_any ao n cap xs v s k false w h (by omega) (by omega)).mono fun e w' hh => tell_of hh
theorem tvar (ao : Option Addr) (n cap : Nat) (xs : List Nat) (v : Nat) (w : World) (h : Rd w ao n cap xs) (hv : v < 18446744073709551616) (hn : n ≤ 1000000) :
    Calls Try.prog 69 #[.slice ao n cap, .int .u64 v] w fun e w' => Tells w.heap.size (xs ++ varN v) e w' ∧ Below w.heap.size w w' :=
  (rvar_any ao n cap xs v w h hv (by omega)).mono fun e w' hh => tell_of hh
theorem own_low {w : World} {B B' n : Nat} {v : Value} {xs : List Value} (h : w.ownsRow B' 5 1 v n xs) (hB : B ≤ B') : w.ownsRow B 5 1 v n xs := own_mono h hB

set_option maxHeartbeats 2000000 in
theorem one_above (a : C) (w : World) (h : Cok w a) : Calls Try.prog 45 #[.agg #[.int .i64 (a).k, .int .i64 (a).c, .int .i64 (a).l, .slice (a).o (a).n (a).m, .int .i64 (a).x], .bool false] w fun e w' => Tells w.heap.size (oneN false a) e w' ∧ Below w.heap.size w w' := by
  have g1 : S5 w.heap.size a (w.alloc (.cells #[.int .i64 a.k, .int .i64 a.c, .int .i64 a.l, .slice a.o a.n a.m, .int .i64 a.x] 69)).drew := (S5.new 69 w a).keep (Below.refl _ _).drew
  have B0 : Hid (Below w.heap.size w (w.alloc (.cells #[.int .i64 a.k, .int .i64 a.c, .int .i64 a.l, .slice a.o a.n a.m, .int .i64 a.x] 69)).drew) := hid (ext1 _).drew
  have cz := hid (rzig_any a.k h.kI)
  have hz := hid (zigN_lt a.k h.kI)
  have hu := uN_wrap a.c
  have cp := hid (fun W => tput none 0 0 [] (uN a.c) 4 4 W (Rd.nil W) (by omega) rfl (by omega))
  have e1 : oneN false a = putN (uN a.c) 4 false ++ varN (zigN a.k) := rfl
  rw [e1]
  simp only [List.nil_append] at cp
  generalize zigN a.k = z at *
  generalize uN a.c = u at *
  have hpl := hid (putN_length u 4 false)
  generalize putN u 4 false = P4 at *
  clear h e1
  go_enter Try.func45, Try.ntmps45
  go_upto_region 2 with fail
  refine wp_region_K (S := S5 w.heap.size a) (fun _ => false) (by kernel_rfl) (g1) (fun hHeld => ?_)
  refine gkp 0 ?_
  refine gkt 1 ?_ (h := by intro W hSw; obtain ⟨y0, y1, y2, y3, y4⟩ := hSw; go_simp; first | done | with_reducible rfl)
  refine gkp 2 ?_ (v := .int .u64 (u : Int)) (h := by intro W hSw; go_simp <;> first | done | simp)
  refine gkp 4 ?_
  refine gkt 5 ?_ (h := by intro W hSw; obtain ⟨y0, y1, y2, y3, y4⟩ := hSw; go_simp; first | done | with_reducible rfl)
  refine gk1 3 (fun K hK => ?_)
  go_simp
  go_at_call 46; refine (cp.out _).mono ?_; rintro e w1 ⟨⟨ao1, n1, c1, rfl, ho1, hr1⟩, hb⟩; have hR : S5 w.heap.size a w1 := hHeld.keep hb; have R1 := hid hr1; have B1 := hid (gt B0.out hb); clear ho1 hr1 hb
  refine hK.out _ _ hR (fun hHeld => ?_)
  clear hK K
  (try simp only [Act.put, sA, sZ, sS])
  refine gk1 6 (fun K hK => ?_)
  go_simp
  go_at_call 25; refine (cz.out _).mono ?_; rintro e w2 ⟨rfl, hw⟩; obtain rfl := hw.symm; have hR := hHeld; have B2 := B1
  refine hK.out _ _ hR (fun hHeld => ?_)
  clear hK K
  (try simp only [Act.put, sA, sZ, sS])
  refine gk1 7 (fun K hK => ?_)
  go_simp
  go_at_call 69; refine (tvar _ _ _ _ z _ R1.out hz.out (by have h1 := R1.out.1; have h2 := hpl.out; omega)).mono ?_; rintro e w3 ⟨⟨ao3, n3, c3, rfl, ho3, hr3⟩, hb⟩; have hR : S5 w.heap.size a w3 := hHeld.keep hb; have O3 := hid ho3; have R3 := hid hr3; have B3 := hid (gt B2.out hb); clear ho3 hr3 hb
  refine hK.out _ _ hR (fun hHeld => ?_)
  clear hK K
  (try simp only [Act.put, sA, sZ, sS])
  refine gkp 8 ?_
  refine wpAnyK_done (by kernel_rfl) ?_ _
  go_wp2
  go_ret
  exact ⟨⟨_, _, _, rfl, own_low O3.out (by have := B2.out.size; omega), R3.out⟩, B3.out⟩

set_option maxHeartbeats 4000000 in
theorem one_leaf (a : C) (w : World) (h : Cok w a) (hn : a.n ≤ 100000) : Calls Try.prog 45 #[.agg #[.int .i64 (a).k, .int .i64 (a).c, .int .i64 (a).l, .slice (a).o (a).n (a).m, .int .i64 (a).x], .bool true] w fun e w' => Tells w.heap.size (oneN true a) e w' ∧ Below w.heap.size w w' := by
  have g1 : S5 w.heap.size a (w.alloc (.cells #[.int .i64 a.k, .int .i64 a.c, .int .i64 a.l, .slice a.o a.n a.m, .int .i64 a.x] 69)).drew := (S5.new 69 w a).keep (Below.refl _ _).drew
  have B0 : Hid (Below w.heap.size w (w.alloc (.cells #[.int .i64 a.k, .int .i64 a.c, .int .i64 a.l, .slice a.o a.n a.m, .int .i64 a.x] 69)).drew) := hid (ext1 _).drew
  have cz := hid (rzig_any a.k h.kI)
  have hz := hid (zigN_lt a.k h.kI)
  have hu := uN_wrap a.l
  have hux := uN_wrap a.x
  have hul := hid (uN_lt a.l)
  have cv := hid (fun W => tvar none 0 0 [] (zigN a.k) W (Rd.nil W) (zigN_lt a.k h.kI) (by omega))
  simp only [List.nil_append] at cv
  have e1 : oneN true a = varN (zigN a.k) ++ varN (uN a.l) ++ a.b ++ (if spillB a then putN (uN a.x) 4 false else []) := rfl
  rw [e1]
  have l1 := hid (varN_length (zigN a.k))
  have l2 := hid (varN_length (uN a.l))
  have s1 := hid (szN_le (zigN a.k))
  have s2 := hid (szN_le (uN a.l))
  generalize szN (zigN a.k) = z1 at *
  generalize szN (uN a.l) = z2 at *
  generalize zigN a.k = z at *
  have h' := hid h.rd
  have hbl := h.rd.1
  have hbl' := hid hbl
  obtain ⟨SP, hSP⟩ : ∃ SP, SP = spillB a := ⟨_, rfl⟩
  rw [← hSP]
  unfold spillB at hSP
  rw [hbl] at hSP
  obtain ⟨X, hX⟩ : ∃ X : List Nat, X = if SP = true then putN (uN a.x) 4 false else [] := ⟨_, rfl⟩
  rw [← hX]
  have hX' := hid hX
  clear h e1 hbl hX
  go_enter Try.func45, Try.ntmps45
  go_upto_region 3 with fail
  refine wp_region_K (S := S5 w.heap.size a) (fun _ => false) (by kernel_rfl) (g1) (fun hHeld => ?_)
  refine gkp 0 ?_
  refine gkt 1 ?_ (h := by intro W hSw; obtain ⟨y0, y1, y2, y3, y4⟩ := hSw; go_simp; first | done | with_reducible rfl)
  refine gkp 4 ?_
  refine gkt 5 ?_ (h := by intro W hSw; obtain ⟨y0, y1, y2, y3, y4⟩ := hSw; go_simp; first | done | with_reducible rfl)
  refine gkp 6 ?_ (v := .int .u64 ((uN a.l : Nat) : Int)) (h := by intro W hSw; go_simp <;> first | done | simp)
  refine gk1 2 (fun K hK => ?_)
  go_simp
  go_at_call 25; refine (cz.out _).mono ?_; rintro e w1 ⟨rfl, hw⟩; obtain rfl := hw.symm; have hR := hHeld
  refine hK.out _ _ hR (fun hHeld => ?_)
  clear hK K
  (try simp only [Act.put, sA, sZ, sS])
  refine gk1 3 (fun K hK => ?_)
  go_simp
  go_at_call 69; refine (cv.out _).mono ?_; rintro e w2 ⟨⟨ao2, n2, c2, rfl, ho2, hr2⟩, hb⟩; have hR : S5 w.heap.size a w2 := hHeld.keep hb; have R2 := hid hr2; have B2 := hid (gt B0.out hb); have hb2s := hid (show w.heap.size + 1 ≤ w2.heap.size from (by have h1 := hb.size; simp at h1; omega)); clear ho2 hr2 hb
  refine hK.out _ _ hR (fun hHeld => ?_)
  clear hK K
  (try simp only [Act.put, sA, sZ, sS])
  refine gk1 7 (fun K hK => ?_)
  go_simp
  go_at_call 69; refine (tvar _ _ _ _ (uN a.l) _ R2.out hul.out (by have h1 := R2.out.1; have h2 := l1.out; have h3 := s1.out; omega)).mono ?_; rintro e w3 ⟨⟨ao3, n3, c3, rfl, ho3, hr3⟩, hb⟩; have hR : S5 w.heap.size a w3 := hHeld.keep hb; have O3 := hid (own_low (B := w.heap.size + 1) ho3 (by have h1 := hb2s.out; omega)); have hb3s := hid hb.size; have R3 := hid hr3; have B3 := hid (gt B2.out hb); clear ho3 hr3 hb
  refine hK.out _ _ hR (fun hHeld => ?_)
  clear hK K
  (try simp only [Act.put, sA, sZ, sS])
  refine gkp 8 ?_
  refine wpAnyK_done (by kernel_rfl) ?_ _
  obtain ⟨y0, y1, y2, y3, y4⟩ := hHeld
  by_cases hs : (a.n : Int) < a.l
  · obtain rfl : SP = true := by rw [hSP]; simpa using hs
    simp only [if_true] at hX'
    clear hSP
    go_wp2_with (first
      | (at_builtin; refine wpList_append_rd rfl (.tmp 24) (.tmp 26) rfl (w.heap.size + 1) _ n3 (varN z ++ varN (uN a.l)) rfl O3.out a.o a.n a.m a.b rfl (h'.out.keep B3.out) (by have h1 := R3.out.1; have h2 := l1.out; have h3 := l2.out; have h4 := s1.out; have h5 := s2.out; simp at h1; omega) (by have h1 := hb2s.out; have h2 := hb3s.out; omega) ?_; intro v5 w5 ho5 hb5; obtain ⟨ao5, c5, hv5, hr5⟩ := rd_owned ho5; subst hv5; have O5 := hid ho5; have R5 := hid hr5; have B5 := hid (show Below w.heap.size w w5 from B3.out.trans (hb5.mono (by omega))); have x2 := keep_cell hb5 y2 (by simp); have x3 := keep_cell hb5 y3 (by simp); have x4 := keep_cell hb5 y4 (by simp); clear y0 y1 y2 y3 y4 ho5 hb5 hr5)
      | (go_at_call 46; refine (tput _ _ _ _ (uN a.x) 4 4 _ R5.out (by have h1 := R3.out.1; have h2 := l1.out; have h3 := l2.out; have h4 := s1.out; have h5 := s2.out; simp at h1; omega) rfl (by omega)).mono ?_; rintro e w6 ⟨⟨ao6, n6, c6, rfl, ho6, hr6⟩, hb6⟩; have O6 := hid ho6; have R6 := hid hr6; have B6 := hid (gt B5.out hb6); clear ho6 hr6 hb6))
    go_ret
    rw [hX'.out]
    exact ⟨⟨_, _, _, rfl, own_low O6.out B5.out.size, R6.out⟩, B6.out⟩
  · obtain rfl : SP = false := by rw [hSP]; simpa using hs
    simp only [Bool.false_eq_true, if_false] at hX'
    clear hSP
    go_wp2_with (at_builtin; refine wpList_append_rd rfl (.tmp 24) (.tmp 26) rfl (w.heap.size + 1) _ n3 (varN z ++ varN (uN a.l)) rfl O3.out a.o a.n a.m a.b rfl (h'.out.keep B3.out) (by have h1 := R3.out.1; have h2 := l1.out; have h3 := l2.out; have h4 := s1.out; have h5 := s2.out; simp at h1; omega) (by have h1 := hb2s.out; have h2 := hb3s.out; omega) ?_; intro v5 w5 ho5 hb5; obtain ⟨ao5, c5, hv5, hr5⟩ := rd_owned ho5; subst hv5; have O5 := hid ho5; have R5 := hid hr5; have B5 := hid (show Below w.heap.size w w5 from B3.out.trans (hb5.mono (by omega))); have x2 := keep_cell hb5 y2 (by simp); have x3 := keep_cell hb5 y3 (by simp); have x4 := keep_cell hb5 y4 (by simp); clear y0 y1 y2 y3 y4 ho5 hb5 hr5)
    go_ret
    rw [hX'.out, List.append_nil]
    have k5 := R5.out
    have o5 := O5.out
    (try rw [List.append_assoc] at k5 o5)
    (try rw [List.append_assoc])
    exact ⟨⟨_, _, _, rfl, own_low o5 (by omega), k5⟩, B5.out⟩

theorem one_any (leaf : Bool) (a : C) (w : World) (h : Cok w a) (hn : a.n ≤ 100000) : Calls Try.prog 45 #[.agg #[.int .i64 (a).k, .int .i64 (a).c, .int .i64 (a).l, .slice (a).o (a).n (a).m, .int .i64 (a).x], .bool leaf] w fun e w' => Tells w.heap.size (oneN leaf a) e w' ∧ Below w.heap.size w w' := by
  cases leaf
  · exact one_above a w h
  · exact one_leaf a w h hn

set_option maxHeartbeats 1000000 in
theorem rsize_any9 (leaf : Bool) (r : Int) (co : Option Addr) (cn cc : Nat) (cs : List C) (w : World) (h : Cs w co cn cc cs) (hf : Few cs) :
    Calls Try.prog 15 #[.agg #[.bool leaf, .int .i64 r, .slice co cn cc]] w fun e w' => e = .returned (.int .i64 (sizeN leaf cs : Nat)) ∧ Below w.heap.size w w' := by
  have hB : sizeN leaf cs ≤ 100000000000 := by
    have := sum_le leaf cs (fun a ha => ⟨h.ok a ha, hf.2 a ha⟩)
    have := hf.1
    unfold sizeN
    omega
  have hlen := h.len
  have hcn : cn ≤ 100000 := by have := hf.1; omega
  have h' := hid h
  have hl' := hid hlen
  have hf' := hid hf
  obtain ⟨T, hT⟩ : ∃ T, T = sizeN leaf cs := ⟨_, rfl⟩
  have hT' := hid hT
  rw [← hT] at hB ⊢
  clear h hf hT hlen
  have q0 := hid (NB.new 33 w leaf r co cn cc)
  have b0 : Hid (Below w.heap.size w (w.alloc (.cells #[.bool leaf, .int .i64 r, .slice co cn cc] 33))) := hid (ext1 _)
  go_enter Try.func15, Try.ntmps15
  go_wp2
  generalize w.alloc (.cells #[.bool leaf, .int .i64 r, .slice co cn cc] 33) = w0 at *
  go_loopw [3, 9] (fun a c W => ∃ (i acc : Nat), i ≤ cn ∧ c = .int .i64 i ∧ a = .int .i64 acc ∧ acc + sumN leaf (cs.drop i) = T ∧ NB 33 W w.heap.size leaf r co cn cc ∧ Below w.heap.size w W) (fun _ c _ => cn - (intOf c).toNat)
  case atStart => exact ⟨0, 7, by omega, rfl, rfl, by rw [hT'.out]; rfl, q0.out, b0.out⟩
  case round =>
    obtain ⟨i, acc, hi, rfl, rfl, he, hq, hb⟩ := hrel
    have he' := hid he
    have hq' := hid hq
    have hb' := hid hb
    obtain ⟨u0, u1, u2⟩ := hq.cells
    have hlt := hq.lt
    clear he hq hb
    by_cases hik : i < cn
    · obtain ⟨b, off, rfl, hc⟩ := h'.out.at_ (by omega)
      have ha := hid ((h'.out.keep hb'.out).ok_at hik)
      have hna : Hid ((cs.getD i default).n ≤ 100000) := hid (hf'.out.2 _ (by have hl := hl'.out; simp [List.getD, List.getElem?_eq_getElem (show i < cs.length by omega)]))
      obtain ⟨x0, x1, x2, x3, x4⟩ := (hc i hik).keep hb'.out
      have hd := dropC cs i (by have := hl'.out; omega)
      generalize cs.getD i default = a at *
      rw [hd] at he'
      have ca := hid (fun W' hc => one_any leaf a W' hc hna.out)
      have hE := he'.out
      simp only [sumN] at hE
      have hE' := hid hE
      have hbound : acc + (oneN leaf a).length ≤ 100000000000 := by omega
      obtain ⟨L, hL⟩ : ∃ L, L = (oneN leaf a).length := ⟨_, rfl⟩
      rw [← hL] at hbound
      replace hL := hid hL
      clear hd he' hE hc
      go_wp2_with (go_at_call 45; refine (ca.out _ (ha.out.keep (ext1 _))).mono ?_; rintro e w1 ⟨⟨ao1, n1, c1, rfl, _, hr1⟩, hb1⟩; have H1 := hid hb1; have hn1 := hr1.1; rw [← hL.out] at hn1; subst hn1; clear hb1 hr1)
      refine ⟨⟨i + 1, acc + L, by omega, by go_num, by simp, by have h1 := hE'.out; have h2 := hL.out; omega, ?_, ?_⟩, by simp [intOf]; omega⟩
      · exact (hq'.out.keep (ext1 _)).keep H1.out
      · exact gt hb'.out (gt (ext1 _) H1.out)
    · obtain rfl : i = cn := by omega
      go_wp2
      go_ret
      have := he'.out
      rw [List.drop_of_length_le (by have := hl'.out; omega)] at this
      simp only [sumN, Nat.add_zero] at this
      subst this
      exact ⟨rfl, hb'.out⟩

end Go.Proofs.Ytbpcekhfjkodcaa
