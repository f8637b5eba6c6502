/- The law CellForms, walked; no statement of the seat is proved here. -/
import Derived.Test.YtbpcekhfjkodcaaDg
import Derived.Test.YtbpcekhfjkodcaaCh
import Derived.Test.YtbpcekhfjkodcaaBe
namespace Go.Proofs.Ytbpcekhfjkodcaa
open Go.RowKit

/-- What both Parses tell of bytes: a leaf or not, right, error, cells. -/
def Told (f n : Nat) (xs : List Nat) (L : Bool) (R E : Int) (M : Nat) (Z : List C) : Prop :=
  ∀ ao cap w, Rd w ao n cap xs → Calls Try.prog f #[.slice ao n cap] w fun e w' => ∃ co cc cs, e = .returned (.tuple #[.agg #[.bool L, .int .i64 R, .slice co M cc], .int .i64 E]) ∧ Cs w' co M cc cs ∧ cs.map nrm = Z ∧ M ≤ 100000 ∧ Below w.heap.size w w'
theorem told_len {w : World} {co : Option Addr} {cn cc : Nat} {cs Z : List C} (h : Cs w co cn cc cs) (he : cs.map nrm = Z) : cn = Z.length := by
  rw [← he, List.length_map]
  exact h.len.symm
theorem both_parse (n : Nat) (xs : List Nat) (hx : ∀ x ∈ xs, x < 256) : ∃ L R E M Z, Told 9 n xs L R E M Z ∧ Told 10 n xs L R E M Z := by
  by_cases hn : n = 512
  · subst hn
    have rp : ∀ ao cap w, Rd w ao 512 cap xs → Calls Try.prog 10 #[.slice ao 512 cap] w fun e w' => Below w.heap.size w w' ∧ ((isP xs = false ∧ e = .returned (.tuple #[.agg #[.bool false, .int .i64 0, .slice none 0 0], .int .i64 9])) ∨
      (isP xs = true ∧ ∃ co cn cc cs, e = .returned (.tuple #[.agg #[.bool (rnL xs), .int .i64 ((r3 xs).1 : Nat), .slice co cn cc], .int .i64 0]) ∧ Cs w' co cn cc cs ∧ cs.map nrm = rnC xs)) := by
      intro ao cap w h
      cases hL : rnL xs
      · exact rparse_false ao cap xs w h hx hL
      · exact rparse_true ao cap xs w h hx hL
    cases hi : isP xs with
    | false =>
      refine ⟨false, 0, 9, 0, [], fun ao cap w h => ?_, fun ao cap w h => ?_⟩
      · exact (parse_no ao 512 cap xs w h hx (by simp [okP, hi])).mono fun e w' ⟨he, hb⟩ => ⟨none, 0, [], he, Cs.nil _, rfl, by omega, hb⟩
      · refine (rp ao cap w h).mono fun e w' ⟨hb, hc⟩ => ?_
        rcases hc with ⟨_, he⟩ | ⟨hi2, _⟩
        · exact ⟨none, 0, [], he, Cs.nil _, rfl, by omega, hb⟩
        · rw [hi] at hi2; cases hi2
    | true =>
      refine ⟨rnL xs, ((r3 xs).1 : Nat), 0, (rnC xs).length, rnC xs, fun ao cap w h => ?_, fun ao cap w h => ?_⟩
      · refine (parse_yes ao 512 cap xs w h hx (by simp [okP, hi])).mono fun e w' ⟨co, cn, cc, cs, he, hC, hm, hb⟩ => ?_
        have hl := told_len hC hm
        have hf := (cs_few hC hx hm).2
        subst hl
        exact ⟨co, cc, cs, he, hC, hm, hf, hb⟩
      · refine (rp ao cap w h).mono fun e w' ⟨hb, hc⟩ => ?_
        rcases hc with ⟨hi2, _⟩ | ⟨_, co, cn, cc, cs, he, hC, hm⟩
        · rw [hi] at hi2; cases hi2
        · have hl := told_len hC hm
          have hf := (cs_few hC hx hm).2
          subst hl
          exact ⟨co, cc, cs, he, hC, hm, hf, hb⟩
  · refine ⟨false, 0, 9, 0, [], fun ao cap w h => ?_, fun ao cap w h => ?_⟩
    · exact (parse_no ao n cap xs w h hx (by simp [okP, hn])).mono fun e w' ⟨he, hb⟩ => ⟨none, 0, [], he, Cs.nil _, rfl, by omega, hb⟩
    · exact (rparse_len ao n cap w hn).mono fun e w' ⟨he, hb⟩ => ⟨none, 0, [], he, Cs.nil _, rfl, by omega, hb⟩
theorem bytes9_str (leaf : Bool) (r : Int) (co : Option Addr) (cn cc : Nat) (cs : List C) (w : World) (h : Cs w co cn cc cs) (hf : Few cs) :
    Calls Try.prog 17 #[.agg #[.bool leaf, .int .i64 r, .slice co cn cc]] w fun e w' => ∃ ao n cap, e = .returned (.slice ao n cap) ∧ Rd w' ao n cap (bN leaf r cs) ∧ Below w.heap.size w w' := by
  unfold bN
  cases hh : hasN leaf r cs with
  | false => exact (bytes_no leaf r co cn cc cs w h hf hh).mono fun e w' ⟨a, b⟩ => ⟨none, 0, 0, a, Rd.nil _, b⟩
  | true => exact (bytes_yes leaf r co cn cc cs w h hf hh).mono fun e w' ⟨g, a, _, b, c⟩ => ⟨some ⟨g, 0, none⟩, 512, 512, a, b, c⟩

abbrev N3 (q : Nat) (l : Bool) (r : Int) (o : Option Addr) (n m : Nat) (W : World) : Prop := W.cell? ⟨q, 0, none⟩ = some (.bool l) ∧ W.cell? ⟨q, 1, none⟩ = some (.int .i64 r) ∧ W.cell? ⟨q, 2, none⟩ = some (.slice o n m)
theorem N3.keep {q : Nat} {l : Bool} {r : Int} {o : Option Addr} {n m : Nat} {W W' : World} (h : N3 q l r o n m W) (hb : Below W.heap.size W W') : N3 q l r o n m W' := ⟨keep_old hb h.1, keep_old hb h.2.1, keep_old hb h.2.2⟩

set_option maxHeartbeats 1000000 in
theorem forms_no (leaf : Bool) (r : Int) (co : Option Addr) (cn cc : Nat) (cs : List C) (ao : Option Addr) (n cap : Nat) (w : World) (h : Cs w co cn cc cs) (hB : cn ≤ 9223372036854775807) (hno : lightN cs = false ∨ 1000 < n) :
    Calls Try.prog 3 #[.agg #[.bool leaf, .int .i64 r, .slice co cn cc], .slice ao n cap] w fun e w' => e = .returned (.bool true) ∧ Below w.heap.size w w' := by
  have lv := hid lives_any
  have BC : Hid (Below w.heap.size w (w.alloc (.cells #[.bool leaf, .int .i64 r, .slice co cn cc] 24))) := hid (ext1 _)
  have cl := hid (light_any leaf r co cn cc cs _ (h.keep BC.out) hB)
  generalize lightN cs = L at *
  clear h
  cases L with
  | false =>
    clear hno
    go_enter Try.func3, Try.ntmps3
    go_wp2_with (first
      | (go_at_call 7; refine cl.out.mono ?_; rintro e w1 ⟨rfl, hb⟩; replace BC := hid (gt BC.out hb); clear hb)
      | (go_at_call 8; refine (lv.out _).mono ?_; rintro e w2 ⟨rfl, hb⟩; replace BC := hid (gt BC.out hb); clear hb))
    go_ret
    exact ⟨rfl, BC.out⟩
  | true =>
    have hn : (1000 : Int) < (n : Int) := by rcases hno with h | h; cases h; omega
    clear hno
    go_enter Try.func3, Try.ntmps3
    go_wp2_with (first
      | (go_at_call 7; refine cl.out.mono ?_; rintro e w1 ⟨rfl, hb⟩; replace BC := hid (gt BC.out hb); clear hb)
      | (go_at_call 8; refine (lv.out _).mono ?_; rintro e w2 ⟨rfl, hb⟩; replace BC := hid (gt BC.out hb); clear hb))
    go_ret
    exact ⟨rfl, BC.out⟩

set_option maxHeartbeats 4000000 in
set_option maxRecDepth 20000 in
theorem forms_yes (leaf : Bool) (r : Int) (co : Option Addr) (cn cc : Nat) (cs : List C) (ao : Option Addr) (n cap : Nat) (xs : List Nat) (w : World) (h : Cs w co cn cc cs) (hB : cn ≤ 9223372036854775807) (hb : Rd w ao n cap xs) (hx : ∀ x ∈ xs, x < 256) (hl : lightN cs = true) (hn : n ≤ 1000) :
    Calls Try.prog 3 #[.agg #[.bool leaf, .int .i64 r, .slice co cn cc], .slice ao n cap] w fun e w' => e = .returned (.bool true) ∧ Below w.heap.size w w' := by
  have lv := hid lives_any
  have hf := light_few cs hl
  have hcn : cn ≤ 100000 := by have := light_len cs hl; have := h.len; omega
  have BC : Hid (Below w.heap.size w (w.alloc (.cells #[.bool leaf, .int .i64 r, .slice co cn cc] 24))) := hid (ext1 _)
  have NC := hid (NB.new 24 w leaf r co cn cc)
  obtain ⟨u0, u1, u2⟩ := NC.out.cells
  have cl := hid (light_any leaf r co cn cc cs _ (h.keep BC.out) hB)
  rw [hl] at cl
  have h' := hid h
  have hb' := hid hb
  have hn' : (n : Int) ≤ 1000 := by omega
  have cg := hid (fun W eo ec hc => good_any leaf r eo cn ec cs W hc hcn)
  have crg := hid (fun W eo ec hc => rgood_any leaf r eo cn ec cs W hc hcn)
  have csz := hid (fun W eo ec hc => size_any9 leaf r eo cn ec cs W hc hf)
  have crs := hid (fun W eo ec hc => rsize_any9 leaf r eo cn ec cs W hc hf)
  have cft := hid (fun W eo ec hc => fits_any leaf r eo cn ec cs W hc hf)
  have cpl := hid (fun W (hc : Cs W co cn cc cs) => plain_any leaf r co cn cc cs W hc hcn)
  obtain ⟨sx, hsx⟩ : ∃ sx, sx = str (bN leaf r cs) := ⟨_, rfl⟩
  have cvx : ∀ {W ao n cap}, Rd W ao n cap (bN leaf r cs) → ∀ W', Below W.heap.size W W' → (convert 25 9 (.slice ao n cap)).run Try.prog W' = .ok (.string sx) W' := fun hr W' hb => by rw [hsx]; exact conv_rd (hr.keep hb) 25 9 5 Try.underlying25 Try.underlying5 (by kernel_rfl)
  have cby : Hid (∀ W eo ec, Cs W eo cn ec cs → Calls Try.prog 17 #[.agg #[.bool leaf, .int .i64 r, .slice eo cn ec]] W fun e w' => ∃ ao n cap, e = .returned (.slice ao n cap) ∧ (∀ W', Below w'.heap.size w' W' → (convert 25 9 (.slice ao n cap)).run Try.prog W' = .ok (.string sx) W') ∧ Below W.heap.size W w') :=
    hid (fun W eo ec hc => (bytes9_str leaf r eo cn ec cs W hc hf).mono fun e w' ⟨ao, n, cap, he, hr, hb⟩ => ⟨ao, n, cap, he, cvx hr, hb⟩)
  have crb : Hid (∀ W eo ec, Cs W eo cn ec cs → Calls Try.prog 18 #[.agg #[.bool leaf, .int .i64 r, .slice eo cn ec]] W fun e w' => ∃ ao n cap, e = .returned (.slice ao n cap) ∧ (∀ W', Below w'.heap.size w' W' → (convert 25 9 (.slice ao n cap)).run Try.prog W' = .ok (.string sx) W') ∧ Below W.heap.size W w') :=
    hid (fun W eo ec hc => (rbytes9_str leaf r eo cn ec cs W hc hf).mono fun e w' ⟨ao, n, cap, he, hr, hb⟩ => ⟨ao, n, cap, he, cvx hr, hb⟩)
  clear cvx hsx
  generalize goodN leaf r cs = G at *
  obtain ⟨FI, hFI⟩ : ∃ b, b = decide (sizeN leaf cs ≤ 512) := ⟨_, rfl⟩
  rw [← hFI] at cft
  obtain ⟨SZ, hSZ⟩ : ∃ s : Int, s = (sizeN leaf cs : Nat) := ⟨_, rfl⟩
  rw [← hSZ] at csz crs
  have hFS : decide (SZ ≤ 512) = FI := by rw [hFI, hSZ, decide_eq_decide]; omega
  clear hFI hSZ
  obtain ⟨L, R, E, M, Z, hp, hq⟩ := both_parse n xs hx
  have cp := hid (hp ao cap)
  have cq := hid (hq ao cap)
  clear hp hq
  have csm := hid (fun W eo ec es fo fc fs' (hM : M ≤ 100000) (h1 : Cs W eo M ec es) (h2 : Cs W fo M fc fs') (he : es.map nrm = fs'.map nrm) => same_true L R eo M ec es fo fc fs' W h1 h2 he hM)
  have cpx := hid (fun W eo ec es (hM : M ≤ 100000) (h1 : Cs W eo M ec es) => plain_any L R eo M ec es W h1 hM)
  clear h hb hx hl hf hn hB
  have hFS' := hid hFS
  clear hFS
  go_enter Try.func3, Try.ntmps3
  go_upto_region 6 with (first | (go_at_call 7; refine cl.out.mono ?_; rintro e w1 ⟨rfl, hb⟩; replace BC := hid (gt BC.out hb); replace NC := hid (NC.out.keep hb); clear hb; clear u0 u1 u2; obtain ⟨u0, u1, u2⟩ := NC.out.cells) | (go_at_call 9; refine (cp.out _ (hb'.out.keep BC.out)).mono ?_; rintro e w2 ⟨xo, xc, xcs, rfl, hxc, hxe, hM, hb⟩; have XN := hid (NB.new 24 w2 L R xo M xc); have XC := hid (hxc.keep (ext1 (.cells #[.bool L, .int .i64 R, .slice xo M xc] 24))); have XE := hid hxe; have HM := hid hM; replace BC := hid (gt (gt BC.out hb) (ext1 (.cells #[.bool L, .int .i64 R, .slice xo M xc] 24))); replace NC := hid ((NC.out.keep hb).keep (ext1 (.cells #[.bool L, .int .i64 R, .slice xo M xc] 24))); clear hb hxc hxe hM; clear u0 u1 u2) | (go_at_call 10; refine (cq.out _ (hb'.out.keep BC.out)).mono ?_; rintro e w3 ⟨yo, yc, ycs, rfl, hyc, hye, _, hb⟩; have YN := hid (NB.new 33 w3 L R yo M yc); have YC := hid (hyc.keep (ext1 (.cells #[.bool L, .int .i64 R, .slice yo M yc] 33))); have YE := hid hye; replace hb := gt hb (ext1 (.cells #[.bool L, .int .i64 R, .slice yo M yc] 33)); replace BC := hid (gt BC.out hb); replace NC := hid (NC.out.keep hb); replace XN := hid (XN.out.keep hb); replace XC := hid (XC.out.keep hb); clear hb hyc hye; obtain ⟨u0, u1, u2⟩ := NC.out.cells) | (go_at_call 11; refine (cpl.out _ (h'.out.keep BC.out)).mono ?_; rintro e w4 ⟨po, pc, rfl, hpc, hb⟩; have PN := hid (NB.new 33 w4 leaf r po cn pc); have PC := hid (hpc.keep (ext1 (.cells #[.bool leaf, .int .i64 r, .slice po cn pc] 33))); replace hb := gt hb (ext1 (.cells #[.bool leaf, .int .i64 r, .slice po cn pc] 33)); replace BC := hid (gt BC.out hb); replace NC := hid (NC.out.keep hb); replace XN := hid (XN.out.keep hb); replace XC := hid (XC.out.keep hb); replace YN := hid (YN.out.keep hb); replace YC := hid (YC.out.keep hb); clear hb hpc; clear u0 u1 u2))
  have dz : Below (w4.alloc (.cells #[.bool leaf, .int .i64 r, .slice po cn pc] 33)).heap.size (w4.alloc (.cells #[.bool leaf, .int .i64 r, .slice po cn pc] 33)) (w4.alloc (.cells #[.bool leaf, .int .i64 r, .slice po cn pc] 33)).drew := (Below.refl _ _).drew
  replace BC := hid (gt BC.out dz); replace NC := hid (NC.out.keep dz); replace XN := hid (XN.out.keep dz); replace XC := hid (XC.out.keep dz); replace YN := hid (YN.out.keep dz); replace YC := hid (YC.out.keep dz); replace PN := hid (PN.out.keep dz); replace PC := hid (PC.out.keep dz); clear dz
  have g1 : N3 w.heap.size leaf r co cn cc (w4.alloc (.cells #[.bool leaf, .int .i64 r, .slice po cn pc] 33)).drew ∧ N3 w4.heap.size leaf r po cn pc (w4.alloc (.cells #[.bool leaf, .int .i64 r, .slice po cn pc] 33)).drew := ⟨NC.out.cells, PN.out.cells⟩
  refine wp_region_K (S := (fun W => N3 w.heap.size leaf r co cn cc W ∧ N3 w4.heap.size leaf r po cn pc W)) (fun _ => false) (by kernel_rfl) (g1) (fun hHeld => ?_)
  refine gkt 0 ?_ (h := by intro W hSw; obtain ⟨⟨y0, y1, y2⟩, ⟨y3, y4, y5⟩⟩ := hSw; go_simp; first | done | with_reducible rfl)
  refine gkt 2 ?_ (h := by intro W hSw; obtain ⟨⟨y0, y1, y2⟩, ⟨y3, y4, y5⟩⟩ := hSw; go_simp; first | done | with_reducible rfl)
  refine gk1 1 (fun K hK => ?_)
  go_simp
  go_at_call 12; refine (cg.out _ _ _ (h'.out.keep BC.out)).mono ?_; rintro e v1 ⟨rfl, hb⟩; replace BC := hid (gt BC.out hb); replace NC := hid (NC.out.keep hb); replace XN := hid (XN.out.keep hb); replace XC := hid (XC.out.keep hb); replace YN := hid (YN.out.keep hb); replace YC := hid (YC.out.keep hb); replace PN := hid (PN.out.keep hb); replace PC := hid (PC.out.keep hb); have hR : N3 w.heap.size leaf r co cn cc v1 ∧ N3 w4.heap.size leaf r po cn pc v1 := ⟨NC.out.cells, PN.out.cells⟩; clear hb
  refine hK.out _ _ hR (fun hHeld => ?_)
  clear hK K
  (try simp only [Act.put, sA, sZ, sS])
  refine gk1 3 (fun K hK => ?_)
  go_simp
  go_at_call 13; refine (crg.out _ _ _ PC.out).mono ?_; rintro e v3 ⟨rfl, hb⟩; replace BC := hid (gt BC.out hb); replace NC := hid (NC.out.keep hb); replace XN := hid (XN.out.keep hb); replace XC := hid (XC.out.keep hb); replace YN := hid (YN.out.keep hb); replace YC := hid (YC.out.keep hb); replace PN := hid (PN.out.keep hb); replace PC := hid (PC.out.keep hb); have hR : N3 w.heap.size leaf r co cn cc v3 ∧ N3 w4.heap.size leaf r po cn pc v3 := ⟨NC.out.cells, PN.out.cells⟩; clear hb
  refine hK.out _ _ hR (fun hHeld => ?_)
  clear hK K
  (try simp only [Act.put, sA, sZ, sS])
  refine gkp 4 ?_ (v := .bool true) (h := by intro W hSw; go_simp <;> first | done | simp | decide | rfl)
  refine gkp 5 ?_ (v := .bool true) (h := by intro W hSw; go_simp <;> first | done | simp | decide | rfl)
  refine gkt 6 ?_ (h := by intro W hSw; obtain ⟨⟨y0, y1, y2⟩, ⟨y3, y4, y5⟩⟩ := hSw; go_simp; first | done | with_reducible rfl)
  refine gkt 8 ?_ (h := by intro W hSw; obtain ⟨⟨y0, y1, y2⟩, ⟨y3, y4, y5⟩⟩ := hSw; go_simp; first | done | with_reducible rfl)
  refine gk1 7 (fun K hK => ?_)
  go_simp
  go_at_call 14; refine (csz.out _ _ _ (h'.out.keep BC.out)).mono ?_; rintro e v7 ⟨rfl, hb⟩; replace BC := hid (gt BC.out hb); replace NC := hid (NC.out.keep hb); replace XN := hid (XN.out.keep hb); replace XC := hid (XC.out.keep hb); replace YN := hid (YN.out.keep hb); replace YC := hid (YC.out.keep hb); replace PN := hid (PN.out.keep hb); replace PC := hid (PC.out.keep hb); have hR : N3 w.heap.size leaf r co cn cc v7 ∧ N3 w4.heap.size leaf r po cn pc v7 := ⟨NC.out.cells, PN.out.cells⟩; clear hb
  refine hK.out _ _ hR (fun hHeld => ?_)
  clear hK K
  (try simp only [Act.put, sA, sZ, sS])
  refine gk1 9 (fun K hK => ?_)
  go_simp
  go_at_call 15; refine (crs.out _ _ _ PC.out).mono ?_; rintro e v9 ⟨rfl, hb⟩; replace BC := hid (gt BC.out hb); replace NC := hid (NC.out.keep hb); replace XN := hid (XN.out.keep hb); replace XC := hid (XC.out.keep hb); replace YN := hid (YN.out.keep hb); replace YC := hid (YC.out.keep hb); replace PN := hid (PN.out.keep hb); replace PC := hid (PC.out.keep hb); have hR : N3 w.heap.size leaf r co cn cc v9 ∧ N3 w4.heap.size leaf r po cn pc v9 := ⟨NC.out.cells, PN.out.cells⟩; clear hb
  refine hK.out _ _ hR (fun hHeld => ?_)
  clear hK K
  (try simp only [Act.put, sA, sZ, sS])
  refine gkp 10 ?_ (v := .bool true) (h := by intro W hSw; go_simp <;> first | done | simp | decide | rfl)
  refine gkp 11 ?_ (v := .bool true) (h := by intro W hSw; go_simp <;> first | done | simp | decide | rfl)
  refine gkp 12 ?_ (v := .bool true) (h := by intro W hSw; go_simp <;> first | done | simp | decide | rfl)
  refine gkt 13 ?_ (h := by intro W hSw; obtain ⟨⟨y0, y1, y2⟩, ⟨y3, y4, y5⟩⟩ := hSw; go_simp; first | done | with_reducible rfl)
  refine gkt 15 ?_ (h := by intro W hSw; obtain ⟨⟨y0, y1, y2⟩, ⟨y3, y4, y5⟩⟩ := hSw; go_simp; first | done | with_reducible rfl)
  refine gk1 14 (fun K hK => ?_)
  go_simp
  go_at_call 16; refine (cft.out _ _ _ (h'.out.keep BC.out)).mono ?_; rintro e v14 ⟨rfl, hb⟩; replace BC := hid (gt BC.out hb); replace NC := hid (NC.out.keep hb); replace XN := hid (XN.out.keep hb); replace XC := hid (XC.out.keep hb); replace YN := hid (YN.out.keep hb); replace YC := hid (YC.out.keep hb); replace PN := hid (PN.out.keep hb); replace PC := hid (PC.out.keep hb); have hR : N3 w.heap.size leaf r co cn cc v14 ∧ N3 w4.heap.size leaf r po cn pc v14 := ⟨NC.out.cells, PN.out.cells⟩; clear hb
  refine hK.out _ _ hR (fun hHeld => ?_)
  clear hK K
  (try simp only [Act.put, sA, sZ, sS])
  refine gk1 16 (fun K hK => ?_)
  go_simp
  go_at_call 15; refine (crs.out _ _ _ PC.out).mono ?_; rintro e v16 ⟨rfl, hb⟩; replace BC := hid (gt BC.out hb); replace NC := hid (NC.out.keep hb); replace XN := hid (XN.out.keep hb); replace XC := hid (XC.out.keep hb); replace YN := hid (YN.out.keep hb); replace YC := hid (YC.out.keep hb); replace PN := hid (PN.out.keep hb); replace PC := hid (PC.out.keep hb); have hR : N3 w.heap.size leaf r co cn cc v16 ∧ N3 w4.heap.size leaf r po cn pc v16 := ⟨NC.out.cells, PN.out.cells⟩; clear hb
  refine hK.out _ _ hR (fun hHeld => ?_)
  clear hK K
  (try simp only [Act.put, sA, sZ, sS])
  refine gkp 17 ?_ (v := .bool FI) (h := by intro W hSw; go_simp; first | done | (rw [← hFS'.out]) | (simp only [hFS'.out]))
  refine gkp 18 ?_ (v := .bool true) (h := by intro W hSw; go_simp <;> first | done | simp | decide | rfl)
  refine gkp 19 ?_ (v := .bool true) (h := by intro W hSw; go_simp <;> first | done | simp | decide | rfl)
  refine gkp 20 ?_ (v := .bool true) (h := by intro W hSw; go_simp <;> first | done | simp | decide | rfl)
  refine wpAnyK_done (by kernel_rfl) ?_ _
  clear g1
  go_upto_region 7 with (fail)
  have dz : Below v16.heap.size v16 v16.drew := (Below.refl _ _).drew
  replace BC := hid (gt BC.out dz); replace NC := hid (NC.out.keep dz); replace XN := hid (XN.out.keep dz); replace XC := hid (XC.out.keep dz); replace YN := hid (YN.out.keep dz); replace YC := hid (YC.out.keep dz); replace PN := hid (PN.out.keep dz); replace PC := hid (PC.out.keep dz); clear dz
  have g1 : (fun W => N3 w.heap.size leaf r co cn cc W ∧ N3 w4.heap.size leaf r po cn pc W ∧ N3 w2.heap.size L R xo M xc W ∧ N3 w3.heap.size L R yo M yc W) v16.drew := ⟨NC.out.cells, PN.out.cells, XN.out.cells, YN.out.cells⟩
  refine wp_region_K (S := (fun W => N3 w.heap.size leaf r co cn cc W ∧ N3 w4.heap.size leaf r po cn pc W ∧ N3 w2.heap.size L R xo M xc W ∧ N3 w3.heap.size L R yo M yc W)) (fun _ => false) (by kernel_rfl) (g1) (fun hHeld => ?_)
  refine gkp 0 ?_
  refine gkp 1 ?_ (v := .bool true) (h := by intro W hSw; go_simp <;> first | done | simp | decide | rfl)
  refine gkt 2 ?_ (h := by intro W hSw; obtain ⟨⟨y0, y1, y2⟩, ⟨y3, y4, y5⟩, ⟨z0, z1, z2⟩, ⟨z3, z4, z5⟩⟩ := hSw; go_simp; first | done | with_reducible rfl)
  refine gkt 5 ?_ (h := by intro W hSw; obtain ⟨⟨y0, y1, y2⟩, ⟨y3, y4, y5⟩, ⟨z0, z1, z2⟩, ⟨z3, z4, z5⟩⟩ := hSw; go_simp; first | done | with_reducible rfl)
  refine gk1 3 (fun K hK => ?_)
  go_simp
  go_at_call 17; refine (cby.out _ _ _ (h'.out.keep BC.out)).mono ?_; rintro e t3 ⟨ao1, n1, cap1, rfl, hcv, hb⟩; replace BC := hid (gt BC.out hb); replace NC := hid (NC.out.keep hb); replace XN := hid (XN.out.keep hb); replace XC := hid (XC.out.keep hb); replace YN := hid (YN.out.keep hb); replace YC := hid (YC.out.keep hb); replace PN := hid (PN.out.keep hb); replace PC := hid (PC.out.keep hb); have hR : (fun W => N3 w.heap.size leaf r co cn cc W ∧ N3 w4.heap.size leaf r po cn pc W ∧ N3 w2.heap.size L R xo M xc W ∧ N3 w3.heap.size L R yo M yc W) t3 := ⟨NC.out.cells, PN.out.cells, XN.out.cells, YN.out.cells⟩; have CV1 := hid hcv; clear hb hcv
  refine hK.out _ _ hR (fun hHeld => ?_)
  clear hK K
  (try simp only [Act.put, sA, sZ, sS])
  have hHeld2 : (fun W => (fun W => N3 w.heap.size leaf r co cn cc W ∧ N3 w4.heap.size leaf r po cn pc W ∧ N3 w2.heap.size L R xo M xc W ∧ N3 w3.heap.size L R yo M yc W) W ∧ (convert 25 9 (.slice ao1 n1 cap1)).run Try.prog W = .ok (.string sx) W) t3 := ⟨hHeld, CV1.out _ (Below.refl _ _)⟩
  refine wpAnyK_more (S' := (fun W => (fun W => N3 w.heap.size leaf r co cn cc W ∧ N3 w4.heap.size leaf r po cn pc W ∧ N3 w2.heap.size L R xo M xc W ∧ N3 w3.heap.size L R yo M yc W) W ∧ (convert 25 9 (.slice ao1 n1 cap1)).run Try.prog W = .ok (.string sx) W)) (fun _ h => h.1) ?_
  clear hHeld
  refine gkt 4 ?_ (h := by intro W hSw; obtain ⟨⟨⟨y0, y1, y2⟩, ⟨y3, y4, y5⟩, ⟨z0, z1, z2⟩, ⟨z3, z4, z5⟩⟩, k1⟩ := hSw; go_simp; first | done | with_reducible rfl)
  refine gk1 6 (fun K hK => ?_)
  go_simp
  go_at_call 18; refine (crb.out _ _ _ PC.out).mono ?_; rintro e t6 ⟨ao2, n2, cap2, rfl, hcv, hb⟩; replace BC := hid (gt BC.out hb); replace NC := hid (NC.out.keep hb); replace XN := hid (XN.out.keep hb); replace XC := hid (XC.out.keep hb); replace YN := hid (YN.out.keep hb); replace YC := hid (YC.out.keep hb); replace PN := hid (PN.out.keep hb); replace PC := hid (PC.out.keep hb); have hR : (fun W => (fun W => N3 w.heap.size leaf r co cn cc W ∧ N3 w4.heap.size leaf r po cn pc W ∧ N3 w2.heap.size L R xo M xc W ∧ N3 w3.heap.size L R yo M yc W) W ∧ (convert 25 9 (.slice ao1 n1 cap1)).run Try.prog W = .ok (.string sx) W) t6 := ⟨⟨NC.out.cells, PN.out.cells, XN.out.cells, YN.out.cells⟩, CV1.out _ hb⟩; have BT := hid hb; have CV2 := hid hcv; clear hb hcv
  refine hK.out _ _ hR (fun hHeld => ?_)
  clear hK K
  have hHeld3 : (fun W => (fun W => (fun W => N3 w.heap.size leaf r co cn cc W ∧ N3 w4.heap.size leaf r po cn pc W ∧ N3 w2.heap.size L R xo M xc W ∧ N3 w3.heap.size L R yo M yc W) W ∧ (convert 25 9 (.slice ao1 n1 cap1)).run Try.prog W = .ok (.string sx) W) W ∧ (convert 25 9 (.slice ao2 n2 cap2)).run Try.prog W = .ok (.string sx) W) t6 := ⟨hHeld, CV2.out _ (Below.refl _ _)⟩
  refine wpAnyK_more (S' := (fun W => (fun W => (fun W => N3 w.heap.size leaf r co cn cc W ∧ N3 w4.heap.size leaf r po cn pc W ∧ N3 w2.heap.size L R xo M xc W ∧ N3 w3.heap.size L R yo M yc W) W ∧ (convert 25 9 (.slice ao1 n1 cap1)).run Try.prog W = .ok (.string sx) W) W ∧ (convert 25 9 (.slice ao2 n2 cap2)).run Try.prog W = .ok (.string sx) W)) (fun _ h => h.1) ?_
  clear hHeld
  refine gkt 7 ?_ (h := by intro W hSw; obtain ⟨⟨⟨⟨y0, y1, y2⟩, ⟨y3, y4, y5⟩, ⟨z0, z1, z2⟩, ⟨z3, z4, z5⟩⟩, k1⟩, k2⟩ := hSw; go_simp; first | done | with_reducible rfl)
  refine gkp 8 ?_ (v := .bool true) (h := by intro W hSw; go_simp <;> first | done | simp | decide | rfl)
  refine gkp 9 ?_ (v := .bool true) (h := by intro W hSw; go_simp <;> first | done | simp | decide | rfl)
  refine gkp 10 ?_ (v := .bool true) (h := by intro W hSw; go_simp <;> first | done | simp | decide | rfl)
  refine gkt 11 ?_ (h := by intro W hSw; obtain ⟨⟨⟨⟨y0, y1, y2⟩, ⟨y3, y4, y5⟩, ⟨z0, z1, z2⟩, ⟨z3, z4, z5⟩⟩, k1⟩, k2⟩ := hSw; go_simp; first | done | with_reducible rfl)
  refine gkt 13 ?_ (h := by intro W hSw; obtain ⟨⟨⟨⟨y0, y1, y2⟩, ⟨y3, y4, y5⟩, ⟨z0, z1, z2⟩, ⟨z3, z4, z5⟩⟩, k1⟩, k2⟩ := hSw; go_simp; first | done | with_reducible rfl)
  refine gk1 12 (fun K hK => ?_)
  go_simp
  go_at_call 11; refine (cpx.out _ _ _ _ HM.out XC.out).mono ?_; rintro e t12 ⟨oo, oc, rfl, hoc, hb⟩; replace BC := hid (gt BC.out hb); replace NC := hid (NC.out.keep hb); replace XN := hid (XN.out.keep hb); replace XC := hid (XC.out.keep hb); replace YN := hid (YN.out.keep hb); replace YC := hid (YC.out.keep hb); replace PN := hid (PN.out.keep hb); replace PC := hid (PC.out.keep hb); have OC := hid hoc; clear hoc; have hR : (fun W => (fun W => (fun W => N3 w.heap.size leaf r co cn cc W ∧ N3 w4.heap.size leaf r po cn pc W ∧ N3 w2.heap.size L R xo M xc W ∧ N3 w3.heap.size L R yo M yc W) W ∧ (convert 25 9 (.slice ao1 n1 cap1)).run Try.prog W = .ok (.string sx) W) W ∧ (convert 25 9 (.slice ao2 n2 cap2)).run Try.prog W = .ok (.string sx) W) t12 := ⟨⟨⟨NC.out.cells, PN.out.cells, XN.out.cells, YN.out.cells⟩, CV1.out _ (gt BT.out hb)⟩, CV2.out _ hb⟩; have BV := hid hb; clear hb
  refine hK.out _ _ hR (fun hHeld => ?_)
  clear hK K
  refine gk1 14 (fun K hK => ?_)
  go_simp
  go_at_call 19; refine (csm.out _ _ _ _ _ _ _ HM.out OC.out YC.out (XE.out.trans YE.out.symm)).mono ?_; rintro e t14 ⟨rfl, hb⟩; replace BC := hid (gt BC.out hb); replace NC := hid (NC.out.keep hb); replace XN := hid (XN.out.keep hb); replace XC := hid (XC.out.keep hb); replace YN := hid (YN.out.keep hb); replace YC := hid (YC.out.keep hb); replace PN := hid (PN.out.keep hb); replace PC := hid (PC.out.keep hb); have hR : (fun W => (fun W => (fun W => N3 w.heap.size leaf r co cn cc W ∧ N3 w4.heap.size leaf r po cn pc W ∧ N3 w2.heap.size L R xo M xc W ∧ N3 w3.heap.size L R yo M yc W) W ∧ (convert 25 9 (.slice ao1 n1 cap1)).run Try.prog W = .ok (.string sx) W) W ∧ (convert 25 9 (.slice ao2 n2 cap2)).run Try.prog W = .ok (.string sx) W) t14 := ⟨⟨⟨NC.out.cells, PN.out.cells, XN.out.cells, YN.out.cells⟩, CV1.out _ (gt BT.out (gt BV.out hb))⟩, CV2.out _ (gt BV.out hb)⟩; replace BV := hid (gt BV.out hb); clear hb
  refine hK.out _ _ hR (fun hHeld => ?_)
  clear hK K
  refine gkp 15 ?_ (v := .bool true) (h := by intro W hSw; go_simp <;> first | done | simp | decide | rfl)
  refine gkp 16 ?_ (v := .bool true) (h := by intro W hSw; go_simp <;> first | done | simp | decide | rfl)
  refine gkp 17 ?_
  refine gkp 18 ?_
  refine gkp 19 ?_ (v := .bool true) (h := by intro W hSw; go_simp <;> first | done | simp | decide | rfl)
  refine gkp 20 ?_ (v := .bool true) (h := by intro W hSw; go_simp <;> first | done | simp | decide | rfl)
  refine gkp 21 ?_ (v := .bool true) (h := by intro W hSw; go_simp <;> first | done | simp | decide | rfl)
  refine gk1 22 (fun K hK => ?_)
  go_simp
  go_at_call 8; refine (lv.out _).mono ?_; rintro e t22 ⟨rfl, hb⟩; replace BC := hid (gt BC.out hb); replace NC := hid (NC.out.keep hb); replace XN := hid (XN.out.keep hb); replace XC := hid (XC.out.keep hb); replace YN := hid (YN.out.keep hb); replace YC := hid (YC.out.keep hb); replace PN := hid (PN.out.keep hb); replace PC := hid (PC.out.keep hb); have hR : (fun W => (fun W => (fun W => N3 w.heap.size leaf r co cn cc W ∧ N3 w4.heap.size leaf r po cn pc W ∧ N3 w2.heap.size L R xo M xc W ∧ N3 w3.heap.size L R yo M yc W) W ∧ (convert 25 9 (.slice ao1 n1 cap1)).run Try.prog W = .ok (.string sx) W) W ∧ (convert 25 9 (.slice ao2 n2 cap2)).run Try.prog W = .ok (.string sx) W) t22 := ⟨⟨⟨NC.out.cells, PN.out.cells, XN.out.cells, YN.out.cells⟩, CV1.out _ (gt BT.out (gt BV.out hb))⟩, CV2.out _ (gt BV.out hb)⟩; clear hb
  refine hK.out _ _ hR (fun hHeld => ?_)
  clear hK K
  refine gkp 23 ?_ (v := .bool true) (h := by intro W hSw; go_simp <;> first | done | simp | decide | rfl)
  refine gkp 24 ?_ (v := .bool true) (h := by intro W hSw; go_simp <;> first | done | simp | decide | rfl)
  refine wpAnyK_done (by kernel_rfl) ?_ _
  go_wp2
  go_ret
  exact ⟨rfl, BC.out⟩

theorem forms_law (leaf : Bool) (r : Int) (co : Option Addr) (cn cc : Nat) (cs : List C) (ao : Option Addr) (n cap : Nat) (xs : List Nat) (w : World) (h : Cs w co cn cc cs) (hB : cn ≤ 9223372036854775807) (_hr : I64 r) (hb : Rd w ao n cap xs) (hx : ∀ x ∈ xs, x < 256) :
    Calls Try.prog 3 #[.agg #[.bool leaf, .int .i64 r, .slice co cn cc], .slice ao n cap] w fun e w' => e = .returned (.bool true) ∧ Below w.heap.size w w' := by
  cases hl : lightN cs with
  | false => exact forms_no leaf r co cn cc cs ao n cap w h hB (Or.inl hl)
  | true =>
    by_cases hn : 1000 < n
    · exact forms_no leaf r co cn cc cs ao n cap w h hB (Or.inr hn)
    · exact forms_yes leaf r co cn cc cs ao n cap xs w h hB hb hx hl (by omega)

end Go.Proofs.Ytbpcekhfjkodcaa
