/- The law CellBack, walked; no statement of the seat is proved here. -/
import Derived.Test.YtbpcekhfjkodcaaCf
import Derived.Test.YtbpcekhfjkodcaaCg
import Derived.Test.YtbpcekhfjkodcaaBd
namespace Go.Proofs.Ytbpcekhfjkodcaa
open Go.RowKit

/-- Is b a page of which a node is told? -/
def okP (n : Nat) (xs : List Nat) : Bool := decide (n = 512) && isP xs
theorem parse_no (ao : Option Addr) (n cap : Nat) (xs : List Nat) (w : World) (h : Rd w ao n cap xs) (hx : ∀ x ∈ xs, x < 256) (hp : okP n xs = false) :
    Calls Try.prog 9 #[.slice ao n cap] w fun e w' => e = .returned (.tuple #[.agg #[.bool false, .int .i64 0, .slice none 0 0], .int .i64 9]) ∧ Below w.heap.size w w' := by
  by_cases hn : n = 512
  · subst hn
    have hi : isP xs = false := by simpa [okP] using hp
    refine (parse_page ao cap xs w h hx).mono fun e w' ⟨hb, hc⟩ => ?_
    rcases hc with ⟨_, he⟩ | ⟨hi2, _⟩
    · exact ⟨he, hb⟩
    · rw [hi] at hi2; cases hi2
  · exact parse_len ao n cap w hn
theorem parse_yes (ao : Option Addr) (n cap : Nat) (xs : List Nat) (w : World) (h : Rd w ao n cap xs) (hx : ∀ x ∈ xs, x < 256) (hp : okP n xs = true) :
    Calls Try.prog 9 #[.slice ao n cap] w fun e w' => ∃ co cn cc cs, e = .returned (.tuple #[.agg #[.bool (rnL xs), .int .i64 ((r3 xs).1 : Nat), .slice co cn cc], .int .i64 0]) ∧ Cs w' co cn cc cs ∧ cs.map nrm = rnC xs ∧ Below w.heap.size w w' := by
  simp only [okP, Bool.and_eq_true, decide_eq_true_eq] at hp
  obtain ⟨rfl, hi⟩ := hp
  refine (parse_page ao cap xs w h hx).mono fun e w' ⟨hb, hc⟩ => ?_
  rcases hc with ⟨hi2, _⟩ | ⟨_, co, cn, cc, cs, he, hC, hm⟩
  · rw [hi] at hi2; cases hi2
  · exact ⟨co, cn, cc, cs, he, hC, hm, hb⟩
theorem cs_few {w : World} {co : Option Addr} {cn cc : Nat} {cs : List C} {xs : List Nat} (h : Cs w co cn cc cs) (hx : ∀ x ∈ xs, x < 256) (he : cs.map nrm = rnC xs) : Few cs ∧ cn ≤ 100000 := by
  have := read_few h hx he
  exact ⟨this, by have h1 := this.1; have h2 := h.len; omega⟩

abbrev SA (qx q : Nat) (lx l : Bool) (rx r : Int) (ox o : Option Addr) (nx n mx m : Nat) (W : World) : Prop :=
  (W.cell? ⟨qx, 0, none⟩ = some (.bool lx) ∧ W.cell? ⟨qx, 1, none⟩ = some (.int .i64 rx) ∧ W.cell? ⟨qx, 2, none⟩ = some (.slice ox nx mx)) ∧ (W.cell? ⟨q, 0, none⟩ = some (.bool l) ∧ W.cell? ⟨q, 1, none⟩ = some (.int .i64 r) ∧ W.cell? ⟨q, 2, none⟩ = some (.slice o n m))
theorem SA.keep {qx q : Nat} {lx l : Bool} {rx r : Int} {ox o : Option Addr} {nx n mx m : Nat} {W W' : World} (h : SA qx q lx l rx r ox o nx n mx m W) (hb : Below W.heap.size W W') : SA qx q lx l rx r ox o nx n mx m W' :=
  ⟨⟨keep_old hb h.1.1, keep_old hb h.1.2.1, keep_old hb h.1.2.2⟩, ⟨keep_old hb h.2.1, keep_old hb h.2.2.1, keep_old hb h.2.2.2⟩⟩
abbrev SB (qx : Nat) (lx : Bool) (rx : Int) (ox : Option Addr) (nx mx : Nat) (ao : Option Addr) (n cap : Nat) (sx : ByteArray) (W : World) : Prop :=
  (W.cell? ⟨qx, 0, none⟩ = some (.bool lx) ∧ W.cell? ⟨qx, 1, none⟩ = some (.int .i64 rx) ∧ W.cell? ⟨qx, 2, none⟩ = some (.slice ox nx mx)) ∧ (convert 25 9 (.slice ao n cap)).run Try.prog W = .ok (.string sx) W
abbrev SN (W : World) : Prop := W = W

set_option maxHeartbeats 1000000 in
theorem back_no (leaf : Bool) (r : Int) (co : Option Addr) (cn cc : Nat) (cs : List C) (ao : Option Addr) (n cap : Nat) (w : World) (h : Cs w co cn cc cs) (hB : cn ≤ 9223372036854775807) (hno : lightN cs = false ∨ 1000 < n) :
    Calls Try.prog 5 #[.agg #[.bool leaf, .int .i64 r, .slice co cn cc], .slice ao n cap] w fun e w' => e = .returned (.bool true) ∧ Below w.heap.size w w' := by
  have lv := hid lives_any
  have BC : Hid (Below w.heap.size w (w.alloc (.cells #[.bool leaf, .int .i64 r, .slice co cn cc] 24))) := hid (ext1 _)
  have cl := hid (light_any leaf r co cn cc cs _ (h.keep BC.out) hB)
  generalize lightN cs = L at *
  clear h
  cases L with
  | false =>
    clear hno
    go_enter Try.func5, Try.ntmps5
    go_wp2_with (first
      | (go_at_call 7; refine cl.out.mono ?_; rintro e w1 ⟨rfl, hb⟩; replace BC := hid (gt BC.out hb); clear hb)
      | (go_at_call 8; refine (lv.out _).mono ?_; rintro e w2 ⟨rfl, hb⟩; replace BC := hid (gt BC.out hb); clear hb))
    go_ret
    exact ⟨rfl, BC.out⟩
  | true =>
    have hn : (1000 : Int) < (n : Int) := by rcases hno with h | h; cases h; omega
    clear hno
    go_enter Try.func5, Try.ntmps5
    go_wp2_with (first
      | (go_at_call 7; refine cl.out.mono ?_; rintro e w1 ⟨rfl, hb⟩; replace BC := hid (gt BC.out hb); clear hb)
      | (go_at_call 8; refine (lv.out _).mono ?_; rintro e w2 ⟨rfl, hb⟩; replace BC := hid (gt BC.out hb); clear hb))
    go_ret
    exact ⟨rfl, BC.out⟩

set_option maxHeartbeats 4000000 in
set_option maxRecDepth 20000 in
theorem back_false_false (leaf : Bool) (r : Int) (co : Option Addr) (cn cc : Nat) (cs : List C) (ao : Option Addr) (n cap : Nat) (xs : List Nat) (w : World) (h : Cs w co cn cc cs) (hB : cn ≤ 9223372036854775807) (hb : Rd w ao n cap xs) (hx : ∀ x ∈ xs, x < 256) (hl : lightN cs = true) (hn : n ≤ 1000) (hok : okP n xs = false) (hhas : hasN leaf r cs = false) :
    Calls Try.prog 5 #[.agg #[.bool leaf, .int .i64 r, .slice co cn cc], .slice ao n cap] w fun e w' => e = .returned (.bool true) ∧ Below w.heap.size w w' := by
  have lv := hid lives_any
  have hf := light_few cs hl
  have hcn : cn ≤ 100000 := by have := light_len cs hl; have := h.len; omega
  have BC : Hid (Below w.heap.size w (w.alloc (.cells #[.bool leaf, .int .i64 r, .slice co cn cc] 24))) := hid (ext1 _)
  have NC := hid (NB.new 24 w leaf r co cn cc)
  obtain ⟨u0, u1, u2⟩ := NC.out.cells
  have cl := hid (light_any leaf r co cn cc cs _ (h.keep BC.out) hB)
  rw [hl] at cl
  have h' := hid h
  have hb' := hid hb
  have hx' := hid hx
  have hn' : (n : Int) ≤ 1000 := by omega
  have cg := hid (fun W hc => good_any leaf r co cn cc cs W hc hcn)
  have cft := hid (fun W hc => fits_any leaf r co cn cc cs W hc hf)
  have cpz := hid (fun W hr => parse_no ao n cap xs W hr hx hok)
  have cby := hid (fun W hc => bytes_no leaf r co cn cc cs W hc hf hhas)
  have hGF : goodN leaf r cs = false ∨ (goodN leaf r cs = true ∧ decide (sizeN leaf cs ≤ 512) = false) := by
    unfold hasN at hhas
    cases hg : goodN leaf r cs with
    | false => exact Or.inl rfl
    | true => rw [hg] at hhas; exact Or.inr ⟨rfl, by simpa using hhas⟩
  generalize goodN leaf r cs = G at *
  generalize decide (sizeN leaf cs ≤ 512) = FI at *
  clear h hb hx hl hok hhas hf hn
  go_enter Try.func5, Try.ntmps5
  go_upto_region 4 with (first | (go_at_call 7; refine cl.out.mono ?_; rintro e w1 ⟨rfl, hb⟩; replace BC := hid (gt BC.out hb); replace NC := hid (NC.out.keep hb); clear hb; (try clear u0 u1 u2); obtain ⟨u0, u1, u2⟩ := NC.out.cells) | (go_at_call 9; refine (cpz.out _ (hb'.out.keep BC.out)).mono ?_; rintro e w2 ⟨rfl, hb⟩; replace BC := hid (gt BC.out hb); replace NC := hid (NC.out.keep hb); clear hb; (try clear u0 u1 u2); obtain ⟨u0, u1, u2⟩ := NC.out.cells))
  have dz : Below w2.heap.size w2 (w2.alloc (.cells #[.bool false, .int .i64 0, .slice none 0 0] 24)).drew := (ext1 _).drew
  have g1 : SN (w2.alloc (.cells #[.bool false, .int .i64 0, .slice none 0 0] 24)).drew := rfl
  refine wp_region_K (S := SN) (fun _ => false) (by kernel_rfl) (g1) (fun hHeld => ?_)
  refine gkp 0 ?_
  refine gkp 1 ?_ (v := .bool false) (h := by intro W hSw; go_simp <;> first | done | decide | rfl)
  refine gkp 2 ?_
  refine gku 3 ?_
  refine gku 4 ?_
  refine gku 5 ?_
  refine gku 6 ?_
  refine gku 7 ?_
  refine gku 8 ?_
  refine gkp 9 ?_
  refine wpAnyK_done (by kernel_rfl) ?_ _
  replace BC := hid (gt BC.out dz)
  replace NC := hid (NC.out.keep dz)
  clear dz g1 u0 u1 u2
  obtain ⟨u0, u1, u2⟩ := NC.out.cells
  rcases hGF with rfl | ⟨rfl, rfl⟩
  all_goals
    go_wp2_with (first
      | (go_at_call 17; refine (cby.out _ (h'.out.keep BC.out)).mono ?_; rintro e w5 ⟨rfl, hb⟩; replace BC := hid (gt BC.out hb); replace NC := hid (NC.out.keep hb); clear hb; (try clear u0 u1 u2); obtain ⟨u0, u1, u2⟩ := NC.out.cells)
      | (go_at_call 12; refine (cg.out _ (h'.out.keep BC.out)).mono ?_; rintro e w6 ⟨rfl, hb⟩; replace BC := hid (gt BC.out hb); replace NC := hid (NC.out.keep hb); clear hb; (try clear u0 u1 u2); obtain ⟨u0, u1, u2⟩ := NC.out.cells)
      | (go_at_call 16; refine (cft.out _ (h'.out.keep BC.out)).mono ?_; rintro e w7 ⟨rfl, hb⟩; replace BC := hid (gt BC.out hb); replace NC := hid (NC.out.keep hb); clear hb; (try clear u0 u1 u2); obtain ⟨u0, u1, u2⟩ := NC.out.cells)
      | (go_at_call 8; refine (lv.out _).mono ?_; rintro e w8 ⟨rfl, hb⟩; replace BC := hid (gt BC.out hb); replace NC := hid (NC.out.keep hb); clear hb; (try clear u0 u1 u2); obtain ⟨u0, u1, u2⟩ := NC.out.cells))
    go_ret
    exact ⟨rfl, BC.out⟩

set_option maxHeartbeats 4000000 in
set_option maxRecDepth 20000 in
theorem back_false_true (leaf : Bool) (r : Int) (co : Option Addr) (cn cc : Nat) (cs : List C) (ao : Option Addr) (n cap : Nat) (xs : List Nat) (w : World) (h : Cs w co cn cc cs) (hB : cn ≤ 9223372036854775807) (hb : Rd w ao n cap xs) (hx : ∀ x ∈ xs, x < 256) (hl : lightN cs = true) (hn : n ≤ 1000) (hok : okP n xs = false) (hhas : hasN leaf r cs = true) :
    Calls Try.prog 5 #[.agg #[.bool leaf, .int .i64 r, .slice co cn cc], .slice ao n cap] w fun e w' => e = .returned (.bool true) ∧ Below w.heap.size w w' := by
  have lv := hid lives_any
  have hf := light_few cs hl
  have hcn : cn ≤ 100000 := by have := light_len cs hl; have := h.len; omega
  have BC : Hid (Below w.heap.size w (w.alloc (.cells #[.bool leaf, .int .i64 r, .slice co cn cc] 24))) := hid (ext1 _)
  have NC := hid (NB.new 24 w leaf r co cn cc)
  obtain ⟨u0, u1, u2⟩ := NC.out.cells
  have cl := hid (light_any leaf r co cn cc cs _ (h.keep BC.out) hB)
  rw [hl] at cl
  have h' := hid h
  have hb' := hid hb
  have hx' := hid hx
  have hn' : (n : Int) ≤ 1000 := by omega
  have cg := hid (fun W hc => good_any leaf r co cn cc cs W hc hcn)
  have cft := hid (fun W hc => fits_any leaf r co cn cc cs W hc hf)
  have cpz := hid (fun W hr => parse_no ao n cap xs W hr hx hok)
  have cby := hid (fun W hc => bytes_yes leaf r co cn cc cs W hc hf hhas)
  have hok3 : ∀ a ∈ cs, I64 a.k := fun a ha => (h.ok a ha).kI
  have hpg := page_back leaf r cs hok3 hhas
  have hip := page_isP leaf r cs hok3 hhas
  have h8 := pageN_by8 leaf r cs h.ok
  have cpp : Hid (∀ W g, Rd W (some ⟨g, 0, none⟩) 512 512 (pageN leaf r cs) → Calls Try.prog 9 #[.slice (some ⟨g, 0, none⟩) 512 512] W fun e w' => ∃ co' cc' ds, e = .returned (.tuple #[.agg #[.bool leaf, .int .i64 r, .slice co' cn cc'], .int .i64 0]) ∧ Cs w' co' cn cc' ds ∧ ds.map nrm = cs.map nrm ∧ Below W.heap.size W w') := hid (fun W g hr => by
    refine (parse_yes _ 512 512 (pageN leaf r cs) W hr h8 (by simp [okP, hip])).mono fun e w' ⟨co', cn', cc', ds, he, hC, hm, hb⟩ => ?_
    rw [hpg.1, hpg.2.1] at he
    rw [hpg.2.2] at hm
    have hln : cn' = cn := by
      have h1 := congrArg List.length hm
      simp only [List.length_map] at h1
      have h2 := hC.len
      have h3 := h.len
      omega
    subst hln
    exact ⟨co', cc', ds, he, hC, hm, hb⟩)
  rw [show goodN leaf r cs = true by simp [hasN] at hhas; exact hhas.1] at cg
  rw [show decide (sizeN leaf cs ≤ 512) = true by simp [hasN] at hhas; simpa using hhas.2] at cft
  have csm := hid (fun W eo ec es fo fc fs' (h1 : Cs W eo cn ec es) (h2 : Cs W fo cn fc fs') (he : es.map nrm = fs'.map nrm) => same_true leaf r eo cn ec es fo fc fs' W h1 h2 he hcn)
  have cpl := hid (fun W eo ec es (h1 : Cs W eo cn ec es) => plain_any leaf r eo cn ec es W h1 hcn)
  generalize pageN leaf r cs = PG at *
  clear hpg hip hok3 h8
  clear h hb hx hl hok hhas hf hn
  go_enter Try.func5, Try.ntmps5
  go_upto_region 4 with (first | (go_at_call 7; refine cl.out.mono ?_; rintro e w1 ⟨rfl, hb⟩; replace BC := hid (gt BC.out hb); replace NC := hid (NC.out.keep hb); clear hb; (try clear u0 u1 u2); obtain ⟨u0, u1, u2⟩ := NC.out.cells) | (go_at_call 9; refine (cpz.out _ (hb'.out.keep BC.out)).mono ?_; rintro e w2 ⟨rfl, hb⟩; replace BC := hid (gt BC.out hb); replace NC := hid (NC.out.keep hb); clear hb; (try clear u0 u1 u2); obtain ⟨u0, u1, u2⟩ := NC.out.cells))
  have dz : Below w2.heap.size w2 (w2.alloc (.cells #[.bool false, .int .i64 0, .slice none 0 0] 24)).drew := (ext1 _).drew
  have g1 : SN (w2.alloc (.cells #[.bool false, .int .i64 0, .slice none 0 0] 24)).drew := rfl
  refine wp_region_K (S := SN) (fun _ => false) (by kernel_rfl) (g1) (fun hHeld => ?_)
  refine gkp 0 ?_
  refine gkp 1 ?_ (v := .bool false) (h := by intro W hSw; go_simp <;> first | done | decide | rfl)
  refine gkp 2 ?_
  refine gku 3 ?_
  refine gku 4 ?_
  refine gku 5 ?_
  refine gku 6 ?_
  refine gku 7 ?_
  refine gku 8 ?_
  refine gkp 9 ?_
  refine wpAnyK_done (by kernel_rfl) ?_ _
  replace BC := hid (gt BC.out dz)
  replace NC := hid (NC.out.keep dz)
  clear dz g1 u0 u1 u2
  obtain ⟨u0, u1, u2⟩ := NC.out.cells
  go_upto_region 10 with (first
    | (go_at_call 17; refine (cby.out _ (h'.out.keep BC.out)).mono ?_; rintro e w5 ⟨g5, rfl, _, hr5, hb⟩; have R5 := hid hr5; clear hr5; replace BC := hid (gt BC.out hb); replace NC := hid (NC.out.keep hb); clear hb; (try clear u0 u1 u2); obtain ⟨u0, u1, u2⟩ := NC.out.cells)
    | (go_at_call 12; refine (cg.out _ (h'.out.keep BC.out)).mono ?_; rintro e w6 ⟨rfl, hb⟩; replace R5 := hid (R5.out.keep hb); replace BC := hid (gt BC.out hb); replace NC := hid (NC.out.keep hb); clear hb; (try clear u0 u1 u2); obtain ⟨u0, u1, u2⟩ := NC.out.cells)
    | (go_at_call 16; refine (cft.out _ (h'.out.keep BC.out)).mono ?_; rintro e w7 ⟨rfl, hb⟩; replace R5 := hid (R5.out.keep hb); replace BC := hid (gt BC.out hb); replace NC := hid (NC.out.keep hb); clear hb; (try clear u0 u1 u2); obtain ⟨u0, u1, u2⟩ := NC.out.cells)
    | (go_at_call 9; refine (cpp.out _ _ R5.out).mono ?_; rintro e w9 ⟨po, pc, ds, rfl, hpc, hpe, hb⟩; have PC := hid hpc; have PE := hid hpe; clear hpc hpe; replace BC := hid (gt BC.out hb); replace NC := hid (NC.out.keep hb); clear hb; (try clear u0 u1 u2); obtain ⟨u0, u1, u2⟩ := NC.out.cells))
  have dz2 : Below w9.heap.size w9 (w9.alloc (.cells #[.bool leaf, .int .i64 r, .slice po cn pc] 24)).drew := (ext1 _).drew
  have g2 : SA w9.heap.size w.heap.size leaf leaf r r po co cn cn pc cc (w9.alloc (.cells #[.bool leaf, .int .i64 r, .slice po cn pc] 24)).drew := ⟨((NB.new 24 w9 leaf r po cn pc).keep (Below.refl _ _).drew).cells, (NC.out.keep dz2).cells⟩
  replace PC := hid (PC.out.keep dz2)
  replace BC := hid (gt BC.out dz2)
  clear dz2 u0 u1 u2
  refine wp_region_K (S := SA w9.heap.size w.heap.size leaf leaf r r po co cn cn pc cc) (fun _ => false) (by kernel_rfl) (g2) (fun hHeld => ?_)
  refine gkp 0 ?_
  refine gkp 1 ?_ (v := .bool true) (h := by intro W hSw; go_simp <;> first | done | decide | rfl)
  refine gkp 2 ?_
  refine gkt 3 ?_ (h := by intro W hSw; obtain ⟨⟨y0, y1, y2⟩, ⟨y3, y4, y5⟩⟩ := hSw; go_simp; first | done | with_reducible rfl)
  refine gkt 5 ?_ (h := by intro W hSw; obtain ⟨⟨y0, y1, y2⟩, ⟨y3, y4, y5⟩⟩ := hSw; go_simp; first | done | with_reducible rfl)
  refine gk1 4 (fun K hK => ?_)
  go_simp
  go_at_call 11; refine (cpl.out _ _ _ _ PC.out).mono ?_; rintro e w10 ⟨ao1, cap1, rfl, hp1, hb⟩; have hR : SA w9.heap.size w.heap.size leaf leaf r r po co cn cn pc cc w10 := hHeld.keep hb; have C1 := hid hp1; replace BC := hid (gt BC.out hb); clear hp1 hb
  refine hK.out _ _ hR (fun hHeld => ?_)
  clear hK K
  (try simp only [Act.put, sA, sZ, sS])
  refine gk1 6 (fun K hK => ?_)
  go_simp
  go_at_call 11; refine (cpl.out _ _ _ _ (h'.out.keep BC.out)).mono ?_; rintro e w11 ⟨ao2, cap2, rfl, hp2, hb⟩; have hR : SA w9.heap.size w.heap.size leaf leaf r r po co cn cn pc cc w11 := hHeld.keep hb; have C2 := hid hp2; replace C1 := hid (C1.out.keep hb); replace BC := hid (gt BC.out hb); clear hp2 hb
  refine hK.out _ _ hR (fun hHeld => ?_)
  clear hK K
  (try simp only [Act.put, sA, sZ, sS])
  refine gk1 7 (fun K hK => ?_)
  go_simp
  go_at_call 19; refine (csm.out _ _ _ _ _ _ _ C1.out C2.out PE.out).mono ?_; rintro e w12 ⟨rfl, hb⟩; have hR : SA w9.heap.size w.heap.size leaf leaf r r po co cn cn pc cc w12 := hHeld.keep hb; replace BC := hid (gt BC.out hb); clear hb
  refine hK.out _ _ hR (fun hHeld => ?_)
  clear hK K
  (try simp only [Act.put, sA, sZ, sS])
  refine gkp 8 ?_
  refine gkp 9 ?_
  refine gkp 10 ?_
  refine gkp 11 ?_
  refine gkp 12 ?_
  refine gkp 13 ?_
  refine gkp 14 ?_
  refine gk1 15 (fun K hK => ?_)
  go_simp
  go_at_call 8; refine (lv.out _).mono ?_; rintro e w13 ⟨rfl, hb⟩; have hR : SA w9.heap.size w.heap.size leaf leaf r r po co cn cn pc cc w13 := hHeld.keep hb; replace BC := hid (gt BC.out hb); clear hb
  refine hK.out _ _ hR (fun hHeld => ?_)
  clear hK K
  (try simp only [Act.put, sA, sZ, sS])
  refine gkp 16 ?_
  refine gkp 17 ?_
  refine wpAnyK_done (by kernel_rfl) ?_ _
  go_wp2
  go_ret
  exact ⟨rfl, BC.out⟩

set_option maxHeartbeats 4000000 in
set_option maxRecDepth 20000 in
theorem back_true_false (leaf : Bool) (r : Int) (co : Option Addr) (cn cc : Nat) (cs : List C) (ao : Option Addr) (n cap : Nat) (xs : List Nat) (w : World) (h : Cs w co cn cc cs) (hB : cn ≤ 9223372036854775807) (hb : Rd w ao n cap xs) (hx : ∀ x ∈ xs, x < 256) (hl : lightN cs = true) (hn : n ≤ 1000) (hok : okP n xs = true) (hhas : hasN leaf r cs = false) :
    Calls Try.prog 5 #[.agg #[.bool leaf, .int .i64 r, .slice co cn cc], .slice ao n cap] w fun e w' => e = .returned (.bool true) ∧ Below w.heap.size w w' := by
  have lv := hid lives_any
  have hf := light_few cs hl
  have hcn : cn ≤ 100000 := by have := light_len cs hl; have := h.len; omega
  have BC : Hid (Below w.heap.size w (w.alloc (.cells #[.bool leaf, .int .i64 r, .slice co cn cc] 24))) := hid (ext1 _)
  have NC := hid (NB.new 24 w leaf r co cn cc)
  obtain ⟨u0, u1, u2⟩ := NC.out.cells
  have cl := hid (light_any leaf r co cn cc cs _ (h.keep BC.out) hB)
  rw [hl] at cl
  have h' := hid h
  have hb' := hid hb
  have hx' := hid hx
  have hn' : (n : Int) ≤ 1000 := by omega
  have cg := hid (fun W hc => good_any leaf r co cn cc cs W hc hcn)
  have cft := hid (fun W hc => fits_any leaf r co cn cc cs W hc hf)
  have cpz := hid (fun W hr => parse_yes ao n cap xs W hr hx hok)
  have hok2 : n = 512 ∧ isP xs = true := by simpa [okP] using hok
  have hP2 : hasN (rnL xs) ((r3 xs).1 : Nat) (rnC xs) = true ∧ pageN (rnL xs) ((r3 xs).1 : Nat) (rnC xs) = xs := by
    have := hok2.2
    unfold isP at this
    simpa using this
  obtain ⟨sx, hsx⟩ : ∃ sx, sx = str xs := ⟨_, rfl⟩
  have cvx : Hid (∀ W, Rd W ao n cap xs → (convert 25 9 (.slice ao n cap)).run Try.prog W = .ok (.string sx) W) := hid (fun W hr => by rw [hsx]; exact conv_rd hr 25 9 5 Try.underlying25 Try.underlying5 (by kernel_rfl))
  have cbz : Hid (∀ W co cn cc (cs' : List C), Cs W co cn cc cs' → cs'.map nrm = rnC xs → Calls Try.prog 17 #[.agg #[.bool (rnL xs), .int .i64 ((r3 xs).1 : Nat), .slice co cn cc]] W fun e w' => ∃ g, e = .returned (.slice (some ⟨g, 0, none⟩) 512 512) ∧ (∀ W', Below w'.heap.size w' W' → (convert 25 9 (.slice (some ⟨g, 0, none⟩) 512 512)).run Try.prog W' = .ok (.string sx) W') ∧ Below W.heap.size W w') := hid (fun W co cn cc cs' hc he => by
    have hh : hasN (rnL xs) ((r3 xs).1 : Nat) cs' = true := by rw [← has_nrm, he]; exact hP2.1
    refine (bytes_yes (rnL xs) ((r3 xs).1 : Nat) co cn cc cs' W hc (cs_few hc hx he).1 hh).mono fun e w' ⟨g, he2, _, hr, hb⟩ => ⟨g, he2, fun W' hb' => ?_, hb⟩
    rw [← page_nrm, he, hP2.2] at hr
    rw [hsx]
    exact conv_rd (hr.keep hb') 25 9 5 Try.underlying25 Try.underlying5 (by kernel_rfl))
  obtain ⟨LX, hLX⟩ : ∃ L, L = rnL xs := ⟨_, rfl⟩
  obtain ⟨RX', hRX⟩ : ∃ R : Int, R = ((r3 xs).1 : Nat) := ⟨_, rfl⟩
  rw [← hLX, ← hRX] at cpz cbz
  replace hLX := hid hLX; replace hRX := hid hRX
  clear hP2 hok2 hsx
  have cby := hid (fun W hc => bytes_no leaf r co cn cc cs W hc hf hhas)
  have hGF : goodN leaf r cs = false ∨ (goodN leaf r cs = true ∧ decide (sizeN leaf cs ≤ 512) = false) := by
    unfold hasN at hhas
    cases hg : goodN leaf r cs with
    | false => exact Or.inl rfl
    | true => rw [hg] at hhas; exact Or.inr ⟨rfl, by simpa using hhas⟩
  generalize goodN leaf r cs = G at *
  generalize decide (sizeN leaf cs ≤ 512) = FI at *
  clear h hb hx hl hok hhas hf hn
  go_enter Try.func5, Try.ntmps5
  go_upto_region 4 with (first | (go_at_call 7; refine cl.out.mono ?_; rintro e w1 ⟨rfl, hb⟩; replace BC := hid (gt BC.out hb); replace NC := hid (NC.out.keep hb); clear hb; (try clear u0 u1 u2); obtain ⟨u0, u1, u2⟩ := NC.out.cells) | (go_at_call 9; refine (cpz.out _ (hb'.out.keep BC.out)).mono ?_; rintro e w2 ⟨xo, xn, xc, xcs, rfl, hxc, hxe, hb⟩; have XC := hid hxc; have XE := hid hxe; clear hxc hxe; replace BC := hid (gt BC.out hb); replace NC := hid (NC.out.keep hb); clear hb; (try clear u0 u1 u2); obtain ⟨u0, u1, u2⟩ := NC.out.cells))
  have dz : Below w2.heap.size w2 (w2.alloc (.cells #[.bool LX, .int .i64 RX', .slice xo xn xc] 24)).drew := (ext1 _).drew
  have g1 : SB w2.heap.size LX RX' xo xn xc ao n cap sx (w2.alloc (.cells #[.bool LX, .int .i64 RX', .slice xo xn xc] 24)).drew := ⟨((NB.new 24 w2 LX RX' xo xn xc).keep (Below.refl _ _).drew).cells, cvx.out _ (hb'.out.keep (gt BC.out dz))⟩
  have XK := hid (XC.out.keep dz)
  replace BC := hid (gt BC.out dz)
  replace NC := hid (NC.out.keep dz)
  clear dz u0 u1 u2 XC
  refine wp_region_K (S := SB w2.heap.size LX RX' xo xn xc ao n cap sx) (fun _ => false) (by kernel_rfl) (g1) (fun hHeld => ?_)
  refine gkp 0 ?_
  refine gkp 1 ?_ (v := .bool true) (h := by intro W hSw; go_simp <;> first | done | decide | rfl)
  refine gkp 2 ?_
  refine gkt 3 ?_ (h := by intro W hSw; obtain ⟨⟨y0, y1, y2⟩, y3⟩ := hSw; go_simp; first | done | with_reducible rfl)
  refine gkp 6 ?_
  refine gkt 7 ?_ (h := by intro W hSw; obtain ⟨⟨y0, y1, y2⟩, y3⟩ := hSw; go_simp; first | done | with_reducible rfl)
  refine gk1 4 (fun K hK => ?_)
  go_simp
  go_at_call 17; refine (cbz.out _ _ _ _ _ XK.out XE.out).mono ?_; rintro e w3 ⟨g, rfl, hcv, hb⟩; have hR : SB w2.heap.size LX RX' xo xn xc ao n cap sx w3 := ⟨⟨keep_old hb hHeld.1.1, keep_old hb hHeld.1.2.1, keep_old hb hHeld.1.2.2⟩, cvx.out _ (hb'.out.keep (gt BC.out hb))⟩; replace BC := hid (gt BC.out hb); replace NC := hid (NC.out.keep hb); have CV := hid hcv; clear hb hcv
  refine hK.out _ _ hR (fun hHeld => ?_)
  clear hK K
  (try simp only [Act.put, sA, sZ, sS])
  have hH2 : (SB w2.heap.size LX RX' xo xn xc ao n cap sx) w3 ∧ (convert 25 9 (.slice (some ⟨g, 0, none⟩) 512 512)).run Try.prog w3 = .ok (.string sx) w3 := ⟨hHeld, CV.out _ (Below.refl _ _)⟩
  refine wpAnyK_more (S' := (fun W => (SB w2.heap.size LX RX' xo xn xc ao n cap sx) W ∧ (convert 25 9 (.slice (some ⟨g, 0, none⟩) 512 512)).run Try.prog W = .ok (.string sx) W)) (fun _ h => h.1) ?_
  clear hHeld
  refine gkt 5 ?_ (h := by intro W hSw; obtain ⟨⟨⟨y0, y1, y2⟩, y3⟩, y4⟩ := hSw; go_simp; first | done | with_reducible rfl)
  refine gkp 8 ?_ (v := .bool false) (h := by intro W hSw; go_simp <;> first | done | simp)
  refine gkp 9 ?_
  refine wpAnyK_done (by kernel_rfl) ?_ _
  clear g1
  obtain ⟨u0, u1, u2⟩ := NC.out.cells
  rcases hGF with rfl | ⟨rfl, rfl⟩
  all_goals
    go_wp2_with (first
      | (go_at_call 17; refine (cby.out _ (h'.out.keep BC.out)).mono ?_; rintro e w5 ⟨rfl, hb⟩; replace BC := hid (gt BC.out hb); replace NC := hid (NC.out.keep hb); clear hb; (try clear u0 u1 u2); obtain ⟨u0, u1, u2⟩ := NC.out.cells)
      | (go_at_call 12; refine (cg.out _ (h'.out.keep BC.out)).mono ?_; rintro e w6 ⟨rfl, hb⟩; replace BC := hid (gt BC.out hb); replace NC := hid (NC.out.keep hb); clear hb; (try clear u0 u1 u2); obtain ⟨u0, u1, u2⟩ := NC.out.cells)
      | (go_at_call 16; refine (cft.out _ (h'.out.keep BC.out)).mono ?_; rintro e w7 ⟨rfl, hb⟩; replace BC := hid (gt BC.out hb); replace NC := hid (NC.out.keep hb); clear hb; (try clear u0 u1 u2); obtain ⟨u0, u1, u2⟩ := NC.out.cells)
      | (go_at_call 8; refine (lv.out _).mono ?_; rintro e w8 ⟨rfl, hb⟩; replace BC := hid (gt BC.out hb); replace NC := hid (NC.out.keep hb); clear hb; (try clear u0 u1 u2); obtain ⟨u0, u1, u2⟩ := NC.out.cells))
    go_ret
    exact ⟨rfl, BC.out⟩

set_option maxHeartbeats 4000000 in
set_option maxRecDepth 20000 in
theorem back_true_true (leaf : Bool) (r : Int) (co : Option Addr) (cn cc : Nat) (cs : List C) (ao : Option Addr) (n cap : Nat) (xs : List Nat) (w : World) (h : Cs w co cn cc cs) (hB : cn ≤ 9223372036854775807) (hb : Rd w ao n cap xs) (hx : ∀ x ∈ xs, x < 256) (hl : lightN cs = true) (hn : n ≤ 1000) (hok : okP n xs = true) (hhas : hasN leaf r cs = true) :
    Calls Try.prog 5 #[.agg #[.bool leaf, .int .i64 r, .slice co cn cc], .slice ao n cap] w fun e w' => e = .returned (.bool true) ∧ Below w.heap.size w w' := by
  have lv := hid lives_any
  have hf := light_few cs hl
  have hcn : cn ≤ 100000 := by have := light_len cs hl; have := h.len; omega
  have BC : Hid (Below w.heap.size w (w.alloc (.cells #[.bool leaf, .int .i64 r, .slice co cn cc] 24))) := hid (ext1 _)
  have NC := hid (NB.new 24 w leaf r co cn cc)
  obtain ⟨u0, u1, u2⟩ := NC.out.cells
  have cl := hid (light_any leaf r co cn cc cs _ (h.keep BC.out) hB)
  rw [hl] at cl
  have h' := hid h
  have hb' := hid hb
  have hx' := hid hx
  have hn' : (n : Int) ≤ 1000 := by omega
  have cg := hid (fun W hc => good_any leaf r co cn cc cs W hc hcn)
  have cft := hid (fun W hc => fits_any leaf r co cn cc cs W hc hf)
  have cpz := hid (fun W hr => parse_yes ao n cap xs W hr hx hok)
  have hok2 : n = 512 ∧ isP xs = true := by simpa [okP] using hok
  have hP2 : hasN (rnL xs) ((r3 xs).1 : Nat) (rnC xs) = true ∧ pageN (rnL xs) ((r3 xs).1 : Nat) (rnC xs) = xs := by
    have := hok2.2
    unfold isP at this
    simpa using this
  obtain ⟨sx, hsx⟩ : ∃ sx, sx = str xs := ⟨_, rfl⟩
  have cvx : Hid (∀ W, Rd W ao n cap xs → (convert 25 9 (.slice ao n cap)).run Try.prog W = .ok (.string sx) W) := hid (fun W hr => by rw [hsx]; exact conv_rd hr 25 9 5 Try.underlying25 Try.underlying5 (by kernel_rfl))
  have cbz : Hid (∀ W co cn cc (cs' : List C), Cs W co cn cc cs' → cs'.map nrm = rnC xs → Calls Try.prog 17 #[.agg #[.bool (rnL xs), .int .i64 ((r3 xs).1 : Nat), .slice co cn cc]] W fun e w' => ∃ g, e = .returned (.slice (some ⟨g, 0, none⟩) 512 512) ∧ (∀ W', Below w'.heap.size w' W' → (convert 25 9 (.slice (some ⟨g, 0, none⟩) 512 512)).run Try.prog W' = .ok (.string sx) W') ∧ Below W.heap.size W w') := hid (fun W co cn cc cs' hc he => by
    have hh : hasN (rnL xs) ((r3 xs).1 : Nat) cs' = true := by rw [← has_nrm, he]; exact hP2.1
    refine (bytes_yes (rnL xs) ((r3 xs).1 : Nat) co cn cc cs' W hc (cs_few hc hx he).1 hh).mono fun e w' ⟨g, he2, _, hr, hb⟩ => ⟨g, he2, fun W' hb' => ?_, hb⟩
    rw [← page_nrm, he, hP2.2] at hr
    rw [hsx]
    exact conv_rd (hr.keep hb') 25 9 5 Try.underlying25 Try.underlying5 (by kernel_rfl))
  obtain ⟨LX, hLX⟩ : ∃ L, L = rnL xs := ⟨_, rfl⟩
  obtain ⟨RX', hRX⟩ : ∃ R : Int, R = ((r3 xs).1 : Nat) := ⟨_, rfl⟩
  rw [← hLX, ← hRX] at cpz cbz
  replace hLX := hid hLX; replace hRX := hid hRX
  clear hP2 hok2 hsx
  have cby := hid (fun W hc => bytes_yes leaf r co cn cc cs W hc hf hhas)
  have hok3 : ∀ a ∈ cs, I64 a.k := fun a ha => (h.ok a ha).kI
  have hpg := page_back leaf r cs hok3 hhas
  have hip := page_isP leaf r cs hok3 hhas
  have h8 := pageN_by8 leaf r cs h.ok
  have cpp : Hid (∀ W g, Rd W (some ⟨g, 0, none⟩) 512 512 (pageN leaf r cs) → Calls Try.prog 9 #[.slice (some ⟨g, 0, none⟩) 512 512] W fun e w' => ∃ co' cc' ds, e = .returned (.tuple #[.agg #[.bool leaf, .int .i64 r, .slice co' cn cc'], .int .i64 0]) ∧ Cs w' co' cn cc' ds ∧ ds.map nrm = cs.map nrm ∧ Below W.heap.size W w') := hid (fun W g hr => by
    refine (parse_yes _ 512 512 (pageN leaf r cs) W hr h8 (by simp [okP, hip])).mono fun e w' ⟨co', cn', cc', ds, he, hC, hm, hb⟩ => ?_
    rw [hpg.1, hpg.2.1] at he
    rw [hpg.2.2] at hm
    have hln : cn' = cn := by
      have h1 := congrArg List.length hm
      simp only [List.length_map] at h1
      have h2 := hC.len
      have h3 := h.len
      omega
    subst hln
    exact ⟨co', cc', ds, he, hC, hm, hb⟩)
  rw [show goodN leaf r cs = true by simp [hasN] at hhas; exact hhas.1] at cg
  rw [show decide (sizeN leaf cs ≤ 512) = true by simp [hasN] at hhas; simpa using hhas.2] at cft
  have csm := hid (fun W eo ec es fo fc fs' (h1 : Cs W eo cn ec es) (h2 : Cs W fo cn fc fs') (he : es.map nrm = fs'.map nrm) => same_true leaf r eo cn ec es fo fc fs' W h1 h2 he hcn)
  have cpl := hid (fun W eo ec es (h1 : Cs W eo cn ec es) => plain_any leaf r eo cn ec es W h1 hcn)
  generalize pageN leaf r cs = PG at *
  clear hpg hip hok3 h8
  clear h hb hx hl hok hhas hf hn
  go_enter Try.func5, Try.ntmps5
  go_upto_region 4 with (first | (go_at_call 7; refine cl.out.mono ?_; rintro e w1 ⟨rfl, hb⟩; replace BC := hid (gt BC.out hb); replace NC := hid (NC.out.keep hb); clear hb; (try clear u0 u1 u2); obtain ⟨u0, u1, u2⟩ := NC.out.cells) | (go_at_call 9; refine (cpz.out _ (hb'.out.keep BC.out)).mono ?_; rintro e w2 ⟨xo, xn, xc, xcs, rfl, hxc, hxe, hb⟩; have XC := hid hxc; have XE := hid hxe; clear hxc hxe; replace BC := hid (gt BC.out hb); replace NC := hid (NC.out.keep hb); clear hb; (try clear u0 u1 u2); obtain ⟨u0, u1, u2⟩ := NC.out.cells))
  have dz : Below w2.heap.size w2 (w2.alloc (.cells #[.bool LX, .int .i64 RX', .slice xo xn xc] 24)).drew := (ext1 _).drew
  have g1 : SB w2.heap.size LX RX' xo xn xc ao n cap sx (w2.alloc (.cells #[.bool LX, .int .i64 RX', .slice xo xn xc] 24)).drew := ⟨((NB.new 24 w2 LX RX' xo xn xc).keep (Below.refl _ _).drew).cells, cvx.out _ (hb'.out.keep (gt BC.out dz))⟩
  have XK := hid (XC.out.keep dz)
  replace BC := hid (gt BC.out dz)
  replace NC := hid (NC.out.keep dz)
  clear dz u0 u1 u2 XC
  refine wp_region_K (S := SB w2.heap.size LX RX' xo xn xc ao n cap sx) (fun _ => false) (by kernel_rfl) (g1) (fun hHeld => ?_)
  refine gkp 0 ?_
  refine gkp 1 ?_ (v := .bool true) (h := by intro W hSw; go_simp <;> first | done | decide | rfl)
  refine gkp 2 ?_
  refine gkt 3 ?_ (h := by intro W hSw; obtain ⟨⟨y0, y1, y2⟩, y3⟩ := hSw; go_simp; first | done | with_reducible rfl)
  refine gkp 6 ?_
  refine gkt 7 ?_ (h := by intro W hSw; obtain ⟨⟨y0, y1, y2⟩, y3⟩ := hSw; go_simp; first | done | with_reducible rfl)
  refine gk1 4 (fun K hK => ?_)
  go_simp
  go_at_call 17; refine (cbz.out _ _ _ _ _ XK.out XE.out).mono ?_; rintro e w3 ⟨g, rfl, hcv, hb⟩; have hR : SB w2.heap.size LX RX' xo xn xc ao n cap sx w3 := ⟨⟨keep_old hb hHeld.1.1, keep_old hb hHeld.1.2.1, keep_old hb hHeld.1.2.2⟩, cvx.out _ (hb'.out.keep (gt BC.out hb))⟩; replace BC := hid (gt BC.out hb); replace NC := hid (NC.out.keep hb); have CV := hid hcv; clear hb hcv
  refine hK.out _ _ hR (fun hHeld => ?_)
  clear hK K
  (try simp only [Act.put, sA, sZ, sS])
  have hH2 : (SB w2.heap.size LX RX' xo xn xc ao n cap sx) w3 ∧ (convert 25 9 (.slice (some ⟨g, 0, none⟩) 512 512)).run Try.prog w3 = .ok (.string sx) w3 := ⟨hHeld, CV.out _ (Below.refl _ _)⟩
  refine wpAnyK_more (S' := (fun W => (SB w2.heap.size LX RX' xo xn xc ao n cap sx) W ∧ (convert 25 9 (.slice (some ⟨g, 0, none⟩) 512 512)).run Try.prog W = .ok (.string sx) W)) (fun _ h => h.1) ?_
  clear hHeld
  refine gkt 5 ?_ (h := by intro W hSw; obtain ⟨⟨⟨y0, y1, y2⟩, y3⟩, y4⟩ := hSw; go_simp; first | done | with_reducible rfl)
  refine gkp 8 ?_ (v := .bool false) (h := by intro W hSw; go_simp <;> first | done | simp)
  refine gkp 9 ?_
  refine wpAnyK_done (by kernel_rfl) ?_ _
  clear g1
  obtain ⟨u0, u1, u2⟩ := NC.out.cells
  go_upto_region 10 with (first
    | (go_at_call 17; refine (cby.out _ (h'.out.keep BC.out)).mono ?_; rintro e w5 ⟨g5, rfl, _, hr5, hb⟩; have R5 := hid hr5; clear hr5; replace BC := hid (gt BC.out hb); replace NC := hid (NC.out.keep hb); clear hb; (try clear u0 u1 u2); obtain ⟨u0, u1, u2⟩ := NC.out.cells)
    | (go_at_call 12; refine (cg.out _ (h'.out.keep BC.out)).mono ?_; rintro e w6 ⟨rfl, hb⟩; replace R5 := hid (R5.out.keep hb); replace BC := hid (gt BC.out hb); replace NC := hid (NC.out.keep hb); clear hb; (try clear u0 u1 u2); obtain ⟨u0, u1, u2⟩ := NC.out.cells)
    | (go_at_call 16; refine (cft.out _ (h'.out.keep BC.out)).mono ?_; rintro e w7 ⟨rfl, hb⟩; replace R5 := hid (R5.out.keep hb); replace BC := hid (gt BC.out hb); replace NC := hid (NC.out.keep hb); clear hb; (try clear u0 u1 u2); obtain ⟨u0, u1, u2⟩ := NC.out.cells)
    | (go_at_call 9; refine (cpp.out _ _ R5.out).mono ?_; rintro e w9 ⟨po, pc, ds, rfl, hpc, hpe, hb⟩; have PC := hid hpc; have PE := hid hpe; clear hpc hpe; replace BC := hid (gt BC.out hb); replace NC := hid (NC.out.keep hb); clear hb; (try clear u0 u1 u2); obtain ⟨u0, u1, u2⟩ := NC.out.cells))
  have dz2 : Below w9.heap.size w9 (w9.alloc (.cells #[.bool leaf, .int .i64 r, .slice po cn pc] 24)).drew := (ext1 _).drew
  have g2 : SA w9.heap.size w.heap.size leaf leaf r r po co cn cn pc cc (w9.alloc (.cells #[.bool leaf, .int .i64 r, .slice po cn pc] 24)).drew := ⟨((NB.new 24 w9 leaf r po cn pc).keep (Below.refl _ _).drew).cells, (NC.out.keep dz2).cells⟩
  replace PC := hid (PC.out.keep dz2)
  replace BC := hid (gt BC.out dz2)
  clear dz2 u0 u1 u2
  refine wp_region_K (S := SA w9.heap.size w.heap.size leaf leaf r r po co cn cn pc cc) (fun _ => false) (by kernel_rfl) (g2) (fun hHeld => ?_)
  refine gkp 0 ?_
  refine gkp 1 ?_ (v := .bool true) (h := by intro W hSw; go_simp <;> first | done | decide | rfl)
  refine gkp 2 ?_
  refine gkt 3 ?_ (h := by intro W hSw; obtain ⟨⟨y0, y1, y2⟩, ⟨y3, y4, y5⟩⟩ := hSw; go_simp; first | done | with_reducible rfl)
  refine gkt 5 ?_ (h := by intro W hSw; obtain ⟨⟨y0, y1, y2⟩, ⟨y3, y4, y5⟩⟩ := hSw; go_simp; first | done | with_reducible rfl)
  refine gk1 4 (fun K hK => ?_)
  go_simp
  go_at_call 11; refine (cpl.out _ _ _ _ PC.out).mono ?_; rintro e w10 ⟨ao1, cap1, rfl, hp1, hb⟩; have hR : SA w9.heap.size w.heap.size leaf leaf r r po co cn cn pc cc w10 := hHeld.keep hb; have C1 := hid hp1; replace BC := hid (gt BC.out hb); clear hp1 hb
  refine hK.out _ _ hR (fun hHeld => ?_)
  clear hK K
  (try simp only [Act.put, sA, sZ, sS])
  refine gk1 6 (fun K hK => ?_)
  go_simp
  go_at_call 11; refine (cpl.out _ _ _ _ (h'.out.keep BC.out)).mono ?_; rintro e w11 ⟨ao2, cap2, rfl, hp2, hb⟩; have hR : SA w9.heap.size w.heap.size leaf leaf r r po co cn cn pc cc w11 := hHeld.keep hb; have C2 := hid hp2; replace C1 := hid (C1.out.keep hb); replace BC := hid (gt BC.out hb); clear hp2 hb
  refine hK.out _ _ hR (fun hHeld => ?_)
  clear hK K
  (try simp only [Act.put, sA, sZ, sS])
  refine gk1 7 (fun K hK => ?_)
  go_simp
  go_at_call 19; refine (csm.out _ _ _ _ _ _ _ C1.out C2.out PE.out).mono ?_; rintro e w12 ⟨rfl, hb⟩; have hR : SA w9.heap.size w.heap.size leaf leaf r r po co cn cn pc cc w12 := hHeld.keep hb; replace BC := hid (gt BC.out hb); clear hb
  refine hK.out _ _ hR (fun hHeld => ?_)
  clear hK K
  (try simp only [Act.put, sA, sZ, sS])
  refine gkp 8 ?_
  refine gkp 9 ?_
  refine gkp 10 ?_
  refine gkp 11 ?_
  refine gkp 12 ?_
  refine gkp 13 ?_
  refine gkp 14 ?_
  refine gk1 15 (fun K hK => ?_)
  go_simp
  go_at_call 8; refine (lv.out _).mono ?_; rintro e w13 ⟨rfl, hb⟩; have hR : SA w9.heap.size w.heap.size leaf leaf r r po co cn cn pc cc w13 := hHeld.keep hb; replace BC := hid (gt BC.out hb); clear hb
  refine hK.out _ _ hR (fun hHeld => ?_)
  clear hK K
  (try simp only [Act.put, sA, sZ, sS])
  refine gkp 16 ?_
  refine gkp 17 ?_
  refine wpAnyK_done (by kernel_rfl) ?_ _
  go_wp2
  go_ret
  exact ⟨rfl, BC.out⟩

theorem back_law (leaf : Bool) (r : Int) (co : Option Addr) (cn cc : Nat) (cs : List C) (ao : Option Addr) (n cap : Nat) (xs : List Nat) (w : World) (h : Cs w co cn cc cs) (hB : cn ≤ 9223372036854775807) (hb : Rd w ao n cap xs) (hx : ∀ x ∈ xs, x < 256) :
    Calls Try.prog 5 #[.agg #[.bool leaf, .int .i64 r, .slice co cn cc], .slice ao n cap] w fun e w' => e = .returned (.bool true) ∧ Below w.heap.size w w' := by
  cases hl : lightN cs with
  | false => exact back_no leaf r co cn cc cs ao n cap w h hB (Or.inl hl)
  | true =>
    by_cases hn : 1000 < n
    · exact back_no leaf r co cn cc cs ao n cap w h hB (Or.inr hn)
    · cases hok : okP n xs <;> cases hh : hasN leaf r cs
      · exact back_false_false leaf r co cn cc cs ao n cap xs w h hB hb hx hl (by omega) hok hh
      · exact back_false_true leaf r co cn cc cs ao n cap xs w h hB hb hx hl (by omega) hok hh
      · exact back_true_false leaf r co cn cc cs ao n cap xs w h hB hb hx hl (by omega) hok hh
      · exact back_true_true leaf r co cn cc cs ao n cap xs w h hB hb hx hl (by omega) hok hh

end Go.Proofs.Ytbpcekhfjkodcaa
