/- What the document's own Bytes returns; no statement of the seat is proved here. -/
import Derived.Test.YtbpcekhfjkodcaaDc
import Derived.Test.YtbpcekhfjkodcaaAl
import Derived.Lib.AppendZerosOnto
namespace Go.Proofs.Ytbpcekhfjkodcaa
open Go.RowKit

theorem zero_cells (k : Nat) : Builtin.zeroCells (Value.int .u8 0).cells k = (bs (List.replicate k 0)).toArray := by
  apply Array.ext'
  simp [Builtin.zeroCells, bs, Value.cells]
  apply List.ext_getElem
  · simp
  · intro i h1 h2
    simp [Nat.mod_one]

theorem run_append_zeros (B : Nat) (ty : TypeId) (v : Value) (n : Nat) (xs : List Nat) (w : World) (hown : w.ownsRow B 5 1 v n (bs xs)) (k : Nat) (hk : 0 < k) (hb : n + k ≤ 140737488355328) (hB : B ≤ w.heap.size) :
    ∃ v' w', (Builtin.append_ #[25, 3] ty #[v, .int .i64 (k : Int)]).run Try.prog w = .ok v' w' ∧ w'.ownsRow B 5 1 v' (n + k) (bs (xs ++ List.replicate k 0)) ∧ w.grownBy w' v.ownBlock := by
  obtain ⟨i5, hi5, hz0, hz1, hz2⟩ := info_parts Try.info5
  have hlx : xs.length = n := by simpa [bs] using hown.1
  have hlen : (bs (xs ++ List.replicate k 0)).length = (n + k) * 1 := by simp [bs, hlx]
  have t25 := Try.underlying25
  have t3 := Try.underlying3
  have hw : IntKind.i64.wrap (k : Int) = k := by rw [IntKind.wrap_i64]; omega
  have hneg : ¬ ((k : Int) < 0) := by omega
  have h48i : ¬ (281474976710656 < (k : Int) * (i5.bytes : Int)) := by rw [hz2]; omega
  have grown : ∀ (old : Nat), old < n + k → ∀ (row : Option Nat) (C : Array Value), C = (bs (xs ++ List.replicate k 0)).toArray ++ Builtin.zeroCells (Value.int .u8 0).cells (grownCap w (n + k) old 5 - (n + k)) →
      (w.drew.alloc (.cells C 5)).ownsRow B 5 1 (.slice (some ⟨w.heap.size, 0, none⟩) (n + k) (grownCap w (n + k) old 5)) (n + k) (bs (xs ++ List.replicate k 0)) ∧ w.grownBy (w.drew.alloc (.cells C 5)) row := by
    intro old ho row C hC
    subst hC
    have hge := grownCap_ge w (n + k) old 5
    have hcm := grownCap_le_maxLen w (n + k) old 5 (by unfold maxLen; omega)
    refine ⟨⟨hlen, .inr ⟨w.heap.size, _, _, rfl, hB, heap_alloc_new w.drew _, hge, hcm, ?_, ?_⟩⟩, ⟨rfl, rfl, rfl, by simp, fun j hj _ => Below.heap_alloc w.drew _ j hj⟩⟩
    · rw [zero_cells]; simp [bs]; omega
    · rw [← hlen]; simp
  rcases hown.2 with ⟨rfl, rfl⟩ | ⟨g, cap, cur, rfl, hbg, hg, hnc, hcm, hcs, htake⟩
  · obtain rfl : xs = [] := List.eq_nil_of_length_eq_zero hlx
    have hr := Lib.run_append_nil_zeros (P := Try.prog) w 25 3 ty 5 i5 (.int .u8 0) .i64 .i64 t25 t3 hi5 hz0 k (by omega) (by rw [hz1]; omega) (by omega) (by rw [hz2]; omega)
    have hgr := grown 0 (by omega) (Value.ownBlock (.slice none 0 0)) _ rfl
    simp only [Nat.zero_add, List.nil_append] at hgr ⊢
    refine ⟨_, _, hr, ?_⟩
    rw [zero_cells k]
    exact hgr
  · by_cases hroom : n + k ≤ cap
    · have hst := run_storeCells_at Try.prog g n 5 (bs (List.replicate k 0)) 0 cur w hg (by simp [bs, hcs]; omega) (bs_one _)
      simp only [Nat.add_zero] at hst
      have hr : (Builtin.append_ #[25, 3] ty #[.slice (some ⟨g, 0, none⟩) n cap, .int .i64 (k : Int)]).run Try.prog w = .ok (.slice (some ⟨g, 0, none⟩) (n + k) cap) (w.setRow g (cur.toList.take n ++ bs (List.replicate k 0) ++ cur.toList.drop (n + (bs (List.replicate k 0)).length)).toArray) := by
        simp [Builtin.append_, run_underlying t25, run_underlying t3, sizeOf, typeInfo, zeroValue, hi5, hz0, asInt, asIntOf, hw, hneg, h48i, hroom, Addr.add_lit, hz1, zero_cells, hst]
        intro h0
        omega
      refine ⟨_, _, hr, ⟨hlen, .inr ⟨g, cap, _, rfl, hbg, setRow_heap w g cur _ 5 _ hg, hroom, hcm, ?_, ?_⟩⟩, ⟨rfl, rfl, rfl, by simp, fun j _ hj => setRow_other w g j _ (fun e => hj (by simp [Value.ownBlock, e]))⟩⟩
      · simp [bs, hcs]; omega
      · rw [← hlen]
        have : cur.toList.take n = bs xs := by simpa using htake
        rw [this, bs_append]
        exact List.take_left
    · have holds : ∀ j u, (bs xs)[j]? = some u → w.cell? ((⟨g, 0, none⟩ : Addr).add j) = some u := hown.cells (g := g) rfl
      have hold : (Builtin.firstCells i5.size n (.slice (some ⟨g, 0, none⟩) n cap)).run Try.prog w.drew = .ok (bs xs).toArray w.drew := run_firstCells_some w.drew i5.size n ⟨g, 0, none⟩ n cap (bs xs) (by simp [bs, hz1, hlx]) (by simpa using holds)
      have hr := Lib.run_append_grow_zeros (P := Try.prog) w 25 3 ty 5 i5 (.int .u8 0) .i64 .i64 t25 t3 hi5 hz0 (some ⟨g, 0, none⟩) n cap (bs xs) hold k (by omega) (by omega) (by omega) (by omega) (by rw [hz2]; omega) (by rw [hz2]; exact growslice_fits (by omega) (by omega))
      have hgr := grown cap (by omega) (Value.ownBlock (.slice (some ⟨g, 0, none⟩) n cap)) _ rfl
      refine ⟨_, _, hr, ?_⟩
      rw [zero_cells k]
      simpa [bs_append] using hgr

/-- The same, for the walk. -/
theorem wpList_append_zeros {w : World} {ops : Array Oper} {rest : List Oper} {o : Oper} {a : Act} {Q : Exit → Act → World → Prop} (hgd : o.guard = none) (s x : Operand)
    (ho : o.op = .call { callee := .builtin .append, args := #[s, x], argTypes := #[25, 3] }) (B : Nat) (v : Value) (n : Nat) (xs : List Nat) (hs : a.eval s = v) (hown : w.ownsRow B 5 1 v n (bs xs))
    (k : Nat) (hx : a.eval x = .int .i64 (k : Int)) (hk : 0 < k) (hb : n + k ≤ 140737488355328) (hB : B ≤ w.heap.size)
    (h : ∀ v' w', w'.ownsRow B 5 1 v' (n + k) (bs (xs ++ List.replicate k 0)) → Below B w w' → wpList Try.prog ops Q rest (a.put o.dst v') w') : wpList Try.prog ops Q (o :: rest) a w := by
  obtain ⟨v', w', hr, h1, h2⟩ := run_append_zeros B o.type v n xs w hown k hk hb hB
  exact Lib.wpList_append_run w hgd s x 25 3 ho v _ hs hx v' w' hr (h v' w' h1 ((Below.refl B w).grown h2 hB fun j hj => (hown.lt j hj).1))


theorem run_append_zero (ty : TypeId) (g n cap : Nat) (hnc : n ≤ cap) (w : World) :
    (Builtin.append_ #[25, 3] ty #[.slice (some ⟨g, 0, none⟩) n cap, .int .i64 0]).run Try.prog w = .ok (.slice (some ⟨g, 0, none⟩) n cap) w := by
  obtain ⟨i5, hi5, hz0, hz1, hz2⟩ := info_parts Try.info5
  have t25 := Try.underlying25
  have t3 := Try.underlying3
  have hw : IntKind.i64.wrap 0 = 0 := by rw [IntKind.wrap_i64]; rfl
  simp [Builtin.append_, run_underlying t25, run_underlying t3, sizeOf, typeInfo, zeroValue, hi5, hz0, asInt, asIntOf, hw, hnc, Addr.add_lit, zero_cells, bs, storeCells]

end Go.Proofs.Ytbpcekhfjkodcaa

namespace Go.Proofs.Ytbpcekhfjkodcaa
open Go.RowKit

theorem own_keep9 {w w' : World} {B n : Nat} {v : Value} {xs : List Value} (h : w.ownsRow B 5 1 v n xs) (hb : Below w.heap.size w w') : w'.ownsRow B 5 1 v n xs := by
  refine ⟨h.1, ?_⟩
  rcases h.2 with h1 | ⟨g, cap, cur, e, hB, hg, h2⟩
  · exact Or.inl h1
  · exact Or.inr ⟨g, cap, cur, e, hB, by rw [hb.block g (lt_of_block hg)]; exact hg, h2⟩
theorem wpList_append_zerosK {w : World} {ops : Array Oper} {rest : List Oper} {o : Oper} {a : Act} {Q : Exit → Act → World → Prop} (hgd : o.guard = none) (s x : Operand)
    (ho : o.op = .call { callee := .builtin .append, args := #[s, x], argTypes := #[25, 3] }) (B : Nat) (v : Value) (n : Nat) (xs : List Nat) (hs : a.eval s = v) (hown : w.ownsRow B 5 1 v n (bs xs)) (hn : 0 < n)
    (k : Nat) (hx : a.eval x = .int .i64 (k : Int)) (hb : n + k ≤ 140737488355328) (hB : B ≤ w.heap.size)
    (h : ∀ v' w', w'.ownsRow B 5 1 v' (n + k) (bs (xs ++ List.replicate k 0)) → Below B w w' → wpList Try.prog ops Q rest (a.put o.dst v') w') : wpList Try.prog ops Q (o :: rest) a w := by
  by_cases hk : 0 < k
  · exact wpList_append_zeros hgd s x ho B v n xs hs hown k hx hk hb hB h
  · obtain rfl : k = 0 := by omega
    rcases hown.2 with ⟨_, h2⟩ | ⟨g, cap, cur, e, _, _, hnc, _⟩
    · omega
    · subst e
      refine Lib.wpList_append_run w hgd s x 25 3 ho _ _ hs hx _ w (run_append_zero o.type g n cap hnc w) (h _ w ?_ (Below.refl _ _))
      simpa using hown

set_option maxHeartbeats 1000000 in
theorem rbytes9_no (leaf : Bool) (r : Int) (co : Option Addr) (cn cc : Nat) (cs : List C) (w : World) (h : Cs w co cn cc cs) (hf : Few cs) (hh : hasN leaf r cs = false) :
    Calls Try.prog 18 #[.agg #[.bool leaf, .int .i64 r, .slice co cn cc]] w fun e w' => e = .returned (.slice none 0 0) ∧ Below w.heap.size w w' := by
  have hcn : cn ≤ 100000 := by have := h.len; have := hf.1; omega
  have BC : Hid (Below w.heap.size w (w.alloc (.cells #[.bool leaf, .int .i64 r, .slice co cn cc] 33))) := hid (ext1 _)
  have NC := hid (NB.new 33 w leaf r co cn cc)
  obtain ⟨u0, u1, u2⟩ := NC.out.cells
  have h' := hid h
  have cg := hid (fun W hc => rgood_any leaf r co cn cc cs W hc hcn)
  have cz := hid (fun W hc => rsize_any9 leaf r co cn cc cs W hc hf)
  have hGF : goodN leaf r cs = false ∨ (goodN leaf r cs = true ∧ 512 < sizeN leaf cs) := by
    unfold hasN at hh
    cases hg : goodN leaf r cs with
    | false => exact Or.inl rfl
    | true => rw [hg] at hh; right; exact ⟨rfl, by simpa using hh⟩
  generalize goodN leaf r cs = G at *
  generalize sizeN leaf cs = SZ at *
  clear h hf hh
  rcases hGF with rfl | ⟨rfl, hs⟩
  · go_enter Try.func18, Try.ntmps18
    go_wp2_with (go_at_call 13; refine (cg.out _ (h'.out.keep BC.out)).mono ?_; rintro e w1 ⟨rfl, hb⟩; replace BC := hid (gt BC.out hb); clear hb u0 u1 u2)
    go_ret
    exact ⟨rfl, BC.out⟩
  · have hs' : (512 : Int) < (SZ : Int) := by omega
    go_enter Try.func18, Try.ntmps18
    go_wp2_with (first
      | (go_at_call 13; refine (cg.out _ (h'.out.keep BC.out)).mono ?_; rintro e w1 ⟨rfl, hb⟩; replace BC := hid (gt BC.out hb); replace NC := hid (NC.out.keep hb); clear hb u0 u1 u2; obtain ⟨u0, u1, u2⟩ := NC.out.cells)
      | (go_at_call 15; refine (cz.out _ (h'.out.keep BC.out)).mono ?_; rintro e w2 ⟨rfl, hb⟩; replace BC := hid (gt BC.out hb); clear hb u0 u1 u2))
    go_ret
    exact ⟨rfl, BC.out⟩

abbrev SQ (q : Nat) (leaf : Bool) (r : Int) (co : Option Addr) (cn cc : Nat) (W : World) : Prop := W.cell? ⟨q, 0, none⟩ = some (.bool leaf) ∧ W.cell? ⟨q, 1, none⟩ = some (.int .i64 r) ∧ W.cell? ⟨q, 2, none⟩ = some (.slice co cn cc)
theorem NB.under' {t : TypeId} {W W' : World} {q B : Nat} {leaf : Bool} {r : Int} {co : Option Addr} {cn cc : Nat} (h : NB t W q leaf r co cn cc) (hb : Below B W W') (hq : q < B) : NB t W' q leaf r co cn cc := by
  unfold NB; rw [hb.block q hq]; exact h

set_option maxHeartbeats 4000000 in
set_option maxRecDepth 20000 in
theorem rbytes9_false (r : Int) (co : Option Addr) (cn cc : Nat) (cs : List C) (w : World) (h : Cs w co cn cc cs) (hf : Few cs) (hh : hasN false r cs = true) :
    Calls Try.prog 18 #[.agg #[.bool false, .int .i64 r, .slice co cn cc]] w fun e w' => ∃ ao cap, e = .returned (.slice ao 512 cap) ∧ Rd w' ao 512 cap (pageN false r cs) ∧ Below w.heap.size w w' := by
  have hcn : cn ≤ 100000 := by have := h.len; have := hf.1; omega
  have BC : Hid (Below w.heap.size w (w.alloc (.cells #[.bool false, .int .i64 r, .slice co cn cc] 33))) := hid (ext1 _)
  have NC := hid (NB.new 33 w false r co cn cc)
  obtain ⟨u0, u1, u2⟩ := NC.out.cells
  have h' := hid h
  have hl' := hid h.len
  have hf' := hid hf
  have hG : goodN false r cs = true ∧ sizeN false cs ≤ 512 := by simpa [hasN] using hh
  have cg := hid (fun W hc => rgood_any false r co cn cc cs W hc hcn)
  have cz := hid (fun W hc => rsize_any9 false r co cn cc cs W hc hf)
  rw [hG.1] at cg
  obtain ⟨SZ, hSZ⟩ : ∃ SZ, SZ = sizeN false cs := ⟨_, rfl⟩
  rw [← hSZ] at cz
  have hsz : ¬ (512 : Int) < (SZ : Int) := by omega
  have hT5 := hid hG.2
  obtain ⟨T, hT⟩ : ∃ T, T = hd7 false cn r ++ allN false cs := ⟨_, rfl⟩
  have hTl : T.length = sizeN false cs := by rw [hT, ← h.len]; exact raw_length _ _ _
  have hTp : pageN false r cs = padN T := by rw [hT, ← h.len]; rfl
  rw [hTp]
  replace hT := hid hT
  replace hTl := hid hTl
  have hd7e : Hid (hd7 false cn r = [2] ++ putN (uN (cn : Int)) 2 false ++ putN (uN r) 4 false) := hid (by unfold hd7; rw [show putN (uN (if false = true then 1 else 2)) 1 false = [2] by decide +kernel])
  have hu1 := uN_wrap (cn : Int)
  have hu2 := uN_wrap r
  generalize uN (cn : Int) = U1 at *
  generalize uN r = U2 at *
  have lp2 := hid (putN_length U1 2 false)
  have lp4 := hid (putN_length U2 4 false)
  clear h hf hh hG hTp hSZ
  go_enter Try.func18, Try.ntmps18
  go_upto_region 6 with (first
    | (go_at_call 13; refine (cg.out _ (h'.out.keep BC.out)).mono ?_; rintro e w2 ⟨rfl, hb⟩; replace BC := hid (gt BC.out hb); replace NC := hid (NC.out.keep hb); clear hb u0 u1 u2; obtain ⟨u0, u1, u2⟩ := NC.out.cells)
    | (go_at_call 15; refine (cz.out _ (h'.out.keep BC.out)).mono ?_; rintro e w3 ⟨rfl, hb⟩; replace BC := hid (gt BC.out hb); replace NC := hid (NC.out.keep hb); clear hb u0 u1 u2; obtain ⟨u0, u1, u2⟩ := NC.out.cells; have hlt := NC.out.lt))
  have E3 : Below w3.heap.size w3 (w3.alloc (.cells #[.int .u8 2] 5)) := ext1 _
  have RB := hid (show Rd (w3.alloc (.cells #[.int .u8 2] 5)).drew (some ⟨w3.heap.size, 0, none⟩) 1 1 [2] by rw [show (1 : Nat) = 1 from rfl]; exact (rd_one w3 2).keep (Below.refl _ _).drew)
  replace BC := hid (gt BC.out E3.drew)
  replace NC := hid (NC.out.keep E3.drew)
  have g1 : SQ w.heap.size false r co cn cc (w3.alloc (.cells #[.int .u8 2] 5)).drew := NC.out.cells
  clear u0 u1 u2 E3 hlt
  refine wp_region_K (S := SQ w.heap.size false r co cn cc) (fun _ => false) (by kernel_rfl) (g1) (fun hHeld => ?_)
  refine gkp 0 ?_
  refine gkp 1 ?_
  refine gkt 2 ?_ (h := by intro W hSw; obtain ⟨y0, y1, y2⟩ := hSw; go_simp; first | done | with_reducible rfl)
  refine gkp 3 ?_
  refine gkp 4 ?_ (v := .int .u64 (U1 : Int)) (h := by intro W hSw; go_simp <;> first | done | simp)
  refine gkp 6 ?_
  refine gkt 7 ?_ (h := by intro W hSw; obtain ⟨y0, y1, y2⟩ := hSw; go_simp; first | done | with_reducible rfl)
  refine gkp 8 ?_ (v := .int .u64 (U2 : Int)) (h := by intro W hSw; go_simp <;> first | done | simp)
  refine gk1 5 (fun K hK => ?_)
  go_simp
  go_at_call 46; refine (tput _ 1 1 _ U1 2 2 _ RB.out (by omega) rfl (by omega)).mono ?_; rintro e w4 ⟨⟨ao4, n4, c4, rfl, ho4, hr4⟩, hb⟩; have hR : SQ w.heap.size false r co cn cc w4 := ⟨keep_old hb hHeld.1, keep_old hb hHeld.2.1, keep_old hb hHeld.2.2⟩; have R4 := hid hr4; have NC3 := hid NC.out.lt; replace BC := hid (gt BC.out hb); replace NC := hid (NC.out.keep hb); clear ho4 hr4 hb
  refine hK.out _ _ hR (fun hHeld => ?_)
  clear hK K
  (try simp only [Act.put, sA, sZ, sS])
  refine gk1 9 (fun K hK => ?_)
  go_simp
  go_at_call 46; refine (tput _ _ _ _ U2 4 4 _ R4.out (by have h1 := R4.out.1; have h2 := lp2.out; simp at h1; omega) rfl (by omega)).mono ?_; rintro e w5 ⟨⟨ao5, n5, c5, rfl, ho5, hr5⟩, hb⟩; have hR : SQ w.heap.size false r co cn cc w5 := ⟨keep_old hb hHeld.1, keep_old hb hHeld.2.1, keep_old hb hHeld.2.2⟩; have O4 := hid ho5; replace R4 := hid hr5; replace NC3 := hid NC.out.lt; replace BC := hid (gt BC.out hb); replace NC := hid (NC.out.keep hb); clear ho5 hr5 hb
  refine hK.out _ _ hR (fun hHeld => ?_)
  clear hK K
  (try simp only [Act.put, sA, sZ, sS])
  refine gkp 10 ?_
  refine wpAnyK_done (by kernel_rfl) ?_ _
  obtain ⟨B, hB⟩ : ∃ B, B = w.heap.size + 1 := ⟨_, rfl⟩
  have O5 := hid (own_low (B := B) O4.out (by have h1 := NC3.out; omega))
  have hBs : Hid (B ≤ w5.heap.size) := hid (by have h1 := NC.out.lt; omega)
  have hqB : Hid (w.heap.size < B) := hid (by omega)
  clear hB cg cz O4 hHeld g1
  obtain ⟨u0, u1, u2⟩ := NC.out.cells
  have hr4 := R4.out.1
  have hn7 : n5 = 7 := by have h1 := lp2.out; have h2 := lp4.out; simp at hr4; omega
  subst hn7
  go_wp2
  go_loopw [3, 31] (fun s c W => ∃ (i : Nat) (ys : List Nat) (ao : Option Addr) (n cap : Nat), i ≤ cn ∧ c = .int .i64 (i : Int) ∧ s = .slice ao n cap ∧ Hid (ys ++ allN false (cs.drop i) = T ∧ W.ownsRow B 5 1 (.slice ao n cap) n (bs ys) ∧ 0 < n ∧ NB 33 W w.heap.size false r co cn cc ∧ Below w.heap.size w W ∧ B ≤ W.heap.size)) (fun _ c _ => cn - (intOf c).toNat)
  case atStart => exact ⟨0, [2] ++ putN U1 2 false ++ putN U2 4 false, _, 7, _, by omega, rfl, rfl, hid ⟨by rw [hT.out, hd7e.out]; rfl, O5.out, by omega, NC.out, BC.out, hBs.out⟩⟩
  case round =>
    obtain ⟨i, ys, ao, n, cap, hi, rfl, rfl, HH⟩ := hrel
    obtain ⟨hE, hO, hn0, hN, hW, hBW⟩ := HH.out
    have O := hid hO; have N := hid hN; have BW := hid hW
    replace hE := hid hE
    replace hBW := hid hBW
    replace hn0 := hid hn0
    clear hO hN hW HH O5 R4 BC NC hBs u0 u1 u2
    have hyl : ys.length = n := by simpa [bs] using O.out.1
    by_cases hik : i < cn
    · obtain ⟨b, off, rfl, hc⟩ := h'.out.at_ (by omega)
      have ha := hid ((h'.out.keep BW.out).ok_at hik)
      have hna : Hid ((cs.getD i default).n ≤ 100000) := hid (hf'.out.2 _ (by have hl := hl'.out; simp [List.getD, List.getElem?_eq_getElem (show i < cs.length by omega)]))
      obtain ⟨x0, x1, x2, x3, x4⟩ := (hc i hik).keep BW.out
      have hd := dropC cs i (by have := hl'.out; omega)
      generalize cs.getD i default = a at *
      have hEs : ys ++ oneN false a ++ allN false (cs.drop (i + 1)) = T := by rw [List.append_assoc, ← hE.out, hd]; simp [allN]
      have hlen : n + (oneN false a).length ≤ 512 := by
        have h1 := congrArg List.length hEs
        have h2 := hTl.out
        have h3 := hT5.out
        simp only [List.length_append] at h1
        omega
      have ca := hid (fun W' hc => one_any false a W' hc hna.out)
      have hEs' := hid hEs
      obtain ⟨L, hL⟩ : ∃ L, L = (oneN false a).length := ⟨_, rfl⟩
      rw [← hL] at hlen
      replace hL := hid hL
      obtain ⟨u0, u1, u2⟩ := N.out.cells
      have hlt := N.out.lt
      clear hd hc hE hEs
      go_wp2_with (first
        | (go_at_call 45; refine (ca.out _ (ha.out.keep (ext1 _))).mono ?_; rintro e w6 ⟨⟨ao6, n6, c6, rfl, _, hr6⟩, hb6⟩; have hn6 := hr6.1; rw [← hL.out] at hn6; subst hn6; have R6 := hid hr6; have H6 := hid (gt (show Below wr.heap.size wr _ from ext1 (.cells #[.int .i64 a.k, .int .i64 a.c, .int .i64 a.l, .slice a.o a.n a.m, .int .i64 a.x] 69)) hb6); clear hb6 hr6)
        | (at_builtin; refine wpList_append_rd rfl (.tmp 35) (.tmp 39) rfl B _ n ys rfl (own_keep9 O.out H6.out) ao6 L c6 (oneN false a) rfl R6.out (by omega) (by have h1 := hBW.out; have h2 := H6.out.size; omega) ?_; intro v7 w7 ho7 hb7; obtain ⟨ao7, c7, hv7, _⟩ := rd_owned ho7; subst hv7; have O7 := hid ho7; have H7 := hid hb7; clear ho7 hb7))
      refine ⟨⟨i + 1, ys ++ oneN false a, ao7, n + L, c7, by omega, by go_num, rfl, hid ⟨hEs'.out, O7.out, by have := hn0.out; omega, ?_, ?_, ?_⟩⟩, by simp [intOf]; omega⟩
      · exact NB.under' (N.out.keep H6.out) H7.out hqB.out
      · exact (gt BW.out H6.out).trans (H7.out.mono (by have := hqB.out; omega))
      · have h1 := hBW.out; have h2 := H6.out.size; have h3 := H7.out.size; omega
    · obtain rfl : i = cn := by omega
      have hEs := hE.out
      rw [List.drop_of_length_le (by have := hl'.out; omega)] at hEs
      simp only [allN, List.flatMap_nil, List.append_nil] at hEs
      subst hEs
      have hn5 : n ≤ 512 := by have h2 := hTl.out; have h3 := hT5.out; omega
      obtain ⟨k, hk⟩ : ∃ k : Nat, 512 = n + k := ⟨512 - n, by omega⟩
      have hk1 : (512 : Int) - (n : Int) = (k : Int) := by omega
      go_wp2_with (at_builtin; refine wpList_append_zerosK rfl (.tmp 42) (.tmp 45) rfl B _ n ys rfl O.out hn0.out k rfl (by omega) hBW.out ?_; intro v7 w7 ho7 hb7; obtain ⟨ao7, c7, hv7, hr7⟩ := rd_owned ho7; subst hv7; have R7 := hid hr7; have H7 := hid hb7; clear ho7 hb7 hr7)
      go_ret
      have hr := R7.out
      rw [← hk] at hr
      refine ⟨ao7, c7, by rw [hk]; rfl, ?_, BW.out.trans (H7.out.mono (by have := hqB.out; omega))⟩
      unfold padN zs
      rw [show 512 - ys.length = k by omega]
      exact hr

set_option maxHeartbeats 4000000 in
set_option maxRecDepth 20000 in
theorem rbytes9_true (r : Int) (co : Option Addr) (cn cc : Nat) (cs : List C) (w : World) (h : Cs w co cn cc cs) (hf : Few cs) (hh : hasN true r cs = true) :
    Calls Try.prog 18 #[.agg #[.bool true, .int .i64 r, .slice co cn cc]] w fun e w' => ∃ ao cap, e = .returned (.slice ao 512 cap) ∧ Rd w' ao 512 cap (pageN true r cs) ∧ Below w.heap.size w w' := by
  have hcn : cn ≤ 100000 := by have := h.len; have := hf.1; omega
  have BC : Hid (Below w.heap.size w (w.alloc (.cells #[.bool true, .int .i64 r, .slice co cn cc] 33))) := hid (ext1 _)
  have NC := hid (NB.new 33 w true r co cn cc)
  obtain ⟨u0, u1, u2⟩ := NC.out.cells
  have h' := hid h
  have hl' := hid h.len
  have hf' := hid hf
  have hG : goodN true r cs = true ∧ sizeN true cs ≤ 512 := by simpa [hasN] using hh
  have cg := hid (fun W hc => rgood_any true r co cn cc cs W hc hcn)
  have cz := hid (fun W hc => rsize_any9 true r co cn cc cs W hc hf)
  rw [hG.1] at cg
  obtain ⟨SZ, hSZ⟩ : ∃ SZ, SZ = sizeN true cs := ⟨_, rfl⟩
  rw [← hSZ] at cz
  have hsz : ¬ (512 : Int) < (SZ : Int) := by omega
  have hT5 := hid hG.2
  obtain ⟨T, hT⟩ : ∃ T, T = hd7 true cn r ++ allN true cs := ⟨_, rfl⟩
  have hTl : T.length = sizeN true cs := by rw [hT, ← h.len]; exact raw_length _ _ _
  have hTp : pageN true r cs = padN T := by rw [hT, ← h.len]; rfl
  rw [hTp]
  replace hT := hid hT
  replace hTl := hid hTl
  have hd7e : Hid (hd7 true cn r = [1] ++ putN (uN (cn : Int)) 2 false ++ putN (uN r) 4 false) := hid (by unfold hd7; rw [show putN (uN (if true = true then 1 else 2)) 1 false = [1] by decide +kernel])
  have hu1 := uN_wrap (cn : Int)
  have hu2 := uN_wrap r
  generalize uN (cn : Int) = U1 at *
  generalize uN r = U2 at *
  have lp2 := hid (putN_length U1 2 false)
  have lp4 := hid (putN_length U2 4 false)
  clear h hf hh hG hTp hSZ
  go_enter Try.func18, Try.ntmps18
  go_upto_region 6 with (first
    | (go_at_call 13; refine (cg.out _ (h'.out.keep BC.out)).mono ?_; rintro e w2 ⟨rfl, hb⟩; replace BC := hid (gt BC.out hb); replace NC := hid (NC.out.keep hb); clear hb u0 u1 u2; obtain ⟨u0, u1, u2⟩ := NC.out.cells)
    | (go_at_call 15; refine (cz.out _ (h'.out.keep BC.out)).mono ?_; rintro e w3 ⟨rfl, hb⟩; replace BC := hid (gt BC.out hb); replace NC := hid (NC.out.keep hb); clear hb u0 u1 u2; obtain ⟨u0, u1, u2⟩ := NC.out.cells; have hlt := NC.out.lt))
  have E3 : Below w3.heap.size w3 ((w3.alloc (.cells #[.int .u8 2] 5)).alloc (.cells #[.int .u8 1] 5)) := gt (ext1 _) (ext1 _)
  have RB := hid (show Rd ((w3.alloc (.cells #[.int .u8 2] 5)).alloc (.cells #[.int .u8 1] 5)).drew (some ⟨w3.heap.size + 1, 0, none⟩) 1 1 [1] by have := (rd_one (w3.alloc (.cells #[.int .u8 2] 5)) 1).keep (Below.refl _ _).drew; simpa using this)
  replace BC := hid (gt BC.out E3.drew)
  replace NC := hid (NC.out.keep E3.drew)
  have g1 : SQ w.heap.size true r co cn cc ((w3.alloc (.cells #[.int .u8 2] 5)).alloc (.cells #[.int .u8 1] 5)).drew := NC.out.cells
  clear u0 u1 u2 E3 hlt
  refine wp_region_K (S := SQ w.heap.size true r co cn cc) (fun _ => false) (by kernel_rfl) (g1) (fun hHeld => ?_)
  refine gkp 0 ?_
  refine gkp 1 ?_
  refine gkt 2 ?_ (h := by intro W hSw; obtain ⟨y0, y1, y2⟩ := hSw; go_simp; first | done | with_reducible rfl)
  refine gkp 3 ?_
  refine gkp 4 ?_ (v := .int .u64 (U1 : Int)) (h := by intro W hSw; go_simp <;> first | done | simp)
  refine gkp 6 ?_
  refine gkt 7 ?_ (h := by intro W hSw; obtain ⟨y0, y1, y2⟩ := hSw; go_simp; first | done | with_reducible rfl)
  refine gkp 8 ?_ (v := .int .u64 (U2 : Int)) (h := by intro W hSw; go_simp <;> first | done | simp)
  refine gk1 5 (fun K hK => ?_)
  go_simp
  go_at_call 46; refine (tput _ 1 1 _ U1 2 2 _ RB.out (by omega) rfl (by omega)).mono ?_; rintro e w4 ⟨⟨ao4, n4, c4, rfl, ho4, hr4⟩, hb⟩; have hR : SQ w.heap.size true r co cn cc w4 := ⟨keep_old hb hHeld.1, keep_old hb hHeld.2.1, keep_old hb hHeld.2.2⟩; have R4 := hid hr4; have NC3 := hid NC.out.lt; replace BC := hid (gt BC.out hb); replace NC := hid (NC.out.keep hb); clear ho4 hr4 hb
  refine hK.out _ _ hR (fun hHeld => ?_)
  clear hK K
  (try simp only [Act.put, sA, sZ, sS])
  refine gk1 9 (fun K hK => ?_)
  go_simp
  go_at_call 46; refine (tput _ _ _ _ U2 4 4 _ R4.out (by have h1 := R4.out.1; have h2 := lp2.out; simp at h1; omega) rfl (by omega)).mono ?_; rintro e w5 ⟨⟨ao5, n5, c5, rfl, ho5, hr5⟩, hb⟩; have hR : SQ w.heap.size true r co cn cc w5 := ⟨keep_old hb hHeld.1, keep_old hb hHeld.2.1, keep_old hb hHeld.2.2⟩; have O4 := hid ho5; replace R4 := hid hr5; replace NC3 := hid NC.out.lt; replace BC := hid (gt BC.out hb); replace NC := hid (NC.out.keep hb); clear ho5 hr5 hb
  refine hK.out _ _ hR (fun hHeld => ?_)
  clear hK K
  (try simp only [Act.put, sA, sZ, sS])
  refine gkp 10 ?_
  refine wpAnyK_done (by kernel_rfl) ?_ _
  obtain ⟨B, hB⟩ : ∃ B, B = w.heap.size + 1 := ⟨_, rfl⟩
  have O5 := hid (own_low (B := B) O4.out (by have h1 := NC3.out; omega))
  have hBs : Hid (B ≤ w5.heap.size) := hid (by have h1 := NC.out.lt; omega)
  have hqB : Hid (w.heap.size < B) := hid (by omega)
  clear hB cg cz O4 hHeld g1
  obtain ⟨u0, u1, u2⟩ := NC.out.cells
  have hr4 := R4.out.1
  have hn7 : n5 = 7 := by have h1 := lp2.out; have h2 := lp4.out; simp at hr4; omega
  subst hn7
  go_wp2
  go_loopw [3, 31] (fun s c W => ∃ (i : Nat) (ys : List Nat) (ao : Option Addr) (n cap : Nat), i ≤ cn ∧ c = .int .i64 (i : Int) ∧ s = .slice ao n cap ∧ Hid (ys ++ allN true (cs.drop i) = T ∧ W.ownsRow B 5 1 (.slice ao n cap) n (bs ys) ∧ 0 < n ∧ NB 33 W w.heap.size true r co cn cc ∧ Below w.heap.size w W ∧ B ≤ W.heap.size)) (fun _ c _ => cn - (intOf c).toNat)
  case atStart => exact ⟨0, [1] ++ putN U1 2 false ++ putN U2 4 false, _, 7, _, by omega, rfl, rfl, hid ⟨by rw [hT.out, hd7e.out]; rfl, O5.out, by omega, NC.out, BC.out, hBs.out⟩⟩
  case round =>
    obtain ⟨i, ys, ao, n, cap, hi, rfl, rfl, HH⟩ := hrel
    obtain ⟨hE, hO, hn0, hN, hW, hBW⟩ := HH.out
    have O := hid hO; have N := hid hN; have BW := hid hW
    replace hE := hid hE
    replace hBW := hid hBW
    replace hn0 := hid hn0
    clear hO hN hW HH O5 R4 BC NC hBs u0 u1 u2
    have hyl : ys.length = n := by simpa [bs] using O.out.1
    by_cases hik : i < cn
    · obtain ⟨b, off, rfl, hc⟩ := h'.out.at_ (by omega)
      have ha := hid ((h'.out.keep BW.out).ok_at hik)
      have hna : Hid ((cs.getD i default).n ≤ 100000) := hid (hf'.out.2 _ (by have hl := hl'.out; simp [List.getD, List.getElem?_eq_getElem (show i < cs.length by omega)]))
      obtain ⟨x0, x1, x2, x3, x4⟩ := (hc i hik).keep BW.out
      have hd := dropC cs i (by have := hl'.out; omega)
      generalize cs.getD i default = a at *
      have hEs : ys ++ oneN true a ++ allN true (cs.drop (i + 1)) = T := by rw [List.append_assoc, ← hE.out, hd]; simp [allN]
      have hlen : n + (oneN true a).length ≤ 512 := by
        have h1 := congrArg List.length hEs
        have h2 := hTl.out
        have h3 := hT5.out
        simp only [List.length_append] at h1
        omega
      have ca := hid (fun W' hc => one_any true a W' hc hna.out)
      have hEs' := hid hEs
      obtain ⟨L, hL⟩ : ∃ L, L = (oneN true a).length := ⟨_, rfl⟩
      rw [← hL] at hlen
      replace hL := hid hL
      obtain ⟨u0, u1, u2⟩ := N.out.cells
      have hlt := N.out.lt
      clear hd hc hE hEs
      go_wp2_with (first
        | (go_at_call 45; refine (ca.out _ (ha.out.keep (ext1 _))).mono ?_; rintro e w6 ⟨⟨ao6, n6, c6, rfl, _, hr6⟩, hb6⟩; have hn6 := hr6.1; rw [← hL.out] at hn6; subst hn6; have R6 := hid hr6; have H6 := hid (gt (show Below wr.heap.size wr _ from ext1 (.cells #[.int .i64 a.k, .int .i64 a.c, .int .i64 a.l, .slice a.o a.n a.m, .int .i64 a.x] 69)) hb6); clear hb6 hr6)
        | (at_builtin; refine wpList_append_rd rfl (.tmp 35) (.tmp 39) rfl B _ n ys rfl (own_keep9 O.out H6.out) ao6 L c6 (oneN true a) rfl R6.out (by omega) (by have h1 := hBW.out; have h2 := H6.out.size; omega) ?_; intro v7 w7 ho7 hb7; obtain ⟨ao7, c7, hv7, _⟩ := rd_owned ho7; subst hv7; have O7 := hid ho7; have H7 := hid hb7; clear ho7 hb7))
      refine ⟨⟨i + 1, ys ++ oneN true a, ao7, n + L, c7, by omega, by go_num, rfl, hid ⟨hEs'.out, O7.out, by have := hn0.out; omega, ?_, ?_, ?_⟩⟩, by simp [intOf]; omega⟩
      · exact NB.under' (N.out.keep H6.out) H7.out hqB.out
      · exact (gt BW.out H6.out).trans (H7.out.mono (by have := hqB.out; omega))
      · have h1 := hBW.out; have h2 := H6.out.size; have h3 := H7.out.size; omega
    · obtain rfl : i = cn := by omega
      have hEs := hE.out
      rw [List.drop_of_length_le (by have := hl'.out; omega)] at hEs
      simp only [allN, List.flatMap_nil, List.append_nil] at hEs
      subst hEs
      have hn5 : n ≤ 512 := by have h2 := hTl.out; have h3 := hT5.out; omega
      obtain ⟨k, hk⟩ : ∃ k : Nat, 512 = n + k := ⟨512 - n, by omega⟩
      have hk1 : (512 : Int) - (n : Int) = (k : Int) := by omega
      go_wp2_with (at_builtin; refine wpList_append_zerosK rfl (.tmp 42) (.tmp 45) rfl B _ n ys rfl O.out hn0.out k rfl (by omega) hBW.out ?_; intro v7 w7 ho7 hb7; obtain ⟨ao7, c7, hv7, hr7⟩ := rd_owned ho7; subst hv7; have R7 := hid hr7; have H7 := hid hb7; clear ho7 hb7 hr7)
      go_ret
      have hr := R7.out
      rw [← hk] at hr
      refine ⟨ao7, c7, by rw [hk]; rfl, ?_, BW.out.trans (H7.out.mono (by have := hqB.out; omega))⟩
      unfold padN zs
      rw [show 512 - ys.length = k by omega]
      exact hr

end Go.Proofs.Ytbpcekhfjkodcaa
