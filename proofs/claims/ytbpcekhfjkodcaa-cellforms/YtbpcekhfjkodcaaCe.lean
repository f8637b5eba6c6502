/- What Parse returns; no statement of the seat is proved here. -/
import Derived.Test.YtbpcekhfjkodcaaCd
namespace Go.Proofs.Ytbpcekhfjkodcaa
open Go.RowKit

theorem cellB_nrm (leaf : Bool) (a : C) : cellB leaf (nrm a) = cellB leaf a := rfl
theorem rise_nrm : ∀ cs : List C, riseB (cs.map nrm) = riseB cs
  | [] => rfl
  | [_] => rfl
  | a :: b :: r => by
    have := rise_nrm (b :: r)
    simp only [List.map_cons] at this ⊢
    rw [rise_cons, rise_cons, this]
    rfl
theorem all_nrm (leaf : Bool) (cs : List C) : (cs.map nrm).all (cellB leaf) = cs.all (cellB leaf) := by
  rw [List.all_map]; rfl
theorem good_nrm (leaf : Bool) (r : Int) (cs : List C) : goodN leaf r (cs.map nrm) = goodN leaf r cs := by
  unfold goodN
  rw [rise_nrm]
  cases leaf
  · have := all_nrm false cs; simp only [Bool.false_eq_true, if_false]; rw [show (cs.map nrm).all aboveB = cs.all aboveB from this]
  · have := all_nrm true cs; simp only [if_true]; rw [show (cs.map nrm).all leafB = cs.all leafB from this]
theorem allN_nrm (leaf : Bool) (cs : List C) : allN leaf (cs.map nrm) = allN leaf cs := by
  induction cs with
  | nil => rfl
  | cons a l ih =>
    simp only [allN, List.map_cons, List.flatMap_cons] at ih ⊢
    rw [ih]; rfl
theorem size_nrm (leaf : Bool) (cs : List C) : sizeN leaf (cs.map nrm) = sizeN leaf cs := by
  unfold sizeN
  rw [← sumN_all, ← sumN_all, allN_nrm]
theorem has_nrm (leaf : Bool) (r : Int) (cs : List C) : hasN leaf r (cs.map nrm) = hasN leaf r cs := by unfold hasN; rw [good_nrm, size_nrm]
theorem page_nrm (leaf : Bool) (r : Int) (cs : List C) : pageN leaf r (cs.map nrm) = pageN leaf r cs := by unfold pageN; rw [allN_nrm, List.length_map]
theorem wr_nrm (leaf : Bool) (r : Int) (cs : List C) : wrN leaf r (cs.map nrm) = wrN leaf r cs := by unfold wrN; rw [has_nrm, page_nrm]

theorem rdCs_len (leaf : Bool) : ∀ (k : Nat) (o : Option (List Nat)), (rdCs leaf k o).length ≤ k
  | 0, _ => by simp [rdCs]
  | k + 1, o => by
    simp only [rdCs]
    split
    · have := rdCs_len leaf k (rdC leaf o).2; simp; omega
    · simp
theorem rdC_b (leaf : Bool) (o : Option (List Nat)) : (rdC leaf o).1.b.length ≤ 96 := by
  unfold rdC
  cases leaf
  · simp [rdA]
  · simp only [if_true, rdL, rl3]
    have := locN_le ((rl2 o).1 : Nat)
    cases (rl2 o).2 with
    | none => simp [bytesO]
    | some us =>
      simp only [bytesO]
      split
      · simp; omega
      · simp
theorem rdCs_b (leaf : Bool) : ∀ (k : Nat) (o : Option (List Nat)), ∀ a ∈ rdCs leaf k o, a.b.length ≤ 96
  | 0, _ => by simp [rdCs]
  | k + 1, o => by
    intro a ha
    simp only [rdCs] at ha
    split at ha
    · rcases List.mem_cons.1 ha with rfl | h
      · exact rdC_b leaf o
      · exact rdCs_b leaf k _ a h
    · cases ha
theorem rK_le (xs : List Nat) (hx : ∀ x ∈ xs, x < 256) : (r2 xs).1 ≤ 65535 := by
  unfold r2
  have hby : ∀ ys, (r1 xs).2 = some ys → ∀ x ∈ ys, x < 256 := by_num (o := some xs) (fun ys e => by simp only [Option.some.injEq] at e; subst e; exact hx) 1
  cases h4 : (r1 xs).2 with
  | none => simp [numO]
  | some us =>
    simp only [numO]
    split
    · rename_i hl
      have := psum_bound us 2 (hby us h4) hl
      simp at this ⊢
      omega
    · simp
theorem read_few {W : World} {co : Option Addr} {cn cc : Nat} {cs : List C} {xs : List Nat} (h : Cs W co cn cc cs) (hx : ∀ x ∈ xs, x < 256) (he : cs.map nrm = rnC xs) : Few cs := by
  constructor
  · have h1 := rdCs_len (rnL xs) (r2 xs).1 (r3 xs).2
    have h2 := rK_le xs hx
    have h3 := congrArg List.length he
    simp only [List.length_map, rnC] at h3
    omega
  · intro a ha
    have h1 : nrm a ∈ rnC xs := by rw [← he]; exact List.mem_map.2 ⟨a, ha, rfl⟩
    have h2 := rdCs_b _ _ _ (nrm a) h1
    have h3 := (h.ok a ha).rd.1
    have h4 : (nrm a).b = a.b := rfl
    rw [h4] at h2
    omega

theorem cells5 : Try.prog.cellsOf 5 = 1 := by kernel_rfl
theorem part5 (xs : List Nat) (i : Nat) (h : i < xs.length) (w : World) : (part 5 (bs xs).toArray i).run Try.prog w = .ok (.int .u8 ((xs.getD i 0 : Nat) : Int)) w := by
  have hb := bs_get xs i h
  simp [part, hb]
theorem items5 (xs ys : List Nat) (w : World) : ∀ is : List Nat, (∀ i ∈ is, i < xs.length ∧ i < ys.length) →
    (Op.eqItems 9999 5 1 (bs xs).toArray (bs ys).toArray is).run Try.prog w = .ok (is.all fun i => xs.getD i 0 == ys.getD i 0) w
  | [], _ => by simp [Op.eqItems]
  | i :: is, h => by
    have h1 := h i (by simp)
    have ih := items5 xs ys w is (fun j hj => h j (by simp [hj]))
    have pe : (Op.equalIn 9999 5 (.int .u8 ((xs.getD i 0 : Nat) : Int)) (.int .u8 ((ys.getD i 0 : Nat) : Int))).run Try.prog w = .ok (((xs.getD i 0 : Nat) : Int) == ((ys.getD i 0 : Nat) : Int)) w := run_equalIn_int w 9998 5 .u8 .u8 _ _ Try.underlying5
    have e : (((xs.getD i 0 : Nat) : Int) == ((ys.getD i 0 : Nat) : Int)) = (xs.getD i 0 == ys.getD i 0) := by
      rw [Bool.eq_iff_iff, beq_iff_eq, beq_iff_eq]; omega
    rw [e] at pe
    simp only [Op.eqItems, Sem.run_bind, Nat.mul_one, part5 xs i h1.1, part5 ys i h1.2, Result.andThen_ok, pe, List.all_cons]
    cases hb : (xs.getD i 0 == ys.getD i 0)
    · simp
    · simpa using ih
theorem all_eq (xs ys : List Nat) (n : Nat) (hx : xs.length = n) (hy : ys.length = n) : ((List.range n).all fun i => xs.getD i 0 == ys.getD i 0) = decide (xs = ys) := by
  rw [Bool.eq_iff_iff]
  simp only [List.all_eq_true, List.mem_range, beq_iff_eq, decide_eq_true_eq]
  constructor
  · intro h
    apply List.ext_getElem (by omega)
    intro i h1 h2
    have := h i (by omega)
    simpa [List.getD, List.getElem?_eq_getElem h1, List.getElem?_eq_getElem h2] using this
  · rintro rfl i _
    rfl
theorem eq60 (xs ys : List Nat) (hx : xs.length = 512) (hy : ys.length = 512) (w : World) : (Op.equalIn 10000 60 (.agg (bs xs).toArray) (.agg (bs ys).toArray)).run Try.prog w = .ok (decide (xs = ys)) w := by
  obtain ⟨i5, hi5, _⟩ := info_parts Try.info5
  rw [run_equalIn_array w 9999 _ _ Try.u60 hi5, cells5, items5 xs ys w (List.range 512) (fun i hi => by simp at hi; omega), all_eq xs ys 512 hx hy]

theorem ret_node2 {fn : Func} {a u : Tmp} (h : fn.results = #[.cell a 24, .tmp u]) {tmps : Array Value} {W : World} {q : Nat} {leaf : Bool} {r : Int} {co : Option Addr} {cn cc : Nat}
    (hp : tmps.getD a undef = .pointer (some ⟨q, 0, none⟩)) (hb : NB 24 W q leaf r co cn cc) : (results fn tmps).run Try.prog W = .ok (.tuple #[.agg #[.bool leaf, .int .i64 r, .slice co cn cc], tmps.getD u undef]) W := by
  have hu : ∃ fs, Try.prog.underlying 24 = some (.struct fs) := by
    have : (match Try.prog.underlying 24 with | some (.struct _) => true | _ => false) = true := by kernel_rfl
    cases hd : Try.prog.underlying 24 with
    | none => rw [hd] at this; cases this
    | some d => rw [hd] at this; cases d <;> simp at this ⊢
  obtain ⟨fs, hu⟩ := hu
  have hl := run_loadVar_row (P := Try.prog) W q 24 24 _ (0, 0) _ hb hu rfl (by kernel_rfl)
  rw [results_cell_tmp h, hp]
  simp [asAddr, hl]

theorem nb_at5 {t : TypeId} {W : World} {q : Nat} {leaf : Bool} {r : Int} {co : Option Addr} {cn cc : Nat} (h : NB t W q leaf r co cn cc) {b off : Nat} {a : C} (k : At5 W b off a) : b ≠ q := by
  rintro rfl
  obtain ⟨k0, k1, k2, _⟩ := k
  unfold NB at h
  simp only [World.cell?, h] at k0 k1 k2
  match off with
  | 0 => simp at k0
  | 1 => simp at k1
  | 2 => simp at k0
  | n + 3 => simp at k0
theorem nb_u8 {t : TypeId} {W : World} {q : Nat} {leaf : Bool} {r : Int} {co : Option Addr} {cn cc : Nat} (h : NB t W q leaf r co cn cc) {b off : Nat} {z : Int} (k : W.cell? ⟨b, off, none⟩ = some (.int .u8 z)) : b ≠ q := by
  rintro rfl
  unfold NB at h
  simp only [World.cell?, h] at k
  match off with
  | 0 => simp at k
  | 1 => simp at k
  | 2 => simp at k
  | n + 3 => simp at k
theorem Cs.other {t : TypeId} {W W' : World} {q : Nat} {leaf : Bool} {r : Int} {co' : Option Addr} {cn' cc' : Nat} (hn : NB t W q leaf r co' cn' cc') (hf : ∀ k, k ≠ q → W'.heap[k]? = W.heap[k]?) {co : Option Addr} {cn cc : Nat} {cs : List C} (h : Cs W co cn cc cs) : Cs W' co cn cc cs := by
  refine ⟨h.len, h.le, h.no, fun hp => ?_, fun a ha => ?_⟩
  · obtain ⟨b, off, e, hc⟩ := h.at_ hp
    refine ⟨b, off, e, fun t ht => ?_⟩
    have k := hc t ht
    have hb := hf b (nb_at5 hn k)
    unfold At5 at k ⊢
    simp only [World.cell?_of_block (w := W) (w' := W') (a := ⟨b, _, none⟩) hb]
    exact k
  · have ho := h.ok a ha
    refine { ho with rd := ⟨ho.rd.1, ho.rd.2.1, ho.rd.2.2.1, fun hp => ?_⟩ }
    obtain ⟨b, off, e, hc⟩ := ho.rd.2.2.2 hp
    refine ⟨b, off, e, fun t ht => ?_⟩
    rw [World.cell?_of_block (hf b (nb_u8 hn (hc t ht)))]
    exact hc t ht

/-- Is it a page? -/
def isP (xs : List Nat) : Bool := hasN (rnL xs) ((r3 xs).1 : Nat) (rnC xs) && decide (pageN (rnL xs) ((r3 xs).1 : Nat) (rnC xs) = xs)

set_option maxHeartbeats 1000000 in
theorem parse_len (ao : Option Addr) (n cap : Nat) (w : World) (hn : n ≠ 512) :
    Calls Try.prog 9 #[.slice ao n cap] w fun e w' => e = .returned (.tuple #[.agg #[.bool false, .int .i64 0, .slice none 0 0], .int .i64 9]) ∧ Below w.heap.size w w' := by
  have q0 := hid (NB.new 24 w false 0 none 0 0)
  have b0 : Hid (Below w.heap.size w (w.alloc (.cells #[.bool false, .int .i64 0, .slice none 0 0] 24))) := hid (ext1 _)
  have h1 : ((n : Int) == 512) = false := by simp; omega
  have h2 : ((n : Int) != 512) = true := by simp; omega
  clear hn
  go_enter Try.func9, Try.ntmps9
  go_wp2
  (try simp only [Exit.inBlock, Exit.then])
  refine bodyPost_ret (ret_node2 (a := 2) (u := 3) (by kernel_rfl) rfl q0.out) rfl ?_
  exact ⟨rfl, b0.out⟩

abbrev SP60 (t b off : Nat) (M1 M2 : List Value) (W : World) : Prop := (loadVar 60 ⟨t, 0, none⟩).run Try.prog W = .ok (.agg M1.toArray) W ∧ (loadVar 60 ⟨b, off, none⟩).run Try.prog W = .ok (.agg M2.toArray) W
theorem rd_load {W : World} {b off cap : Nat} {xs : List Nat} (h : Rd W (some ⟨b, off, none⟩) 512 cap xs) : (loadVar 60 ⟨b, off, none⟩).run Try.prog W = .ok (.agg (bs xs).toArray) W := by
  refine load60 h.1 fun j v hj => ?_
  obtain ⟨hj2, rfl⟩ := bs_get' xs j v hj
  obtain ⟨b', o', e, hc⟩ := h.2.2.2 (by omega)
  simp only [Option.some.injEq, Addr.mk.injEq, and_true] at e
  obtain ⟨rfl, rfl⟩ := e
  rw [Addr.add_lit]
  exact hc j (by have := h.1; omega)

set_option maxHeartbeats 4000000 in
set_option maxRecDepth 20000 in
theorem parse_page (ao : Option Addr) (cap : Nat) (xs : List Nat) (w : World) (h : Rd w ao 512 cap xs) (hx : ∀ x ∈ xs, x < 256) :
    Calls Try.prog 9 #[.slice ao 512 cap] w fun e w' => Below w.heap.size w w' ∧ ((isP xs = false ∧ e = .returned (.tuple #[.agg #[.bool false, .int .i64 0, .slice none 0 0], .int .i64 9])) ∨
      (isP xs = true ∧ ∃ co cn cc cs, e = .returned (.tuple #[.agg #[.bool (rnL xs), .int .i64 ((r3 xs).1 : Nat), .slice co cn cc], .int .i64 0]) ∧ Cs w' co cn cc cs ∧ cs.map nrm = rnC xs)) := by
  obtain ⟨b, off, rfl, hc⟩ := h.2.2.2 (by omega)
  clear hc
  have q0 := hid (NB.new 24 w false 0 none 0 0)
  have b0 : Hid (Below w.heap.size w (w.alloc (.cells #[.bool false, .int .i64 0, .slice none 0 0] 24))) := hid (ext1 _)
  have h' := hid h
  have cr : Hid (Calls Try.prog 30 #[.slice (some ⟨b, off, none⟩) 512 cap] (w.alloc (.cells #[.bool false, .int .i64 0, .slice none 0 0] 24)) fun e w' => ∃ co cn cc cs, e = .returned (.agg #[.bool (rnL xs), .int .i64 ((r3 xs).1 : Nat), .slice co cn cc]) ∧ Cs w' co cn cc cs ∧ cs.map nrm = rnC xs ∧ Below (w.alloc (.cells #[.bool false, .int .i64 0, .slice none 0 0] 24)).heap.size (w.alloc (.cells #[.bool false, .int .i64 0, .slice none 0 0] 24)) w') := hid (by
    cases hL : rnL xs with
    | true => exact read_true _ cap xs _ (h.keep b0.out) hx hL
    | false => exact read_false _ cap xs _ (h.keep b0.out) hx hL)
  have cw := hid (fun W co cn cc cs (hC : Cs W co cn cc cs) (he : cs.map nrm = rnC xs) => (show Calls Try.prog 31 #[.agg #[.bool (rnL xs), .int .i64 ((r3 xs).1 : Nat), .slice co cn cc]] W fun e w' => e = .returned (.tuple #[pgV (wrN (rnL xs) ((r3 xs).1 : Nat) (rnC xs)), .bool (hasN (rnL xs) ((r3 xs).1 : Nat) (rnC xs))]) ∧ Below W.heap.size W w' by
    have := written_any (rnL xs) ((r3 xs).1 : Nat) co cn cc cs W hC (read_few hC hx he)
    rw [← he, wr_nrm, has_nrm]; exact this))
  have hX : (wrN (rnL xs) ((r3 xs).1 : Nat) (rnC xs)).length = 512 := wrN_length _ _ _
  have EQ := fun W => eq60 (wrN (rnL xs) ((r3 xs).1 : Nat) (rnC xs)) xs hX h.1 W
  have hP : Hid (isP xs = (hasN (rnL xs) ((r3 xs).1 : Nat) (rnC xs) && decide (wrN (rnL xs) ((r3 xs).1 : Nat) (rnC xs) = xs))) := hid (by
    unfold isP wrN
    cases hasN (rnL xs) ((r3 xs).1 : Nat) (rnC xs) <;> simp)
  have al := hid alloc60
  have st : Hid (∀ W : World, (storeVar 60 ⟨W.heap.size, 0, none⟩ (pgV (wrN (rnL xs) ((r3 xs).1 : Nat) (rnC xs)))).run Try.prog (W.alloc (.cells (bs (zs 512)).toArray 60)) = .ok () ((W.alloc (.cells (bs (zs 512)).toArray 60)).setRow W.heap.size (bs (wrN (rnL xs) ((r3 xs).1 : Nat) (rnC xs))).toArray) ∧ PB ((W.alloc (.cells (bs (zs 512)).toArray 60)).setRow W.heap.size (bs (wrN (rnL xs) ((r3 xs).1 : Nat) (rnC xs))).toArray) W.heap.size (wrN (rnL xs) ((r3 xs).1 : Nat) (rnC xs))) := hid (fun W => (PB.new W).store hX)
  have hpv : ∀ x, pgV x = .agg (bs x).toArray := fun _ => rfl
  generalize isP xs = IP at *
  generalize hasN (rnL xs) ((r3 xs).1 : Nat) (rnC xs) = HS at *
  generalize wrN (rnL xs) ((r3 xs).1 : Nat) (rnC xs) = X at *
  generalize decide (X = xs) = DX at *
  generalize rnL xs = LF at *
  generalize (((r3 xs).1 : Nat) : Int) = RR at *
  generalize rnC xs = RC at *
  rw [hpv X] at cw st
  obtain ⟨M1, hM1⟩ : ∃ M1, M1 = bs X := ⟨_, rfl⟩
  obtain ⟨M2, hM2⟩ : ∃ M2, M2 = bs xs := ⟨_, rfl⟩
  obtain ⟨Z, hZ⟩ : ∃ Z, Z = zs 512 := ⟨_, rfl⟩
  rw [← hM1] at cw st EQ
  rw [← hM2] at EQ
  rw [← hZ] at st al
  have hld : Hid (∀ W, Rd W (some ⟨b, off, none⟩) 512 cap xs → (loadVar 60 ⟨b, off, none⟩).run Try.prog W = .ok (.agg M2.toArray) W) := hid (fun W hr => by rw [hM2]; exact rd_load hr)
  have hlp : Hid (∀ W t, PB W t X → (loadVar 60 ⟨t, 0, none⟩).run Try.prog W = .ok (.agg M1.toArray) W) := hid (fun W t hr => by rw [hM1]; exact hr.load)
  have EQ' := hid EQ
  have hat : ∀ W, (Instr.arrayAt 60 (.slice (some ⟨b, off, none⟩) 512 cap)).run Try.prog W = .ok (.pointer (some ⟨b, off, none⟩)) W := fun W => by simp [Instr.arrayAt, run_underlying Try.u60]
  clear h hx hX hpv hZ hM1 hM2 EQ
  go_enter Try.func9, Try.ntmps9
  go_upto_region 5 with (first
    | (go_at_call 30; refine cr.out.mono ?_; rintro e w1 ⟨co, cn, cc, cs, rfl, hC, he, hb⟩; have C1 := hid hC; have E1 := hid he; have B1 := hid hb; clear hC he hb)
    | (go_at_call 31; refine (cw.out _ co cn cc cs (C1.out.keep (ext1 _)) E1.out).mono ?_; rintro e w2 ⟨rfl, hb⟩; have B2 := hid (gt (ext1 (.cells #[.bool LF, .int .i64 RR, .slice co cn cc] 24)) hb); have N2 := hid ((NB.new 24 w1 LF RR co cn cc).keep hb); clear hb)
    | ((with_reducible refine here_op 5 ?_); refine wpList_alloc_run rfl 60 rfl _ _ (al.out _) ?_)
    | ((with_reducible refine here_store 60 ?_); refine wpList_store_run rfl 60 (.tmp 5) (.tmp 16) rfl ⟨w2.heap.size, 0, none⟩ rfl _ rfl _ (st.out _).1 ?_))
  obtain ⟨w3, hw3⟩ : ∃ w3, w3 = (w2.alloc (.cells (bs Z).toArray 60)).setRow w2.heap.size M1.toArray := ⟨_, rfl⟩
  rw [← hw3]
  have B3 : Below w2.heap.size w2 w3 := by rw [hw3]; exact below_row (ext1 _) (Nat.le_refl _) _
  have P3 := hid (show PB w3 w2.heap.size X by rw [hw3]; exact (st.out w2).2)
  have BB := hid (show Below w1.heap.size w1 w3 from gt B2.out B3)
  have BA := hid (show Below w.heap.size w w3 from gt (gt b0.out B1.out) BB.out)
  have N3 := hid (N2.out.keep B3)
  have Q3 := hid ((q0.out.keep B1.out).keep BB.out)
  obtain ⟨t5, ht5⟩ : ∃ t5, t5 = w2.heap.size := ⟨_, rfl⟩
  rw [← ht5] at P3 ⊢
  have g1 : SP60 t5 b off M1 M2 w3.drew := ⟨hlp.out _ _ (P3.out.keep (Below.refl _ _).drew), hld.out _ (h'.out.keep BA.out.drew)⟩
  obtain ⟨n0, n1, n2⟩ := N3.out.cells
  obtain ⟨v0, v1, v2⟩ := Q3.out.cells
  have f0 := Q3.out.fz 0; have f1 := Q3.out.fz 1; have f2 := Q3.out.fz 2
  clear hw3 B3 ht5 cr cw al st
  cases HS with
  | false =>
    have hIP : IP = false := hP.out
    refine wp_region_K (S := SP60 t5 b off M1 M2) (fun _ => false) (by kernel_rfl) (g1) (fun hHeld => ?_)
    refine gkp 0 ?_
    refine gkp 1 ?_
    refine gkp 2 ?_
    refine gku 3 ?_
    refine gku 4 ?_
    refine gku 5 ?_
    refine gku 6 ?_
    refine gku 7 ?_
    refine gkp 8 ?_
    refine wpAnyK_done (by kernel_rfl) ?_ _
    go_wp2
    (try simp only [Exit.inBlock, Exit.then])
    refine bodyPost_ret (ret_node2 (a := 2) (u := 3) (by kernel_rfl) rfl ((Q3.out.keep (Below.refl _ _).drew).set3 false 0 none 0 0)) rfl ?_
    exact ⟨below_set (below_set (below_set BA.out.drew (by simp) _) (by simp) _) (by simp) _, Or.inl ⟨hIP, rfl⟩⟩
  | true =>
    have EQ := EQ'.out
    cases DX with
    | false =>
      have hIP : IP = false := hP.out
      refine wp_region_K (S := SP60 t5 b off M1 M2) (fun _ => false) (by kernel_rfl) (g1) (fun hHeld => ?_)
      refine gkp 0 ?_
      refine gkp 1 ?_
      refine gkp 2 ?_
      refine gkt 3 ?_ (v := .agg M1.toArray) (h := by intro W hSw; obtain ⟨y0, y1⟩ := hSw; simp [execOp, Act.eval, Instr.loadAt, Instr.sureAddr, y0, Result.andThen])
      refine gkp 4 ?_
      refine gkp 5 ?_
      refine gkt 6 ?_ (v := .agg M2.toArray) (h := by intro W hSw; obtain ⟨y0, y1⟩ := hSw; simp [execOp, Act.eval, Instr.loadAt, Instr.sureAddr, y1, Result.andThen])
      refine gkp 7 ?_
      refine gkp 8 ?_
      refine wpAnyK_done (by kernel_rfl) ?_ _
      clear EQ
      go_wp2
      (try simp only [Exit.inBlock, Exit.then])
      refine bodyPost_ret (ret_node2 (a := 2) (u := 3) (by kernel_rfl) rfl ((Q3.out.keep (Below.refl _ _).drew).set3 false 0 none 0 0)) rfl ?_
      exact ⟨below_set (below_set (below_set BA.out.drew (by simp) _) (by simp) _) (by simp) _, Or.inl ⟨hIP, rfl⟩⟩
    | true =>
      have hIP : IP = true := hP.out
      refine wp_region_K (S := SP60 t5 b off M1 M2) (fun _ => false) (by kernel_rfl) (g1) (fun hHeld => ?_)
      refine gkp 0 ?_
      refine gkp 1 ?_
      refine gkp 2 ?_
      refine gkt 3 ?_ (v := .agg M1.toArray) (h := by intro W hSw; obtain ⟨y0, y1⟩ := hSw; simp [execOp, Act.eval, Instr.loadAt, Instr.sureAddr, y0, Result.andThen])
      refine gkp 4 ?_
      refine gkp 5 ?_
      refine gkt 6 ?_ (v := .agg M2.toArray) (h := by intro W hSw; obtain ⟨y0, y1⟩ := hSw; simp [execOp, Act.eval, Instr.loadAt, Instr.sureAddr, y1, Result.andThen])
      refine gkp 7 ?_
      refine gkp 8 ?_
      refine wpAnyK_done (by kernel_rfl) ?_ _
      clear EQ
      go_wp2
      (try simp only [Exit.inBlock, Exit.then])
      refine bodyPost_ret (ret_node2 (a := 2) (u := 3) (by kernel_rfl) rfl ((Q3.out.keep (Below.refl _ _).drew).set3 LF RR co cn cc)) rfl ?_
      refine ⟨below_set (below_set (below_set BA.out.drew (by simp) _) (by simp) _) (by simp) _, Or.inr ⟨hIP, co, cn, cc, cs, rfl, ?_, E1.out⟩⟩
      exact Cs.other (Q3.out.keep (Below.refl _ _).drew) (fun k hk => by show (((w3.setCell ⟨w.heap.size, 0, none⟩ (.bool LF)).setCell ⟨w.heap.size, 1, none⟩ (.int .i64 RR)).setCell ⟨w.heap.size, 2, none⟩ (.slice co cn cc)).heap[k]? = w3.heap[k]?; rw [heap_setCell_other _ _ k _ (by simpa using hk), heap_setCell_other _ _ k _ (by simpa using hk), heap_setCell_other _ _ k _ (by simpa using hk)]) (C1.out.keep BB.out.drew)

end Go.Proofs.Ytbpcekhfjkodcaa
