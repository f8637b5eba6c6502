/- A blob whose head was changed in one byte is none; no statement of the seat is proved here. -/
import Derived.Test.YtpmfedimjjifaaaDoorJ33
import Derived.Test.YtpmfedimjjifaaaDoorJ37
namespace Go.Proofs.YtpmfedimjjifaaaDoor
open Go.RowKit
open Bxs (boxL Rect noR goodR ptR Bd)

set_option maxRecDepth 100000 in
theorem U_I (v : Nat) (h : v < 18446744073709551616) : U (I v) = v := by
  unfold U I
  rw [IntKind.wrap_i64]
  omega
set_option maxRecDepth 100000 in
set_option maxHeartbeats 4000000 in
theorem put_8 (a0 a1 a2 a3 a4 a5 a6 a7 : Nat) (h : a0 < 256 ∧ a1 < 256 ∧ a2 < 256 ∧ a3 < 256 ∧ a4 < 256 ∧ a5 < 256 ∧ a6 < 256 ∧ a7 < 256) (r : List Nat) (l : Bool) : putN (psum (a0 :: a1 :: a2 :: a3 :: a4 :: a5 :: a6 :: a7 :: r) 8 l 8) 8 l = [a0, a1, a2, a3, a4, a5, a6, a7] := by
  obtain ⟨h0, h1, h2, h3, h4, h5, h6, h7⟩ := h
  cases l
  · have hp : psum (a0 :: a1 :: a2 :: a3 :: a4 :: a5 :: a6 :: a7 :: r) 8 false 8 = a0 * 72057594037927936 + a1 * 281474976710656 + a2 * 1099511627776 + a3 * 4294967296 + a4 * 16777216 + a5 * 65536 + a6 * 256 + a7 := by simp [psum, place]
    rw [hp]
    simp [putN, up, place]
    omega
  · have hp : psum (a0 :: a1 :: a2 :: a3 :: a4 :: a5 :: a6 :: a7 :: r) 8 true 8 = a0 + a1 * 256 + a2 * 65536 + a3 * 16777216 + a4 * 4294967296 + a5 * 1099511627776 + a6 * 281474976710656 + a7 * 72057594037927936 := by simp [psum, place]
    rw [hp]
    simp [putN, up, place]
    omega
set_option maxRecDepth 100000 in
theorem put_ps (ws : List Nat) (h8 : 8 ≤ ws.length) (hx : ∀ x ∈ ws, x < 256) (l : Bool) : putN (U (I (psum ws 8 l 8))) 8 l = ws.take 8 := by
  rw [U_I _ (psum_lt ws 8 l hx h8 (by omega) 8 (Nat.le_refl _))]
  match ws, h8 with
  | a0 :: a1 :: a2 :: a3 :: a4 :: a5 :: a6 :: a7 :: r, _ =>
    rw [put_8 a0 a1 a2 a3 a4 a5 a6 a7 ⟨hx a0 (by simp), hx a1 (by simp), hx a2 (by simp), hx a3 (by simp), hx a4 (by simp), hx a5 (by simp), hx a6 (by simp), hx a7 (by simp)⟩ r l]
    rfl
set_option maxRecDepth 100000 in
theorem ords_rd (zs : List Nat) (h : zs.length = 32) (hx : ∀ x ∈ zs, x < 256) (l : Bool) : ordsK (rdX zs l) l 4 = zs := by
  have d : ∀ k, ∀ x ∈ zs.drop k, x < 256 := fun k x hk => hx x (List.mem_of_mem_drop hk)
  rw [ords4]
  unfold rdX
  simp only
  rw [put_ps zs (by omega) hx, put_ps (zs.drop 8) (by rw [List.length_drop]; omega) (d 8), put_ps (zs.drop 16) (by rw [List.length_drop]; omega) (d 16), put_ps (zs.drop 24) (by rw [List.length_drop]; omega) (d 24)]
  have e3 : (zs.drop 24).take 8 = zs.drop 24 := List.take_of_length_le (by rw [List.length_drop]; omega)
  have e2 : (zs.drop 16).take 8 ++ zs.drop 24 = zs.drop 16 := by
    rw [show 24 = 16 + 8 from rfl, ← List.drop_drop]; exact List.take_append_drop 8 (zs.drop 16)
  have e1 : (zs.drop 8).take 8 ++ zs.drop 16 = zs.drop 8 := by
    rw [show 16 = 8 + 8 from rfl, ← List.drop_drop]; exact List.take_append_drop 8 (zs.drop 8)
  rw [e3, e2, e1]
  exact List.take_append_drop 8 zs
set_option maxRecDepth 100000 in
/-- What a made blob has at its places. -/
theorem made_parts {s : Sh} {id : Int} {l b : Bool} (hc : checkN s = 0) (ho : okS id = true) : (makeB s id l b).getD 3 0 = fl l (b && !(boxL (ptsOf s)).n) (boxL (ptsOf s)).n ∧ (makeB s id l b).drop (szH (b && !(boxL (ptsOf s)).n)) = encB s l ∧ szH (b && !(boxL (ptsOf s)).n) ≤ (makeB s id l b).length := by
  rw [make_head s id l b hc ho]
  have hl := headBs_len (headV (ptsOf s) id l b)
  refine ⟨?_, List.drop_left' hl, by rw [List.length_append, hl]; exact Nat.le_add_right _ _⟩
  simp [headBs, markN, headV]
set_option maxRecDepth 100000 in
theorem set_getD {xs : List Nat} {k v : Nat} (h : k < xs.length) : (xs.set k v).getD k 0 = v := by simp [List.getD, h]
set_option maxRecDepth 100000 in
theorem set_getD' {xs : List Nat} {k j v : Nat} (h : k ≠ j) : (xs.set k v).getD j 0 = xs.getD j 0 := by simp [List.getD, List.getElem?_set_ne h]
set_option maxRecDepth 100000 in
theorem bad_of {xs : List Nat} (h : ∀ hh t, ¬ Opn xs hh t) : ∃ e, openV xs = .bad e := by
  cases hd : openV xs with
  | bad e => exact ⟨e, rfl⟩
  | ok hh t => exact absurd (open_iff.1 hd) (h hh t)
set_option maxRecDepth 100000 in
theorem opn_t {S : Nat → Prop} {w : World} {s : Sh} (h : In S w s) (hr : Rg s) (hc : checkN s = 0) {l : Bool} {ys : List Nat} {hh : Hd} {t : T} (k : Opn ys hh t) (hd : ys.drop (szH hh.b) = encB s l) : hh.l = l ∧ hh.e = (boxL (ptsOf s)).n ∧ hh.x = (if hh.b && !(boxL (ptsOf s)).n then boxL (ptsOf s) else noR) := by
  obtain ⟨s1, e1⟩ := r0_enc h hr hc l
  obtain ⟨s2, e2⟩ := k.r
  rw [hd, e1] at e2
  injection e2 with e2 _
  have e := k.e
  rw [hd, ord_enc hc, ← e2, pt_of] at e
  have a := congrArg Hd.l e
  have b := congrArg Hd.e e
  have c := congrArg Hd.x e
  unfold headV at a b c
  exact ⟨a, b, c⟩
set_option maxRecDepth 100000 in
theorem opn_f {ys : List Nat} {hh : Hd} {t : T} (k : Opn ys hh t) : hh.l = (ys.getD 3 0 % 2 == 1) ∧ hh.e = (ys.getD 3 0 / 16 % 2 == 1) := ⟨congrArg Hd.l k.v, congrArg Hd.e k.v⟩
set_option maxRecDepth 100000 in
theorem fl_bits (l b e : Bool) : (fl l b e % 2 == 1) = l ∧ (fl l b e / 2 % 2 == 1) = b ∧ (fl l b e / 16 % 2 == 1) = e := by cases l <;> cases b <;> cases e <;> decide
set_option maxRecDepth 100000 in
/-- Another order in the flags. -/
theorem lie_order {S : Nat → Prop} {w : World} {s : Sh} (h : In S w s) (hr : Rg s) (hc : checkN s = 0) {id : Int} (ho : okS id = true) (l b : Bool) : ∃ e, openV ((makeB s id l b).set 3 (fl (!l) (b && !(boxL (ptsOf s)).n) (boxL (ptsOf s)).n)) = .bad e := by
  obtain ⟨p1, p2, p3⟩ := made_parts (l := l) (b := b) hc ho
  have h8 : 8 ≤ szH (b && !(boxL (ptsOf s)).n) := by unfold szH; split <;> omega
  apply bad_of
  intro hh t k
  have g : ((makeB s id l b).set 3 (fl (!l) (b && !(boxL (ptsOf s)).n) (boxL (ptsOf s)).n)).getD 3 0 = fl (!l) (b && !(boxL (ptsOf s)).n) (boxL (ptsOf s)).n := set_getD (by omega)
  have kb := k.b
  rw [g, (fl_bits _ _ _).2.1] at kb
  have kl := (opn_f k).1
  rw [g, (fl_bits _ _ _).1] at kl
  have hd : ((makeB s id l b).set 3 (fl (!l) (b && !(boxL (ptsOf s)).n) (boxL (ptsOf s)).n)).drop (szH hh.b) = encB s l := by
    rw [kb, List.drop_set_of_lt (by omega), p2]
  have := (opn_t h hr hc k hd).1
  rw [kl] at this
  cases l <;> cases this
set_option maxRecDepth 100000 in
/-- Another emptiness in the flags. -/
theorem lie_empty {S : Nat → Prop} {w : World} {s : Sh} (h : In S w s) (hr : Rg s) (hc : checkN s = 0) {id : Int} (ho : okS id = true) (l : Bool) : ∃ e, openV ((makeB s id l true).set 3 (fl l (!(boxL (ptsOf s)).n) (!(boxL (ptsOf s)).n))) = .bad e := by
  obtain ⟨p1, p2, p3⟩ := made_parts (l := l) (b := true) hc ho
  have h8 : 8 ≤ szH (true && !(boxL (ptsOf s)).n) := by unfold szH; split <;> omega
  apply bad_of
  intro hh t k
  have g : ((makeB s id l true).set 3 (fl l (!(boxL (ptsOf s)).n) (!(boxL (ptsOf s)).n))).getD 3 0 = fl l (!(boxL (ptsOf s)).n) (!(boxL (ptsOf s)).n) := set_getD (by omega)
  have kb := k.b
  rw [g, (fl_bits _ _ _).2.1] at kb
  have ke := (opn_f k).2
  rw [g, (fl_bits _ _ _).2.2] at ke
  have hd : ((makeB s id l true).set 3 (fl l (!(boxL (ptsOf s)).n) (!(boxL (ptsOf s)).n))).drop (szH hh.b) = encB s l := by
    rw [kb, List.drop_set_of_lt (by rw [Bool.true_and] at h8; omega)]
    exact p2
  have := (opn_t h hr hc k hd).2.1
  rw [ke] at this
  revert this
  cases (boxL (ptsOf s)).n <;> simp
set_option maxRecDepth 100000 in
/-- Another byte in the box. -/
theorem lie_box {S : Nat → Prop} {w : World} {s : Sh} (h : In S w s) (hr : Rg s) (hc : checkN s = 0) {id : Int} (ho : okS id = true) (l : Bool) (hn : (boxL (ptsOf s)).n = false) (k v : Nat) (hk : 8 ≤ k ∧ k < 40) (hv : v < 256) (hne : v ≠ (makeB s id l true).getD k 0) (hb : ∀ x ∈ makeB s id l true, x < 256) : ∃ e, openV ((makeB s id l true).set k v) = .bad e := by
  obtain ⟨p1, p2, p3⟩ := made_parts (l := l) (b := true) hc ho
  rw [hn] at p1 p2 p3
  simp only [Bool.true_and, Bool.not_false] at p1 p2 p3
  have h40 : 40 ≤ (makeB s id l true).length := p3
  apply bad_of
  intro hh t o
  have g : ((makeB s id l true).set k v).getD 3 0 = fl l true false := (set_getD' (by omega)).trans p1
  have kb := o.b
  rw [g, (fl_bits _ _ _).2.1] at kb
  have kl := (opn_f o).1
  rw [g, (fl_bits _ _ _).1] at kl
  have hd : ((makeB s id l true).set k v).drop (szH hh.b) = encB s l := by
    rw [kb, List.drop_set_of_lt (by show k < 40; omega)]
    exact p2
  have hxx := (opn_t h hr hc o hd).2.2
  rw [kb, hn] at hxx
  have hv2 := congrArg Hd.x o.v
  have fb : (flagH (((makeB s id l true).set k v).getD 3 0)).b = true := o.b.symm.trans kb
  have fl' : (flagH (((makeB s id l true).set k v).getD 3 0)).l = l := (opn_f o).1.symm.trans kl
  unfold fillV at hv2
  simp only [fb, fl', if_true] at hv2
  rw [hxx, kb] at hv2
  simp only [Bool.true_and, Bool.not_false, if_true] at hv2
  have ez : ((((makeB s id l true).set k v).drop 4).take (szH true - 4)).drop 4 = (((makeB s id l true).set k v).drop 8).take 32 := by
    rw [List.drop_take, List.drop_drop]; rfl
  rw [ez] at hv2
  have lz : ((((makeB s id l true).set k v).drop 8).take 32).length = 32 := by rw [List.length_take, List.length_drop, List.length_set]; omega
  have bz : ∀ x ∈ (((makeB s id l true).set k v).drop 8).take 32, x < 256 := by
    intro x hx
    have := List.mem_of_mem_drop (List.mem_of_mem_take hx)
    rcases List.mem_or_eq_of_mem_set this with h1 | h1
    · exact hb x h1
    · rw [h1]; exact hv
  have o1 := ords_rd _ lz bz l
  rw [← hv2] at o1
  have o2 : ((makeB s id l true).drop 8).take 32 = ordsK (boxL (ptsOf s)) l 4 := by
    rw [make_head s id l true hc ho]
    have e1 : headBs (headV (ptsOf s) id l true) = (markN ++ ([fl l true false] ++ putN (U id) 4 l)) ++ ordsK (boxL (ptsOf s)) l 4 := by simp [headBs, headV, hn]
    rw [e1, List.append_assoc, List.drop_left' (by simp [markN, putN_length]), List.take_left' (ords_len _ _)]
  have e3 := o1.symm.trans o2.symm
  have e4 := congrArg (fun q => q[k - 8]?) e3
  simp only [List.getElem?_take, List.getElem?_drop, show k - 8 < 32 by omega, if_true, show 8 + (k - 8) = k by omega] at e4
  rw [List.getElem?_set_self (by omega)] at e4
  apply hne
  rw [List.getD_eq_getElem?_getD, ← e4]
  rfl
end Go.Proofs.YtpmfedimjjifaaaDoor

/- The law BlobLies; no statement of the seat is proved here. -/
namespace Go.Proofs.YtpmfedimjjifaaaDoor
open Go.RowKit Go.Maps
open Bxs (boxL Rect)

theorem xor_fin : ∀ a : Fin 256, ∀ j : Fin 8, 0 ≤ bits .xor .u8 (a.val : Int) ((2 ^ j.val : Nat) : Int) ∧ bits .xor .u8 (a.val : Int) ((2 ^ j.val : Nat) : Int) < 256 ∧ bits .xor .u8 (a.val : Int) ((2 ^ j.val : Nat) : Int) ≠ (a.val : Int) := by decide +kernel
theorem xor_ex (a j : Nat) (ha : a < 256) (hj : j < 8) : ∃ v : Nat, bits .xor .u8 (a : Int) ((2 ^ j : Nat) : Int) = (v : Int) ∧ v < 256 ∧ v ≠ a := by
  obtain ⟨h1, h2, h3⟩ := xor_fin ⟨a, ha⟩ ⟨j, hj⟩
  simp only at h1 h2 h3
  exact ⟨(bits .xor .u8 (a : Int) ((2 ^ j : Nat) : Int)).toNat, by omega, by omega, by omega⟩
theorem xor_one (l b e : Bool) : bits .xor .u8 ((fl l b e : Nat) : Int) 1 = ((fl (!l) b e : Nat) : Int) := by cases l <;> cases b <;> cases e <;> decide +kernel
theorem xor_sixteen (l b e : Bool) : bits .xor .u8 ((fl l b e : Nat) : Int) 16 = ((fl l b (!e) : Nat) : Int) := by cases l <;> cases b <;> cases e <;> decide +kernel
theorem C3.keepN {N : Nat} {w w' : World} {b : Nat} {s : Sh} (h : C3 w b s) (k : Below N w w') (hb : b < N) : C3 w' b s := ⟨keep_cell k h.1 hb, keep_cell k h.2.1 hb, keep_cell k h.2.2 hb⟩
theorem own_made (W : World) (k : Nat) (hk : k = W.heap.size) : (W.alloc (.cells #[] 5)).ownsRow k 5 1 (.slice (some ⟨k, 0, none⟩) 0 0) 0 (bs []) := by
  subst hk
  exact World.ownsRow_made (base := W.heap.size) (e := 5) (size := 1) W #[] 0 (Nat.le_refl _) (by decide) rfl
theorem row_cell {w : World} {B g n cap : Nat} {xs : List Nat} (h : w.ownsRow B 5 1 (.slice (some ⟨g, 0, none⟩) n cap) n (bs xs)) (j : Nat) (hj : j < n) : w.cell? ⟨g, j, none⟩ = some (.int .u8 ((xs.getD j 0 : Nat) : Int)) ∧ B ≤ g := by
  have hr := rd_own h
  obtain ⟨b, off, e, hc⟩ := hr.2.2.2 (by omega)
  simp only [Option.some.injEq, Addr.mk.injEq, and_true] at e
  obtain ⟨rfl, rfl⟩ := e
  have := hc j hj
  rw [Nat.zero_add] at this
  exact ⟨this, (h.lt g rfl).1⟩
theorem cell1 {W : World} {A c i j : Nat} {v : Value} (hne : c ≠ A) : (W.setCell ⟨A, i, none⟩ v).cell? ⟨c, j, none⟩ = W.cell? ⟨c, j, none⟩ := World.cell?_of_block (heap_setCell_other _ _ _ _ hne)
set_option maxRecDepth 100000 in
set_option maxHeartbeats 16000000 in
theorem lies_short (s : Sh) (z : Int) (l x : Bool) (n : Nat) (w : World) (hT : Tab w) (h : In (fun b => b < w.heap.size) w s) (hl : (makeB s z l true).length < 40) : Calls Tryd.prog 5 #[.agg #[.int .i64 (s).k, .slice (s).xo (s).xn (s).xc, .slice (s).po (s).pn (s).pc], .agg #[.int .i64 z, .bool l, .bool x], .int .u64 (n : Int)] w fun e w' => e = .returned (.bool true) ∧ Below w.heap.size w w' := by
  have HS := hid (show Below w.heap.size w ((w.alloc (.cells #[.int .i64 (s).k, .slice (s).xo (s).xn (s).xc, .slice (s).po (s).pn (s).pc] 25)).alloc (.cells #[.int .i64 z, .bool l, .bool true] 27)) from gt (ext1 _) (ext1 _))
  have XQ := hid (C3.bx ((Bx.new w s).keep (ext1 (.cells #[.int .i64 z, .bool l, .bool true] 27))))
  have BQ : Hid (Bo ((w.alloc (.cells #[.int .i64 (s).k, .slice (s).xo (s).xn (s).xc, .slice (s).po (s).pn (s).pc] 25)).alloc (.cells #[.int .i64 z, .bool l, .bool true] 27)) (w.heap.size + 1) #[.int .i64 z, .bool l, .bool true] 27) := hid (by repeat (first | (refine at_new ?_; first | with_reducible rfl | (simp only [World.size_alloc]; done)) | refine at_old ?_))
  have EE : Hid ((((w.alloc (.cells #[.int .i64 (s).k, .slice (s).xo (s).xn (s).xc, .slice (s).po (s).pn (s).pc] 25)).alloc (.cells #[.int .i64 z, .bool l, .bool true] 27)).alloc (.cells #[] 5)).ownsRow (w.heap.size + 1 + 1) 5 1 (.slice (some ⟨w.heap.size + 1 + 1, 0, none⟩) 0 0) 0 (bs [])) := hid (by
    have k := World.ownsRow_made (base := w.heap.size + 1 + 1) (e := 5) (size := 1) ((w.alloc (.cells #[.int .i64 (s).k, .slice (s).xo (s).xn (s).xc, .slice (s).po (s).pn (s).pc] 25)).alloc (.cells #[.int .i64 z, .bool l, .bool true] 27)) #[] 0 (by simp only [World.size_alloc]; exact Nat.le_refl _) (by decide) rfl
    rw [World.size_alloc, World.size_alloc] at k
    exact k)
  have MK := hid (fun W (hb : Below w.heap.size w W) => make_call s z l true W (hT.keep hb) (h.grow hb))
  have LV := hid (fun W (hb : Below w.heap.size w W) => lives_call W (hT.keep hb))
  obtain ⟨X, hX⟩ : ∃ X, X = makeB s z l true := ⟨_, rfl⟩
  rw [← hX] at MK
  have SZ := hid (show X.length < 40 by rw [hX]; exact hl)
  clear hT h hX hl
  obtain ⟨x0, x1, x2⟩ := XQ.out
  have q0 := BQ.out.cell 0 _ rfl
  have q1 := BQ.out.cell 1 _ rfl
  go_enter Tryd.func5, Tryd.ntmps5
  go_wp2_with (first
    | (go_at_call 7; refine (MK.out _ (HS.out.alloc HS.out.size _)).mono ?_; rintro e v1 ⟨a1, n1, c1, rfl, o1, b1⟩; have R1 := hid (rd_own' o1); have z1 := hid (show w.heap.size + 1 + 1 ≤ v1.heap.size by have k := b1.size; simp only [World.size_alloc] at k; omega); have E1 := hid (own_below EE.out b1); have H1 := hid (gt (HS.out.alloc HS.out.size _) b1); have X1 := hid ((XQ.out.keep (ext1 (.cells #[] 5))).keep b1); clear o1 b1)
    | (at_builtin; go_loud (refine wpList_append_rd rfl (.tmp 22) (.tmp 28) rfl (w.heap.size + 1 + 1) _ 0 [] rfl E1.out _ n1 c1 X rfl R1.out (by have := SZ.out; have := R1.out.1; omega) z1.out ?_); intro v2 w2 o2 b2; rw [Nat.zero_add, List.nil_append] at o2; obtain ⟨ab, cb, rfl⟩ := row_form o2; have h40 : n1 < 40 := (by have := SZ.out; have := R1.out.1; omega); have RB := hid (rd_own' o2); have H2 := hid (H1.out.trans (b2.mono (show w.heap.size ≤ w.heap.size + 1 + 1 by omega))); have X2 := hid (C3.keepN X1.out b2 (by omega)); have N1 := hid R1.out.1; have z2 := hid (show w.heap.size < w2.heap.size by have k := b2.size; have k1 := z1.out; omega); clear o2 b2 E1 R1 H1 X1)
    | (go_at_call 8; refine (LV.out _ H2.out).mono ?_; rintro e w3 ⟨rfl, b3⟩; have H3 := hid (gt H2.out b3); clear b3))
  go_ret
  exact ⟨rfl, H3.out⟩
set_option maxRecDepth 100000 in
set_option maxHeartbeats 16000000 in
theorem lies_box (s : Sh) (z : Int) (l x : Bool) (n : Nat) (w : World) (hT : Tab w) (h : In (fun b => b < w.heap.size) w s) (hr : Rg s) (hn : n < 18446744073709551616) (hl : 40 ≤ (makeB s z l true).length) (hn0 : (boxL (ptsOf s)).n = false) : Calls Tryd.prog 5 #[.agg #[.int .i64 (s).k, .slice (s).xo (s).xn (s).xc, .slice (s).po (s).pn (s).pc], .agg #[.int .i64 z, .bool l, .bool x], .int .u64 (n : Int)] w fun e w' => e = .returned (.bool true) ∧ Below w.heap.size w w' := by
  have HS := hid (show Below w.heap.size w ((w.alloc (.cells #[.int .i64 (s).k, .slice (s).xo (s).xn (s).xc, .slice (s).po (s).pn (s).pc] 25)).alloc (.cells #[.int .i64 z, .bool l, .bool true] 27)) from gt (ext1 _) (ext1 _))
  have XQ := hid (C3.bx ((Bx.new w s).keep (ext1 (.cells #[.int .i64 z, .bool l, .bool true] 27))))
  have BQ : Hid (Bo ((w.alloc (.cells #[.int .i64 (s).k, .slice (s).xo (s).xn (s).xc, .slice (s).po (s).pn (s).pc] 25)).alloc (.cells #[.int .i64 z, .bool l, .bool true] 27)) (w.heap.size + 1) #[.int .i64 z, .bool l, .bool true] 27) := hid (by repeat (first | (refine at_new ?_; first | with_reducible rfl | (simp only [World.size_alloc]; done)) | refine at_old ?_))
  have EE : Hid ((((w.alloc (.cells #[.int .i64 (s).k, .slice (s).xo (s).xn (s).xc, .slice (s).po (s).pn (s).pc] 25)).alloc (.cells #[.int .i64 z, .bool l, .bool true] 27)).alloc (.cells #[] 5)).ownsRow (w.heap.size + 1 + 1) 5 1 (.slice (some ⟨w.heap.size + 1 + 1, 0, none⟩) 0 0) 0 (bs [])) := hid (by
    have k := World.ownsRow_made (base := w.heap.size + 1 + 1) (e := 5) (size := 1) ((w.alloc (.cells #[.int .i64 (s).k, .slice (s).xo (s).xn (s).xc, .slice (s).po (s).pn (s).pc] 25)).alloc (.cells #[.int .i64 z, .bool l, .bool true] 27)) #[] 0 (by simp only [World.size_alloc]; exact Nat.le_refl _) (by decide) rfl
    rw [World.size_alloc, World.size_alloc] at k
    exact k)
  have MK := hid (fun W (hb : Below w.heap.size w W) => make_call s z l true W (hT.keep hb) (h.grow hb))
  have LV := hid (fun W (hb : Below w.heap.size w W) => lives_call W (hT.keep hb))
  obtain ⟨X, hX⟩ : ∃ X, X = makeB s z l true := ⟨_, rfl⟩
  rw [← hX] at MK
  have hl40 : 40 ≤ X.length := by rw [hX]; exact hl
  have hne : makeB s z l true ≠ [] := fun e => by rw [e] at hl; simp at hl
  have hco : checkN s = 0 ∧ okS z = true := by
    unfold makeB at hne
    by_cases hh : checkN s = 0 ∧ okS z = true
    · exact hh
    · rw [if_neg hh] at hne; exact absurd rfl hne
  obtain ⟨hc, ho⟩ := hco
  have Xb : ∀ x ∈ X, x < 256 := by rw [hX, make_t hc ho]; exact mk_bytes _ _ _ _
  have SZ := hid (show X.length ≤ 1000000 by
    rw [hX, make_t hc ho]
    have := mk_len (⟨_, w, s, h, hr, hc, rfl⟩ : GoodT' s.t) z l true
    omega)
  have RC := hid (fun W (hb : Below w.heap.size w W) => Bxs.rof_call s W (h.grow hb) (check_light h hc))
  obtain ⟨f0, -, -⟩ := made_parts (l := l) (b := true) hc ho
  obtain ⟨ey, hy⟩ := lie_order h hr hc ho l true
  obtain ⟨ez, hz⟩ := lie_empty h hr hc ho l
  rw [hn0] at f0 hy hz
  simp only [Bool.true_and, Bool.not_false] at f0 hy hz
  rw [← hX] at f0 hy hz
  have x1 := xor_one l true false
  have x16 := xor_sixteen l true false
  simp only [Bool.not_false] at x16
  have OY := hid (fun (o : Option Addr) (m k : Nat) W (hb : Below w.heap.size w W) (q : Rd W o m k (X.set 3 (fl (!l) true false))) => open_bad o m k _ W (hT.keep hb) q (fun y hy' => by rcases List.mem_or_eq_of_mem_set hy' with h1 | h1; exact Xb y h1; rw [h1]; exact fl_lt _ _ _) (by have h1 := q.1; have h2 := SZ.out; rw [List.length_set] at h1; omega) ey hy)
  have OZ := hid (fun (o : Option Addr) (m k : Nat) W (hb : Below w.heap.size w W) (q : Rd W o m k (X.set 3 (fl l true true))) => open_bad o m k _ W (hT.keep hb) q (fun y hy' => by rcases List.mem_or_eq_of_mem_set hy' with h1 | h1; exact Xb y h1; rw [h1]; exact fl_lt _ _ _) (by have h1 := q.1; have h2 := SZ.out; rw [List.length_set] at h1; omega) ez hz)
  obtain ⟨m, hm, hm32⟩ : ∃ m : Nat, (n : Int) % 32 = (m : Int) ∧ m < 32 := ⟨n % 32, by omega, Nat.mod_lt _ (by omega)⟩
  obtain ⟨j, hj, hj8⟩ : ∃ j : Nat, (n : Int) / 32 % 8 = (j : Int) ∧ j < 8 := ⟨n / 32 % 8, by omega, Nat.mod_lt _ (by omega)⟩
  have hmw : IntKind.i64.wrap (m : Int) = (m : Int) := by rw [IntKind.wrap_i64]; omega
  obtain ⟨kk, hkk, hk40⟩ : ∃ kk : Nat, (8 : Int) + (m : Int) = (kk : Int) ∧ 8 ≤ kk ∧ kk < 40 := ⟨8 + m, by omega, by omega, by omega⟩
  have hkw : IntKind.i64.wrap (kk : Int) = (kk : Int) := by rw [IntKind.wrap_i64]; omega
  obtain ⟨A, hA⟩ : ∃ A, X.getD kk 0 = A := ⟨_, rfl⟩
  obtain ⟨v, hv, hv2, hv3⟩ := xor_ex (X.getD kk 0) j (getD_lt Xb kk (by omega)) hj8
  have hpow : ((2 : Int) ^ j % 256) = ((2 ^ j : Nat) : Int) := by
    obtain rfl | rfl | rfl | rfl | rfl | rfl | rfl | rfl : j = 0 ∨ j = 1 ∨ j = 2 ∨ j = 3 ∨ j = 4 ∨ j = 5 ∨ j = 6 ∨ j = 7 := by omega
    all_goals decide
  obtain ⟨ex, hx⟩ := lie_box h hr hc ho l hn0 kk v hk40 hv2 (by rw [← hX]; exact hv3) (by rw [← hX]; exact Xb)
  rw [← hX] at hx
  have OX := hid (fun (o : Option Addr) (m k : Nat) W (hb : Below w.heap.size w W) (q : Rd W o m k (X.set kk v)) => open_bad o m k _ W (hT.keep hb) q (fun y hy' => by rcases List.mem_or_eq_of_mem_set hy' with h1 | h1; exact Xb y h1; rw [h1]; exact hv2) (by have h1 := q.1; have h2 := SZ.out; rw [List.length_set] at h1; omega) ex hx)
  rw [hA] at hv
  have hA := hid hA
  generalize (2 : Nat) ^ j = P at *
  have FD : ∀ (a b c d e : Value) W, (Instr.field 36 (.agg #[a, b, c, d, e]) 0).run Tryd.prog W = .ok a W := fun a b c d e W => by kernel_rfl
  obtain ⟨R, hR⟩ : ∃ R, R = boxL (ptsOf s) := ⟨_, rfl⟩
  rw [← hR] at RC hn0
  obtain ⟨rn, r0, r1, r2, r3⟩ := R
  simp only at hn0
  subst hn0
  have f0 := hid f0
  have hl40 := hid hl40
  clear hT h hr hl hX hne hc ho hy hz hR Xb hx hv2 hv3 hj8
  generalize fl l true false = F0 at *
  generalize fl (!l) true false = F1 at *
  generalize fl l true true = F2 at *
  obtain ⟨x0, x1', x2⟩ := XQ.out
  have q0 := BQ.out.cell 0 _ rfl
  have q1 := BQ.out.cell 1 _ rfl
  go_enter Tryd.func5, Tryd.ntmps5
  go_wp2_with (first
    | (go_at_call 7; refine (MK.out _ (HS.out.alloc HS.out.size _)).mono ?_; rintro e v1 ⟨a1, n1, c1, rfl, o1, b1⟩; have R1 := hid (rd_own' o1); have z1 := hid (show w.heap.size + 1 + 1 ≤ v1.heap.size by have k := b1.size; simp only [World.size_alloc] at k; omega); have E1 := hid (own_below EE.out b1); have H1 := hid (gt (HS.out.alloc HS.out.size _) b1); have X1 := hid ((XQ.out.keep (ext1 (.cells #[] 5))).keep b1); clear o1 b1)
    | (at_builtin; go_loud (refine wpList_append_rd rfl (.tmp 22) (.tmp 28) rfl (w.heap.size + 1 + 1) _ 0 [] rfl E1.out _ n1 c1 X rfl R1.out (by have := SZ.out; have := R1.out.1; omega) z1.out ?_); intro v2 w2 o2 b2; rw [Nat.zero_add, List.nil_append] at o2; obtain ⟨ab, cb, rfl⟩ := row_form o2; have h40 : 40 ≤ n1 := (by have := hl40.out; have := R1.out.1; omega); have RB := hid (rd_own' o2); have H2 := hid (H1.out.trans (b2.mono (show w.heap.size ≤ w.heap.size + 1 + 1 by omega))); have X2 := hid (C3.keepN X1.out b2 (by omega)); have N1 := hid R1.out.1; have z2 := hid (show w.heap.size < w2.heap.size by have k := b2.size; have k1 := z1.out; omega); clear x0 x1' x2; clear o2 b2 E1 R1 H1 X1)
    | (at_builtin; refine wpList_append_rd rfl (.tmp 34) (.tmp 35) rfl _ _ 0 [] rfl (own_made _ _ (by simp only [World.size_alloc])) _ n1 cb X rfl (RB.out.keep (gt (Below.refl w2.heap.size w2) (ext1 _))) (by have := SZ.out; have := RB.out.1; omega) (by simp only [World.size_alloc]; omega) ?_; intro v3 w3 o b; rw [Nat.zero_add, List.nil_append] at o; obtain ⟨a3, c3, rfl⟩ := row_form o; obtain ⟨g3, rfl⟩ := row_some o (by omega); have O3 := hid o; have G3 := hid ((gt (Below.refl w2.heap.size w2) (ext1 (.cells #[] 5))).trans (b.mono (show w2.heap.size ≤ _ by have := (Below.refl w2.heap.size w2).size; (try simp only [World.size_alloc] at this ⊢); omega))); clear o b; have X3 := hid (C3.keepN X2.out G3.out z2.out); obtain ⟨x0, x1', x2⟩ := X3.out)
    | (go_at_call 14; refine (RC.out _ (gt H2.out G3.out)).mono ?_; rintro e w4 ⟨rfl, b⟩; have O4 := hid (own_below O3.out b); have G4 := hid (gt G3.out b); have hk1 : kk < n1 := (by omega); obtain ⟨cc4, cg4⟩ := row_cell O4.out kk (by omega); rw [hA.out] at cc4; obtain ⟨-, cf4, cr4⟩ := row_set O4.out kk v (by omega); have R4s := hid cr4; have G4s := hid (show Below w2.heap.size w2 (w4.setCell ⟨g3, kk, none⟩ (.int .u8 ((v : Nat) : Int))) from G4.out.setCell (show w2.heap.size ≤ g3 by have h1 := cg4; (try simp only [World.size_alloc] at h1); omega) _); clear cr4 cg4; clear b x0 x1' x2)
    | (go_at_call 10; refine (OX.out _ _ _ _ (gt H2.out G4s.out) R4s.out).mono ?_; clear OX; rintro e w5 ⟨rfl, he, b⟩; have en5 : ((ex : Int) != 0) = true := (by simp; omega); have G5 := hid (gt (gt (gt G4s.out b) (ext1 (.cells #[.int .i64 (noH).srs, .bool (noH).l, .bool (noH).b, .bool (noH).e, .bool (noH).x.n, .int .i64 (noH).x.lx, .int .i64 (noH).x.ly, .int .i64 (noH).x.hx, .int .i64 (noH).x.hy] 38))) (ext1 (.cells #[.int .i64 0, .slice none 0 0, .slice none 0 0] 25))); have z5 := hid (show w2.heap.size ≤ w5.heap.size by have := G5.out.size; have := b.size; have := G4s.out.size; omega); clear b he cc4 cf4)
    | (at_builtin; refine wpList_append_rd rfl (.tmp 61) (.tmp 62) rfl _ _ 0 [] rfl (own_made _ _ (by simp only [World.size_alloc])) _ n1 cb X rfl (RB.out.keep (gt G5.out (ext1 _))) (by have := SZ.out; have := RB.out.1; omega) (by simp only [World.size_alloc]; omega) ?_; intro v6 w6 o b; rw [Nat.zero_add, List.nil_append] at o; obtain ⟨a6, c6, rfl⟩ := row_form o; obtain ⟨g6, rfl⟩ := row_some o (by omega); have O6 := hid o; have G6 := hid ((gt G5.out (ext1 (.cells #[] 5))).trans (b.mono (show w2.heap.size ≤ _ by have := G5.out.size; (try simp only [World.size_alloc] at this ⊢); omega))); clear o b; obtain ⟨cc6, cg6⟩ := row_cell O6.out 3 (by omega); rw [f0.out] at cc6; obtain ⟨-, cf6, cr6⟩ := row_set O6.out 3 F1 (by omega); have R6s := hid cr6; have G6s := hid (show Below w2.heap.size w2 (w6.setCell ⟨g6, 3, none⟩ (.int .u8 ((F1 : Nat) : Int))) from G6.out.setCell (show w2.heap.size ≤ g6 by have hz := z5.out; have h1 := cg6; (try simp only [World.size_alloc] at h1); omega) _); clear cr6 cg6)
    | (go_at_call 10; refine (OY.out _ _ _ _ (gt H2.out G6s.out) R6s.out).mono ?_; clear OY; rintro e w7 ⟨rfl, he, b⟩; have en7 : ((ey : Int) != 0) = true := (by simp; omega); have G7 := hid (gt (gt (gt G6s.out b) (ext1 (.cells #[.int .i64 (noH).srs, .bool (noH).l, .bool (noH).b, .bool (noH).e, .bool (noH).x.n, .int .i64 (noH).x.lx, .int .i64 (noH).x.ly, .int .i64 (noH).x.hx, .int .i64 (noH).x.hy] 38))) (ext1 (.cells #[.int .i64 0, .slice none 0 0, .slice none 0 0] 25))); have z7 := hid (show w2.heap.size ≤ w7.heap.size by have := G7.out.size; have := b.size; have := G6s.out.size; omega); clear b he cc6 cf6)
    | (at_builtin; refine wpList_append_rd rfl (.tmp 75) (.tmp 76) rfl _ _ 0 [] rfl (own_made _ _ (by simp only [World.size_alloc])) _ n1 cb X rfl (RB.out.keep (gt G7.out (ext1 _))) (by have := SZ.out; have := RB.out.1; omega) (by simp only [World.size_alloc]; omega) ?_; intro v8 w8 o b; rw [Nat.zero_add, List.nil_append] at o; obtain ⟨a8, c8, rfl⟩ := row_form o; obtain ⟨g8, rfl⟩ := row_some o (by omega); have O8 := hid o; have G8 := hid ((gt G7.out (ext1 (.cells #[] 5))).trans (b.mono (show w2.heap.size ≤ _ by have := G7.out.size; (try simp only [World.size_alloc] at this ⊢); omega))); clear o b; obtain ⟨cc8, cg8⟩ := row_cell O8.out 3 (by omega); rw [f0.out] at cc8; obtain ⟨-, cf8, cr8⟩ := row_set O8.out 3 F2 (by omega); have R8s := hid cr8; have G8s := hid (show Below w2.heap.size w2 (w8.setCell ⟨g8, 3, none⟩ (.int .u8 ((F2 : Nat) : Int))) from G8.out.setCell (show w2.heap.size ≤ g8 by have hz := z7.out; have h1 := cg8; (try simp only [World.size_alloc] at h1); omega) _); clear cr8 cg8)
    | (go_at_call 10; refine (OZ.out _ _ _ _ (gt H2.out G8s.out) R8s.out).mono ?_; clear OZ; rintro e w9 ⟨rfl, he, b⟩; have en9 : ((ez : Int) != 0) = true := (by simp; omega); have G9 := hid (gt (gt (gt G8s.out b) (ext1 (.cells #[.int .i64 (noH).srs, .bool (noH).l, .bool (noH).b, .bool (noH).e, .bool (noH).x.n, .int .i64 (noH).x.lx, .int .i64 (noH).x.ly, .int .i64 (noH).x.hx, .int .i64 (noH).x.hy] 38))) (ext1 (.cells #[.int .i64 0, .slice none 0 0, .slice none 0 0] 25))); have z9 := hid (show w2.heap.size ≤ w9.heap.size by have := G9.out.size; have := b.size; have := G8s.out.size; omega); clear b he cc8 cf8)
    | (go_at_call 8; refine (LV.out _ (gt H2.out G9.out)).mono ?_; rintro e w11 ⟨rfl, b⟩; have H11 := hid (gt (gt H2.out G9.out) b); clear b))
  go_ret
  exact ⟨rfl, H11.out⟩
set_option maxRecDepth 100000 in
set_option maxHeartbeats 16000000 in
theorem lies_none (s : Sh) (z : Int) (l x : Bool) (n : Nat) (w : World) (hT : Tab w) (h : In (fun b => b < w.heap.size) w s) (hr : Rg s) (hl : 40 ≤ (makeB s z l true).length) (hn0 : (boxL (ptsOf s)).n = true) : Calls Tryd.prog 5 #[.agg #[.int .i64 (s).k, .slice (s).xo (s).xn (s).xc, .slice (s).po (s).pn (s).pc], .agg #[.int .i64 z, .bool l, .bool x], .int .u64 (n : Int)] w fun e w' => e = .returned (.bool true) ∧ Below w.heap.size w w' := by
  have HS := hid (show Below w.heap.size w ((w.alloc (.cells #[.int .i64 (s).k, .slice (s).xo (s).xn (s).xc, .slice (s).po (s).pn (s).pc] 25)).alloc (.cells #[.int .i64 z, .bool l, .bool true] 27)) from gt (ext1 _) (ext1 _))
  have XQ := hid (C3.bx ((Bx.new w s).keep (ext1 (.cells #[.int .i64 z, .bool l, .bool true] 27))))
  have BQ : Hid (Bo ((w.alloc (.cells #[.int .i64 (s).k, .slice (s).xo (s).xn (s).xc, .slice (s).po (s).pn (s).pc] 25)).alloc (.cells #[.int .i64 z, .bool l, .bool true] 27)) (w.heap.size + 1) #[.int .i64 z, .bool l, .bool true] 27) := hid (by repeat (first | (refine at_new ?_; first | with_reducible rfl | (simp only [World.size_alloc]; done)) | refine at_old ?_))
  have EE : Hid ((((w.alloc (.cells #[.int .i64 (s).k, .slice (s).xo (s).xn (s).xc, .slice (s).po (s).pn (s).pc] 25)).alloc (.cells #[.int .i64 z, .bool l, .bool true] 27)).alloc (.cells #[] 5)).ownsRow (w.heap.size + 1 + 1) 5 1 (.slice (some ⟨w.heap.size + 1 + 1, 0, none⟩) 0 0) 0 (bs [])) := hid (by
    have k := World.ownsRow_made (base := w.heap.size + 1 + 1) (e := 5) (size := 1) ((w.alloc (.cells #[.int .i64 (s).k, .slice (s).xo (s).xn (s).xc, .slice (s).po (s).pn (s).pc] 25)).alloc (.cells #[.int .i64 z, .bool l, .bool true] 27)) #[] 0 (by simp only [World.size_alloc]; exact Nat.le_refl _) (by decide) rfl
    rw [World.size_alloc, World.size_alloc] at k
    exact k)
  have MK := hid (fun W (hb : Below w.heap.size w W) => make_call s z l true W (hT.keep hb) (h.grow hb))
  have LV := hid (fun W (hb : Below w.heap.size w W) => lives_call W (hT.keep hb))
  obtain ⟨X, hX⟩ : ∃ X, X = makeB s z l true := ⟨_, rfl⟩
  rw [← hX] at MK
  have hl40 : 40 ≤ X.length := by rw [hX]; exact hl
  have hne : makeB s z l true ≠ [] := fun e => by rw [e] at hl; simp at hl
  have hco : checkN s = 0 ∧ okS z = true := by
    unfold makeB at hne
    by_cases hh : checkN s = 0 ∧ okS z = true
    · exact hh
    · rw [if_neg hh] at hne; exact absurd rfl hne
  obtain ⟨hc, ho⟩ := hco
  have Xb : ∀ x ∈ X, x < 256 := by rw [hX, make_t hc ho]; exact mk_bytes _ _ _ _
  have SZ := hid (show X.length ≤ 1000000 by
    rw [hX, make_t hc ho]
    have := mk_len (⟨_, w, s, h, hr, hc, rfl⟩ : GoodT' s.t) z l true
    omega)
  have RC := hid (fun W (hb : Below w.heap.size w W) => Bxs.rof_call s W (h.grow hb) (check_light h hc))
  obtain ⟨f0, -, -⟩ := made_parts (l := l) (b := true) hc ho
  obtain ⟨ey, hy⟩ := lie_order h hr hc ho l true
  obtain ⟨ez, hz⟩ := lie_empty h hr hc ho l
  rw [hn0] at f0 hy hz
  simp only [Bool.true_and, Bool.not_true] at f0 hy hz
  rw [← hX] at f0 hy hz
  have x1 := xor_one l false true
  have x16 := xor_sixteen l false true
  simp only [Bool.not_true] at x16
  have OY := hid (fun (o : Option Addr) (m k : Nat) W (hb : Below w.heap.size w W) (q : Rd W o m k (X.set 3 (fl (!l) false true))) => open_bad o m k _ W (hT.keep hb) q (fun y hy' => by rcases List.mem_or_eq_of_mem_set hy' with h1 | h1; exact Xb y h1; rw [h1]; exact fl_lt _ _ _) (by have h1 := q.1; have h2 := SZ.out; rw [List.length_set] at h1; omega) ey hy)
  have OZ := hid (fun (o : Option Addr) (m k : Nat) W (hb : Below w.heap.size w W) (q : Rd W o m k (X.set 3 (fl l false false))) => open_bad o m k _ W (hT.keep hb) q (fun y hy' => by rcases List.mem_or_eq_of_mem_set hy' with h1 | h1; exact Xb y h1; rw [h1]; exact fl_lt _ _ _) (by have h1 := q.1; have h2 := SZ.out; rw [List.length_set] at h1; omega) ez hz)
  have OX := hid (fun (o : Option Addr) (m k : Nat) W (hb : Below w.heap.size w W) (q : Rd W o m k X) => open_ok o m k X W (hT.keep hb) q Xb (by have h1 := q.1; have h2 := SZ.out; omega) _ s.t (by rw [hX]; exact open_make h hr hc ho l true))
  obtain ⟨HV, hHV⟩ : ∃ H, H = headV (ptsOf s) z l true := ⟨_, rfl⟩
  rw [← hHV] at OX
  have FD : ∀ (a b c d e : Value) W, (Instr.field 36 (.agg #[a, b, c, d, e]) 0).run Tryd.prog W = .ok a W := fun a b c d e W => by kernel_rfl
  obtain ⟨R, hR⟩ : ∃ R, R = boxL (ptsOf s) := ⟨_, rfl⟩
  rw [← hR] at RC hn0
  obtain ⟨rn, r0, r1, r2, r3⟩ := R
  simp only at hn0
  subst hn0
  have f0 := hid f0
  have hl40 := hid hl40
  clear hT h hr hl hX hne hc ho hy hz hR Xb hHV
  generalize fl l false true = F0 at *
  generalize fl (!l) false true = F1 at *
  generalize fl l false false = F2 at *
  obtain ⟨x0, x1', x2⟩ := XQ.out
  have q0 := BQ.out.cell 0 _ rfl
  have q1 := BQ.out.cell 1 _ rfl
  have ONE := hid True.intro
  go_enter Tryd.func5, Tryd.ntmps5
  go_wp2_with (first
    | (go_at_call 7; refine (MK.out _ (HS.out.alloc HS.out.size _)).mono ?_; rintro e v1 ⟨a1, n1, c1, rfl, o1, b1⟩; have R1 := hid (rd_own' o1); have z1 := hid (show w.heap.size + 1 + 1 ≤ v1.heap.size by have k := b1.size; simp only [World.size_alloc] at k; omega); have E1 := hid (own_below EE.out b1); have H1 := hid (gt (HS.out.alloc HS.out.size _) b1); have X1 := hid ((XQ.out.keep (ext1 (.cells #[] 5))).keep b1); clear o1 b1)
    | (at_builtin; go_loud (refine wpList_append_rd rfl (.tmp 22) (.tmp 28) rfl (w.heap.size + 1 + 1) _ 0 [] rfl E1.out _ n1 c1 X rfl R1.out (by have := SZ.out; have := R1.out.1; omega) z1.out ?_); intro v2 w2 o2 b2; rw [Nat.zero_add, List.nil_append] at o2; obtain ⟨ab, cb, rfl⟩ := row_form o2; have h40 : 40 ≤ n1 := (by have := hl40.out; have := R1.out.1; omega); have RB := hid (rd_own' o2); have H2 := hid (H1.out.trans (b2.mono (show w.heap.size ≤ w.heap.size + 1 + 1 by omega))); have X2 := hid (C3.keepN X1.out b2 (by omega)); have N1 := hid R1.out.1; have z2 := hid (show w.heap.size < w2.heap.size by have k := b2.size; have k1 := z1.out; omega); clear x0 x1' x2; clear o2 b2 E1 R1 H1 X1)
    | (at_builtin; refine wpList_append_rd rfl (.tmp 34) (.tmp 35) rfl _ _ 0 [] rfl (own_made _ _ (by simp only [World.size_alloc])) _ n1 cb X rfl (RB.out.keep (gt (Below.refl w2.heap.size w2) (ext1 _))) (by have := SZ.out; have := RB.out.1; omega) (by simp only [World.size_alloc]; omega) ?_; intro v3 w3 o b; rw [Nat.zero_add, List.nil_append] at o; obtain ⟨a3, c3, rfl⟩ := row_form o; obtain ⟨g3, rfl⟩ := row_some o (by omega); have O3 := hid o; have G3 := hid ((gt (Below.refl w2.heap.size w2) (ext1 (.cells #[] 5))).trans (b.mono (show w2.heap.size ≤ _ by have := (Below.refl w2.heap.size w2).size; (try simp only [World.size_alloc] at this ⊢); omega))); clear o b; have X3 := hid (C3.keepN X2.out G3.out z2.out); obtain ⟨x0, x1', x2⟩ := X3.out)
    | (go_at_call 14; clear ONE; refine (RC.out _ (gt H2.out G3.out)).mono ?_; rintro e w4 ⟨rfl, b⟩; have O4 := hid (own_below O3.out b); have G4 := hid (gt G3.out b); have R4s := hid (rd_own O4.out); have G4s := hid G4.out; clear b x0 x1' x2)
    | (go_at_call 10; refine (OX.out _ _ _ _ (gt H2.out G4s.out) R4s.out).mono ?_; clear OX; rintro e w5 ⟨⟨p, rfl, -, -⟩, b⟩; have G5 := hid (gt (gt (gt G4s.out b) (ext1 (.cells #[.int .i64 (HV).srs, .bool (HV).l, .bool (HV).b, .bool (HV).e, .bool (HV).x.n, .int .i64 (HV).x.lx, .int .i64 (HV).x.ly, .int .i64 (HV).x.hx, .int .i64 (HV).x.hy] 38))) (ext1 (.cells #[.int .i64 (p).k, .slice (p).xo (p).xn (p).xc, .slice (p).po (p).pn (p).pc] 25))); have z5 := hid (show w2.heap.size ≤ w5.heap.size by have := b.size; have := G4s.out.size; omega); clear b)
    | (at_builtin; refine wpList_append_rd rfl (.tmp 61) (.tmp 62) rfl _ _ 0 [] rfl (own_made _ _ (by simp only [World.size_alloc])) _ n1 cb X rfl (RB.out.keep (gt G5.out (ext1 _))) (by have := SZ.out; have := RB.out.1; omega) (by simp only [World.size_alloc]; omega) ?_; intro v6 w6 o b; rw [Nat.zero_add, List.nil_append] at o; obtain ⟨a6, c6, rfl⟩ := row_form o; obtain ⟨g6, rfl⟩ := row_some o (by omega); have O6 := hid o; have G6 := hid ((gt G5.out (ext1 (.cells #[] 5))).trans (b.mono (show w2.heap.size ≤ _ by have := G5.out.size; (try simp only [World.size_alloc] at this ⊢); omega))); clear o b; obtain ⟨cc6, cg6⟩ := row_cell O6.out 3 (by omega); rw [f0.out] at cc6; obtain ⟨-, cf6, cr6⟩ := row_set O6.out 3 F1 (by omega); have R6s := hid cr6; have G6s := hid (show Below w2.heap.size w2 (w6.setCell ⟨g6, 3, none⟩ (.int .u8 ((F1 : Nat) : Int))) from G6.out.setCell (show w2.heap.size ≤ g6 by have hz := z5.out; have h1 := cg6; (try simp only [World.size_alloc] at h1); omega) _); clear cr6 cg6)
    | (go_at_call 10; refine (OY.out _ _ _ _ (gt H2.out G6s.out) R6s.out).mono ?_; clear OY; rintro e w7 ⟨rfl, he, b⟩; have en7 : ((ey : Int) != 0) = true := (by simp; omega); have G7 := hid (gt (gt (gt G6s.out b) (ext1 (.cells #[.int .i64 (noH).srs, .bool (noH).l, .bool (noH).b, .bool (noH).e, .bool (noH).x.n, .int .i64 (noH).x.lx, .int .i64 (noH).x.ly, .int .i64 (noH).x.hx, .int .i64 (noH).x.hy] 38))) (ext1 (.cells #[.int .i64 0, .slice none 0 0, .slice none 0 0] 25))); have z7 := hid (show w2.heap.size ≤ w7.heap.size by have := G7.out.size; have := b.size; have := G6s.out.size; omega); clear b he cc6 cf6)
    | (at_builtin; refine wpList_append_rd rfl (.tmp 75) (.tmp 76) rfl _ _ 0 [] rfl (own_made _ _ (by simp only [World.size_alloc])) _ n1 cb X rfl (RB.out.keep (gt G7.out (ext1 _))) (by have := SZ.out; have := RB.out.1; omega) (by simp only [World.size_alloc]; omega) ?_; intro v8 w8 o b; rw [Nat.zero_add, List.nil_append] at o; obtain ⟨a8, c8, rfl⟩ := row_form o; obtain ⟨g8, rfl⟩ := row_some o (by omega); have O8 := hid o; have G8 := hid ((gt G7.out (ext1 (.cells #[] 5))).trans (b.mono (show w2.heap.size ≤ _ by have := G7.out.size; (try simp only [World.size_alloc] at this ⊢); omega))); clear o b; obtain ⟨cc8, cg8⟩ := row_cell O8.out 3 (by omega); rw [f0.out] at cc8; obtain ⟨-, cf8, cr8⟩ := row_set O8.out 3 F2 (by omega); have R8s := hid cr8; have G8s := hid (show Below w2.heap.size w2 (w8.setCell ⟨g8, 3, none⟩ (.int .u8 ((F2 : Nat) : Int))) from G8.out.setCell (show w2.heap.size ≤ g8 by have hz := z7.out; have h1 := cg8; (try simp only [World.size_alloc] at h1); omega) _); clear cr8 cg8)
    | (go_at_call 10; refine (OZ.out _ _ _ _ (gt H2.out G8s.out) R8s.out).mono ?_; clear OZ; rintro e w9 ⟨rfl, he, b⟩; have en9 : ((ez : Int) != 0) = true := (by simp; omega); have G9 := hid (gt (gt (gt G8s.out b) (ext1 (.cells #[.int .i64 (noH).srs, .bool (noH).l, .bool (noH).b, .bool (noH).e, .bool (noH).x.n, .int .i64 (noH).x.lx, .int .i64 (noH).x.ly, .int .i64 (noH).x.hx, .int .i64 (noH).x.hy] 38))) (ext1 (.cells #[.int .i64 0, .slice none 0 0, .slice none 0 0] 25))); have z9 := hid (show w2.heap.size ≤ w9.heap.size by have := G9.out.size; have := b.size; have := G8s.out.size; omega); clear b he cc8 cf8; have X9 := hid (C3.keepN X2.out G9.out z2.out); obtain ⟨x0, x1', x2⟩ := X9.out)
    | (go_at_call 14; refine (RC.out _ (gt H2.out G9.out)).mono ?_; rintro e w10 ⟨rfl, b⟩; have G10 := hid (gt G9.out b); clear b)
    | (go_at_call 8; refine (LV.out _ (gt H2.out G10.out)).mono ?_; rintro e w11 ⟨rfl, b⟩; have H11 := hid (gt (gt H2.out G10.out) b); clear b))
  go_ret
  exact ⟨rfl, H11.out⟩
theorem lies_law (s : Sh) (z : Int) (l x : Bool) (n : Nat) (w : World) (hT : Tab w) (h : In (fun b => b < w.heap.size) w s) (hr : Rg s) (hn : n < 18446744073709551616) : Calls Tryd.prog 5 #[.agg #[.int .i64 (s).k, .slice (s).xo (s).xn (s).xc, .slice (s).po (s).pn (s).pc], .agg #[.int .i64 z, .bool l, .bool x], .int .u64 (n : Int)] w fun e w' => e = .returned (.bool true) ∧ Below w.heap.size w w' := by
  by_cases hl : (makeB s z l true).length < 40
  · exact lies_short s z l x n w hT h hl
  · cases hn0 : (boxL (ptsOf s)).n with
    | false => exact lies_box s z l x n w hT h hr hn (by omega) hn0
    | true => exact lies_none s z l x n w hT h hr (by omega) hn0
end Go.Proofs.YtpmfedimjjifaaaDoor
