/- The document's example lives; no statement of the seat is proved here. -/
import Derived.Test.YtebjjibgkjgpgaaFa
namespace Go.Proofs.Ytebjjibgkjgpgaa
open Go.RowKit Go.Maps

def nulls512 : List Nat := List.replicate 512 0
def pageB (x : Nat) : List Nat := (nulls512.set 0 x).set 511 x
theorem pageB_length (x : Nat) : (pageB x).length = 512 := by unfold pageB nulls512; rw [List.length_set, List.length_set, List.length_replicate]

theorem mk512 (w : World) : (Instr.makeSlice 38 (.int .i64 512) (.int .i64 512)).run Try.prog w = .ok (.slice (some ⟨w.heap.size, 0, none⟩) 512 512) (w.alloc (.cells (bs nulls512).toArray 5)) := by
  have h := make_any 512 512 (Nat.le_refl _) (by omega) w
  rw [show (bs nulls512).toArray = Array.replicate 512 (.int .u8 0) by simp only [bs, nulls512, List.map_replicate]; rfl]
  exact h

/-- A slice of bytes of one's own, in a new block. -/
def Fresh (x : List Nat) (n : Nat) (w : World) (e : Ending) (w' : World) : Prop := x.length = n ∧ e = .returned (.slice (some ⟨w.heap.size, 0, none⟩) n n) ∧ Rd w' (some ⟨w.heap.size, 0, none⟩) n n x ∧ Below w.heap.size w w' ∧ w'.heap.size = w.heap.size + 1

theorem own_page {w : World} {g : Nat} {x : List Nat} (h : w.heap[g]? = some (.cells (bs x).toArray 5 (0, 0))) : Rd w (some ⟨g, 0, none⟩) x.length x.length x :=
  ⟨rfl, Nat.le_refl _, fun h => (by cases h), fun _ => ⟨g, 0, rfl, fun t ht => by rw [Nat.zero_add, hd_cell h, bs_get _ _ ht]⟩⟩

theorem bs_set (x : List Nat) (i v : Nat) : (bs x).set i (.int .u8 (v : Int)) = bs (x.set i v) := by simp [bs, List.map_set]

set_option maxRecDepth 20000 in
set_option maxHeartbeats 1000000 in
theorem page_any (x : Nat) (w : World) : Calls Try.prog 20 #[.int .u8 (x : Int)] w fun e w' => Fresh (pageB x) 512 w e w' := by
  have mk := mk512 w
  obtain ⟨W, hW⟩ : ∃ W, W = w.alloc (.cells (bs nulls512).toArray 5) := ⟨_, rfl⟩
  have hg : W.heap[w.heap.size]? = some (.cells (bs nulls512).toArray 5 (0, 0)) := by rw [hW]; exact heap_alloc_new w _
  have hWs : W.heap.size = w.heap.size + 1 := by rw [hW]; simp
  have hb : Below w.heap.size w W := by rw [hW]; exact (Below.refl _ w).alloc (Nat.le_refl _) _
  rw [← hW] at mk
  clear hW
  have c0 : W.cell? ⟨w.heap.size, 0, none⟩ = some (.int .u8 ((nulls512.getD 0 0 : Nat) : Int)) := by rw [hd_cell hg, bs_get _ _ (by simp only [nulls512, List.length_replicate]; omega)]
  have c1 : W.cell? ⟨w.heap.size, 511, none⟩ = some (.int .u8 ((nulls512.getD 511 0 : Nat) : Int)) := by rw [hd_cell hg, bs_get _ _ (by simp only [nulls512, List.length_replicate]; omega)]
  have f0 := hd_frozen hg 0; have f1 := hd_frozen hg 511
  obtain ⟨u, hu⟩ : ∃ u, u = Value.int .u8 ((nulls512.getD 0 0 : Nat) : Int) := ⟨_, rfl⟩
  obtain ⟨v, hv⟩ : ∃ v, v = Value.int .u8 ((nulls512.getD 511 0 : Nat) : Int) := ⟨_, rfl⟩
  rw [← hu] at c0; rw [← hv] at c1
  have HG := hid hg; have HS := hid hWs; have HB := hid hb
  clear hg hWs hb hu hv
  go_enter Try.func20, Try.ntmps20
  go_wp2
  go_ret
  have hfin := blk_set (i := 511) (v := .int .u8 (x : Int)) (blk_set (i := 0) (v := .int .u8 (x : Int)) HG.out)
  rw [bs_set, bs_set] at hfin
  have q := own_page hfin
  rw [show ((nulls512.set 0 x).set 511 x).length = 512 from pageB_length x] at q
  exact ⟨pageB_length x, rfl, q, (HB.out.setCell (p := ⟨w.heap.size, 0, none⟩) (Nat.le_refl _) _).setCell (p := ⟨w.heap.size, 511, none⟩) (Nat.le_refl _) _, by simpa using HS.out⟩

theorem two_rd (w : World) (a b : Int) : RdI (w.alloc (.cells #[.int .i64 a, .int .i64 b] 3)) (some ⟨w.heap.size, 0, none⟩) 2 [a, b] := by
  refine ⟨rfl, fun _ => ⟨_, 0, rfl, fun t ht => ?_⟩⟩
  have h : (w.alloc (.cells #[.int .i64 a, .int .i64 b] 3)).heap[w.heap.size]? = some (.cells [Value.int .i64 a, .int .i64 b].toArray 3 (0, 0)) := heap_alloc_new w _
  rw [Nat.zero_add, hd_cell h]
  rcases t with _ | _ | t
  · rfl
  · rfl
  · omega

/-- A cache that was made since w0. -/
def OC (w0 W : World) (c : Nat) (s : CS) : Prop := ∃ C, CP W c C s ∧ (∀ k, C.S c k → w0.heap.size ≤ k) ∧ Below w0.heap.size w0 W
/-- .. and bytes that lie beside it. -/
def OP (w0 W : World) (c : Nat) (s : CS) (g : Nat) (x : List Nat) : Prop := ∃ C, CP W c C s ∧ (∀ k, C.S c k → w0.heap.size ≤ k) ∧ Below w0.heap.size w0 W ∧ Rd W (some ⟨g, 0, none⟩) 512 512 x ∧ ¬ C.S c g

theorem OC.bl {w0 W : World} {c : Nat} {s : CS} (h : OC w0 W c s) : Below w0.heap.size w0 W := by obtain ⟨_, _, _, h⟩ := h; exact h
theorem OC.later {w0 W W' : World} {c : Nat} {s : CS} (h : OC w0 W c s) (hb : Below W.heap.size W W') : OC w0 W' c s := by
  obtain ⟨C, h1, h2, h3⟩ := h
  exact ⟨C, h1.later hb, h2, gt h3 hb⟩
theorem CP.klen {w : World} {c : Nat} {C : Parts} {s : CS} (h : CP w c C s) : C.ks.length = s.l.length := by rw [h.ls]; simp
theorem OC.of_step {w0 w w' : World} {c : Nat} {C C' : Parts} {s' : CS} (h : Step w w' c C C' s') (h2 : ∀ k, C.S c k → w0.heap.size ≤ k) (h3 : Below w0.heap.size w0 w) : OC w0 w' c s' := by
  refine ⟨C', h.cp, fun k hk => ?_, ?_⟩
  · rcases h.gr k hk with h4 | h4
    · exact h2 k h4
    · have := h3.size; omega
  · exact ((Fr.of_below (S := fun _ => False) h3).trans h.fr (fun j hj hs => by have := h2 j hs; omega)).below

theorem oc_page (w0 W : World) (c : Nat) (s : CS) (x : Nat) (h : OC w0 W c s) : Calls Try.prog 20 #[.int .u8 (x : Int)] W fun e w' => e = .returned (.slice (some ⟨W.heap.size, 0, none⟩) 512 512) ∧ OP w0 w' c s W.heap.size (pageB x) := by
  obtain ⟨C, h1, h2, h3⟩ := h
  refine (page_any x W).mono ?_
  rintro e w' ⟨hl, rfl, hr, hb, hs⟩
  exact ⟨rfl, C, h1.later hb, h2, gt h3 hb, hr, fun hS => by have := h1.lt hS; omega⟩

theorem oc_put (w0 W : World) (c g : Nat) (s : CS) (k : Int) (x : List Nat) (h : OP w0 W c s g x) (hk : (Lit.int .i64 k).wf = true) (h1 : 1 ≤ k) (hl : s.l.length < 1000000) :
    Calls Try.prog 16 #[.pointer (some ⟨c, 0, none⟩), .int .i64 k, .slice (some ⟨g, 0, none⟩) 512 512] W fun e w' => e = .returned (.int .i64 0) ∧ OC w0 w' c (s.put k x) := by
  obtain ⟨C, g1, g2, g3, g4, g5⟩ := h
  refine (put_call c g 0 512 C s k x W g1 hk h1 g4 g5 (by rw [g1.klen]; exact hl)).mono ?_
  rintro e w' ⟨rfl, C', hs⟩
  exact ⟨rfl, OC.of_step hs g2 g3⟩

theorem oc_get (w0 W : World) (c : Nat) (s : CS) (k : Int) (h : OC w0 W c s) (hk : (Lit.int .i64 k).wf = true) (hh : s.hit ≤ 1000000) (hm : s.miss ≤ 1000000) :
    Calls Try.prog 23 #[.pointer (some ⟨c, 0, none⟩), .int .i64 k] W fun e w' => Bytes (s.peek k) W.heap.size w' e ∧ OC w0 w' c (s.get k) := by
  obtain ⟨C, g1, g2, g3⟩ := h
  refine (get_call c C s k W g1 hk hh hm).mono ?_
  rintro e w' ⟨hb, C', hs⟩
  exact ⟨hb, OC.of_step hs g2 g3⟩

theorem bytes_form {o : Option (List Nat)} {B : Nat} {w' : World} {e : Ending} (h : Bytes o B w' e) : ∃ ao n cap b, e = .returned (.tuple #[.slice ao n cap, .bool b]) := by
  cases o with
  | none => exact ⟨_, _, _, _, h⟩
  | some x => obtain ⟨_, ao, cap, h, _⟩ := h; exact ⟨_, _, _, _, h⟩

theorem oc_order (w0 W : World) (c : Nat) (s : CS) (h : OC w0 W c s) (hl : s.l.length < 1000000) :
    Calls Try.prog 14 #[.pointer (some ⟨c, 0, none⟩)] W fun e w' => ∃ ao cap, e = .returned (.slice ao s.l.length cap) ∧ s.l.length ≤ cap ∧ RdI w' ao s.l.length (s.l.map Row.page) ∧ OC w0 w' c s := by
  obtain ⟨C, g1, g2, g3⟩ := h
  refine (order_call c C s W g1 (by rw [g1.klen]; omega)).mono ?_
  rintro e w' ⟨ao, cap, rfl, ho, hb⟩
  have e1 : (s.l.map Row.page).length = s.l.length := by simp
  rw [e1] at ho ⊢
  refine ⟨ao, cap, rfl, ?_, rdI_own ho, C, g1.later hb, g2, gt g3 hb⟩
  rcases ho.2 with ⟨hv, hz⟩ | ⟨g, cap', cur, hv, _, _, hnc, _⟩
  · omega
  · simp only [Value.slice.injEq] at hv; rw [hv.2.2]; exact hnc

theorem lives_pages (b1 b2 b3 : List Nat) : ((((((⟨2, [], 0, 0⟩ : CS).put 1 b1).put 2 b2).get 1).put 3 b3).l.map Row.page) = [1, 3] := rfl
theorem lives_small (b1 b2 b3 : List Nat) : ((⟨2, [], 0, 0⟩ : CS).put 1 b1).l.length = 1 ∧ (((⟨2, [], 0, 0⟩ : CS).put 1 b1).put 2 b2).l.length = 2 ∧ (((⟨2, [], 0, 0⟩ : CS).put 1 b1).put 2 b2).hit = 0 ∧ (((⟨2, [], 0, 0⟩ : CS).put 1 b1).put 2 b2).miss = 0 ∧ ((((⟨2, [], 0, 0⟩ : CS).put 1 b1).put 2 b2).get 1).l.length = 2 ∧ (((((⟨2, [], 0, 0⟩ : CS).put 1 b1).put 2 b2).get 1).put 3 b3).l.length = 2 := ⟨rfl, rfl, rfl, rfl, rfl, rfl⟩

set_option maxRecDepth 20000 in
set_option maxHeartbeats 4000000 in
theorem lives_any (w : World) : Calls Try.prog 8 #[] w fun e w' => e = .returned (.bool true) ∧ Below w.heap.size w w' := by
  have k0 : Hid (Calls Try.prog 9 #[.int .i64 2] w fun e w' => ∃ c, e = .returned (.pointer (some ⟨c, 0, none⟩)) ∧ OC w w' c ⟨2, [], 0, 0⟩) := by
    refine hid ((new_yes 2 w (by omega) (by omega)).mono ?_)
    rintro e w1 ⟨c, rfl, C0, g1, g2, g3, g4⟩
    exact ⟨c, rfl, C0, g1, g3, g4⟩
  obtain ⟨n1, n2, n3, n4, n5, n6⟩ := lives_small (pageB 1) (pageB 2) (pageB 3)
  have hpg := hid (lives_pages (pageB 1) (pageB 2) (pageB 3))
  obtain ⟨s1, hs1⟩ : ∃ s1, s1 = (⟨2, [], 0, 0⟩ : CS).put 1 (pageB 1) := ⟨_, rfl⟩
  rw [← hs1] at n1 n2 n3 n4 n5 n6 hpg
  obtain ⟨s2, hs2⟩ : ∃ s2, s2 = s1.put 2 (pageB 2) := ⟨_, rfl⟩
  rw [← hs2] at n2 n3 n4 n5 n6 hpg
  obtain ⟨s3, hs3⟩ : ∃ s3, s3 = s2.get 1 := ⟨_, rfl⟩
  rw [← hs3] at n5 n6 hpg
  obtain ⟨s4, hs4⟩ : ∃ s4, s4 = s3.put 3 (pageB 3) := ⟨_, rfl⟩
  rw [← hs4] at n6 hpg
  have kp1 := hid (fun W c s h => oc_page w W c s 1 h)
  have kp2 := hid (fun W c s h => oc_page w W c s 2 h)
  have kp3 := hid (fun W c s h => oc_page w W c s 3 h)
  have kq1 : Hid (∀ W c g, OP w W c ⟨2, [], 0, 0⟩ g (pageB 1) → Calls Try.prog 16 #[.pointer (some ⟨c, 0, none⟩), .int .i64 1, .slice (some ⟨g, 0, none⟩) 512 512] W fun e w' => e = .returned (.int .i64 0) ∧ OC w w' c s1) := hid (fun W c g h => hs1 ▸ oc_put w W c g _ 1 _ h rfl (by omega) (by show ([] : List Row).length < _; simp))
  have kq2 : Hid (∀ W c g, OP w W c s1 g (pageB 2) → Calls Try.prog 16 #[.pointer (some ⟨c, 0, none⟩), .int .i64 2, .slice (some ⟨g, 0, none⟩) 512 512] W fun e w' => e = .returned (.int .i64 0) ∧ OC w w' c s2) := hid (fun W c g h => hs2 ▸ oc_put w W c g _ 2 _ h rfl (by omega) (by omega))
  have kq3 : Hid (∀ W c g, OP w W c s3 g (pageB 3) → Calls Try.prog 16 #[.pointer (some ⟨c, 0, none⟩), .int .i64 3, .slice (some ⟨g, 0, none⟩) 512 512] W fun e w' => e = .returned (.int .i64 0) ∧ OC w w' c s4) := hid (fun W c g h => hs4 ▸ oc_put w W c g _ 3 _ h rfl (by omega) (by omega))
  have kg : Hid (∀ W c, OC w W c s2 → Calls Try.prog 23 #[.pointer (some ⟨c, 0, none⟩), .int .i64 1] W fun e w' => (∃ ao n cap b, e = .returned (.tuple #[.slice ao n cap, .bool b])) ∧ OC w w' c s3) := by
    refine hid fun W c h => (oc_get w W c s2 1 h rfl (by omega) (by omega)).mono ?_
    rintro e w' ⟨hb, ho⟩
    exact ⟨bytes_form hb, hs3 ▸ ho⟩
  have ko := hid (fun W c h => oc_order w W c s4 h (by omega))
  rw [n6] at ko
  have ki := hid (fun a1 a2 n1 n2 c1 c2 l1 l2 W => ints_any a1 a2 n1 n2 c1 c2 l1 l2 W)
  clear hs1 hs2 hs3 hs4 n1 n2 n3 n4 n5 n6
  go_enter Try.func8, Try.ntmps8
  go_wp2_with (first
    | (go_at_call 9; refine k0.out.mono ?_; rintro e w1 ⟨c, rfl, g1⟩; have G1 := hid g1; clear g1 k0)
    | (go_at_call 20; first
        | (refine (kp1.out _ _ _ G1.out).mono ?_; clear kp1; rintro e w2 ⟨rfl, g2⟩; have G2 := hid g2; clear g2 G1)
        | (refine (kp2.out _ _ _ G3.out).mono ?_; clear kp2; rintro e w4 ⟨rfl, g4⟩; have G4 := hid g4; clear g4 G3)
        | (refine (kp3.out _ _ _ G6.out).mono ?_; clear kp3; rintro e w7 ⟨rfl, g7⟩; have G7 := hid g7; clear g7 G6))
    | (go_at_call 16; first
        | (refine (kq1.out _ _ _ G2.out).mono ?_; clear kq1; rintro e w3 ⟨rfl, g3⟩; have G3 := hid g3; clear g3 G2)
        | (refine (kq2.out _ _ _ G4.out).mono ?_; clear kq2; rintro e w5 ⟨rfl, g5⟩; have G5 := hid g5; clear g5 G4)
        | (refine (kq3.out _ _ _ G7.out).mono ?_; clear kq3; rintro e w8 ⟨rfl, g8⟩; have G8 := hid g8; clear g8 G7))
    | (go_at_call 23; refine (kg.out _ _ G5.out).mono ?_; rintro e w6 ⟨⟨ao, n, cap, b, rfl⟩, g6⟩; have G6 := hid g6; clear g6 G5)
    | (go_at_call 14; refine (ko.out _ _ G8.out).mono ?_; rintro e w9 ⟨ao, cap, rfl, hcap, hrd, g9⟩; have G9 := hid g9; have HRD := hid hrd; have HCAP := hid hcap; clear g9 hrd hcap G8)
    | (go_at_call 30; refine (ki.out _ _ _ _ _ _ _ [1, 3] _ (HRD.out.keep ((Below.refl _ _).alloc (Nat.le_refl _) _)) (two_rd _ 1 3) (by omega) HCAP.out (by omega)).mono ?_; rintro e w10 ⟨rfl, h10⟩; have H10 := hid h10; clear h10; simp only [hpg.out, decide_true]))
  go_ret
  exact ⟨rfl, gt (gt G9.out.bl ((Below.refl _ _).alloc (Nat.le_refl _) _)) H10.out⟩

end Go.Proofs.Ytebjjibgkjgpgaa
