/- The bytes of a head; no statement of the seat is proved here. -/
import Derived.Test.YtpmfedimjjifaaaGreatDoorJ18
import Derived.Test.YtpmfedimjjifaaaGreatDoorJ25
import Derived.Test.YtpmfedimjjifaaaGreatDoorJ27
namespace Go.Proofs.YtpmfedimjjifaaaGreatDoor
open Go.RowKit Go.Maps
open Bxs (Rect)

theorem region_key {P : Program} {id : Nat} {ops : Array Oper} {a : Act} {w : World} {Q : Exit → Act → World → Prop} (R : Act → World → Prop) (walk : (∀ a W, R a W → Q .normal a W) → (Code.region id ops true).wp P Q a w) (key : ∀ a W, R a W → Q .normal a W) : (Code.region id ops true).wp P Q a w := walk key
theorem rdL2 {W : World} {p q : Pc} (a : Rd W p.o p.n p.c p.xs) (b : Rd W q.o q.n q.c q.xs) : RdL W [p, q] := by
  intro x hx
  simp only [List.mem_cons, List.not_mem_nil, or_false] at hx
  rcases hx with rfl | rfl
  · exact a
  · exact b
theorem rdL3 {W : World} {p q r : Pc} (a : Rd W p.o p.n p.c p.xs) (b : Rd W q.o q.n q.c q.xs) (c : Rd W r.o r.n r.c r.xs) : RdL W [p, q, r] := by
  intro x hx
  simp only [List.mem_cons, List.not_mem_nil, or_false] at hx
  rcases hx with rfl | rfl | rfl
  · exact a
  · exact b
  · exact c
/-- A row of bytes of one's own. -/
def Ow (W : World) (B : Nat) (ao : Option Addr) (n c : Nat) (xs : List Nat) : Prop := W.ownsRow B 5 1 (.slice ao n c) n (bs xs)
theorem Ow.keep {W W' : World} {B : Nat} {ao : Option Addr} {n c : Nat} {xs : List Nat} (h : Ow W B ao n c xs) (k : Below W.heap.size W W') : Ow W' B ao n c xs := own_below h k
/-- The block of a constant's bytes, marked or not. -/
def Mk (W : World) (N g : Nat) : Prop := N ≤ g ∧ ∃ m, W.heap[g]? = some (.cells #[.int .u8 71, .int .u8 80, .int .u8 0] 5 m)
theorem Mk.keep {W W' : World} {N g : Nat} (h : Mk W N g) (k : Below W.heap.size W W') : Mk W' N g := by
  obtain ⟨hN, m, h⟩ := h
  exact ⟨hN, m, (k.block g (Array.getElem?_eq_some_iff.1 h).1).trans h⟩
theorem cell_frz (W : World) (a x : Addr) (n : Nat) : (W.freeze a n).cell? x = W.cell? x := by
  unfold World.freeze
  by_cases hn : n = 0
  · rw [if_pos hn]
  · rw [if_neg hn]
    unfold World.cell?
    simp only [Array.getElem?_modify]
    by_cases h : a.block = x.block
    · rw [if_pos h]
      cases hx : W.heap[x.block]? with
      | none => simp
      | some o =>
        cases o with
        | cells c e m => obtain ⟨lo, hi⟩ := m; simp
        | _ => simp
    · rw [if_neg h]
theorem heap_frz (W : World) (a : Addr) (n b : Nat) (h : b ≠ a.block) : (W.freeze a n).heap[b]? = W.heap[b]? := by
  unfold World.freeze
  split
  · rfl
  · simp only [Array.getElem?_modify]
    rw [if_neg (Ne.symm h)]
theorem size_frz (W : World) (a : Addr) (n : Nat) : (W.freeze a n).heap.size = W.heap.size := by
  unfold World.freeze
  split
  · rfl
  · simp
theorem below_frz {N : Nat} {w W : World} (h : Below N w W) (a : Addr) (n : Nat) (hN : N ≤ a.block) : Below N w (W.freeze a n) := by
  refine ⟨?_, ?_, ?_, by rw [size_frz]; exact h.size, fun k hk => (heap_frz W a n k (by omega)).trans (h.block k hk)⟩
  · unfold World.freeze; split <;> exact h.os
  · unfold World.freeze; split <;> exact h.tape
  · unfold World.freeze; split <;> exact h.output
theorem Mk.frz {W : World} {N g : Nat} (h : Mk W N g) (a : Addr) (n : Nat) : Mk (W.freeze a n) N g := by
  obtain ⟨hN, m, h⟩ := h
  unfold World.freeze
  split
  · exact ⟨hN, m, h⟩
  · simp only [Mk, Array.getElem?_modify]
    split
    · rw [h]; exact ⟨hN, _, rfl⟩
    · exact ⟨hN, m, h⟩
theorem Rd.frz {W : World} {ao : Option Addr} {m c : Nat} {xs : List Nat} (h : Rd W ao m c xs) (a : Addr) (n : Nat) : Rd (W.freeze a n) ao m c xs := by
  refine ⟨h.1, h.2.1, h.2.2.1, fun hn => ?_⟩
  obtain ⟨b, off, e, hc⟩ := h.2.2.2 hn
  exact ⟨b, off, e, fun t ht => (cell_frz W a _ n).trans (hc t ht)⟩
theorem C9.frz {W : World} {b : Nat} {h : Hd} (k : C9 W b h) (a : Addr) (n : Nat) : C9 (W.freeze a n) b h := by
  unfold C9 at *
  simp only [cell_frz]
  exact k
theorem Mk.rd {W : World} {N g : Nat} (h : Mk W N g) : Rd W (some ⟨g, 0, none⟩) 3 3 markN := by
  obtain ⟨hN, m, h⟩ := h
  refine ⟨rfl, Nat.le_refl _, (fun h => by cases h), fun _ => ⟨g, 0, rfl, fun t ht => ?_⟩⟩
  obtain rfl | rfl | rfl : t = 0 ∨ t = 1 ∨ t = 2 := by omega
  all_goals (unfold World.cell?; rw [h]; rfl)
theorem conv_mark {W : World} {N g : Nat} (h : Mk W N g) (n c : Nat) : (convert 22 22 (.slice (some ⟨g, 0, none⟩) n c)).run Tryz.prog W = .ok (.slice (some ⟨g, 0, none⟩) n c) (W.freeze ⟨g, 3, none⟩ 1) := by
  obtain ⟨hN, m, h⟩ := h
  have hsh : W.shape? g = some (5, 3) := by unfold World.shape?; rw [h]; rfl
  simp [convert, run_underlying Tryz.underlying22, run_underlying Tryz.underlying5, markStringish, hsh]
set_option maxRecDepth 100000 in
set_option maxHeartbeats 8000000 in
theorem headBytes_call (h : Hd) (w : World) : Calls Tryz.prog 40 #[.agg #[.int .i64 (h).srs, .bool (h).l, .bool (h).b, .bool (h).e, .bool (h).x.n, .int .i64 (h).x.lx, .int .i64 (h).x.ly, .int .i64 (h).x.hx, .int .i64 (h).x.hy]] w fun e w' => ∃ ao n c, e = .returned (.slice ao n c) ∧ w'.ownsRow w.heap.size 5 1 (.slice ao n c) n (bs (headBs h)) ∧ Below w.heap.size w w' := by
  obtain ⟨z, l, b, e, n, x0, x1, x2, x3⟩ := h
  have FC := hid (flags_call ⟨z, l, b, e, ⟨n, x0, x1, x2, x3⟩⟩)
  have NU := hid (fun z k hk l W => number_call z k hk l W)
  unfold headBs
  simp only at FC ⊢
  go_enter Tryz.func40, Tryz.ntmps40
  go_wp2
  refine region_key (fun a W => ∃ (ao : Option Addr) (n0 c : Nat) (u6 u7 u8 u9 u10 u11 u12 u13 u14 u15 u16 u17 : Value), a = { tmps := #[.agg #[.int .i64 ((⟨z, l, b, e, ⟨n, x0, x1, x2, x3⟩⟩ : Hd)).srs, .bool ((⟨z, l, b, e, ⟨n, x0, x1, x2, x3⟩⟩ : Hd)).l, .bool ((⟨z, l, b, e, ⟨n, x0, x1, x2, x3⟩⟩ : Hd)).b, .bool ((⟨z, l, b, e, ⟨n, x0, x1, x2, x3⟩⟩ : Hd)).e, .bool ((⟨z, l, b, e, ⟨n, x0, x1, x2, x3⟩⟩ : Hd)).x.n, .int .i64 ((⟨z, l, b, e, ⟨n, x0, x1, x2, x3⟩⟩ : Hd)).x.lx, .int .i64 ((⟨z, l, b, e, ⟨n, x0, x1, x2, x3⟩⟩ : Hd)).x.ly, .int .i64 ((⟨z, l, b, e, ⟨n, x0, x1, x2, x3⟩⟩ : Hd)).x.hx, .int .i64 ((⟨z, l, b, e, ⟨n, x0, x1, x2, x3⟩⟩ : Hd)).x.hy], .pointer (some ⟨w.heap.size, 0, none⟩), .slice none 0 0, .slice ao n0 c, undef, undef, u6, u7, u8, u9, u10, u11, u12, u13, u14, u15, u16, u17, undef, undef, undef, undef, undef, undef, undef, undef, undef, undef, undef, undef, undef, undef, undef, undef, undef, undef, undef, undef, undef, undef, undef, undef, undef, undef, undef, undef, undef, undef, undef, undef, undef], defers := [] } ∧ Hid (W.ownsRow w.heap.size 5 1 (.slice ao n0 c) n0 (bs (markN ++ ([(fl l b e)] ++ putN (U z) 4 l)))) ∧ Hid (C9 W w.heap.size ⟨z, l, b, e, ⟨n, x0, x1, x2, x3⟩⟩) ∧ Hid (Below w.heap.size w W)) (fun KEY => ?_) ?_
  refine wp_region_K (S := (fun W : World => C9 W w.heap.size ⟨z, l, b, e, ⟨n, x0, x1, x2, x3⟩⟩ ∧ Below w.heap.size w W)) (fun _ => false) (by kernel_rfl) (by exact ⟨(B9.new w ⟨z, l, b, e, ⟨n, x0, x1, x2, x3⟩⟩).c, (by repeat (first | with_reducible exact Below.refl _ _ | with_reducible assumption | with_reducible refine Below.drew ?_ | with_reducible refine below_drewN ?_ _ | with_reducible refine Below.alloc ?_ (by simp <;> omega) _ | with_reducible refine Below.setCell ?_ (by simp <;> omega) _))⟩) (fun hHeld => ?_)
  refine any_more (S' := (fun W : World => C9 W w.heap.size ⟨z, l, b, e, ⟨n, x0, x1, x2, x3⟩⟩ ∧ Below w.heap.size w W)) hHeld (fun _ h => h) ?_; clear hHeld; intro W0 hHeld
  refine gkt 2 ?_ (h := by intro W hSw; obtain ⟨⟨y0, y1, y2, y3, y4, y5, y6, y7, y8⟩, _⟩ := hSw; go_simp; first | done | with_reducible rfl)
  refine gkp 5 ?_
  refine gkt 6 ?_ (h := by intro W hSw; obtain ⟨⟨y0, y1, y2, y3, y4, y5, y6, y7, y8⟩, _⟩ := hSw; go_simp; first | done | with_reducible rfl)
  refine gkp 7 ?_
  refine gkt 8 ?_ (h := by intro W hSw; obtain ⟨⟨y0, y1, y2, y3, y4, y5, y6, y7, y8⟩, _⟩ := hSw; go_simp; first | done | with_reducible rfl)
  refine wpAnyK_ready (rs := [0, 3]) (by kernel_rfl) (by simp) ?_
  refine AllReadyK.cons (at_op _ _ _ rfl) (fun K hK => ?_) ?_
  · as_aux_lemma =>
      go_simp
      have lowU := (hHeld.2).size
      refine hK.out _ _ (by exact ⟨(hHeld.1).keep (ext1 _), gt hHeld.2 (ext1 _)⟩) (fun hHeld => ?_)
      clear hK K
      (try simp only [Act.put, sA, sZ, sS])
      refine any_more (S' := (fun W : World => Mk W w.heap.size W0.heap.size ∧ C9 W w.heap.size ⟨z, l, b, e, ⟨n, x0, x1, x2, x3⟩⟩ ∧ Below w.heap.size w W)) ⟨⟨lowU, _, heap_alloc_new _ _⟩, hHeld⟩ (fun _ h => h.2) ?_; clear hHeld; intro W1 hHeld
      refine wpAnyK_ready (rs := [1, 3]) (by kernel_rfl) (by simp) ?_
      refine AllReadyK.cons (at_op _ _ _ rfl) (fun K hK => ?_) ?_
      · as_aux_lemma =>
          have cv := conv_mark (hHeld.1) 3 3
          go_simp
          refine hK.out _ _ (by exact ⟨hHeld.1.frz _ _, hHeld.2.1.frz _ _, below_frz hHeld.2.2 _ _ (hHeld.1).1⟩) (fun hHeld => ?_)
          clear hK K
          (try simp only [Act.put, sA, sZ, sS])
          refine any_more (S' := (fun W : World => Mk W w.heap.size W0.heap.size ∧ C9 W w.heap.size ⟨z, l, b, e, ⟨n, x0, x1, x2, x3⟩⟩ ∧ Below w.heap.size w W)) hHeld (fun _ h => h) ?_; clear hHeld; intro W2 hHeld
          refine gk1 3 (fun K hK => ?_)
          go_simp
          go_at_call 47; refine (FC.out _).mono ?_; rintro e v3 ⟨rfl, h3⟩; have hR : (fun W : World => Mk W w.heap.size W0.heap.size ∧ C9 W w.heap.size ⟨z, l, b, e, ⟨n, x0, x1, x2, x3⟩⟩ ∧ Below w.heap.size w W) v3 := ⟨(hHeld.1).keep h3, (hHeld.2.1).keep h3, gt hHeld.2.2 h3⟩
          refine hK.out _ _ hR (fun hHeld => ?_)
          clear hK K
          (try simp only [Act.put, sA, sZ, sS])
          refine any_more (S' := (fun W : World => Mk W w.heap.size W0.heap.size ∧ C9 W w.heap.size ⟨z, l, b, e, ⟨n, x0, x1, x2, x3⟩⟩ ∧ Below w.heap.size w W)) hHeld (fun _ h => h) ?_; clear hR hHeld; intro W3 hHeld
          refine wpAnyK_ready (rs := [4, 9]) (by kernel_rfl) (by simp) ?_
          refine AllReadyK.cons (at_op _ _ _ rfl) (fun K hK => ?_) ?_
          · as_aux_lemma =>
              go_simp
              have lowU := (hHeld.2.2).size
              refine hK.out _ _ (by exact ⟨(hHeld.1).keep (ext1 _), (hHeld.2.1).keep (ext1 _), gt hHeld.2.2 (ext1 _)⟩) (fun hHeld => ?_)
              clear hK K
              (try simp only [Act.put, sA, sZ, sS])
              refine any_more (S' := (fun W : World => Rd W (some ⟨W3.heap.size, 0, none⟩) 1 1 [(fl l b e)] ∧ Mk W w.heap.size W0.heap.size ∧ C9 W w.heap.size ⟨z, l, b, e, ⟨n, x0, x1, x2, x3⟩⟩ ∧ Below w.heap.size w W)) ⟨rd_one W3 (fl l b e), hHeld⟩ (fun _ h => h.2) ?_; clear hHeld; intro W4 hHeld
              refine gk1 9 (fun K hK => ?_)
              go_simp
              go_at_call 36; refine (NU.out z 4 (by decide) l _).mono ?_; rintro e v5 ⟨g5, rfl, o5, h5⟩; have hR : (fun W : World => Rd W (some ⟨W3.heap.size, 0, none⟩) 1 1 [(fl l b e)] ∧ Mk W w.heap.size W0.heap.size ∧ C9 W w.heap.size ⟨z, l, b, e, ⟨n, x0, x1, x2, x3⟩⟩ ∧ Below w.heap.size w W) v5 := ⟨(hHeld.1).keep h5, (hHeld.2.1).keep h5, (hHeld.2.2.1).keep h5, gt hHeld.2.2.2 h5⟩
              refine hK.out _ _ hR (fun hHeld => ?_)
              clear hK K
              (try simp only [Act.put, sA, sZ, sS])
              refine any_more (S' := (fun W : World => Rd W (some ⟨g5, 0, none⟩) 4 4 (putN (U z) 4 l) ∧ Rd W (some ⟨W3.heap.size, 0, none⟩) 1 1 [(fl l b e)] ∧ Mk W w.heap.size W0.heap.size ∧ C9 W w.heap.size ⟨z, l, b, e, ⟨n, x0, x1, x2, x3⟩⟩ ∧ Below w.heap.size w W)) ⟨rd_own o5, hHeld⟩ (fun _ h => h.2) ?_; clear hR hHeld; intro W5 hHeld
              refine gk1 10 (fun K hK => ?_)
              go_simp
              refine hK.out _ _ (by exact ⟨(hHeld.1).keep (ext1 _), (hHeld.2.1).keep (ext1 _), (hHeld.2.2.1).keep (ext1 _), (hHeld.2.2.2.1).keep (ext1 _), gt hHeld.2.2.2.2 (ext1 _)⟩) (fun hHeld => ?_)
              clear hK K
              (try simp only [Act.put, sA, sZ, sS])
              refine any_more (S' := (fun W : World => Bo W W5.heap.size (pcs [⟨some ⟨W0.heap.size, 0, none⟩, 3, 3, markN⟩, ⟨some ⟨W3.heap.size, 0, none⟩, 1, 1, [(fl l b e)]⟩, ⟨some ⟨g5, 0, none⟩, 4, 4, putN (U z) 4 l⟩]) 22 ∧ Rd W (some ⟨g5, 0, none⟩) 4 4 (putN (U z) 4 l) ∧ Rd W (some ⟨W3.heap.size, 0, none⟩) 1 1 [(fl l b e)] ∧ Mk W w.heap.size W0.heap.size ∧ C9 W w.heap.size ⟨z, l, b, e, ⟨n, x0, x1, x2, x3⟩⟩ ∧ Below w.heap.size w W)) ⟨heap_alloc_new _ _, hHeld⟩ (fun _ h => h.2) ?_; clear hHeld; intro W6 hHeld
              refine gk1 11 (fun K hK => ?_)
              go_simp
              go_at_call 35; refine (join_call W5.heap.size [⟨some ⟨W0.heap.size, 0, none⟩, 3, 3, markN⟩, ⟨some ⟨W3.heap.size, 0, none⟩, 1, 1, [(fl l b e)]⟩, ⟨some ⟨g5, 0, none⟩, 4, 4, putN (U z) 4 l⟩] W6 (hHeld.1) (rdL3 (hHeld.2.2.2.1).rd (hHeld.2.2.1) (hHeld.2.1)) (by simp [cat, markN, putN_length]) (by simp)).mono ?_; rintro e v7 ⟨ao7, n7, c7, rfl, o7, h7⟩; have hR : (fun W : World => Bo W W5.heap.size (pcs [⟨some ⟨W0.heap.size, 0, none⟩, 3, 3, markN⟩, ⟨some ⟨W3.heap.size, 0, none⟩, 1, 1, [(fl l b e)]⟩, ⟨some ⟨g5, 0, none⟩, 4, 4, putN (U z) 4 l⟩]) 22 ∧ Rd W (some ⟨g5, 0, none⟩) 4 4 (putN (U z) 4 l) ∧ Rd W (some ⟨W3.heap.size, 0, none⟩) 1 1 [(fl l b e)] ∧ Mk W w.heap.size W0.heap.size ∧ C9 W w.heap.size ⟨z, l, b, e, ⟨n, x0, x1, x2, x3⟩⟩ ∧ Below w.heap.size w W) v7 := ⟨(hHeld.1).keep h7, (hHeld.2.1).keep h7, (hHeld.2.2.1).keep h7, (hHeld.2.2.2.1).keep h7, (hHeld.2.2.2.2.1).keep h7, gt hHeld.2.2.2.2.2 h7⟩; have hO : Ow v7 w.heap.size ao7 n7 c7 (cat [⟨some ⟨W0.heap.size, 0, none⟩, 3, 3, markN⟩, ⟨some ⟨W3.heap.size, 0, none⟩, 1, 1, [(fl l b e)]⟩, ⟨some ⟨g5, 0, none⟩, 4, 4, putN (U z) 4 l⟩]) := own_base o7 (hHeld.2.2.2.2.2).size
              refine hK.out _ _ hR (fun hHeld => ?_)
              clear hK K
              (try simp only [Act.put, sA, sZ, sS])
              refine any_more (S' := (fun W : World => Ow W w.heap.size ao7 n7 c7 (cat [⟨some ⟨W0.heap.size, 0, none⟩, 3, 3, markN⟩, ⟨some ⟨W3.heap.size, 0, none⟩, 1, 1, [(fl l b e)]⟩, ⟨some ⟨g5, 0, none⟩, 4, 4, putN (U z) 4 l⟩]) ∧ Bo W W5.heap.size (pcs [⟨some ⟨W0.heap.size, 0, none⟩, 3, 3, markN⟩, ⟨some ⟨W3.heap.size, 0, none⟩, 1, 1, [(fl l b e)]⟩, ⟨some ⟨g5, 0, none⟩, 4, 4, putN (U z) 4 l⟩]) 22 ∧ Rd W (some ⟨g5, 0, none⟩) 4 4 (putN (U z) 4 l) ∧ Rd W (some ⟨W3.heap.size, 0, none⟩) 1 1 [(fl l b e)] ∧ Mk W w.heap.size W0.heap.size ∧ C9 W w.heap.size ⟨z, l, b, e, ⟨n, x0, x1, x2, x3⟩⟩ ∧ Below w.heap.size w W)) ⟨hO, hHeld⟩ (fun _ h => h.2) ?_; clear hR hHeld; intro W7 hHeld
              refine gkp 12 ?_
              refine wpAnyK_done (by kernel_rfl) ?_ _
              exact KEY _ _ ⟨_, _, _, _, _, _, _, _, _, _, _, _, _, _, _, rfl, hid (by have hO := hHeld.1; unfold Ow at hO; simpa [cat, markN] using hO), hid (hHeld.2.2.2.2.2.1), hid (hHeld.2.2.2.2.2.2)⟩
          refine AllReadyK.cons (at_op _ _ _ rfl) (fun K hK => ?_) ?_
          · as_aux_lemma =>
              go_simp
              go_at_call 36; refine (NU.out z 4 (by decide) l _).mono ?_; rintro e v8 ⟨g8, rfl, o8, h8⟩; have hR : (fun W : World => Mk W w.heap.size W0.heap.size ∧ C9 W w.heap.size ⟨z, l, b, e, ⟨n, x0, x1, x2, x3⟩⟩ ∧ Below w.heap.size w W) v8 := ⟨(hHeld.1).keep h8, (hHeld.2.1).keep h8, gt hHeld.2.2 h8⟩
              refine hK.out _ _ hR (fun hHeld => ?_)
              clear hK K
              (try simp only [Act.put, sA, sZ, sS])
              refine any_more (S' := (fun W : World => Rd W (some ⟨g8, 0, none⟩) 4 4 (putN (U z) 4 l) ∧ Mk W w.heap.size W0.heap.size ∧ C9 W w.heap.size ⟨z, l, b, e, ⟨n, x0, x1, x2, x3⟩⟩ ∧ Below w.heap.size w W)) ⟨rd_own o8, hHeld⟩ (fun _ h => h.2) ?_; clear hR hHeld; intro W8 hHeld
              refine gk1 4 (fun K hK => ?_)
              go_simp
              have lowU := (hHeld.2.2.2).size
              refine hK.out _ _ (by exact ⟨(hHeld.1).keep (ext1 _), (hHeld.2.1).keep (ext1 _), (hHeld.2.2.1).keep (ext1 _), gt hHeld.2.2.2 (ext1 _)⟩) (fun hHeld => ?_)
              clear hK K
              (try simp only [Act.put, sA, sZ, sS])
              refine any_more (S' := (fun W : World => Rd W (some ⟨W8.heap.size, 0, none⟩) 1 1 [(fl l b e)] ∧ Rd W (some ⟨g8, 0, none⟩) 4 4 (putN (U z) 4 l) ∧ Mk W w.heap.size W0.heap.size ∧ C9 W w.heap.size ⟨z, l, b, e, ⟨n, x0, x1, x2, x3⟩⟩ ∧ Below w.heap.size w W)) ⟨rd_one W8 (fl l b e), hHeld⟩ (fun _ h => h.2) ?_; clear hHeld; intro W9 hHeld
              refine gk1 10 (fun K hK => ?_)
              go_simp
              refine hK.out _ _ (by exact ⟨(hHeld.1).keep (ext1 _), (hHeld.2.1).keep (ext1 _), (hHeld.2.2.1).keep (ext1 _), (hHeld.2.2.2.1).keep (ext1 _), gt hHeld.2.2.2.2 (ext1 _)⟩) (fun hHeld => ?_)
              clear hK K
              (try simp only [Act.put, sA, sZ, sS])
              refine any_more (S' := (fun W : World => Bo W W9.heap.size (pcs [⟨some ⟨W0.heap.size, 0, none⟩, 3, 3, markN⟩, ⟨some ⟨W8.heap.size, 0, none⟩, 1, 1, [(fl l b e)]⟩, ⟨some ⟨g8, 0, none⟩, 4, 4, putN (U z) 4 l⟩]) 22 ∧ Rd W (some ⟨W8.heap.size, 0, none⟩) 1 1 [(fl l b e)] ∧ Rd W (some ⟨g8, 0, none⟩) 4 4 (putN (U z) 4 l) ∧ Mk W w.heap.size W0.heap.size ∧ C9 W w.heap.size ⟨z, l, b, e, ⟨n, x0, x1, x2, x3⟩⟩ ∧ Below w.heap.size w W)) ⟨heap_alloc_new _ _, hHeld⟩ (fun _ h => h.2) ?_; clear hHeld; intro W10 hHeld
              refine gk1 11 (fun K hK => ?_)
              go_simp
              go_at_call 35; refine (join_call W9.heap.size [⟨some ⟨W0.heap.size, 0, none⟩, 3, 3, markN⟩, ⟨some ⟨W8.heap.size, 0, none⟩, 1, 1, [(fl l b e)]⟩, ⟨some ⟨g8, 0, none⟩, 4, 4, putN (U z) 4 l⟩] W10 (hHeld.1) (rdL3 (hHeld.2.2.2.1).rd (hHeld.2.1) (hHeld.2.2.1)) (by simp [cat, markN, putN_length]) (by simp)).mono ?_; rintro e v11 ⟨ao11, n11, c11, rfl, o11, h11⟩; have hR : (fun W : World => Bo W W9.heap.size (pcs [⟨some ⟨W0.heap.size, 0, none⟩, 3, 3, markN⟩, ⟨some ⟨W8.heap.size, 0, none⟩, 1, 1, [(fl l b e)]⟩, ⟨some ⟨g8, 0, none⟩, 4, 4, putN (U z) 4 l⟩]) 22 ∧ Rd W (some ⟨W8.heap.size, 0, none⟩) 1 1 [(fl l b e)] ∧ Rd W (some ⟨g8, 0, none⟩) 4 4 (putN (U z) 4 l) ∧ Mk W w.heap.size W0.heap.size ∧ C9 W w.heap.size ⟨z, l, b, e, ⟨n, x0, x1, x2, x3⟩⟩ ∧ Below w.heap.size w W) v11 := ⟨(hHeld.1).keep h11, (hHeld.2.1).keep h11, (hHeld.2.2.1).keep h11, (hHeld.2.2.2.1).keep h11, (hHeld.2.2.2.2.1).keep h11, gt hHeld.2.2.2.2.2 h11⟩; have hO : Ow v11 w.heap.size ao11 n11 c11 (cat [⟨some ⟨W0.heap.size, 0, none⟩, 3, 3, markN⟩, ⟨some ⟨W8.heap.size, 0, none⟩, 1, 1, [(fl l b e)]⟩, ⟨some ⟨g8, 0, none⟩, 4, 4, putN (U z) 4 l⟩]) := own_base o11 (hHeld.2.2.2.2.2).size
              refine hK.out _ _ hR (fun hHeld => ?_)
              clear hK K
              (try simp only [Act.put, sA, sZ, sS])
              refine any_more (S' := (fun W : World => Ow W w.heap.size ao11 n11 c11 (cat [⟨some ⟨W0.heap.size, 0, none⟩, 3, 3, markN⟩, ⟨some ⟨W8.heap.size, 0, none⟩, 1, 1, [(fl l b e)]⟩, ⟨some ⟨g8, 0, none⟩, 4, 4, putN (U z) 4 l⟩]) ∧ Bo W W9.heap.size (pcs [⟨some ⟨W0.heap.size, 0, none⟩, 3, 3, markN⟩, ⟨some ⟨W8.heap.size, 0, none⟩, 1, 1, [(fl l b e)]⟩, ⟨some ⟨g8, 0, none⟩, 4, 4, putN (U z) 4 l⟩]) 22 ∧ Rd W (some ⟨W8.heap.size, 0, none⟩) 1 1 [(fl l b e)] ∧ Rd W (some ⟨g8, 0, none⟩) 4 4 (putN (U z) 4 l) ∧ Mk W w.heap.size W0.heap.size ∧ C9 W w.heap.size ⟨z, l, b, e, ⟨n, x0, x1, x2, x3⟩⟩ ∧ Below w.heap.size w W)) ⟨hO, hHeld⟩ (fun _ h => h.2) ?_; clear hR hHeld; intro W11 hHeld
              refine gkp 12 ?_
              refine wpAnyK_done (by kernel_rfl) ?_ _
              exact KEY _ _ ⟨_, _, _, _, _, _, _, _, _, _, _, _, _, _, _, rfl, hid (by have hO := hHeld.1; unfold Ow at hO; simpa [cat, markN] using hO), hid (hHeld.2.2.2.2.2.1), hid (hHeld.2.2.2.2.2.2)⟩
          exact AllReadyK.nil
      refine AllReadyK.cons (at_op _ _ _ rfl) (fun K hK => ?_) ?_
      · as_aux_lemma =>
          go_simp
          go_at_call 47; refine (FC.out _).mono ?_; rintro e v12 ⟨rfl, h12⟩; have hR : (fun W : World => Mk W w.heap.size W0.heap.size ∧ C9 W w.heap.size ⟨z, l, b, e, ⟨n, x0, x1, x2, x3⟩⟩ ∧ Below w.heap.size w W) v12 := ⟨(hHeld.1).keep h12, (hHeld.2.1).keep h12, gt hHeld.2.2 h12⟩
          refine hK.out _ _ hR (fun hHeld => ?_)
          clear hK K
          (try simp only [Act.put, sA, sZ, sS])
          refine any_more (S' := (fun W : World => Mk W w.heap.size W0.heap.size ∧ C9 W w.heap.size ⟨z, l, b, e, ⟨n, x0, x1, x2, x3⟩⟩ ∧ Below w.heap.size w W)) hHeld (fun _ h => h) ?_; clear hR hHeld; intro W12 hHeld
          refine wpAnyK_ready (rs := [1, 4, 9]) (by kernel_rfl) (by simp) ?_
          refine AllReadyK.cons (at_op _ _ _ rfl) (fun K hK => ?_) ?_
          · as_aux_lemma =>
              have cv := conv_mark (hHeld.1) 3 3
              go_simp
              refine hK.out _ _ (by exact ⟨hHeld.1.frz _ _, hHeld.2.1.frz _ _, below_frz hHeld.2.2 _ _ (hHeld.1).1⟩) (fun hHeld => ?_)
              clear hK K
              (try simp only [Act.put, sA, sZ, sS])
              refine any_more (S' := (fun W : World => Mk W w.heap.size W0.heap.size ∧ C9 W w.heap.size ⟨z, l, b, e, ⟨n, x0, x1, x2, x3⟩⟩ ∧ Below w.heap.size w W)) hHeld (fun _ h => h) ?_; clear hHeld; intro W13 hHeld
              refine wpAnyK_ready (rs := [4, 9]) (by kernel_rfl) (by simp) ?_
              refine AllReadyK.cons (at_op _ _ _ rfl) (fun K hK => ?_) ?_
              · as_aux_lemma =>
                  go_simp
                  have lowU := (hHeld.2.2).size
                  refine hK.out _ _ (by exact ⟨(hHeld.1).keep (ext1 _), (hHeld.2.1).keep (ext1 _), gt hHeld.2.2 (ext1 _)⟩) (fun hHeld => ?_)
                  clear hK K
                  (try simp only [Act.put, sA, sZ, sS])
                  refine any_more (S' := (fun W : World => Rd W (some ⟨W13.heap.size, 0, none⟩) 1 1 [(fl l b e)] ∧ Mk W w.heap.size W0.heap.size ∧ C9 W w.heap.size ⟨z, l, b, e, ⟨n, x0, x1, x2, x3⟩⟩ ∧ Below w.heap.size w W)) ⟨rd_one W13 (fl l b e), hHeld⟩ (fun _ h => h.2) ?_; clear hHeld; intro W14 hHeld
                  refine gk1 9 (fun K hK => ?_)
                  go_simp
                  go_at_call 36; refine (NU.out z 4 (by decide) l _).mono ?_; rintro e v15 ⟨g15, rfl, o15, h15⟩; have hR : (fun W : World => Rd W (some ⟨W13.heap.size, 0, none⟩) 1 1 [(fl l b e)] ∧ Mk W w.heap.size W0.heap.size ∧ C9 W w.heap.size ⟨z, l, b, e, ⟨n, x0, x1, x2, x3⟩⟩ ∧ Below w.heap.size w W) v15 := ⟨(hHeld.1).keep h15, (hHeld.2.1).keep h15, (hHeld.2.2.1).keep h15, gt hHeld.2.2.2 h15⟩
                  refine hK.out _ _ hR (fun hHeld => ?_)
                  clear hK K
                  (try simp only [Act.put, sA, sZ, sS])
                  refine any_more (S' := (fun W : World => Rd W (some ⟨g15, 0, none⟩) 4 4 (putN (U z) 4 l) ∧ Rd W (some ⟨W13.heap.size, 0, none⟩) 1 1 [(fl l b e)] ∧ Mk W w.heap.size W0.heap.size ∧ C9 W w.heap.size ⟨z, l, b, e, ⟨n, x0, x1, x2, x3⟩⟩ ∧ Below w.heap.size w W)) ⟨rd_own o15, hHeld⟩ (fun _ h => h.2) ?_; clear hR hHeld; intro W15 hHeld
                  refine gk1 10 (fun K hK => ?_)
                  go_simp
                  refine hK.out _ _ (by exact ⟨(hHeld.1).keep (ext1 _), (hHeld.2.1).keep (ext1 _), (hHeld.2.2.1).keep (ext1 _), (hHeld.2.2.2.1).keep (ext1 _), gt hHeld.2.2.2.2 (ext1 _)⟩) (fun hHeld => ?_)
                  clear hK K
                  (try simp only [Act.put, sA, sZ, sS])
                  refine any_more (S' := (fun W : World => Bo W W15.heap.size (pcs [⟨some ⟨W0.heap.size, 0, none⟩, 3, 3, markN⟩, ⟨some ⟨W13.heap.size, 0, none⟩, 1, 1, [(fl l b e)]⟩, ⟨some ⟨g15, 0, none⟩, 4, 4, putN (U z) 4 l⟩]) 22 ∧ Rd W (some ⟨g15, 0, none⟩) 4 4 (putN (U z) 4 l) ∧ Rd W (some ⟨W13.heap.size, 0, none⟩) 1 1 [(fl l b e)] ∧ Mk W w.heap.size W0.heap.size ∧ C9 W w.heap.size ⟨z, l, b, e, ⟨n, x0, x1, x2, x3⟩⟩ ∧ Below w.heap.size w W)) ⟨heap_alloc_new _ _, hHeld⟩ (fun _ h => h.2) ?_; clear hHeld; intro W16 hHeld
                  refine gk1 11 (fun K hK => ?_)
                  go_simp
                  go_at_call 35; refine (join_call W15.heap.size [⟨some ⟨W0.heap.size, 0, none⟩, 3, 3, markN⟩, ⟨some ⟨W13.heap.size, 0, none⟩, 1, 1, [(fl l b e)]⟩, ⟨some ⟨g15, 0, none⟩, 4, 4, putN (U z) 4 l⟩] W16 (hHeld.1) (rdL3 (hHeld.2.2.2.1).rd (hHeld.2.2.1) (hHeld.2.1)) (by simp [cat, markN, putN_length]) (by simp)).mono ?_; rintro e v17 ⟨ao17, n17, c17, rfl, o17, h17⟩; have hR : (fun W : World => Bo W W15.heap.size (pcs [⟨some ⟨W0.heap.size, 0, none⟩, 3, 3, markN⟩, ⟨some ⟨W13.heap.size, 0, none⟩, 1, 1, [(fl l b e)]⟩, ⟨some ⟨g15, 0, none⟩, 4, 4, putN (U z) 4 l⟩]) 22 ∧ Rd W (some ⟨g15, 0, none⟩) 4 4 (putN (U z) 4 l) ∧ Rd W (some ⟨W13.heap.size, 0, none⟩) 1 1 [(fl l b e)] ∧ Mk W w.heap.size W0.heap.size ∧ C9 W w.heap.size ⟨z, l, b, e, ⟨n, x0, x1, x2, x3⟩⟩ ∧ Below w.heap.size w W) v17 := ⟨(hHeld.1).keep h17, (hHeld.2.1).keep h17, (hHeld.2.2.1).keep h17, (hHeld.2.2.2.1).keep h17, (hHeld.2.2.2.2.1).keep h17, gt hHeld.2.2.2.2.2 h17⟩; have hO : Ow v17 w.heap.size ao17 n17 c17 (cat [⟨some ⟨W0.heap.size, 0, none⟩, 3, 3, markN⟩, ⟨some ⟨W13.heap.size, 0, none⟩, 1, 1, [(fl l b e)]⟩, ⟨some ⟨g15, 0, none⟩, 4, 4, putN (U z) 4 l⟩]) := own_base o17 (hHeld.2.2.2.2.2).size
                  refine hK.out _ _ hR (fun hHeld => ?_)
                  clear hK K
                  (try simp only [Act.put, sA, sZ, sS])
                  refine any_more (S' := (fun W : World => Ow W w.heap.size ao17 n17 c17 (cat [⟨some ⟨W0.heap.size, 0, none⟩, 3, 3, markN⟩, ⟨some ⟨W13.heap.size, 0, none⟩, 1, 1, [(fl l b e)]⟩, ⟨some ⟨g15, 0, none⟩, 4, 4, putN (U z) 4 l⟩]) ∧ Bo W W15.heap.size (pcs [⟨some ⟨W0.heap.size, 0, none⟩, 3, 3, markN⟩, ⟨some ⟨W13.heap.size, 0, none⟩, 1, 1, [(fl l b e)]⟩, ⟨some ⟨g15, 0, none⟩, 4, 4, putN (U z) 4 l⟩]) 22 ∧ Rd W (some ⟨g15, 0, none⟩) 4 4 (putN (U z) 4 l) ∧ Rd W (some ⟨W13.heap.size, 0, none⟩) 1 1 [(fl l b e)] ∧ Mk W w.heap.size W0.heap.size ∧ C9 W w.heap.size ⟨z, l, b, e, ⟨n, x0, x1, x2, x3⟩⟩ ∧ Below w.heap.size w W)) ⟨hO, hHeld⟩ (fun _ h => h.2) ?_; clear hR hHeld; intro W17 hHeld
                  refine gkp 12 ?_
                  refine wpAnyK_done (by kernel_rfl) ?_ _
                  exact KEY _ _ ⟨_, _, _, _, _, _, _, _, _, _, _, _, _, _, _, rfl, hid (by have hO := hHeld.1; unfold Ow at hO; simpa [cat, markN] using hO), hid (hHeld.2.2.2.2.2.1), hid (hHeld.2.2.2.2.2.2)⟩
              refine AllReadyK.cons (at_op _ _ _ rfl) (fun K hK => ?_) ?_
              · as_aux_lemma =>
                  go_simp
                  go_at_call 36; refine (NU.out z 4 (by decide) l _).mono ?_; rintro e v18 ⟨g18, rfl, o18, h18⟩; have hR : (fun W : World => Mk W w.heap.size W0.heap.size ∧ C9 W w.heap.size ⟨z, l, b, e, ⟨n, x0, x1, x2, x3⟩⟩ ∧ Below w.heap.size w W) v18 := ⟨(hHeld.1).keep h18, (hHeld.2.1).keep h18, gt hHeld.2.2 h18⟩
                  refine hK.out _ _ hR (fun hHeld => ?_)
                  clear hK K
                  (try simp only [Act.put, sA, sZ, sS])
                  refine any_more (S' := (fun W : World => Rd W (some ⟨g18, 0, none⟩) 4 4 (putN (U z) 4 l) ∧ Mk W w.heap.size W0.heap.size ∧ C9 W w.heap.size ⟨z, l, b, e, ⟨n, x0, x1, x2, x3⟩⟩ ∧ Below w.heap.size w W)) ⟨rd_own o18, hHeld⟩ (fun _ h => h.2) ?_; clear hR hHeld; intro W18 hHeld
                  refine gk1 4 (fun K hK => ?_)
                  go_simp
                  have lowU := (hHeld.2.2.2).size
                  refine hK.out _ _ (by exact ⟨(hHeld.1).keep (ext1 _), (hHeld.2.1).keep (ext1 _), (hHeld.2.2.1).keep (ext1 _), gt hHeld.2.2.2 (ext1 _)⟩) (fun hHeld => ?_)
                  clear hK K
                  (try simp only [Act.put, sA, sZ, sS])
                  refine any_more (S' := (fun W : World => Rd W (some ⟨W18.heap.size, 0, none⟩) 1 1 [(fl l b e)] ∧ Rd W (some ⟨g18, 0, none⟩) 4 4 (putN (U z) 4 l) ∧ Mk W w.heap.size W0.heap.size ∧ C9 W w.heap.size ⟨z, l, b, e, ⟨n, x0, x1, x2, x3⟩⟩ ∧ Below w.heap.size w W)) ⟨rd_one W18 (fl l b e), hHeld⟩ (fun _ h => h.2) ?_; clear hHeld; intro W19 hHeld
                  refine gk1 10 (fun K hK => ?_)
                  go_simp
                  refine hK.out _ _ (by exact ⟨(hHeld.1).keep (ext1 _), (hHeld.2.1).keep (ext1 _), (hHeld.2.2.1).keep (ext1 _), (hHeld.2.2.2.1).keep (ext1 _), gt hHeld.2.2.2.2 (ext1 _)⟩) (fun hHeld => ?_)
                  clear hK K
                  (try simp only [Act.put, sA, sZ, sS])
                  refine any_more (S' := (fun W : World => Bo W W19.heap.size (pcs [⟨some ⟨W0.heap.size, 0, none⟩, 3, 3, markN⟩, ⟨some ⟨W18.heap.size, 0, none⟩, 1, 1, [(fl l b e)]⟩, ⟨some ⟨g18, 0, none⟩, 4, 4, putN (U z) 4 l⟩]) 22 ∧ Rd W (some ⟨W18.heap.size, 0, none⟩) 1 1 [(fl l b e)] ∧ Rd W (some ⟨g18, 0, none⟩) 4 4 (putN (U z) 4 l) ∧ Mk W w.heap.size W0.heap.size ∧ C9 W w.heap.size ⟨z, l, b, e, ⟨n, x0, x1, x2, x3⟩⟩ ∧ Below w.heap.size w W)) ⟨heap_alloc_new _ _, hHeld⟩ (fun _ h => h.2) ?_; clear hHeld; intro W20 hHeld
                  refine gk1 11 (fun K hK => ?_)
                  go_simp
                  go_at_call 35; refine (join_call W19.heap.size [⟨some ⟨W0.heap.size, 0, none⟩, 3, 3, markN⟩, ⟨some ⟨W18.heap.size, 0, none⟩, 1, 1, [(fl l b e)]⟩, ⟨some ⟨g18, 0, none⟩, 4, 4, putN (U z) 4 l⟩] W20 (hHeld.1) (rdL3 (hHeld.2.2.2.1).rd (hHeld.2.1) (hHeld.2.2.1)) (by simp [cat, markN, putN_length]) (by simp)).mono ?_; rintro e v21 ⟨ao21, n21, c21, rfl, o21, h21⟩; have hR : (fun W : World => Bo W W19.heap.size (pcs [⟨some ⟨W0.heap.size, 0, none⟩, 3, 3, markN⟩, ⟨some ⟨W18.heap.size, 0, none⟩, 1, 1, [(fl l b e)]⟩, ⟨some ⟨g18, 0, none⟩, 4, 4, putN (U z) 4 l⟩]) 22 ∧ Rd W (some ⟨W18.heap.size, 0, none⟩) 1 1 [(fl l b e)] ∧ Rd W (some ⟨g18, 0, none⟩) 4 4 (putN (U z) 4 l) ∧ Mk W w.heap.size W0.heap.size ∧ C9 W w.heap.size ⟨z, l, b, e, ⟨n, x0, x1, x2, x3⟩⟩ ∧ Below w.heap.size w W) v21 := ⟨(hHeld.1).keep h21, (hHeld.2.1).keep h21, (hHeld.2.2.1).keep h21, (hHeld.2.2.2.1).keep h21, (hHeld.2.2.2.2.1).keep h21, gt hHeld.2.2.2.2.2 h21⟩; have hO : Ow v21 w.heap.size ao21 n21 c21 (cat [⟨some ⟨W0.heap.size, 0, none⟩, 3, 3, markN⟩, ⟨some ⟨W18.heap.size, 0, none⟩, 1, 1, [(fl l b e)]⟩, ⟨some ⟨g18, 0, none⟩, 4, 4, putN (U z) 4 l⟩]) := own_base o21 (hHeld.2.2.2.2.2).size
                  refine hK.out _ _ hR (fun hHeld => ?_)
                  clear hK K
                  (try simp only [Act.put, sA, sZ, sS])
                  refine any_more (S' := (fun W : World => Ow W w.heap.size ao21 n21 c21 (cat [⟨some ⟨W0.heap.size, 0, none⟩, 3, 3, markN⟩, ⟨some ⟨W18.heap.size, 0, none⟩, 1, 1, [(fl l b e)]⟩, ⟨some ⟨g18, 0, none⟩, 4, 4, putN (U z) 4 l⟩]) ∧ Bo W W19.heap.size (pcs [⟨some ⟨W0.heap.size, 0, none⟩, 3, 3, markN⟩, ⟨some ⟨W18.heap.size, 0, none⟩, 1, 1, [(fl l b e)]⟩, ⟨some ⟨g18, 0, none⟩, 4, 4, putN (U z) 4 l⟩]) 22 ∧ Rd W (some ⟨W18.heap.size, 0, none⟩) 1 1 [(fl l b e)] ∧ Rd W (some ⟨g18, 0, none⟩) 4 4 (putN (U z) 4 l) ∧ Mk W w.heap.size W0.heap.size ∧ C9 W w.heap.size ⟨z, l, b, e, ⟨n, x0, x1, x2, x3⟩⟩ ∧ Below w.heap.size w W)) ⟨hO, hHeld⟩ (fun _ h => h.2) ?_; clear hR hHeld; intro W21 hHeld
                  refine gkp 12 ?_
                  refine wpAnyK_done (by kernel_rfl) ?_ _
                  exact KEY _ _ ⟨_, _, _, _, _, _, _, _, _, _, _, _, _, _, _, rfl, hid (by have hO := hHeld.1; unfold Ow at hO; simpa [cat, markN] using hO), hid (hHeld.2.2.2.2.2.1), hid (hHeld.2.2.2.2.2.2)⟩
              exact AllReadyK.nil
          refine AllReadyK.cons (at_op _ _ _ rfl) (fun K hK => ?_) ?_
          · as_aux_lemma =>
              go_simp
              have lowU := (hHeld.2.2).size
              refine hK.out _ _ (by exact ⟨(hHeld.1).keep (ext1 _), (hHeld.2.1).keep (ext1 _), gt hHeld.2.2 (ext1 _)⟩) (fun hHeld => ?_)
              clear hK K
              (try simp only [Act.put, sA, sZ, sS])
              refine any_more (S' := (fun W : World => Rd W (some ⟨W12.heap.size, 0, none⟩) 1 1 [(fl l b e)] ∧ Mk W w.heap.size W0.heap.size ∧ C9 W w.heap.size ⟨z, l, b, e, ⟨n, x0, x1, x2, x3⟩⟩ ∧ Below w.heap.size w W)) ⟨rd_one W12 (fl l b e), hHeld⟩ (fun _ h => h.2) ?_; clear hHeld; intro W22 hHeld
              refine wpAnyK_ready (rs := [1, 9]) (by kernel_rfl) (by simp) ?_
              refine AllReadyK.cons (at_op _ _ _ rfl) (fun K hK => ?_) ?_
              · as_aux_lemma =>
                  have cv := conv_mark (hHeld.2.1) 3 3
                  go_simp
                  refine hK.out _ _ (by exact ⟨hHeld.1.frz _ _, hHeld.2.1.frz _ _, hHeld.2.2.1.frz _ _, below_frz hHeld.2.2.2 _ _ (hHeld.2.1).1⟩) (fun hHeld => ?_)
                  clear hK K
                  (try simp only [Act.put, sA, sZ, sS])
                  refine any_more (S' := (fun W : World => Rd W (some ⟨W12.heap.size, 0, none⟩) 1 1 [(fl l b e)] ∧ Mk W w.heap.size W0.heap.size ∧ C9 W w.heap.size ⟨z, l, b, e, ⟨n, x0, x1, x2, x3⟩⟩ ∧ Below w.heap.size w W)) hHeld (fun _ h => h) ?_; clear hHeld; intro W23 hHeld
                  refine gk1 9 (fun K hK => ?_)
                  go_simp
                  go_at_call 36; refine (NU.out z 4 (by decide) l _).mono ?_; rintro e v24 ⟨g24, rfl, o24, h24⟩; have hR : (fun W : World => Rd W (some ⟨W12.heap.size, 0, none⟩) 1 1 [(fl l b e)] ∧ Mk W w.heap.size W0.heap.size ∧ C9 W w.heap.size ⟨z, l, b, e, ⟨n, x0, x1, x2, x3⟩⟩ ∧ Below w.heap.size w W) v24 := ⟨(hHeld.1).keep h24, (hHeld.2.1).keep h24, (hHeld.2.2.1).keep h24, gt hHeld.2.2.2 h24⟩
                  refine hK.out _ _ hR (fun hHeld => ?_)
                  clear hK K
                  (try simp only [Act.put, sA, sZ, sS])
                  refine any_more (S' := (fun W : World => Rd W (some ⟨g24, 0, none⟩) 4 4 (putN (U z) 4 l) ∧ Rd W (some ⟨W12.heap.size, 0, none⟩) 1 1 [(fl l b e)] ∧ Mk W w.heap.size W0.heap.size ∧ C9 W w.heap.size ⟨z, l, b, e, ⟨n, x0, x1, x2, x3⟩⟩ ∧ Below w.heap.size w W)) ⟨rd_own o24, hHeld⟩ (fun _ h => h.2) ?_; clear hR hHeld; intro W24 hHeld
                  refine gk1 10 (fun K hK => ?_)
                  go_simp
                  refine hK.out _ _ (by exact ⟨(hHeld.1).keep (ext1 _), (hHeld.2.1).keep (ext1 _), (hHeld.2.2.1).keep (ext1 _), (hHeld.2.2.2.1).keep (ext1 _), gt hHeld.2.2.2.2 (ext1 _)⟩) (fun hHeld => ?_)
                  clear hK K
                  (try simp only [Act.put, sA, sZ, sS])
                  refine any_more (S' := (fun W : World => Bo W W24.heap.size (pcs [⟨some ⟨W0.heap.size, 0, none⟩, 3, 3, markN⟩, ⟨some ⟨W12.heap.size, 0, none⟩, 1, 1, [(fl l b e)]⟩, ⟨some ⟨g24, 0, none⟩, 4, 4, putN (U z) 4 l⟩]) 22 ∧ Rd W (some ⟨g24, 0, none⟩) 4 4 (putN (U z) 4 l) ∧ Rd W (some ⟨W12.heap.size, 0, none⟩) 1 1 [(fl l b e)] ∧ Mk W w.heap.size W0.heap.size ∧ C9 W w.heap.size ⟨z, l, b, e, ⟨n, x0, x1, x2, x3⟩⟩ ∧ Below w.heap.size w W)) ⟨heap_alloc_new _ _, hHeld⟩ (fun _ h => h.2) ?_; clear hHeld; intro W25 hHeld
                  refine gk1 11 (fun K hK => ?_)
                  go_simp
                  go_at_call 35; refine (join_call W24.heap.size [⟨some ⟨W0.heap.size, 0, none⟩, 3, 3, markN⟩, ⟨some ⟨W12.heap.size, 0, none⟩, 1, 1, [(fl l b e)]⟩, ⟨some ⟨g24, 0, none⟩, 4, 4, putN (U z) 4 l⟩] W25 (hHeld.1) (rdL3 (hHeld.2.2.2.1).rd (hHeld.2.2.1) (hHeld.2.1)) (by simp [cat, markN, putN_length]) (by simp)).mono ?_; rintro e v26 ⟨ao26, n26, c26, rfl, o26, h26⟩; have hR : (fun W : World => Bo W W24.heap.size (pcs [⟨some ⟨W0.heap.size, 0, none⟩, 3, 3, markN⟩, ⟨some ⟨W12.heap.size, 0, none⟩, 1, 1, [(fl l b e)]⟩, ⟨some ⟨g24, 0, none⟩, 4, 4, putN (U z) 4 l⟩]) 22 ∧ Rd W (some ⟨g24, 0, none⟩) 4 4 (putN (U z) 4 l) ∧ Rd W (some ⟨W12.heap.size, 0, none⟩) 1 1 [(fl l b e)] ∧ Mk W w.heap.size W0.heap.size ∧ C9 W w.heap.size ⟨z, l, b, e, ⟨n, x0, x1, x2, x3⟩⟩ ∧ Below w.heap.size w W) v26 := ⟨(hHeld.1).keep h26, (hHeld.2.1).keep h26, (hHeld.2.2.1).keep h26, (hHeld.2.2.2.1).keep h26, (hHeld.2.2.2.2.1).keep h26, gt hHeld.2.2.2.2.2 h26⟩; have hO : Ow v26 w.heap.size ao26 n26 c26 (cat [⟨some ⟨W0.heap.size, 0, none⟩, 3, 3, markN⟩, ⟨some ⟨W12.heap.size, 0, none⟩, 1, 1, [(fl l b e)]⟩, ⟨some ⟨g24, 0, none⟩, 4, 4, putN (U z) 4 l⟩]) := own_base o26 (hHeld.2.2.2.2.2).size
                  refine hK.out _ _ hR (fun hHeld => ?_)
                  clear hK K
                  (try simp only [Act.put, sA, sZ, sS])
                  refine any_more (S' := (fun W : World => Ow W w.heap.size ao26 n26 c26 (cat [⟨some ⟨W0.heap.size, 0, none⟩, 3, 3, markN⟩, ⟨some ⟨W12.heap.size, 0, none⟩, 1, 1, [(fl l b e)]⟩, ⟨some ⟨g24, 0, none⟩, 4, 4, putN (U z) 4 l⟩]) ∧ Bo W W24.heap.size (pcs [⟨some ⟨W0.heap.size, 0, none⟩, 3, 3, markN⟩, ⟨some ⟨W12.heap.size, 0, none⟩, 1, 1, [(fl l b e)]⟩, ⟨some ⟨g24, 0, none⟩, 4, 4, putN (U z) 4 l⟩]) 22 ∧ Rd W (some ⟨g24, 0, none⟩) 4 4 (putN (U z) 4 l) ∧ Rd W (some ⟨W12.heap.size, 0, none⟩) 1 1 [(fl l b e)] ∧ Mk W w.heap.size W0.heap.size ∧ C9 W w.heap.size ⟨z, l, b, e, ⟨n, x0, x1, x2, x3⟩⟩ ∧ Below w.heap.size w W)) ⟨hO, hHeld⟩ (fun _ h => h.2) ?_; clear hR hHeld; intro W26 hHeld
                  refine gkp 12 ?_
                  refine wpAnyK_done (by kernel_rfl) ?_ _
                  exact KEY _ _ ⟨_, _, _, _, _, _, _, _, _, _, _, _, _, _, _, rfl, hid (by have hO := hHeld.1; unfold Ow at hO; simpa [cat, markN] using hO), hid (hHeld.2.2.2.2.2.1), hid (hHeld.2.2.2.2.2.2)⟩
              refine AllReadyK.cons (at_op _ _ _ rfl) (fun K hK => ?_) ?_
              · as_aux_lemma =>
                  go_simp
                  go_at_call 36; refine (NU.out z 4 (by decide) l _).mono ?_; rintro e v27 ⟨g27, rfl, o27, h27⟩; have hR : (fun W : World => Rd W (some ⟨W12.heap.size, 0, none⟩) 1 1 [(fl l b e)] ∧ Mk W w.heap.size W0.heap.size ∧ C9 W w.heap.size ⟨z, l, b, e, ⟨n, x0, x1, x2, x3⟩⟩ ∧ Below w.heap.size w W) v27 := ⟨(hHeld.1).keep h27, (hHeld.2.1).keep h27, (hHeld.2.2.1).keep h27, gt hHeld.2.2.2 h27⟩
                  refine hK.out _ _ hR (fun hHeld => ?_)
                  clear hK K
                  (try simp only [Act.put, sA, sZ, sS])
                  refine any_more (S' := (fun W : World => Rd W (some ⟨g27, 0, none⟩) 4 4 (putN (U z) 4 l) ∧ Rd W (some ⟨W12.heap.size, 0, none⟩) 1 1 [(fl l b e)] ∧ Mk W w.heap.size W0.heap.size ∧ C9 W w.heap.size ⟨z, l, b, e, ⟨n, x0, x1, x2, x3⟩⟩ ∧ Below w.heap.size w W)) ⟨rd_own o27, hHeld⟩ (fun _ h => h.2) ?_; clear hR hHeld; intro W27 hHeld
                  refine gk1 1 (fun K hK => ?_)
                  have cv := conv_mark (hHeld.2.2.1) 3 3
                  go_simp
                  refine hK.out _ _ (by exact ⟨hHeld.1.frz _ _, hHeld.2.1.frz _ _, hHeld.2.2.1.frz _ _, hHeld.2.2.2.1.frz _ _, below_frz hHeld.2.2.2.2 _ _ (hHeld.2.2.1).1⟩) (fun hHeld => ?_)
                  clear hK K
                  (try simp only [Act.put, sA, sZ, sS])
                  refine any_more (S' := (fun W : World => Rd W (some ⟨g27, 0, none⟩) 4 4 (putN (U z) 4 l) ∧ Rd W (some ⟨W12.heap.size, 0, none⟩) 1 1 [(fl l b e)] ∧ Mk W w.heap.size W0.heap.size ∧ C9 W w.heap.size ⟨z, l, b, e, ⟨n, x0, x1, x2, x3⟩⟩ ∧ Below w.heap.size w W)) hHeld (fun _ h => h) ?_; clear hHeld; intro W28 hHeld
                  refine gk1 10 (fun K hK => ?_)
                  go_simp
                  refine hK.out _ _ (by exact ⟨(hHeld.1).keep (ext1 _), (hHeld.2.1).keep (ext1 _), (hHeld.2.2.1).keep (ext1 _), (hHeld.2.2.2.1).keep (ext1 _), gt hHeld.2.2.2.2 (ext1 _)⟩) (fun hHeld => ?_)
                  clear hK K
                  (try simp only [Act.put, sA, sZ, sS])
                  refine any_more (S' := (fun W : World => Bo W W28.heap.size (pcs [⟨some ⟨W0.heap.size, 0, none⟩, 3, 3, markN⟩, ⟨some ⟨W12.heap.size, 0, none⟩, 1, 1, [(fl l b e)]⟩, ⟨some ⟨g27, 0, none⟩, 4, 4, putN (U z) 4 l⟩]) 22 ∧ Rd W (some ⟨g27, 0, none⟩) 4 4 (putN (U z) 4 l) ∧ Rd W (some ⟨W12.heap.size, 0, none⟩) 1 1 [(fl l b e)] ∧ Mk W w.heap.size W0.heap.size ∧ C9 W w.heap.size ⟨z, l, b, e, ⟨n, x0, x1, x2, x3⟩⟩ ∧ Below w.heap.size w W)) ⟨heap_alloc_new _ _, hHeld⟩ (fun _ h => h.2) ?_; clear hHeld; intro W29 hHeld
                  refine gk1 11 (fun K hK => ?_)
                  go_simp
                  go_at_call 35; refine (join_call W28.heap.size [⟨some ⟨W0.heap.size, 0, none⟩, 3, 3, markN⟩, ⟨some ⟨W12.heap.size, 0, none⟩, 1, 1, [(fl l b e)]⟩, ⟨some ⟨g27, 0, none⟩, 4, 4, putN (U z) 4 l⟩] W29 (hHeld.1) (rdL3 (hHeld.2.2.2.1).rd (hHeld.2.2.1) (hHeld.2.1)) (by simp [cat, markN, putN_length]) (by simp)).mono ?_; rintro e v30 ⟨ao30, n30, c30, rfl, o30, h30⟩; have hR : (fun W : World => Bo W W28.heap.size (pcs [⟨some ⟨W0.heap.size, 0, none⟩, 3, 3, markN⟩, ⟨some ⟨W12.heap.size, 0, none⟩, 1, 1, [(fl l b e)]⟩, ⟨some ⟨g27, 0, none⟩, 4, 4, putN (U z) 4 l⟩]) 22 ∧ Rd W (some ⟨g27, 0, none⟩) 4 4 (putN (U z) 4 l) ∧ Rd W (some ⟨W12.heap.size, 0, none⟩) 1 1 [(fl l b e)] ∧ Mk W w.heap.size W0.heap.size ∧ C9 W w.heap.size ⟨z, l, b, e, ⟨n, x0, x1, x2, x3⟩⟩ ∧ Below w.heap.size w W) v30 := ⟨(hHeld.1).keep h30, (hHeld.2.1).keep h30, (hHeld.2.2.1).keep h30, (hHeld.2.2.2.1).keep h30, (hHeld.2.2.2.2.1).keep h30, gt hHeld.2.2.2.2.2 h30⟩; have hO : Ow v30 w.heap.size ao30 n30 c30 (cat [⟨some ⟨W0.heap.size, 0, none⟩, 3, 3, markN⟩, ⟨some ⟨W12.heap.size, 0, none⟩, 1, 1, [(fl l b e)]⟩, ⟨some ⟨g27, 0, none⟩, 4, 4, putN (U z) 4 l⟩]) := own_base o30 (hHeld.2.2.2.2.2).size
                  refine hK.out _ _ hR (fun hHeld => ?_)
                  clear hK K
                  (try simp only [Act.put, sA, sZ, sS])
                  refine any_more (S' := (fun W : World => Ow W w.heap.size ao30 n30 c30 (cat [⟨some ⟨W0.heap.size, 0, none⟩, 3, 3, markN⟩, ⟨some ⟨W12.heap.size, 0, none⟩, 1, 1, [(fl l b e)]⟩, ⟨some ⟨g27, 0, none⟩, 4, 4, putN (U z) 4 l⟩]) ∧ Bo W W28.heap.size (pcs [⟨some ⟨W0.heap.size, 0, none⟩, 3, 3, markN⟩, ⟨some ⟨W12.heap.size, 0, none⟩, 1, 1, [(fl l b e)]⟩, ⟨some ⟨g27, 0, none⟩, 4, 4, putN (U z) 4 l⟩]) 22 ∧ Rd W (some ⟨g27, 0, none⟩) 4 4 (putN (U z) 4 l) ∧ Rd W (some ⟨W12.heap.size, 0, none⟩) 1 1 [(fl l b e)] ∧ Mk W w.heap.size W0.heap.size ∧ C9 W w.heap.size ⟨z, l, b, e, ⟨n, x0, x1, x2, x3⟩⟩ ∧ Below w.heap.size w W)) ⟨hO, hHeld⟩ (fun _ h => h.2) ?_; clear hR hHeld; intro W30 hHeld
                  refine gkp 12 ?_
                  refine wpAnyK_done (by kernel_rfl) ?_ _
                  exact KEY _ _ ⟨_, _, _, _, _, _, _, _, _, _, _, _, _, _, _, rfl, hid (by have hO := hHeld.1; unfold Ow at hO; simpa [cat, markN] using hO), hid (hHeld.2.2.2.2.2.1), hid (hHeld.2.2.2.2.2.2)⟩
              exact AllReadyK.nil
          refine AllReadyK.cons (at_op _ _ _ rfl) (fun K hK => ?_) ?_
          · as_aux_lemma =>
              go_simp
              go_at_call 36; refine (NU.out z 4 (by decide) l _).mono ?_; rintro e v31 ⟨g31, rfl, o31, h31⟩; have hR : (fun W : World => Mk W w.heap.size W0.heap.size ∧ C9 W w.heap.size ⟨z, l, b, e, ⟨n, x0, x1, x2, x3⟩⟩ ∧ Below w.heap.size w W) v31 := ⟨(hHeld.1).keep h31, (hHeld.2.1).keep h31, gt hHeld.2.2 h31⟩
              refine hK.out _ _ hR (fun hHeld => ?_)
              clear hK K
              (try simp only [Act.put, sA, sZ, sS])
              refine any_more (S' := (fun W : World => Rd W (some ⟨g31, 0, none⟩) 4 4 (putN (U z) 4 l) ∧ Mk W w.heap.size W0.heap.size ∧ C9 W w.heap.size ⟨z, l, b, e, ⟨n, x0, x1, x2, x3⟩⟩ ∧ Below w.heap.size w W)) ⟨rd_own o31, hHeld⟩ (fun _ h => h.2) ?_; clear hR hHeld; intro W31 hHeld
              refine wpAnyK_ready (rs := [1, 4]) (by kernel_rfl) (by simp) ?_
              refine AllReadyK.cons (at_op _ _ _ rfl) (fun K hK => ?_) ?_
              · as_aux_lemma =>
                  have cv := conv_mark (hHeld.2.1) 3 3
                  go_simp
                  refine hK.out _ _ (by exact ⟨hHeld.1.frz _ _, hHeld.2.1.frz _ _, hHeld.2.2.1.frz _ _, below_frz hHeld.2.2.2 _ _ (hHeld.2.1).1⟩) (fun hHeld => ?_)
                  clear hK K
                  (try simp only [Act.put, sA, sZ, sS])
                  refine any_more (S' := (fun W : World => Rd W (some ⟨g31, 0, none⟩) 4 4 (putN (U z) 4 l) ∧ Mk W w.heap.size W0.heap.size ∧ C9 W w.heap.size ⟨z, l, b, e, ⟨n, x0, x1, x2, x3⟩⟩ ∧ Below w.heap.size w W)) hHeld (fun _ h => h) ?_; clear hHeld; intro W32 hHeld
                  refine gk1 4 (fun K hK => ?_)
                  go_simp
                  have lowU := (hHeld.2.2.2).size
                  refine hK.out _ _ (by exact ⟨(hHeld.1).keep (ext1 _), (hHeld.2.1).keep (ext1 _), (hHeld.2.2.1).keep (ext1 _), gt hHeld.2.2.2 (ext1 _)⟩) (fun hHeld => ?_)
                  clear hK K
                  (try simp only [Act.put, sA, sZ, sS])
                  refine any_more (S' := (fun W : World => Rd W (some ⟨W32.heap.size, 0, none⟩) 1 1 [(fl l b e)] ∧ Rd W (some ⟨g31, 0, none⟩) 4 4 (putN (U z) 4 l) ∧ Mk W w.heap.size W0.heap.size ∧ C9 W w.heap.size ⟨z, l, b, e, ⟨n, x0, x1, x2, x3⟩⟩ ∧ Below w.heap.size w W)) ⟨rd_one W32 (fl l b e), hHeld⟩ (fun _ h => h.2) ?_; clear hHeld; intro W33 hHeld
                  refine gk1 10 (fun K hK => ?_)
                  go_simp
                  refine hK.out _ _ (by exact ⟨(hHeld.1).keep (ext1 _), (hHeld.2.1).keep (ext1 _), (hHeld.2.2.1).keep (ext1 _), (hHeld.2.2.2.1).keep (ext1 _), gt hHeld.2.2.2.2 (ext1 _)⟩) (fun hHeld => ?_)
                  clear hK K
                  (try simp only [Act.put, sA, sZ, sS])
                  refine any_more (S' := (fun W : World => Bo W W33.heap.size (pcs [⟨some ⟨W0.heap.size, 0, none⟩, 3, 3, markN⟩, ⟨some ⟨W32.heap.size, 0, none⟩, 1, 1, [(fl l b e)]⟩, ⟨some ⟨g31, 0, none⟩, 4, 4, putN (U z) 4 l⟩]) 22 ∧ Rd W (some ⟨W32.heap.size, 0, none⟩) 1 1 [(fl l b e)] ∧ Rd W (some ⟨g31, 0, none⟩) 4 4 (putN (U z) 4 l) ∧ Mk W w.heap.size W0.heap.size ∧ C9 W w.heap.size ⟨z, l, b, e, ⟨n, x0, x1, x2, x3⟩⟩ ∧ Below w.heap.size w W)) ⟨heap_alloc_new _ _, hHeld⟩ (fun _ h => h.2) ?_; clear hHeld; intro W34 hHeld
                  refine gk1 11 (fun K hK => ?_)
                  go_simp
                  go_at_call 35; refine (join_call W33.heap.size [⟨some ⟨W0.heap.size, 0, none⟩, 3, 3, markN⟩, ⟨some ⟨W32.heap.size, 0, none⟩, 1, 1, [(fl l b e)]⟩, ⟨some ⟨g31, 0, none⟩, 4, 4, putN (U z) 4 l⟩] W34 (hHeld.1) (rdL3 (hHeld.2.2.2.1).rd (hHeld.2.1) (hHeld.2.2.1)) (by simp [cat, markN, putN_length]) (by simp)).mono ?_; rintro e v35 ⟨ao35, n35, c35, rfl, o35, h35⟩; have hR : (fun W : World => Bo W W33.heap.size (pcs [⟨some ⟨W0.heap.size, 0, none⟩, 3, 3, markN⟩, ⟨some ⟨W32.heap.size, 0, none⟩, 1, 1, [(fl l b e)]⟩, ⟨some ⟨g31, 0, none⟩, 4, 4, putN (U z) 4 l⟩]) 22 ∧ Rd W (some ⟨W32.heap.size, 0, none⟩) 1 1 [(fl l b e)] ∧ Rd W (some ⟨g31, 0, none⟩) 4 4 (putN (U z) 4 l) ∧ Mk W w.heap.size W0.heap.size ∧ C9 W w.heap.size ⟨z, l, b, e, ⟨n, x0, x1, x2, x3⟩⟩ ∧ Below w.heap.size w W) v35 := ⟨(hHeld.1).keep h35, (hHeld.2.1).keep h35, (hHeld.2.2.1).keep h35, (hHeld.2.2.2.1).keep h35, (hHeld.2.2.2.2.1).keep h35, gt hHeld.2.2.2.2.2 h35⟩; have hO : Ow v35 w.heap.size ao35 n35 c35 (cat [⟨some ⟨W0.heap.size, 0, none⟩, 3, 3, markN⟩, ⟨some ⟨W32.heap.size, 0, none⟩, 1, 1, [(fl l b e)]⟩, ⟨some ⟨g31, 0, none⟩, 4, 4, putN (U z) 4 l⟩]) := own_base o35 (hHeld.2.2.2.2.2).size
                  refine hK.out _ _ hR (fun hHeld => ?_)
                  clear hK K
                  (try simp only [Act.put, sA, sZ, sS])
                  refine any_more (S' := (fun W : World => Ow W w.heap.size ao35 n35 c35 (cat [⟨some ⟨W0.heap.size, 0, none⟩, 3, 3, markN⟩, ⟨some ⟨W32.heap.size, 0, none⟩, 1, 1, [(fl l b e)]⟩, ⟨some ⟨g31, 0, none⟩, 4, 4, putN (U z) 4 l⟩]) ∧ Bo W W33.heap.size (pcs [⟨some ⟨W0.heap.size, 0, none⟩, 3, 3, markN⟩, ⟨some ⟨W32.heap.size, 0, none⟩, 1, 1, [(fl l b e)]⟩, ⟨some ⟨g31, 0, none⟩, 4, 4, putN (U z) 4 l⟩]) 22 ∧ Rd W (some ⟨W32.heap.size, 0, none⟩) 1 1 [(fl l b e)] ∧ Rd W (some ⟨g31, 0, none⟩) 4 4 (putN (U z) 4 l) ∧ Mk W w.heap.size W0.heap.size ∧ C9 W w.heap.size ⟨z, l, b, e, ⟨n, x0, x1, x2, x3⟩⟩ ∧ Below w.heap.size w W)) ⟨hO, hHeld⟩ (fun _ h => h.2) ?_; clear hR hHeld; intro W35 hHeld
                  refine gkp 12 ?_
                  refine wpAnyK_done (by kernel_rfl) ?_ _
                  exact KEY _ _ ⟨_, _, _, _, _, _, _, _, _, _, _, _, _, _, _, rfl, hid (by have hO := hHeld.1; unfold Ow at hO; simpa [cat, markN] using hO), hid (hHeld.2.2.2.2.2.1), hid (hHeld.2.2.2.2.2.2)⟩
              refine AllReadyK.cons (at_op _ _ _ rfl) (fun K hK => ?_) ?_
              · as_aux_lemma =>
                  go_simp
                  have lowU := (hHeld.2.2.2).size
                  refine hK.out _ _ (by exact ⟨(hHeld.1).keep (ext1 _), (hHeld.2.1).keep (ext1 _), (hHeld.2.2.1).keep (ext1 _), gt hHeld.2.2.2 (ext1 _)⟩) (fun hHeld => ?_)
                  clear hK K
                  (try simp only [Act.put, sA, sZ, sS])
                  refine any_more (S' := (fun W : World => Rd W (some ⟨W31.heap.size, 0, none⟩) 1 1 [(fl l b e)] ∧ Rd W (some ⟨g31, 0, none⟩) 4 4 (putN (U z) 4 l) ∧ Mk W w.heap.size W0.heap.size ∧ C9 W w.heap.size ⟨z, l, b, e, ⟨n, x0, x1, x2, x3⟩⟩ ∧ Below w.heap.size w W)) ⟨rd_one W31 (fl l b e), hHeld⟩ (fun _ h => h.2) ?_; clear hHeld; intro W36 hHeld
                  refine gk1 1 (fun K hK => ?_)
                  have cv := conv_mark (hHeld.2.2.1) 3 3
                  go_simp
                  refine hK.out _ _ (by exact ⟨hHeld.1.frz _ _, hHeld.2.1.frz _ _, hHeld.2.2.1.frz _ _, hHeld.2.2.2.1.frz _ _, below_frz hHeld.2.2.2.2 _ _ (hHeld.2.2.1).1⟩) (fun hHeld => ?_)
                  clear hK K
                  (try simp only [Act.put, sA, sZ, sS])
                  refine any_more (S' := (fun W : World => Rd W (some ⟨W31.heap.size, 0, none⟩) 1 1 [(fl l b e)] ∧ Rd W (some ⟨g31, 0, none⟩) 4 4 (putN (U z) 4 l) ∧ Mk W w.heap.size W0.heap.size ∧ C9 W w.heap.size ⟨z, l, b, e, ⟨n, x0, x1, x2, x3⟩⟩ ∧ Below w.heap.size w W)) hHeld (fun _ h => h) ?_; clear hHeld; intro W37 hHeld
                  refine gk1 10 (fun K hK => ?_)
                  go_simp
                  refine hK.out _ _ (by exact ⟨(hHeld.1).keep (ext1 _), (hHeld.2.1).keep (ext1 _), (hHeld.2.2.1).keep (ext1 _), (hHeld.2.2.2.1).keep (ext1 _), gt hHeld.2.2.2.2 (ext1 _)⟩) (fun hHeld => ?_)
                  clear hK K
                  (try simp only [Act.put, sA, sZ, sS])
                  refine any_more (S' := (fun W : World => Bo W W37.heap.size (pcs [⟨some ⟨W0.heap.size, 0, none⟩, 3, 3, markN⟩, ⟨some ⟨W31.heap.size, 0, none⟩, 1, 1, [(fl l b e)]⟩, ⟨some ⟨g31, 0, none⟩, 4, 4, putN (U z) 4 l⟩]) 22 ∧ Rd W (some ⟨W31.heap.size, 0, none⟩) 1 1 [(fl l b e)] ∧ Rd W (some ⟨g31, 0, none⟩) 4 4 (putN (U z) 4 l) ∧ Mk W w.heap.size W0.heap.size ∧ C9 W w.heap.size ⟨z, l, b, e, ⟨n, x0, x1, x2, x3⟩⟩ ∧ Below w.heap.size w W)) ⟨heap_alloc_new _ _, hHeld⟩ (fun _ h => h.2) ?_; clear hHeld; intro W38 hHeld
                  refine gk1 11 (fun K hK => ?_)
                  go_simp
                  go_at_call 35; refine (join_call W37.heap.size [⟨some ⟨W0.heap.size, 0, none⟩, 3, 3, markN⟩, ⟨some ⟨W31.heap.size, 0, none⟩, 1, 1, [(fl l b e)]⟩, ⟨some ⟨g31, 0, none⟩, 4, 4, putN (U z) 4 l⟩] W38 (hHeld.1) (rdL3 (hHeld.2.2.2.1).rd (hHeld.2.1) (hHeld.2.2.1)) (by simp [cat, markN, putN_length]) (by simp)).mono ?_; rintro e v39 ⟨ao39, n39, c39, rfl, o39, h39⟩; have hR : (fun W : World => Bo W W37.heap.size (pcs [⟨some ⟨W0.heap.size, 0, none⟩, 3, 3, markN⟩, ⟨some ⟨W31.heap.size, 0, none⟩, 1, 1, [(fl l b e)]⟩, ⟨some ⟨g31, 0, none⟩, 4, 4, putN (U z) 4 l⟩]) 22 ∧ Rd W (some ⟨W31.heap.size, 0, none⟩) 1 1 [(fl l b e)] ∧ Rd W (some ⟨g31, 0, none⟩) 4 4 (putN (U z) 4 l) ∧ Mk W w.heap.size W0.heap.size ∧ C9 W w.heap.size ⟨z, l, b, e, ⟨n, x0, x1, x2, x3⟩⟩ ∧ Below w.heap.size w W) v39 := ⟨(hHeld.1).keep h39, (hHeld.2.1).keep h39, (hHeld.2.2.1).keep h39, (hHeld.2.2.2.1).keep h39, (hHeld.2.2.2.2.1).keep h39, gt hHeld.2.2.2.2.2 h39⟩; have hO : Ow v39 w.heap.size ao39 n39 c39 (cat [⟨some ⟨W0.heap.size, 0, none⟩, 3, 3, markN⟩, ⟨some ⟨W31.heap.size, 0, none⟩, 1, 1, [(fl l b e)]⟩, ⟨some ⟨g31, 0, none⟩, 4, 4, putN (U z) 4 l⟩]) := own_base o39 (hHeld.2.2.2.2.2).size
                  refine hK.out _ _ hR (fun hHeld => ?_)
                  clear hK K
                  (try simp only [Act.put, sA, sZ, sS])
                  refine any_more (S' := (fun W : World => Ow W w.heap.size ao39 n39 c39 (cat [⟨some ⟨W0.heap.size, 0, none⟩, 3, 3, markN⟩, ⟨some ⟨W31.heap.size, 0, none⟩, 1, 1, [(fl l b e)]⟩, ⟨some ⟨g31, 0, none⟩, 4, 4, putN (U z) 4 l⟩]) ∧ Bo W W37.heap.size (pcs [⟨some ⟨W0.heap.size, 0, none⟩, 3, 3, markN⟩, ⟨some ⟨W31.heap.size, 0, none⟩, 1, 1, [(fl l b e)]⟩, ⟨some ⟨g31, 0, none⟩, 4, 4, putN (U z) 4 l⟩]) 22 ∧ Rd W (some ⟨W31.heap.size, 0, none⟩) 1 1 [(fl l b e)] ∧ Rd W (some ⟨g31, 0, none⟩) 4 4 (putN (U z) 4 l) ∧ Mk W w.heap.size W0.heap.size ∧ C9 W w.heap.size ⟨z, l, b, e, ⟨n, x0, x1, x2, x3⟩⟩ ∧ Below w.heap.size w W)) ⟨hO, hHeld⟩ (fun _ h => h.2) ?_; clear hR hHeld; intro W39 hHeld
                  refine gkp 12 ?_
                  refine wpAnyK_done (by kernel_rfl) ?_ _
                  exact KEY _ _ ⟨_, _, _, _, _, _, _, _, _, _, _, _, _, _, _, rfl, hid (by have hO := hHeld.1; unfold Ow at hO; simpa [cat, markN] using hO), hid (hHeld.2.2.2.2.2.1), hid (hHeld.2.2.2.2.2.2)⟩
              exact AllReadyK.nil
          exact AllReadyK.nil
      exact AllReadyK.nil
  refine AllReadyK.cons (at_op _ _ _ rfl) (fun K hK => ?_) ?_
  · as_aux_lemma =>
      go_simp
      go_at_call 47; refine (FC.out _).mono ?_; rintro e v40 ⟨rfl, h40⟩; have hR : (fun W : World => C9 W w.heap.size ⟨z, l, b, e, ⟨n, x0, x1, x2, x3⟩⟩ ∧ Below w.heap.size w W) v40 := ⟨(hHeld.1).keep h40, gt hHeld.2 h40⟩
      refine hK.out _ _ hR (fun hHeld => ?_)
      clear hK K
      (try simp only [Act.put, sA, sZ, sS])
      refine any_more (S' := (fun W : World => C9 W w.heap.size ⟨z, l, b, e, ⟨n, x0, x1, x2, x3⟩⟩ ∧ Below w.heap.size w W)) hHeld (fun _ h => h) ?_; clear hR hHeld; intro W40 hHeld
      refine wpAnyK_ready (rs := [0, 4, 9]) (by kernel_rfl) (by simp) ?_
      refine AllReadyK.cons (at_op _ _ _ rfl) (fun K hK => ?_) ?_
      · as_aux_lemma =>
          go_simp
          have lowU := (hHeld.2).size
          refine hK.out _ _ (by exact ⟨(hHeld.1).keep (ext1 _), gt hHeld.2 (ext1 _)⟩) (fun hHeld => ?_)
          clear hK K
          (try simp only [Act.put, sA, sZ, sS])
          refine any_more (S' := (fun W : World => Mk W w.heap.size W40.heap.size ∧ C9 W w.heap.size ⟨z, l, b, e, ⟨n, x0, x1, x2, x3⟩⟩ ∧ Below w.heap.size w W)) ⟨⟨lowU, _, heap_alloc_new _ _⟩, hHeld⟩ (fun _ h => h.2) ?_; clear hHeld; intro W41 hHeld
          refine wpAnyK_ready (rs := [1, 4, 9]) (by kernel_rfl) (by simp) ?_
          refine AllReadyK.cons (at_op _ _ _ rfl) (fun K hK => ?_) ?_
          · as_aux_lemma =>
              have cv := conv_mark (hHeld.1) 3 3
              go_simp
              refine hK.out _ _ (by exact ⟨hHeld.1.frz _ _, hHeld.2.1.frz _ _, below_frz hHeld.2.2 _ _ (hHeld.1).1⟩) (fun hHeld => ?_)
              clear hK K
              (try simp only [Act.put, sA, sZ, sS])
              refine any_more (S' := (fun W : World => Mk W w.heap.size W40.heap.size ∧ C9 W w.heap.size ⟨z, l, b, e, ⟨n, x0, x1, x2, x3⟩⟩ ∧ Below w.heap.size w W)) hHeld (fun _ h => h) ?_; clear hHeld; intro W42 hHeld
              refine wpAnyK_ready (rs := [4, 9]) (by kernel_rfl) (by simp) ?_
              refine AllReadyK.cons (at_op _ _ _ rfl) (fun K hK => ?_) ?_
              · as_aux_lemma =>
                  go_simp
                  have lowU := (hHeld.2.2).size
                  refine hK.out _ _ (by exact ⟨(hHeld.1).keep (ext1 _), (hHeld.2.1).keep (ext1 _), gt hHeld.2.2 (ext1 _)⟩) (fun hHeld => ?_)
                  clear hK K
                  (try simp only [Act.put, sA, sZ, sS])
                  refine any_more (S' := (fun W : World => Rd W (some ⟨W42.heap.size, 0, none⟩) 1 1 [(fl l b e)] ∧ Mk W w.heap.size W40.heap.size ∧ C9 W w.heap.size ⟨z, l, b, e, ⟨n, x0, x1, x2, x3⟩⟩ ∧ Below w.heap.size w W)) ⟨rd_one W42 (fl l b e), hHeld⟩ (fun _ h => h.2) ?_; clear hHeld; intro W43 hHeld
                  refine gk1 9 (fun K hK => ?_)
                  go_simp
                  go_at_call 36; refine (NU.out z 4 (by decide) l _).mono ?_; rintro e v44 ⟨g44, rfl, o44, h44⟩; have hR : (fun W : World => Rd W (some ⟨W42.heap.size, 0, none⟩) 1 1 [(fl l b e)] ∧ Mk W w.heap.size W40.heap.size ∧ C9 W w.heap.size ⟨z, l, b, e, ⟨n, x0, x1, x2, x3⟩⟩ ∧ Below w.heap.size w W) v44 := ⟨(hHeld.1).keep h44, (hHeld.2.1).keep h44, (hHeld.2.2.1).keep h44, gt hHeld.2.2.2 h44⟩
                  refine hK.out _ _ hR (fun hHeld => ?_)
                  clear hK K
                  (try simp only [Act.put, sA, sZ, sS])
                  refine any_more (S' := (fun W : World => Rd W (some ⟨g44, 0, none⟩) 4 4 (putN (U z) 4 l) ∧ Rd W (some ⟨W42.heap.size, 0, none⟩) 1 1 [(fl l b e)] ∧ Mk W w.heap.size W40.heap.size ∧ C9 W w.heap.size ⟨z, l, b, e, ⟨n, x0, x1, x2, x3⟩⟩ ∧ Below w.heap.size w W)) ⟨rd_own o44, hHeld⟩ (fun _ h => h.2) ?_; clear hR hHeld; intro W44 hHeld
                  refine gk1 10 (fun K hK => ?_)
                  go_simp
                  refine hK.out _ _ (by exact ⟨(hHeld.1).keep (ext1 _), (hHeld.2.1).keep (ext1 _), (hHeld.2.2.1).keep (ext1 _), (hHeld.2.2.2.1).keep (ext1 _), gt hHeld.2.2.2.2 (ext1 _)⟩) (fun hHeld => ?_)
                  clear hK K
                  (try simp only [Act.put, sA, sZ, sS])
                  refine any_more (S' := (fun W : World => Bo W W44.heap.size (pcs [⟨some ⟨W40.heap.size, 0, none⟩, 3, 3, markN⟩, ⟨some ⟨W42.heap.size, 0, none⟩, 1, 1, [(fl l b e)]⟩, ⟨some ⟨g44, 0, none⟩, 4, 4, putN (U z) 4 l⟩]) 22 ∧ Rd W (some ⟨g44, 0, none⟩) 4 4 (putN (U z) 4 l) ∧ Rd W (some ⟨W42.heap.size, 0, none⟩) 1 1 [(fl l b e)] ∧ Mk W w.heap.size W40.heap.size ∧ C9 W w.heap.size ⟨z, l, b, e, ⟨n, x0, x1, x2, x3⟩⟩ ∧ Below w.heap.size w W)) ⟨heap_alloc_new _ _, hHeld⟩ (fun _ h => h.2) ?_; clear hHeld; intro W45 hHeld
                  refine gk1 11 (fun K hK => ?_)
                  go_simp
                  go_at_call 35; refine (join_call W44.heap.size [⟨some ⟨W40.heap.size, 0, none⟩, 3, 3, markN⟩, ⟨some ⟨W42.heap.size, 0, none⟩, 1, 1, [(fl l b e)]⟩, ⟨some ⟨g44, 0, none⟩, 4, 4, putN (U z) 4 l⟩] W45 (hHeld.1) (rdL3 (hHeld.2.2.2.1).rd (hHeld.2.2.1) (hHeld.2.1)) (by simp [cat, markN, putN_length]) (by simp)).mono ?_; rintro e v46 ⟨ao46, n46, c46, rfl, o46, h46⟩; have hR : (fun W : World => Bo W W44.heap.size (pcs [⟨some ⟨W40.heap.size, 0, none⟩, 3, 3, markN⟩, ⟨some ⟨W42.heap.size, 0, none⟩, 1, 1, [(fl l b e)]⟩, ⟨some ⟨g44, 0, none⟩, 4, 4, putN (U z) 4 l⟩]) 22 ∧ Rd W (some ⟨g44, 0, none⟩) 4 4 (putN (U z) 4 l) ∧ Rd W (some ⟨W42.heap.size, 0, none⟩) 1 1 [(fl l b e)] ∧ Mk W w.heap.size W40.heap.size ∧ C9 W w.heap.size ⟨z, l, b, e, ⟨n, x0, x1, x2, x3⟩⟩ ∧ Below w.heap.size w W) v46 := ⟨(hHeld.1).keep h46, (hHeld.2.1).keep h46, (hHeld.2.2.1).keep h46, (hHeld.2.2.2.1).keep h46, (hHeld.2.2.2.2.1).keep h46, gt hHeld.2.2.2.2.2 h46⟩; have hO : Ow v46 w.heap.size ao46 n46 c46 (cat [⟨some ⟨W40.heap.size, 0, none⟩, 3, 3, markN⟩, ⟨some ⟨W42.heap.size, 0, none⟩, 1, 1, [(fl l b e)]⟩, ⟨some ⟨g44, 0, none⟩, 4, 4, putN (U z) 4 l⟩]) := own_base o46 (hHeld.2.2.2.2.2).size
                  refine hK.out _ _ hR (fun hHeld => ?_)
                  clear hK K
                  (try simp only [Act.put, sA, sZ, sS])
                  refine any_more (S' := (fun W : World => Ow W w.heap.size ao46 n46 c46 (cat [⟨some ⟨W40.heap.size, 0, none⟩, 3, 3, markN⟩, ⟨some ⟨W42.heap.size, 0, none⟩, 1, 1, [(fl l b e)]⟩, ⟨some ⟨g44, 0, none⟩, 4, 4, putN (U z) 4 l⟩]) ∧ Bo W W44.heap.size (pcs [⟨some ⟨W40.heap.size, 0, none⟩, 3, 3, markN⟩, ⟨some ⟨W42.heap.size, 0, none⟩, 1, 1, [(fl l b e)]⟩, ⟨some ⟨g44, 0, none⟩, 4, 4, putN (U z) 4 l⟩]) 22 ∧ Rd W (some ⟨g44, 0, none⟩) 4 4 (putN (U z) 4 l) ∧ Rd W (some ⟨W42.heap.size, 0, none⟩) 1 1 [(fl l b e)] ∧ Mk W w.heap.size W40.heap.size ∧ C9 W w.heap.size ⟨z, l, b, e, ⟨n, x0, x1, x2, x3⟩⟩ ∧ Below w.heap.size w W)) ⟨hO, hHeld⟩ (fun _ h => h.2) ?_; clear hR hHeld; intro W46 hHeld
                  refine gkp 12 ?_
                  refine wpAnyK_done (by kernel_rfl) ?_ _
                  exact KEY _ _ ⟨_, _, _, _, _, _, _, _, _, _, _, _, _, _, _, rfl, hid (by have hO := hHeld.1; unfold Ow at hO; simpa [cat, markN] using hO), hid (hHeld.2.2.2.2.2.1), hid (hHeld.2.2.2.2.2.2)⟩
              refine AllReadyK.cons (at_op _ _ _ rfl) (fun K hK => ?_) ?_
              · as_aux_lemma =>
                  go_simp
                  go_at_call 36; refine (NU.out z 4 (by decide) l _).mono ?_; rintro e v47 ⟨g47, rfl, o47, h47⟩; have hR : (fun W : World => Mk W w.heap.size W40.heap.size ∧ C9 W w.heap.size ⟨z, l, b, e, ⟨n, x0, x1, x2, x3⟩⟩ ∧ Below w.heap.size w W) v47 := ⟨(hHeld.1).keep h47, (hHeld.2.1).keep h47, gt hHeld.2.2 h47⟩
                  refine hK.out _ _ hR (fun hHeld => ?_)
                  clear hK K
                  (try simp only [Act.put, sA, sZ, sS])
                  refine any_more (S' := (fun W : World => Rd W (some ⟨g47, 0, none⟩) 4 4 (putN (U z) 4 l) ∧ Mk W w.heap.size W40.heap.size ∧ C9 W w.heap.size ⟨z, l, b, e, ⟨n, x0, x1, x2, x3⟩⟩ ∧ Below w.heap.size w W)) ⟨rd_own o47, hHeld⟩ (fun _ h => h.2) ?_; clear hR hHeld; intro W47 hHeld
                  refine gk1 4 (fun K hK => ?_)
                  go_simp
                  have lowU := (hHeld.2.2.2).size
                  refine hK.out _ _ (by exact ⟨(hHeld.1).keep (ext1 _), (hHeld.2.1).keep (ext1 _), (hHeld.2.2.1).keep (ext1 _), gt hHeld.2.2.2 (ext1 _)⟩) (fun hHeld => ?_)
                  clear hK K
                  (try simp only [Act.put, sA, sZ, sS])
                  refine any_more (S' := (fun W : World => Rd W (some ⟨W47.heap.size, 0, none⟩) 1 1 [(fl l b e)] ∧ Rd W (some ⟨g47, 0, none⟩) 4 4 (putN (U z) 4 l) ∧ Mk W w.heap.size W40.heap.size ∧ C9 W w.heap.size ⟨z, l, b, e, ⟨n, x0, x1, x2, x3⟩⟩ ∧ Below w.heap.size w W)) ⟨rd_one W47 (fl l b e), hHeld⟩ (fun _ h => h.2) ?_; clear hHeld; intro W48 hHeld
                  refine gk1 10 (fun K hK => ?_)
                  go_simp
                  refine hK.out _ _ (by exact ⟨(hHeld.1).keep (ext1 _), (hHeld.2.1).keep (ext1 _), (hHeld.2.2.1).keep (ext1 _), (hHeld.2.2.2.1).keep (ext1 _), gt hHeld.2.2.2.2 (ext1 _)⟩) (fun hHeld => ?_)
                  clear hK K
                  (try simp only [Act.put, sA, sZ, sS])
                  refine any_more (S' := (fun W : World => Bo W W48.heap.size (pcs [⟨some ⟨W40.heap.size, 0, none⟩, 3, 3, markN⟩, ⟨some ⟨W47.heap.size, 0, none⟩, 1, 1, [(fl l b e)]⟩, ⟨some ⟨g47, 0, none⟩, 4, 4, putN (U z) 4 l⟩]) 22 ∧ Rd W (some ⟨W47.heap.size, 0, none⟩) 1 1 [(fl l b e)] ∧ Rd W (some ⟨g47, 0, none⟩) 4 4 (putN (U z) 4 l) ∧ Mk W w.heap.size W40.heap.size ∧ C9 W w.heap.size ⟨z, l, b, e, ⟨n, x0, x1, x2, x3⟩⟩ ∧ Below w.heap.size w W)) ⟨heap_alloc_new _ _, hHeld⟩ (fun _ h => h.2) ?_; clear hHeld; intro W49 hHeld
                  refine gk1 11 (fun K hK => ?_)
                  go_simp
                  go_at_call 35; refine (join_call W48.heap.size [⟨some ⟨W40.heap.size, 0, none⟩, 3, 3, markN⟩, ⟨some ⟨W47.heap.size, 0, none⟩, 1, 1, [(fl l b e)]⟩, ⟨some ⟨g47, 0, none⟩, 4, 4, putN (U z) 4 l⟩] W49 (hHeld.1) (rdL3 (hHeld.2.2.2.1).rd (hHeld.2.1) (hHeld.2.2.1)) (by simp [cat, markN, putN_length]) (by simp)).mono ?_; rintro e v50 ⟨ao50, n50, c50, rfl, o50, h50⟩; have hR : (fun W : World => Bo W W48.heap.size (pcs [⟨some ⟨W40.heap.size, 0, none⟩, 3, 3, markN⟩, ⟨some ⟨W47.heap.size, 0, none⟩, 1, 1, [(fl l b e)]⟩, ⟨some ⟨g47, 0, none⟩, 4, 4, putN (U z) 4 l⟩]) 22 ∧ Rd W (some ⟨W47.heap.size, 0, none⟩) 1 1 [(fl l b e)] ∧ Rd W (some ⟨g47, 0, none⟩) 4 4 (putN (U z) 4 l) ∧ Mk W w.heap.size W40.heap.size ∧ C9 W w.heap.size ⟨z, l, b, e, ⟨n, x0, x1, x2, x3⟩⟩ ∧ Below w.heap.size w W) v50 := ⟨(hHeld.1).keep h50, (hHeld.2.1).keep h50, (hHeld.2.2.1).keep h50, (hHeld.2.2.2.1).keep h50, (hHeld.2.2.2.2.1).keep h50, gt hHeld.2.2.2.2.2 h50⟩; have hO : Ow v50 w.heap.size ao50 n50 c50 (cat [⟨some ⟨W40.heap.size, 0, none⟩, 3, 3, markN⟩, ⟨some ⟨W47.heap.size, 0, none⟩, 1, 1, [(fl l b e)]⟩, ⟨some ⟨g47, 0, none⟩, 4, 4, putN (U z) 4 l⟩]) := own_base o50 (hHeld.2.2.2.2.2).size
                  refine hK.out _ _ hR (fun hHeld => ?_)
                  clear hK K
                  (try simp only [Act.put, sA, sZ, sS])
                  refine any_more (S' := (fun W : World => Ow W w.heap.size ao50 n50 c50 (cat [⟨some ⟨W40.heap.size, 0, none⟩, 3, 3, markN⟩, ⟨some ⟨W47.heap.size, 0, none⟩, 1, 1, [(fl l b e)]⟩, ⟨some ⟨g47, 0, none⟩, 4, 4, putN (U z) 4 l⟩]) ∧ Bo W W48.heap.size (pcs [⟨some ⟨W40.heap.size, 0, none⟩, 3, 3, markN⟩, ⟨some ⟨W47.heap.size, 0, none⟩, 1, 1, [(fl l b e)]⟩, ⟨some ⟨g47, 0, none⟩, 4, 4, putN (U z) 4 l⟩]) 22 ∧ Rd W (some ⟨W47.heap.size, 0, none⟩) 1 1 [(fl l b e)] ∧ Rd W (some ⟨g47, 0, none⟩) 4 4 (putN (U z) 4 l) ∧ Mk W w.heap.size W40.heap.size ∧ C9 W w.heap.size ⟨z, l, b, e, ⟨n, x0, x1, x2, x3⟩⟩ ∧ Below w.heap.size w W)) ⟨hO, hHeld⟩ (fun _ h => h.2) ?_; clear hR hHeld; intro W50 hHeld
                  refine gkp 12 ?_
                  refine wpAnyK_done (by kernel_rfl) ?_ _
                  exact KEY _ _ ⟨_, _, _, _, _, _, _, _, _, _, _, _, _, _, _, rfl, hid (by have hO := hHeld.1; unfold Ow at hO; simpa [cat, markN] using hO), hid (hHeld.2.2.2.2.2.1), hid (hHeld.2.2.2.2.2.2)⟩
              exact AllReadyK.nil
          refine AllReadyK.cons (at_op _ _ _ rfl) (fun K hK => ?_) ?_
          · as_aux_lemma =>
              go_simp
              have lowU := (hHeld.2.2).size
              refine hK.out _ _ (by exact ⟨(hHeld.1).keep (ext1 _), (hHeld.2.1).keep (ext1 _), gt hHeld.2.2 (ext1 _)⟩) (fun hHeld => ?_)
              clear hK K
              (try simp only [Act.put, sA, sZ, sS])
              refine any_more (S' := (fun W : World => Rd W (some ⟨W41.heap.size, 0, none⟩) 1 1 [(fl l b e)] ∧ Mk W w.heap.size W40.heap.size ∧ C9 W w.heap.size ⟨z, l, b, e, ⟨n, x0, x1, x2, x3⟩⟩ ∧ Below w.heap.size w W)) ⟨rd_one W41 (fl l b e), hHeld⟩ (fun _ h => h.2) ?_; clear hHeld; intro W51 hHeld
              refine wpAnyK_ready (rs := [1, 9]) (by kernel_rfl) (by simp) ?_
              refine AllReadyK.cons (at_op _ _ _ rfl) (fun K hK => ?_) ?_
              · as_aux_lemma =>
                  have cv := conv_mark (hHeld.2.1) 3 3
                  go_simp
                  refine hK.out _ _ (by exact ⟨hHeld.1.frz _ _, hHeld.2.1.frz _ _, hHeld.2.2.1.frz _ _, below_frz hHeld.2.2.2 _ _ (hHeld.2.1).1⟩) (fun hHeld => ?_)
                  clear hK K
                  (try simp only [Act.put, sA, sZ, sS])
                  refine any_more (S' := (fun W : World => Rd W (some ⟨W41.heap.size, 0, none⟩) 1 1 [(fl l b e)] ∧ Mk W w.heap.size W40.heap.size ∧ C9 W w.heap.size ⟨z, l, b, e, ⟨n, x0, x1, x2, x3⟩⟩ ∧ Below w.heap.size w W)) hHeld (fun _ h => h) ?_; clear hHeld; intro W52 hHeld
                  refine gk1 9 (fun K hK => ?_)
                  go_simp
                  go_at_call 36; refine (NU.out z 4 (by decide) l _).mono ?_; rintro e v53 ⟨g53, rfl, o53, h53⟩; have hR : (fun W : World => Rd W (some ⟨W41.heap.size, 0, none⟩) 1 1 [(fl l b e)] ∧ Mk W w.heap.size W40.heap.size ∧ C9 W w.heap.size ⟨z, l, b, e, ⟨n, x0, x1, x2, x3⟩⟩ ∧ Below w.heap.size w W) v53 := ⟨(hHeld.1).keep h53, (hHeld.2.1).keep h53, (hHeld.2.2.1).keep h53, gt hHeld.2.2.2 h53⟩
                  refine hK.out _ _ hR (fun hHeld => ?_)
                  clear hK K
                  (try simp only [Act.put, sA, sZ, sS])
                  refine any_more (S' := (fun W : World => Rd W (some ⟨g53, 0, none⟩) 4 4 (putN (U z) 4 l) ∧ Rd W (some ⟨W41.heap.size, 0, none⟩) 1 1 [(fl l b e)] ∧ Mk W w.heap.size W40.heap.size ∧ C9 W w.heap.size ⟨z, l, b, e, ⟨n, x0, x1, x2, x3⟩⟩ ∧ Below w.heap.size w W)) ⟨rd_own o53, hHeld⟩ (fun _ h => h.2) ?_; clear hR hHeld; intro W53 hHeld
                  refine gk1 10 (fun K hK => ?_)
                  go_simp
                  refine hK.out _ _ (by exact ⟨(hHeld.1).keep (ext1 _), (hHeld.2.1).keep (ext1 _), (hHeld.2.2.1).keep (ext1 _), (hHeld.2.2.2.1).keep (ext1 _), gt hHeld.2.2.2.2 (ext1 _)⟩) (fun hHeld => ?_)
                  clear hK K
                  (try simp only [Act.put, sA, sZ, sS])
                  refine any_more (S' := (fun W : World => Bo W W53.heap.size (pcs [⟨some ⟨W40.heap.size, 0, none⟩, 3, 3, markN⟩, ⟨some ⟨W41.heap.size, 0, none⟩, 1, 1, [(fl l b e)]⟩, ⟨some ⟨g53, 0, none⟩, 4, 4, putN (U z) 4 l⟩]) 22 ∧ Rd W (some ⟨g53, 0, none⟩) 4 4 (putN (U z) 4 l) ∧ Rd W (some ⟨W41.heap.size, 0, none⟩) 1 1 [(fl l b e)] ∧ Mk W w.heap.size W40.heap.size ∧ C9 W w.heap.size ⟨z, l, b, e, ⟨n, x0, x1, x2, x3⟩⟩ ∧ Below w.heap.size w W)) ⟨heap_alloc_new _ _, hHeld⟩ (fun _ h => h.2) ?_; clear hHeld; intro W54 hHeld
                  refine gk1 11 (fun K hK => ?_)
                  go_simp
                  go_at_call 35; refine (join_call W53.heap.size [⟨some ⟨W40.heap.size, 0, none⟩, 3, 3, markN⟩, ⟨some ⟨W41.heap.size, 0, none⟩, 1, 1, [(fl l b e)]⟩, ⟨some ⟨g53, 0, none⟩, 4, 4, putN (U z) 4 l⟩] W54 (hHeld.1) (rdL3 (hHeld.2.2.2.1).rd (hHeld.2.2.1) (hHeld.2.1)) (by simp [cat, markN, putN_length]) (by simp)).mono ?_; rintro e v55 ⟨ao55, n55, c55, rfl, o55, h55⟩; have hR : (fun W : World => Bo W W53.heap.size (pcs [⟨some ⟨W40.heap.size, 0, none⟩, 3, 3, markN⟩, ⟨some ⟨W41.heap.size, 0, none⟩, 1, 1, [(fl l b e)]⟩, ⟨some ⟨g53, 0, none⟩, 4, 4, putN (U z) 4 l⟩]) 22 ∧ Rd W (some ⟨g53, 0, none⟩) 4 4 (putN (U z) 4 l) ∧ Rd W (some ⟨W41.heap.size, 0, none⟩) 1 1 [(fl l b e)] ∧ Mk W w.heap.size W40.heap.size ∧ C9 W w.heap.size ⟨z, l, b, e, ⟨n, x0, x1, x2, x3⟩⟩ ∧ Below w.heap.size w W) v55 := ⟨(hHeld.1).keep h55, (hHeld.2.1).keep h55, (hHeld.2.2.1).keep h55, (hHeld.2.2.2.1).keep h55, (hHeld.2.2.2.2.1).keep h55, gt hHeld.2.2.2.2.2 h55⟩; have hO : Ow v55 w.heap.size ao55 n55 c55 (cat [⟨some ⟨W40.heap.size, 0, none⟩, 3, 3, markN⟩, ⟨some ⟨W41.heap.size, 0, none⟩, 1, 1, [(fl l b e)]⟩, ⟨some ⟨g53, 0, none⟩, 4, 4, putN (U z) 4 l⟩]) := own_base o55 (hHeld.2.2.2.2.2).size
                  refine hK.out _ _ hR (fun hHeld => ?_)
                  clear hK K
                  (try simp only [Act.put, sA, sZ, sS])
                  refine any_more (S' := (fun W : World => Ow W w.heap.size ao55 n55 c55 (cat [⟨some ⟨W40.heap.size, 0, none⟩, 3, 3, markN⟩, ⟨some ⟨W41.heap.size, 0, none⟩, 1, 1, [(fl l b e)]⟩, ⟨some ⟨g53, 0, none⟩, 4, 4, putN (U z) 4 l⟩]) ∧ Bo W W53.heap.size (pcs [⟨some ⟨W40.heap.size, 0, none⟩, 3, 3, markN⟩, ⟨some ⟨W41.heap.size, 0, none⟩, 1, 1, [(fl l b e)]⟩, ⟨some ⟨g53, 0, none⟩, 4, 4, putN (U z) 4 l⟩]) 22 ∧ Rd W (some ⟨g53, 0, none⟩) 4 4 (putN (U z) 4 l) ∧ Rd W (some ⟨W41.heap.size, 0, none⟩) 1 1 [(fl l b e)] ∧ Mk W w.heap.size W40.heap.size ∧ C9 W w.heap.size ⟨z, l, b, e, ⟨n, x0, x1, x2, x3⟩⟩ ∧ Below w.heap.size w W)) ⟨hO, hHeld⟩ (fun _ h => h.2) ?_; clear hR hHeld; intro W55 hHeld
                  refine gkp 12 ?_
                  refine wpAnyK_done (by kernel_rfl) ?_ _
                  exact KEY _ _ ⟨_, _, _, _, _, _, _, _, _, _, _, _, _, _, _, rfl, hid (by have hO := hHeld.1; unfold Ow at hO; simpa [cat, markN] using hO), hid (hHeld.2.2.2.2.2.1), hid (hHeld.2.2.2.2.2.2)⟩
              refine AllReadyK.cons (at_op _ _ _ rfl) (fun K hK => ?_) ?_
              · as_aux_lemma =>
                  go_simp
                  go_at_call 36; refine (NU.out z 4 (by decide) l _).mono ?_; rintro e v56 ⟨g56, rfl, o56, h56⟩; have hR : (fun W : World => Rd W (some ⟨W41.heap.size, 0, none⟩) 1 1 [(fl l b e)] ∧ Mk W w.heap.size W40.heap.size ∧ C9 W w.heap.size ⟨z, l, b, e, ⟨n, x0, x1, x2, x3⟩⟩ ∧ Below w.heap.size w W) v56 := ⟨(hHeld.1).keep h56, (hHeld.2.1).keep h56, (hHeld.2.2.1).keep h56, gt hHeld.2.2.2 h56⟩
                  refine hK.out _ _ hR (fun hHeld => ?_)
                  clear hK K
                  (try simp only [Act.put, sA, sZ, sS])
                  refine any_more (S' := (fun W : World => Rd W (some ⟨g56, 0, none⟩) 4 4 (putN (U z) 4 l) ∧ Rd W (some ⟨W41.heap.size, 0, none⟩) 1 1 [(fl l b e)] ∧ Mk W w.heap.size W40.heap.size ∧ C9 W w.heap.size ⟨z, l, b, e, ⟨n, x0, x1, x2, x3⟩⟩ ∧ Below w.heap.size w W)) ⟨rd_own o56, hHeld⟩ (fun _ h => h.2) ?_; clear hR hHeld; intro W56 hHeld
                  refine gk1 1 (fun K hK => ?_)
                  have cv := conv_mark (hHeld.2.2.1) 3 3
                  go_simp
                  refine hK.out _ _ (by exact ⟨hHeld.1.frz _ _, hHeld.2.1.frz _ _, hHeld.2.2.1.frz _ _, hHeld.2.2.2.1.frz _ _, below_frz hHeld.2.2.2.2 _ _ (hHeld.2.2.1).1⟩) (fun hHeld => ?_)
                  clear hK K
                  (try simp only [Act.put, sA, sZ, sS])
                  refine any_more (S' := (fun W : World => Rd W (some ⟨g56, 0, none⟩) 4 4 (putN (U z) 4 l) ∧ Rd W (some ⟨W41.heap.size, 0, none⟩) 1 1 [(fl l b e)] ∧ Mk W w.heap.size W40.heap.size ∧ C9 W w.heap.size ⟨z, l, b, e, ⟨n, x0, x1, x2, x3⟩⟩ ∧ Below w.heap.size w W)) hHeld (fun _ h => h) ?_; clear hHeld; intro W57 hHeld
                  refine gk1 10 (fun K hK => ?_)
                  go_simp
                  refine hK.out _ _ (by exact ⟨(hHeld.1).keep (ext1 _), (hHeld.2.1).keep (ext1 _), (hHeld.2.2.1).keep (ext1 _), (hHeld.2.2.2.1).keep (ext1 _), gt hHeld.2.2.2.2 (ext1 _)⟩) (fun hHeld => ?_)
                  clear hK K
                  (try simp only [Act.put, sA, sZ, sS])
                  refine any_more (S' := (fun W : World => Bo W W57.heap.size (pcs [⟨some ⟨W40.heap.size, 0, none⟩, 3, 3, markN⟩, ⟨some ⟨W41.heap.size, 0, none⟩, 1, 1, [(fl l b e)]⟩, ⟨some ⟨g56, 0, none⟩, 4, 4, putN (U z) 4 l⟩]) 22 ∧ Rd W (some ⟨g56, 0, none⟩) 4 4 (putN (U z) 4 l) ∧ Rd W (some ⟨W41.heap.size, 0, none⟩) 1 1 [(fl l b e)] ∧ Mk W w.heap.size W40.heap.size ∧ C9 W w.heap.size ⟨z, l, b, e, ⟨n, x0, x1, x2, x3⟩⟩ ∧ Below w.heap.size w W)) ⟨heap_alloc_new _ _, hHeld⟩ (fun _ h => h.2) ?_; clear hHeld; intro W58 hHeld
                  refine gk1 11 (fun K hK => ?_)
                  go_simp
                  go_at_call 35; refine (join_call W57.heap.size [⟨some ⟨W40.heap.size, 0, none⟩, 3, 3, markN⟩, ⟨some ⟨W41.heap.size, 0, none⟩, 1, 1, [(fl l b e)]⟩, ⟨some ⟨g56, 0, none⟩, 4, 4, putN (U z) 4 l⟩] W58 (hHeld.1) (rdL3 (hHeld.2.2.2.1).rd (hHeld.2.2.1) (hHeld.2.1)) (by simp [cat, markN, putN_length]) (by simp)).mono ?_; rintro e v59 ⟨ao59, n59, c59, rfl, o59, h59⟩; have hR : (fun W : World => Bo W W57.heap.size (pcs [⟨some ⟨W40.heap.size, 0, none⟩, 3, 3, markN⟩, ⟨some ⟨W41.heap.size, 0, none⟩, 1, 1, [(fl l b e)]⟩, ⟨some ⟨g56, 0, none⟩, 4, 4, putN (U z) 4 l⟩]) 22 ∧ Rd W (some ⟨g56, 0, none⟩) 4 4 (putN (U z) 4 l) ∧ Rd W (some ⟨W41.heap.size, 0, none⟩) 1 1 [(fl l b e)] ∧ Mk W w.heap.size W40.heap.size ∧ C9 W w.heap.size ⟨z, l, b, e, ⟨n, x0, x1, x2, x3⟩⟩ ∧ Below w.heap.size w W) v59 := ⟨(hHeld.1).keep h59, (hHeld.2.1).keep h59, (hHeld.2.2.1).keep h59, (hHeld.2.2.2.1).keep h59, (hHeld.2.2.2.2.1).keep h59, gt hHeld.2.2.2.2.2 h59⟩; have hO : Ow v59 w.heap.size ao59 n59 c59 (cat [⟨some ⟨W40.heap.size, 0, none⟩, 3, 3, markN⟩, ⟨some ⟨W41.heap.size, 0, none⟩, 1, 1, [(fl l b e)]⟩, ⟨some ⟨g56, 0, none⟩, 4, 4, putN (U z) 4 l⟩]) := own_base o59 (hHeld.2.2.2.2.2).size
                  refine hK.out _ _ hR (fun hHeld => ?_)
                  clear hK K
                  (try simp only [Act.put, sA, sZ, sS])
                  refine any_more (S' := (fun W : World => Ow W w.heap.size ao59 n59 c59 (cat [⟨some ⟨W40.heap.size, 0, none⟩, 3, 3, markN⟩, ⟨some ⟨W41.heap.size, 0, none⟩, 1, 1, [(fl l b e)]⟩, ⟨some ⟨g56, 0, none⟩, 4, 4, putN (U z) 4 l⟩]) ∧ Bo W W57.heap.size (pcs [⟨some ⟨W40.heap.size, 0, none⟩, 3, 3, markN⟩, ⟨some ⟨W41.heap.size, 0, none⟩, 1, 1, [(fl l b e)]⟩, ⟨some ⟨g56, 0, none⟩, 4, 4, putN (U z) 4 l⟩]) 22 ∧ Rd W (some ⟨g56, 0, none⟩) 4 4 (putN (U z) 4 l) ∧ Rd W (some ⟨W41.heap.size, 0, none⟩) 1 1 [(fl l b e)] ∧ Mk W w.heap.size W40.heap.size ∧ C9 W w.heap.size ⟨z, l, b, e, ⟨n, x0, x1, x2, x3⟩⟩ ∧ Below w.heap.size w W)) ⟨hO, hHeld⟩ (fun _ h => h.2) ?_; clear hR hHeld; intro W59 hHeld
                  refine gkp 12 ?_
                  refine wpAnyK_done (by kernel_rfl) ?_ _
                  exact KEY _ _ ⟨_, _, _, _, _, _, _, _, _, _, _, _, _, _, _, rfl, hid (by have hO := hHeld.1; unfold Ow at hO; simpa [cat, markN] using hO), hid (hHeld.2.2.2.2.2.1), hid (hHeld.2.2.2.2.2.2)⟩
              exact AllReadyK.nil
          refine AllReadyK.cons (at_op _ _ _ rfl) (fun K hK => ?_) ?_
          · as_aux_lemma =>
              go_simp
              go_at_call 36; refine (NU.out z 4 (by decide) l _).mono ?_; rintro e v60 ⟨g60, rfl, o60, h60⟩; have hR : (fun W : World => Mk W w.heap.size W40.heap.size ∧ C9 W w.heap.size ⟨z, l, b, e, ⟨n, x0, x1, x2, x3⟩⟩ ∧ Below w.heap.size w W) v60 := ⟨(hHeld.1).keep h60, (hHeld.2.1).keep h60, gt hHeld.2.2 h60⟩
              refine hK.out _ _ hR (fun hHeld => ?_)
              clear hK K
              (try simp only [Act.put, sA, sZ, sS])
              refine any_more (S' := (fun W : World => Rd W (some ⟨g60, 0, none⟩) 4 4 (putN (U z) 4 l) ∧ Mk W w.heap.size W40.heap.size ∧ C9 W w.heap.size ⟨z, l, b, e, ⟨n, x0, x1, x2, x3⟩⟩ ∧ Below w.heap.size w W)) ⟨rd_own o60, hHeld⟩ (fun _ h => h.2) ?_; clear hR hHeld; intro W60 hHeld
              refine wpAnyK_ready (rs := [1, 4]) (by kernel_rfl) (by simp) ?_
              refine AllReadyK.cons (at_op _ _ _ rfl) (fun K hK => ?_) ?_
              · as_aux_lemma =>
                  have cv := conv_mark (hHeld.2.1) 3 3
                  go_simp
                  refine hK.out _ _ (by exact ⟨hHeld.1.frz _ _, hHeld.2.1.frz _ _, hHeld.2.2.1.frz _ _, below_frz hHeld.2.2.2 _ _ (hHeld.2.1).1⟩) (fun hHeld => ?_)
                  clear hK K
                  (try simp only [Act.put, sA, sZ, sS])
                  refine any_more (S' := (fun W : World => Rd W (some ⟨g60, 0, none⟩) 4 4 (putN (U z) 4 l) ∧ Mk W w.heap.size W40.heap.size ∧ C9 W w.heap.size ⟨z, l, b, e, ⟨n, x0, x1, x2, x3⟩⟩ ∧ Below w.heap.size w W)) hHeld (fun _ h => h) ?_; clear hHeld; intro W61 hHeld
                  refine gk1 4 (fun K hK => ?_)
                  go_simp
                  have lowU := (hHeld.2.2.2).size
                  refine hK.out _ _ (by exact ⟨(hHeld.1).keep (ext1 _), (hHeld.2.1).keep (ext1 _), (hHeld.2.2.1).keep (ext1 _), gt hHeld.2.2.2 (ext1 _)⟩) (fun hHeld => ?_)
                  clear hK K
                  (try simp only [Act.put, sA, sZ, sS])
                  refine any_more (S' := (fun W : World => Rd W (some ⟨W61.heap.size, 0, none⟩) 1 1 [(fl l b e)] ∧ Rd W (some ⟨g60, 0, none⟩) 4 4 (putN (U z) 4 l) ∧ Mk W w.heap.size W40.heap.size ∧ C9 W w.heap.size ⟨z, l, b, e, ⟨n, x0, x1, x2, x3⟩⟩ ∧ Below w.heap.size w W)) ⟨rd_one W61 (fl l b e), hHeld⟩ (fun _ h => h.2) ?_; clear hHeld; intro W62 hHeld
                  refine gk1 10 (fun K hK => ?_)
                  go_simp
                  refine hK.out _ _ (by exact ⟨(hHeld.1).keep (ext1 _), (hHeld.2.1).keep (ext1 _), (hHeld.2.2.1).keep (ext1 _), (hHeld.2.2.2.1).keep (ext1 _), gt hHeld.2.2.2.2 (ext1 _)⟩) (fun hHeld => ?_)
                  clear hK K
                  (try simp only [Act.put, sA, sZ, sS])
                  refine any_more (S' := (fun W : World => Bo W W62.heap.size (pcs [⟨some ⟨W40.heap.size, 0, none⟩, 3, 3, markN⟩, ⟨some ⟨W61.heap.size, 0, none⟩, 1, 1, [(fl l b e)]⟩, ⟨some ⟨g60, 0, none⟩, 4, 4, putN (U z) 4 l⟩]) 22 ∧ Rd W (some ⟨W61.heap.size, 0, none⟩) 1 1 [(fl l b e)] ∧ Rd W (some ⟨g60, 0, none⟩) 4 4 (putN (U z) 4 l) ∧ Mk W w.heap.size W40.heap.size ∧ C9 W w.heap.size ⟨z, l, b, e, ⟨n, x0, x1, x2, x3⟩⟩ ∧ Below w.heap.size w W)) ⟨heap_alloc_new _ _, hHeld⟩ (fun _ h => h.2) ?_; clear hHeld; intro W63 hHeld
                  refine gk1 11 (fun K hK => ?_)
                  go_simp
                  go_at_call 35; refine (join_call W62.heap.size [⟨some ⟨W40.heap.size, 0, none⟩, 3, 3, markN⟩, ⟨some ⟨W61.heap.size, 0, none⟩, 1, 1, [(fl l b e)]⟩, ⟨some ⟨g60, 0, none⟩, 4, 4, putN (U z) 4 l⟩] W63 (hHeld.1) (rdL3 (hHeld.2.2.2.1).rd (hHeld.2.1) (hHeld.2.2.1)) (by simp [cat, markN, putN_length]) (by simp)).mono ?_; rintro e v64 ⟨ao64, n64, c64, rfl, o64, h64⟩; have hR : (fun W : World => Bo W W62.heap.size (pcs [⟨some ⟨W40.heap.size, 0, none⟩, 3, 3, markN⟩, ⟨some ⟨W61.heap.size, 0, none⟩, 1, 1, [(fl l b e)]⟩, ⟨some ⟨g60, 0, none⟩, 4, 4, putN (U z) 4 l⟩]) 22 ∧ Rd W (some ⟨W61.heap.size, 0, none⟩) 1 1 [(fl l b e)] ∧ Rd W (some ⟨g60, 0, none⟩) 4 4 (putN (U z) 4 l) ∧ Mk W w.heap.size W40.heap.size ∧ C9 W w.heap.size ⟨z, l, b, e, ⟨n, x0, x1, x2, x3⟩⟩ ∧ Below w.heap.size w W) v64 := ⟨(hHeld.1).keep h64, (hHeld.2.1).keep h64, (hHeld.2.2.1).keep h64, (hHeld.2.2.2.1).keep h64, (hHeld.2.2.2.2.1).keep h64, gt hHeld.2.2.2.2.2 h64⟩; have hO : Ow v64 w.heap.size ao64 n64 c64 (cat [⟨some ⟨W40.heap.size, 0, none⟩, 3, 3, markN⟩, ⟨some ⟨W61.heap.size, 0, none⟩, 1, 1, [(fl l b e)]⟩, ⟨some ⟨g60, 0, none⟩, 4, 4, putN (U z) 4 l⟩]) := own_base o64 (hHeld.2.2.2.2.2).size
                  refine hK.out _ _ hR (fun hHeld => ?_)
                  clear hK K
                  (try simp only [Act.put, sA, sZ, sS])
                  refine any_more (S' := (fun W : World => Ow W w.heap.size ao64 n64 c64 (cat [⟨some ⟨W40.heap.size, 0, none⟩, 3, 3, markN⟩, ⟨some ⟨W61.heap.size, 0, none⟩, 1, 1, [(fl l b e)]⟩, ⟨some ⟨g60, 0, none⟩, 4, 4, putN (U z) 4 l⟩]) ∧ Bo W W62.heap.size (pcs [⟨some ⟨W40.heap.size, 0, none⟩, 3, 3, markN⟩, ⟨some ⟨W61.heap.size, 0, none⟩, 1, 1, [(fl l b e)]⟩, ⟨some ⟨g60, 0, none⟩, 4, 4, putN (U z) 4 l⟩]) 22 ∧ Rd W (some ⟨W61.heap.size, 0, none⟩) 1 1 [(fl l b e)] ∧ Rd W (some ⟨g60, 0, none⟩) 4 4 (putN (U z) 4 l) ∧ Mk W w.heap.size W40.heap.size ∧ C9 W w.heap.size ⟨z, l, b, e, ⟨n, x0, x1, x2, x3⟩⟩ ∧ Below w.heap.size w W)) ⟨hO, hHeld⟩ (fun _ h => h.2) ?_; clear hR hHeld; intro W64 hHeld
                  refine gkp 12 ?_
                  refine wpAnyK_done (by kernel_rfl) ?_ _
                  exact KEY _ _ ⟨_, _, _, _, _, _, _, _, _, _, _, _, _, _, _, rfl, hid (by have hO := hHeld.1; unfold Ow at hO; simpa [cat, markN] using hO), hid (hHeld.2.2.2.2.2.1), hid (hHeld.2.2.2.2.2.2)⟩
              refine AllReadyK.cons (at_op _ _ _ rfl) (fun K hK => ?_) ?_
              · as_aux_lemma =>
                  go_simp
                  have lowU := (hHeld.2.2.2).size
                  refine hK.out _ _ (by exact ⟨(hHeld.1).keep (ext1 _), (hHeld.2.1).keep (ext1 _), (hHeld.2.2.1).keep (ext1 _), gt hHeld.2.2.2 (ext1 _)⟩) (fun hHeld => ?_)
                  clear hK K
                  (try simp only [Act.put, sA, sZ, sS])
                  refine any_more (S' := (fun W : World => Rd W (some ⟨W60.heap.size, 0, none⟩) 1 1 [(fl l b e)] ∧ Rd W (some ⟨g60, 0, none⟩) 4 4 (putN (U z) 4 l) ∧ Mk W w.heap.size W40.heap.size ∧ C9 W w.heap.size ⟨z, l, b, e, ⟨n, x0, x1, x2, x3⟩⟩ ∧ Below w.heap.size w W)) ⟨rd_one W60 (fl l b e), hHeld⟩ (fun _ h => h.2) ?_; clear hHeld; intro W65 hHeld
                  refine gk1 1 (fun K hK => ?_)
                  have cv := conv_mark (hHeld.2.2.1) 3 3
                  go_simp
                  refine hK.out _ _ (by exact ⟨hHeld.1.frz _ _, hHeld.2.1.frz _ _, hHeld.2.2.1.frz _ _, hHeld.2.2.2.1.frz _ _, below_frz hHeld.2.2.2.2 _ _ (hHeld.2.2.1).1⟩) (fun hHeld => ?_)
                  clear hK K
                  (try simp only [Act.put, sA, sZ, sS])
                  refine any_more (S' := (fun W : World => Rd W (some ⟨W60.heap.size, 0, none⟩) 1 1 [(fl l b e)] ∧ Rd W (some ⟨g60, 0, none⟩) 4 4 (putN (U z) 4 l) ∧ Mk W w.heap.size W40.heap.size ∧ C9 W w.heap.size ⟨z, l, b, e, ⟨n, x0, x1, x2, x3⟩⟩ ∧ Below w.heap.size w W)) hHeld (fun _ h => h) ?_; clear hHeld; intro W66 hHeld
                  refine gk1 10 (fun K hK => ?_)
                  go_simp
                  refine hK.out _ _ (by exact ⟨(hHeld.1).keep (ext1 _), (hHeld.2.1).keep (ext1 _), (hHeld.2.2.1).keep (ext1 _), (hHeld.2.2.2.1).keep (ext1 _), gt hHeld.2.2.2.2 (ext1 _)⟩) (fun hHeld => ?_)
                  clear hK K
                  (try simp only [Act.put, sA, sZ, sS])
                  refine any_more (S' := (fun W : World => Bo W W66.heap.size (pcs [⟨some ⟨W40.heap.size, 0, none⟩, 3, 3, markN⟩, ⟨some ⟨W60.heap.size, 0, none⟩, 1, 1, [(fl l b e)]⟩, ⟨some ⟨g60, 0, none⟩, 4, 4, putN (U z) 4 l⟩]) 22 ∧ Rd W (some ⟨W60.heap.size, 0, none⟩) 1 1 [(fl l b e)] ∧ Rd W (some ⟨g60, 0, none⟩) 4 4 (putN (U z) 4 l) ∧ Mk W w.heap.size W40.heap.size ∧ C9 W w.heap.size ⟨z, l, b, e, ⟨n, x0, x1, x2, x3⟩⟩ ∧ Below w.heap.size w W)) ⟨heap_alloc_new _ _, hHeld⟩ (fun _ h => h.2) ?_; clear hHeld; intro W67 hHeld
                  refine gk1 11 (fun K hK => ?_)
                  go_simp
                  go_at_call 35; refine (join_call W66.heap.size [⟨some ⟨W40.heap.size, 0, none⟩, 3, 3, markN⟩, ⟨some ⟨W60.heap.size, 0, none⟩, 1, 1, [(fl l b e)]⟩, ⟨some ⟨g60, 0, none⟩, 4, 4, putN (U z) 4 l⟩] W67 (hHeld.1) (rdL3 (hHeld.2.2.2.1).rd (hHeld.2.1) (hHeld.2.2.1)) (by simp [cat, markN, putN_length]) (by simp)).mono ?_; rintro e v68 ⟨ao68, n68, c68, rfl, o68, h68⟩; have hR : (fun W : World => Bo W W66.heap.size (pcs [⟨some ⟨W40.heap.size, 0, none⟩, 3, 3, markN⟩, ⟨some ⟨W60.heap.size, 0, none⟩, 1, 1, [(fl l b e)]⟩, ⟨some ⟨g60, 0, none⟩, 4, 4, putN (U z) 4 l⟩]) 22 ∧ Rd W (some ⟨W60.heap.size, 0, none⟩) 1 1 [(fl l b e)] ∧ Rd W (some ⟨g60, 0, none⟩) 4 4 (putN (U z) 4 l) ∧ Mk W w.heap.size W40.heap.size ∧ C9 W w.heap.size ⟨z, l, b, e, ⟨n, x0, x1, x2, x3⟩⟩ ∧ Below w.heap.size w W) v68 := ⟨(hHeld.1).keep h68, (hHeld.2.1).keep h68, (hHeld.2.2.1).keep h68, (hHeld.2.2.2.1).keep h68, (hHeld.2.2.2.2.1).keep h68, gt hHeld.2.2.2.2.2 h68⟩; have hO : Ow v68 w.heap.size ao68 n68 c68 (cat [⟨some ⟨W40.heap.size, 0, none⟩, 3, 3, markN⟩, ⟨some ⟨W60.heap.size, 0, none⟩, 1, 1, [(fl l b e)]⟩, ⟨some ⟨g60, 0, none⟩, 4, 4, putN (U z) 4 l⟩]) := own_base o68 (hHeld.2.2.2.2.2).size
                  refine hK.out _ _ hR (fun hHeld => ?_)
                  clear hK K
                  (try simp only [Act.put, sA, sZ, sS])
                  refine any_more (S' := (fun W : World => Ow W w.heap.size ao68 n68 c68 (cat [⟨some ⟨W40.heap.size, 0, none⟩, 3, 3, markN⟩, ⟨some ⟨W60.heap.size, 0, none⟩, 1, 1, [(fl l b e)]⟩, ⟨some ⟨g60, 0, none⟩, 4, 4, putN (U z) 4 l⟩]) ∧ Bo W W66.heap.size (pcs [⟨some ⟨W40.heap.size, 0, none⟩, 3, 3, markN⟩, ⟨some ⟨W60.heap.size, 0, none⟩, 1, 1, [(fl l b e)]⟩, ⟨some ⟨g60, 0, none⟩, 4, 4, putN (U z) 4 l⟩]) 22 ∧ Rd W (some ⟨W60.heap.size, 0, none⟩) 1 1 [(fl l b e)] ∧ Rd W (some ⟨g60, 0, none⟩) 4 4 (putN (U z) 4 l) ∧ Mk W w.heap.size W40.heap.size ∧ C9 W w.heap.size ⟨z, l, b, e, ⟨n, x0, x1, x2, x3⟩⟩ ∧ Below w.heap.size w W)) ⟨hO, hHeld⟩ (fun _ h => h.2) ?_; clear hR hHeld; intro W68 hHeld
                  refine gkp 12 ?_
                  refine wpAnyK_done (by kernel_rfl) ?_ _
                  exact KEY _ _ ⟨_, _, _, _, _, _, _, _, _, _, _, _, _, _, _, rfl, hid (by have hO := hHeld.1; unfold Ow at hO; simpa [cat, markN] using hO), hid (hHeld.2.2.2.2.2.1), hid (hHeld.2.2.2.2.2.2)⟩
              exact AllReadyK.nil
          exact AllReadyK.nil
      refine AllReadyK.cons (at_op _ _ _ rfl) (fun K hK => ?_) ?_
      · as_aux_lemma =>
          go_simp
          have lowU := (hHeld.2).size
          refine hK.out _ _ (by exact ⟨(hHeld.1).keep (ext1 _), gt hHeld.2 (ext1 _)⟩) (fun hHeld => ?_)
          clear hK K
          (try simp only [Act.put, sA, sZ, sS])
          refine any_more (S' := (fun W : World => Rd W (some ⟨W40.heap.size, 0, none⟩) 1 1 [(fl l b e)] ∧ C9 W w.heap.size ⟨z, l, b, e, ⟨n, x0, x1, x2, x3⟩⟩ ∧ Below w.heap.size w W)) ⟨rd_one W40 (fl l b e), hHeld⟩ (fun _ h => h.2) ?_; clear hHeld; intro W69 hHeld
          refine wpAnyK_ready (rs := [0, 9]) (by kernel_rfl) (by simp) ?_
          refine AllReadyK.cons (at_op _ _ _ rfl) (fun K hK => ?_) ?_
          · as_aux_lemma =>
              go_simp
              have lowU := (hHeld.2.2).size
              refine hK.out _ _ (by exact ⟨(hHeld.1).keep (ext1 _), (hHeld.2.1).keep (ext1 _), gt hHeld.2.2 (ext1 _)⟩) (fun hHeld => ?_)
              clear hK K
              (try simp only [Act.put, sA, sZ, sS])
              refine any_more (S' := (fun W : World => Mk W w.heap.size W69.heap.size ∧ Rd W (some ⟨W40.heap.size, 0, none⟩) 1 1 [(fl l b e)] ∧ C9 W w.heap.size ⟨z, l, b, e, ⟨n, x0, x1, x2, x3⟩⟩ ∧ Below w.heap.size w W)) ⟨⟨lowU, _, heap_alloc_new _ _⟩, hHeld⟩ (fun _ h => h.2) ?_; clear hHeld; intro W70 hHeld
              refine wpAnyK_ready (rs := [1, 9]) (by kernel_rfl) (by simp) ?_
              refine AllReadyK.cons (at_op _ _ _ rfl) (fun K hK => ?_) ?_
              · as_aux_lemma =>
                  have cv := conv_mark (hHeld.1) 3 3
                  go_simp
                  refine hK.out _ _ (by exact ⟨hHeld.1.frz _ _, hHeld.2.1.frz _ _, hHeld.2.2.1.frz _ _, below_frz hHeld.2.2.2 _ _ (hHeld.1).1⟩) (fun hHeld => ?_)
                  clear hK K
                  (try simp only [Act.put, sA, sZ, sS])
                  refine any_more (S' := (fun W : World => Mk W w.heap.size W69.heap.size ∧ Rd W (some ⟨W40.heap.size, 0, none⟩) 1 1 [(fl l b e)] ∧ C9 W w.heap.size ⟨z, l, b, e, ⟨n, x0, x1, x2, x3⟩⟩ ∧ Below w.heap.size w W)) hHeld (fun _ h => h) ?_; clear hHeld; intro W71 hHeld
                  refine gk1 9 (fun K hK => ?_)
                  go_simp
                  go_at_call 36; refine (NU.out z 4 (by decide) l _).mono ?_; rintro e v72 ⟨g72, rfl, o72, h72⟩; have hR : (fun W : World => Mk W w.heap.size W69.heap.size ∧ Rd W (some ⟨W40.heap.size, 0, none⟩) 1 1 [(fl l b e)] ∧ C9 W w.heap.size ⟨z, l, b, e, ⟨n, x0, x1, x2, x3⟩⟩ ∧ Below w.heap.size w W) v72 := ⟨(hHeld.1).keep h72, (hHeld.2.1).keep h72, (hHeld.2.2.1).keep h72, gt hHeld.2.2.2 h72⟩
                  refine hK.out _ _ hR (fun hHeld => ?_)
                  clear hK K
                  (try simp only [Act.put, sA, sZ, sS])
                  refine any_more (S' := (fun W : World => Rd W (some ⟨g72, 0, none⟩) 4 4 (putN (U z) 4 l) ∧ Mk W w.heap.size W69.heap.size ∧ Rd W (some ⟨W40.heap.size, 0, none⟩) 1 1 [(fl l b e)] ∧ C9 W w.heap.size ⟨z, l, b, e, ⟨n, x0, x1, x2, x3⟩⟩ ∧ Below w.heap.size w W)) ⟨rd_own o72, hHeld⟩ (fun _ h => h.2) ?_; clear hR hHeld; intro W72 hHeld
                  refine gk1 10 (fun K hK => ?_)
                  go_simp
                  refine hK.out _ _ (by exact ⟨(hHeld.1).keep (ext1 _), (hHeld.2.1).keep (ext1 _), (hHeld.2.2.1).keep (ext1 _), (hHeld.2.2.2.1).keep (ext1 _), gt hHeld.2.2.2.2 (ext1 _)⟩) (fun hHeld => ?_)
                  clear hK K
                  (try simp only [Act.put, sA, sZ, sS])
                  refine any_more (S' := (fun W : World => Bo W W72.heap.size (pcs [⟨some ⟨W69.heap.size, 0, none⟩, 3, 3, markN⟩, ⟨some ⟨W40.heap.size, 0, none⟩, 1, 1, [(fl l b e)]⟩, ⟨some ⟨g72, 0, none⟩, 4, 4, putN (U z) 4 l⟩]) 22 ∧ Rd W (some ⟨g72, 0, none⟩) 4 4 (putN (U z) 4 l) ∧ Mk W w.heap.size W69.heap.size ∧ Rd W (some ⟨W40.heap.size, 0, none⟩) 1 1 [(fl l b e)] ∧ C9 W w.heap.size ⟨z, l, b, e, ⟨n, x0, x1, x2, x3⟩⟩ ∧ Below w.heap.size w W)) ⟨heap_alloc_new _ _, hHeld⟩ (fun _ h => h.2) ?_; clear hHeld; intro W73 hHeld
                  refine gk1 11 (fun K hK => ?_)
                  go_simp
                  go_at_call 35; refine (join_call W72.heap.size [⟨some ⟨W69.heap.size, 0, none⟩, 3, 3, markN⟩, ⟨some ⟨W40.heap.size, 0, none⟩, 1, 1, [(fl l b e)]⟩, ⟨some ⟨g72, 0, none⟩, 4, 4, putN (U z) 4 l⟩] W73 (hHeld.1) (rdL3 (hHeld.2.2.1).rd (hHeld.2.2.2.1) (hHeld.2.1)) (by simp [cat, markN, putN_length]) (by simp)).mono ?_; rintro e v74 ⟨ao74, n74, c74, rfl, o74, h74⟩; have hR : (fun W : World => Bo W W72.heap.size (pcs [⟨some ⟨W69.heap.size, 0, none⟩, 3, 3, markN⟩, ⟨some ⟨W40.heap.size, 0, none⟩, 1, 1, [(fl l b e)]⟩, ⟨some ⟨g72, 0, none⟩, 4, 4, putN (U z) 4 l⟩]) 22 ∧ Rd W (some ⟨g72, 0, none⟩) 4 4 (putN (U z) 4 l) ∧ Mk W w.heap.size W69.heap.size ∧ Rd W (some ⟨W40.heap.size, 0, none⟩) 1 1 [(fl l b e)] ∧ C9 W w.heap.size ⟨z, l, b, e, ⟨n, x0, x1, x2, x3⟩⟩ ∧ Below w.heap.size w W) v74 := ⟨(hHeld.1).keep h74, (hHeld.2.1).keep h74, (hHeld.2.2.1).keep h74, (hHeld.2.2.2.1).keep h74, (hHeld.2.2.2.2.1).keep h74, gt hHeld.2.2.2.2.2 h74⟩; have hO : Ow v74 w.heap.size ao74 n74 c74 (cat [⟨some ⟨W69.heap.size, 0, none⟩, 3, 3, markN⟩, ⟨some ⟨W40.heap.size, 0, none⟩, 1, 1, [(fl l b e)]⟩, ⟨some ⟨g72, 0, none⟩, 4, 4, putN (U z) 4 l⟩]) := own_base o74 (hHeld.2.2.2.2.2).size
                  refine hK.out _ _ hR (fun hHeld => ?_)
                  clear hK K
                  (try simp only [Act.put, sA, sZ, sS])
                  refine any_more (S' := (fun W : World => Ow W w.heap.size ao74 n74 c74 (cat [⟨some ⟨W69.heap.size, 0, none⟩, 3, 3, markN⟩, ⟨some ⟨W40.heap.size, 0, none⟩, 1, 1, [(fl l b e)]⟩, ⟨some ⟨g72, 0, none⟩, 4, 4, putN (U z) 4 l⟩]) ∧ Bo W W72.heap.size (pcs [⟨some ⟨W69.heap.size, 0, none⟩, 3, 3, markN⟩, ⟨some ⟨W40.heap.size, 0, none⟩, 1, 1, [(fl l b e)]⟩, ⟨some ⟨g72, 0, none⟩, 4, 4, putN (U z) 4 l⟩]) 22 ∧ Rd W (some ⟨g72, 0, none⟩) 4 4 (putN (U z) 4 l) ∧ Mk W w.heap.size W69.heap.size ∧ Rd W (some ⟨W40.heap.size, 0, none⟩) 1 1 [(fl l b e)] ∧ C9 W w.heap.size ⟨z, l, b, e, ⟨n, x0, x1, x2, x3⟩⟩ ∧ Below w.heap.size w W)) ⟨hO, hHeld⟩ (fun _ h => h.2) ?_; clear hR hHeld; intro W74 hHeld
                  refine gkp 12 ?_
                  refine wpAnyK_done (by kernel_rfl) ?_ _
                  exact KEY _ _ ⟨_, _, _, _, _, _, _, _, _, _, _, _, _, _, _, rfl, hid (by have hO := hHeld.1; unfold Ow at hO; simpa [cat, markN] using hO), hid (hHeld.2.2.2.2.2.1), hid (hHeld.2.2.2.2.2.2)⟩
              refine AllReadyK.cons (at_op _ _ _ rfl) (fun K hK => ?_) ?_
              · as_aux_lemma =>
                  go_simp
                  go_at_call 36; refine (NU.out z 4 (by decide) l _).mono ?_; rintro e v75 ⟨g75, rfl, o75, h75⟩; have hR : (fun W : World => Mk W w.heap.size W69.heap.size ∧ Rd W (some ⟨W40.heap.size, 0, none⟩) 1 1 [(fl l b e)] ∧ C9 W w.heap.size ⟨z, l, b, e, ⟨n, x0, x1, x2, x3⟩⟩ ∧ Below w.heap.size w W) v75 := ⟨(hHeld.1).keep h75, (hHeld.2.1).keep h75, (hHeld.2.2.1).keep h75, gt hHeld.2.2.2 h75⟩
                  refine hK.out _ _ hR (fun hHeld => ?_)
                  clear hK K
                  (try simp only [Act.put, sA, sZ, sS])
                  refine any_more (S' := (fun W : World => Rd W (some ⟨g75, 0, none⟩) 4 4 (putN (U z) 4 l) ∧ Mk W w.heap.size W69.heap.size ∧ Rd W (some ⟨W40.heap.size, 0, none⟩) 1 1 [(fl l b e)] ∧ C9 W w.heap.size ⟨z, l, b, e, ⟨n, x0, x1, x2, x3⟩⟩ ∧ Below w.heap.size w W)) ⟨rd_own o75, hHeld⟩ (fun _ h => h.2) ?_; clear hR hHeld; intro W75 hHeld
                  refine gk1 1 (fun K hK => ?_)
                  have cv := conv_mark (hHeld.2.1) 3 3
                  go_simp
                  refine hK.out _ _ (by exact ⟨hHeld.1.frz _ _, hHeld.2.1.frz _ _, hHeld.2.2.1.frz _ _, hHeld.2.2.2.1.frz _ _, below_frz hHeld.2.2.2.2 _ _ (hHeld.2.1).1⟩) (fun hHeld => ?_)
                  clear hK K
                  (try simp only [Act.put, sA, sZ, sS])
                  refine any_more (S' := (fun W : World => Rd W (some ⟨g75, 0, none⟩) 4 4 (putN (U z) 4 l) ∧ Mk W w.heap.size W69.heap.size ∧ Rd W (some ⟨W40.heap.size, 0, none⟩) 1 1 [(fl l b e)] ∧ C9 W w.heap.size ⟨z, l, b, e, ⟨n, x0, x1, x2, x3⟩⟩ ∧ Below w.heap.size w W)) hHeld (fun _ h => h) ?_; clear hHeld; intro W76 hHeld
                  refine gk1 10 (fun K hK => ?_)
                  go_simp
                  refine hK.out _ _ (by exact ⟨(hHeld.1).keep (ext1 _), (hHeld.2.1).keep (ext1 _), (hHeld.2.2.1).keep (ext1 _), (hHeld.2.2.2.1).keep (ext1 _), gt hHeld.2.2.2.2 (ext1 _)⟩) (fun hHeld => ?_)
                  clear hK K
                  (try simp only [Act.put, sA, sZ, sS])
                  refine any_more (S' := (fun W : World => Bo W W76.heap.size (pcs [⟨some ⟨W69.heap.size, 0, none⟩, 3, 3, markN⟩, ⟨some ⟨W40.heap.size, 0, none⟩, 1, 1, [(fl l b e)]⟩, ⟨some ⟨g75, 0, none⟩, 4, 4, putN (U z) 4 l⟩]) 22 ∧ Rd W (some ⟨g75, 0, none⟩) 4 4 (putN (U z) 4 l) ∧ Mk W w.heap.size W69.heap.size ∧ Rd W (some ⟨W40.heap.size, 0, none⟩) 1 1 [(fl l b e)] ∧ C9 W w.heap.size ⟨z, l, b, e, ⟨n, x0, x1, x2, x3⟩⟩ ∧ Below w.heap.size w W)) ⟨heap_alloc_new _ _, hHeld⟩ (fun _ h => h.2) ?_; clear hHeld; intro W77 hHeld
                  refine gk1 11 (fun K hK => ?_)
                  go_simp
                  go_at_call 35; refine (join_call W76.heap.size [⟨some ⟨W69.heap.size, 0, none⟩, 3, 3, markN⟩, ⟨some ⟨W40.heap.size, 0, none⟩, 1, 1, [(fl l b e)]⟩, ⟨some ⟨g75, 0, none⟩, 4, 4, putN (U z) 4 l⟩] W77 (hHeld.1) (rdL3 (hHeld.2.2.1).rd (hHeld.2.2.2.1) (hHeld.2.1)) (by simp [cat, markN, putN_length]) (by simp)).mono ?_; rintro e v78 ⟨ao78, n78, c78, rfl, o78, h78⟩; have hR : (fun W : World => Bo W W76.heap.size (pcs [⟨some ⟨W69.heap.size, 0, none⟩, 3, 3, markN⟩, ⟨some ⟨W40.heap.size, 0, none⟩, 1, 1, [(fl l b e)]⟩, ⟨some ⟨g75, 0, none⟩, 4, 4, putN (U z) 4 l⟩]) 22 ∧ Rd W (some ⟨g75, 0, none⟩) 4 4 (putN (U z) 4 l) ∧ Mk W w.heap.size W69.heap.size ∧ Rd W (some ⟨W40.heap.size, 0, none⟩) 1 1 [(fl l b e)] ∧ C9 W w.heap.size ⟨z, l, b, e, ⟨n, x0, x1, x2, x3⟩⟩ ∧ Below w.heap.size w W) v78 := ⟨(hHeld.1).keep h78, (hHeld.2.1).keep h78, (hHeld.2.2.1).keep h78, (hHeld.2.2.2.1).keep h78, (hHeld.2.2.2.2.1).keep h78, gt hHeld.2.2.2.2.2 h78⟩; have hO : Ow v78 w.heap.size ao78 n78 c78 (cat [⟨some ⟨W69.heap.size, 0, none⟩, 3, 3, markN⟩, ⟨some ⟨W40.heap.size, 0, none⟩, 1, 1, [(fl l b e)]⟩, ⟨some ⟨g75, 0, none⟩, 4, 4, putN (U z) 4 l⟩]) := own_base o78 (hHeld.2.2.2.2.2).size
                  refine hK.out _ _ hR (fun hHeld => ?_)
                  clear hK K
                  (try simp only [Act.put, sA, sZ, sS])
                  refine any_more (S' := (fun W : World => Ow W w.heap.size ao78 n78 c78 (cat [⟨some ⟨W69.heap.size, 0, none⟩, 3, 3, markN⟩, ⟨some ⟨W40.heap.size, 0, none⟩, 1, 1, [(fl l b e)]⟩, ⟨some ⟨g75, 0, none⟩, 4, 4, putN (U z) 4 l⟩]) ∧ Bo W W76.heap.size (pcs [⟨some ⟨W69.heap.size, 0, none⟩, 3, 3, markN⟩, ⟨some ⟨W40.heap.size, 0, none⟩, 1, 1, [(fl l b e)]⟩, ⟨some ⟨g75, 0, none⟩, 4, 4, putN (U z) 4 l⟩]) 22 ∧ Rd W (some ⟨g75, 0, none⟩) 4 4 (putN (U z) 4 l) ∧ Mk W w.heap.size W69.heap.size ∧ Rd W (some ⟨W40.heap.size, 0, none⟩) 1 1 [(fl l b e)] ∧ C9 W w.heap.size ⟨z, l, b, e, ⟨n, x0, x1, x2, x3⟩⟩ ∧ Below w.heap.size w W)) ⟨hO, hHeld⟩ (fun _ h => h.2) ?_; clear hR hHeld; intro W78 hHeld
                  refine gkp 12 ?_
                  refine wpAnyK_done (by kernel_rfl) ?_ _
                  exact KEY _ _ ⟨_, _, _, _, _, _, _, _, _, _, _, _, _, _, _, rfl, hid (by have hO := hHeld.1; unfold Ow at hO; simpa [cat, markN] using hO), hid (hHeld.2.2.2.2.2.1), hid (hHeld.2.2.2.2.2.2)⟩
              exact AllReadyK.nil
          refine AllReadyK.cons (at_op _ _ _ rfl) (fun K hK => ?_) ?_
          · as_aux_lemma =>
              go_simp
              go_at_call 36; refine (NU.out z 4 (by decide) l _).mono ?_; rintro e v79 ⟨g79, rfl, o79, h79⟩; have hR : (fun W : World => Rd W (some ⟨W40.heap.size, 0, none⟩) 1 1 [(fl l b e)] ∧ C9 W w.heap.size ⟨z, l, b, e, ⟨n, x0, x1, x2, x3⟩⟩ ∧ Below w.heap.size w W) v79 := ⟨(hHeld.1).keep h79, (hHeld.2.1).keep h79, gt hHeld.2.2 h79⟩
              refine hK.out _ _ hR (fun hHeld => ?_)
              clear hK K
              (try simp only [Act.put, sA, sZ, sS])
              refine any_more (S' := (fun W : World => Rd W (some ⟨g79, 0, none⟩) 4 4 (putN (U z) 4 l) ∧ Rd W (some ⟨W40.heap.size, 0, none⟩) 1 1 [(fl l b e)] ∧ C9 W w.heap.size ⟨z, l, b, e, ⟨n, x0, x1, x2, x3⟩⟩ ∧ Below w.heap.size w W)) ⟨rd_own o79, hHeld⟩ (fun _ h => h.2) ?_; clear hR hHeld; intro W79 hHeld
              refine gk1 0 (fun K hK => ?_)
              go_simp
              have lowU := (hHeld.2.2.2).size
              refine hK.out _ _ (by exact ⟨(hHeld.1).keep (ext1 _), (hHeld.2.1).keep (ext1 _), (hHeld.2.2.1).keep (ext1 _), gt hHeld.2.2.2 (ext1 _)⟩) (fun hHeld => ?_)
              clear hK K
              (try simp only [Act.put, sA, sZ, sS])
              refine any_more (S' := (fun W : World => Mk W w.heap.size W79.heap.size ∧ Rd W (some ⟨g79, 0, none⟩) 4 4 (putN (U z) 4 l) ∧ Rd W (some ⟨W40.heap.size, 0, none⟩) 1 1 [(fl l b e)] ∧ C9 W w.heap.size ⟨z, l, b, e, ⟨n, x0, x1, x2, x3⟩⟩ ∧ Below w.heap.size w W)) ⟨⟨lowU, _, heap_alloc_new _ _⟩, hHeld⟩ (fun _ h => h.2) ?_; clear hHeld; intro W80 hHeld
              refine gk1 1 (fun K hK => ?_)
              have cv := conv_mark (hHeld.1) 3 3
              go_simp
              refine hK.out _ _ (by exact ⟨hHeld.1.frz _ _, hHeld.2.1.frz _ _, hHeld.2.2.1.frz _ _, hHeld.2.2.2.1.frz _ _, below_frz hHeld.2.2.2.2 _ _ (hHeld.1).1⟩) (fun hHeld => ?_)
              clear hK K
              (try simp only [Act.put, sA, sZ, sS])
              refine any_more (S' := (fun W : World => Mk W w.heap.size W79.heap.size ∧ Rd W (some ⟨g79, 0, none⟩) 4 4 (putN (U z) 4 l) ∧ Rd W (some ⟨W40.heap.size, 0, none⟩) 1 1 [(fl l b e)] ∧ C9 W w.heap.size ⟨z, l, b, e, ⟨n, x0, x1, x2, x3⟩⟩ ∧ Below w.heap.size w W)) hHeld (fun _ h => h) ?_; clear hHeld; intro W81 hHeld
              refine gk1 10 (fun K hK => ?_)
              go_simp
              refine hK.out _ _ (by exact ⟨(hHeld.1).keep (ext1 _), (hHeld.2.1).keep (ext1 _), (hHeld.2.2.1).keep (ext1 _), (hHeld.2.2.2.1).keep (ext1 _), gt hHeld.2.2.2.2 (ext1 _)⟩) (fun hHeld => ?_)
              clear hK K
              (try simp only [Act.put, sA, sZ, sS])
              refine any_more (S' := (fun W : World => Bo W W81.heap.size (pcs [⟨some ⟨W79.heap.size, 0, none⟩, 3, 3, markN⟩, ⟨some ⟨W40.heap.size, 0, none⟩, 1, 1, [(fl l b e)]⟩, ⟨some ⟨g79, 0, none⟩, 4, 4, putN (U z) 4 l⟩]) 22 ∧ Mk W w.heap.size W79.heap.size ∧ Rd W (some ⟨g79, 0, none⟩) 4 4 (putN (U z) 4 l) ∧ Rd W (some ⟨W40.heap.size, 0, none⟩) 1 1 [(fl l b e)] ∧ C9 W w.heap.size ⟨z, l, b, e, ⟨n, x0, x1, x2, x3⟩⟩ ∧ Below w.heap.size w W)) ⟨heap_alloc_new _ _, hHeld⟩ (fun _ h => h.2) ?_; clear hHeld; intro W82 hHeld
              refine gk1 11 (fun K hK => ?_)
              go_simp
              go_at_call 35; refine (join_call W81.heap.size [⟨some ⟨W79.heap.size, 0, none⟩, 3, 3, markN⟩, ⟨some ⟨W40.heap.size, 0, none⟩, 1, 1, [(fl l b e)]⟩, ⟨some ⟨g79, 0, none⟩, 4, 4, putN (U z) 4 l⟩] W82 (hHeld.1) (rdL3 (hHeld.2.1).rd (hHeld.2.2.2.1) (hHeld.2.2.1)) (by simp [cat, markN, putN_length]) (by simp)).mono ?_; rintro e v83 ⟨ao83, n83, c83, rfl, o83, h83⟩; have hR : (fun W : World => Bo W W81.heap.size (pcs [⟨some ⟨W79.heap.size, 0, none⟩, 3, 3, markN⟩, ⟨some ⟨W40.heap.size, 0, none⟩, 1, 1, [(fl l b e)]⟩, ⟨some ⟨g79, 0, none⟩, 4, 4, putN (U z) 4 l⟩]) 22 ∧ Mk W w.heap.size W79.heap.size ∧ Rd W (some ⟨g79, 0, none⟩) 4 4 (putN (U z) 4 l) ∧ Rd W (some ⟨W40.heap.size, 0, none⟩) 1 1 [(fl l b e)] ∧ C9 W w.heap.size ⟨z, l, b, e, ⟨n, x0, x1, x2, x3⟩⟩ ∧ Below w.heap.size w W) v83 := ⟨(hHeld.1).keep h83, (hHeld.2.1).keep h83, (hHeld.2.2.1).keep h83, (hHeld.2.2.2.1).keep h83, (hHeld.2.2.2.2.1).keep h83, gt hHeld.2.2.2.2.2 h83⟩; have hO : Ow v83 w.heap.size ao83 n83 c83 (cat [⟨some ⟨W79.heap.size, 0, none⟩, 3, 3, markN⟩, ⟨some ⟨W40.heap.size, 0, none⟩, 1, 1, [(fl l b e)]⟩, ⟨some ⟨g79, 0, none⟩, 4, 4, putN (U z) 4 l⟩]) := own_base o83 (hHeld.2.2.2.2.2).size
              refine hK.out _ _ hR (fun hHeld => ?_)
              clear hK K
              (try simp only [Act.put, sA, sZ, sS])
              refine any_more (S' := (fun W : World => Ow W w.heap.size ao83 n83 c83 (cat [⟨some ⟨W79.heap.size, 0, none⟩, 3, 3, markN⟩, ⟨some ⟨W40.heap.size, 0, none⟩, 1, 1, [(fl l b e)]⟩, ⟨some ⟨g79, 0, none⟩, 4, 4, putN (U z) 4 l⟩]) ∧ Bo W W81.heap.size (pcs [⟨some ⟨W79.heap.size, 0, none⟩, 3, 3, markN⟩, ⟨some ⟨W40.heap.size, 0, none⟩, 1, 1, [(fl l b e)]⟩, ⟨some ⟨g79, 0, none⟩, 4, 4, putN (U z) 4 l⟩]) 22 ∧ Mk W w.heap.size W79.heap.size ∧ Rd W (some ⟨g79, 0, none⟩) 4 4 (putN (U z) 4 l) ∧ Rd W (some ⟨W40.heap.size, 0, none⟩) 1 1 [(fl l b e)] ∧ C9 W w.heap.size ⟨z, l, b, e, ⟨n, x0, x1, x2, x3⟩⟩ ∧ Below w.heap.size w W)) ⟨hO, hHeld⟩ (fun _ h => h.2) ?_; clear hR hHeld; intro W83 hHeld
              refine gkp 12 ?_
              refine wpAnyK_done (by kernel_rfl) ?_ _
              exact KEY _ _ ⟨_, _, _, _, _, _, _, _, _, _, _, _, _, _, _, rfl, hid (by have hO := hHeld.1; unfold Ow at hO; simpa [cat, markN] using hO), hid (hHeld.2.2.2.2.2.1), hid (hHeld.2.2.2.2.2.2)⟩
          exact AllReadyK.nil
      refine AllReadyK.cons (at_op _ _ _ rfl) (fun K hK => ?_) ?_
      · as_aux_lemma =>
          go_simp
          go_at_call 36; refine (NU.out z 4 (by decide) l _).mono ?_; rintro e v84 ⟨g84, rfl, o84, h84⟩; have hR : (fun W : World => C9 W w.heap.size ⟨z, l, b, e, ⟨n, x0, x1, x2, x3⟩⟩ ∧ Below w.heap.size w W) v84 := ⟨(hHeld.1).keep h84, gt hHeld.2 h84⟩
          refine hK.out _ _ hR (fun hHeld => ?_)
          clear hK K
          (try simp only [Act.put, sA, sZ, sS])
          refine any_more (S' := (fun W : World => Rd W (some ⟨g84, 0, none⟩) 4 4 (putN (U z) 4 l) ∧ C9 W w.heap.size ⟨z, l, b, e, ⟨n, x0, x1, x2, x3⟩⟩ ∧ Below w.heap.size w W)) ⟨rd_own o84, hHeld⟩ (fun _ h => h.2) ?_; clear hR hHeld; intro W84 hHeld
          refine wpAnyK_ready (rs := [0, 4]) (by kernel_rfl) (by simp) ?_
          refine AllReadyK.cons (at_op _ _ _ rfl) (fun K hK => ?_) ?_
          · as_aux_lemma =>
              go_simp
              have lowU := (hHeld.2.2).size
              refine hK.out _ _ (by exact ⟨(hHeld.1).keep (ext1 _), (hHeld.2.1).keep (ext1 _), gt hHeld.2.2 (ext1 _)⟩) (fun hHeld => ?_)
              clear hK K
              (try simp only [Act.put, sA, sZ, sS])
              refine any_more (S' := (fun W : World => Mk W w.heap.size W84.heap.size ∧ Rd W (some ⟨g84, 0, none⟩) 4 4 (putN (U z) 4 l) ∧ C9 W w.heap.size ⟨z, l, b, e, ⟨n, x0, x1, x2, x3⟩⟩ ∧ Below w.heap.size w W)) ⟨⟨lowU, _, heap_alloc_new _ _⟩, hHeld⟩ (fun _ h => h.2) ?_; clear hHeld; intro W85 hHeld
              refine wpAnyK_ready (rs := [1, 4]) (by kernel_rfl) (by simp) ?_
              refine AllReadyK.cons (at_op _ _ _ rfl) (fun K hK => ?_) ?_
              · as_aux_lemma =>
                  have cv := conv_mark (hHeld.1) 3 3
                  go_simp
                  refine hK.out _ _ (by exact ⟨hHeld.1.frz _ _, hHeld.2.1.frz _ _, hHeld.2.2.1.frz _ _, below_frz hHeld.2.2.2 _ _ (hHeld.1).1⟩) (fun hHeld => ?_)
                  clear hK K
                  (try simp only [Act.put, sA, sZ, sS])
                  refine any_more (S' := (fun W : World => Mk W w.heap.size W84.heap.size ∧ Rd W (some ⟨g84, 0, none⟩) 4 4 (putN (U z) 4 l) ∧ C9 W w.heap.size ⟨z, l, b, e, ⟨n, x0, x1, x2, x3⟩⟩ ∧ Below w.heap.size w W)) hHeld (fun _ h => h) ?_; clear hHeld; intro W86 hHeld
                  refine gk1 4 (fun K hK => ?_)
                  go_simp
                  have lowU := (hHeld.2.2.2).size
                  refine hK.out _ _ (by exact ⟨(hHeld.1).keep (ext1 _), (hHeld.2.1).keep (ext1 _), (hHeld.2.2.1).keep (ext1 _), gt hHeld.2.2.2 (ext1 _)⟩) (fun hHeld => ?_)
                  clear hK K
                  (try simp only [Act.put, sA, sZ, sS])
                  refine any_more (S' := (fun W : World => Rd W (some ⟨W86.heap.size, 0, none⟩) 1 1 [(fl l b e)] ∧ Mk W w.heap.size W84.heap.size ∧ Rd W (some ⟨g84, 0, none⟩) 4 4 (putN (U z) 4 l) ∧ C9 W w.heap.size ⟨z, l, b, e, ⟨n, x0, x1, x2, x3⟩⟩ ∧ Below w.heap.size w W)) ⟨rd_one W86 (fl l b e), hHeld⟩ (fun _ h => h.2) ?_; clear hHeld; intro W87 hHeld
                  refine gk1 10 (fun K hK => ?_)
                  go_simp
                  refine hK.out _ _ (by exact ⟨(hHeld.1).keep (ext1 _), (hHeld.2.1).keep (ext1 _), (hHeld.2.2.1).keep (ext1 _), (hHeld.2.2.2.1).keep (ext1 _), gt hHeld.2.2.2.2 (ext1 _)⟩) (fun hHeld => ?_)
                  clear hK K
                  (try simp only [Act.put, sA, sZ, sS])
                  refine any_more (S' := (fun W : World => Bo W W87.heap.size (pcs [⟨some ⟨W84.heap.size, 0, none⟩, 3, 3, markN⟩, ⟨some ⟨W86.heap.size, 0, none⟩, 1, 1, [(fl l b e)]⟩, ⟨some ⟨g84, 0, none⟩, 4, 4, putN (U z) 4 l⟩]) 22 ∧ Rd W (some ⟨W86.heap.size, 0, none⟩) 1 1 [(fl l b e)] ∧ Mk W w.heap.size W84.heap.size ∧ Rd W (some ⟨g84, 0, none⟩) 4 4 (putN (U z) 4 l) ∧ C9 W w.heap.size ⟨z, l, b, e, ⟨n, x0, x1, x2, x3⟩⟩ ∧ Below w.heap.size w W)) ⟨heap_alloc_new _ _, hHeld⟩ (fun _ h => h.2) ?_; clear hHeld; intro W88 hHeld
                  refine gk1 11 (fun K hK => ?_)
                  go_simp
                  go_at_call 35; refine (join_call W87.heap.size [⟨some ⟨W84.heap.size, 0, none⟩, 3, 3, markN⟩, ⟨some ⟨W86.heap.size, 0, none⟩, 1, 1, [(fl l b e)]⟩, ⟨some ⟨g84, 0, none⟩, 4, 4, putN (U z) 4 l⟩] W88 (hHeld.1) (rdL3 (hHeld.2.2.1).rd (hHeld.2.1) (hHeld.2.2.2.1)) (by simp [cat, markN, putN_length]) (by simp)).mono ?_; rintro e v89 ⟨ao89, n89, c89, rfl, o89, h89⟩; have hR : (fun W : World => Bo W W87.heap.size (pcs [⟨some ⟨W84.heap.size, 0, none⟩, 3, 3, markN⟩, ⟨some ⟨W86.heap.size, 0, none⟩, 1, 1, [(fl l b e)]⟩, ⟨some ⟨g84, 0, none⟩, 4, 4, putN (U z) 4 l⟩]) 22 ∧ Rd W (some ⟨W86.heap.size, 0, none⟩) 1 1 [(fl l b e)] ∧ Mk W w.heap.size W84.heap.size ∧ Rd W (some ⟨g84, 0, none⟩) 4 4 (putN (U z) 4 l) ∧ C9 W w.heap.size ⟨z, l, b, e, ⟨n, x0, x1, x2, x3⟩⟩ ∧ Below w.heap.size w W) v89 := ⟨(hHeld.1).keep h89, (hHeld.2.1).keep h89, (hHeld.2.2.1).keep h89, (hHeld.2.2.2.1).keep h89, (hHeld.2.2.2.2.1).keep h89, gt hHeld.2.2.2.2.2 h89⟩; have hO : Ow v89 w.heap.size ao89 n89 c89 (cat [⟨some ⟨W84.heap.size, 0, none⟩, 3, 3, markN⟩, ⟨some ⟨W86.heap.size, 0, none⟩, 1, 1, [(fl l b e)]⟩, ⟨some ⟨g84, 0, none⟩, 4, 4, putN (U z) 4 l⟩]) := own_base o89 (hHeld.2.2.2.2.2).size
                  refine hK.out _ _ hR (fun hHeld => ?_)
                  clear hK K
                  (try simp only [Act.put, sA, sZ, sS])
                  refine any_more (S' := (fun W : World => Ow W w.heap.size ao89 n89 c89 (cat [⟨some ⟨W84.heap.size, 0, none⟩, 3, 3, markN⟩, ⟨some ⟨W86.heap.size, 0, none⟩, 1, 1, [(fl l b e)]⟩, ⟨some ⟨g84, 0, none⟩, 4, 4, putN (U z) 4 l⟩]) ∧ Bo W W87.heap.size (pcs [⟨some ⟨W84.heap.size, 0, none⟩, 3, 3, markN⟩, ⟨some ⟨W86.heap.size, 0, none⟩, 1, 1, [(fl l b e)]⟩, ⟨some ⟨g84, 0, none⟩, 4, 4, putN (U z) 4 l⟩]) 22 ∧ Rd W (some ⟨W86.heap.size, 0, none⟩) 1 1 [(fl l b e)] ∧ Mk W w.heap.size W84.heap.size ∧ Rd W (some ⟨g84, 0, none⟩) 4 4 (putN (U z) 4 l) ∧ C9 W w.heap.size ⟨z, l, b, e, ⟨n, x0, x1, x2, x3⟩⟩ ∧ Below w.heap.size w W)) ⟨hO, hHeld⟩ (fun _ h => h.2) ?_; clear hR hHeld; intro W89 hHeld
                  refine gkp 12 ?_
                  refine wpAnyK_done (by kernel_rfl) ?_ _
                  exact KEY _ _ ⟨_, _, _, _, _, _, _, _, _, _, _, _, _, _, _, rfl, hid (by have hO := hHeld.1; unfold Ow at hO; simpa [cat, markN] using hO), hid (hHeld.2.2.2.2.2.1), hid (hHeld.2.2.2.2.2.2)⟩
              refine AllReadyK.cons (at_op _ _ _ rfl) (fun K hK => ?_) ?_
              · as_aux_lemma =>
                  go_simp
                  have lowU := (hHeld.2.2.2).size
                  refine hK.out _ _ (by exact ⟨(hHeld.1).keep (ext1 _), (hHeld.2.1).keep (ext1 _), (hHeld.2.2.1).keep (ext1 _), gt hHeld.2.2.2 (ext1 _)⟩) (fun hHeld => ?_)
                  clear hK K
                  (try simp only [Act.put, sA, sZ, sS])
                  refine any_more (S' := (fun W : World => Rd W (some ⟨W85.heap.size, 0, none⟩) 1 1 [(fl l b e)] ∧ Mk W w.heap.size W84.heap.size ∧ Rd W (some ⟨g84, 0, none⟩) 4 4 (putN (U z) 4 l) ∧ C9 W w.heap.size ⟨z, l, b, e, ⟨n, x0, x1, x2, x3⟩⟩ ∧ Below w.heap.size w W)) ⟨rd_one W85 (fl l b e), hHeld⟩ (fun _ h => h.2) ?_; clear hHeld; intro W90 hHeld
                  refine gk1 1 (fun K hK => ?_)
                  have cv := conv_mark (hHeld.2.1) 3 3
                  go_simp
                  refine hK.out _ _ (by exact ⟨hHeld.1.frz _ _, hHeld.2.1.frz _ _, hHeld.2.2.1.frz _ _, hHeld.2.2.2.1.frz _ _, below_frz hHeld.2.2.2.2 _ _ (hHeld.2.1).1⟩) (fun hHeld => ?_)
                  clear hK K
                  (try simp only [Act.put, sA, sZ, sS])
                  refine any_more (S' := (fun W : World => Rd W (some ⟨W85.heap.size, 0, none⟩) 1 1 [(fl l b e)] ∧ Mk W w.heap.size W84.heap.size ∧ Rd W (some ⟨g84, 0, none⟩) 4 4 (putN (U z) 4 l) ∧ C9 W w.heap.size ⟨z, l, b, e, ⟨n, x0, x1, x2, x3⟩⟩ ∧ Below w.heap.size w W)) hHeld (fun _ h => h) ?_; clear hHeld; intro W91 hHeld
                  refine gk1 10 (fun K hK => ?_)
                  go_simp
                  refine hK.out _ _ (by exact ⟨(hHeld.1).keep (ext1 _), (hHeld.2.1).keep (ext1 _), (hHeld.2.2.1).keep (ext1 _), (hHeld.2.2.2.1).keep (ext1 _), gt hHeld.2.2.2.2 (ext1 _)⟩) (fun hHeld => ?_)
                  clear hK K
                  (try simp only [Act.put, sA, sZ, sS])
                  refine any_more (S' := (fun W : World => Bo W W91.heap.size (pcs [⟨some ⟨W84.heap.size, 0, none⟩, 3, 3, markN⟩, ⟨some ⟨W85.heap.size, 0, none⟩, 1, 1, [(fl l b e)]⟩, ⟨some ⟨g84, 0, none⟩, 4, 4, putN (U z) 4 l⟩]) 22 ∧ Rd W (some ⟨W85.heap.size, 0, none⟩) 1 1 [(fl l b e)] ∧ Mk W w.heap.size W84.heap.size ∧ Rd W (some ⟨g84, 0, none⟩) 4 4 (putN (U z) 4 l) ∧ C9 W w.heap.size ⟨z, l, b, e, ⟨n, x0, x1, x2, x3⟩⟩ ∧ Below w.heap.size w W)) ⟨heap_alloc_new _ _, hHeld⟩ (fun _ h => h.2) ?_; clear hHeld; intro W92 hHeld
                  refine gk1 11 (fun K hK => ?_)
                  go_simp
                  go_at_call 35; refine (join_call W91.heap.size [⟨some ⟨W84.heap.size, 0, none⟩, 3, 3, markN⟩, ⟨some ⟨W85.heap.size, 0, none⟩, 1, 1, [(fl l b e)]⟩, ⟨some ⟨g84, 0, none⟩, 4, 4, putN (U z) 4 l⟩] W92 (hHeld.1) (rdL3 (hHeld.2.2.1).rd (hHeld.2.1) (hHeld.2.2.2.1)) (by simp [cat, markN, putN_length]) (by simp)).mono ?_; rintro e v93 ⟨ao93, n93, c93, rfl, o93, h93⟩; have hR : (fun W : World => Bo W W91.heap.size (pcs [⟨some ⟨W84.heap.size, 0, none⟩, 3, 3, markN⟩, ⟨some ⟨W85.heap.size, 0, none⟩, 1, 1, [(fl l b e)]⟩, ⟨some ⟨g84, 0, none⟩, 4, 4, putN (U z) 4 l⟩]) 22 ∧ Rd W (some ⟨W85.heap.size, 0, none⟩) 1 1 [(fl l b e)] ∧ Mk W w.heap.size W84.heap.size ∧ Rd W (some ⟨g84, 0, none⟩) 4 4 (putN (U z) 4 l) ∧ C9 W w.heap.size ⟨z, l, b, e, ⟨n, x0, x1, x2, x3⟩⟩ ∧ Below w.heap.size w W) v93 := ⟨(hHeld.1).keep h93, (hHeld.2.1).keep h93, (hHeld.2.2.1).keep h93, (hHeld.2.2.2.1).keep h93, (hHeld.2.2.2.2.1).keep h93, gt hHeld.2.2.2.2.2 h93⟩; have hO : Ow v93 w.heap.size ao93 n93 c93 (cat [⟨some ⟨W84.heap.size, 0, none⟩, 3, 3, markN⟩, ⟨some ⟨W85.heap.size, 0, none⟩, 1, 1, [(fl l b e)]⟩, ⟨some ⟨g84, 0, none⟩, 4, 4, putN (U z) 4 l⟩]) := own_base o93 (hHeld.2.2.2.2.2).size
                  refine hK.out _ _ hR (fun hHeld => ?_)
                  clear hK K
                  (try simp only [Act.put, sA, sZ, sS])
                  refine any_more (S' := (fun W : World => Ow W w.heap.size ao93 n93 c93 (cat [⟨some ⟨W84.heap.size, 0, none⟩, 3, 3, markN⟩, ⟨some ⟨W85.heap.size, 0, none⟩, 1, 1, [(fl l b e)]⟩, ⟨some ⟨g84, 0, none⟩, 4, 4, putN (U z) 4 l⟩]) ∧ Bo W W91.heap.size (pcs [⟨some ⟨W84.heap.size, 0, none⟩, 3, 3, markN⟩, ⟨some ⟨W85.heap.size, 0, none⟩, 1, 1, [(fl l b e)]⟩, ⟨some ⟨g84, 0, none⟩, 4, 4, putN (U z) 4 l⟩]) 22 ∧ Rd W (some ⟨W85.heap.size, 0, none⟩) 1 1 [(fl l b e)] ∧ Mk W w.heap.size W84.heap.size ∧ Rd W (some ⟨g84, 0, none⟩) 4 4 (putN (U z) 4 l) ∧ C9 W w.heap.size ⟨z, l, b, e, ⟨n, x0, x1, x2, x3⟩⟩ ∧ Below w.heap.size w W)) ⟨hO, hHeld⟩ (fun _ h => h.2) ?_; clear hR hHeld; intro W93 hHeld
                  refine gkp 12 ?_
                  refine wpAnyK_done (by kernel_rfl) ?_ _
                  exact KEY _ _ ⟨_, _, _, _, _, _, _, _, _, _, _, _, _, _, _, rfl, hid (by have hO := hHeld.1; unfold Ow at hO; simpa [cat, markN] using hO), hid (hHeld.2.2.2.2.2.1), hid (hHeld.2.2.2.2.2.2)⟩
              exact AllReadyK.nil
          refine AllReadyK.cons (at_op _ _ _ rfl) (fun K hK => ?_) ?_
          · as_aux_lemma =>
              go_simp
              have lowU := (hHeld.2.2).size
              refine hK.out _ _ (by exact ⟨(hHeld.1).keep (ext1 _), (hHeld.2.1).keep (ext1 _), gt hHeld.2.2 (ext1 _)⟩) (fun hHeld => ?_)
              clear hK K
              (try simp only [Act.put, sA, sZ, sS])
              refine any_more (S' := (fun W : World => Rd W (some ⟨W84.heap.size, 0, none⟩) 1 1 [(fl l b e)] ∧ Rd W (some ⟨g84, 0, none⟩) 4 4 (putN (U z) 4 l) ∧ C9 W w.heap.size ⟨z, l, b, e, ⟨n, x0, x1, x2, x3⟩⟩ ∧ Below w.heap.size w W)) ⟨rd_one W84 (fl l b e), hHeld⟩ (fun _ h => h.2) ?_; clear hHeld; intro W94 hHeld
              refine gk1 0 (fun K hK => ?_)
              go_simp
              have lowU := (hHeld.2.2.2).size
              refine hK.out _ _ (by exact ⟨(hHeld.1).keep (ext1 _), (hHeld.2.1).keep (ext1 _), (hHeld.2.2.1).keep (ext1 _), gt hHeld.2.2.2 (ext1 _)⟩) (fun hHeld => ?_)
              clear hK K
              (try simp only [Act.put, sA, sZ, sS])
              refine any_more (S' := (fun W : World => Mk W w.heap.size W94.heap.size ∧ Rd W (some ⟨W84.heap.size, 0, none⟩) 1 1 [(fl l b e)] ∧ Rd W (some ⟨g84, 0, none⟩) 4 4 (putN (U z) 4 l) ∧ C9 W w.heap.size ⟨z, l, b, e, ⟨n, x0, x1, x2, x3⟩⟩ ∧ Below w.heap.size w W)) ⟨⟨lowU, _, heap_alloc_new _ _⟩, hHeld⟩ (fun _ h => h.2) ?_; clear hHeld; intro W95 hHeld
              refine gk1 1 (fun K hK => ?_)
              have cv := conv_mark (hHeld.1) 3 3
              go_simp
              refine hK.out _ _ (by exact ⟨hHeld.1.frz _ _, hHeld.2.1.frz _ _, hHeld.2.2.1.frz _ _, hHeld.2.2.2.1.frz _ _, below_frz hHeld.2.2.2.2 _ _ (hHeld.1).1⟩) (fun hHeld => ?_)
              clear hK K
              (try simp only [Act.put, sA, sZ, sS])
              refine any_more (S' := (fun W : World => Mk W w.heap.size W94.heap.size ∧ Rd W (some ⟨W84.heap.size, 0, none⟩) 1 1 [(fl l b e)] ∧ Rd W (some ⟨g84, 0, none⟩) 4 4 (putN (U z) 4 l) ∧ C9 W w.heap.size ⟨z, l, b, e, ⟨n, x0, x1, x2, x3⟩⟩ ∧ Below w.heap.size w W)) hHeld (fun _ h => h) ?_; clear hHeld; intro W96 hHeld
              refine gk1 10 (fun K hK => ?_)
              go_simp
              refine hK.out _ _ (by exact ⟨(hHeld.1).keep (ext1 _), (hHeld.2.1).keep (ext1 _), (hHeld.2.2.1).keep (ext1 _), (hHeld.2.2.2.1).keep (ext1 _), gt hHeld.2.2.2.2 (ext1 _)⟩) (fun hHeld => ?_)
              clear hK K
              (try simp only [Act.put, sA, sZ, sS])
              refine any_more (S' := (fun W : World => Bo W W96.heap.size (pcs [⟨some ⟨W94.heap.size, 0, none⟩, 3, 3, markN⟩, ⟨some ⟨W84.heap.size, 0, none⟩, 1, 1, [(fl l b e)]⟩, ⟨some ⟨g84, 0, none⟩, 4, 4, putN (U z) 4 l⟩]) 22 ∧ Mk W w.heap.size W94.heap.size ∧ Rd W (some ⟨W84.heap.size, 0, none⟩) 1 1 [(fl l b e)] ∧ Rd W (some ⟨g84, 0, none⟩) 4 4 (putN (U z) 4 l) ∧ C9 W w.heap.size ⟨z, l, b, e, ⟨n, x0, x1, x2, x3⟩⟩ ∧ Below w.heap.size w W)) ⟨heap_alloc_new _ _, hHeld⟩ (fun _ h => h.2) ?_; clear hHeld; intro W97 hHeld
              refine gk1 11 (fun K hK => ?_)
              go_simp
              go_at_call 35; refine (join_call W96.heap.size [⟨some ⟨W94.heap.size, 0, none⟩, 3, 3, markN⟩, ⟨some ⟨W84.heap.size, 0, none⟩, 1, 1, [(fl l b e)]⟩, ⟨some ⟨g84, 0, none⟩, 4, 4, putN (U z) 4 l⟩] W97 (hHeld.1) (rdL3 (hHeld.2.1).rd (hHeld.2.2.1) (hHeld.2.2.2.1)) (by simp [cat, markN, putN_length]) (by simp)).mono ?_; rintro e v98 ⟨ao98, n98, c98, rfl, o98, h98⟩; have hR : (fun W : World => Bo W W96.heap.size (pcs [⟨some ⟨W94.heap.size, 0, none⟩, 3, 3, markN⟩, ⟨some ⟨W84.heap.size, 0, none⟩, 1, 1, [(fl l b e)]⟩, ⟨some ⟨g84, 0, none⟩, 4, 4, putN (U z) 4 l⟩]) 22 ∧ Mk W w.heap.size W94.heap.size ∧ Rd W (some ⟨W84.heap.size, 0, none⟩) 1 1 [(fl l b e)] ∧ Rd W (some ⟨g84, 0, none⟩) 4 4 (putN (U z) 4 l) ∧ C9 W w.heap.size ⟨z, l, b, e, ⟨n, x0, x1, x2, x3⟩⟩ ∧ Below w.heap.size w W) v98 := ⟨(hHeld.1).keep h98, (hHeld.2.1).keep h98, (hHeld.2.2.1).keep h98, (hHeld.2.2.2.1).keep h98, (hHeld.2.2.2.2.1).keep h98, gt hHeld.2.2.2.2.2 h98⟩; have hO : Ow v98 w.heap.size ao98 n98 c98 (cat [⟨some ⟨W94.heap.size, 0, none⟩, 3, 3, markN⟩, ⟨some ⟨W84.heap.size, 0, none⟩, 1, 1, [(fl l b e)]⟩, ⟨some ⟨g84, 0, none⟩, 4, 4, putN (U z) 4 l⟩]) := own_base o98 (hHeld.2.2.2.2.2).size
              refine hK.out _ _ hR (fun hHeld => ?_)
              clear hK K
              (try simp only [Act.put, sA, sZ, sS])
              refine any_more (S' := (fun W : World => Ow W w.heap.size ao98 n98 c98 (cat [⟨some ⟨W94.heap.size, 0, none⟩, 3, 3, markN⟩, ⟨some ⟨W84.heap.size, 0, none⟩, 1, 1, [(fl l b e)]⟩, ⟨some ⟨g84, 0, none⟩, 4, 4, putN (U z) 4 l⟩]) ∧ Bo W W96.heap.size (pcs [⟨some ⟨W94.heap.size, 0, none⟩, 3, 3, markN⟩, ⟨some ⟨W84.heap.size, 0, none⟩, 1, 1, [(fl l b e)]⟩, ⟨some ⟨g84, 0, none⟩, 4, 4, putN (U z) 4 l⟩]) 22 ∧ Mk W w.heap.size W94.heap.size ∧ Rd W (some ⟨W84.heap.size, 0, none⟩) 1 1 [(fl l b e)] ∧ Rd W (some ⟨g84, 0, none⟩) 4 4 (putN (U z) 4 l) ∧ C9 W w.heap.size ⟨z, l, b, e, ⟨n, x0, x1, x2, x3⟩⟩ ∧ Below w.heap.size w W)) ⟨hO, hHeld⟩ (fun _ h => h.2) ?_; clear hR hHeld; intro W98 hHeld
              refine gkp 12 ?_
              refine wpAnyK_done (by kernel_rfl) ?_ _
              exact KEY _ _ ⟨_, _, _, _, _, _, _, _, _, _, _, _, _, _, _, rfl, hid (by have hO := hHeld.1; unfold Ow at hO; simpa [cat, markN] using hO), hid (hHeld.2.2.2.2.2.1), hid (hHeld.2.2.2.2.2.2)⟩
          exact AllReadyK.nil
      exact AllReadyK.nil
  exact AllReadyK.nil
  rintro a W ⟨ao, n0, c, u6, u7, u8, u9, u10, u11, u12, u13, u14, u15, u16, u17, rfl, hO, hC, hB⟩
  obtain ⟨y0, y1, y2, y3, y4, y5, y6, y7, y8⟩ := hC.out
  clear FC
  cases b
  · go_wp2
    go_ret
    exact ⟨_, _, _, rfl, by simpa [markN] using hO.out, hB.out⟩
  · have hl : n0 = 8 := by have := hO.out.1; simp [bs_length, markN, putN_length] at this; omega
    subst hl
    go_wp2
    clear y0 y1 y2 y3 y4 y5 y6 y7 y8
    go_loopw [3, 39] (fun v i W => ∃ (k : Nat) (ao : Option Addr) (c : Nat), k ≤ 4 ∧ i = .int .i64 (k : Int) ∧ v = .slice ao (8 + 8 * k) c ∧ Hid (W.ownsRow w.heap.size 5 1 (.slice ao (8 + 8 * k) c) (8 + 8 * k) (bs ((markN ++ ([(fl l true e)] ++ putN (U z) 4 l)) ++ ordsK ⟨n, x0, x1, x2, x3⟩ l k))) ∧ Hid (C9 W w.heap.size ⟨z, l, true, e, ⟨n, x0, x1, x2, x3⟩⟩) ∧ Hid (Below w.heap.size w W)) (fun _ i _ => 4 - (intOf i).toNat)
    case atStart => exact ⟨0, ao, c, by omega, rfl, rfl, hid (by rw [show ordsK ⟨n, x0, x1, x2, x3⟩ l 0 = [] from rfl, List.append_nil]; exact hO.out), hC, hB⟩
    case round =>
      obtain ⟨k, ao, c, hk, rfl, rfl, hO, hC, hB⟩ := hrel
      obtain ⟨y0, y1, y2, y3, y4, y5, y6, y7, y8⟩ := hC.out
      have hwr := hB.out.size
      by_cases hk4 : k < 4
      · obtain ⟨q, hq, IX⟩ := ix_ord ⟨n, x0, x1, x2, x3⟩ k hk4
        simp only at IX
        have SN := hid (ordsK_snoc ⟨n, x0, x1, x2, x3⟩ l k q hq)
        have RD := hid (rd_own' hO.out)
        clear hq
        go_wp2_with (first
          | (go_at_call 36; refine (NU.out q 8 (by decide) l _).mono ?_; rintro e v9 ⟨g9, rfl, o9, h9⟩; have O9 := hid o9; have B9' := hid (gt hB.out h9); have C9' := hid (hC.out.keep h9); have R9 := hid (RD.out.keep h9); have G9 := hid (rd_own o9); clear o9 h9)
          | (go_at_call 35; refine (join_call v9.heap.size [⟨ao, 8 + 8 * k, c, (markN ++ ([(fl l true e)] ++ putN (U z) 4 l)) ++ ordsK ⟨n, x0, x1, x2, x3⟩ l k⟩, ⟨some ⟨g9, 0, none⟩, 8, 8, putN (U q) 8 l⟩] _ (heap_alloc_new _ _) (rdL2 (R9.out.keep (ext1 _)) (G9.out.keep (ext1 _))) (by have := RD.out.1; simp only [cat, List.flatMap_cons, List.flatMap_nil, List.append_nil, List.length_append, putN_length] at this ⊢; omega) (by simp)).mono ?_; rintro e v8 ⟨a8, n8, c8, rfl, o8, h8⟩; have L8 := hid (show n8 = 8 + 8 * (k + 1) by have h1 := o8.1; have h2 := RD.out.1; simp only [cat, List.flatMap_cons, List.flatMap_nil, List.append_nil, List.length_append, putN_length, bs_length] at h1 h2; omega); have O8 := hid (own_base o8 (show w.heap.size ≤ _ by have := B9'.out.size; simp only [World.size_alloc]; omega)); have B8 := hid (gt (gt B9'.out (ext1 _)) h8); have C8 := hid ((C9'.out.keep (ext1 _)).keep h8); clear o8 h8))
        go_roundw
        case measure => simp [intOf]; omega
        case rel =>
          obtain ⟨m, hm⟩ : ∃ m, m = n8 := ⟨_, rfl⟩
          have hL := L8.out
          subst hL
          exact ⟨k + 1, a8, c8, by omega, by go_num, rfl, hid (by rw [SN.out, ← List.append_assoc]; simpa [cat] using O8.out), C8, B8⟩
      · obtain rfl : k = 4 := by omega
        go_wp2
        go_ret
        exact ⟨_, _, _, rfl, by simpa [markN] using hO.out, hB.out⟩
end Go.Proofs.YtpmfedimjjifaaaGreatDoor
