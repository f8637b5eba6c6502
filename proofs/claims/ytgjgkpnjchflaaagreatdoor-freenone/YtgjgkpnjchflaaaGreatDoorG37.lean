/- What is written into a page: its numbers; no statement of the seat is proved here. -/
import Derived.Test.YtgjgkpnjchflaaaGreatDoorG36
import Derived.Test.YtgjgkpnjchflaaaGreatDoorG04
import Derived.Test.YtgjgkpnjchflaaaGreatDoorG18
import Derived.Test.YtgjgkpnjchflaaaGreatDoorG17
import Derived.Deep.DeepCutAuto
import Derived.Test.YtgjgkpnjchflaaaGreatDoorG07
namespace Go.Proofs.YtgjgkpnjchflaaaGreatDoor.Jrn
open Go.RowKit

open Cch (Fr wpAnyK wpAnyK_done wp_region_K step_copy_row)

/-- Bytes of a page with others in their place. -/
def putAt (xs : List Nat) (i : Nat) (ys : List Nat) : List Nat := xs.take i ++ ys ++ xs.drop (i + ys.length)
theorem putAt_length (xs : List Nat) (i : Nat) (ys : List Nat) (h : i + ys.length ≤ xs.length) : (putAt xs i ys).length = xs.length := by
  simp [putAt]; omega
theorem putAt_bytes {xs : List Nat} {i : Nat} {ys : List Nat} (hx : ∀ x ∈ xs, x < 256) (hy : ∀ y ∈ ys, y < 256) : ∀ x ∈ putAt xs i ys, x < 256 := by
  intro x h
  simp only [putAt, List.mem_append] at h
  rcases h with (h | h) | h
  · exact hx x (List.mem_of_mem_take h)
  · exact hy x h
  · exact hx x (List.mem_of_mem_drop h)
/-- A page's bytes in memory, in a row of their own. -/
def Row5 (w : World) (B g cap : Nat) (xs : List Nat) : Prop := w.ownsRow B 5 1 (.slice (some ⟨g, 0, none⟩) 512 cap) 512 (bs xs)
theorem Row5.rd {w : World} {B g cap : Nat} {xs : List Nat} (h : Row5 w B g cap xs) : Rd w (some ⟨g, 0, none⟩) 512 cap xs := rd_own h
theorem Row5.len {w : World} {B g cap : Nat} {xs : List Nat} (h : Row5 w B g cap xs) : xs.length = 512 := h.rd.1
theorem Row5.cap {w : World} {B g cap : Nat} {xs : List Nat} (h : Row5 w B g cap xs) : 512 ≤ cap := h.rd.2.1
theorem Row5.parts {w : World} {B g cap : Nat} {xs : List Nat} (h : Row5 w B g cap xs) : B ≤ g ∧ ∃ cur : Array Value, w.heap[g]? = some (.cells cur 5 (0, 0)) ∧ cur.size = cap ∧ cap ≤ 9223372036854775807 ∧ cur.toList.take 512 = bs xs := by
  rcases h.2 with ⟨h', _⟩ | ⟨g', cap', cur, h', hb, hg, hnc, hm, hsz, ht⟩
  · cases h'
  simp only [Value.slice.injEq, Option.some.injEq, Addr.mk.injEq, and_true, true_and] at h'
  obtain ⟨rfl, rfl⟩ := h'
  exact ⟨hb, cur, hg, by simpa using hsz, hm, by simpa using ht⟩
theorem Row5.lt {w : World} {B g cap : Nat} {xs : List Nat} (h : Row5 w B g cap xs) : g < w.heap.size := by
  obtain ⟨_, cur, hg, _⟩ := h.parts
  exact (Array.getElem?_eq_some_iff.1 hg).1
theorem Row5.of {w : World} {B g cap : Nat} {xs : List Nat} {cur : List Value} (hB : B ≤ g) (hg : w.heap[g]? = some (.cells cur.toArray 5 (0, 0))) (hc : cur.length = cap) (hm : cap ≤ 9223372036854775807) (hx : cur.take 512 = bs xs) (hl : xs.length = 512) (h5 : 512 ≤ cap) : Row5 w B g cap xs := own_of_row hB hg hc hm hx hl h5
theorem Row5.fr {E : Nat → Prop} {w w' : World} {B g cap : Nat} {xs : List Nat} (h : Row5 w B g cap xs) (hf : Fr E w w') (hE : ¬ E g) : Row5 w' B g cap xs := by
  obtain ⟨hB, cur, hg, hs, hm, ht⟩ := h.parts
  refine Row5.of (cur := cur.toList) hB ?_ (by simpa using hs) hm ht h.len h.cap
  rw [hf.blk g h.lt hE, hg]
theorem Row5.base {w : World} {B B' g cap : Nat} {xs : List Nat} (h : Row5 w B g cap xs) (hB : B' ≤ B) : Row5 w B' g cap xs := own_base h hB

theorem splice_take {cur : List Value} {xs ys : List Nat} {i : Nat} (h : cur.take 512 = bs xs) (hl : xs.length = 512) (hi : i + ys.length ≤ 512) (_hc : 512 ≤ cur.length) : (cur.take i ++ (bs ys ++ cur.drop (i + (bs ys).length))).take 512 = bs (putAt xs i ys) := by
  have e : cur = bs xs ++ cur.drop 512 := by rw [← h, List.take_append_drop]
  have hbl : (bs ys).length = ys.length := bs_length ys
  have hbx : (bs xs).length = 512 := by rw [bs_length, hl]
  rw [hbl, putAt, bs_append, bs_append]
  have e1 : cur.take i = bs (xs.take i) := by
    rw [e, List.take_append_of_le_length (by omega)]; simp [bs]
  have e2 : cur.drop (i + ys.length) = bs (xs.drop (i + ys.length)) ++ cur.drop 512 := by
    conv => lhs; rw [e]
    rw [List.drop_append_of_le_length (by omega)]; simp [bs]
  rw [e1, e2, ← List.append_assoc, ← List.append_assoc]
  refine List.take_left' ?_
  simp [bs_length, hl]; omega

set_option maxHeartbeats 4000000 in
set_option maxRecDepth 20000 in
theorem write_any (num : Int) (B g cap : Nat) (xs : List Nat) (i s v : Nat) (n : Int) (w : World) (h : Row5 w B g cap xs) (h1 : 1 ≤ s) (h8 : s ≤ 8) (hs : i + s ≤ 512) (hn : IntKind.u64.wrap n = (v : Int)) :
    Calls Tryz.prog 87 #[Pv2 num g 0 cap, .int .i64 (i : Int), .int .i64 (s : Int), .int .i64 n] w fun e w' => e = .returned (.tuple #[]) ∧ Row5 w' B g cap (putAt xs i (putN v s false)) ∧ Fr (fun k => k = g) w w' := by
  have hcp := h.cap
  have hgl := h.lt
  have k0 : (i : Int) ≤ 512 := by omega
  have hne : ¬ cap = i := by omega
  have H := hid h; have HG := hid hgl
  have hw0 : ∃ w0, w0 = w.alloc (.cells #[.int .i64 num, .slice (some ⟨g, 0, none⟩) 512 cap] 81) := ⟨_, rfl⟩
  obtain ⟨w0, hw0⟩ := hw0
  have c1 : w0.cell? ⟨w.heap.size, 1, none⟩ = some (.slice (some ⟨g, 0, none⟩) 512 cap) := by rw [hw0, World.cell?_alloc_new]; rfl
  have B0 := hid (show Below w.heap.size w w0 by rw [hw0]; exact Below.alloc (Below.refl _ _) (Nat.le_refl _) _)
  have HL := hid (show w.heap.size < w0.heap.size by rw [hw0]; simp)
  have C1 := hid c1
  clear h hgl
  unfold Pv2
  go_enter Tryz.func87, Tryz.ntmps87
  go_upto_region 1 with fail
  rw [← hw0]
  clear hw0
  refine wp_region_K (S := fun W => W.cell? ⟨w.heap.size, 1, none⟩ = some (.slice (some ⟨g, 0, none⟩) 512 cap)) (fun _ => false) (by kernel_rfl) C1.out (fun hHeld => ?_)
  refine gkp 0 ?_
  refine gkt 1 ?_
  refine gkp 2 ?_
  refine gkp 3 ?_
  refine gkp 4 ?_
  refine gkp 5 ?_
  refine gkp 6 ?_
  refine gk1 7 (fun K hK => ?_)
  go_simp
  go_at_call 114; refine (put_any none 0 0 [] v (s : Int) s false w0.drew (Rd.nil _) (by omega) h8 (by omega)).mono ?_; rintro e w4 ⟨rfl, ho4, hb4⟩; have O4 := hid ho4; have B4 := hid (show Below w0.heap.size w0 w4 from undrew hb4); have hR : w4.cell? ⟨w.heap.size, 1, none⟩ = some (.slice (some ⟨g, 0, none⟩) 512 cap) := keep_old B4.out C1.out; clear ho4 hb4
  refine hK.out _ _ hR (fun hHeld => ?_)
  clear hK K
  (try simp only [Act.put, sA, sZ, sS])
  refine gk1 8 (fun K hK => ?_)
  have R4 := H.out.fr (E := fun _ => False) (w' := w4) (Fr.of_below (gt B0.out B4.out)) (fun h => h)
  obtain ⟨hB, cur, hcur, hcs, hcm, hct⟩ := R4.parts
  have hpl : (putN v s false).length = s := putN_length v s false
  have hrd := rd_own O4.out
  rw [List.nil_append, Nat.zero_add] at hrd
  have hbl : (bs (putN v s false)).length = s := by rw [bs_length, hpl]
  have hcl : cur.toList.length = cap := by simpa using hcs
  refine step_copy_row rfl (.tmp 11) (.tmp 15) 79 79 rfl 5 Tryz.underlying79 (by kernel_rfl) g i (512 - i) (cap - i) ⟨w0.drew.heap.size, 0, none⟩ (0 + s) (0 + s) rfl rfl cur 5 hcur (bs (putN v s false)) (by rw [hbl]; show s = min (0 + s) (512 - i); omega) ?_ (by rw [hbl, hcs]; omega) (bs_one _) ?_
  · intro j u hu
    obtain ⟨hj, rfl⟩ := bs_get' _ j u hu
    obtain ⟨b, o2, e, hc⟩ := hrd.2.2.2 (by omega)
    rw [Addr.add_lit]
    simp only [Option.some.injEq, Addr.mk.injEq, and_true] at e
    obtain ⟨rfl, rfl⟩ := e
    exact hc j (by omega)
  obtain ⟨w5, hw5⟩ : ∃ w5, w5 = w4.setRow g (cur.toList.take i ++ (bs (putN v s false) ++ cur.toList.drop (i + (bs (putN v s false)).length))).toArray := ⟨_, rfl⟩
  have F5 : Fr (fun k => k = g) w4 w5 := by rw [hw5]; exact ⟨rfl, rfl, rfl, by simp, fun k _ hk => setRow_other _ _ _ _ hk⟩
  have R5 : Row5 w5 B g cap (putAt xs i (putN v s false)) := by
    refine Row5.of (cur := cur.toList.take i ++ (bs (putN v s false) ++ cur.toList.drop (i + (bs (putN v s false)).length))) hB ?_ ?_ hcm ?_ ?_ hcp
    · rw [hw5]; exact setRow_heap _ _ _ _ _ _ hcur
    · rw [List.length_append, List.length_append, List.length_take, List.length_drop, hbl, hcl]; omega
    · exact splice_take hct R4.len (by rw [hpl]; exact hs) (by omega)
    · rw [putAt_length _ _ _ (by rw [hpl, R4.len]; exact hs), R4.len]
  have hR : w5.cell? ⟨w.heap.size, 1, none⟩ = some (.slice (some ⟨g, 0, none⟩) 512 cap) := (World.cell?_of_block (F5.blk w.heap.size (Nat.lt_of_lt_of_le HL.out B4.out.size) (fun e => by have := HG.out; omega))).trans hR
  rw [← hw5]
  have HF := hid ((Fr.of_below (S := fun k => k = g) (gt B0.out B4.out)).trans F5 (fun _ _ h => h)); have HR5 := hid R5
  clear hw5 F5 R5 R4 hcur hct hcs hcm hcl hbl hrd hpl
  refine hK.out _ _ hR (fun hHeld => ?_)
  clear hK K
  (try simp only [Act.put, sA, sZ, sS])
  refine wpAnyK_done (by kernel_rfl) ?_ _
  clear hHeld hR
  go_wp2
  go_end0
  exact ⟨rfl, HR5.out, HF.out⟩
end Go.Proofs.YtgjgkpnjchflaaaGreatDoor.Jrn

/- Pages that are made, and what is written into them; no statement of the seat is proved here. -/
namespace Go.Proofs.YtgjgkpnjchflaaaGreatDoor.Jrn
open Go.RowKit
open Cch (Fr)

theorem results_cell1 {fn : Func} {p : Tmp} {ty : TypeId} (h : fn.results = #[.cell p ty]) (tmps : Array Value) (P : Program) (w : World) :
    (results fn tmps).run P w = ((asAddr (tmps.getD p undef)).run P w).andThen fun a w₁ => (loadVar ty a).run P w₁ := by
  simp only [results, h]
  simp [Sem.run_bind, Result.andThen]
theorem ret_pg {fn : Func} {a : Tmp} {t : TypeId} (h : fn.results = #[.cell a t]) (ha : ∀ W, (isAgg t).run Tryz.prog W = .ok true W) (hs : ∀ W, (Go.sizeOf t).run Tryz.prog W = .ok 2 W) {tmps : Array Value} {W : World} {q : Nat} {p : Int} {ao : Option Addr} {n cap : Nat}
    (hp : tmps.getD a undef = .pointer (some ⟨q, 0, none⟩)) (hb : RB t W q p ao n cap) : (results fn tmps).run Tryz.prog W = .ok (.agg #[.int .i64 p, .slice ao n cap]) W := by
  rw [results_cell1 h, hp]
  simp [asAddr, load_rec ha hs hb]

def nul : List Nat := List.replicate 512 0
theorem make512 (w : World) : (Instr.makeSlice 79 (.int .i64 512) (.int .i64 512)).run Tryz.prog w = .ok (.slice (some ⟨w.heap.size, 0, none⟩) 512 512) (w.alloc (.cells (Array.replicate 512 (.int .u8 0)) 5)) := make_lit 512 512 rfl (by omega) w

set_option maxHeartbeats 1000000 in
theorem blank_any (n : Int) (w : World) : Calls Tryz.prog 72 #[.int .i64 n] w fun e w' => ∃ g, e = .returned (Pv2 n g 0 512) ∧ w.heap.size ≤ g ∧ Row5 w' w.heap.size g 512 nul ∧ Below w.heap.size w w' := by
  obtain ⟨NN, hNN⟩ : ∃ NN, NN = Array.replicate 512 (Value.int .u8 0) := ⟨_, rfl⟩
  have mk : ∀ W, (Instr.makeSlice 79 (.int .i64 512) (.int .i64 512)).run Tryz.prog W = .ok (.slice (some ⟨W.heap.size, 0, none⟩) 512 512) (W.alloc (.cells NN 5)) := fun W => by rw [hNN]; exact make512 W
  have HN := hid hNN
  clear hNN
  unfold Pv2
  go_enter Tryz.func72, Tryz.ntmps72
  go_wp2
  refine bodyPost_ret (ret_pg rfl Tryz.isAgg81 Tryz.sizeOf81 rfl (((RB.new 81 w n (some ⟨w.heap.size + 1, 0, none⟩) 512 512)).keep (Below.alloc (Below.refl _ _) (Nat.le_refl _) _))) rfl ?_
  refine ⟨w.heap.size + 1, rfl, by omega, ?_, Below.alloc (Below.alloc (Below.refl _ _) (Nat.le_refl _) _) (by simp) _⟩
  have := own_zeros (w.alloc (.cells #[.int .i64 n, .slice (some ⟨w.heap.size + 1, 0, none⟩) 512 512] 81)) 512 (by omega)
  rw [← HN.out] at this
  have e : (w.alloc (.cells #[.int .i64 n, .slice (some ⟨w.heap.size + 1, 0, none⟩) 512 512] 81)).heap.size = w.heap.size + 1 := by simp
  rw [e] at this
  exact own_base this (by omega)

theorem fr_row {S : Nat → Prop} {w w1 w2 : World} (h : Below w.heap.size w w1) (k : Fr S w1 w2) : Fr S w w2 := (Fr.of_below h).trans k (fun _ _ h => h)

set_option maxHeartbeats 1000000 in
theorem lead_any (num : Int) (B g cap : Nat) (xs : List Nat) (f c : Nat) (w : World) (h : Row5 w B g cap xs) (hf : f < 18446744073709551616) (hc : c < 18446744073709551616) (hfi : f ≤ 9223372036854775807) (hci : c ≤ 9223372036854775807) :
    Calls Tryz.prog 71 #[Pv2 num g 0 cap, .int .i64 (f : Int), .int .i64 (c : Int)] w fun e w' => e = .returned (.tuple #[]) ∧ Row5 w' B g cap (putAt (putAt xs 8 (putN f 4 false)) 12 (putN c 4 false)) ∧ Fr (fun k => k = g) w w' := by
  have HB := hid (show Below w.heap.size w (w.alloc (.cells #[.int .i64 num, .slice (some ⟨g, 0, none⟩) 512 cap] 83)) from Below.alloc (Below.refl _ _) (Nat.le_refl _) _)
  have H0 := hid (h.fr (E := fun _ => False) (Fr.of_below HB.out) (fun h => h))
  have HX := hid (RB.new 83 w num (some ⟨g, 0, none⟩) 512 cap)
  have C1 := hid (write_any num B g cap xs 8 4 f (f : Int) _ H0.out (by omega) (by omega) (by omega) (by rw [IntKind.wrap_u64]; omega))
  have hgl := h.lt
  have C2 := hid (fun w1 (h1 : Row5 w1 B g cap (putAt xs 8 (putN f 4 false))) => write_any num B g cap _ 12 4 c (c : Int) w1 h1 (by omega) (by omega) (by omega) (by rw [IntKind.wrap_u64]; omega))
  have HG := hid hgl
  clear h hgl hf hc hfi hci
  unfold Pv2 at *
  have t0 : Hid True := hid trivial
  go_enter Tryz.func71, Tryz.ntmps71
  go_wp2_with (first
    | (go_at_call 87; clear t0; refine C1.out.mono ?_; rintro e w1 ⟨rfl, hr1, hf1⟩; have R1 := hid hr1; have F1 := hid hf1; obtain ⟨b0, b1⟩ := ((show RB 83 w1 w.heap.size num (some ⟨g, 0, none⟩) 512 cap from (hf1.blk w.heap.size (by simp) (fun e => by have := HG.out; omega)).trans HX.out)).cells; clear hr1 hf1)
    | (go_at_call 87; refine (C2.out w1 R1.out).mono ?_; rintro e w2 ⟨rfl, hr2, hf2⟩; have R2 := hid hr2; have F2 := hid hf2; clear hr2 hf2))
  go_end0
  exact ⟨rfl, R2.out, fr_row HB.out (F1.out.trans F2.out (fun _ _ h => h))⟩
end Go.Proofs.YtgjgkpnjchflaaaGreatDoor.Jrn
