/- Take and Give, of a heap with no free page or with one; no statement of the seat is proved here. -/
import Derived.Test.YtgjgkpnjchflaaaGreatDoorG43
import Derived.Test.YtgjgkpnjchflaaaGreatDoorG29
import Derived.OwnWalk
namespace Go.Proofs.YtgjgkpnjchflaaaGreatDoor
open Go.RowKit Go.Maps
open Dsk (gt hid undrew keep_old keep_cell lt_cell Rd)
open Cch (Fr wpAnyK wpAnyK_done wp_region_K)
open Jrn (Pv2 Row5 numAt RB fr_two trunkN rootN putN nul)

section
variable {arm : Prop} {room croom K : Nat} {p q : Nat} {R : Nat → Prop} {t : RS} {w : World}

theorem AO.at_ {B : Nat} {W0 W : World} {v : Value} {l : List Nat} {Q : Nat → Prop} (h : AO arm room croom K p q Q t B W0 v l W) : PrgAt arm room croom K W p q Q t := h.p.less (fun _ hb => Or.inl hb)

set_option maxHeartbeats 8000000 in
set_option maxRecDepth 20000 in
theorem Take_grow (hb : Nat) (ws : List Nat) (h : PrgAt arm room croom K w p q R t) (hh : HeapAt w hb p) (hR : R hb) (hx : t.now.getD 0 [] = rootN 0 0 ws) (hbz : t.busy = true) (hn : 0 < t.now.length) (hn4 : t.now.length ≤ 4000) (hT : TB (K + 1) t) (hK : K + 2 ≤ 100) :
    Calls Tryz.prog 15 #[.pointer (some ⟨hb, 0, none⟩)] w fun e w' => e = .returned (.tuple #[.int .i64 ((t.now.length + 1 : Nat) : Int), .int .i64 0]) ∧ PrgAt arm room croom (K + 2) w' p q R t.grow ∧ Rok R w w' := by
  have hpb : t.pages = t.now := RS.pages_busy hbz
  have CG := hid (changing_yes hb h hh hbz (by rw [hpb]; exact hn) (by omega))
  rw [hpb, hx] at CG
  have CLi := hid (fun W g cap RR B0 (hP : PrgAt arm room croom (K + 1) W p q RR t) (hH : HeapAt W hb p) (h1 : RR hb) (h2 : Row5 W B0 g cap (rootN 0 0 ws)) => list_any (R := RR) hb g cap 0 0 B0 ws [] hP hH h1 h2 (by omega) (by omega) rfl rfl (by rw [hpb]; exact hn) (by rw [hpb]; exact hn4) (by omega) (by simp; omega))
  have CW := hid (fun W RR (hP : PrgAt arm room croom (K + 1) W p q RR t) => prg_grow_yes (R := RR) hP hbz hT (by omega))
  have HH := hid hh; have HR := hid hR; have H := hid h
  clear h hh hR hx hT hpb
  unfold Pv2 at *
  go_enter Tryz.func15, Tryz.ntmps15
  go_wp2_with (first
    | (go_at_call 34; refine CG.out.mono ?_; rintro e w1 ⟨g, cap, rfl, hr1, hg1, hP1, hok1⟩; have B1 := hid (show Below w1.heap.size w1 (w1.alloc (.cells #[.int .i64 1, .slice (some ⟨g, 0, none⟩) 512 cap] 83)) from Below.alloc (Below.refl _ _) (Nat.le_refl _) _); have R1 := hid (hr1.keep B1.out); have P1 := hid (hP1.new B1.out (Nat.le_refl _) (by simp)); have K1 := hid hok1; have H1 := hid ((HH.out.rok hok1 HR.out).keep B1.out); clear hr1 hg1 hP1 hok1)
    | (go_at_call 32; refine (CLi.out _ g cap _ _ P1.out H1.out (Or.inl (Or.inl HR.out)) R1.out).mono ?_; rintro e w2 ⟨ao, cp, rfl, hA⟩; have A2 := hid hA; have H2 := hid (H1.out.rok hA.k (Or.inl (Or.inl HR.out))); have c2 := H2.out.cell; clear hA)
    | (go_at_call 35; refine (CW.out w2 _ A2.out.at_).mono ?_; rintro e w3 ⟨rfl, hP3, hok3⟩; have P3 := hid hP3; have K3 := hid hok3; clear hP3 hok3))
  go_ret2
  refine ⟨rfl, P3.out.less (fun b hb => Or.inl (Or.inl hb)), ?_⟩
  exact ((K1.out.below B1.out).then A2.out.k (fun b hb => Or.inl (Or.inl hb))).then K3.out (fun b hb => Or.inl (Or.inl hb))

set_option maxHeartbeats 8000000 in
set_option maxRecDepth 20000 in
theorem Take_one (hb j : Nat) (ws : List Nat) (h : PrgAt arm room croom K w p q R t) (hh : HeapAt w hb p) (hR : R hb) (hRl : ∀ b, R b → b < w.heap.size) (hx : t.now.getD 0 [] = rootN (j + 1) 1 ws) (hy : t.now.getD j [] = trunkN 0 []) (hbz : t.busy = true) (hj1 : 1 ≤ j) (hn : j < t.now.length) (hn4 : t.now.length ≤ 4000) (hK : K + 6 ≤ 100) :
    Calls Tryz.prog 15 #[.pointer (some ⟨hb, 0, none⟩)] w fun e w' => e = .returned (.tuple #[.int .i64 ((j + 1 : Nat) : Int), .int .i64 0]) ∧ PrgAt arm room croom (K + 6) w' p q R (((t.put j (trunkN 0 [])).put 0 (rootN 0 0 ws)).put j nul) ∧ Rok R w w' := by
  have hpb : t.pages = t.now := RS.pages_busy hbz
  have CG := hid (changing_yes hb h hh hbz (by rw [hpb]; omega) (by omega))
  rw [hpb, hx] at CG
  have CLi := hid (fun W g cap RR B0 (hP : PrgAt arm room croom (K + 1) W p q RR t) (hH : HeapAt W hb p) (h1 : RR hb) (h2 : Row5 W B0 g cap (rootN (j + 1) 1 ws)) => list_any (R := RR) hb g cap (j + 1) 1 B0 ws [(j + 1, [])] hP hH h1 h2 (by omega) (by omega) ⟨rfl, by show 2 ≤ j + 1; omega, by rw [hpb]; show j + 1 ≤ _; omega, by show 0 ≤ 126; omega, (fun y hy => by cases hy), 0, by omega, by rw [hpb]; exact hy, rfl⟩ rfl (by rw [hpb]; simp; omega) (by rw [hpb]; exact hn4) (by omega) (by simp; omega))
  have CTk := hid (fun W g cap (hP : PrgAt arm room croom (K + 1 + 1) W p q (Plus R g) t) (hH : HeapAt W hb p) (h2 : ¬ R g) (h3 : Row5 W 0 g cap (rootN (j + 1) 1 ws)) => take_bare (R := R) hb g cap 0 j 0 ws hP hH hR h2 h3 (by omega) hbz hj1 hn (by omega) hy (by omega) (by omega))
  have HH := hid hh; have HR := hid hR; have H := hid h; have HRL := hid hRl
  clear h hh hR hx hy hpb hRl
  generalize ((j + 1 : Nat) : Int) = z at *
  unfold Pv2 at *
  go_enter Tryz.func15, Tryz.ntmps15
  go_wp2_with (first
    | (go_at_call 34; refine CG.out.mono ?_; rintro e w1 ⟨g, cap, rfl, hr1, hg1, hP1, hok1⟩; have B1 := hid (show Below w1.heap.size w1 (w1.alloc (.cells #[.int .i64 1, .slice (some ⟨g, 0, none⟩) 512 cap] 83)) from Below.alloc (Below.refl _ _) (Nat.le_refl _) _); have R1 := hid (hr1.keep B1.out); have X1 := hid (RB.new 83 w1 1 (some ⟨g, 0, none⟩) 512 cap); have P1 := hid (hP1.new B1.out (Nat.le_refl _) (by simp)); have K1 := hid hok1; have H1 := hid ((HH.out.rok hok1 HR.out).keep B1.out); have G1 := hid hg1; clear hr1 hg1 hP1 hok1)
    | (go_at_call 32; refine (CLi.out _ g cap _ _ P1.out H1.out (Or.inl (Or.inl HR.out)) R1.out).mono ?_; rintro e w2 ⟨ao, cp, rfl, hA⟩; have A2 := hid hA; have H2 := hid (H1.out.rok hA.k (Or.inl (Or.inl HR.out))); obtain ⟨x0, x1, _, _⟩ := (show RB 83 w2 w1.heap.size 1 (some ⟨g, 0, none⟩) 512 cap from (hA.k.at_ (Or.inr rfl) X1.out.lt).trans X1.out).cells; have R2 := hid (R1.out.fr hA.k (fun e => e.1 (Or.inl (Or.inr rfl)))); clear hA)
    | (go_at_call 36; refine (CTk.out w2 g cap (A2.out.at_.less (fun b hb => Or.inl hb)) H2.out (fun hg => by have h1 := HRL.out g hg; have h2 := G1.out; omega) (R2.out.base (Nat.zero_le _))).mono ?_; rintro e w3 ⟨rfl, hP3, hok3⟩; have P3 := hid hP3; have K3 := hid hok3; clear hP3 hok3))
  go_ret2
  refine ⟨rfl, P3.out, ?_⟩
  exact ((K1.out.below B1.out).then A2.out.k (fun b hb => Or.inl (Or.inl hb))).then K3.out (fun b hb => hb)

set_option maxHeartbeats 8000000 in
set_option maxRecDepth 20000 in
theorem Give_first (hb n : Nat) (ws : List Nat) (h : PrgAt arm room croom K w p q R t) (hh : HeapAt w hb p) (hR : R hb) (hRl : ∀ b, R b → b < w.heap.size) (hx : t.now.getD 0 [] = rootN 0 0 ws) (hw : ws.length = 60) (hbz : t.busy = true) (hn1 : 2 ≤ n) (hn : n ≤ t.now.length) (hn4 : t.now.length ≤ 4000) (hK : K + 3 ≤ 100) :
    Calls Tryz.prog 16 #[.pointer (some ⟨hb, 0, none⟩), .int .i64 (n : Int)] w fun e w' => e = .returned (.int .i64 0) ∧ PrgAt arm room croom (K + 3) w' p q R ((t.put (n - 1) (trunkN 0 [])).put 0 (rootN n 1 ws)) ∧ Rok R w w' := by
  have hpb : t.pages = t.now := RS.pages_busy hbz
  have CG := hid (changing_yes hb h hh hbz (by rw [hpb]; omega) (by omega))
  rw [hpb, hx] at CG
  have CLi := hid (fun W g cap RR B0 (hP : PrgAt arm room croom (K + 1) W p q RR t) (hH : HeapAt W hb p) (h1 : RR hb) (h2 : Row5 W B0 g cap (rootN 0 0 ws)) => list_any (R := RR) hb g cap 0 0 B0 ws [] hP hH h1 h2 (by omega) (by omega) rfl rfl (by rw [hpb]; show 0 < _; omega) (by rw [hpb]; exact hn4) (by omega) (by simp; omega))
  have CHs := hid (fun W RR (hP : PrgAt arm room croom (K + 1) W p q RR t) (hH : HeapAt W hb p) => has_any8 (R := RR) hb (n : Int) hP hH)
  rw [hpb, show (decide (1 < (n : Int)) && decide ((n : Int) ≤ (t.now.length : Int))) = true by rw [decide_eq_true (by omega), decide_eq_true (by omega)]; rfl] at CHs
  have CGv := hid (fun W g cap (hP : PrgAt arm room croom (K + 1) W p q (Plus R g) t) (hH : HeapAt W hb p) (h2 : ¬ R g) (h3 : Row5 W 0 g cap (rootN 0 0 ws)) => give_new (R := R) hb g cap 0 n ws hP hH hR h2 h3 hw (by omega) hbz hn1 hn (by omega) (by omega))
  have HH := hid hh; have HR := hid hR; have H := hid h; have HRL := hid hRl
  clear h hh hR hx hpb hRl hw
  unfold Pv2 at *
  go_enter Tryz.func16, Tryz.ntmps16
  go_wp2_with (first
    | (go_at_call 34; refine CG.out.mono ?_; rintro e w1 ⟨g, cap, rfl, hr1, hg1, hP1, hok1⟩; have B1 := hid (show Below w1.heap.size w1 (w1.alloc (.cells #[.int .i64 1, .slice (some ⟨g, 0, none⟩) 512 cap] 83)) from Below.alloc (Below.refl _ _) (Nat.le_refl _) _); have R1 := hid (hr1.keep B1.out); have X1 := hid (RB.new 83 w1 1 (some ⟨g, 0, none⟩) 512 cap); have P1 := hid (hP1.new B1.out (Nat.le_refl _) (by simp)); have K1 := hid hok1; have H1 := hid ((HH.out.rok hok1 HR.out).keep B1.out); have G1 := hid hg1; clear hr1 hg1 hP1 hok1)
    | (go_at_call 32; refine (CLi.out _ g cap _ _ P1.out H1.out (Or.inl (Or.inl HR.out)) R1.out).mono ?_; rintro e w2 ⟨ao, cp, rfl, hA⟩; have A2 := hid hA; have H2 := hid (H1.out.rok hA.k (Or.inl (Or.inl HR.out))); have X2 := hid (show RB 83 w2 w1.heap.size 1 (some ⟨g, 0, none⟩) 512 cap from (hA.k.at_ (Or.inr rfl) X1.out.lt).trans X1.out); have R2 := hid (R1.out.fr hA.k (fun e => e.1 (Or.inl (Or.inr rfl)))); clear hA)
    | (go_at_call 37; refine (CHs.out w2 _ A2.out.at_ H2.out).mono ?_; rintro e w3 ⟨rfl, hb3⟩; have B3 := hid hb3; obtain ⟨x0, x1, _, _⟩ := (X2.out.keep hb3).cells; clear hb3)
    | (go_at_call 38; refine (CGv.out w3 g cap ((A2.out.at_.less (fun b hb => Or.inl hb)).keep B3.out) (H2.out.keep B3.out) (fun hg => by have h1 := HRL.out g hg; have h2 := G1.out; omega) ((R2.out.base (Nat.zero_le _)).keep B3.out)).mono ?_; rintro e w4 ⟨rfl, hP3, hok3⟩; have P3 := hid hP3; have K3 := hid hok3; clear hP3 hok3))
  go_ret
  refine ⟨rfl, P3.out, ?_⟩
  exact (((K1.out.below B1.out).then A2.out.k (fun b hb => Or.inl (Or.inl hb))).below B3.out).then K3.out (fun b hb => hb)
end
end Go.Proofs.YtgjgkpnjchflaaaGreatDoor

/- A new heap: Make, on a pager that was opened anew; no statement of the seat is proved here. -/
namespace Go.Proofs.YtgjgkpnjchflaaaGreatDoor
open Go.RowKit Go.Maps
open Dsk (gt hid undrew keep_old keep_cell lt_cell Rd DS FS Sec DiskP newD)
open Cch (CS CP Fr)
open Jrn (Pv2 Row5 numAt RB fr_two trunkN rootN putN nul)

def rt0 : RS := ⟨[], [], [], false, [], 0, 0⟩
def Old (w : World) : Nat → Prop := fun b => b < w.heap.size ∧ b ≠ 0
theorem old_below {w w' : World} (h : Rok (Old w) w w') : Below w.heap.size w w' := ⟨h.os, h.tape, h.output, h.size, fun k hk => h.blk k hk (fun e => e.1 ⟨hk, e.2⟩)⟩

theorem clean_new (r : Nat) : Clean (newD r) [] := ⟨rfl, rfl, rfl⟩
theorem whole_nil : Whole [] := fun i hi => by cases hi
/-- A pager that was opened on a disk whose pages are these. -/
theorem opened {arm : Prop} {room croom K : Nat} {w w' : World} {p q : Nat} {P : Dsk.Parts} {d : DS} {l : List Pg} {x : PC} {R : Nat → Prop} (ho : OpenTo w w' q P d croom l p x) (hs : Sured d l) (he : Env arm room d) (hop : d.ops ≤ K * 1000) (hR : ∀ b, R b → b < w.heap.size ∧ ¬ DN q P b ∧ b ≠ 0) : PrgAt arm room croom K w' p q R ⟨l, [], [], false, [], 0, 0⟩ := by
  obtain ⟨P', C, s, hr, e1, e2, e3, hN⟩ := ho.is
  obtain ⟨m1, m2, m3, m4⟩ := ho.mks
  have hL := hr.live ⟨m1, m2, m3⟩
  refine ⟨x, P', C, d, s, 0, _, [], hL, ho.xq, ho.busy, ho.com, (fun e => by cases e), (fun _ => ⟨rfl, m4⟩), fun b hb hRb => ?_, hs, he, hop, by rw [e1, e2]; exact Nat.zero_le _, e3, Nat.zero_le _, (fun k hk => by cases hk), fun b hb => Nat.lt_of_lt_of_le (hR b hb).1 ho.fr.size⟩
  have h1 := hR b hRb
  rcases hb with hb | hb | hb | hb | ⟨o, l, cc, hb⟩ | ⟨k, hk, _⟩
  · rcases hN b hb with h2 | h2
    · exact h1.2.1 h2
    · omega
  · have := ho.mnew; omega
  · exact h1.2.2 hb
  · unfold PC.mv at hb; rw [m1] at hb; cases hb
  · exact enc_nil _ _ o l cc hb
  · cases hk

/-- A pager on a new disk. -/
theorem prg_new {w w1 w2 : World} {p room croom : Nat} {P : Dsk.Parts} {x : PC} (B1 : Below w.heap.size w w1) (hP : ∀ k, P.all k → w.heap.size < k) (ho : OpenTo w1 w2 w.heap.size P (newD room) croom [] p x) : PrgAt False room croom 0 w2 p w.heap.size (Old w) rt0 ∧ Rok (Old w) w w2 := by
  have hdn : ∀ b, b < w.heap.size → ¬ DN w.heap.size P b := fun b hb hd => by
    rcases hd with h1 | h1
    · omega
    · have := hP b h1; omega
  have hs1 := B1.size
  refine ⟨opened ho ⟨rfl, rfl⟩ ⟨rfl, fun _ => rfl, rfl, by show 0 ≤ _; omega⟩ (Nat.zero_le _) (fun b hb => ⟨by have := hb.1; omega, hdn b hb.1, hb.2⟩), ?_⟩
  refine (Fr.of_below B1).trans ho.fr (fun b hb hd => (hdn b hb hd).elim)

section
variable {arm : Prop} {room croom K : Nat} {p q : Nat} {R : Nat → Prop} {t : RS} {w : World}

theorem field83 (n : Int) (g : Nat) (W : World) : (Instr.field 83 (.agg #[.int .i64 n, .slice (some ⟨g, 0, none⟩) 512 512]) 0).run Tryz.prog W = .ok (.agg #[.int .i64 n, .slice (some ⟨g, 0, none⟩) 512 512]) W := by kernel_rfl
def z60 : List Nat := List.replicate 60 0
theorem make_pgs {W : World} {ab g B : Nat} (y : W.heap[ab]? = some (.cells #[.int .i64 1, .slice (some ⟨g, 0, none⟩) 512 512] 81 (0, 0))) (r : Row5 W B g 512 (rootN 0 0 z60)) : Pgs W ab [⟨1, g, 512, rootN 0 0 z60⟩] := fun i x hx => by
  match i, hx with
  | 0, hx => simp at hx; subst hx; exact ⟨by simp [World.cell?, y], by simp [World.cell?, y], r.rd⟩
  | i + 1, hx => simp at hx

set_option maxHeartbeats 8000000 in
set_option maxRecDepth 20000 in
theorem Make_yes (h : PrgAt arm room croom K w p q R t) (hbz : t.busy = true) (hn : t.now = []) (hT : TB K t) (hK : K + 2 ≤ 100) :
    Calls Tryz.prog 20 #[.pointer (some ⟨p, 0, none⟩)] w fun e w' => ∃ hb, e = .returned (.tuple #[.pointer (some ⟨hb, 0, none⟩), .int .i64 0]) ∧ HeapAt w' hb p ∧ w.heap.size ≤ hb ∧ PrgAt arm room croom (K + 2) w' p q (Plus R hb) (t.grow.put 0 (rootN 0 0 z60)) ∧ Rok R w w' := by
  have hpb : t.pages = t.now := RS.pages_busy hbz
  have CW := hid (within_yes h hbz)
  have CPg := hid (fun W (hW : Below w.heap.size w W) => prg_pages (h.keep hW))
  rw [hpb, hn] at CPg
  have CGr := hid (fun W (hW : Below w.heap.size w W) => prg_grow_yes (h.keep hW) hbz hT (by omega))
  rw [hn] at CGr
  have CNr := hid (fun W => Jrn.newRoot_any W)
  have HN := hid (show t.grow.now.length = 1 by show (t.now ++ [zeros]).length = 1; rw [hn]; rfl)
  have HBZ := hid (show t.grow.busy = true from hbz)
  have H := hid h
  have fl := fun g W => field83 1 g W
  clear h hbz hn hT hpb
  unfold Pv2 at *
  go_enter Tryz.func20, Tryz.ntmps20
  go_wp2_with (first
    | (go_at_call 45; refine CW.out.mono ?_; rintro e w1 ⟨rfl, hb1⟩; have B1 := hid hb1; clear hb1)
    | (go_at_call 10; refine (CPg.out w1 B1.out).mono ?_; rintro e w2 ⟨rfl, hb2⟩; have B2 := hid (gt B1.out hb2); clear hb2)
    | (go_at_call 35; refine (CGr.out w2 B2.out).mono ?_; rintro e w3 ⟨rfl, hP3, hok3⟩; have P3 := hid hP3; have K3 := hid (Rok.after (R := R) B2.out hok3 (fun _ h => h)); clear hP3 hok3)
    | (go_at_call 47; refine (CNr.out _).mono ?_; rintro e w5 ⟨g, rfl, hg5, hr5, hb5⟩; have R5 := hid hr5; have G5 := hid hg5; have B4 := hid (gt (show Below w3.heap.size w3 (w3.alloc (.cells #[.pointer (some ⟨p, 0, none⟩)] 63)) from Below.alloc (Below.refl _ _) (Nat.le_refl _) _) hb5); have H5 := hid (HeapAt.keep (show HeapAt (w3.alloc (.cells #[.pointer (some ⟨p, 0, none⟩)] 63)) w3.heap.size p from heap_alloc_new _ _) hb5); clear hr5 hg5 hb5)
    | (go_at_call 46; obtain ⟨W6, hW6⟩ : ∃ W6, W6 = w5.alloc (.cells #[.int .i64 1, .slice (some ⟨g, 0, none⟩) 512 512] 81) := ⟨_, rfl⟩; rw [← hW6]; have B6 := hid (show Below w5.heap.size w5 W6 by rw [hW6]; exact Below.alloc (Below.refl _ _) (Nat.le_refl _) _); have Y6 := hid (show W6.heap[w5.heap.size]? = some (.cells #[.int .i64 1, .slice (some ⟨g, 0, none⟩) 512 512] 81 (0, 0)) by rw [hW6]; exact heap_alloc_new _ _); have B7 := hid (gt B4.out B6.out); have P6 := hid (P3.out.work (Fr.of_below B7.out)); have hpg := make_pgs Y6.out (R5.out.keep B6.out); clear hW6; refine (hput_any w3.heap.size w5.heap.size 1 [⟨1, g, 512, rootN 0 0 z60⟩] P6.out (H5.out.keep B6.out) (Or.inr ⟨Nat.le_refl _, Nat.lt_of_lt_of_le H5.out.lt B6.out.size⟩) hpg (Or.inr ⟨B4.out.size, (Array.getElem?_eq_some_iff.1 Y6.out).1⟩) (by intro x hx; simp only [List.mem_cons, List.mem_nil_iff, or_false] at hx; subst hx; exact Or.inr ⟨(by have h1 := G5.out; simp at h1; show w3.heap.size ≤ g; omega), Nat.lt_of_lt_of_le R5.out.lt B6.out.size⟩) HBZ.out (by intro x hx; simp only [List.mem_cons, List.mem_nil_iff, or_false] at hx; subst hx; exact ⟨Nat.le_refl _, by rw [HN.out]; exact Nat.le_refl _⟩) (by intro x hx; simp only [List.mem_cons, List.mem_nil_iff, or_false] at hx; subst hx; exact Jrn.rootN_bytes _ _ _) (by show K + 1 + 1 ≤ 100; omega)).mono ?_; rintro e w8 ⟨rfl, hP8, hok8⟩; have P8 := hid hP8; have K8 := hid hok8; have H8 := hid ((H5.out.keep B6.out).rok hok8 (Or.inr ⟨Nat.le_refl _, Nat.lt_of_lt_of_le H5.out.lt B6.out.size⟩)); clear hP8 hok8 hpg))
  go_ret2
  refine ⟨w3.heap.size, rfl, H8.out, K3.out.size, ?_, ?_⟩
  · exact P8.out.less (fun b hb => by rcases hb with hb | rfl; exact Or.inl hb; exact Or.inr ⟨Nat.le_refl _, Nat.lt_of_lt_of_le H5.out.lt B6.out.size⟩)
  · exact (K3.out.below B7.out).then K8.out (fun b hb => Or.inl hb)
end
end Go.Proofs.YtgjgkpnjchflaaaGreatDoor

/- What the chapter's example comes to; no statement of the seat is proved here. -/
namespace Go.Proofs.YtgjgkpnjchflaaaGreatDoor
open Go.RowKit Go.Maps
open Dsk (gt hid undrew keep_old keep_cell lt_cell Rd DS FS Sec DiskP newD)
open Cch (CS CP Fr)
open Jrn (Pv2 Row5 numAt RB fr_two trunkN rootN putN nul)

def T1 : RS := rt0.begin.grow.put 0 (rootN 0 0 z60)
def T2 : RS := T1.grow
def T3 : RS := (T2.put 1 (trunkN 0 [])).put 0 (rootN 2 1 z60)

set_option maxHeartbeats 8000000 in
set_option maxRecDepth 20000 in
theorem fresh_any (w : World) (hT : Jrn.Tab w) (h0 : 0 < w.heap.size) :
    Calls Tryz.prog 8 #[] w fun e w' => ∃ p hb, e = .returned (.tuple #[.pointer (some ⟨p, 0, none⟩), .pointer (some ⟨hb, 0, none⟩), .bool true]) ∧ HeapAt w' hb p ∧ w.heap.size ≤ hb ∧ PrgAt False 32768 16 3 w' p w.heap.size (Plus (Old w) hb) T1 ∧ Rok (Old w) w w' := by
  have c17 := hid (Dsk.new_yes 32768 w (by omega) (by omega))
  have HT := hid hT; have H0 := hid h0
  clear hT h0
  go_enter Tryz.func8, Tryz.ntmps8
  go_wp2_with (first
    | (go_at_call 17; refine c17.out.mono ?_; rintro e w1 ⟨rfl, ⟨P1, hd1, ha1⟩, hb1⟩; have D1 := hid hd1; have K1 := hid ha1; have B1 := hid hb1; clear hd1 ha1 hb1)
    | (go_at_call 18; refine (open_clean w.heap.size 16 P1 (newD 32768) [] w1 D1.out (clean_new 32768) whole_nil (by simp) (by omega) (by omega) (HT.out.keep B1.out) ⟨by have := H0.out; have := B1.out.size; omega, fun hd => by rcases hd with h1 | h1; (have := H0.out; omega); (have := K1.out 0 h1; omega)⟩ (by show 0 ≤ _; omega)).mono ?_; rintro e w2 ⟨p, x, rfl, ho⟩; have N2 := hid (prg_new B1.out K1.out ho); clear ho)
    | (go_at_call 19; refine (prg_begin N2.out.1).mono ?_; rintro e w3 ⟨rfl, hP3, hok3⟩; have P3 := hid (show PrgAt False 32768 16 1 w3 p w.heap.size (Old w) rt0.begin from hP3); have K3 := hid (N2.out.2.then hok3 (fun _ h => h)); clear hP3 hok3)
    | (go_at_call 20; refine (Make_yes P3.out rfl rfl ⟨Nat.zero_le _, Nat.zero_le _, rfl, (fun m hm => by cases hm), Nat.zero_le _, Nat.zero_le _, Nat.zero_le _⟩ (by omega)).mono ?_; rintro e w4 ⟨hb, rfl, hH4, hhb, hP4, hok4⟩; have H4 := hid hH4; have P4 := hid hP4; have K4 := hid (K3.out.then hok4 (fun _ h => h)); have HB4 := hid (Nat.le_trans K3.out.size hhb); clear hH4 hP4 hok4 hhb))
  go_ret3
  exact ⟨p, hb, rfl, H4.out, HB4.out, P4.out, K4.out⟩

set_option maxHeartbeats 8000000 in
set_option maxRecDepth 20000 in
theorem lives_any (w : World) (hT : Jrn.Tab w) (h0 : 0 < w.heap.size) : Calls Tryz.prog 7 #[] w fun e w' => e = .returned (.bool true) ∧ Below w.heap.size w w' := by
  have c8 := hid (fresh_any w hT h0)
  clear hT h0
  have t0 : Hid True := hid trivial
  go_enter Tryz.func7, Tryz.ntmps7
  go_wp2_with (first
    | (go_at_call 8; refine c8.out.mono ?_; rintro e w1 ⟨p, hb, rfl, hH1, hhb, hP1, hok1⟩; have H1 := hid hH1; have P1 := hid hP1; have K1 := hid hok1; clear hH1 hhb hP1 hok1)
    | (go_at_call 15; clear t0; refine (Take_grow hb z60 P1.out H1.out (Or.inr rfl) rfl rfl (by decide) (by decide) ⟨by decide, by decide, rfl, (fun m hm => by cases hm), by decide, by decide, by decide⟩ (by omega)).mono ?_; rintro e w2 ⟨rfl, hP2, hok2⟩; have P2 := hid hP2; have H2 := hid (H1.out.rok hok2 (Or.inr rfl)); have K2 := hid (K1.out.then hok2 (fun b hb => Or.inl hb)); clear hP2 hok2)
    | (go_at_call 16; refine (Give_first hb 2 z60 P2.out H2.out (Or.inr rfl) (fun b hb => P2.out.lt hb) rfl (by decide) rfl (by omega) (by decide) (by decide) (by omega)).mono ?_; rintro e w3 ⟨rfl, hP3, hok3⟩; have P3 := hid hP3; have H3 := hid (H2.out.rok hok3 (Or.inr rfl)); have K3 := hid (K2.out.then hok3 (fun b hb => Or.inl hb)); clear hP3 hok3)
    | (go_at_call 15; refine (Take_one hb 1 z60 P3.out H3.out (Or.inr rfl) (fun b hb => P3.out.lt hb) rfl rfl rfl (by omega) (by decide) (by decide) (by omega)).mono ?_; rintro e w4 ⟨rfl, hP4, hok4⟩; have K4 := hid (K3.out.then hok4 (fun b hb => Or.inl hb)); clear hP4 hok4))
  go_ret
  exact ⟨rfl, old_below K4.out⟩
end Go.Proofs.YtgjgkpnjchflaaaGreatDoor
