/- Pages that a heap hands to its pager; no statement of the seat is proved here. -/
import Derived.Test.YtgjgkpnjchflaaaGreatDoorG40
namespace Go.Proofs.YtgjgkpnjchflaaaGreatDoor
open Go.RowKit Go.Maps
open Dsk (gt hid undrew keep_old keep_cell lt_cell Rd)
open Cch (Fr wpAnyK wpAnyK_done wp_region_K)
open Jrn (Pv2 Row5 numAt RB fr_two)

structure PgI where
  n : Nat
  g : Nat
  cap : Nat
  b : List Nat
/-- Pages in a row. -/
def Pgs (w : World) (ab : Nat) (l : List PgI) : Prop := ∀ i x, l[i]? = some x → w.cell? ⟨ab, i * 2, none⟩ = some (.int .i64 (x.n : Int)) ∧ w.cell? ⟨ab, i * 2 + 1, none⟩ = some (.slice (some ⟨x.g, 0, none⟩) 512 x.cap) ∧ Rd w (some ⟨x.g, 0, none⟩) 512 x.cap x.b
theorem Pgs.rok {R : Nat → Prop} {w w' : World} {ab : Nat} {l : List PgI} (h : Pgs w ab l) (f : Rok R w w') (h1 : R ab) (h2 : ∀ x ∈ l, R x.g) : Pgs w' ab l := fun i x hx => by
  obtain ⟨c0, c1, c2⟩ := h i x hx
  refine ⟨fr_cell f c0 (fun e => e.1 h1), fr_cell f c1 (fun e => e.1 h1), rd_fr f c2 (fun _ a ha => ?_)⟩
  obtain rfl := Option.some.inj ha
  exact fun e => e.1 (h2 x (List.mem_of_getElem? hx))
def RS.puts (t : RS) : List PgI → RS
  | [] => t
  | x :: l => (t.put (x.n - 1) x.b).puts l
theorem RS.puts_app (t : RS) (l m : List PgI) : t.puts (l ++ m) = (t.puts l).puts m := by
  induction l generalizing t with
  | nil => rfl
  | cons x l ih => exact ih _
theorem RS.puts_now (t : RS) (l : List PgI) : (t.puts l).now.length = t.now.length ∧ (t.puts l).busy = t.busy := by
  induction l generalizing t with
  | nil => exact ⟨rfl, rfl⟩
  | cons x l ih => obtain ⟨h1, h2⟩ := ih (t.put (x.n - 1) x.b); exact ⟨h1.trans (by simp [RS.put]), h2⟩

/-- What region 4 of put reads. -/
def S3 (hb p b : Nat) (x : PgI) (W : World) : Prop := W.cell? ⟨hb, 0, none⟩ = some (.pointer (some ⟨p, 0, none⟩)) ∧ W.cell? ⟨b, 0, none⟩ = some (.int .i64 (x.n : Int)) ∧ W.cell? ⟨b, 1, none⟩ = some (.slice (some ⟨x.g, 0, none⟩) 512 x.cap)
theorem S3.rok {R : Nat → Prop} {hb p b : Nat} {x : PgI} {W W' : World} (h : S3 hb p b x W) (f : Rok R W W') (h1 : R hb) (h2 : R b) : S3 hb p b x W' := ⟨fr_cell f h.1 (fun e => e.1 h1), fr_cell f h.2.1 (fun e => e.1 h2), fr_cell f h.2.2 (fun e => e.1 h2)⟩

section
variable {arm : Prop} {room croom K : Nat} {p q : Nat} {R : Nat → Prop} {t : RS} {w : World}

set_option maxHeartbeats 4000000 in
set_option maxRecDepth 20000 in
theorem hput_any (hb ab cp : Nat) (l : List PgI) (h : PrgAt arm room croom K w p q R t) (hh : HeapAt w hb p) (hR : R hb) (hp : Pgs w ab l) (hab : R ab) (hg : ∀ x ∈ l, R x.g) (hbz : t.busy = true) (hn : ∀ x ∈ l, 1 ≤ x.n ∧ x.n ≤ t.now.length) (hx : ∀ x ∈ l, ∀ y ∈ x.b, y < 256) (hK : K + l.length ≤ 100) :
    Calls Tryz.prog 46 #[.pointer (some ⟨hb, 0, none⟩), .slice (some ⟨ab, 0, none⟩) l.length cp] w fun e w' => e = .returned (.int .i64 0) ∧ PrgAt arm room croom (K + l.length) w' p q R (t.puts l) ∧ Rok R w w' := by
  have H := hid h; have HH := hid hh; have HP := hid hp; have HN := hid hn; have HX := hid hx; have HGG := hid hg; have HRH := hid hR; have HRA := hid hab; have HBZ := hid hbz
  obtain ⟨L, hL⟩ : ∃ L, L = l.length := ⟨_, rfl⟩
  rw [← hL] at hK ⊢
  have HL := hid hL
  clear h hh hp hn hx hg hR hab hbz hL
  go_enter Tryz.func46, Tryz.ntmps46
  go_wp2
  go_loopw [10] (fun cc W => ∃ (i : Nat), i ≤ L ∧ cc = .int .i64 (i : Int) ∧ Hid (PrgAt arm room croom (K + i) W p q R (t.puts (l.take i))) ∧ Hid (Rok R w W)) (fun cc _ => L - (Lib.intOf cc).toNat)
  case atStart => exact ⟨0, by omega, rfl, H, hid (Rok.of_below (Below.refl _ _))⟩
  case round =>
    obtain ⟨i, hi, rfl, P1, K1⟩ := hrel
    by_cases hiL : i < L
    · have hiL' : (i : Int) < (L : Int) := by omega
      obtain ⟨x, hx⟩ : ∃ x, l[i]? = some x := ⟨_, List.getElem?_eq_getElem (by rw [← HL.out]; exact hiL)⟩
      have hxm : x ∈ l := List.mem_of_getElem? hx
      obtain ⟨c0, c1, c2⟩ := HP.out.rok K1.out HRA.out HGG.out i x hx
      have hN := HN.out x hxm
      have C2 := hid c2
      have hh2 := HH.out.rok K1.out HRH.out
      have B0 := hid (show Below wr.heap.size wr (wr.alloc (.cells #[.int .i64 (x.n : Int), .slice (some ⟨x.g, 0, none⟩) 512 x.cap] 81)) from Below.alloc (Below.refl _ _) (Nat.le_refl _) _)
      have X0 := hid (RB.new 81 wr (x.n : Int) (some ⟨x.g, 0, none⟩) 512 x.cap)
      have H0 := hid (hh2.keep B0.out)
      have P0 := hid (P1.out.new B0.out (Nat.le_refl _) (by simp))
      have CP := hid (fun W (hW : Below (wr.alloc (.cells #[.int .i64 (x.n : Int), .slice (some ⟨x.g, 0, none⟩) 512 x.cap] 81)).heap.size (wr.alloc (.cells #[.int .i64 (x.n : Int), .slice (some ⟨x.g, 0, none⟩) 512 x.cap] 81)) W) => prg_put_yes (x.n - 1) x.g 0 x.cap x.b (P0.out.keep hW) ((RS.puts_now t _).2.trans HBZ.out) (by rw [(RS.puts_now t _).1]; omega) (by omega) ((C2.out.keep B0.out).keep hW) (HX.out x hxm))
      rw [show x.n - 1 + 1 = x.n by omega] at CP
      have hal : ¬ ab = wr.heap.size := by have h9 : ab < wr.heap.size := lt_cell c0; omega
      clear hN c2 hh2
      obtain ⟨W0, hW0⟩ : ∃ W0, W0 = wr.alloc (.cells #[.int .i64 (x.n : Int), .slice (some ⟨x.g, 0, none⟩) 512 x.cap] 81) := ⟨_, rfl⟩
      have HW0 := hid hW0
      rw [← hW0] at B0 X0 H0 P0 CP
      have hs0 : S3 hb p wr.heap.size x W0.drew := ⟨H0.out.cell, X0.out.cells.1, X0.out.cells.2.1⟩
      clear hW0
      go_upto_region 4 with fail
      rw [← HW0.out]
      refine wp_region_K (S := S3 hb p wr.heap.size x) (fun _ => false) (by kernel_rfl) hs0 (fun hHeld => ?_)
      refine gkp 0 ?_
      refine gkp 1 ?_
      refine gkp 2 ?_
      refine gkt 3 ?_ (h := by intro W hSw; obtain ⟨k0, k1, k2⟩ := hSw; go_simp; first | done | with_reducible rfl)
      refine gkp 4 ?_
      refine gkt 5 ?_ (h := by intro W hSw; obtain ⟨k0, k1, k2⟩ := hSw; go_simp; first | done | with_reducible rfl)
      refine gkp 6 ?_
      refine gkt 7 ?_ (h := by intro W hSw; obtain ⟨k0, k1, k2⟩ := hSw; go_simp; first | done | with_reducible rfl)
      refine gk1 8 (fun K hK => ?_)
      go_simp
      go_at_call 86; refine (CP.out W0.drew (Below.refl _ _).drew).mono ?_; rintro e w2 ⟨rfl, hP2, hok2⟩; have P2 := hid hP2; have K2 := hid hok2; have hR : S3 hb p wr.heap.size x w2 := hs0.rok hok2 (Or.inl HRH.out) (Or.inr rfl); clear hP2 hok2
      refine hK.out _ _ hR (fun hHeld => ?_)
      clear hK K
      (try simp only [Act.put, sA, sZ, sS])
      refine gkp 9 ?_
      refine wpAnyK_done (by kernel_rfl) ?_ _
      clear hHeld hR hs0
      go_wp2
      go_roundw
      case measure => simp [Lib.intOf]; omega
      case rel =>
        refine ⟨i + 1, by omega, by go_num, hid ?_, hid ?_⟩
        · have e1 : l.take (i + 1) = l.take i ++ [x] := by rw [List.take_add_one, hx]; rfl
          rw [e1, RS.puts_app]
          exact P2.out.less (fun b hb => Or.inl hb)
        · exact K1.out.then (Rok.after (R := R) B0.out.drew K2.out (fun b hb => Or.inl hb)) (fun _ h => h)
    · obtain rfl : i = L := by omega
      have hiL' : ¬ (i : Int) < (i : Int) := by omega
      go_wp2
      go_ret
      refine ⟨rfl, ?_, K1.out⟩
      have := P1.out
      rw [HL.out, List.take_length] at this
      rw [HL.out]; exact this
end
end Go.Proofs.YtgjgkpnjchflaaaGreatDoor

/- A trunk that is got; no statement of the seat is proved here. -/
namespace Go.Proofs.YtgjgkpnjchflaaaGreatDoor
open Go.RowKit Go.Maps
open Dsk (gt hid undrew keep_old keep_cell lt_cell Rd)
open Cch (Fr wpAnyK wpAnyK_done wp_region_K)
open Jrn (Pv2 Row5 numAt RB fr_two trunkN rootN)

section
variable {arm : Prop} {room croom K : Nat} {p q : Nat} {R : Nat → Prop} {t : RS} {w : World}

set_option maxHeartbeats 4000000 in
theorem trunk_yes (hb i nx : Nat) (ls : List Nat) (h : PrgAt arm room croom K w p q R t) (hh : HeapAt w hb p) (h1 : 1 ≤ i) (hi : i < t.pages.length) (hx : t.pages.getD i [] = trunkN nx ls) (hl : ls.length ≤ 126) (hK : K ≤ 800) :
    Calls Tryz.prog 65 #[.pointer (some ⟨hb, 0, none⟩), .int .i64 ((i + 1 : Nat) : Int)] w fun e w' => ∃ g cap, e = .returned (.tuple #[Pv2 ((i + 1 : Nat) : Int) g 0 cap, .int .i64 0]) ∧ Row5 w' w.heap.size g cap (trunkN nx ls) ∧ w.heap.size ≤ g ∧ PrgAt arm room croom (K + 1) w' p q (Plus R g) t ∧ Rok R w w' := by
  have B0 := hid (show Below w.heap.size w (w.alloc (.cells #[.int .i64 0, .slice none 0 0] 118)) from Below.alloc (Below.refl _ _) (Nat.le_refl _) _)
  have P0 := hid (h.new B0.out (Nat.le_refl _) (by simp))
  have H0 := hid (hh.keep B0.out)
  have CH := hid (has_any8 hb ((i + 1 : Nat) : Int) P0.out H0.out)
  rw [show (decide (1 < ((i + 1 : Nat) : Int)) && decide (((i + 1 : Nat) : Int) ≤ (t.pages.length : Int))) = true by simp; omega] at CH
  have CG := hid (fun W (hW : Below (w.alloc (.cells #[.int .i64 0, .slice none 0 0] 118)).heap.size (w.alloc (.cells #[.int .i64 0, .slice none 0 0] 118)) W) => hget_yes hb i (P0.out.keep hW) (H0.out.keep hW) hi hK)
  rw [hx] at CG
  have HX := hid (RB.new 118 w 0 none 0 0)
  have HL := hid hl
  have hsz := Jrn.trunk_size nx ls (by omega)
  have CS := hid (fun W z g cap B (hr : Row5 W B g cap (trunkN nx ls)) => Jrn.size_any z g 0 cap (trunkN nx ls) W hr.rd (Jrn.trunkN_bytes _ _))
  rw [hsz] at CS
  have hl2 : ¬ (126 : Int) < (ls.length : Int) := by omega
  clear h hh h1 hi hx hl hsz
  generalize ((i + 1 : Nat) : Int) = z at *
  generalize ls.length = L at *
  unfold Pv2 at *
  go_enter Tryz.func65, Tryz.ntmps65
  go_wp2_with (first
    | (go_at_call 37; refine CH.out.mono ?_; rintro e w1 ⟨rfl, hb1⟩; have B1 := hid hb1; clear hb1)
    | (go_at_call 63; refine (CG.out w1 B1.out).mono ?_; rintro e w2 ⟨g, cap, rfl, hr, hg, hP, hok⟩; have R2 := hid hr; have HG := hid hg; have P2 := hid hP; have K2 := hid hok; have Y0 := hid (RB.new 81 w2 z (some ⟨g, 0, none⟩) 512 cap); have BA := hid (show Below w2.heap.size w2 (w2.alloc (.cells #[.int .i64 z, .slice (some ⟨g, 0, none⟩) 512 cap] 81)) from Below.alloc (Below.refl _ _) (Nat.le_refl _) _); clear hr hg hP hok)
    | (go_at_call 67; refine (CS.out _ z g cap _ (R2.out.keep (Below.alloc (Below.alloc (Below.refl _ _) (Nat.le_refl _) _) (by simp) _))).mono ?_; rintro e w3 ⟨rfl, hb3⟩; have B3 := hid (gt (Below.alloc BA.out (by simp) (.cells #[.int .i64 z, .slice (some ⟨g, 0, none⟩) 512 cap] 118)) hb3); have Z3 := hid (RB.keep (show RB 118 _ (w2.heap.size + 1) z (some ⟨g, 0, none⟩) 512 cap from (by have := RB.new 118 (w2.alloc (.cells #[.int .i64 z, .slice (some ⟨g, 0, none⟩) 512 cap] 81)) z (some ⟨g, 0, none⟩) 512 cap; simpa using this)) hb3); have X2 := hid (show RB 118 w2 w.heap.size 0 none 0 0 from (K2.out.at_ (Or.inr rfl) (HX.out.keep B1.out).lt).trans (HX.out.keep B1.out)); have X3 := hid (X2.out.keep B3.out); obtain ⟨z0, z1, z2, z3⟩ := Z3.out.cells; obtain ⟨x0, x1, x2, x3⟩ := X3.out.cells; have hne : ¬ w2.heap.size + 1 = w.heap.size := (by have h5 := X2.out.lt; omega); clear hb3))
  refine bodyPost_ret (Jrn.ret_rec rfl agg118 size118 rfl (RB.set X3.out _ _ _ _)) rfl ?_
  have hs1 : w.heap.size + 1 ≤ w1.heap.size := by have := B1.out.size; simpa using this
  have hg := HG.out
  refine ⟨g, cap, rfl, ((R2.out.keep B3.out).fr (fr_two _ _ _ _) (by omega)).base (by omega), by omega, ?_, ?_⟩
  · exact ((P2.out.keep B3.out).mine (fr_imp (fr_two _ w.heap.size _ _) (fun b hb => Or.inl (Or.inr hb)))).less (fun b hb => by rcases hb with hb | hb; exact Or.inl (Or.inl hb); exact Or.inr hb)
  · exact ((Rok.after (gt B0.out B1.out) K2.out (fun b hb => Or.inl hb)).below B3.out).mine (fr_two _ w.heap.size _ _) (fun b hb => by omega)
end
end Go.Proofs.YtgjgkpnjchflaaaGreatDoor

/- A row of numbers that grows while a heap's pager is asked; chains of trunks; no statement of the seat is proved here. -/
namespace Go.Proofs.YtgjgkpnjchflaaaGreatDoor
open Go.RowKit Go.Maps
open Dsk (gt hid undrew keep_old keep_cell lt_cell Rd)
open Cch (Fr wpAnyK wpAnyK_done wp_region_K)
open Jrn (Pv2 Row5 numAt RB fr_two trunkN rootN)

/-- The pages of a list: trunk by trunk, each ahead of its leaves. -/
def flat (tr : List (Nat × List Nat)) : List Nat := tr.flatMap fun x => x.1 :: x.2
theorem flat_append (a b : List (Nat × List Nat)) : flat (a ++ b) = flat a ++ flat b := by simp [flat]
theorem flat_cons (x : Nat × List Nat) (b : List (Nat × List Nat)) : flat (x :: b) = x.1 :: (x.2 ++ flat b) := by simp [flat]
/-- A chain of trunks that lies in the pages. -/
def Chain8 (now : List Pg) : Nat → List (Nat × List Nat) → Prop
  | f, [] => f = 0
  | f, x :: r => f = x.1 ∧ 2 ≤ x.1 ∧ x.1 ≤ now.length ∧ x.2.length ≤ 126 ∧ (∀ y ∈ x.2, 2 ≤ y ∧ y ≤ now.length) ∧ ∃ nx, nx < 4294967296 ∧ now.getD (x.1 - 1) [] = trunkN nx x.2 ∧ Chain8 now nx r

/-- The blocks of Q, and the row v. -/
def Own2 (Q : Nat → Prop) (v : Value) : Nat → Prop := fun b => Q b ∨ v.ownBlock = some b
theorem PrgAt.grow {arm : Prop} {room croom K : Nat} {p q : Nat} {Q : Nat → Prop} {t : RS} {w w' : World} {v v' : Value} (h : PrgAt arm room croom K w p q (Own2 Q v) t) (hf : Fr (fun b => v.ownBlock = some b) w w') (hv : ∀ b, v'.ownBlock = some b → v.ownBlock = some b ∨ (w.heap.size ≤ b ∧ b < w'.heap.size)) : PrgAt arm room croom K w' p q (Own2 Q v') t := by
  obtain ⟨x, P, C, d, s, n, enc, ms, h⟩ := h
  have hf2 : Fr (Own2 Q v) w w' := fr_imp hf (fun b hb => Or.inr hb)
  refine ⟨x, P, C, d, s, n, enc, ms, h.live.off hf2 h.off, h.q, h.busy, h.com, h.mb, h.mr, fun b hb hR => ?_, h.sure, h.env, h.ops, h.hm, h.rm, h.nk, h.nm, fun b hb => ?_⟩
  · rcases hR with hR | hR
    · exact h.off b hb (Or.inl hR)
    · rcases hv b hR with h1 | h1
      · exact h.off b hb (Or.inr h1)
      · have := h.live.lt b hb; omega
  · rcases hb with hb | hb
    · exact Nat.lt_of_lt_of_le (h.rl b (Or.inl hb)) hf.size
    · rcases hv b hb with h1 | h1
      · exact Nat.lt_of_lt_of_le (h.rl b (Or.inr h1)) hf.size
      · exact h1.2

/-- A row of numbers l that is being made, beside a pager. -/
structure AO (arm : Prop) (room croom K : Nat) (p q : Nat) (Q : Nat → Prop) (t : RS) (B : Nat) (W0 : World) (v : Value) (l : List Nat) (W : World) : Prop where
  p : PrgAt arm room croom K W p q (Own2 Q v) t
  o : W.ownsRow B 3 1 v l.length (zI l)
  s : ∀ b, v.ownBlock = some b → ¬ Q b
  k : Rok Q W0 W
section
variable {arm : Prop} {room croom K : Nat} {p q : Nat} {Q : Nat → Prop} {t : RS} {B : Nat} {W0 W W' : World} {v : Value} {l : List Nat}
theorem AO.below (h : AO arm room croom K p q Q t B W0 v l W) (hb : Below W.heap.size W W') : AO arm room croom K p q Q t B W0 v l W' :=
  ⟨h.p.keep hb, own_fr (E := fun _ => False) h.o (Fr.of_below hb) (fun _ _ h => h), h.s, h.k.below hb⟩
theorem AO.app {n : Nat} {ao : Option Addr} {m c : Nat} {w' : World} (h : AO arm room croom K p q Q t B W0 v l W) (hB : B ≤ W.heap.size) (hm : m = l.length) (ho : w'.ownsRow 0 3 1 (.slice ao (m + 1) c) (m + 1) (zI l ++ [.int .i64 (n : Int)])) (hg : W.grownBy w' v.ownBlock) (ha : ∀ a, ao = some a → (v.ownBlock = some a.block ∨ a.block = W.heap.size)) :
    AO arm room croom K p q Q t B W0 (.slice ao (m + 1) c) (l ++ [n]) w' := by
  have hz : zI (l ++ [n]) = zI l ++ [.int .i64 (n : Int)] := by rw [zI_append]; rfl
  have hl : (l ++ [n]).length = m + 1 := by rw [hm]; simp
  have hf : Fr (fun b => v.ownBlock = some b) W w' := ⟨hg.os, hg.tape, hg.output, hg.size, fun k hk hn => hg.block k hk (fun e => hn e.symm)⟩
  have hv : ∀ b, (Value.slice ao (m + 1) c).ownBlock = some b → v.ownBlock = some b ∨ (W.heap.size ≤ b ∧ b < w'.heap.size) := fun b hb => by
    cases ao with
    | none => cases hb
    | some a =>
      have hb2 := rr_blk ho hb
      cases hb
      rcases ha a rfl with h1 | h1
      · exact Or.inl h1
      · exact Or.inr ⟨by rw [h1]; exact Nat.le_refl _, hb2.2⟩
  refine ⟨h.p.grow hf hv, ?_, fun b hb hQ => ?_, h.k.trans hf (fun j _ hj => ⟨h.s j hj, fun e => ?_⟩)⟩
  · rw [hl, hz]
    refine rr_up ho (fun k hk => ?_)
    rcases hv k hk with h1 | h1
    · exact (rr_blk h.o h1).1
    · omega
  · rcases hv b hb with h1 | h1
    · exact h.s b h1 hQ
    · have := h.p.lt (b := b) (Or.inl hQ); omega
  · subst e
    obtain ⟨x, P, C, d, s, n, enc, ms, hh⟩ := h.p
    exact hh.off 0 (Or.inr (Or.inr (Or.inl rfl))) (Or.inr hj)
theorem AO.widen {Q' : Nat → Prop} (h : AO arm room croom K p q Q t B W0 v l W) (hb : Below W.heap.size W W') (hQ : ∀ b, Q' b → Q b ∨ (W.heap.size ≤ b ∧ b < W'.heap.size)) : AO arm room croom K p q Q' t B W' v l W' := by
  refine ⟨h.p.more hb (fun b hb' => ?_), (h.below hb).o, fun b hb' hQ' => ?_, Rok.of_below (Below.refl _ _)⟩
  · rcases hb' with h1 | h1
    · rcases hQ b h1 with h2 | h2
      · exact Or.inl (Or.inl h2)
      · exact Or.inr h2
    · exact Or.inl (Or.inr h1)
  · rcases hQ b hQ' with h2 | h2
    · exact h.s b hb' h2
    · have := (rr_blk h.o hb').2; omega
theorem AO.narrow {Q' : Nat → Prop} {w : World} (h : AO arm room croom K p q Q' t B W0 v l W) (hQ : ∀ b, Q b → Q' b) (k : Rok Q w W0) : AO arm room croom K p q Q t B w v l W :=
  ⟨h.p.less (fun b hb => by rcases hb with h1 | h1; exact Or.inl (hQ b h1); exact Or.inr h1), h.o, fun b hb hb' => h.s b hb (hQ b hb'), k.then h.k hQ⟩
end
end Go.Proofs.YtgjgkpnjchflaaaGreatDoor
