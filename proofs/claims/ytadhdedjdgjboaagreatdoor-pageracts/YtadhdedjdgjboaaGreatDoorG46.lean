/- Are two rows of numbers, or of pages, the same; no statement of the seat is proved here. -/
import Derived.Test.YtadhdedjdgjboaaGreatDoorG45
import Derived.Deep.LoopGhost
import Derived.Test.YtadhdedjdgjboaaGreatDoorG31
set_option maxHeartbeats 16000000
set_option maxRecDepth 20000
namespace Go.Proofs.YtadhdedjdgjboaaGreatDoor
section
open Go.RowKit Go.Maps
open Dsk (gt hid undrew keep_old keep_cell lt_cell Rd DS FS Sec DiskP DFrame Grew From op_at idx dirtD was secD sureF sureF_ok crashD)
open Cch (CS CP Fr)
def RdI (w : World) (ao : Option Addr) (n : Nat) (l : List Nat) : Prop :=
 l.length = n ∧ (0 < n → ∃ b off, ao = some ⟨b, off, none⟩ ∧ ∀ t, t < n → w.cell? ⟨b, off + t, none⟩ = some (.int .i64 ((l.getD t 0 : Nat) : Int)))
variable {l : List Nat} {n : Nat} {ao : Option Addr} {w w' : World}
theorem RdI.keep (h : RdI w ao n l) (hb : Below w.heap.size w w') : RdI w' ao n l :=
 ⟨h.1, fun hn => by obtain ⟨b, off, e, hc⟩ := h.2 hn; exact ⟨b, off, e, fun t ht => keep_old hb (hc t ht)⟩⟩
theorem rdI_own {B cap : Nat} (h : w.ownsRow B 3 1 (.slice ao n cap) n (zI l)) : RdI w ao n l := by
 have hl : l.length = n := by have := h.1; simpa [zI] using this
 refine ⟨hl, fun hn => ?_⟩
 rcases h.2 with ⟨hv, hz⟩ | ⟨g, cap', cur, hv, _⟩
 · omega
 · simp only [Value.slice.injEq] at hv
   obtain ⟨rfl, _, rfl⟩ := hv
   refine ⟨g, 0, rfl, fun t ht => ?_⟩
   rw [Nat.zero_add, h.cellAt t (by omega)]
   simp [zI, List.getD, List.getElem?_eq_getElem (show t < l.length by omega)]
theorem ints_same (a1 a2 : Option Addr) (n c1 c2 : Nat) (l : List Nat) (w : World) (h1 : RdI w a1 n l) (h2 : RdI w a2 n l) (hn : n ≤ 1000000) (hc1 : n ≤ c1) (hc2 : n ≤ c2) :
   Calls Tryz.prog 16 #[.slice a1 n c1, .slice a2 n c2] w fun e w' => e = .returned (.bool true) ∧ Below w.heap.size w w' := by
 have H1 := hid h1; have H2 := hid h2
 clear h1 h2
 go_enter Tryz.func16, Tryz.ntmps16
 go_wp2
 go_loopg [13] n (fun k c W => ∃ i : Nat, i + k = n ∧ c = .int .i64 (i : Int) ∧ Hid (Below w.heap.size w W))
 case atStart => exact ⟨0, by omega, rfl, hid (Below.refl _ _)⟩
 case round =>
   obtain ⟨i, hik, rfl, HB⟩ := hrel
   by_cases hi : i < n
   · obtain ⟨b1, o1, rfl, x1⟩ := (H1.out.keep HB.out).2 (by omega)
     obtain ⟨b2, o2, rfl, x2⟩ := (H2.out.keep HB.out).2 (by omega)
     have y1 := x1 i hi; have y2 := x2 i hi
     have hi1 : (i : Int) < (n : Int) := by omega
     clear x1 x2
     obtain ⟨v, hv⟩ : ∃ v, v = ((l.getD i 0 : Nat) : Int) := ⟨_, rfl⟩
     rw [← hv] at y1 y2
     clear hv
     go_wp2
     go_region
     go_wp2
     go_roundg (gk - 1)
     case measure => omega
     case rel =>
       exact ⟨i + 1, by omega, by simp, hid (gt HB.out ((Below.refl _ _).drew))⟩
   · obtain rfl : i = n := by omega
     have hi1 : ¬ (i : Int) < (i : Int) := by omega
     go_wp2
     go_ret
     exact ⟨rfl, HB.out⟩
def RdP (w : World) (ao : Option Addr) (n : Nat) (l : List Pg) : Prop :=
 l.length = n ∧ (0 < n → ∃ b off, ao = some ⟨b, off, none⟩ ∧ ∀ t, t < n → ∃ a c, w.cell? ⟨b, off + t, none⟩ = some (.slice a 512 c) ∧ Rd w a 512 c (l.getD t []))
theorem RdP.keep {l : List Pg} (h : RdP w ao n l) (hb : Below w.heap.size w w') : RdP w' ao n l :=
 ⟨h.1, fun hn => by
   obtain ⟨b, off, e, hc⟩ := h.2 hn
   refine ⟨b, off, e, fun t ht => ?_⟩
   obtain ⟨a, c, h1, h2⟩ := hc t ht
   exact ⟨a, c, keep_old hb h1, h2.keep hb⟩⟩
theorem pages_same (a1 a2 : Option Addr) (n c1 c2 : Nat) (l : List Pg) (w : World) (h1 : RdP w a1 n l) (h2 : RdP w a2 n l) (hn : n ≤ 1000000) (hc1 : n ≤ c1) (hc2 : n ≤ c2) :
   Calls Tryz.prog 21 #[.slice a1 n c1, .slice a2 n c2] w fun e w' => e = .returned (.bool true) ∧ Below w.heap.size w w' := by
 have H1 := hid h1; have H2 := hid h2
 clear h1 h2
 go_enter Tryz.func21, Tryz.ntmps21
 go_wp2
 go_loopg [13] n (fun k c W => ∃ i : Nat, i + k = n ∧ c = .int .i64 (i : Int) ∧ Hid (Below w.heap.size w W))
 case atStart => exact ⟨0, by omega, rfl, hid (Below.refl _ _)⟩
 case round =>
   obtain ⟨i, hik, rfl, HB⟩ := hrel
   by_cases hi : i < n
   · obtain ⟨b1, o1, rfl, x1⟩ := (H1.out.keep HB.out).2 (by omega)
     obtain ⟨b2, o2, rfl, x2⟩ := (H2.out.keep HB.out).2 (by omega)
     obtain ⟨u1, d1, y1, r1⟩ := x1 i hi; obtain ⟨u2, d2, y2, r2⟩ := x2 i hi
     have hi1 : (i : Int) < (n : Int) := by omega
     have z1 := cvtP r1; have z2 := cvtP r2
     have z3 : (convert 60 9 (.slice u1 512 d1)).run Tryz.prog _ = .ok (.string (Dsk.str (l.getD i []))) _ := cvtP (r1.keep ((Below.refl _ _).drew))
     have z4 : (convert 60 9 (.slice u2 512 d2)).run Tryz.prog _ = .ok (.string (Dsk.str (l.getD i []))) _ := cvtP (r2.keep ((Below.refl _ _).drew))
     clear x1 x2 r1 r2
     obtain ⟨v, hv⟩ : ∃ v, v = Dsk.str (l.getD i []) := ⟨_, rfl⟩
     rw [← hv] at z1 z2 z3 z4
     clear hv
     go_wp2
     go_region
     go_wp2
     go_roundg (gk - 1)
     case measure => omega
     case rel =>
       exact ⟨i + 1, by omega, by simp, hid (gt HB.out ((Below.refl _ _).drew))⟩
   · obtain rfl : i = n := by omega
     have hi1 : ¬ (i : Int) < (i : Int) := by omega
     go_wp2
     go_ret
     exact ⟨rfl, HB.out⟩
end
section
open Go.RowKit Go.Maps
open Dsk (gt hid undrew keep_old keep_cell lt_cell Rd DS FS Sec DiskP DFrame Grew From op_at idx dirtD was secD sureF sureF_ok crashD)
open Cch (CS CP Fr)
theorem elP : Cch.El 31 60 (.slice none 0 0) 24 := ⟨Dsk.el66.ht, Dsk.el66.hi, Dsk.el66.hz, Dsk.el66.hb⟩
section
variable {arm : Prop} {room croom K : Nat} {p q : Nat} {R : Nat → Prop} {t : RS} {w w' : World}
theorem PrgAt.turn {R' E : Nat → Prop} (h : PrgAt arm room croom K w p q R t) (hf : Fr E w w') (hE : ∀ b, E b → R b) (hR : ∀ b, R' b → R b ∨ (w.heap.size ≤ b ∧ b < w'.heap.size)) : PrgAt arm room croom K w' p q R' t := by
 obtain ⟨x, P, C, d, s, n, enc, ms, h⟩ := h
 refine ⟨x, P, C, d, s, n, enc, ms, h.live.off hf (fun b hS he => h.off b hS (hE b he)), h.q, h.busy, h.com, h.mb, h.mr, fun b hS hb' => ?_, h.sure, h.env, h.ops, h.hm, h.rm, h.nk, h.nm, fun b hb' => ?_⟩
 · rcases hR b hb' with h1 | h1
   · exact h.off b hS h1
   · have := h.live.lt b hS; omega
 · rcases hR b hb' with h1 | h1
   · exact Nat.lt_of_lt_of_le (h.rl b h1) hf.size
   · exact h1.2
theorem PrgAt.rl (h : PrgAt arm room croom K w p q R t) : ∀ b, R b → b < w.heap.size := by
 obtain ⟨x, P, C, d, s, n, enc, ms, h⟩ := h
 exact h.rl
theorem prg_pages (h : PrgAt arm room croom K w p q R t) : Calls Tryz.prog 12 #[.pointer (some ⟨p, 0, none⟩)] w fun e w' => e = .returned (.int .i64 (t.pages.length : Int)) ∧ Below w.heap.size w w' := by
 obtain ⟨x, P, C, d, s, n, enc, ms, h⟩ := h
 refine (pages_live p x w h.live.tx.core.hd).mono ?_
 rintro e w' ⟨rfl, hb⟩
 exact ⟨by rw [h.live.tx.np], hb⟩
theorem prg_get_keep (i : Nat) (h : PrgAt arm room croom K w p q R t) (hi : i < t.pages.length) (hK : K ≤ 800) : Calls Tryz.prog 34 #[.pointer (some ⟨p, 0, none⟩), .int .i64 ((i + 1 : Nat) : Int)] w fun e w' => ∃ a cap, e = .returned (.tuple #[.slice (some a) 512 cap, .int .i64 0]) ∧ Rd w' (some a) 512 cap (t.pages.getD i []) ∧ w.heap.size ≤ a.block ∧ PrgAt arm room croom (K + 1) w' p q (fun b => R b ∨ b = a.block) t ∧ Rok R w w' := by
 obtain ⟨x, P, C, d, s, n, enc, ms, h⟩ := h
 refine (get_yes p i x P C d s t.sure n t.pages t.ch enc w h.live.tx hi (by rw [h.sure.f0]; rfl) h.env.on (by have := h.hm; have : K * 1000 ≤ 800 * 1000 := Nat.mul_le_mul_right _ hK; omega)).mono ?_
 rintro e w' ⟨a, cap, rfl, hr, ha, ⟨C', s', hT, hO, hM, hs, hrm⟩, hf⟩
 refine ⟨a, cap, rfl, hr, ha, ?_, (h.to (t' := t) (h.live.moved hT hM hf hs hrm) rfl rfl rfl rfl h.busy h.com h.mb h.mr h.sure h.env (by omega) (by omega) (by have := h.nk; omega) (fun k hk => by have := h.nm k hk; omega)).2⟩
 have ho : ∀ b, Out w (NC p x P C) b → Out w' (NC p x P C') b := fun b hb => hM.out hf.size hb
 have hL : Live w' p x P C' d s' t.sure n t.pages t.ch enc ms := ⟨hT, h.live.mks.move ⟨rfl, rfl, rfl, rfl⟩ (fun k hk => (h.live.mks.each k hk).2) ho (fun b hb => ⟨fun o v hc => fr_cell hf hc hb.2, fun _ => hf.blk b hb.1 hb.2⟩) (mv_ne h.live.mks.row h.live.tx.chg.map), h.live.sep, fun b o l cc hb => ho b (h.live.eb b o l cc hb), fun k hk b o l cc hb => ho b (h.live.ek k hk b o l cc hb)⟩
 refine ⟨x, P, C', d, s', n, enc, ms, hL, h.q, h.busy, h.com, h.mb, h.mr, fun b hS hR => ?_, h.sure, h.env, up1000 h.ops (by omega), up1000 h.hm (by omega), hrm.trans h.rm, by have := h.nk; omega, fun k hk => by have := h.nm k hk; omega, fun b hb => ?_⟩
 · rcases hR with hR | rfl
   · rcases hS with hS | hS
     · rcases hM b hS with h1 | h1
       · exact h.off b (Or.inl h1) hR
       · have := h.rl b hR; omega
     · exact h.off b (Or.inr hS) hR
   · rcases hS with hS | hS
     · exact hO.2 hS
     · have := h.live.lt a.block (Or.inr hS); omega
 · rcases hb with hb | rfl
   · exact Nat.lt_of_lt_of_le (h.rl b hb) hf.size
   · exact hO.1
end
variable {x : List Nat} {n c : Nat} {a : Addr} {w w' : World}
theorem rd_blk (h : Rd w (some a) n c x) (hb : w'.heap[a.block]? = w.heap[a.block]?) : Rd w' (some a) n c x := by
 refine ⟨h.1, h.2.1, h.2.2.1, fun hn => ?_⟩
 obtain ⟨b, o, e, hc⟩ := h.2.2.2 hn
 cases e
 exact ⟨b, o, rfl, fun t ht => (World.cell?_of_block (a := ⟨b, o + t, none⟩) hb).trans (hc t ht)⟩
structure PR (w0 : Nat) (W : World) (Rj : Nat → Prop) (ao : Option Addr) (vs : List Value) (l : List Pg) (j : Nat) : Prop where
 at_ : ∀ k, k < j → ∃ a c, vs[k]? = some (.slice (some a) 512 c) ∧ Rd W (some a) 512 c (l.getD k []) ∧ Rj a.block ∧ ∀ ad, ao = some ad → a.block ≠ ad.block
 len : vs.length = j
def RdPR (w : World) (R : Nat → Prop) (ao : Option Addr) (n : Nat) (l : List Pg) : Prop :=
 l.length = n ∧ (0 < n → ∃ b, ao = some ⟨b, 0, none⟩ ∧ R b ∧ ∀ t, t < n → ∃ a c, w.cell? ⟨b, t, none⟩ = some (.slice (some a) 512 c) ∧ Rd w (some a) 512 c (l.getD t []) ∧ R a.block)
variable {l : List Pg} {ao : Option Addr} {R : Nat → Prop}
theorem RdPR.rdP (h : RdPR w R ao n l) : RdP w ao n l :=
 ⟨h.1, fun hn => by
   obtain ⟨b, e, _, h2⟩ := h.2 hn
   refine ⟨b, 0, e, fun t ht => ?_⟩
   obtain ⟨a, c, h3, h4, _⟩ := h2 t ht
   exact ⟨some a, c, by rw [Nat.zero_add]; exact h3, h4⟩⟩
theorem rd_lt (h : Rd w (some a) n c x) (hn : 0 < n) : a.block < w.heap.size := by
 obtain ⟨b, o, e, hc⟩ := h.2.2.2 hn
 cases e
 exact lt_cell (hc 0 hn)
theorem RdPR.rok {R' : Nat → Prop} (h : RdPR w R ao n l) (hr : Rok R' w w') (hR : ∀ b, R b → R' b) : RdPR w' R ao n l :=
 ⟨h.1, fun hn => by
   obtain ⟨b, e, hb, h2⟩ := h.2 hn
   refine ⟨b, e, hb, fun t ht => ?_⟩
   obtain ⟨a, c, h3, h4, h5⟩ := h2 t ht
   exact ⟨a, c, (World.cell?_of_block (a := ⟨b, t, none⟩) (hr.at_ (hR b hb) (lt_cell h3))).trans h3, rd_blk h4 (hr.at_ (hR _ h5) (rd_lt h4 (by omega))), h5⟩⟩
theorem RdPR.keep (h : RdPR w R ao n l) (hb : Below w.heap.size w w') : RdPR w' R ao n l := h.rok (R' := R) (fr_below hb) (fun _ h => h)
variable {t : RS} {p q room croom K : Nat} {arm : Prop}
theorem pages_keep (h : PrgAt arm room croom K w p q R t) (hm : t.pages.length ≤ 400) (hK : K ≤ 400) :
   Calls Tryz.prog 20 #[.pointer (some ⟨p, 0, none⟩)] w fun e w' => ∃ ao cp R', e = .returned (.tuple #[.slice ao t.pages.length cp, .bool true]) ∧ RdPR w' R' ao t.pages.length t.pages ∧ t.pages.length ≤ cp ∧ PrgAt arm room croom (K + t.pages.length) w' p q R' t ∧ (∀ b, R b → R' b) ∧ Rok R w w' := by
 obtain ⟨m, hml⟩ : ∃ m, m = t.pages.length := ⟨_, rfl⟩
 have CP : Hid (∀ W Rj k, PrgAt arm room croom k W p q Rj t → Calls Tryz.prog 12 #[.pointer (some ⟨p, 0, none⟩)] W fun e w' => e = .returned (.int .i64 (m : Int)) ∧ Below W.heap.size W w') := hid (fun W Rj k hW => by rw [hml]; exact prg_pages hW)
 have HL := hid hml
 have H := hid h
 rw [← hml] at hm ⊢
 clear h hml
 go_enter Tryz.func20, Tryz.ntmps20
 go_wp2
 go_loopw [4, 5] (fun v4 v5 W => ∃ (j J : Nat) (ao : Option Addr) (cp : Nat) (vs : List Value) (Rj : Nat → Prop), J = j + 1 ∧ j ≤ m ∧ v5 = .int .i64 (J : Int) ∧ v4 = .slice ao j cp ∧ Hid (W.ownsRow w.heap.size 60 1 (.slice ao j cp) j vs) ∧ Hid (PR w.heap.size W Rj ao vs t.pages j) ∧ Hid (PrgAt arm room croom (K + j) W p q Rj t) ∧ Hid ((∀ b, R b → Rj b) ∧ (∀ a, ao = some a → Rj a.block) ∧ Rok R w W)) (fun _ v5 _ => m + 1 - (Lib.intOf v5).toNat)
 case atStart => exact ⟨0, 1, none, 0, [], R, rfl, by omega, rfl, rfl, hid ⟨rfl, Or.inl ⟨rfl, rfl⟩⟩, hid ⟨(fun k hk => by omega), rfl⟩, hid H.out, hid ⟨fun _ h => h, (fun a ha => by cases ha), Fr.refl _ _⟩⟩
 case round =>
   obtain ⟨j, J, ao, cp, vs, Rj, hJ, hj, rfl, rfl, O, PP, G, RR⟩ := hrel
   by_cases hjm : j < m
   · have hJm : (J : Int) ≤ (m : Int) := by omega
     have hJ5 : ¬ (500 : Int) < (J : Int) := by omega
     have e1 : IntKind.i64.wrap ((J : Int) + 1) = ((J + 1 : Nat) : Int) := by rw [IntWalk.i64_in _ ⟨by omega, by omega⟩]; omega
     have CG : Hid (∀ W, PrgAt arm room croom (K + j) W p q Rj t → Calls Tryz.prog 34 #[.pointer (some ⟨p, 0, none⟩), .int .i64 (J : Int)] W fun e w' => ∃ a cap, e = .returned (.tuple #[.slice (some a) 512 cap, .int .i64 0]) ∧ Rd w' (some a) 512 cap (t.pages.getD j []) ∧ W.heap.size ≤ a.block ∧ PrgAt arm room croom (K + j + 1) w' p q (fun b => Rj b ∨ b = a.block) t ∧ Rok Rj W w') := hid (fun W hW => by rw [hJ]; exact prg_get_keep j hW (by rw [← HL.out]; exact hjm) (by omega))
     have HJ := hid hJ
     clear hJ
     go_wp2_with (first
       | (go_at_call 12; refine (CP.out wr Rj _ G.out).mono ?_; rintro e w1 ⟨rfl, hb1⟩; have B1 := hid hb1; have G1 := hid (G.out.later0 hb1); clear hb1)
       | (go_at_call 34; refine (CG.out w1 G1.out).mono ?_; rintro e w2 ⟨a, cap, rfl, hrd, hab, hg2, hr2⟩; have RD := hid hrd; have AB := hid hab; have G2 := hid hg2; have R2 := hid hr2; have SR := hid (lit_src w2 [.slice (some a) 512 cap] 60 (by intro x hx; simp at hx; subst hx; rfl)); have O2 := hid (own_under O.out (fun k hk => ((R2.out.at_ (by cases ao with | none => cases hk | some ad => (cases hk; exact RR.out.2.1 ad rfl)) (Nat.lt_of_lt_of_le (own_bound (ownsRow_base_a O.out (Nat.zero_le _)) hk) B1.out.size)).trans (B1.out.block k (own_bound (ownsRow_base_a O.out (Nat.zero_le _)) hk))))); have O3 := hid (own_under O2.out (w' := w2.alloc (.cells #[.slice (some a) 512 cap] 60)) (fun k hk => heap_alloc_old _ _ _ (own_bound (ownsRow_base_a O2.out (Nat.zero_le _)) hk))); clear hrd hab hg2 hr2)
       | ((with_reducible refine Dsk.here_op 29 ?_); refine Cch.wpList_app rfl (.tmp 26) (.tmp 28) elP rfl (.slice ao j cp) j vs rfl (ownsRow_base_a O3.out (Nat.zero_le _)) (some ⟨w2.heap.size, 0, none⟩) 1 1 [.slice (some a) 512 cap] rfl SR.out (by omega) ?_; intro a7 c7 w7 ho7 hg7 ha7; have O7 := hid ho7; have G7 := hid hg7; have A7 := hid ha7; clear ho7 hg7 ha7))
     have hJl : ∀ k, (Value.slice ao j cp).ownBlock = some k → w.heap.size ≤ k ∧ k < w1.heap.size := fun k hk => ⟨own_blk O.out hk, Nat.lt_of_lt_of_le (own_bound (ownsRow_base_a O.out (Nat.zero_le _)) hk) B1.out.size⟩
     have hab : a.block < w2.heap.size := G2.out.rl a.block (Or.inr rfl)
     have b3 : Below w2.heap.size w2 (w2.alloc (.cells #[.slice (some a) 512 cap] 60)) := Below.alloc (Below.refl _ _) (Nat.le_refl _) _
     have f7 := fr_grown G7.out
     have G3 := G2.out.later0 b3
     have hE : ∀ b, (Value.slice ao j cp).ownBlock = some b → Rj b ∨ b = a.block := fun b hb => by
       cases ao with
       | none => cases hb
       | some ad => cases hb; exact Or.inl (RR.out.2.1 ad rfl)
     have ha7 : ∀ ad, a7 = some ad → (Value.slice ao j cp).ownBlock = some ad.block ∨ ad.block = (w2.alloc (.cells #[.slice (some a) 512 cap] 60)).heap.size := fun ad e => A7.out ad e
     have hs3 : (w2.alloc (.cells #[.slice (some a) 512 cap] 60)).heap.size = w2.heap.size + 1 := by simp
     have h7l : ∀ ad, a7 = some ad → ad.block < w7.heap.size := fun ad e => own_bound O7.out (by rw [e]; rfl)
     have G4 : PrgAt arm room croom (K + j + 1) w7 p q (fun b => (Rj b ∨ b = a.block) ∨ ∃ ad, a7 = some ad ∧ b = ad.block) t := G3.turn f7 hE (fun b hb => by
       rcases hb with hb | ⟨ad, e1, rfl⟩
       · exact Or.inl hb
       · rcases ha7 ad e1 with h1 | h1
         · exact Or.inl (hE _ h1)
         · exact Or.inr ⟨by omega, h7l ad e1⟩)
     have hsz12 := R2.out.size
     refine ⟨⟨j + 1, J + 1, a7, c7, vs ++ [.slice (some a) 512 cap], _, by have := HJ.out; omega, by omega, by first | rfl | rw [e1], rfl, hid (own_up O7.out (fun ad e => ?_)), hid ⟨fun k hk => ?_, by rw [List.length_append, PP.out.len]; rfl⟩, hid G4, hid ⟨fun b hb => Or.inl (Or.inl (RR.out.1 b hb)), fun ad e => Or.inr ⟨ad, e, rfl⟩, ?_⟩⟩, by have := HJ.out; simp [Lib.intOf]; omega⟩
     · have h0 := RR.out.2.2.size
       have h1 := B1.out.size
       rcases ha7 ad e with h2 | h2
       · exact (hJl _ h2).1
       · omega
     · by_cases hkj : k < j
       · obtain ⟨a', c', h1, h2, h3, h4⟩ := PP.out.at_ k hkj
         have hal : a'.block < wr.heap.size := G.out.rl a'.block h3
         refine ⟨a', c', by rw [List.getElem?_append_left (by rw [PP.out.len]; exact hkj)]; exact h1, ?_, Or.inl (Or.inl h3), fun ad e e2 => ?_⟩
         · have k1 := h2.keep B1.out
           have k2 : Rd w2 (some a') 512 c' (t.pages.getD k []) := rd_blk k1 (R2.out.at_ h3 (Nat.lt_of_lt_of_le hal B1.out.size))
           have k3 := k2.keep b3
           exact rd_fr f7 k3 (fun _ ad e hb => by
             cases e
             cases ao with
             | none => cases hb
             | some ad2 => exact h4 ad2 rfl (Option.some.inj (show some ad2.block = some a'.block from hb)).symm)
         · have h0 := B1.out.size
           rcases ha7 ad e with h5 | h5
           · cases ao with
             | none => cases h5
             | some ad2 => exact h4 ad2 rfl (e2.trans (Option.some.inj (show some ad2.block = some ad.block from h5)).symm)
           · omega
       · obtain rfl : k = j := by omega
         refine ⟨a, cap, by rw [List.getElem?_append_right (by rw [PP.out.len]; exact Nat.le_refl _), PP.out.len, Nat.sub_self]; rfl, rd_fr f7 (RD.out.keep b3) (fun _ ad e hb => ?_), Or.inl (Or.inr rfl), fun ad e e2 => ?_⟩
         · cases e
           have := (hJl _ hb).2; have := AB.out; omega
         · rcases ha7 ad e with h5 | h5
           · have := (hJl _ h5).2; have := AB.out; omega
           · omega
     · have h0 := RR.out.2.2.size
       have h1 := B1.out.size
       have s1 : Rok R w w1 := fr_trans RR.out.2.2 (fr_below (S := fun _ => False) B1.out) (fun _ h => h.elim)
       have s2 : Rok R w w2 := fr_trans s1 R2.out (fun b hb => Or.inl ⟨fun h => hb.1 (RR.out.1 b h), hb.2⟩)
       have s3 : Rok R w _ := fr_trans s2 (fr_below (S := fun _ => False) b3) (fun _ h => h.elim)
       exact fr_trans s3 f7 (fun b hb => Or.inr (hJl b hb).1)
   · obtain rfl : j = m := by omega
     have hJm : ¬ (J : Int) ≤ (j : Int) := by omega
     have HJ := hid hJ
     clear hJ
     go_wp2_with (go_at_call 12; refine (CP.out wr Rj _ G.out).mono ?_; rintro e w1 ⟨rfl, hb1⟩; have B1 := hid hb1; clear hb1)
     go_ret2
     refine ⟨ao, cp, Rj, rfl, RdPR.keep ?_ B1.out, ?_, G.out.later0 B1.out, RR.out.1, fr_trans RR.out.2.2 (fr_below (S := fun _ => False) B1.out) (fun _ h => h.elim)⟩
     · refine ⟨HL.out.symm, fun hn => ?_⟩
       obtain ⟨g, hg⟩ : ∃ g, ao = some ⟨g, 0, none⟩ := by
         rcases O.out.2 with ⟨hv, hz⟩ | ⟨g, cap', cur, hv, _⟩
         · omega
         · simp only [Value.slice.injEq] at hv; exact ⟨g, hv.1⟩
       subst hg
       refine ⟨g, rfl, RR.out.2.1 _ rfl, fun k hk => ?_⟩
       obtain ⟨a, c, h1, h2, h3, _⟩ := PP.out.at_ k hk
       refine ⟨a, c, ?_, h2, h3⟩
       have := O.out.cells (g := g) rfl k _ h1
       rw [Addr.add_lit] at this; simpa using this
     · obtain ⟨ao', cap', hv, hno, hso⟩ := Cch.row_form (ownsRow_base_a O.out (Nat.zero_le _))
       simp only [Value.slice.injEq] at hv
       obtain ⟨rfl, -, rfl⟩ := hv
       cases ao with
       | none => have := (hno rfl).1; omega
       | some a => exact (hso a rfl).2.1
theorem pages_any (h : PrgAt arm room croom K w p q R t) (hm : t.pages.length ≤ 400) (hK : K ≤ 400) :
   Calls Tryz.prog 20 #[.pointer (some ⟨p, 0, none⟩)] w fun e w' => ∃ ao cp, e = .returned (.tuple #[.slice ao t.pages.length cp, .bool true]) ∧ RdP w' ao t.pages.length t.pages ∧ t.pages.length ≤ cp ∧ Rok R w w' := by
 refine (pages_keep h hm hK).mono ?_
 rintro e w' ⟨ao, cp, R', h1, h2, h3, _, _, h4⟩
 exact ⟨ao, cp, h1, h2.rdP, h3, h4⟩
end
section
open Go.RowKit Go.Maps
open Dsk (gt hid undrew keep_old keep_cell lt_cell Rd DS FS Sec DiskP DFrame Grew From op_at idx dirtD was secD sureF sureF_ok crashD newD)
open Cch (CS CP Fr)
structure Pv where
 k : Int
 n : Int
 s : Nat
 sh : Bool
def RS.did (t : RS) (a : Pv) : RS :=
 if a.k = 0 then t.aBegin.2 else if a.k = 1 then (t.aPut a.n (bl a.sh) (bb a.s a.sh)).2 else if a.k = 2 then t.aGrow.2.2 else if a.k = 3 then (t.aShrink a.n).2 else if a.k = 4 then t.aMark.2.2 else if a.k = 5 then (t.aUndo a.n).2 else if a.k = 6 then t.aRoll.2 else if a.k = 7 then t.aCommit.2 else t
variable {p q croom K : Nat} {w : World}
theorem act_any {r : Nat} {O : Nat → Prop} {t : RS} (h : Both False 4000 croom K w p q r O t) (hK : K ≤ 100) (k n : Int) (s : Nat) (sh : Bool) (hs : s < 256) :
   Calls Tryz.prog 11 #[.pointer (some ⟨p, 0, none⟩), .pointer (some ⟨r, 0, none⟩), .agg #[.int .i64 k, .int .i64 n, .int .u8 (s : Int), .bool sh]] w (Acted False 4000 croom K w p q r O (t.did ⟨k, n, s, sh⟩)) := by
 unfold RS.did
 by_cases h0 : k = 0
 · rw [if_pos h0]; subst h0; exact act_begin h hK n s sh
 rw [if_neg h0]
 by_cases h1 : k = 1
 · rw [if_pos h1]; subst h1; exact act_put h hK n s sh hs
 rw [if_neg h1]
 by_cases h2 : k = 2
 · rw [if_pos h2]; subst h2; exact act_grow h hK n s sh
 rw [if_neg h2]
 by_cases h3 : k = 3
 · rw [if_pos h3]; subst h3; exact act_shrink h hK n s sh
 rw [if_neg h3]
 by_cases h4 : k = 4
 · rw [if_pos h4]; subst h4; exact act_mark h hK n s sh
 rw [if_neg h4]
 by_cases h5 : k = 5
 · rw [if_pos h5]; subst h5; exact act_undo h hK n s sh
 rw [if_neg h5]
 by_cases h6 : k = 6
 · rw [if_pos h6]; subst h6; exact act_roll h hK n s sh
 rw [if_neg h6]
 by_cases h7 : k = 7
 · rw [if_pos h7]; subst h7; exact act_commit h hK n s sh
 rw [if_neg h7]
 have hk : ∀ i : Int, 0 ≤ i → i ≤ 7 → k ≠ i := fun i a b e => by omega
 by_cases hz : n < 1 ∨ (t.pages.length : Int) < n
 · exact act_get_no h hK n s sh k hk hz
 · exact act_get_yes h hK n s sh k hk (n - 1).toNat (by omega) (by omega)
section
variable {arm : Prop} {room croom K : Nat} {p q : Nat} {R : Nat → Prop} {t : RS} {w w' : World}
theorem prg_busy (h : PrgAt arm room croom K w p q R t) : Calls Tryz.prog 14 #[.pointer (some ⟨p, 0, none⟩)] w fun e w' => e = .returned (.bool t.busy) ∧ Below w.heap.size w w' := by
 obtain ⟨x, P, C, d, s, n, enc, ms, h⟩ := h
 refine (busy_live p x w h.live.tx.core.hd).mono ?_
 rintro e w' ⟨rfl, hb⟩
 exact ⟨by rw [h.busy], hb⟩
theorem prg_commits (h : PrgAt arm room croom K w p q R t) : Calls Tryz.prog 15 #[.pointer (some ⟨p, 0, none⟩)] w fun e w' => e = .returned (.int .i64 (t.n : Int)) ∧ Below w.heap.size w w' := by
 obtain ⟨x, P, C, d, s, n, enc, ms, h⟩ := h
 refine (commits_live p x w h.live.tx.core.hd).mono ?_
 rintro e w' ⟨rfl, hb⟩
 exact ⟨by rw [h.com], hb⟩
def RS.chg (t : RS) : List Nat := chK t.c t.busy t.c.length
theorem chg_ch (t : RS) : chL t.ch = t.chg := by
 unfold RS.chg RS.ch
 cases t.busy with
 | true => rw [if_pos rfl, chK_all]
 | false =>
   rw [chK_false, if_neg (by decide)]
   refine List.eq_nil_iff_forall_not_mem.2 (fun i hi => ?_)
   have h1 := (chL_mem hi).2.2
   rw [List.getD, List.getElem?_replicate] at h1
   split at h1 <;> cases h1
theorem prg_changed (h : PrgAt arm room croom K w p q R t) : Calls Tryz.prog 17 #[.pointer (some ⟨p, 0, none⟩)] w fun e w' => ∃ ao cp, e = .returned (.slice ao t.chg.length cp) ∧ RdI w' ao t.chg.length t.chg ∧ t.chg.length ≤ cp ∧ Below w.heap.size w w' := by
 obtain ⟨x, P, C, d, s, n, enc, ms, h⟩ := h
 refine (changed_live p x P C d s t.sure n t.pages t.ch enc w h.live.tx).mono ?_
 rintro e w' ⟨v, rfl, ho, hb⟩
 rw [chg_ch] at ho
 obtain ⟨ao, cap, rfl, hno, hso⟩ := Cch.row_form (ownsRow_base_a ho (Nat.zero_le _))
 refine ⟨ao, cap, rfl, rdI_own ho, ?_, hb⟩
 cases ao with
 | none => have := (hno rfl).1; omega
 | some a => exact (hso a rfl).2.1
theorem doc_changed {r : Nat} {S : Nat → Prop} {V : RV} (h : RefP w r S V t) (hl : t.c.length ≤ 4000) : Calls Tryz.prog 18 #[.pointer (some ⟨r, 0, none⟩)] w fun e w' => ∃ ao cp, e = .returned (.slice ao t.chg.length cp) ∧ RdI w' ao t.chg.length t.chg ∧ t.chg.length ≤ cp ∧ Below w.heap.size w w' := by
 refine (rchanged_any r S V t w h hl).mono ?_
 rintro e w' ⟨ao, cp, rfl, ho, hb⟩
 refine ⟨ao, cp, rfl, rdI_own ho, ?_, hb⟩
 obtain ⟨ao', cap, e, hno, hso⟩ := Cch.row_form (ownsRow_base_a ho (Nat.zero_le _))
 simp only [Value.slice.injEq] at e
 obtain ⟨rfl, -, rfl⟩ := e
 cases ao with
 | none => have := (hno rfl).1; unfold RS.chg; omega
 | some a => exact (hso a rfl).2.1
end
def rt0 : RS := ⟨[], [], [], false, [], 0, 0⟩
def rv0 : RV := ⟨.slice none 0 0, .slice none 0 0, .slice none 0 0, .slice none 0 0, []⟩
def zeroRef : Obj := .cells #[.slice none 0 0, .slice none 0 0, .slice none 0 0, .bool false, .slice none 0 0, .int .i64 0, .int .i64 0] 35
def Old (w : World) : Nat → Prop := fun b => b < w.heap.size ∧ b ≠ 0
variable {w' : World}
theorem old_below (h : Stay (Old w) w w') : Below w.heap.size w w' := ⟨h.os, h.tape, h.output, h.size, fun k hk => h.blk k hk (fun e => e.1 ⟨hk, e.2⟩)⟩
theorem below_old (h : Below w.heap.size w w') : Stay (Old w) w w' := fr_below h
variable {x : PC} {room : Nat}
theorem opened {arm : Prop} {P : Dsk.Parts} {d : DS} {l : List Pg} {R : Nat → Prop} (ho : OpenTo w w' q P d croom l p x) (hs : Sured d l) (he : Env arm room d) (hop : d.ops ≤ K * 1000) (hR : ∀ b, R b → b < w.heap.size ∧ ¬ DN q P b ∧ b ≠ 0) : PrgAt arm room croom K w' p q R ⟨l, [], [], false, [], 0, 0⟩ := by
 obtain ⟨P', C, s, hr, e1, e2, e3, hN⟩ := ho.is
 obtain ⟨m1, m2, m3, m4⟩ := ho.mks
 have hL := hr.live ⟨m1, m2, m3⟩
 refine ⟨x, P', C, d, s, 0, _, [], hL, ho.xq, ho.busy, ho.com, (fun e => by cases e), (fun _ => ⟨rfl, m4⟩), fun b hb hRb => ?_, hs, he, hop, by rw [e1, e2]; exact Nat.zero_le _, e3, Nat.zero_le _, (fun k hk => by cases hk), fun b hb => Nat.lt_of_lt_of_le (hR b hb).1 ho.fr.size⟩
 have h1 := hR b hRb
 rcases hb with hb | hb | hb | hb | ⟨o, l, cc, hb⟩ | ⟨k, hk, _⟩
 · rcases hN b hb with h2 | h2
   · exact h1.2.1 h2
   · omega
 · have := ho.mnew; omega
 · exact h1.2.2 hb
 · unfold PC.mv at hb; rw [m1] at hb; cases hb
 · exact enc_nil _ _ o l cc hb
 · cases hk
theorem both_new {w1 w2 : World} {P : Dsk.Parts} (B1 : Below w.heap.size w w1) (hP : ∀ k, P.all k → w.heap.size < k) (ho : OpenTo w1 w2 w.heap.size P (newD room) croom [] p x) :
   Both False room croom 0 (w2.alloc zeroRef) p w.heap.size w2.heap.size (Old w) rt0 ∧ Stay (Old w) w (w2.alloc zeroRef) := by
 have hdn : ∀ b, b < w.heap.size → ¬ DN w.heap.size P b := fun b hb hd => by
   rcases hd with h1 | h1
   · omega
   · have := hP b h1; omega
 have hs1 := B1.size
 have hs2 := ho.fr.size
 have hp : PrgAt False room croom 0 w2 p w.heap.size (Old w) rt0 := opened ho ⟨rfl, rfl⟩ ⟨rfl, fun _ => rfl, rfl, by show 0 ≤ _; omega⟩ (Nat.zero_le _) (fun b hb => ⟨by have := hb.1; omega, hdn b hb.1, hb.2⟩)
 have ba : Below w2.heap.size w2 (w2.alloc zeroRef) := (Below.refl _ _).alloc (Nat.le_refl _) _
 have bz : (w2.alloc zeroRef).heap.size = w2.heap.size + 1 := by simp
 refine ⟨⟨fun _ => False, rv0, ⟨heap_alloc_new w2 _, fun h => h, (fun k hk => hk.elim), ⟨⟨[], ⟨rfl, Or.inl ⟨rfl, rfl⟩⟩, ⟨rfl, fun i v x hv => by cases hv⟩⟩, fun k hk => by cases hk⟩, ⟨⟨[], ⟨rfl, Or.inl ⟨rfl, rfl⟩⟩, ⟨rfl, fun i v x hv => by cases hv⟩⟩, fun k hk => by cases hk⟩, ⟨⟨rfl, Or.inl ⟨rfl, rfl⟩⟩, fun k hk => by cases hk⟩, rfl, ⟨rfl, Or.inl ⟨rfl, rfl⟩⟩, (fun k hk => by cases hk), rfl, (fun i m v hm => by cases hm), (fun e => by cases e)⟩, hp.more ba (fun b hb => ?_), ⟨Nat.zero_le _, Nat.zero_le _, rfl, (fun m hm => by cases hm), Nat.zero_le _, Nat.zero_le _, Nat.zero_le _⟩, fun b hb => ⟨by have := hb.1; omega, fun h => h, by have := hb.1; omega⟩⟩, ?_⟩
 · rcases hb with hb | hb | hb
   · right; omega
   · exact hb.elim
   · exact Or.inl hb
 · refine fr_trans (below_old B1) (fr_trans ho.fr (fr_below (S := fun _ => False) ba) (fun _ h => h.elim)) (fun b hb => ?_)
   rcases Nat.lt_or_ge b w.heap.size with h1 | h1
   · exact (hdn b h1 hb).elim
   · exact Or.inr h1
end
section
open Go.RowKit Go.Maps
open Dsk (gt hid undrew keep_old keep_cell lt_cell Rd DS FS Sec DiskP DFrame Grew From op_at idx dirtD was secD sureF sureF_ok crashD newD)
open Cch (CS CP Fr)
structure Rem (croom : Nat) (W : World) (p r : Nat) (x : PC) (C : Cch.Parts) (s : CS) (S : Nat → Prop) (V : RV) (t : RS) : Prop where
 hd : PgAt W p x
 ck : CP W x.k C s
 len : s.l.length ≤ croom
 ref : RefP W r S V t
def RB (p r : Nat) (x : PC) (C : Cch.Parts) (S O : Nat → Prop) : Nat → Prop := fun b => b = p ∨ C.S x.k b ∨ RO r S O b
variable {t : RS} {V : RV} {S O : Nat → Prop} {s : CS} {x : PC} {p r croom : Nat} {W W' : World}
theorem Rem.rok {C : Cch.Parts} {R : Nat → Prop} (h : Rem croom W p r x C s S V t) (hr : Rok R W W') (hR : ∀ b, RB p r x C S O b → R b) : Rem croom W' p r x C s S V t :=
 ⟨h.hd.stay (hr.at_ (hR p (Or.inl rfl)) h.hd.lt), h.ck.stay (fun b hb hS => hr.at_ (hR b (Or.inr (Or.inl hS))) hb), h.len, h.ref.stay hr.size (fun k hk hkS => hr.at_ (hR k (Or.inr (Or.inr (by rcases hkS with h1 | h1; exact Or.inr (Or.inl h1); exact Or.inl h1)))) hk)⟩
theorem Rem.later {C : Cch.Parts} (h : Rem croom W p r x C s S V t) (hb : Below W.heap.size W W') : Rem croom W' p r x C s S V t :=
 ⟨h.hd.later hb, h.ck.later hb, h.len, h.ref.later hb⟩
theorem cached_rem (p : Nat) (x : PC) (C : Cch.Parts) (s : CS) (w : World) (hd : PgAt w p x) (ck : CP w x.k C s) : Calls Tryz.prog 22 #[.pointer (some ⟨p, 0, none⟩)] w fun e w' => e = .returned (.int .i64 (s.l.length : Int)) ∧ Below w.heap.size w w' := by
 have c := hid (fault_any p true 0 w hd.fate)
 have H := hid hd; have HC := hid ck
 clear hd ck
 go_enter Tryz.func22, Tryz.ntmps22
 go_wp2_with (first
   | (go_at_call 53; refine c.out.mono ?_; rintro e w1 ⟨rfl, hb1⟩; have B1 := hid hb1; obtain ⟨a0, a1, a2, a3, a4, a5, a6, a7, a8, a9, a10, a11⟩ := (H.out.later hb1).cells; have K1 := hid (HC.out.later hb1); clear hb1)
   | (go_at_call 57; refine (Cch.len_call x.k C s w1 K1.out).mono ?_; rintro e w2 ⟨rfl, hw2⟩; obtain rfl := hw2.symm))
 go_ret
 exact ⟨rfl, B1.out⟩
def RS.shut (t : RS) : RS := ⟨t.sure, [], [], false, [], 0, 0⟩
variable {w : World}
theorem reopen {arm : Prop} {room K : Nat} {q : Nat} (h : AS arm room croom K K w p q r S V O t t) (hK : K ≤ 400) :
   Calls Tryz.prog 10 #[.pointer (some ⟨q, 0, none⟩), .int .i64 8] w fun e w' => ∃ p2 x2 x C s R2, e = .returned (.tuple #[.pointer (some ⟨p2, 0, none⟩), .int .i64 0]) ∧ PgAt w' p2 x2 ∧ x2.rep = 0 ∧ PrgAt arm room 8 K w' p2 q R2 t.shut ∧ (∀ b, RB p r x C S O b → R2 b) ∧ Rem croom w' p r x C s S V t ∧ Stay O w w' := by
 obtain ⟨x, P, C, d, s, n, enc, ms, k⟩ := h.prg
 have hx := k.live.tx
 have hq : x.q = q := k.q
 have hdk : DiskP w q P d := by rw [← hq]; exact hx.core.dk
 have hnc : ∀ b, DN q P b → NC p x P C b := fun b hb => Or.inl (by rw [hq]; exact hb)
 have hops := k.ops
 have hk : K * 1000 ≤ 400 * 1000 := Nat.mul_le_mul_right _ hK
 have h8 := open_clean q 8 P d t.sure w hdk ⟨by rw [k.sure.f0]; rfl, by rw [k.sure.f1]; rfl, k.env.on⟩ hx.ws hx.bs (by omega) (by omega) hx.tab ⟨hx.t0.1, fun hd => hx.t0.2 (hnc 0 hd)⟩ (by omega)
 refine h8.mono ?_
 rintro e w' ⟨p2, x2, rfl, ho⟩
 have hRB : ∀ b, RB p r x C S O b → b < w.heap.size ∧ ¬ DN q P b ∧ b ≠ 0 := fun b hb => by
   rcases hb with rfl | hb | hb
   · exact ⟨hx.core.hd.lt, fun hd => hx.core.dp (by rw [hq]; exact hd), fun e => hx.t0.2 (Or.inr (Or.inr e.symm))⟩
   · exact ⟨hx.core.ck.lt hb, fun hd => hx.core.dc b (by rw [hq]; exact hd) hb, fun e => hx.t0.2 (Or.inr (Or.inl (by rw [← e]; exact hb)))⟩
   · exact ⟨k.rl b hb, fun hd => k.off b (Or.inl (hnc b hd)) hb, fun e => k.off 0 (Or.inr (Or.inr (Or.inl rfl))) (by rw [← e]; exact hb)⟩
 have hfit := hx.fits.len
 rw [k.rm] at hfit
 have hblk : ∀ b, RB p r x C S O b → w'.heap[b]? = w.heap[b]? := fun b hb => ho.fr.blk b (hRB b hb).1 (hRB b hb).2.1
 obtain ⟨P', C2, s2, hr2, _⟩ := ho.is
 refine ⟨p2, x2, x, C, s, RB p r x C S O, rfl, hr2.core.hd, ho.rep, opened ho k.sure k.env hops hRB, fun _ h => h, ⟨hx.core.hd.stay (hblk p (Or.inl rfl)), hx.core.ck.stay (fun b _ hS => hblk b (Or.inr (Or.inl hS))), hfit, h.ref.stay ho.fr.size (fun b _ hb => hblk b (Or.inr (Or.inr (by rcases hb with h1 | h1; exact Or.inr (Or.inl h1); exact Or.inl h1))))⟩, fr_imp ho.fr (fun b hb => ⟨fun hO => (hRB b (Or.inr (Or.inr (Or.inr (Or.inr hO))))).2.1 hb, fun e => hx.t0.2 (hnc 0 (by rw [← e]; exact hb))⟩)⟩
theorem rdP_of {v : Value} {l : List Pg} (h : LAt w S v l) : ∃ ao cap, v = .slice ao l.length cap ∧ RdP w ao l.length l ∧ l.length ≤ cap := by
 obtain ⟨ao, cap, rfl, hno, hso⟩ := h.form
 obtain ⟨vs, ho, hp⟩ := h.row
 refine ⟨ao, cap, rfl, ⟨rfl, fun hn => ?_⟩, ?_⟩
 · cases ao with
   | none => have := (hno rfl).1; omega
   | some a =>
     obtain ⟨e1, _, _⟩ := hso a rfl
     rw [e1] at ho ⊢
     refine ⟨a.block, 0, rfl, fun k hk => ?_⟩
     have hkv : k < vs.length := by rw [hp.len]; exact hk
     have h1 := hp.at_ k vs[k] l[k] (List.getElem?_eq_getElem hkv) (List.getElem?_eq_getElem hk)
     obtain ⟨g, c, e2, _⟩ := h1.form
     obtain ⟨a2, c2, e3, hrd, _⟩ := Dsk.rd_owned h1.1
     have hc := ho.cells (g := a.block) rfl k _ (List.getElem?_eq_getElem hkv)
     rw [Addr.add_lit] at hc
     refine ⟨a2, c2, ?_, ?_⟩
     · rw [e3] at hc; simpa using hc
     · rw [List.getD, List.getElem?_eq_getElem hk]; exact hrd
 · cases ao with
   | none => have := (hno rfl).1; omega
   | some a => exact (hso a rfl).2.1
end
end Go.Proofs.YtadhdedjdgjboaaGreatDoor
