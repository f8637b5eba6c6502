/- Both pagers side by side; no statement of the seat is proved here. -/
import Derived.Test.YtadhdedjdgjboaaGreatDoorG44
import Derived.Test.YtadhdedjdgjboaaGreatDoorG17
set_option maxHeartbeats 16000000
set_option maxRecDepth 20000
namespace Go.Proofs.YtadhdedjdgjboaaGreatDoor
section
open Go.RowKit Go.Maps
open Dsk (gt hid undrew keep_old keep_cell lt_cell Rd DS FS Sec DiskP DFrame Grew From op_at idx dirtD was secD sureF sureF_ok crashD)
open Cch (CS CP Fr)
section
variable {arm : Prop} {room croom K : Nat} {p q : Nat} {R : Nat → Prop} {t : RS} {w w' : World}
theorem PrgAt.more {R' : Nat → Prop} (h : PrgAt arm room croom K w p q R t) (hb : Below w.heap.size w w') (hR : ∀ b, R' b → R b ∨ (w.heap.size ≤ b ∧ b < w'.heap.size)) : PrgAt arm room croom K w' p q R' t := by
 obtain ⟨x, P, C, d, s, n, enc, ms, h⟩ := h
 refine ⟨x, P, C, d, s, n, enc, ms, h.live.later hb, h.q, h.busy, h.com, h.mb, h.mr, fun b hS hb' => ?_, h.sure, h.env, h.ops, h.hm, h.rm, h.nk, h.nm, fun b hb' => ?_⟩
 · rcases hR b hb' with h1 | h1
   · exact h.off b hS h1
   · have := h.live.lt b hS; omega
 · rcases hR b hb' with h1 | h1
   · exact Nat.lt_of_lt_of_le (h.rl b h1) hb.size
   · exact h1.2
theorem PrgAt.later0 (h : PrgAt arm room croom K w p q R t) (hb : Below w.heap.size w w') : PrgAt arm room croom K w' p q R t := h.more hb (fun _ h => Or.inl h)
theorem prg_begin2 (h : PrgAt arm room croom K w p q R t) : Calls Tryz.prog 30 #[.pointer (some ⟨p, 0, none⟩)] w (POk arm room croom K p q R w (.int .i64 t.aBegin.1) t.aBegin.2) := by
 have := prg_begin h
 unfold RS.aBegin
 cases hb : t.busy <;> (rw [hb] at this; exact this)
theorem prg_roll (h : PrgAt arm room croom K w p q R t) : Calls Tryz.prog 39 #[.pointer (some ⟨p, 0, none⟩)] w (POk arm room croom K p q R w (.int .i64 t.aRoll.1) t.aRoll.2) := prg_rollback h
theorem prg_grow (h : PrgAt arm room croom K w p q R t) (hT : TB K t) (hK : K ≤ 100) : Calls Tryz.prog 31 #[.pointer (some ⟨p, 0, none⟩)] w (POk arm room croom K p q R w (.tuple #[.int .i64 t.aGrow.1, .int .i64 t.aGrow.2.1]) t.aGrow.2.2) := by
 unfold RS.aGrow
 cases hb : t.busy with
 | false => exact prg_grow_no h hb
 | true => exact prg_grow_yes h hb hT hK
theorem prg_mark (h : PrgAt arm room croom K w p q R t) (hT : TB K t) (hK : K ≤ 100) : Calls Tryz.prog 35 #[.pointer (some ⟨p, 0, none⟩)] w (POk arm room croom K p q R w (.tuple #[.int .i64 t.aMark.1, .int .i64 t.aMark.2.1]) t.aMark.2.2) := by
 unfold RS.aMark
 cases hb : t.busy with
 | false => exact prg_mark_no h hb
 | true => exact prg_mark_yes h hb hT hK
theorem prg_commit (h : PrgAt False 4000 croom K w p q R t) (hT : TB K t) (hK : K ≤ 100) : Calls Tryz.prog 27 #[.pointer (some ⟨p, 0, none⟩)] w (POk False 4000 croom K p q R w (.int .i64 t.aCommit.1) t.aCommit.2) := by
 unfold RS.aCommit
 cases hb : t.busy with
 | false => exact prg_commit_no h hb
 | true => exact prg_commit_yes h hb hT hK
theorem prg_shrink (h : PrgAt arm room croom K w p q R t) (z : Int) : Calls Tryz.prog 37 #[.pointer (some ⟨p, 0, none⟩), .int .i64 z] w (POk arm room croom K p q R w (.int .i64 (t.aShrink z).1) (t.aShrink z).2) := by
 unfold RS.aShrink
 cases hb : t.busy with
 | false => exact prg_shrink_no z h hb
 | true =>
   rw [if_pos rfl]
   by_cases hz : z < 0 ∨ (t.now.length : Int) < z
   · rw [if_pos hz]; exact prg_shrink_range z h hb hz
   · rw [if_neg hz]
     obtain ⟨n, hn⟩ : ∃ n : Nat, z = (n : Int) := ⟨z.toNat, by omega⟩
     subst hn
     rw [Int.toNat_natCast]
     exact prg_shrink_yes n h hb (by omega)
theorem prg_undo (h : PrgAt arm room croom K w p q R t) (hT : TB K t) (hK : K ≤ 100) (z : Int) : Calls Tryz.prog 38 #[.pointer (some ⟨p, 0, none⟩), .int .i64 z] w (POk arm room croom K p q R w (.int .i64 (t.aUndo z).1) (t.aUndo z).2) := by
 unfold RS.aUndo
 cases hb : t.busy with
 | false => exact prg_undo_no z h hb
 | true =>
   rw [if_pos rfl]
   by_cases hi : t.ix z < t.marks.length
   · rw [if_pos hi]
     refine prg_undo_yes z (t.ix z) h hb hT hK hi ?_
     have h1 : decide (((t.marks[t.ix z]).id : Int) = z) = true := List.findIdx_getElem (p := fun m : RM => decide ((m.id : Int) = z)) (w := hi)
     rw [List.getD, List.getElem?_eq_getElem hi]
     simpa using h1
   · rw [if_neg hi]
     refine prg_undo_none z h hb hT hK (fun m hm e => hi ?_)
     exact List.findIdx_lt_length_of_exists ⟨m, hm, by simpa using e⟩
theorem prg_put (h : PrgAt arm room croom K w p q R t) (hK : K ≤ 100) (z : Int) (sb so l cap : Nat) (b : Pg) (hr : Rd w (some ⟨sb, so, none⟩) l cap b) (hbb : ∀ y ∈ b, y < 256) : Calls Tryz.prog 32 #[.pointer (some ⟨p, 0, none⟩), .int .i64 z, .slice (some ⟨sb, so, none⟩) l cap] w (POk arm room croom K p q R w (.int .i64 (t.aPut z l b).1) (t.aPut z l b).2) := by
 unfold RS.aPut
 cases hb : t.busy with
 | false => exact prg_put_no z _ h hb
 | true =>
   rw [if_pos rfl]
   by_cases hz : z < 1 ∨ (t.now.length : Int) < z
   · rw [if_pos hz]; exact prg_put_range z _ h hb (by rcases hz with h | h <;> simp <;> omega)
   · rw [if_neg hz]
     by_cases hl : l = 512
     · rw [if_pos hl]
       subst hl
       obtain ⟨i, hi⟩ : ∃ i : Nat, z = ((i + 1 : Nat) : Int) := ⟨(z - 1).toNat, by omega⟩
       subst hi
       have hi : (((i + 1 : Nat) : Int) - 1).toNat = i := by omega
       rw [hi]
       exact prg_put_yes i sb so cap b h hb (by omega) hK hr hbb
     · rw [if_neg hl]
       exact prg_put_arg z _ l cap h hb (by simp; omega) hl
end
def RO (r : Nat) (S O : Nat → Prop) : Nat → Prop := fun b => b = r ∨ S b ∨ O b
def Stay (O : Nat → Prop) (w w' : World) : Prop := Fr (fun b => ¬ O b ∧ b ≠ 0) w w'
variable {w w' : World} {O : Nat → Prop}
theorem Stay.at_ (h : Stay O w w') {b : Nat} (hb : O b) (hl : b < w.heap.size) : w'.heap[b]? = w.heap[b]? := h.blk b hl (fun k => k.1 hb)
structure AS (arm : Prop) (room croom K K2 : Nat) (w : World) (p q r : Nat) (S : Nat → Prop) (V : RV) (O : Nat → Prop) (t t2 : RS) : Prop where
 ref : RefP w r S V t
 prg : PrgAt arm room croom K2 w p q (RO r S O) t2
 tb : TB K t
 o : ∀ b, O b → b ≠ r ∧ ¬ S b ∧ b < w.heap.size
def Both (arm : Prop) (room croom K : Nat) (w : World) (p q r : Nat) (O : Nat → Prop) (t : RS) : Prop := ∃ S V, AS arm room croom K K w p q r S V O t t
section
variable {arm : Prop} {room croom K K2 : Nat} {p q r : Nat} {S O : Nat → Prop} {V : RV} {t t2 : RS} {w w' : World}
theorem AS.later (h : AS arm room croom K K2 w p q r S V O t t2) (hb : Below w.heap.size w w') : AS arm room croom K K2 w' p q r S V O t t2 :=
 ⟨h.ref.later hb, h.prg.later0 hb, h.tb, fun b hO => ⟨(h.o b hO).1, (h.o b hO).2.1, Nat.lt_of_lt_of_le (h.o b hO).2.2 hb.size⟩⟩
theorem AS.more (h : AS arm room croom K K2 w p q r S V O t t2) (hb : Below w.heap.size w w') {O' : Nat → Prop} (hO : ∀ b, O' b → O b ∨ (w.heap.size ≤ b ∧ b < w'.heap.size)) : AS arm room croom K K2 w' p q r S V O' t t2 := by
 refine ⟨h.ref.later hb, h.prg.more hb (fun b hR => ?_), h.tb, fun b hb' => ?_⟩
 · rcases hR with h1 | h1 | h1
   · exact Or.inl (Or.inl h1)
   · exact Or.inl (Or.inr (Or.inl h1))
   · rcases hO b h1 with h2 | h2
     · exact Or.inl (Or.inr (Or.inr h2))
     · exact Or.inr h2
 · rcases hO b hb' with h2 | h2
   · exact ⟨(h.o b h2).1, (h.o b h2).2.1, Nat.lt_of_lt_of_le (h.o b h2).2.2 hb.size⟩
   · have := h.ref.rlt
     exact ⟨by omega, fun hS => by have := h.ref.lt b hS; omega, h2.2⟩
theorem AS.box (h : AS arm room croom K K2 w p q r S V O t t2) (o : Obj) : AS arm room croom K K2 (w.alloc o) p q r S V (fun b => O b ∨ b = w.heap.size) t t2 :=
 h.more ((Below.refl _ _).alloc (Nat.le_refl _) _) (fun b hb => by
   rcases hb with hb | hb
   · exact Or.inl hb
   · right; rw [hb]; simp)
theorem AS.did (h : AS arm room croom K K w p q r S V O t t) {t' : RS} (hp : PrgAt arm room croom (K + 1) w' p q (RO r S O) t') (hr : Rok (RO r S O) w w') : AS arm room croom K (K + 1) w' p q r S V O t t' ∧ Stay O w w' :=
 ⟨⟨h.ref.stay hr.size (fun k hl hk => hr.at_ (show RO r S O k from (by rcases hk with hk | hk; exact Or.inr (Or.inl hk); exact Or.inl hk)) hl), hp, h.tb, fun b hO => ⟨(h.o b hO).1, (h.o b hO).2.1, Nat.lt_of_lt_of_le (h.o b hO).2.2 hr.size⟩⟩, fr_imp hr (fun b hb => ⟨fun hO => hb.1 (Or.inr (Or.inr hO)), hb.2⟩)⟩
theorem AS.done (h : AS arm room croom K K2 w p q r S V O t t2) (hd : RTo w w' r S t2) (hT : TB K2 t2) : Both arm room croom K2 w' p q r O t2 ∧ Stay O w w' := by
 obtain ⟨⟨S', V', h1, h2⟩, h3⟩ := hd
 obtain ⟨x, P, C, d, s, n, enc, ms, k⟩ := h.prg
 have ho : ∀ b, O b → ¬ (b = r ∨ S b) := fun b hb e => by
   rcases e with e | e
   · exact (h.o b hb).1 e
   · exact (h.o b hb).2.1 e
 refine ⟨⟨S', V', h1, ⟨x, P, C, d, s, n, enc, ms, k.live.off h3 (fun b hS e => k.off b hS (by rcases e with e | e; exact Or.inl e; exact Or.inr (Or.inl e))), k.q, k.busy, k.com, k.mb, k.mr, fun b hb hR => ?_, k.sure, k.env, k.ops, k.hm, k.rm, k.nk, k.nm, fun b hb => ?_⟩, hT, fun b hO => ⟨(h.o b hO).1, fun hS => ?_, Nat.lt_of_lt_of_le (h.o b hO).2.2 h3.size⟩⟩, fr_imp h3 (fun b hb => ⟨fun hO => ho b hO hb, fun e => k.off 0 (Or.inr (Or.inr (Or.inl rfl))) (by rw [e] at hb; rcases hb with hb | hb; exact Or.inl hb; exact Or.inr (Or.inl hb))⟩)⟩
 · rcases hR with hR | hR | hR
   · exact k.off b hb (Or.inl hR)
   · rcases h2 b hR with h4 | h4
     · exact k.off b hb (Or.inr (Or.inl h4))
     · have := k.live.lt b hb; omega
   · exact k.off b hb (Or.inr (Or.inr hR))
 · rcases hb with rfl | hb | hb
   · exact h1.rlt
   · exact h1.lt b hb
   · exact Nat.lt_of_lt_of_le (h.o b hb).2.2 h3.size
 · rcases h2 b hS with h4 | h4
   · exact (h.o b hO).2.1 h4
   · have := (h.o b hO).2.2; omega
variable {O' : Nat → Prop}
theorem Both.less (h : Both arm room croom K w p q r O t) (hO : ∀ b, O' b → O b) : Both arm room croom K w p q r O' t := by
 obtain ⟨S, V, h⟩ := h
 exact ⟨S, V, h.more (Below.refl _ _) (fun b hb => Or.inl (hO b hb))⟩
theorem Stay.trans {w1 w2 w3 : World} (h : Stay O w1 w2) (k : Stay O w2 w3) : Stay O w1 w3 := fr_trans h k (fun _ h => Or.inl h)
theorem Stay.less (h : Stay O w w') (hO : ∀ b, O' b → O b) : Stay O' w w' := fr_imp h (fun b hb => ⟨fun h1 => hb.1 (hO b h1), hb.2⟩)
theorem Stay.below (hb : Below w.heap.size w w') (_hO : ∀ b, O b → b < w.heap.size) : Stay O w w' := fr_below hb
end
def Acted (arm : Prop) (room croom K : Nat) (w : World) (p q r : Nat) (O : Nat → Prop) (t' : RS) (e : Ending) (w' : World) : Prop := e = .returned (.bool true) ∧ Both arm room croom (K + 1) w' p q r O t' ∧ Stay O w w'
theorem acted {arm : Prop} {room croom K : Nat} {w1 w3 w4 : World} {p q r xb : Nat} {S : Nat → Prop} {V : RV} {t t' : RS} (hO : ∀ b, O b → b < w.heap.size) (h1 : Below w.heap.size w w1) (k1 : Stay (fun b => O b ∨ b = xb) w1 w3) (h : AS arm room croom K (K + 1) w3 p q r S V (fun b => O b ∨ b = xb) t t') (hd : RTo w3 w4 r S t') (hT : TB (K + 1) t') : Acted arm room croom K w p q r O t' (.returned (.bool true)) w4 := by
 obtain ⟨a1, a2⟩ := h.done hd hT
 exact ⟨rfl, a1.less (fun _ h => Or.inl h), (Stay.below h1 hO).trans ((k1.trans a2).less (fun _ h => Or.inl h))⟩
theorem ActAt.stay {b : Nat} {k n : Int} {s : Nat} {sh : Bool} (h : ActAt w b k n s sh) (hb : w'.heap[b]? = w.heap[b]?) : ActAt w' b k n s sh := ⟨(World.cell?_of_block hb).trans h.1, (World.cell?_of_block hb).trans h.2.1, (World.cell?_of_block hb).trans h.2.2.1, (World.cell?_of_block hb).trans h.2.2.2⟩
theorem ActAt.new (w : World) (k n : Int) (s : Nat) (sh : Bool) : ActAt (w.alloc (.cells #[.int .i64 k, .int .i64 n, .int .u8 (s : Int), .bool sh] 37)) w.heap.size k n s sh := by
 have h := heap_alloc_new w (.cells #[.int .i64 k, .int .i64 n, .int .u8 (s : Int), .bool sh] 37)
 exact ⟨Cch.hd_cell h 0, Cch.hd_cell h 1, Cch.hd_cell h 2, Cch.hd_cell h 3⟩
end
section
open Go.RowKit Go.Maps
open Dsk (gt hid undrew keep_old keep_cell lt_cell Rd DS FS Sec DiskP DFrame Grew From op_at idx dirtD was secD sureF sureF_ok crashD)
open Cch (CS CP Fr wpAnyK wpAnyK_take wpAnyK_pure wpAnyK_ready wpAnyK_done wp_region_K AllReadyK.cons AllReadyK.nil AllReadyK.late)
variable {t : RS} {O : Nat → Prop} {p q r room croom K : Nat} {w : World} {arm : Prop}
theorem act_begin (h : Both arm room croom K w p q r O t) (hK : K ≤ 100) (n : Int) (sd : Nat) (sh : Bool) :
   Calls Tryz.prog 11 #[.pointer (some ⟨p, 0, none⟩), .pointer (some ⟨r, 0, none⟩), .agg #[.int .i64 0, .int .i64 n, .int .u8 (sd : Int), .bool sh]] w (Acted arm room croom K w p q r O t.aBegin.2) := by
 obtain ⟨S, V, h⟩ := h
 obtain ⟨w1, hw1⟩ : ∃ w1, w1 = w.alloc (.cells #[.int .i64 0, .int .i64 n, .int .u8 (sd : Int), .bool sh] 37) := ⟨_, rfl⟩
 obtain ⟨xb, hxb⟩ : ∃ xb, xb = w.heap.size := ⟨_, rfl⟩
 have h1 : AS arm room croom K K w1 p q r S V (fun b => O b ∨ b = xb) t t := by rw [hw1, hxb]; exact h.box _
 have hx1 : ActAt w1 xb 0 n sd sh := by rw [hw1, hxb]; exact ActAt.new w _ n sd sh
 have hO : ∀ b, O b → b < w.heap.size := fun b hb => (h.o b hb).2.2
 have hb1 : Below w.heap.size w w1 := by rw [hw1]; exact (Below.refl _ _).alloc (Nat.le_refl _) _
 have hT := h1.tb
 have H1 := hid h1; have HX := hid hx1; have HO := hid hO; have B1 := hid hb1; have HT := hid hT; have HW := hid hw1; have HXB := hid hxb; have HK := hid hK
 have CP := hid (prg_begin2 h1.prg)
 have CD := hid (fun W (hm : AS arm room croom K (K + 1) W p q r S V (fun b => O b ∨ b = xb) t t.aBegin.2) => doc_begin hm.ref hm.tb HK.out)
 obtain ⟨v, hv⟩ : ∃ v, v = t.aBegin.1 := ⟨_, rfl⟩
 rw [← hv] at CP CD
 clear h h1 hx1 hO hb1 hT hK hv hxb hw1
 go_enter Tryz.func11, Tryz.ntmps11
 go_wp2_with (first
   | (go_at_call 30; rw [← HW.out]; refine CP.out.mono ?_; rintro e w3 ⟨rfl, hp, hr⟩; have M3 := hid (H1.out.did hp hr); clear hp hr)
   | (go_at_call 45; refine (CD.out w3 M3.out.1).mono ?_; rintro e w4 ⟨rfl, hd⟩; have D4 := hid hd; clear hd))
 go_ret
 (try rw [decide_eq_true rfl])
 exact acted HO.out B1.out M3.out.2 M3.out.1 D4.out HT.out.begin
theorem act_roll (h : Both arm room croom K w p q r O t) (hK : K ≤ 100) (n : Int) (sd : Nat) (sh : Bool) :
   Calls Tryz.prog 11 #[.pointer (some ⟨p, 0, none⟩), .pointer (some ⟨r, 0, none⟩), .agg #[.int .i64 6, .int .i64 n, .int .u8 (sd : Int), .bool sh]] w (Acted arm room croom K w p q r O t.aRoll.2) := by
 obtain ⟨S, V, h⟩ := h
 obtain ⟨w1, hw1⟩ : ∃ w1, w1 = w.alloc (.cells #[.int .i64 6, .int .i64 n, .int .u8 (sd : Int), .bool sh] 37) := ⟨_, rfl⟩
 obtain ⟨xb, hxb⟩ : ∃ xb, xb = w.heap.size := ⟨_, rfl⟩
 have h1 : AS arm room croom K K w1 p q r S V (fun b => O b ∨ b = xb) t t := by rw [hw1, hxb]; exact h.box _
 have hx1 : ActAt w1 xb 6 n sd sh := by rw [hw1, hxb]; exact ActAt.new w _ n sd sh
 have hO : ∀ b, O b → b < w.heap.size := fun b hb => (h.o b hb).2.2
 have hb1 : Below w.heap.size w w1 := by rw [hw1]; exact (Below.refl _ _).alloc (Nat.le_refl _) _
 have hT := h1.tb
 have H1 := hid h1; have HX := hid hx1; have HO := hid hO; have B1 := hid hb1; have HT := hid hT; have HW := hid hw1; have HXB := hid hxb; have HK := hid hK
 have CP := hid (prg_roll h1.prg)
 have CD := hid (fun W (hm : AS arm room croom K (K + 1) W p q r S V (fun b => O b ∨ b = xb) t t.aRoll.2) => doc_roll hm.ref)
 obtain ⟨v, hv⟩ : ∃ v, v = t.aRoll.1 := ⟨_, rfl⟩
 rw [← hv] at CP CD
 clear h h1 hx1 hO hb1 hT hK hv hxb hw1
 go_enter Tryz.func11, Tryz.ntmps11
 go_wp2_with (first
   | (go_at_call 39; rw [← HW.out]; refine CP.out.mono ?_; rintro e w3 ⟨rfl, hp, hr⟩; have M3 := hid (H1.out.did hp hr); clear hp hr)
   | (go_at_call 51; refine (CD.out w3 M3.out.1).mono ?_; rintro e w4 ⟨rfl, hd⟩; have D4 := hid hd; clear hd))
 go_ret
 (try rw [decide_eq_true rfl])
 exact acted HO.out B1.out M3.out.2 M3.out.1 D4.out HT.out.roll
theorem act_commit (h : Both False 4000 croom K w p q r O t) (hK : K ≤ 100) (n : Int) (sd : Nat) (sh : Bool) :
   Calls Tryz.prog 11 #[.pointer (some ⟨p, 0, none⟩), .pointer (some ⟨r, 0, none⟩), .agg #[.int .i64 7, .int .i64 n, .int .u8 (sd : Int), .bool sh]] w (Acted False 4000 croom K w p q r O t.aCommit.2) := by
 obtain ⟨S, V, h⟩ := h
 obtain ⟨w1, hw1⟩ : ∃ w1, w1 = w.alloc (.cells #[.int .i64 7, .int .i64 n, .int .u8 (sd : Int), .bool sh] 37) := ⟨_, rfl⟩
 obtain ⟨xb, hxb⟩ : ∃ xb, xb = w.heap.size := ⟨_, rfl⟩
 have h1 : AS False 4000 croom K K w1 p q r S V (fun b => O b ∨ b = xb) t t := by rw [hw1, hxb]; exact h.box _
 have hx1 : ActAt w1 xb 7 n sd sh := by rw [hw1, hxb]; exact ActAt.new w _ n sd sh
 have hO : ∀ b, O b → b < w.heap.size := fun b hb => (h.o b hb).2.2
 have hb1 : Below w.heap.size w w1 := by rw [hw1]; exact (Below.refl _ _).alloc (Nat.le_refl _) _
 have hT := h1.tb
 have H1 := hid h1; have HX := hid hx1; have HO := hid hO; have B1 := hid hb1; have HT := hid hT; have HW := hid hw1; have HXB := hid hxb; have HK := hid hK
 have CP := hid (prg_commit h1.prg hT hK)
 have CD := hid (fun W (hm : AS False 4000 croom K (K + 1) W p q r S V (fun b => O b ∨ b = xb) t t.aCommit.2) => doc_commit hm.ref hm.tb HK.out)
 obtain ⟨v, hv⟩ : ∃ v, v = t.aCommit.1 := ⟨_, rfl⟩
 rw [← hv] at CP CD
 clear h h1 hx1 hO hb1 hT hK hv hxb hw1
 go_enter Tryz.func11, Tryz.ntmps11
 go_wp2_with (first
   | (go_at_call 27; rw [← HW.out]; refine CP.out.mono ?_; rintro e w3 ⟨rfl, hp, hr⟩; have M3 := hid (H1.out.did hp hr); clear hp hr)
   | (go_at_call 28; refine (CD.out w3 M3.out.1).mono ?_; rintro e w4 ⟨rfl, hd⟩; have D4 := hid hd; clear hd))
 go_ret
 (try rw [decide_eq_true rfl])
 exact acted HO.out B1.out M3.out.2 M3.out.1 D4.out HT.out.commit
theorem act_grow (h : Both arm room croom K w p q r O t) (hK : K ≤ 100) (n : Int) (sd : Nat) (sh : Bool) :
   Calls Tryz.prog 11 #[.pointer (some ⟨p, 0, none⟩), .pointer (some ⟨r, 0, none⟩), .agg #[.int .i64 2, .int .i64 n, .int .u8 (sd : Int), .bool sh]] w (Acted arm room croom K w p q r O t.aGrow.2.2) := by
 obtain ⟨S, V, h⟩ := h
 obtain ⟨w1, hw1⟩ : ∃ w1, w1 = w.alloc (.cells #[.int .i64 2, .int .i64 n, .int .u8 (sd : Int), .bool sh] 37) := ⟨_, rfl⟩
 obtain ⟨xb, hxb⟩ : ∃ xb, xb = w.heap.size := ⟨_, rfl⟩
 have h1 : AS arm room croom K K w1 p q r S V (fun b => O b ∨ b = xb) t t := by rw [hw1, hxb]; exact h.box _
 have hx1 : ActAt w1 xb 2 n sd sh := by rw [hw1, hxb]; exact ActAt.new w _ n sd sh
 have hO : ∀ b, O b → b < w.heap.size := fun b hb => (h.o b hb).2.2
 have hb1 : Below w.heap.size w w1 := by rw [hw1]; exact (Below.refl _ _).alloc (Nat.le_refl _) _
 have hT := h1.tb
 have H1 := hid h1; have HX := hid hx1; have HO := hid hO; have B1 := hid hb1; have HT := hid hT; have HW := hid hw1; have HXB := hid hxb; have HK := hid hK
 have CP := hid (prg_grow h1.prg hT hK)
 have CD := hid (fun W (hm : AS arm room croom K (K + 1) W p q r S V (fun b => O b ∨ b = xb) t t.aGrow.2.2) => doc_grow hm.ref hm.tb HK.out)
 obtain ⟨v, hv⟩ : ∃ v, v = t.aGrow.1 := ⟨_, rfl⟩
 obtain ⟨u, hu⟩ : ∃ u, u = t.aGrow.2.1 := ⟨_, rfl⟩
 rw [← hv, ← hu] at CP CD
 clear h h1 hx1 hO hb1 hT hK hv hu hxb hw1
 go_enter Tryz.func11, Tryz.ntmps11
 go_wp2_with (first
   | (go_at_call 31; rw [← HW.out]; refine CP.out.mono ?_; rintro e w3 ⟨rfl, hp, hr⟩; have M3 := hid (H1.out.did hp hr); clear hp hr)
   | (go_at_call 47; refine (CD.out w3 M3.out.1).mono ?_; rintro e w4 ⟨rfl, hd⟩; have D4 := hid hd; clear hd))
 go_ret
 exact acted HO.out B1.out M3.out.2 M3.out.1 D4.out HT.out.grow
theorem act_mark (h : Both arm room croom K w p q r O t) (hK : K ≤ 100) (n : Int) (sd : Nat) (sh : Bool) :
   Calls Tryz.prog 11 #[.pointer (some ⟨p, 0, none⟩), .pointer (some ⟨r, 0, none⟩), .agg #[.int .i64 4, .int .i64 n, .int .u8 (sd : Int), .bool sh]] w (Acted arm room croom K w p q r O t.aMark.2.2) := by
 obtain ⟨S, V, h⟩ := h
 obtain ⟨w1, hw1⟩ : ∃ w1, w1 = w.alloc (.cells #[.int .i64 4, .int .i64 n, .int .u8 (sd : Int), .bool sh] 37) := ⟨_, rfl⟩
 obtain ⟨xb, hxb⟩ : ∃ xb, xb = w.heap.size := ⟨_, rfl⟩
 have h1 : AS arm room croom K K w1 p q r S V (fun b => O b ∨ b = xb) t t := by rw [hw1, hxb]; exact h.box _
 have hx1 : ActAt w1 xb 4 n sd sh := by rw [hw1, hxb]; exact ActAt.new w _ n sd sh
 have hO : ∀ b, O b → b < w.heap.size := fun b hb => (h.o b hb).2.2
 have hb1 : Below w.heap.size w w1 := by rw [hw1]; exact (Below.refl _ _).alloc (Nat.le_refl _) _
 have hT := h1.tb
 have H1 := hid h1; have HX := hid hx1; have HO := hid hO; have B1 := hid hb1; have HT := hid hT; have HW := hid hw1; have HXB := hid hxb; have HK := hid hK
 have CP := hid (prg_mark h1.prg hT hK)
 have CD := hid (fun W (hm : AS arm room croom K (K + 1) W p q r S V (fun b => O b ∨ b = xb) t t.aMark.2.2) => doc_mark hm.ref hm.tb HK.out)
 obtain ⟨v, hv⟩ : ∃ v, v = t.aMark.1 := ⟨_, rfl⟩
 obtain ⟨u, hu⟩ : ∃ u, u = t.aMark.2.1 := ⟨_, rfl⟩
 rw [← hv, ← hu] at CP CD
 clear h h1 hx1 hO hb1 hT hK hv hu hxb hw1
 go_enter Tryz.func11, Tryz.ntmps11
 go_wp2_with (first
   | (go_at_call 35; rw [← HW.out]; refine CP.out.mono ?_; rintro e w3 ⟨rfl, hp, hr⟩; have M3 := hid (H1.out.did hp hr); clear hp hr)
   | (go_at_call 49; refine (CD.out w3 M3.out.1).mono ?_; rintro e w4 ⟨rfl, hd⟩; have D4 := hid hd; clear hd))
 go_ret
 exact acted HO.out B1.out M3.out.2 M3.out.1 D4.out HT.out.mark
end
section
open Go.RowKit Go.Maps
open Dsk (gt hid undrew keep_old keep_cell lt_cell Rd DS FS Sec DiskP DFrame Grew From op_at idx dirtD was secD sureF sureF_ok crashD)
open Cch (CS CP Fr wpAnyK wpAnyK_take wpAnyK_pure wpAnyK_ready wpAnyK_done wp_region_K AllReadyK.cons AllReadyK.nil AllReadyK.late)
variable {t : RS} {O : Nat → Prop} {p q r room croom K : Nat} {w : World} {arm : Prop}
theorem act_shrink (h : Both arm room croom K w p q r O t) (hK : K ≤ 100) (n : Int) (sd : Nat) (sh : Bool) :
   Calls Tryz.prog 11 #[.pointer (some ⟨p, 0, none⟩), .pointer (some ⟨r, 0, none⟩), .agg #[.int .i64 3, .int .i64 n, .int .u8 (sd : Int), .bool sh]] w (Acted arm room croom K w p q r O (t.aShrink n).2) := by
 obtain ⟨S, V, h⟩ := h
 obtain ⟨w1, hw1⟩ : ∃ w1, w1 = w.alloc (.cells #[.int .i64 3, .int .i64 n, .int .u8 (sd : Int), .bool sh] 37) := ⟨_, rfl⟩
 obtain ⟨xb, hxb⟩ : ∃ xb, xb = w.heap.size := ⟨_, rfl⟩
 have h1 : AS arm room croom K K w1 p q r S V (fun b => O b ∨ b = xb) t t := by rw [hw1, hxb]; exact h.box _
 have hx1 : ActAt w1 xb 3 n sd sh := by rw [hw1, hxb]; exact ActAt.new w _ n sd sh
 have hO : ∀ b, O b → b < w.heap.size := fun b hb => (h.o b hb).2.2
 have hb1 : Below w.heap.size w w1 := by rw [hw1]; exact (Below.refl _ _).alloc (Nat.le_refl _) _
 have hT := h1.tb
 have H1 := hid h1; have HX := hid hx1; have HO := hid hO; have B1 := hid hb1; have HT := hid hT; have HW := hid hw1; have HXB := hid hxb; have HK := hid hK
 have h2 : AS arm room croom K K w1.drew p q r S V (fun b => O b ∨ b = xb) t t := h1.later (Below.refl _ _).drew
 have CP := hid (prg_shrink h2.prg n)
 have CD := hid (fun W (hm : AS arm room croom K (K + 1) W p q r S V (fun b => O b ∨ b = xb) t (t.aShrink n).2) => doc_shrink hm.ref hm.tb HK.out n)
 obtain ⟨v, hv⟩ : ∃ v, v = (t.aShrink n).1 := ⟨_, rfl⟩
 rw [← hv] at CP CD
 have H1 := hid h2
 clear h h1 h2 hx1 hO hb1 hT hK hv hxb hw1
 go_enter Tryz.func11, Tryz.ntmps11
 go_upto_region 11 with fail
 rw [← HW.out, ← HXB.out]
 refine wp_region_K (S := fun W => ActAt W xb 3 n sd sh) (fun _ => false) (by kernel_rfl) (HX.out) (fun hHeld => ?_)
 refine gkp 0 ?_
 refine gkp 1 ?_
 refine gkt 2 ?_ (h := by intro W hSw; obtain ⟨a0, a1, a2, a3⟩ := (show ActAt W xb 3 n sd sh from hSw); go_simp; first | done | with_reducible rfl)
 refine gkp 4 ?_
 refine gkp 5 ?_
 refine gkt 6 ?_ (h := by intro W hSw; obtain ⟨a0, a1, a2, a3⟩ := (show ActAt W xb 3 n sd sh from hSw); go_simp; first | done | with_reducible rfl)
 refine gk1 3 (fun K hK => ?_)
 go_simp
 go_at_call 37; (with_reducible refine CP.out.mono ?_); rintro e w3 ⟨rfl, hp, hr⟩; have M3 := hid (H1.out.did hp hr); have hR : ActAt w3 xb 3 n sd sh := hHeld.stay (M3.out.2.at_ (Or.inr rfl) (H1.out.o xb (Or.inr rfl)).2.2); clear hp hr
 refine hK.out _ _ hR (fun hHeld => ?_)
 clear hK K
 (try simp only [Act.put, sA, sZ, sS])
 refine gk1 7 (fun K hK => ?_)
 go_simp
 go_at_call 48; (with_reducible refine (CD.out w3 M3.out.1).mono ?_); rintro e w4 ⟨rfl, hd⟩; have D4 := hid hd; have hR : ActAt w4 xb 3 n sd sh := hHeld.stay (hd.2.blk xb (M3.out.1.o xb (Or.inr rfl)).2.2 (fun e => e.elim (M3.out.1.o xb (Or.inr rfl)).1 (M3.out.1.o xb (Or.inr rfl)).2.1)); clear hd
 refine hK.out _ _ hR (fun hHeld => ?_)
 clear hK K
 (try simp only [Act.put, sA, sZ, sS])
 refine gkp 8 ?_
 refine gkp 9 ?_
 refine wpAnyK_done (by kernel_rfl) ?_ _
 go_wp2
 go_ret
 exact acted HO.out B1.out ((show Stay (fun b => O b ∨ b = xb) w1 w1.drew from fr_below (Below.refl _ _).drew).trans M3.out.2) M3.out.1 D4.out (HT.out.shrink n)
theorem act_undo (h : Both arm room croom K w p q r O t) (hK : K ≤ 100) (n : Int) (sd : Nat) (sh : Bool) :
   Calls Tryz.prog 11 #[.pointer (some ⟨p, 0, none⟩), .pointer (some ⟨r, 0, none⟩), .agg #[.int .i64 5, .int .i64 n, .int .u8 (sd : Int), .bool sh]] w (Acted arm room croom K w p q r O (t.aUndo n).2) := by
 obtain ⟨S, V, h⟩ := h
 obtain ⟨w1, hw1⟩ : ∃ w1, w1 = w.alloc (.cells #[.int .i64 5, .int .i64 n, .int .u8 (sd : Int), .bool sh] 37) := ⟨_, rfl⟩
 obtain ⟨xb, hxb⟩ : ∃ xb, xb = w.heap.size := ⟨_, rfl⟩
 have h1 : AS arm room croom K K w1 p q r S V (fun b => O b ∨ b = xb) t t := by rw [hw1, hxb]; exact h.box _
 have hx1 : ActAt w1 xb 5 n sd sh := by rw [hw1, hxb]; exact ActAt.new w _ n sd sh
 have hO : ∀ b, O b → b < w.heap.size := fun b hb => (h.o b hb).2.2
 have hb1 : Below w.heap.size w w1 := by rw [hw1]; exact (Below.refl _ _).alloc (Nat.le_refl _) _
 have hT := h1.tb
 have H1 := hid h1; have HX := hid hx1; have HO := hid hO; have B1 := hid hb1; have HT := hid hT; have HW := hid hw1; have HXB := hid hxb; have HK := hid hK
 have h2 : AS arm room croom K K w1.drew p q r S V (fun b => O b ∨ b = xb) t t := h1.later (Below.refl _ _).drew
 have CP := hid (prg_undo h2.prg hT hK n)
 have CD := hid (fun W (hm : AS arm room croom K (K + 1) W p q r S V (fun b => O b ∨ b = xb) t (t.aUndo n).2) => doc_undo hm.ref hm.tb HK.out n)
 obtain ⟨v, hv⟩ : ∃ v, v = (t.aUndo n).1 := ⟨_, rfl⟩
 rw [← hv] at CP CD
 have H1 := hid h2
 clear h h1 h2 hx1 hO hb1 hT hK hv hxb hw1
 go_enter Tryz.func11, Tryz.ntmps11
 go_upto_region 17 with fail
 rw [← HW.out, ← HXB.out]
 refine wp_region_K (S := fun W => ActAt W xb 5 n sd sh) (fun _ => false) (by kernel_rfl) (HX.out) (fun hHeld => ?_)
 refine gkp 0 ?_
 refine gkp 1 ?_
 refine gkt 2 ?_ (h := by intro W hSw; obtain ⟨a0, a1, a2, a3⟩ := (show ActAt W xb 5 n sd sh from hSw); go_simp; first | done | with_reducible rfl)
 refine gkp 4 ?_
 refine gkp 5 ?_
 refine gkt 6 ?_ (h := by intro W hSw; obtain ⟨a0, a1, a2, a3⟩ := (show ActAt W xb 5 n sd sh from hSw); go_simp; first | done | with_reducible rfl)
 refine gk1 3 (fun K hK => ?_)
 go_simp
 go_at_call 38; (with_reducible refine CP.out.mono ?_); rintro e w3 ⟨rfl, hp, hr⟩; have M3 := hid (H1.out.did hp hr); have hR : ActAt w3 xb 5 n sd sh := hHeld.stay (M3.out.2.at_ (Or.inr rfl) (H1.out.o xb (Or.inr rfl)).2.2); clear hp hr
 refine hK.out _ _ hR (fun hHeld => ?_)
 clear hK K
 (try simp only [Act.put, sA, sZ, sS])
 refine gk1 7 (fun K hK => ?_)
 go_simp
 go_at_call 50; (with_reducible refine (CD.out w3 M3.out.1).mono ?_); rintro e w4 ⟨rfl, hd⟩; have D4 := hid hd; have hR : ActAt w4 xb 5 n sd sh := hHeld.stay (hd.2.blk xb (M3.out.1.o xb (Or.inr rfl)).2.2 (fun e => e.elim (M3.out.1.o xb (Or.inr rfl)).1 (M3.out.1.o xb (Or.inr rfl)).2.1)); clear hd
 refine hK.out _ _ hR (fun hHeld => ?_)
 clear hK K
 (try simp only [Act.put, sA, sZ, sS])
 refine gkp 8 ?_
 refine gkp 9 ?_
 refine wpAnyK_done (by kernel_rfl) ?_ _
 go_wp2
 go_ret
 exact acted HO.out B1.out ((show Stay (fun b => O b ∨ b = xb) w1 w1.drew from fr_below (Below.refl _ _).drew).trans M3.out.2) M3.out.1 D4.out (HT.out.undo n)
end
section
open Go.RowKit Go.Maps
open Dsk (gt hid undrew keep_old keep_cell lt_cell Rd DS FS Sec DiskP DFrame Grew From op_at idx dirtD was secD sureF sureF_ok crashD)
open Cch (CS CP Fr wpAnyK wpAnyK_take wpAnyK_pure wpAnyK_ready wpAnyK_done wp_region_K AllReadyK.cons AllReadyK.nil AllReadyK.late)
def bl (sh : Bool) : Nat := if sh then 1 else 512
def bb (sd : Nat) (sh : Bool) : Pg := if sh then [sd] else pageS sd
theorem bb_bytes {sd : Nat} (h : sd < 256) (sh : Bool) : ∀ y ∈ bb sd sh, y < 256 := by
 cases sh
 · exact pageS_bytes sd
 · intro y hy; rw [List.mem_singleton.1 hy]; exact h
theorem cvtP {W : World} {ao : Option Addr} {n cap : Nat} {xs : List Nat} (h : Rd W ao n cap xs) : (convert 60 9 (.slice ao n cap)).run Tryz.prog W = .ok (.string (Dsk.str xs)) W := Dsk.conv_rd h 60 9 5 Tryz.underlying60 Tryz.underlying5 Tryz.underlying9
theorem bytes_full (k n : Int) (s : Nat) (sh : Bool) (w : World) : Calls Tryz.prog 36 #[.agg #[.int .i64 k, .int .i64 n, .int .u8 (s : Int), .bool sh]] w fun e w' => ∃ g cap, e = .returned (.slice (some ⟨g, 0, none⟩) (bl sh) cap) ∧ Rd w' (some ⟨g, 0, none⟩) (bl sh) cap (bb s sh) ∧ w.heap.size ≤ g ∧ Below w.heap.size w w' := by
 cases sh
 · go_enter Tryz.func36, Tryz.ntmps36
   go_wp2_with (go_at_call 33; refine (page_any s _).mono ?_; rintro e w1 ⟨g, rfl, hr, hg, _, hb1⟩; have HR := hid hr; have HG := hid hg; have HB := hid hb1; clear hr hg hb1)
   go_ret
   exact ⟨g, _, rfl, HR.out, (by have := HG.out; simp at this; omega), gt (by repeat (first | with_reducible exact Below.refl _ _ | with_reducible assumption | with_reducible refine Below.drew ?_ | with_reducible refine below_drewN ?_ _ | with_reducible refine Below.alloc ?_ (by simp <;> omega) _ | with_reducible refine Below.setCell ?_ (by simp <;> omega) _)) HB.out⟩
 · go_enter Tryz.func36, Tryz.ntmps36
   go_wp2
   go_ret
   refine ⟨_, _, rfl, ⟨rfl, Nat.le_refl _, (fun e => by cases e), fun _ => ⟨_, _, rfl, fun t ht => ?_⟩⟩, (by simp), (by repeat (first | with_reducible exact Below.refl _ _ | with_reducible assumption | with_reducible refine Below.drew ?_ | with_reducible refine below_drewN ?_ _ | with_reducible refine Below.alloc ?_ (by simp <;> omega) _ | with_reducible refine Below.setCell ?_ (by simp <;> omega) _))⟩
   have ht0 : t = 0 := Nat.lt_one_iff.1 ht
   subst ht0
   rw [World.cell?_alloc_at _ _ _ _ (by simp)]; rfl
variable {t : RS} {O : Nat → Prop} {p q r room croom K : Nat} {w : World} {arm : Prop}
theorem act_put (h : Both arm room croom K w p q r O t) (hK : K ≤ 100) (n : Int) (sd : Nat) (sh : Bool) (hs : sd < 256) :
   Calls Tryz.prog 11 #[.pointer (some ⟨p, 0, none⟩), .pointer (some ⟨r, 0, none⟩), .agg #[.int .i64 1, .int .i64 n, .int .u8 (sd : Int), .bool sh]] w (Acted arm room croom K w p q r O (t.aPut n (bl sh) (bb sd sh)).2) := by
 obtain ⟨S, V, h⟩ := h
 obtain ⟨w1, hw1⟩ : ∃ w1, w1 = w.alloc (.cells #[.int .i64 1, .int .i64 n, .int .u8 (sd : Int), .bool sh] 37) := ⟨_, rfl⟩
 obtain ⟨xb, hxb⟩ : ∃ xb, xb = w.heap.size := ⟨_, rfl⟩
 have h1 : AS arm room croom K K w1 p q r S V (fun b => O b ∨ b = xb) t t := by rw [hw1, hxb]; exact h.box _
 have hx1 : ActAt w1 xb 1 n sd sh := by rw [hw1, hxb]; exact ActAt.new w _ n sd sh
 have hO : ∀ b, O b → b < w.heap.size := fun b hb => (h.o b hb).2.2
 have hb1 : Below w.heap.size w w1 := by rw [hw1]; exact (Below.refl _ _).alloc (Nat.le_refl _) _
 have hT := h1.tb
 have H1 := hid h1; have HX := hid hx1; have HO := hid hO; have B1 := hid hb1; have HT := hid hT; have HW := hid hw1; have HXB := hid hxb; have HK := hid hK
 have h2 : AS arm room croom K K w1.drew p q r S V (fun b => O b ∨ b = xb) t t := h1.later (Below.refl _ _).drew
 have CB := hid (bytes_full 1 n sd sh)
 have hbb := bb_bytes hs sh
 have hT2 := hT.put n (bl sh) (bb sd sh)
 obtain ⟨L, hL⟩ : ∃ L, L = bl sh := ⟨_, rfl⟩
 obtain ⟨B, hB⟩ : ∃ B, B = bb sd sh := ⟨_, rfl⟩
 rw [← hL, ← hB] at CB hT2 ⊢
 rw [← hB] at hbb
 have CP := hid (fun W g cap (hm : AS arm room croom K K W p q r S V (fun b => O b ∨ b = xb) t t) (hr : Rd W (some ⟨g, 0, none⟩) L cap B) => prg_put hm.prg hK n g 0 L cap B hr hbb)
 have CD := hid (fun W g cap (hm : AS arm room croom K (K + 1) W p q r S V (fun b => O b ∨ b = xb) t (t.aPut n L B).2) (hr : Rd W (some ⟨g, 0, none⟩) L cap B) => doc_put hm.ref hm.tb HK.out n (some ⟨g, 0, none⟩) L cap B hr)
 obtain ⟨v, hv⟩ : ∃ v, v = (t.aPut n L B).1 := ⟨_, rfl⟩
 rw [← hv] at CP CD
 have H1 := hid h2; have HT2 := hid hT2
 clear h h1 h2 hx1 hO hb1 hT hK hv hxb hw1 hbb hL hB hT2
 go_enter Tryz.func11, Tryz.ntmps11
 go_upto_region 5 with fail
 rw [← HW.out, ← HXB.out]
 refine wp_region_K (S := fun W => ActAt W xb 1 n sd sh) (fun _ => false) (by kernel_rfl) (HX.out) (fun hHeld => ?_)
 refine gkp 0 ?_
 refine gkp 1 ?_
 refine gkt 2 ?_ (h := by intro W hSw; obtain ⟨a0, a1, a2, a3⟩ := (show ActAt W xb 1 n sd sh from hSw); go_simp; first | done | with_reducible rfl)
 refine gkt 3 ?_ (h := by intro W hSw; obtain ⟨a0, a1, a2, a3⟩ := (show ActAt W xb 1 n sd sh from hSw); go_simp; first | done | with_reducible rfl)
 refine gkp 6 ?_
 refine gkp 7 ?_
 refine gkt 8 ?_ (h := by intro W hSw; obtain ⟨a0, a1, a2, a3⟩ := (show ActAt W xb 1 n sd sh from hSw); go_simp; first | done | with_reducible rfl)
 refine gkt 9 ?_ (h := by intro W hSw; obtain ⟨a0, a1, a2, a3⟩ := (show ActAt W xb 1 n sd sh from hSw); go_simp; first | done | with_reducible rfl)
 refine gk1 4 (fun K hK => ?_)
 go_simp
 go_at_call 36; (with_reducible refine (CB.out w1.drew).mono ?_); rintro e w2 ⟨g2, c2, rfl, r2, _, hb2⟩; have H2 := hid (H1.out.later hb2); have R2 := hid r2; have hR : ActAt w2 xb 1 n sd sh := hHeld.keep hb2; have B2 := hid hb2; clear r2 hb2
 refine hK.out _ _ hR (fun hHeld => ?_)
 clear hK K
 (try simp only [Act.put, sA, sZ, sS])
 refine gk1 5 (fun K hK => ?_)
 go_simp
 go_at_call 32; (with_reducible refine (CP.out w2 g2 c2 H2.out R2.out).mono ?_); rintro e w3 ⟨rfl, hp, hr⟩; have M3 := hid (H2.out.did hp hr); have hR : ActAt w3 xb 1 n sd sh := hHeld.stay (M3.out.2.at_ (Or.inr rfl) (H2.out.o xb (Or.inr rfl)).2.2); clear hp hr
 refine hK.out _ _ hR (fun hHeld => ?_)
 clear hK K
 (try simp only [Act.put, sA, sZ, sS])
 refine gk1 10 (fun K hK => ?_)
 go_simp
 go_at_call 36; (with_reducible refine (CB.out w3).mono ?_); rintro e w4 ⟨g4, c4, rfl, r4, _, hb4⟩; have M4 := hid (M3.out.1.later hb4); have R4 := hid r4; have hR : ActAt w4 xb 1 n sd sh := hHeld.keep hb4; have B4 := hid hb4; clear r4 hb4
 refine hK.out _ _ hR (fun hHeld => ?_)
 clear hK K
 (try simp only [Act.put, sA, sZ, sS])
 refine gk1 11 (fun K hK => ?_)
 go_simp
 go_at_call 46; (with_reducible refine (CD.out w4 g4 c4 M4.out R4.out).mono ?_); rintro e w5 ⟨rfl, hd⟩; have D5 := hid hd; have hR : ActAt w5 xb 1 n sd sh := hHeld.stay (hd.2.blk xb (M4.out.o xb (Or.inr rfl)).2.2 (fun e => e.elim (M4.out.o xb (Or.inr rfl)).1 (M4.out.o xb (Or.inr rfl)).2.1)); clear hd
 refine hK.out _ _ hR (fun hHeld => ?_)
 clear hK K
 (try simp only [Act.put, sA, sZ, sS])
 refine gkp 12 ?_
 refine gkp 13 ?_
 refine wpAnyK_done (by kernel_rfl) ?_ _
 go_wp2
 go_ret
 have s1 : Stay (fun b => O b ∨ b = xb) w1 w2 := (show Stay (fun b => O b ∨ b = xb) w1 w1.drew from fr_below (Below.refl _ _).drew).trans (fr_below B2.out)
 have s2 : Stay (fun b => O b ∨ b = xb) w3 w4 := Stay.below B4.out (fun b hb => (M3.out.1.o b hb).2.2)
 exact acted HO.out B1.out ((s1.trans M3.out.2).trans s2) M4.out D5.out HT2.out
theorem act_get_no (h : Both arm room croom K w p q r O t) (hK : K ≤ 100) (n : Int) (sd : Nat) (sh : Bool) (k : Int) (hk : ∀ i : Int, 0 ≤ i → i ≤ 7 → k ≠ i) (hn : n < 1 ∨ (t.pages.length : Int) < n) :
   Calls Tryz.prog 11 #[.pointer (some ⟨p, 0, none⟩), .pointer (some ⟨r, 0, none⟩), .agg #[.int .i64 k, .int .i64 n, .int .u8 (sd : Int), .bool sh]] w (Acted arm room croom K w p q r O t) := by
 obtain ⟨S, V, h⟩ := h
 obtain ⟨w1, hw1⟩ : ∃ w1, w1 = w.alloc (.cells #[.int .i64 k, .int .i64 n, .int .u8 (sd : Int), .bool sh] 37) := ⟨_, rfl⟩
 obtain ⟨xb, hxb⟩ : ∃ xb, xb = w.heap.size := ⟨_, rfl⟩
 have h1 : AS arm room croom K K w1 p q r S V (fun b => O b ∨ b = xb) t t := by rw [hw1, hxb]; exact h.box _
 have hx1 : ActAt w1 xb k n sd sh := by rw [hw1, hxb]; exact ActAt.new w _ n sd sh
 have hO : ∀ b, O b → b < w.heap.size := fun b hb => (h.o b hb).2.2
 have hb1 : Below w.heap.size w w1 := by rw [hw1]; exact (Below.refl _ _).alloc (Nat.le_refl _) _
 have hT := h1.tb
 have H1 := hid h1; have HX := hid hx1; have HO := hid hO; have B1 := hid hb1; have HT := hid hT; have HW := hid hw1; have HXB := hid hxb; have HK := hid hK
 obtain ⟨k0, k1, k2, k3, k4, k5, k6, k7⟩ : ¬ k = 0 ∧ ¬ k = 1 ∧ ¬ k = 2 ∧ ¬ k = 3 ∧ ¬ k = 4 ∧ ¬ k = 5 ∧ ¬ k = 6 ∧ ¬ k = 7 := ⟨hk 0 (by decide) (by decide), hk 1 (by decide) (by decide), hk 2 (by decide) (by decide), hk 3 (by decide) (by decide), hk 4 (by decide) (by decide), hk 5 (by decide) (by decide), hk 6 (by decide) (by decide), hk 7 (by decide) (by decide)⟩
 have CP := hid (prg_get_range n h1.prg (by rcases hn with h | h <;> simp <;> omega))
 have CD := hid (fun W (hm : AS arm room croom K (K + 1) W p q r S V (fun b => O b ∨ b = xb) t t) => rget_no r S V t n W hm.ref hn)
 obtain ⟨sx, hsx⟩ : ∃ x, x = Dsk.str [] := ⟨_, rfl⟩
 have HSX := hid hsx
 clear h h1 hx1 hO hb1 hT hK hxb hw1 hn hk hsx
 go_enter Tryz.func11, Tryz.ntmps11
 go_wp2_with (first
   | (go_at_call 34; rw [← HW.out]; refine CP.out.mono ?_; rintro e w3 ⟨rfl, hp, hr⟩; have M3 := hid (H1.out.did hp hr); have y1 := (HX.out.stay (M3.out.2.at_ (Or.inr rfl) (H1.out.o xb (Or.inr rfl)).2.2)).2.1; rw [HXB.out] at y1; have cx := cvtP (Dsk.Rd.nil w3); rw [← HSX.out] at cx; clear hp hr)
   | (go_at_call 52; refine (CD.out w3 M3.out.1).mono ?_; rintro e w4 ⟨rfl, hw4⟩; have B4 : Hid (Below w3.heap.size w3 w4) := hid (by rw [hw4]; exact Below.refl _ _); have cy : (convert 60 9 (.slice none 0 0)).run Tryz.prog w4 = .ok (.string sx) w4 := (by rw [hw4]; exact cx); clear hw4))
 go_ret
 exact acted HO.out B1.out M3.out.2 M3.out.1 (RTo.below M3.out.1.ref B4.out) HT.out.up
theorem act_get_yes (h : Both arm room croom K w p q r O t) (hK : K ≤ 100) (n : Int) (sd : Nat) (sh : Bool) (k : Int) (hk : ∀ i : Int, 0 ≤ i → i ≤ 7 → k ≠ i) (i : Nat) (hi : i < t.pages.length) (hn : n = ((i + 1 : Nat) : Int)) :
   Calls Tryz.prog 11 #[.pointer (some ⟨p, 0, none⟩), .pointer (some ⟨r, 0, none⟩), .agg #[.int .i64 k, .int .i64 n, .int .u8 (sd : Int), .bool sh]] w (Acted arm room croom K w p q r O t) := by
 obtain ⟨S, V, h⟩ := h
 obtain ⟨w1, hw1⟩ : ∃ w1, w1 = w.alloc (.cells #[.int .i64 k, .int .i64 n, .int .u8 (sd : Int), .bool sh] 37) := ⟨_, rfl⟩
 obtain ⟨xb, hxb⟩ : ∃ xb, xb = w.heap.size := ⟨_, rfl⟩
 have h1 : AS arm room croom K K w1 p q r S V (fun b => O b ∨ b = xb) t t := by rw [hw1, hxb]; exact h.box _
 have hx1 : ActAt w1 xb k n sd sh := by rw [hw1, hxb]; exact ActAt.new w _ n sd sh
 have hO : ∀ b, O b → b < w.heap.size := fun b hb => (h.o b hb).2.2
 have hb1 : Below w.heap.size w w1 := by rw [hw1]; exact (Below.refl _ _).alloc (Nat.le_refl _) _
 have hT := h1.tb
 have H1 := hid h1; have HX := hid hx1; have HO := hid hO; have B1 := hid hb1; have HT := hid hT; have HW := hid hw1; have HXB := hid hxb; have HK := hid hK
 obtain ⟨k0, k1, k2, k3, k4, k5, k6, k7⟩ : ¬ k = 0 ∧ ¬ k = 1 ∧ ¬ k = 2 ∧ ¬ k = 3 ∧ ¬ k = 4 ∧ ¬ k = 5 ∧ ¬ k = 6 ∧ ¬ k = 7 := ⟨hk 0 (by decide) (by decide), hk 1 (by decide) (by decide), hk 2 (by decide) (by decide), hk 3 (by decide) (by decide), hk 4 (by decide) (by decide), hk 5 (by decide) (by decide), hk 6 (by decide) (by decide), hk 7 (by decide) (by decide)⟩
 have CP := hid (prg_get_yes i h1.prg hi (by omega))
 have CD := hid (fun W (hm : AS arm room croom K (K + 1) W p q r S V (fun b => O b ∨ b = xb) t t) => rget_yes r S V t i W hm.ref hi (by have := HT.out.ls; have := HT.out.ln; have := HK.out; unfold RS.pages; split <;> omega))
 rw [← hn] at CP CD
 obtain ⟨B, hB⟩ : ∃ B, B = t.pages.getD i [] := ⟨_, rfl⟩
 rw [← hB] at CP CD
 obtain ⟨sx, hsx⟩ : ∃ x, x = Dsk.str B := ⟨_, rfl⟩
 have HSX := hid hsx
 clear h h1 hx1 hO hb1 hT hK hxb hw1 hi hn hB hk hsx
 go_enter Tryz.func11, Tryz.ntmps11
 go_wp2_with (first
   | (go_at_call 34; rw [← HW.out]; refine CP.out.mono ?_; rintro e w3 ⟨a, cap, hrd, _, _, rfl, hp, hr⟩; have M3 := hid (H1.out.did hp hr); have R3 := hid hrd; have y1 := (HX.out.stay (M3.out.2.at_ (Or.inr rfl) (H1.out.o xb (Or.inr rfl)).2.2)).2.1; rw [HXB.out] at y1; clear hp hr hrd)
   | (go_at_call 52; refine (CD.out w3 M3.out.1).mono ?_; rintro e w4 ⟨v4, rfl, ho4, hb4⟩; have B4 := hid hb4; have cx := cvtP (R3.out.keep hb4); obtain ⟨ao4, cap4, rfl, rd4, _⟩ := Dsk.rd_owned ho4; have cy := cvtP rd4; rw [← HSX.out] at cx cy; clear hb4 ho4 rd4))
 go_ret
 exact acted HO.out B1.out M3.out.2 M3.out.1 (RTo.below M3.out.1.ref B4.out) HT.out.up
end
end Go.Proofs.YtadhdedjdgjboaaGreatDoor
