/- A transaction in memory; what store does. No statement of the seat is proved here. -/
import Derived.Test.YtfcikkechphmaaaGreatDoorW33
import Derived.Test.YtfcikkechphmaaaGreatDoorW13
set_option maxHeartbeats 16000000
set_option maxRecDepth 20000
namespace Go.Proofs.YtfcikkechphmaaaGreatDoor
section
open Go.RowKit Go.Maps
open Dsk (gt hid undrew keep_old keep_cell lt_cell Rd DS FS Sec DiskP DFrame Grew From op_at idx dirtD was secD)
open Cch (CS CP Fr wpAnyK wpAnyK_take wpAnyK_pure wpAnyK_ready wpAnyK_done wp_region_K AllReadyK.cons AllReadyK.nil)
def Whole(l:List Pg):Prop:=∀ i,i<l.length→(l.getD i []).length=512∧∀ b∈l.getD i [],b<256
structure Tx (w:World) (p:Nat) (x:PC) (P:Dsk.Parts) (C:Cch.Parts) (d:DS) (s:CS) (sure:List Pg) (n:Nat) (now:List Pg) (c:List Bool) (enc:List Sec):Prop where
 core:Core w p x P C d s
 chg:Chg w (NC p x P C) x.m n now c enc
 mo:Out w (NC p x P C) x.m
 fits:Fits s sure
 pages:x.pages=sure.length
 np:x.np=now.length
 ws:Whole sure
 wn:Whole now
 bs:sure.length≤4000
 bn:now.length≤4000
 tab:Jrn.Tab w
 t0:Out w (NC p x P C) 0
 tm:x.m≠0
 sm:∀ i,i<now.length→c.getD i false=false→i<sure.length∧now.getD i []=sure.getD i []
variable {w w':World}
theorem tab_of(h:Jrn.Tab w)(hb:w'.heap[0]? = w.heap[0]?):Jrn.Tab w':=fun k hk=>(World.cell?_of_block (a:=⟨0,k,none⟩) hb).trans (h k hk)
variable {enc:List Sec} {c:List Bool} {now sure:List Pg} {n p:Nat} {s:CS} {d:DS} {x:PC}
theorem Tx.turn{P P':Dsk.Parts}{C C':Cch.Parts}{d':DS}{s':CS}(h:Tx w p x P C d s sure n now c enc)(hc:Core w' p x P' C' d' s')(hf:Fits s' sure)(hm:More p x P P' C C' w)(hs:w.heap.size≤w'.heap.size)(hb:∀ b,Out w (NC p x P C) b→w'.heap[b]? = w.heap[b]?):Tx w' p x P' C' d' s' sure n now c enc:=
 ⟨hc,h.chg.turn (hb _ h.mo) (fun _ ho=>hm.out hs ho) (fun _ _ _ ho hcell=>(World.cell?_of_block (hb _ ho)).trans hcell),hm.out hs h.mo,hf,h.pages,h.np,h.ws,h.wn,h.bs,h.bn,tab_of h.tab (hb _ h.t0),hm.out hs h.t0,h.tm,h.sm⟩
theorem Tx.later{P:Dsk.Parts}{C:Cch.Parts}(h:Tx w p x P C d s sure n now c enc)(hb:Below w.heap.size w w'):Tx w' p x P C d s sure n now c enc:=
 h.turn (h.core.later hb) h.fits (More.refl _ _ _ _ _) hb.size (fun b ho=>hb.block b ho.1)
abbrev S9(p hd q L T m:Nat)(W:World):Prop:=W.cell? ⟨p,2,none⟩=some (.pointer (some ⟨q,0,none⟩))∧W.cell? ⟨hd,0,none⟩=some (.int .i64 (L:Int))∧W.cell? ⟨hd,1,none⟩=some (.int .i64 (T:Int))∧W.cell? ⟨hd,2,none⟩=some (.int .u64 (m:Int))
end
section
open Go.RowKit Go.Maps
open Dsk (gt hid undrew keep_old keep_cell lt_cell Rd DS FS Sec DiskP DFrame Grew From op_at idx dirtD was secD)
open Cch (CS CP Fr wpAnyK wpAnyK_take wpAnyK_pure wpAnyK_ready wpAnyK_done wp_region_K AllReadyK.cons AllReadyK.nil)
theorem told_any(m:Bool)(f:Int)(w:World):Calls Tryz.prog 119 #[.agg #[.bool m,.int .i64 f]] w fun e w'=>e=.returned (.int .i64 (if m then f else 1))∧Below w.heap.size w w':=by
 cases m
 ·go_enter Tryz.func119,Tryz.ntmps119
  go_wp2
  go_ret
  exact ⟨rfl,Below.alloc (Below.refl _ _) (Nat.le_refl _) _⟩
 ·go_enter Tryz.func119,Tryz.ntmps119
  go_wp2
  go_ret
  exact ⟨rfl,Below.alloc (Below.refl _ _) (Nat.le_refl _) _⟩
def Fate(w:World)(p:Nat)(m:Bool)(f:Int):Prop:=w.cell? ⟨p,0,none⟩=some (.bool m)∧w.cell? ⟨p,1,none⟩=some (.int .i64 f)
variable {p:Nat} {w:World}
theorem PgAt.fate{x:PC}(h:PgAt w p x):Fate w p true 0:=⟨h.cells.1,h.cells.2.1⟩
theorem fault_any(p:Nat)(m:Bool)(f:Int)(w:World)(h:Fate w p m f):Calls Tryz.prog 65 #[.pointer (some ⟨p,0,none⟩)] w fun e w'=>e=.returned (.int .i64 (if m then f else 1))∧Below w.heap.size w w':=by
 obtain ⟨h0,h1⟩:=h
 have c:=hid (told_any m f w)
 obtain ⟨r,hr⟩:∃ r,(if m then f else 1)=r:=⟨_,rfl⟩
 rw [hr]at c ⊢
 clear hr
 go_enter Tryz.func65,Tryz.ntmps65
 go_wp2_with (go_at_call 119;refine c.out.mono ?_;rintro e w1 ⟨rfl,hb⟩;have HB:=hid hb;clear hb)
 go_ret
 exact ⟨rfl,HB.out⟩
theorem within_live(p:Nat)(x:PC)(w:World)(h:PgAt w p x):Calls Tryz.prog 86 #[.pointer (some ⟨p,0,none⟩)] w fun e w'=>e=.returned (.int .i64 (if x.busy then 0 else 6))∧Below w.heap.size w w':=by
 have c:=hid (fault_any p true 0 w h.fate)
 have H:=hid h
 clear h
 obtain ⟨b,hb⟩:∃ b,x.busy=b:=⟨_,rfl⟩
 cases b
 ·rw [hb]
  have HBB:=hid hb
  clear hb
  go_enter Tryz.func86,Tryz.ntmps86
  go_wp2_with (go_at_call 65;refine c.out.mono ?_;rintro e w1 ⟨rfl,hb1⟩;have HB:=hid hb1;obtain ⟨a0,a1,a2,a3,a4,a5,a6,a7,a8,a9,a10,a11⟩:=(H.out.later hb1).cells;rw [HBB.out]at a5;clear hb1)
  go_ret
  exact ⟨rfl,HB.out⟩
 ·rw [hb]
  have HBB:=hid hb
  clear hb
  go_enter Tryz.func86,Tryz.ntmps86
  go_wp2_with (go_at_call 65;refine c.out.mono ?_;rintro e w1 ⟨rfl,hb1⟩;have HB:=hid hb1;obtain ⟨a0,a1,a2,a3,a4,a5,a6,a7,a8,a9,a10,a11⟩:=(H.out.later hb1).cells;rw [HBB.out]at a5;clear hb1)
  go_ret
  exact ⟨rfl,HB.out⟩
theorem idx_none(n:Nat):idx (false::List.replicate n false) = []:=by
 apply List.eq_nil_iff_forall_not_mem.2
 intro i hi
 have:=Dsk.mem_idx.1 hi
 cases i with
 | zero=>simp at this
 | succ i=>
  simp only [List.getD_cons_succ]at this
  rw [List.getD,List.getElem?_replicate]at this
  split at this<;>simp at this
theorem dirt_none(n:Nat)(enc:List Sec):dirtD (false::List.replicate n false) enc=.map []:=by rw [dirtD,idx_none];rfl
variable {W:World}
theorem set_frame{i:Nat}{v:Value}(h:Fr (fun b=>b=p) w W):Fr (fun b=>b=p) w (W.setCell ⟨p,i,none⟩ v):=
 ⟨h.os,h.tape,h.output,by simpa using h.size,fun b hb hn=>by rw [heap_setCell_other _ _ _ _ hn];exact h.blk b hb hn⟩
theorem alloc_frame{o:Obj}(h:Fr (fun b=>b=p) w W):Fr (fun b=>b=p) w (W.alloc o):=
 ⟨h.os,h.tape,h.output,by simp;have:=h.size;omega,fun b hb hn=>by rw [hao _ _ _ (Nat.lt_of_lt_of_le hb h.size)];exact h.blk b hb hn⟩
end
section
open Go.RowKit Go.Maps
open Dsk (gt hid undrew keep_old keep_cell lt_cell Rd DS FS Sec DiskP DFrame Grew From op_at idx dirtD was secD)
open Cch (CS CP Fr wpAnyK wpAnyK_take wpAnyK_pure wpAnyK_ready wpAnyK_done wp_region_K AllReadyK.cons AllReadyK.nil)
theorem has_any(p:Nat)(x:PC)(z:Int)(w:World)(h:PgAt w p x):Calls Tryz.prog 172 #[.pointer (some ⟨p,0,none⟩),.int .i64 z] w fun e w'=>e=.returned (.bool (decide (1≤z)&&decide (z≤(x.np:Int))))∧Below w.heap.size w w':=by
 obtain ⟨a0,a1,a2,a3,a4,a5,a6,a7,a8,a9,a10,a11⟩:=h.cells
 clear h
 by_cases h1:1≤z
 ·go_enter Tryz.func172,Tryz.ntmps172
  go_wp2
  go_ret
  exact ⟨by simp [h1],Below.refl _ _⟩
 ·go_enter Tryz.func172,Tryz.ntmps172
  go_wp2
  go_ret
  exact ⟨by rw [show (decide (1≤z)&&decide (z≤(x.np:Int)))=false by simp;omega];rfl,Below.refl _ _⟩
theorem begin_call(p:Nat)(x:PC)(w:World)(h:PgAt w p x)(hb:x.busy=false):Calls Tryz.prog 51 #[.pointer (some ⟨p,0,none⟩)] w fun e w'=>e=.returned (.int .i64 0)∧PgAt w' p { x with busy:=true }∧Fr (fun b=>b=p) w w':=by
 have c:=hid (fault_any p true 0 w h.fate)
 have H:=hid h;have HB:=hid hb
 clear h hb
 go_enter Tryz.func51,Tryz.ntmps51
 go_wp2_with (go_at_call 65;refine c.out.mono ?_;rintro e w1 ⟨rfl,hb1⟩;have B1:=hid hb1;have H1:=hid (H.out.later hb1);obtain ⟨a0,a1,a2,a3,a4,a5,a6,a7,a8,a9,a10,a11⟩:=H1.out.cells;have f5:=H1.out.frozen 5;rw [HB.out]at a5;clear hb1)
 go_ret
 refine ⟨rfl,?_,?_⟩
 ·have:=Cch.blk_set H1.out (i:=5) (v:=.bool true)
  unfold PgAt
  rw [this];rfl
 ·refine ⟨B1.out.os,B1.out.tape,B1.out.output,by simpa using B1.out.size,fun b hb hn=>?_⟩
  rw [heap_setCell_other _ _ _ _ hn];exact B1.out.block b hb
end
section
open Go.RowKit Go.Maps
open Dsk (gt hid undrew keep_old keep_cell lt_cell Rd DS FS Sec DiskP DFrame Grew From op_at idx dirtD was secD)
open Cch (CS CP Fr Row shedL p52 wpAnyK wpAnyK_take wpAnyK_pure wpAnyK_ready wpAnyK_done wp_region_K AllReadyK.cons AllReadyK.nil)
theorem getD_set{l:List Pg}{i j:Nat}{b:Pg}:(l.set i b).getD j []=if i=j∧j<l.length then b else l.getD j []:=by
 simp only [List.getD,List.getElem?_set]
 by_cases h:i=j
 ·subst h
  by_cases h2:i<l.length
  ·simp [h2]
  ·simp [h2]
 ·simp [h]
abbrev S8(p:Nat)(x:PC)(n:Nat)(D:DataW Unit)(W:World):Prop:=PgAt W p x∧W.ownsMap Tryz.prog 3 slR x.m n D
end
section
open Go.RowKit Go.Maps
open Dsk (gt hid undrew keep_old keep_cell lt_cell Rd DS FS Sec DiskP DFrame Grew From op_at idx dirtD was secD)
open Cch (CS CP Fr)
def Rest(w:World)(p:Nat)(x:PC)(P:Dsk.Parts)(C:Cch.Parts)(d:DS)(s:CS)(sure:List Pg):Prop:=
 Tx w p x P C d s sure 0 sure (List.replicate sure.length false) (List.replicate (sure.length+1) [])
end
end Go.Proofs.YtfcikkechphmaaaGreatDoor
