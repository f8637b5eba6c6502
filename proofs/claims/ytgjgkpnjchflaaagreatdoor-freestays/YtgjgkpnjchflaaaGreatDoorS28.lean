/- Commit; no statement of the seat is proved here. -/
import Derived.Test.YtgjgkpnjchflaaaGreatDoorS27
set_option maxHeartbeats 16000000
set_option maxRecDepth 20000
namespace Go.Proofs.YtgjgkpnjchflaaaGreatDoor
section
open Go.RowKit Go.Maps
open Dsk (gt hid undrew keep_old keep_cell lt_cell Rd DS FS Sec DiskP DFrame Grew From op_at idx dirtD was secD)
open Cch (CS CP Fr)
def Rest(w:World)(p:Nat)(x:PC)(P:Dsk.Parts)(C:Cch.Parts)(d:DS)(s:CS)(sure:List Pg):Prop:=
 Tx w p x P C d s sure 0 sure (List.replicate sure.length false) (List.replicate (sure.length+1) [])
def idle(sure now:List Pg)(c:List Bool):Bool:=decide ((chL c).length=0)&&decide (now.length=sure.length)
theorem commit_idlee(p:Nat)(x:PC)(P:Dsk.Parts)(C:Cch.Parts)(d:DS)(s:CS)(sure:List Pg)(n:Nat)(now:List Pg)(c:List Bool)(enc:List Sec)(w:World)(h:Tx w p x P C d s sure n now c enc)(hb:x.busy=true)(hi:idle sure now c=true) :
  Calls Tryz.prog 22 #[.pointer (some ⟨p,0,none⟩)] w fun e w'=>e=.returned (.int .i64 0)∧∃ m,Rest w' p (x.ended m) P C d s sure∧Fr (fun b=>b=p) w w'∧w.heap.size≤m:=by
 have cw:=within_live p x w h.core.hd
 rw [hb]at cw
 have CW:=hid cw
 have cu:∀ W,Below w.heap.size w W→Calls Tryz.prog 51 #[.pointer (some ⟨p,0,none⟩)] W fun e w'=>e=.returned (.bool true)∧Below W.heap.size W w':=fun W hW=>by
  have:=unchanged_call p x n c enc W (h.core.hd.later hW) (h.later hW).chg.map
  rw [h.np,h.pages,show (decide ((chL c).length=0)&&decide (now.length=sure.length))=true from hi]at this
  exact this
 have CU:=hid cu;have H:=hid h
 clear cw cu h hb hi
 go_enter Tryz.func22,Tryz.ntmps22
 go_wp2_with (first
  | (go_at_call 50;refine CW.out.mono ?_;rintro e w1 ⟨rfl,hb1⟩;have B1:=hid hb1;clear hb1)
  | (go_at_call 51;refine (CU.out w1 B1.out).mono ?_;rintro e w2 ⟨rfl,hb2⟩;have B2:=hid (gt B1.out hb2);clear hb2)
  | (go_at_call 44;refine (end_raw p x w2 (H.out.core.hd.later B2.out)).mono ?_;rintro e w3 ⟨rfl,hw3⟩;have H2:=hid (H.out.later B2.out);have T3:=hid (tx_fresh H2.out.core H2.out.fits H2.out.pages H2.out.ws H2.out.bs H2.out.tab H2.out.t0 hw3);clear hw3))
 go_ret
 exact ⟨rfl,w2.heap.size,T3.out.1,fr_trans (fr_below B2.out) T3.out.2 (fun _ hb=>Or.inl hb),B2.out.size⟩
theorem pre_commit{p:Nat}{x:PC}{P:Dsk.Parts}{C:Cch.Parts}{d:DS}{s:CS}{sure:List Pg}{n:Nat}{now:List Pg}{c:List Bool}{enc:List Sec}{w:World}(h:Tx w p x P C d s sure n now c enc)(hi:idle sure now c=false)(W:World)(hW:Below w.heap.size w W) :
  Calls Tryz.prog 51 #[.pointer (some ⟨p,0,none⟩)] W fun e w'=>e=.returned (.bool false)∧Below W.heap.size W w':=by
 have:=unchanged_call p x n c enc W (h.core.hd.later hW) (h.later hW).chg.map
 rw [h.np,h.pages,show (decide ((chL c).length=0)&&decide (now.length=sure.length))=false from hi]at this
 exact this
theorem commit_oke(p:Nat)(x:PC)(P:Dsk.Parts)(C:Cch.Parts)(d d':DS)(s:CS)(sure:List Pg)(n:Nat)(now:List Pg)(c:List Bool)(enc:List Sec)(w:World)(h:Tx w p x P C d s sure n now c enc)(hb:x.busy=true)(hi:idle sure now c=false)
  (hf:d.f0.now=secsOf sure) (ho:d.off=false∨pastL c now.length sure.length = []) (hh:s.hit+s.miss≤800000) (hL:jL c now.length sure.length≤150) (hop:d.ops≤900000000) (hcom:x.com≤1000000) (hr:storeD d sure now c now.length=(0,d')) :
  Calls Tryz.prog 22 #[.pointer (some ⟨p,0,none⟩)] w fun e w'=>e=.returned (.int .i64 0)∧∃ P' C' s' m,Rest w' p ({ x with pages:=now.length,com:=x.com+1 }.ended m) P' C' d' s' now∧More p x P P' C C' w∧Fr (NC p x P C) w w'∧s'.hit+s'.miss≤s.hit+s.miss+(pastL c x.np x.pages).length∧s'.room=s.room∧w.heap.size≤m:=by
 have cw:=within_live p x w h.core.hd
 rw [hb]at cw
 have CW:=hid cw
 have CU:=hid (pre_commit h hi)
 have CS:=hid (fun W (hW:Below w.heap.size w W)=>store_call p x P C d s sure n now c enc W (h.later hW) hf ho hh hL hop)
 rw [hr]at CS
 have H:=hid h
 clear cw h hb hi hf ho hh hL hop hr
 go_enter Tryz.func22,Tryz.ntmps22
 go_wp2_with (first
  | (go_at_call 50;refine CW.out.mono ?_;rintro e w1 ⟨rfl,hb1⟩;have B1:=hid hb1;clear hb1)
  | (go_at_call 51;refine (CU.out w1 B1.out).mono ?_;rintro e w2 ⟨rfl,hb2⟩;have B2:=hid (gt B1.out hb2);clear hb2)
  | (go_at_call 52;refine (CS.out w2 B2.out).mono ?_;rintro e w3 ⟨rfl,⟨P3,C3,s3,ht3,hm3,hc3,hr3⟩,hf3⟩;have T3:=hid ht3;have M3:=hid hm3;have K3:=hid (And.intro hc3 hr3);have F3:=hid hf3;clear ht3 hm3 hc3 hr3 hf3)
  | (go_at_call 53;refine (settle_calle p x P3 C3 d' s3 sure n now c enc w3 T3.out hcom).mono ?_;rintro e w4 ⟨rfl,C4,s4,m4,ht4,hm4,hf4,e1,e2,e3,e4⟩;have T4:=hid ht4;have M4:=hid hm4;have F4:=hid hf4;have K4:=hid (And.intro e1 (And.intro e2 e3));have L4:=hid e4;clear ht4 hm4 hf4 e1 e2 e3 e4))
 go_ret
 refine ⟨rfl,P3,C4,s4,m4,T4.out,fun b hb=>?_,fr_trans (fr_trans (fr_below (S:=NC p x P C) B2.out) F3.out (fun b hb=>Or.inl hb)) F4.out (fun b hb=>?_),?_,?_,Nat.le_trans B2.out.size (Nat.le_trans F3.out.size L4.out)⟩
 ·rcases M4.out b hb with h1 |h1
  ·rcases M3.out b h1 with h2 |h2
   ·exact Or.inl h2
   ·exact Or.inr (Nat.le_trans B2.out.size h2)
  ·exact Or.inr (Nat.le_trans B2.out.size (Nat.le_trans F3.out.size h1))
 ·rcases M3.out b hb with h2 |h2
  ·exact Or.inl h2
  ·exact Or.inr (Nat.le_trans B2.out.size h2)
 ·obtain ⟨e1,e2,e3⟩:=K4.out
  have:=K3.out.1
  omega
 ·exact K4.out.2.2.trans K3.out.2
end
end Go.Proofs.YtgjgkpnjchflaaaGreatDoor
