/- What the cache keeps; a page's bytes as they were at Begin. No statement of the seat is proved here. -/
import Derived.Test.YtgjgkpnjchflaaaGreatDoorS17
import Derived.Shelf.SlicesE.DeleteFunc
import Derived.Lib.OwnBridge
set_option maxHeartbeats 16000000
set_option maxRecDepth 20000
namespace Go.Proofs.YtgjgkpnjchflaaaGreatDoor
section
open Go.RowKit Go.Maps
open Dsk (gt hid undrew keep_old keep_cell lt_cell Rd DS FS Sec DiskP DFrame Grew From writeD syncD cutD lenD readD newD known op_at)
open Cch (CS CP Fr Row shedL p52 wpAnyK wpAnyK_take wpAnyK_pure wpAnyK_ready wpAnyK_done wp_region_K AllReadyK.cons AllReadyK.nil)
theorem shedL_sub(p:Row→Bool)(n:Nat)(l:List Row):(shedL p n l).Sublist l:=by
 induction l generalizing n with
 | nil=>rw [Cch.shedL_nil];exact .slnil
 | cons r l ih=>
  cases n with
  | zero=>rw [Cch.shedL_zero];exact .refl _
  | succ n=>
   unfold shedL
   split
   ·exact (ih n).cons _
   ·exact (ih (n+1)).cons_cons _
structure Fits (s:CS) (sure:List Pg):Prop where
 kept:Kept s sure
 len:s.l.length≤s.room
 room:8≤s.room
variable {sure:List Pg} {s:CS}
theorem Fits.get(h:Fits s sure)(k:Int):Fits (s.get k) sure:=by
 unfold Cch.CS.get
 cases hf:s.find k with
 | none=>exact ⟨h.kept,h.len,h.room⟩
 | some r=>
  have hm:r∈s.l:=List.mem_of_find?_eq_some hf
  have hrk:(r.page == k)=true:=(List.find?_eq_some_iff_append.1 hf).1
  refine ⟨fun x hx=>?_,?_,h.room⟩
  ·rcases List.mem_append.1 hx with h1 |h1
   ·exact h.kept x (List.mem_filter.1 h1).1
   ·rw [List.mem_singleton.1 h1];exact h.kept r hm
  ·show (s.others k++[r]).length≤s.room
   have h1:(s.others k).length<s.l.length:=by
    unfold Cch.CS.others
    refine Nat.lt_of_le_of_ne (List.length_filter_le _ _) (fun e=>?_)
    have:=(List.length_filter_eq_length_iff.1 e) r hm
    simp at hrk;simp [hrk]at this
   have:=h.len
   simp only [List.length_append,List.length_singleton];omega
theorem Fits.put(h:Fits s sure){i:Nat}(hi:i<sure.length):Fits (s.put ((i+1:Nat):Int) (sure.getD i [])) sure:=by
 have hrow:∀ b,({ s.rowFor ((i+1:Nat):Int) with bytes:=b }:Row).page=((i+1:Nat):Int)∧(s.rowFor ((i+1:Nat):Int)).pins=0∧(s.rowFor ((i+1:Nat):Int)).dirty=false:=fun b=>by
  unfold Cch.CS.rowFor
  cases hf:s.find ((i+1:Nat):Int) with
  | none=>exact ⟨rfl,rfl,rfl⟩
  | some r=>
   have hrk:=(List.find?_eq_some_iff_append.1 hf).1
   obtain ⟨j,_,_,_,h4,h5⟩:=h.kept r (List.mem_of_find?_eq_some hf)
   exact ⟨by simpa using hrk,h4,h5⟩
 have hol:(s.others ((i+1:Nat):Int)).length≤s.l.length:=List.length_filter_le _ _
 have hpl:(s.putL ((i+1:Nat):Int) (sure.getD i [])).length=(s.others ((i+1:Nat):Int)).length+1:=by simp [Cch.CS.putL]
 have hl:=h.len
 have hr8:=h.room
 refine ⟨fun x hx=>?_,?_,h.room⟩
 ·have hx':=(shedL_sub _ _ _).subset hx
  rcases List.mem_append.1 hx' with h1 |h1
  ·exact h.kept x (List.mem_filter.1 h1).1
  ·rw [List.mem_singleton.1 h1]
   exact ⟨i,(hrow []).1,hi,rfl,(hrow []).2.1,(hrow []).2.2⟩
 ·show (shedL (p52 ((i+1:Nat):Int)) ((s.putL ((i+1:Nat):Int) (sure.getD i [])).length - s.room) (s.putL ((i+1:Nat):Int) (sure.getD i []))).length≤s.room
  rcases Nat.lt_or_ge (s.others ((i+1:Nat):Int)).length s.room with h1 |h1
  ·rw [hpl,show (s.others ((i+1:Nat):Int)).length+1 - s.room=0 by omega,Cch.shedL_zero,hpl];omega
  ·rw [hpl,show (s.others ((i+1:Nat):Int)).length+1 - s.room=1 by omega]
   unfold Cch.CS.putL
   cases ho:s.others ((i+1:Nat):Int) with
   | nil=>rw [ho]at h1;simp at h1;omega
   | cons r t=>
    have hr:r∈s.others ((i+1:Nat):Int):=by rw [ho];exact List.mem_cons_self
    obtain ⟨hm,hne⟩:=List.mem_filter.1 hr
    obtain ⟨j,_,_,_,h4,h5⟩:=h.kept r hm
    have hp:p52 ((i+1:Nat):Int) r=true:=by
     unfold p52
     rw [h4,h5]
     simpa using hne
    rw [List.cons_append,Cch.shed_yes (by omega) hp,Cch.shedL_zero]
    rw [ho]at hol
    simp only [List.length_cons]at hol
    simp only [List.length_append,List.length_singleton];omega
theorem Fits.peek(h:Fits s sure){i:Nat}{b:List Nat}(hp:s.peek ((i+1:Nat):Int)=some b):b=sure.getD i []:=by
 unfold Cch.CS.peek at hp
 cases hf:s.find ((i+1:Nat):Int) with
 | none=>rw [hf]at hp;cases hp
 | some r=>
  rw [hf]at hp
  have hrk:=(List.find?_eq_some_iff_append.1 hf).1
  obtain ⟨j,h1,_,h3,_⟩:=h.kept r (List.mem_of_find?_eq_some hf)
  have:r.page=((i+1:Nat):Int):=by simpa using hrk
  have hji:j=i:=by omega
  subst hji
  rw [←h3];exact (Option.some.inj hp).symm
theorem get_count(s:CS)(k:Int):(s.get k).hit+(s.get k).miss=s.hit+s.miss+1:=by
 unfold Cch.CS.get
 split<;>simp<;>omega
theorem get_room(s:CS)(k:Int):(s.get k).room=s.room:=by unfold Cch.CS.get;split<;>rfl
variable {w w':World}
theorem rd_fr{S:Nat→Prop}(hf:Fr S w w'){ao:Option Addr}{n cap:Nat}{xs:List Nat}(h:Rd w ao n cap xs)(ho:0<n→∀ a,ao=some a→¬S a.block):Rd w' ao n cap xs:=by
 refine ⟨h.1,h.2.1,h.2.2.1,fun hn=>?_⟩
 obtain ⟨b,off,rfl,hc⟩:=h.2.2.2 hn
 exact ⟨b,off,rfl,fun t ht=>fr_cell hf (hc t ht) (ho hn _ rfl)⟩
structure BeforeTo (w w':World) (p:Nat) (x:PC) (P:Dsk.Parts) (C:Cch.Parts) (d:DS) (s:CS) (sure:List Pg) (b:Nat):Prop where
 is:∃ C' s',¬C'.S x.k b∧Core w' p x P C' d s'∧Fits s' sure∧More p x P P C C' w∧s'.hit+s'.miss≤s.hit+s.miss+1∧s'.room=s.room
 fr:Fr (C.S x.k) w w'
theorem wf_page{i:Nat}(h:i≤100000):(Lit.int .i64 ((i+1:Nat):Int)).wf=true:=Dsk.wf_i64 (i+1) (by omega)
variable {B:Nat}
theorem row5{ao:Option Addr}{cap:Nat}{x:List Nat}(h:w.ownsRow B 5 1 (.slice ao 512 cap) 512 (Cch.bs x)):∃ a cur,ao=some a∧a.off=0∧B≤a.block∧w.heap[a.block]? = some (.cells cur 5 (0,0))∧Rd w (some a) 512 cap x:=by
 rcases h.2 with ⟨h1,_⟩ | ⟨g,cap',cur,h1,hB,hg,_⟩
 ·simp at h1
 ·simp only [Value.slice.injEq]at h1
  obtain ⟨rfl,-,rfl⟩:=h1
  exact ⟨_,cur,rfl,rfl,hB,hg,Cch.rd_own h⟩
variable {xs:List Value} {v:Value} {e:TypeId} {n sz:Nat}
theorem own_fr{E:Nat→Prop}(h:w.ownsRow B e sz v n xs)(hf:Fr E w w')(hE:∀ k,v.ownBlock=some k→¬E k):w'.ownsRow B e sz v n xs:=by
 refine ⟨h.1,?_⟩
 rcases h.2 with hn | ⟨g,cap,cur,rfl,hb',hg,hr⟩
 ·exact .inl hn
 ·exact .inr ⟨g,cap,cur,rfl,hb',(hf.blk g (Array.getElem?_eq_some_iff.1 hg).1 (hE g rfl)).trans hg,hr⟩
theorem own_dn{B':Nat}(h:w.ownsRow B e sz v n xs)(hB:B'≤B):w.ownsRow B' e sz v n xs:=by
 refine ⟨h.1,?_⟩
 rcases h.2 with hn | ⟨g,cap,cur,rfl,hb',hr⟩
 ·exact .inl hn
 ·exact .inr ⟨g,cap,cur,rfl,Nat.le_trans hB hb',hr⟩
theorem before_own(p:Nat)(x:PC)(P:Dsk.Parts)(C:Cch.Parts)(d:DS)(s:CS)(sure:List Pg)(i:Nat)(w:World)(h:Core w p x P C d s)(hk:Fits s sure)(hf:d.f0.now=secsOf sure)(hl:∀ j,j<sure.length→(sure.getD j []).length=512)(ho:d.off=false)
  (hi:i<sure.length) (hb:sure.length≤4000) (hh:s.hit+s.miss≤900000) :
  Calls Tryz.prog 116 #[.pointer (some ⟨p,0,none⟩),.int .i64 ((i+1:Nat):Int)] w fun e w'=>∃ a cap,e=.returned (.tuple #[.slice (some a) 512 cap,.int .i64 0])∧(Rd w' (some a) 512 cap (sure.getD i [])∧w'.ownsRow w.heap.size 5 1 (.slice (some a) 512 cap) 512 (Cch.bs (sure.getD i [])))∧w.heap.size≤a.block∧BeforeTo w w' p x P C d s sure a.block:=by
 have hli:=hl i hi
 have hrd:=hid (read_page hf ho hi hli)
 have hks:C.ks.length<1000000:=by
  have h1:=hk.len
  rw [h.ck.ls,List.length_map]at h1
  have:=h.ck.rm
  omega
 have cg:=hid (Cch.get_call x.k C s ((i+1:Nat):Int) w h.ck (wf_page (by omega)) (by omega) (by omega))
 obtain ⟨a0,a1,a2,a3,a4,a5,a6,a7,a8,a9,a10,a11⟩:=h.hd.cells
 have HC0:=hid h;have HK:=hid hk;have HH:=hid hh;have HL:=hid hli
 have hpk:=hid (fun b=>hk.peek (i:=i) (b:=b))
 have hcount:=get_count s ((i+1:Nat):Int)
 have hroom:=get_room s ((i+1:Nat):Int)
 have HCN:=hid hcount;have HRM:=hid hroom
 have hpr:Hid (-1000000≤((i+1:Nat):Int)∧((i+1:Nat):Int)≤1000000):=hid ⟨by omega,by omega⟩
 have hpl:Hid ((((i+1:Nat):Int) - 1)*4=(i:Int)*4):=hid (by omega)
 have HF:=hid hf;have HI:=hid hi;have HO:=hid ho
 clear h hk hf hl ho hli hcount hroom hh hi
 obtain ⟨g,hg⟩:∃ g:Int,((i+1:Nat):Int)=g:=⟨_,rfl⟩
 cases hq:s.peek ((i+1:Nat):Int) with
 | some b=>
  have hbe:=hpk.out b hq
  rw [hq]at cg
  rw [hg]at cg ⊢
  have HBE:=hid hbe
  clear hbe hq
  go_enter Tryz.func116,Tryz.ntmps116
  go_wp2_with (go_at_call 161;refine cg.out.mono ?_;rintro e w1 ⟨⟨_,ao,cap,rfl,hrow⟩,C1,hst⟩;have HR:=hid hrow;have HS:=hid hst;clear hrow hst)
  go_ret2
  obtain ⟨a,cur,rfl,h0,hB,hblk,hr⟩:=row5 HR.out
  obtain ⟨hc1,hm1,hf1⟩:=HC0.out.cache HS.out
  have hke:=HK.out.get ((i+1:Nat):Int)
  have hcn:=HCN.out;have hrm:=HRM.out
  rw [hg]at hke hcn hrm
  exact ⟨a,cap,rfl,by rw [←HBE.out];exact ⟨hr,HR.out⟩,hB,⟨C1,_,kind5 hc1.ck hblk,hc1,hke,hm1,by omega,hrm⟩,hf1⟩
 | none=>
  rw [hq]at cg
  clear hq
  rw [hg]at cg hpr hpl ⊢
  go_enter Tryz.func116,Tryz.ntmps116
  go_wp2_with (go_at_call 161;refine cg.out.mono ?_;rintro e w1 ⟨hn,C1,hst⟩;replace hn:e=.returned (.tuple #[.slice none 0 0,.bool false]):=hn;subst hn;have HS:=hid hst;clear hst)
  go_upto_region 4 with fail
  obtain ⟨hc1,hm1,hf1⟩:=HC0.out.cache HS.out
  have HM1:=hid hm1;have HF1:=hid hf1
  have HC:=hid (hc1.later (Below.refl _ _).drew)
  clear hc1 hm1 hf1 a0 a1 a2 a3 a4 a5 a6 a7 a8 a9 a10 a11
  refine wp_region_K (S:=Gr w1.drew) (fun _=>false) (by kernel_rfl) (Below.refl _ _) (fun hHeld=>?_)
  refine gkp 0 ?_
  refine gkp 1 ?_
  refine gkp 2 ?_
  refine gkt 3 ?_ (h:=by intro W hSw;obtain ⟨a0,a1,a2,a3,a4,a5,a6,a7,a8,a9,a10,a11⟩:=(HC.out.hd.later hSw).cells;go_simp;first |done |with_reducible rfl)
  refine gkp 4 ?_
  refine gk1 5 (fun K hK=>?_)
  go_simp
  go_at_call 109;refine (place_any _ _ hpr.out).mono ?_;rintro e w4 ⟨rfl,hw⟩;have hR:Gr w1.drew w4:=(by rw [hw];exact Below.refl _ _);have HG4:Hid (w1.heap.size≤w4.heap.size):=hid hR.size;have HF4:Hid (Fr (C1.S x.k) w1 w4):=hid (fr_below (undrew hR));replace HC:=hid (HC.out.later hR);clear hw
  refine hK.out _ _ hR (fun hHeld=>?_)
  clear hK K
  (try simp only [Act.put,sA,sZ,sS])
  clear hHeld
  refine wpAnyK_more (S':=Gr w4) (fun W h=>gt hR h) ?_
  have hHeld:Gr w4 w4:=Below.refl _ _
  clear hR
  refine gk1 6 (fun K hK=>?_)
  go_simp
  go_at_call 77;refine (Dsk.read_call x.q P d 0 _ 4 w4 HC.out.dk (by have:=hpr.out;omega) (by omega)).mono ?_;rw [hpl.out,hrd.out];dsimp only;rw [HL.out];rintro e w5 ⟨ro,rc,rfl,hr,hOw,hR⟩;have hfr:=Cch.own_ge hOw;have HOW:=hid hOw;clear hOw;replace hR:Gr w4 w5:=hR;obtain ⟨b5,o5,rfl,hcl⟩:=hr.2.2.2 (by omega);have HSB:Hid (¬C1.S x.k b5):=hid (fun hS=>by have h1:=HC.out.ck.lt hS;have h2:=hfr _ rfl;simp only at h2;omega);have HNB:Hid (w.heap.size≤b5):=hid (by have h2:=hfr _ rfl;simp only at h2;have h3:=HF1.out.size;have h4:=HG4.out;omega);have HLT:Hid (b5<w5.heap.size):=hid (lt_cell (hcl 0 (by omega)));clear hcl;have HG5:Hid (w.heap.size≤w5.heap.size):=hid (by have h3:=HF1.out.size;have h4:=HG4.out;have h5:=hR.size;omega);have HF5:Hid (Fr (C1.S x.k) w1 w5):=hid (fr_trans HF4.out (fr_below hR) (fun b hb=>Or.inl hb));replace HC:=hid (HC.out.later hR);have RD:=hid hr;clear hr hfr
  refine hK.out _ _ hR (fun hHeld=>?_)
  clear hK K
  (try simp only [Act.put,sA,sZ,sS])
  clear hHeld
  refine wpAnyK_more (S':=Gr w5) (fun W h=>gt hR h) ?_
  have hHeld:Gr w5 w5:=Below.refl _ _
  clear hR
  refine gkp 7 ?_
  refine gkp 8 ?_
  refine gkp 9 ?_
  refine gkp 10 ?_
  refine gkp 11 ?_
  refine wpAnyK_done (by kernel_rfl) ?_ _
  have hks1:C1.ks.length<1000000:=by
   have h1:=(HK.out.get g).len
   rw [HC.out.ck.ls,List.length_map]at h1
   have:=HC.out.ck.rm
   omega
  have cp:=hid (Cch.put_call x.k b5 o5 rc C1 (s.get g) g (sure.getD i []) w5 HC.out.ck (by rw [←hg];exact wf_page (by have:=HI.out;omega)) (by omega) RD.out HSB.out hks1)
  obtain ⟨a0,a1,a2,a3,a4,a5,a6,a7,a8,a9,a10,a11⟩:=HC.out.hd.cells
  go_wp2_with (go_at_call 94;refine cp.out.mono ?_;rintro e w6 ⟨rfl,C2,hst⟩;have HS2:=hid hst;clear hst)
  go_ret2
  obtain ⟨hc2,hm2,hf2⟩:=HC.out.cache HS2.out
  have hfit:=(HK.out.get g).put HI.out
  rw [hg]at hfit
  have hcn:=HCN.out;have hrm:=HRM.out
  rw [hg]at hcn hrm
  refine ⟨⟨b5,o5,none⟩,rc,rfl,⟨rd_fr hf2 RD.out (fun _ a ha=>by obtain rfl:=Option.some.inj ha;exact HSB.out),own_fr (own_dn HOW.out (by have h3:=HF1.out.size;have h4:=HG4.out;omega)) hf2 (fun k hk=>by cases hk;exact HSB.out)⟩,HNB.out,⟨C2,_,fun hS=>?_,hc2,hfit,HM1.out.trans hm2 HG5.out,?_,hrm⟩,fr_trans HF1.out (fr_trans HF5.out hf2 (fun b hb=>Or.inl hb)) (fun b hb=>HS.out.gr b hb)⟩
  ·rcases HS2.out.gr _ hS with h1 |h1
   ·exact HSB.out h1
   ·have:=HLT.out;simp only at h1;omega
  ·show (s.get g).hit+(s.get g).miss≤_
   omega
theorem before_call(p:Nat)(x:PC)(P:Dsk.Parts)(C:Cch.Parts)(d:DS)(s:CS)(sure:List Pg)(i:Nat)(w:World)(h:Core w p x P C d s)(hk:Fits s sure)(hf:d.f0.now=secsOf sure)(hl:∀ j,j<sure.length→(sure.getD j []).length=512)(ho:d.off=false)
  (hi:i<sure.length) (hb:sure.length≤4000) (hh:s.hit+s.miss≤900000) :
  Calls Tryz.prog 116 #[.pointer (some ⟨p,0,none⟩),.int .i64 ((i+1:Nat):Int)] w fun e w'=>∃ a cap,e=.returned (.tuple #[.slice (some a) 512 cap,.int .i64 0])∧Rd w' (some a) 512 cap (sure.getD i [])∧w.heap.size≤a.block∧BeforeTo w w' p x P C d s sure a.block:=by
 refine (before_own p x P C d s sure i w h hk hf hl ho hi hb hh).mono ?_
 rintro e w' ⟨a,cap,e1,⟨hr,_⟩,h2,h3⟩
 exact ⟨a,cap,e1,hr,h2,h3⟩
end
end Go.Proofs.YtgjgkpnjchflaaaGreatDoor
namespace Go.Proofs
open Go.Shelf
def Tryz.delB_ren:Go.Shelf.Ren:=⟨fun |10=>57 |6=>95 |n=>n,fun |0=>0 |3=>3 |4=>4 |22=>33 |23=>3 |25=>90 |n=>n,fun |n=>n⟩
theorem Tryz.delB:Go.Proofs.SlLaysH.n10 Tryz.prog Tryz.delB_ren:={
 mixed:=by kernel_rfl
 f6:=⟨Tryz.f95.name,by decide,Tryz.func95.trans (congrArg some (by kernel_rfl))⟩
 f10:=⟨Tryz.f57.name,by decide,Tryz.func57.trans (congrArg some (by kernel_rfl))⟩
 t0:=Tryz.underlying0
 a0:=Tryz.isAgg0
 z0:=Tryz.sizeOf0
 v0:=Tryz.zeroValue0
 t3:=Tryz.underlying3
 a3:=Tryz.isAgg3
 z3:=Tryz.sizeOf3
 v3:=Tryz.zeroValue3
 t4:=Tryz.underlying4
 a4:=Tryz.isAgg4
 z4:=Tryz.sizeOf4
 v4:=Tryz.zeroValue4
 t22:=Tryz.underlying33
 a22:=Tryz.isAgg33
 z22:=Tryz.sizeOf33
 v22:=Tryz.zeroValue33
 a23:=Tryz.isAgg3
 z23:=Tryz.sizeOf3
 t25:=Tryz.underlying90
 a25:=Tryz.isAgg90
 z25:=Tryz.sizeOf90
 v25:=Tryz.zeroValue90 }
end Go.Proofs
namespace Go.Proofs.YtgjgkpnjchflaaaGreatDoor
open Go.RowKit Go.Maps Go.Sort Go.Shelf Go.Lib
open Dsk (gt hid undrew keep_old keep_cell lt_cell Rd DS FS Sec DiskP DFrame Grew From idx dirtD size_dirt)
def zI(l:List Nat):List Value:=l.map fun i:Nat=>.int .i64 (i:Int)
theorem sortedB_more(b n:Nat)(c:List Bool)(enc:List Sec)(w:World)(hown:w.ownsMap Tryz.prog 3 slR b n (dirtD c enc))(hmax:(idx c).length≤100000) :
  Calls Tryz.prog 122 #[.func (.func 166) #[] #[.pointer (some ⟨w.heap.size,0,none⟩)]] (w.alloc (.cells #[.map (some b)] 70)) fun e w'=>∃ v:Value,e=.returned v ∧
   w'.ownsRow w.heap.size 3 1 v (idx c).length (zI (idx c))∧(v=.slice none 0 0↔idx c = [])∧Below w.heap.size w w':=by
 have hbl:=hown.lt
 have hseq:SeqGives Fence.wide 2 Tryz.prog 166 #[.pointer (some ⟨w.heap.size,0,none⟩)] encZ (fun ss=>ss.Perm (intKeys (dirtD c enc))) (Maps.size (dirtD c enc)) (w.alloc (.cells #[.map (some b)] 70)):=
  AnyZI.keys_gives (ρ:=Tryz.keysB_ren) { Tryz.keysB with } Fence.wide _ trivial rfl (by omega) w.heap.size b _ (dirtD c enc) _ (by simp) (by simp) (map_df hown (hao _ _ _ hbl))
 have hs:=size_dirt c enc
 have cS:=AnyZI.sorted_in Tryz.sortedA Fence.wide 5 trivial trivial trivial trivial rfl (by omega) (sortsB _) (enters_of Tryz.func59 (by kernel_rfl) rfl) 166 #[.pointer (some ⟨w.heap.size,0,none⟩)] trivial (enters_of Tryz.func166 (by kernel_rfl) rfl) _ _ (by rw [hs];unfold maxLen;omega) (by rw [hs];omega) _ hseq
 change CallsIn _ _ Tryz.prog 122 _ _ _ at cS
 refine (callsIn_wide.1 cS).mono ?_
 rintro e w' ⟨v,ss,rfl,hS,hrow,hnil,hb⟩
 rw [Dsk.keys_sorted hS]at hrow
 have hl:ss.length=(idx c).length:=by rw [hS.length_eq,Dsk.keys_dirt];simp
 rw [hl,List.map_map]at hrow
 refine ⟨v,rfl,ownsRow_base_a hrow (by simp),hnil.trans ?_,((Below.refl _ w).alloc (Nat.le_refl _) _).trans (hb.mono (by simp))⟩
 constructor
 ·rintro rfl;exact List.eq_nil_of_length_eq_zero hl.symm
 ·intro h;rw [h]at hl;exact List.eq_nil_of_length_eq_zero hl
theorem changed_any(np:Int)(b n:Nat)(c:List Bool)(enc:List Sec)(w:World)(hown:w.ownsMap Tryz.prog 3 slR b n (dirtD c enc))(hmax:(idx c).length≤100000) :
  Calls Tryz.prog 93 #[.agg #[.int .i64 np,.map (some b)]] w fun e w'=>∃ v:Value,e=.returned v∧w'.ownsRow w.heap.size 3 1 v (idx c).length (zI (idx c))∧(v=.slice none 0 0↔idx c = [])∧Below w.heap.size w w':=by
 obtain ⟨W1,hW1⟩:∃ W1,W1=w.alloc (.cells #[.int .i64 np,.map (some b)] 72):=⟨_,rfl⟩
 have hb1:Below w.heap.size w W1:=by rw [hW1];exact Below.alloc (Below.refl _ _) (Nat.le_refl _) _
 have c1:=hid (keysB_any (some b) W1)
 have c2:=hid (sortedB_more b n c enc W1 (map_df hown (hb1.block b hown.lt)) hmax)
 have HB1:=hid hb1
 have hc:W1.cell? ⟨w.heap.size,1,none⟩=some (.map (some b)):=by rw [hW1,World.cell?_alloc_at _ _ _ _ rfl];rfl
 clear hown hb1
 go_enter Tryz.func93,Tryz.ntmps93
 go_upto_region 1 with fail
 rw [←hW1]
 clear hW1
 go_wp2_with (first
  | (go_at_call 123;refine c1.out.mono ?_;rintro e w2 ⟨rfl,hw⟩;subst hw)
  | (go_at_call 122;refine c2.out.mono ?_;rintro e w3 ⟨v,rfl,ho,hn,hb⟩;have HO:=hid ho;have HN:=hid hn;have HB:=hid hb;clear ho hn hb))
 go_ret
 exact ⟨v,rfl,ownsRow_base_a HO.out HB1.out.size,HN.out,gt HB1.out HB.out⟩
theorem past1_any(z:Int)(B p:Nat)(T:Nat)(w:World)(h0:w.cell? ⟨B,0,none⟩=some (.pointer (some ⟨p,0,none⟩)))(h1:w.cell? ⟨p,4,none⟩=some (.int .i64 (T:Int))) :
  Calls Tryz.prog 115 #[.int .i64 z,.pointer (some ⟨B,0,none⟩)] w fun e w'=>e=.returned (.bool (decide ((T:Int)<z)))∧w'=w:=by
 go_enter Tryz.func115,Tryz.ntmps115
 go_wp2
 go_ret
 exact ⟨rfl,rfl⟩
theorem index_nil(fv:Value)(w:World):Calls Tryz.prog 95 #[.slice none 0 0,fv] w fun e w'=>e=.returned (.int .i64 (-1))∧w'=w:=by
 go_enter Tryz.func95,Tryz.ntmps95
 go_wp2
 go_loopw [8] (fun cc W=>cc=.int .i64 0∧W=w) (fun _ _=>0)
 case atStart=>exact ⟨rfl,rfl⟩
 case round=>
  obtain ⟨rfl,rfl⟩:=hrel
  go_wp2
  go_ret
  exact ⟨rfl,rfl⟩
theorem sort_block{α:Type}[Inhabited α](e:α→Value)(w:World)(g m:Nat)(dk:Array α)(os:Array Obj){k:Nat}(hk:k<w.heap.size)(hg:k≠g):(sortWorld e w g 0 m dk os).heap[k]? = w.heap[k]?:=by
 have h1:(putRow e (Sort.ahead w m) g 0 dk).heap[k]? = w.heap[k]?:=by
  simp [putRow,mapBlock,Sort.ahead,Array.getElem?_modify,show g≠k from fun e=>hg e.symm]
 rw [sortWorld,Sort.heap_grow_old _ _ (by simpa [putRow,mapBlock,Sort.ahead] using hk)]
 exact h1
def upto(T:Nat)(l:List Nat):List Nat:=l.filter fun z=>decide (z≤T)
theorem upto_map(T:Nat)(l:List Nat):((l.map fun z:Nat=>(z:Int)).filter fun z=>!(decide ((T:Int)<z)))=(upto T l).map fun z:Nat=>(z:Int):=by
 rw [List.filter_map,upto]
 congr 1
 apply List.filter_congr
 intro z _
 simp only [Function.comp]
 rw [Bool.eq_iff_iff]
 simp
theorem del_any(B0:Nat)(v:Value)(l:List Nat)(B p T:Nat)(w:World)(hv:w.ownsRow B0 3 1 v l.length (zI l))(hn:v=.slice none 0 0↔l = [])(hll:l.length≤100000)
  (h0:w.cell? ⟨B,0,none⟩=some (.pointer (some ⟨p,0,none⟩))) (h1:w.cell? ⟨p,4,none⟩=some (.int .i64 (T:Int))) (hB:B<B0) (hp:p<B0) :
  Calls Tryz.prog 57 #[v,.func (.func 115) #[] #[.pointer (some ⟨B,0,none⟩)]] w fun e w'=>∃ ao c,e=.returned (.slice ao (upto T l).length c)∧w'.ownsRow B0 3 1 (.slice ao (upto T l).length c) (upto T l).length (zI (upto T l))∧Below B0 w w':=by
 by_cases hl:l = []
 ·obtain rfl:=hn.2 hl
  subst hl
  have ci:=hid (index_nil (.func (.func 115) #[] #[.pointer (some ⟨B,0,none⟩)]) w)
  clear hv hn
  go_enter Tryz.func57,Tryz.ntmps57
  go_wp2_with (go_at_call 95;refine ci.out.mono ?_;rintro e w1 ⟨rfl,hw⟩;obtain rfl:=hw.symm)
  go_ret
  exact ⟨none,0,rfl,⟨rfl,Or.inl ⟨rfl,rfl⟩⟩,Below.refl _ _⟩
 ·have hv0:v≠.slice none 0 0:=fun e=>hl (hn.1 e)
  have hzI:zI l=(l.map fun z:Nat=>(z:Int)).map (Value.int .i64):=by simp [zI]
  rw [hzI]at hv
  obtain ⟨g,cap,rfl,hBg,hg,hnc,hcm,hlen,hH⟩:=holds_of_ownsRow hv hv0
  have hsz:(l.map fun z:Nat=>(z:Int)).toArray.size=l.length:=by simp
  have hcell:∀ W:World,W.heap[B]? = w.heap[B]?→W.heap[p]? = w.heap[p]?→∀ x:Int,FnGives Tryz.prog 115 #[.pointer (some ⟨B,0,none⟩)] #[Value.int .i64 x] (.bool (decide ((T:Int)<x))) W:=fun W hWB hWp x=>
   (past1_any x B p T W ((World.cell?_of_block hWB).trans h0) ((World.cell?_of_block hWp).trans h1)).mono fun e w' he=>⟨he.1,0,by rw [he.2];rfl⟩
  have key:=AnyE.slices_DeleteFunc Tryz.delB (Value.int .i64) (fun _=>rfl) (fun z=>decide ((T:Int)<z)) 115 #[.pointer (some ⟨B,0,none⟩)] (enters_of Tryz.func115 (by kernel_rfl) rfl) (0:Int) Tryz.zeroValue3 g 0 cap (l.map fun z:Nat=>(z:Int)).toArray w
   (fun W x hb=>hcell W (hb.block B (by omega)) (hb.block p (by omega)) x) (fun n os dk x _=>hcell _ (sort_block _ w g n dk os (by omega) (by omega)) (sort_block _ w g n dk os (by omega) (by omega)) x) hH (by rw [hsz];omega) (by rw [hsz];exact hnc)
  rw [hsz]at key
  change Calls Tryz.prog 57 _ _ _ at key
  refine key.mono ?_
  rintro e w' ⟨rfl,q,rfl⟩
  have hfl:((l.map fun z:Nat=>(z:Int)).toArray.toList.filter fun x=>!(decide ((T:Int)<x)))=(upto T l).map fun z:Nat=>(z:Int):=by rw [List.toList_toArray];exact upto_map T l
  simp only [hfl,List.length_map]
  have hle:(upto T l).length≤l.length:=List.length_filter_le _ _
  have ho:=ownsRow_putRow (enc:=Value.int .i64) (q:=q) (k:=(upto T l).length) (ys:=((upto T l).map fun z:Nat=>(z:Int))++List.replicate (l.length - (upto T l).length) 0) hv (by simp;omega) hle
  refine ⟨some ⟨g,0,none⟩,cap,rfl,?_,below_putRow (Below.refl _ _) hBg⟩
  have ht:(((upto T l).map fun z:Nat=>(z:Int))++List.replicate (l.length - (upto T l).length) 0).take (upto T l).length=(upto T l).map fun z:Nat=>(z:Int):=by
   rw [List.take_append_of_le_length (by simp),List.take_of_length_le (by simp)]
  rw [ht,List.map_map]at ho
  exact ho
end Go.Proofs.YtgjgkpnjchflaaaGreatDoor
