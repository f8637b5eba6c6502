/- The document's pager: Begin, Put, Grow, Shrink; no statement of the seat is proved here. -/
import Derived.Test.YtadhdedjdgjboaaGreatDoorH31
import Derived.Test.YtadhdedjdgjboaaGreatDoorH17
set_option maxHeartbeats 16000000
set_option maxRecDepth 20000
namespace Go.Proofs.YtadhdedjdgjboaaGreatDoor
section
open Go.RowKit Go.Maps
open Dsk (gt hid undrew keep_old keep_cell lt_cell Rd bs bs_length bs_one own_lt own_ne own_set El Src row_form src_row el37 el66 el30 op_at)
open Cch (Fr wpAnyK wpAnyK_take wpAnyK_pure wpAnyK_ready wpAnyK_done wp_region_K AllReadyK.cons AllReadyK.nil)
variable {xs:List Value} {v:Value} {e:TypeId} {B n sz:Nat} {w:World}
theorem rr_base{B':Nat}(h:w.ownsRow B e sz v n xs)(hB:B'≤B):w.ownsRow B' e sz v n xs:=by
 refine ⟨h.1,?_⟩
 rcases h.2 with hn | ⟨g,cap,cur,rfl,hb',hr⟩
 ·exact .inl hn
 ·exact .inr ⟨g,cap,cur,rfl,Nat.le_trans hB hb',hr⟩
theorem rr_up(h:w.ownsRow 0 e sz v n xs)(hB:∀ k,v.ownBlock=some k→B≤k):w.ownsRow B e sz v n xs:=by
 refine ⟨h.1,?_⟩
 rcases h.2 with hn | ⟨g,cap,cur,rfl,_,hr⟩
 ·exact .inl hn
 ·exact .inr ⟨g,cap,cur,rfl,hB g rfl,hr⟩
theorem rr_blk(h:w.ownsRow B e sz v n xs){k:Nat}(hk:v.ownBlock=some k):B≤k∧k<w.heap.size:=by
 rcases h.2 with ⟨rfl,_⟩ | ⟨g,cap,cur,rfl,hb',hg,_⟩
 ·cases hk
 ·cases hk;exact ⟨hb',(Array.getElem?_eq_some_iff.1 hg).1⟩
variable {w':World} {E:Nat→Prop}
theorem rr_fr(h:w.ownsRow B e sz v n xs)(hf:Fr E w w')(hE:∀ k,v.ownBlock=some k→¬E k):w'.ownsRow B e sz v n xs:=by
 refine ⟨h.1,?_⟩
 rcases h.2 with hn | ⟨g,cap,cur,rfl,hb',hg,hr⟩
 ·exact .inl hn
 ·exact .inr ⟨g,cap,cur,rfl,hb',(hf.blk g (Array.getElem?_eq_some_iff.1 hg).1 (hE g rfl)).trans hg,hr⟩
variable {xs1 xs2:List Value} {v1 v2:Value} {e1 e2:TypeId} {B1 B2 n1 n2 s1 s2:Nat}
theorem rr_ne(h1:w.ownsRow B1 e1 s1 v1 n1 xs1)(h2:w.ownsRow B2 e2 s2 v2 n2 xs2)(he:e1≠e2){k1 k2:Nat}(hk1:v1.ownBlock=some k1)(hk2:v2.ownBlock=some k2):k1≠k2:=by
 rintro rfl
 rcases h1.2 with ⟨rfl,_⟩ | ⟨g,cap,cur,rfl,_,hg,_⟩
 ·cases hk1
 ·cases hk1
  rcases h2.2 with ⟨rfl,_⟩ | ⟨g2,cap2,cur2,rfl,_,hg2,_⟩
  ·cases hk2
  ·cases hk2
   rw [hg]at hg2
   cases hg2
   exact he rfl
theorem rz(h:Hid (w.ownsRow B e sz v n xs))(st:Fr (fun _=>False) w w'):Hid (w'.ownsRow B e sz v n xs):=hid (rr_fr h.out st (fun _ _ h=>h))
theorem rn(h1:Hid (w.ownsRow B1 e1 s1 v1 n1 xs1))(h2:Hid (w.ownsRow B2 e2 s2 v2 n2 xs2))(st:Fr (fun b=>v2.ownBlock=some b) w w')(he:e1≠e2:=by decide):Hid (w'.ownsRow B1 e1 s1 v1 n1 xs1):=hid (rr_fr h1.out st (fun _ hk h=>rr_ne h1.out h2.out he hk h rfl))
variable {c:Nat} {ao:Option Addr}
theorem own_from{M:Nat}(ha:∀ a,ao=some a→(v.ownBlock=some a.block∨a.block=M))(hs:B≤M):Hid (∀ k,(Value.slice ao n c).ownBlock=some k→v.ownBlock=some k∨B≤k):=hid (fun k hk=>by
 cases ao with
 | none=>cases hk
 | some a=>
  cases hk
  rcases ha a rfl with h |h
  ·exact Or.inl h
  ·right;rw [h];exact hs)
theorem fr_alloc(E:Nat→Prop)(w:World)(o:Obj):Fr E w (w.alloc o):=Fr.of_below (Below.alloc (Below.refl _ _) (Nat.le_refl _) _)
theorem fr_grown(h:w.grownBy w' v.ownBlock):Fr (fun b=>v.ownBlock=some b) w w':=⟨h.os,h.tape,h.output,h.size,fun k hk hn=>h.block k hk (fun e=>hn e.symm)⟩
theorem fr_setb(w:World)(b i:Nat)(v:Value):Fr (fun k=>k=b) w (w.setCell ⟨b,i,none⟩ v):=⟨rfl,rfl,rfl,by simp,fun k _ hk=>heap_setCell_other _ _ _ _ hk⟩
structure BX (w:World) (r:Nat) (cs:List Value) (W:World):Prop where
 fr:Fr (fun b=>b=r) w W
 lt:r<w.heap.size
 box:W.heap[r]? = some (.cells cs.toArray 35 (0,0))
variable {cs:List Value} {r:Nat} {W:World}
theorem BX.move{W':World}(h:BX w r cs W)(hf:Fr E W W')(hE:∀ b,E b→w.heap.size≤b):BX w r cs W':=
 ⟨h.fr.trans hf (fun j hj hj2=>by have:=hE j hj2;omega),h.lt,(hf.blk r (Nat.lt_of_lt_of_le h.lt h.fr.size) (fun hr=>by have:=hE r hr;have:=h.lt;omega)).trans h.box⟩
theorem BX.alloc(h:BX w r cs W)(o:Obj):BX w r cs (W.alloc o):=h.move (fr_alloc (fun _=>False) W o) (fun _ h=>h.elim)
theorem BX.set(h:BX w r cs W)(i:Nat)(v:Value):BX w r (cs.set i v) (W.setCell ⟨r,i,none⟩ v):=
 ⟨h.fr.trans (fr_setb W r i v) (fun _ _ h=>h),h.lt,Cch.blk_set h.box⟩
theorem BX.cell(h:BX w r cs W)(i:Nat):W.cell? ⟨r,i,none⟩=cs[i]?:=Cch.hd_cell h.box i
theorem BX.frozen(h:BX w r cs W)(i:Nat):W.frozen? ⟨r,i,none⟩=false:=Cch.hd_frozen h.box i
def boxL(V:RV)(t:RS):List Value:=[V.sv,V.nv,V.cv,.bool t.busy,V.mv,.int .i64 (t.last:Int),.int .i64 (t.n:Int)]
variable {t:RS} {V:RV} {S:Nat→Prop}
theorem RefP.bx(h:RefP w r S V t):BX w r (boxL V t) w:=⟨Fr.refl _ _,h.rlt,h.box⟩
def New(S:Nat→Prop)(w W:World):Nat→Prop:=fun k=>S k∨(w.heap.size≤k∧k<W.heap.size)
variable {l:List Pg} {S':Nat→Prop}
theorem LAt.fr(h:LAt w S v l)(hf:Fr E w w')(hE:∀ k,S k→¬E k)(hs:∀ k,S k→S' k):LAt w' S' v l:=h.stay (fun k hk hS=>hf.blk k hk (hE k hS)) hs
theorem BAt.fr{c:List Bool}(h:BAt w S v c)(hf:Fr E w w')(hE:∀ k,S k→¬E k)(hs:∀ k,S k→S' k):BAt w' S' v c:=h.stay (fun k hk hS=>hf.blk k hk (hE k hS)) hs
theorem PagesAt.fr{vs:List Value}(h:PagesAt w S vs l)(hf:Fr E w w')(hE:∀ k,S k→¬E k)(hs:∀ k,S k→S' k):PagesAt w' S' vs l:=
 h.stay (fun _ _ _ _ hx k hk=>hf.blk k (own_lt hx.1 hk) (hE k (hx.2 k hk))) hs
theorem RefP.no(h:RefP w r S V t):∀ k,S k→¬k=r:=fun _ hk e=>h.nr (e▸hk)
theorem RefP.new_nr(h:RefP w r S V t):¬New S w W r:=fun hk=>by
 rcases hk with hk |hk
 ·exact h.nr hk
 ·have:=h.rlt;omega
theorem RefP.new_lt(h:RefP w r S V t)(hs:w.heap.size≤W.heap.size):∀ k,New S w W k→k<W.heap.size:=fun k hk=>by
 rcases hk with hk |hk
 ·exact Nat.lt_of_lt_of_le (h.lt k hk) hs
 ·exact hk.2
theorem src_fr(h:w.ownsRow 0 e 1 (.slice ao n c) n xs)(h1:∀ u∈xs,u.oneCell'=true)(hf:Fr E w w')(hE:∀ k,(Value.slice ao n c).ownBlock=some k→¬E k):Dsk.Src w' ao n c xs:=src_row (rr_fr h hf hE) h1
theorem bool_made(B n:Nat)(NB:Array Value)(h:NB=Array.replicate n (.bool false))(W:World)(hB:B≤W.heap.size)(hn:n≤4000):(W.alloc (.cells NB 4)).ownsRow B 4 1 (.slice (some ⟨W.heap.size,0,none⟩) n n) n (bv (List.replicate n false)):=by
 subst h
 have e:bv (List.replicate n false)=List.replicate n (.bool false):=by simp [bv]
 rw [e]
 refine ⟨by simp,.inr ⟨W.heap.size,n,_,rfl,hB,heap_alloc_new _ _,Nat.le_refl _,by unfold maxLen;omega,by simp,?_⟩⟩
 simp
theorem make_bools(n:Nat)(hn:n≤4000)(w:World):(Instr.makeSlice 32 (.int .i64 (n:Int)) (.int .i64 (n:Int))).run Tryz.prog w=.ok (.slice (some ⟨w.heap.size,0,none⟩) n n) (w.alloc (.cells (Array.replicate n (.bool false)) 4)):=by
 obtain ⟨i,hi,hz0,hz1,hz2⟩:=info_parts Dsk.info4
 have hr:=run_make (P:=Tryz.prog) w 32 4 i (.bool false) Tryz.underlying32 hi hz0 .i64 .i64 n n (by omega) (by omega) (by rw [hz2];omega) (by omega)
 simp only [Int.toNat_natCast,hz1,Nat.mul_one]at hr
 rw [hr,show Array.replicate n (Value.bool false)=(List.replicate n (Value.bool false)).toArray by simp,←toList_madeCells_one,Array.toArray_toList]
 rfl
abbrev Sv(w:World)(r:Nat)(sv:Value)(W:World):Prop:=∃ cs:List Value,cs[0]? = some sv∧BX w r cs W
def RS.begin(t:RS):RS:={ t with busy:=true,now:=t.sure,c:=List.replicate t.sure.length false,marks:=[],last:=0 }
theorem begin_fin(h:RefP w r S V t){vs:List Value}{W:World}(ao:Option Addr)(cp:Nat)(cv:Value)(hv:PagesAt w S vs t.sure)
  (X:BX w r [V.sv,.slice ao t.sure.length cp,cv,.bool true,.slice none 0 0,.int .i64 0,.int .i64 (t.n:Int)] W) (N:W.ownsRow w.heap.size 60 1 (.slice ao t.sure.length cp) t.sure.length vs) (C:W.ownsRow w.heap.size 4 1 cv t.sure.length (bv (List.replicate t.sure.length false))) :
  ∃ S' V',RefP W r S' V' t.begin∧Fr (fun b=>b=r∨S b) w W∧∀ k,S' k→S k∨w.heap.size≤k:=by
 refine ⟨New S w W,⟨V.sv,.slice ao t.sure.length cp,cv,.slice none 0 0,[]⟩,⟨X.box,h.new_nr,h.new_lt X.fr.size,h.sure.fr X.fr h.no (fun _ h=>Or.inl h),⟨⟨vs,rr_base N (Nat.zero_le _),hv.fr X.fr h.no (fun _ h=>Or.inl h)⟩,fun k hk=>Or.inr (rr_blk N hk)⟩,⟨by
  have:t.begin.c.length=t.sure.length:=List.length_replicate ..
  rw [this];exact rr_base C (Nat.zero_le _),fun k hk=>Or.inr (rr_blk C hk)⟩,by simp [RS.begin],⟨rfl,Or.inl ⟨rfl,rfl⟩⟩,(fun k hk=>by cases hk),rfl,(fun i m v hm _=>by simp [RS.begin]at hm),fun _=>⟨fun k hk=>⟨fun e=>?_,(fun v hv=>by cases hv)⟩,(fun k _ v hv=>by cases hv)⟩⟩,⟨X.fr.os,X.fr.tape,X.fr.output,X.fr.size,fun k hk hn=>X.fr.blk k hk (fun e=>hn (Or.inl e))⟩,fun k hk=>?_⟩
 ·have h1:=(rr_blk N hk).1
  have h2:=h.lt _ (h.sure.own k e)
  omega
 ·rcases hk with hk |hk
  ·exact Or.inl hk
  ·exact Or.inr hk.1
theorem rbegin_yes(r:Nat)(S:Nat→Prop)(V:RV)(t:RS)(w:World)(h:RefP w r S V t)(hb:t.busy=false)(hl:t.sure.length≤4000):Calls Tryz.prog 45 #[.pointer (some ⟨r,0,none⟩)] w fun e w'=>e=.returned (.int .i64 0)∧∃ S' V',RefP w' r S' V' t.begin∧Fr (fun b=>b=r∨S b) w w'∧∀ k,S' k→S k∨w.heap.size≤k:=by
 obtain ⟨_,_,_,c3,_⟩:=h.cells
 rw [hb]at c3
 have hX:=h.bx
 unfold boxL at hX
 obtain ⟨aS,cS,hSV,_,_⟩:=h.sure.form
 obtain ⟨vs,hrow,hvs⟩:=h.sure.row
 have hrow':=hrow
 rw [hSV]at hrow'
 have FIN:=hid (fun W ao cp cv X N C=>begin_fin h (W:=W) ao cp cv hvs X N C)
 obtain ⟨sv,hsv⟩:∃ sv,V.sv=sv:=⟨_,rfl⟩
 rw [hsv]at hX hSV FIN
 have HV1:=hid hvs.one
 have HNO:Hid (∀ k,(Value.slice aS t.sure.length cS).ownBlock=some k→¬k=r):=hid (fun k hk e=>h.nr (e▸h.sure.own k (by rw [hsv,hSV];exact hk)))
 have HRL:=hid h.rlt
 have HROW:=hid hrow'
 generalize t.sure.length=n at *
 have hn:=hl
 subst hSV
 obtain ⟨NB,hNB⟩:∃ NB,NB=Array.replicate n (Value.bool false):=⟨_,rfl⟩
 have mk:∀ W,(Instr.makeSlice 32 (.int .i64 (n:Int)) (.int .i64 (n:Int))).run Tryz.prog W=.ok (.slice (some ⟨W.heap.size,0,none⟩) n n) (W.alloc (.cells NB 4)):=fun W=>by rw [hNB];exact make_bools n hn W
 have HNB:=hid hNB
 have X:=hid (hX.move (show Fr (fun _=>False) w w.drew from ⟨rfl,rfl,rfl,Nat.le_refl _,fun _ _ _=>rfl⟩) (fun _ h=>h.elim))
 clear hX h hb hl hrow hrow' hvs hNB hsv
 go_enter Tryz.func45,Tryz.ntmps45
 go_wp2
 refine wp_region_K (S:=Sv w r (.slice aS n cS)) (fun _=>false) (by kernel_rfl) (⟨_,rfl,X.out⟩) (fun hHeld=>?_)
 refine gkp 0 ?_
 refine gkp 1 ?_
 refine gkp 2 ?_
 refine gkp 3 ?_
 refine gkp 4 ?_
 refine gkp 6 ?_
 refine gkp 7 ?_
 refine gkp 8 ?_
 refine gkt 9 ?_ (h:=by intro W hSw;obtain ⟨cs,hcs,hX⟩:=hSw;have k0:=(hX.cell 0).trans hcs;go_simp;first |done |with_reducible rfl)
 refine gkp 11 ?_
 refine gkp 12 ?_
 refine gkp 13 ?_
 refine gkt 14 ?_ (h:=by intro W hSw;obtain ⟨cs,hcs,hX⟩:=hSw;have k0:=(hX.cell 0).trans hcs;go_simp;first |done |with_reducible rfl)
 refine gkp 15 ?_
 refine wpAnyK_ready (rs:=[5,16]) (by kernel_rfl) (by simp) ?_
 refine AllReadyK.cons (op_at _ 5 _ rfl) (fun K hK=>?_) ?_
 ·go_simp
  have Z0:=X;have st:=fr_alloc (fun _=>False) w.drew (.cells #[] 60);replace X:=hid (X.out.alloc (.cells #[] 60));have E5:Hid ((w.drew.alloc (.cells #[] 60)).ownsRow w.heap.size 60 1 (.slice (some ⟨w.heap.size,0,none⟩) 0 0) 0 []):=hid (by have q:w.drew.heap.size=w.heap.size:=(by first |rfl |simp);rw [←q];exact World.ownsRow_made w.drew #[] 0 Z0.out.fr.size (by decide) rfl);clear st;have hR:Sv w r (.slice aS n cS) (w.drew.alloc (.cells #[] 60)):=⟨_,rfl,X.out⟩;clear Z0
  refine hK.out _ _ hR (fun hHeld=>?_)
  clear hK K
  (try simp only [Act.put,sA,sZ,sS])
  refine wpAnyK_ready (rs:=[10,16]) (by kernel_rfl) (by simp) ?_
  refine AllReadyK.cons (op_at _ 10 _ rfl) (fun K hK=>?_) ?_
  ·refine Dsk.step_app rfl (.tmp 12) (.tmp 16) el66 rfl (.slice (some ⟨w.heap.size,0,none⟩) 0 0) 0 [] rfl (rr_base E5.out (Nat.zero_le _)) aS n cS vs rfl (src_fr HROW.out HV1.out X.out.fr (fun k hk e=>HNO.out k hk e)) (by omega) ?_;simp only [Nat.zero_add,List.nil_append];intro a10 c10 w10 ho hg ha;have st:=fr_grown hg;have hE:∀ b,(Value.slice (some ⟨w.heap.size,0,none⟩) 0 0).ownBlock=some b→w.heap.size≤b:=fun b hb=>(rr_blk E5.out hb).1;have N10:Hid (w10.ownsRow w.heap.size 60 1 (.slice a10 n c10) n vs):=hid (rr_up ho (fun k hk=>(by cases a10 with |none=>cases hk |some a=>(cases hk;rcases ha a rfl with h |h;exact hE _ h;(have:=X.out.fr.size;rw [h];exact this)))));replace X:=hid (X.out.move st hE);clear ho hg ha st hE E5;have hR:Sv w r (.slice aS n cS) w10:=⟨_,rfl,X.out⟩
   refine hK.out _ _ hR (fun hHeld=>?_)
   clear hK K
   (try simp only [Act.put,sA,sZ,sS])
   refine gkp 17 ?_
   refine gkp 18 ?_
   refine wpAnyK_ready (rs:=[16,19]) (by kernel_rfl) (by simp) ?_
   refine AllReadyK.cons (op_at _ 16 _ rfl) (fun K hK=>?_) ?_
   ·go_simp
    have Z0:=X;have st:=fr_alloc (fun _=>False) w10 (.cells NB 4);replace X:=hid (X.out.alloc (.cells NB 4));replace N10:=rz N10 st;have N16:Hid ((w10.alloc (.cells NB 4)).ownsRow w.heap.size 4 1 (.slice (some ⟨w10.heap.size,0,none⟩) n n) n (bv (List.replicate n false))):=hid (by have q:w10.heap.size=w10.heap.size:=(by first |rfl |simp);rw [←q];exact bool_made w.heap.size n NB HNB.out w10 Z0.out.fr.size hn);clear st;have hR:Sv w r (.slice aS n cS) (w10.alloc (.cells NB 4)):=⟨_,rfl,X.out⟩;clear Z0
    refine hK.out _ _ hR (fun hHeld=>?_)
    clear hK K
    (try simp only [Act.put,sA,sZ,sS])
    refine gk1 19 (fun K hK=>?_)
    have k0:(w10.alloc (.cells NB 4)).cell? ⟨r,3,none⟩=some _:=(X.out.cell 3).trans rfl;have f0:=X.out.frozen 3;go_simp;have st:=fr_setb (w10.alloc (.cells NB 4)) r 3 (.bool true);replace X:=hid (X.out.set 3 (.bool true));replace N10:=hid (rr_fr N10.out st (fun k hk=>(by have h8:=(rr_blk N10.out hk).1;have h9:=HRL.out;omega)));replace N16:=hid (rr_fr N16.out st (fun k hk=>(by have h8:=(rr_blk N16.out hk).1;have h9:=HRL.out;omega)));clear st k0 f0;have hR:Sv w r (.slice aS n cS) ((w10.alloc (.cells NB 4)).setCell ⟨r,3,none⟩ (.bool true)):=⟨_,rfl,X.out⟩
    refine hK.out _ _ hR (fun hHeld=>?_)
    clear hK K
    (try simp only [Act.put,sA,sZ,sS])
    refine gkp 20 ?_
    refine gkp 21 ?_
    refine gk1 22 (fun K hK=>?_)
    have k0:((w10.alloc (.cells NB 4)).setCell ⟨r,3,none⟩ (.bool true)).cell? ⟨r,1,none⟩=some _:=(X.out.cell 1).trans rfl;have f0:=X.out.frozen 1;go_simp;have st:=fr_setb ((w10.alloc (.cells NB 4)).setCell ⟨r,3,none⟩ (.bool true)) r 1 (.slice a10 n c10);replace X:=hid (X.out.set 1 (.slice a10 n c10));replace N10:=hid (rr_fr N10.out st (fun k hk=>(by have h8:=(rr_blk N10.out hk).1;have h9:=HRL.out;omega)));replace N16:=hid (rr_fr N16.out st (fun k hk=>(by have h8:=(rr_blk N16.out hk).1;have h9:=HRL.out;omega)));clear st k0 f0;have hR:Sv w r (.slice aS n cS) (((w10.alloc (.cells NB 4)).setCell ⟨r,3,none⟩ (.bool true)).setCell ⟨r,1,none⟩ (.slice a10 n c10)):=⟨_,rfl,X.out⟩
    refine hK.out _ _ hR (fun hHeld=>?_)
    clear hK K
    (try simp only [Act.put,sA,sZ,sS])
    refine gkp 23 ?_
    refine gkp 24 ?_
    refine gk1 25 (fun K hK=>?_)
    have k0:(((w10.alloc (.cells NB 4)).setCell ⟨r,3,none⟩ (.bool true)).setCell ⟨r,1,none⟩ (.slice a10 n c10)).cell? ⟨r,2,none⟩=some _:=(X.out.cell 2).trans rfl;have f0:=X.out.frozen 2;go_simp;have st:=fr_setb (((w10.alloc (.cells NB 4)).setCell ⟨r,3,none⟩ (.bool true)).setCell ⟨r,1,none⟩ (.slice a10 n c10)) r 2 (.slice (some ⟨w10.heap.size,0,none⟩) n n);replace X:=hid (X.out.set 2 (.slice (some ⟨w10.heap.size,0,none⟩) n n));replace N10:=hid (rr_fr N10.out st (fun k hk=>(by have h8:=(rr_blk N10.out hk).1;have h9:=HRL.out;omega)));replace N16:=hid (rr_fr N16.out st (fun k hk=>(by have h8:=(rr_blk N16.out hk).1;have h9:=HRL.out;omega)));clear st k0 f0;have hR:Sv w r (.slice aS n cS) ((((w10.alloc (.cells NB 4)).setCell ⟨r,3,none⟩ (.bool true)).setCell ⟨r,1,none⟩ (.slice a10 n c10)).setCell ⟨r,2,none⟩ (.slice (some ⟨w10.heap.size,0,none⟩) n n)):=⟨_,rfl,X.out⟩
    refine hK.out _ _ hR (fun hHeld=>?_)
    clear hK K
    (try simp only [Act.put,sA,sZ,sS])
    refine gkp 26 ?_
    refine gkp 27 ?_
    refine gk1 28 (fun K hK=>?_)
    have k0:((((w10.alloc (.cells NB 4)).setCell ⟨r,3,none⟩ (.bool true)).setCell ⟨r,1,none⟩ (.slice a10 n c10)).setCell ⟨r,2,none⟩ (.slice (some ⟨w10.heap.size,0,none⟩) n n)).cell? ⟨r,4,none⟩=some _:=(X.out.cell 4).trans rfl;have f0:=X.out.frozen 4;go_simp;have st:=fr_setb ((((w10.alloc (.cells NB 4)).setCell ⟨r,3,none⟩ (.bool true)).setCell ⟨r,1,none⟩ (.slice a10 n c10)).setCell ⟨r,2,none⟩ (.slice (some ⟨w10.heap.size,0,none⟩) n n)) r 4 (.slice none 0 0);replace X:=hid (X.out.set 4 (.slice none 0 0));replace N10:=hid (rr_fr N10.out st (fun k hk=>(by have h8:=(rr_blk N10.out hk).1;have h9:=HRL.out;omega)));replace N16:=hid (rr_fr N16.out st (fun k hk=>(by have h8:=(rr_blk N16.out hk).1;have h9:=HRL.out;omega)));clear st k0 f0;have hR:Sv w r (.slice aS n cS) (((((w10.alloc (.cells NB 4)).setCell ⟨r,3,none⟩ (.bool true)).setCell ⟨r,1,none⟩ (.slice a10 n c10)).setCell ⟨r,2,none⟩ (.slice (some ⟨w10.heap.size,0,none⟩) n n)).setCell ⟨r,4,none⟩ (.slice none 0 0)):=⟨_,rfl,X.out⟩
    refine hK.out _ _ hR (fun hHeld=>?_)
    clear hK K
    (try simp only [Act.put,sA,sZ,sS])
    refine gkp 29 ?_
    refine gkp 30 ?_
    refine gk1 31 (fun K hK=>?_)
    have k0:(((((w10.alloc (.cells NB 4)).setCell ⟨r,3,none⟩ (.bool true)).setCell ⟨r,1,none⟩ (.slice a10 n c10)).setCell ⟨r,2,none⟩ (.slice (some ⟨w10.heap.size,0,none⟩) n n)).setCell ⟨r,4,none⟩ (.slice none 0 0)).cell? ⟨r,5,none⟩=some _:=(X.out.cell 5).trans rfl;have f0:=X.out.frozen 5;go_simp;have st:=fr_setb (((((w10.alloc (.cells NB 4)).setCell ⟨r,3,none⟩ (.bool true)).setCell ⟨r,1,none⟩ (.slice a10 n c10)).setCell ⟨r,2,none⟩ (.slice (some ⟨w10.heap.size,0,none⟩) n n)).setCell ⟨r,4,none⟩ (.slice none 0 0)) r 5 (.int .i64 0);replace X:=hid (X.out.set 5 (.int .i64 0));replace N10:=hid (rr_fr N10.out st (fun k hk=>(by have h8:=(rr_blk N10.out hk).1;have h9:=HRL.out;omega)));replace N16:=hid (rr_fr N16.out st (fun k hk=>(by have h8:=(rr_blk N16.out hk).1;have h9:=HRL.out;omega)));clear st k0 f0;have hR:Sv w r (.slice aS n cS) ((((((w10.alloc (.cells NB 4)).setCell ⟨r,3,none⟩ (.bool true)).setCell ⟨r,1,none⟩ (.slice a10 n c10)).setCell ⟨r,2,none⟩ (.slice (some ⟨w10.heap.size,0,none⟩) n n)).setCell ⟨r,4,none⟩ (.slice none 0 0)).setCell ⟨r,5,none⟩ (.int .i64 0)):=⟨_,rfl,X.out⟩
    refine hK.out _ _ hR (fun hHeld=>?_)
    clear hK K
    (try simp only [Act.put,sA,sZ,sS])
    refine wpAnyK_done (by kernel_rfl) ?_ _
    clear hHeld hR
    go_wp2
    go_ret
    exact ⟨rfl,FIN.out _ a10 c10 _ X.out N10.out N16.out⟩
   refine AllReadyK.cons (op_at _ 19 _ rfl) (fun K hK=>?_) ?_
   ·have k0:w10.cell? ⟨r,3,none⟩=some _:=(X.out.cell 3).trans rfl;have f0:=X.out.frozen 3;go_simp;have st:=fr_setb w10 r 3 (.bool true);replace X:=hid (X.out.set 3 (.bool true));replace N10:=hid (rr_fr N10.out st (fun k hk=>(by have h8:=(rr_blk N10.out hk).1;have h9:=HRL.out;omega)));clear st k0 f0;have hR:Sv w r (.slice aS n cS) (w10.setCell ⟨r,3,none⟩ (.bool true)):=⟨_,rfl,X.out⟩
    refine hK.out _ _ hR (fun hHeld=>?_)
    clear hK K
    (try simp only [Act.put,sA,sZ,sS])
    refine gkp 20 ?_
    refine gkp 21 ?_
    refine wpAnyK_ready (rs:=[16,22]) (by kernel_rfl) (by simp) ?_
    refine AllReadyK.cons (op_at _ 16 _ rfl) (fun K hK=>?_) ?_
    ·go_simp
     have Z0:=X;have st:=fr_alloc (fun _=>False) (w10.setCell ⟨r,3,none⟩ (.bool true)) (.cells NB 4);replace X:=hid (X.out.alloc (.cells NB 4));replace N10:=rz N10 st;have N16:Hid (((w10.setCell ⟨r,3,none⟩ (.bool true)).alloc (.cells NB 4)).ownsRow w.heap.size 4 1 (.slice (some ⟨w10.heap.size,0,none⟩) n n) n (bv (List.replicate n false))):=hid (by have q:(w10.setCell ⟨r,3,none⟩ (.bool true)).heap.size=w10.heap.size:=(by first |rfl |simp);rw [←q];exact bool_made w.heap.size n NB HNB.out (w10.setCell ⟨r,3,none⟩ (.bool true)) Z0.out.fr.size hn);clear st;have hR:Sv w r (.slice aS n cS) ((w10.setCell ⟨r,3,none⟩ (.bool true)).alloc (.cells NB 4)):=⟨_,rfl,X.out⟩;clear Z0
     refine hK.out _ _ hR (fun hHeld=>?_)
     clear hK K
     (try simp only [Act.put,sA,sZ,sS])
     refine gk1 22 (fun K hK=>?_)
     have k0:((w10.setCell ⟨r,3,none⟩ (.bool true)).alloc (.cells NB 4)).cell? ⟨r,1,none⟩=some _:=(X.out.cell 1).trans rfl;have f0:=X.out.frozen 1;go_simp;have st:=fr_setb ((w10.setCell ⟨r,3,none⟩ (.bool true)).alloc (.cells NB 4)) r 1 (.slice a10 n c10);replace X:=hid (X.out.set 1 (.slice a10 n c10));replace N10:=hid (rr_fr N10.out st (fun k hk=>(by have h8:=(rr_blk N10.out hk).1;have h9:=HRL.out;omega)));replace N16:=hid (rr_fr N16.out st (fun k hk=>(by have h8:=(rr_blk N16.out hk).1;have h9:=HRL.out;omega)));clear st k0 f0;have hR:Sv w r (.slice aS n cS) (((w10.setCell ⟨r,3,none⟩ (.bool true)).alloc (.cells NB 4)).setCell ⟨r,1,none⟩ (.slice a10 n c10)):=⟨_,rfl,X.out⟩
     refine hK.out _ _ hR (fun hHeld=>?_)
     clear hK K
     (try simp only [Act.put,sA,sZ,sS])
     refine gkp 23 ?_
     refine gkp 24 ?_
     refine gk1 25 (fun K hK=>?_)
     have k0:(((w10.setCell ⟨r,3,none⟩ (.bool true)).alloc (.cells NB 4)).setCell ⟨r,1,none⟩ (.slice a10 n c10)).cell? ⟨r,2,none⟩=some _:=(X.out.cell 2).trans rfl;have f0:=X.out.frozen 2;go_simp;have st:=fr_setb (((w10.setCell ⟨r,3,none⟩ (.bool true)).alloc (.cells NB 4)).setCell ⟨r,1,none⟩ (.slice a10 n c10)) r 2 (.slice (some ⟨w10.heap.size,0,none⟩) n n);replace X:=hid (X.out.set 2 (.slice (some ⟨w10.heap.size,0,none⟩) n n));replace N10:=hid (rr_fr N10.out st (fun k hk=>(by have h8:=(rr_blk N10.out hk).1;have h9:=HRL.out;omega)));replace N16:=hid (rr_fr N16.out st (fun k hk=>(by have h8:=(rr_blk N16.out hk).1;have h9:=HRL.out;omega)));clear st k0 f0;have hR:Sv w r (.slice aS n cS) ((((w10.setCell ⟨r,3,none⟩ (.bool true)).alloc (.cells NB 4)).setCell ⟨r,1,none⟩ (.slice a10 n c10)).setCell ⟨r,2,none⟩ (.slice (some ⟨w10.heap.size,0,none⟩) n n)):=⟨_,rfl,X.out⟩
     refine hK.out _ _ hR (fun hHeld=>?_)
     clear hK K
     (try simp only [Act.put,sA,sZ,sS])
     refine gkp 26 ?_
     refine gkp 27 ?_
     refine gk1 28 (fun K hK=>?_)
     have k0:((((w10.setCell ⟨r,3,none⟩ (.bool true)).alloc (.cells NB 4)).setCell ⟨r,1,none⟩ (.slice a10 n c10)).setCell ⟨r,2,none⟩ (.slice (some ⟨w10.heap.size,0,none⟩) n n)).cell? ⟨r,4,none⟩=some _:=(X.out.cell 4).trans rfl;have f0:=X.out.frozen 4;go_simp;have st:=fr_setb ((((w10.setCell ⟨r,3,none⟩ (.bool true)).alloc (.cells NB 4)).setCell ⟨r,1,none⟩ (.slice a10 n c10)).setCell ⟨r,2,none⟩ (.slice (some ⟨w10.heap.size,0,none⟩) n n)) r 4 (.slice none 0 0);replace X:=hid (X.out.set 4 (.slice none 0 0));replace N10:=hid (rr_fr N10.out st (fun k hk=>(by have h8:=(rr_blk N10.out hk).1;have h9:=HRL.out;omega)));replace N16:=hid (rr_fr N16.out st (fun k hk=>(by have h8:=(rr_blk N16.out hk).1;have h9:=HRL.out;omega)));clear st k0 f0;have hR:Sv w r (.slice aS n cS) (((((w10.setCell ⟨r,3,none⟩ (.bool true)).alloc (.cells NB 4)).setCell ⟨r,1,none⟩ (.slice a10 n c10)).setCell ⟨r,2,none⟩ (.slice (some ⟨w10.heap.size,0,none⟩) n n)).setCell ⟨r,4,none⟩ (.slice none 0 0)):=⟨_,rfl,X.out⟩
     refine hK.out _ _ hR (fun hHeld=>?_)
     clear hK K
     (try simp only [Act.put,sA,sZ,sS])
     refine gkp 29 ?_
     refine gkp 30 ?_
     refine gk1 31 (fun K hK=>?_)
     have k0:(((((w10.setCell ⟨r,3,none⟩ (.bool true)).alloc (.cells NB 4)).setCell ⟨r,1,none⟩ (.slice a10 n c10)).setCell ⟨r,2,none⟩ (.slice (some ⟨w10.heap.size,0,none⟩) n n)).setCell ⟨r,4,none⟩ (.slice none 0 0)).cell? ⟨r,5,none⟩=some _:=(X.out.cell 5).trans rfl;have f0:=X.out.frozen 5;go_simp;have st:=fr_setb (((((w10.setCell ⟨r,3,none⟩ (.bool true)).alloc (.cells NB 4)).setCell ⟨r,1,none⟩ (.slice a10 n c10)).setCell ⟨r,2,none⟩ (.slice (some ⟨w10.heap.size,0,none⟩) n n)).setCell ⟨r,4,none⟩ (.slice none 0 0)) r 5 (.int .i64 0);replace X:=hid (X.out.set 5 (.int .i64 0));replace N10:=hid (rr_fr N10.out st (fun k hk=>(by have h8:=(rr_blk N10.out hk).1;have h9:=HRL.out;omega)));replace N16:=hid (rr_fr N16.out st (fun k hk=>(by have h8:=(rr_blk N16.out hk).1;have h9:=HRL.out;omega)));clear st k0 f0;have hR:Sv w r (.slice aS n cS) ((((((w10.setCell ⟨r,3,none⟩ (.bool true)).alloc (.cells NB 4)).setCell ⟨r,1,none⟩ (.slice a10 n c10)).setCell ⟨r,2,none⟩ (.slice (some ⟨w10.heap.size,0,none⟩) n n)).setCell ⟨r,4,none⟩ (.slice none 0 0)).setCell ⟨r,5,none⟩ (.int .i64 0)):=⟨_,rfl,X.out⟩
     refine hK.out _ _ hR (fun hHeld=>?_)
     clear hK K
     (try simp only [Act.put,sA,sZ,sS])
     refine wpAnyK_done (by kernel_rfl) ?_ _
     clear hHeld hR
     go_wp2
     go_ret
     exact ⟨rfl,FIN.out _ a10 c10 _ X.out N10.out N16.out⟩
    refine AllReadyK.cons (op_at _ 22 _ rfl) (fun K hK=>?_) ?_
    ·have k0:(w10.setCell ⟨r,3,none⟩ (.bool true)).cell? ⟨r,1,none⟩=some _:=(X.out.cell 1).trans rfl;have f0:=X.out.frozen 1;go_simp;have st:=fr_setb (w10.setCell ⟨r,3,none⟩ (.bool true)) r 1 (.slice a10 n c10);replace X:=hid (X.out.set 1 (.slice a10 n c10));replace N10:=hid (rr_fr N10.out st (fun k hk=>(by have h8:=(rr_blk N10.out hk).1;have h9:=HRL.out;omega)));clear st k0 f0;have hR:Sv w r (.slice aS n cS) ((w10.setCell ⟨r,3,none⟩ (.bool true)).setCell ⟨r,1,none⟩ (.slice a10 n c10)):=⟨_,rfl,X.out⟩
     refine hK.out _ _ hR (fun hHeld=>?_)
     clear hK K
     (try simp only [Act.put,sA,sZ,sS])
     refine gk1 16 (fun K hK=>?_)
     go_simp
     have Z0:=X;have st:=fr_alloc (fun _=>False) ((w10.setCell ⟨r,3,none⟩ (.bool true)).setCell ⟨r,1,none⟩ (.slice a10 n c10)) (.cells NB 4);replace X:=hid (X.out.alloc (.cells NB 4));replace N10:=rz N10 st;have N16:Hid ((((w10.setCell ⟨r,3,none⟩ (.bool true)).setCell ⟨r,1,none⟩ (.slice a10 n c10)).alloc (.cells NB 4)).ownsRow w.heap.size 4 1 (.slice (some ⟨w10.heap.size,0,none⟩) n n) n (bv (List.replicate n false))):=hid (by have q:((w10.setCell ⟨r,3,none⟩ (.bool true)).setCell ⟨r,1,none⟩ (.slice a10 n c10)).heap.size=w10.heap.size:=(by first |rfl |simp);rw [←q];exact bool_made w.heap.size n NB HNB.out ((w10.setCell ⟨r,3,none⟩ (.bool true)).setCell ⟨r,1,none⟩ (.slice a10 n c10)) Z0.out.fr.size hn);clear st;have hR:Sv w r (.slice aS n cS) (((w10.setCell ⟨r,3,none⟩ (.bool true)).setCell ⟨r,1,none⟩ (.slice a10 n c10)).alloc (.cells NB 4)):=⟨_,rfl,X.out⟩;clear Z0
     refine hK.out _ _ hR (fun hHeld=>?_)
     clear hK K
     (try simp only [Act.put,sA,sZ,sS])
     refine gkp 23 ?_
     refine gkp 24 ?_
     refine gk1 25 (fun K hK=>?_)
     have k0:(((w10.setCell ⟨r,3,none⟩ (.bool true)).setCell ⟨r,1,none⟩ (.slice a10 n c10)).alloc (.cells NB 4)).cell? ⟨r,2,none⟩=some _:=(X.out.cell 2).trans rfl;have f0:=X.out.frozen 2;go_simp;have st:=fr_setb (((w10.setCell ⟨r,3,none⟩ (.bool true)).setCell ⟨r,1,none⟩ (.slice a10 n c10)).alloc (.cells NB 4)) r 2 (.slice (some ⟨w10.heap.size,0,none⟩) n n);replace X:=hid (X.out.set 2 (.slice (some ⟨w10.heap.size,0,none⟩) n n));replace N10:=hid (rr_fr N10.out st (fun k hk=>(by have h8:=(rr_blk N10.out hk).1;have h9:=HRL.out;omega)));replace N16:=hid (rr_fr N16.out st (fun k hk=>(by have h8:=(rr_blk N16.out hk).1;have h9:=HRL.out;omega)));clear st k0 f0;have hR:Sv w r (.slice aS n cS) ((((w10.setCell ⟨r,3,none⟩ (.bool true)).setCell ⟨r,1,none⟩ (.slice a10 n c10)).alloc (.cells NB 4)).setCell ⟨r,2,none⟩ (.slice (some ⟨w10.heap.size,0,none⟩) n n)):=⟨_,rfl,X.out⟩
     refine hK.out _ _ hR (fun hHeld=>?_)
     clear hK K
     (try simp only [Act.put,sA,sZ,sS])
     refine gkp 26 ?_
     refine gkp 27 ?_
     refine gk1 28 (fun K hK=>?_)
     have k0:((((w10.setCell ⟨r,3,none⟩ (.bool true)).setCell ⟨r,1,none⟩ (.slice a10 n c10)).alloc (.cells NB 4)).setCell ⟨r,2,none⟩ (.slice (some ⟨w10.heap.size,0,none⟩) n n)).cell? ⟨r,4,none⟩=some _:=(X.out.cell 4).trans rfl;have f0:=X.out.frozen 4;go_simp;have st:=fr_setb ((((w10.setCell ⟨r,3,none⟩ (.bool true)).setCell ⟨r,1,none⟩ (.slice a10 n c10)).alloc (.cells NB 4)).setCell ⟨r,2,none⟩ (.slice (some ⟨w10.heap.size,0,none⟩) n n)) r 4 (.slice none 0 0);replace X:=hid (X.out.set 4 (.slice none 0 0));replace N10:=hid (rr_fr N10.out st (fun k hk=>(by have h8:=(rr_blk N10.out hk).1;have h9:=HRL.out;omega)));replace N16:=hid (rr_fr N16.out st (fun k hk=>(by have h8:=(rr_blk N16.out hk).1;have h9:=HRL.out;omega)));clear st k0 f0;have hR:Sv w r (.slice aS n cS) (((((w10.setCell ⟨r,3,none⟩ (.bool true)).setCell ⟨r,1,none⟩ (.slice a10 n c10)).alloc (.cells NB 4)).setCell ⟨r,2,none⟩ (.slice (some ⟨w10.heap.size,0,none⟩) n n)).setCell ⟨r,4,none⟩ (.slice none 0 0)):=⟨_,rfl,X.out⟩
     refine hK.out _ _ hR (fun hHeld=>?_)
     clear hK K
     (try simp only [Act.put,sA,sZ,sS])
     refine gkp 29 ?_
     refine gkp 30 ?_
     refine gk1 31 (fun K hK=>?_)
     have k0:(((((w10.setCell ⟨r,3,none⟩ (.bool true)).setCell ⟨r,1,none⟩ (.slice a10 n c10)).alloc (.cells NB 4)).setCell ⟨r,2,none⟩ (.slice (some ⟨w10.heap.size,0,none⟩) n n)).setCell ⟨r,4,none⟩ (.slice none 0 0)).cell? ⟨r,5,none⟩=some _:=(X.out.cell 5).trans rfl;have f0:=X.out.frozen 5;go_simp;have st:=fr_setb (((((w10.setCell ⟨r,3,none⟩ (.bool true)).setCell ⟨r,1,none⟩ (.slice a10 n c10)).alloc (.cells NB 4)).setCell ⟨r,2,none⟩ (.slice (some ⟨w10.heap.size,0,none⟩) n n)).setCell ⟨r,4,none⟩ (.slice none 0 0)) r 5 (.int .i64 0);replace X:=hid (X.out.set 5 (.int .i64 0));replace N10:=hid (rr_fr N10.out st (fun k hk=>(by have h8:=(rr_blk N10.out hk).1;have h9:=HRL.out;omega)));replace N16:=hid (rr_fr N16.out st (fun k hk=>(by have h8:=(rr_blk N16.out hk).1;have h9:=HRL.out;omega)));clear st k0 f0;have hR:Sv w r (.slice aS n cS) ((((((w10.setCell ⟨r,3,none⟩ (.bool true)).setCell ⟨r,1,none⟩ (.slice a10 n c10)).alloc (.cells NB 4)).setCell ⟨r,2,none⟩ (.slice (some ⟨w10.heap.size,0,none⟩) n n)).setCell ⟨r,4,none⟩ (.slice none 0 0)).setCell ⟨r,5,none⟩ (.int .i64 0)):=⟨_,rfl,X.out⟩
     refine hK.out _ _ hR (fun hHeld=>?_)
     clear hK K
     (try simp only [Act.put,sA,sZ,sS])
     refine wpAnyK_done (by kernel_rfl) ?_ _
     clear hHeld hR
     go_wp2
     go_ret
     exact ⟨rfl,FIN.out _ a10 c10 _ X.out N10.out N16.out⟩
    exact AllReadyK.nil
   exact AllReadyK.nil
  refine AllReadyK.cons (op_at _ 16 _ rfl) (fun K hK=>?_) ?_
  ·go_simp
   have Z0:=X;have st:=fr_alloc (fun _=>False) (w.drew.alloc (.cells #[] 60)) (.cells NB 4);replace X:=hid (X.out.alloc (.cells NB 4));replace E5:=rz E5 st;have N16:Hid (((w.drew.alloc (.cells #[] 60)).alloc (.cells NB 4)).ownsRow w.heap.size 4 1 (.slice (some ⟨w.heap.size+1,0,none⟩) n n) n (bv (List.replicate n false))):=hid (by have q:(w.drew.alloc (.cells #[] 60)).heap.size=w.heap.size+1:=(by first |rfl |simp);rw [←q];exact bool_made w.heap.size n NB HNB.out (w.drew.alloc (.cells #[] 60)) Z0.out.fr.size hn);clear st;have hR:Sv w r (.slice aS n cS) ((w.drew.alloc (.cells #[] 60)).alloc (.cells NB 4)):=⟨_,rfl,X.out⟩;clear Z0
   refine hK.out _ _ hR (fun hHeld=>?_)
   clear hK K
   (try simp only [Act.put,sA,sZ,sS])
   refine gk1 10 (fun K hK=>?_)
   refine Dsk.step_app rfl (.tmp 12) (.tmp 16) el66 rfl (.slice (some ⟨w.heap.size,0,none⟩) 0 0) 0 [] rfl (rr_base E5.out (Nat.zero_le _)) aS n cS vs rfl (src_fr HROW.out HV1.out X.out.fr (fun k hk e=>HNO.out k hk e)) (by omega) ?_;simp only [Nat.zero_add,List.nil_append];intro a10 c10 w10 ho hg ha;have st:=fr_grown hg;have hE:∀ b,(Value.slice (some ⟨w.heap.size,0,none⟩) 0 0).ownBlock=some b→w.heap.size≤b:=fun b hb=>(rr_blk E5.out hb).1;have N10:Hid (w10.ownsRow w.heap.size 60 1 (.slice a10 n c10) n vs):=hid (rr_up ho (fun k hk=>(by cases a10 with |none=>cases hk |some a=>(cases hk;rcases ha a rfl with h |h;exact hE _ h;(have:=X.out.fr.size;rw [h];exact this)))));replace N16:=rn N16 E5 st;replace X:=hid (X.out.move st hE);clear ho hg ha st hE E5;have hR:Sv w r (.slice aS n cS) w10:=⟨_,rfl,X.out⟩
   refine hK.out _ _ hR (fun hHeld=>?_)
   clear hK K
   (try simp only [Act.put,sA,sZ,sS])
   refine gkp 17 ?_
   refine gkp 18 ?_
   refine gk1 19 (fun K hK=>?_)
   have k0:w10.cell? ⟨r,3,none⟩=some _:=(X.out.cell 3).trans rfl;have f0:=X.out.frozen 3;go_simp;have st:=fr_setb w10 r 3 (.bool true);replace X:=hid (X.out.set 3 (.bool true));replace N16:=hid (rr_fr N16.out st (fun k hk=>(by have h8:=(rr_blk N16.out hk).1;have h9:=HRL.out;omega)));replace N10:=hid (rr_fr N10.out st (fun k hk=>(by have h8:=(rr_blk N10.out hk).1;have h9:=HRL.out;omega)));clear st k0 f0;have hR:Sv w r (.slice aS n cS) (w10.setCell ⟨r,3,none⟩ (.bool true)):=⟨_,rfl,X.out⟩
   refine hK.out _ _ hR (fun hHeld=>?_)
   clear hK K
   (try simp only [Act.put,sA,sZ,sS])
   refine gkp 20 ?_
   refine gkp 21 ?_
   refine gk1 22 (fun K hK=>?_)
   have k0:(w10.setCell ⟨r,3,none⟩ (.bool true)).cell? ⟨r,1,none⟩=some _:=(X.out.cell 1).trans rfl;have f0:=X.out.frozen 1;go_simp;have st:=fr_setb (w10.setCell ⟨r,3,none⟩ (.bool true)) r 1 (.slice a10 n c10);replace X:=hid (X.out.set 1 (.slice a10 n c10));replace N16:=hid (rr_fr N16.out st (fun k hk=>(by have h8:=(rr_blk N16.out hk).1;have h9:=HRL.out;omega)));replace N10:=hid (rr_fr N10.out st (fun k hk=>(by have h8:=(rr_blk N10.out hk).1;have h9:=HRL.out;omega)));clear st k0 f0;have hR:Sv w r (.slice aS n cS) ((w10.setCell ⟨r,3,none⟩ (.bool true)).setCell ⟨r,1,none⟩ (.slice a10 n c10)):=⟨_,rfl,X.out⟩
   refine hK.out _ _ hR (fun hHeld=>?_)
   clear hK K
   (try simp only [Act.put,sA,sZ,sS])
   refine gkp 23 ?_
   refine gkp 24 ?_
   refine gk1 25 (fun K hK=>?_)
   have k0:((w10.setCell ⟨r,3,none⟩ (.bool true)).setCell ⟨r,1,none⟩ (.slice a10 n c10)).cell? ⟨r,2,none⟩=some _:=(X.out.cell 2).trans rfl;have f0:=X.out.frozen 2;go_simp;have st:=fr_setb ((w10.setCell ⟨r,3,none⟩ (.bool true)).setCell ⟨r,1,none⟩ (.slice a10 n c10)) r 2 (.slice (some ⟨w.heap.size+1,0,none⟩) n n);replace X:=hid (X.out.set 2 (.slice (some ⟨w.heap.size+1,0,none⟩) n n));replace N16:=hid (rr_fr N16.out st (fun k hk=>(by have h8:=(rr_blk N16.out hk).1;have h9:=HRL.out;omega)));replace N10:=hid (rr_fr N10.out st (fun k hk=>(by have h8:=(rr_blk N10.out hk).1;have h9:=HRL.out;omega)));clear st k0 f0;have hR:Sv w r (.slice aS n cS) (((w10.setCell ⟨r,3,none⟩ (.bool true)).setCell ⟨r,1,none⟩ (.slice a10 n c10)).setCell ⟨r,2,none⟩ (.slice (some ⟨w.heap.size+1,0,none⟩) n n)):=⟨_,rfl,X.out⟩
   refine hK.out _ _ hR (fun hHeld=>?_)
   clear hK K
   (try simp only [Act.put,sA,sZ,sS])
   refine gkp 26 ?_
   refine gkp 27 ?_
   refine gk1 28 (fun K hK=>?_)
   have k0:(((w10.setCell ⟨r,3,none⟩ (.bool true)).setCell ⟨r,1,none⟩ (.slice a10 n c10)).setCell ⟨r,2,none⟩ (.slice (some ⟨w.heap.size+1,0,none⟩) n n)).cell? ⟨r,4,none⟩=some _:=(X.out.cell 4).trans rfl;have f0:=X.out.frozen 4;go_simp;have st:=fr_setb (((w10.setCell ⟨r,3,none⟩ (.bool true)).setCell ⟨r,1,none⟩ (.slice a10 n c10)).setCell ⟨r,2,none⟩ (.slice (some ⟨w.heap.size+1,0,none⟩) n n)) r 4 (.slice none 0 0);replace X:=hid (X.out.set 4 (.slice none 0 0));replace N16:=hid (rr_fr N16.out st (fun k hk=>(by have h8:=(rr_blk N16.out hk).1;have h9:=HRL.out;omega)));replace N10:=hid (rr_fr N10.out st (fun k hk=>(by have h8:=(rr_blk N10.out hk).1;have h9:=HRL.out;omega)));clear st k0 f0;have hR:Sv w r (.slice aS n cS) ((((w10.setCell ⟨r,3,none⟩ (.bool true)).setCell ⟨r,1,none⟩ (.slice a10 n c10)).setCell ⟨r,2,none⟩ (.slice (some ⟨w.heap.size+1,0,none⟩) n n)).setCell ⟨r,4,none⟩ (.slice none 0 0)):=⟨_,rfl,X.out⟩
   refine hK.out _ _ hR (fun hHeld=>?_)
   clear hK K
   (try simp only [Act.put,sA,sZ,sS])
   refine gkp 29 ?_
   refine gkp 30 ?_
   refine gk1 31 (fun K hK=>?_)
   have k0:((((w10.setCell ⟨r,3,none⟩ (.bool true)).setCell ⟨r,1,none⟩ (.slice a10 n c10)).setCell ⟨r,2,none⟩ (.slice (some ⟨w.heap.size+1,0,none⟩) n n)).setCell ⟨r,4,none⟩ (.slice none 0 0)).cell? ⟨r,5,none⟩=some _:=(X.out.cell 5).trans rfl;have f0:=X.out.frozen 5;go_simp;have st:=fr_setb ((((w10.setCell ⟨r,3,none⟩ (.bool true)).setCell ⟨r,1,none⟩ (.slice a10 n c10)).setCell ⟨r,2,none⟩ (.slice (some ⟨w.heap.size+1,0,none⟩) n n)).setCell ⟨r,4,none⟩ (.slice none 0 0)) r 5 (.int .i64 0);replace X:=hid (X.out.set 5 (.int .i64 0));replace N16:=hid (rr_fr N16.out st (fun k hk=>(by have h8:=(rr_blk N16.out hk).1;have h9:=HRL.out;omega)));replace N10:=hid (rr_fr N10.out st (fun k hk=>(by have h8:=(rr_blk N10.out hk).1;have h9:=HRL.out;omega)));clear st k0 f0;have hR:Sv w r (.slice aS n cS) (((((w10.setCell ⟨r,3,none⟩ (.bool true)).setCell ⟨r,1,none⟩ (.slice a10 n c10)).setCell ⟨r,2,none⟩ (.slice (some ⟨w.heap.size+1,0,none⟩) n n)).setCell ⟨r,4,none⟩ (.slice none 0 0)).setCell ⟨r,5,none⟩ (.int .i64 0)):=⟨_,rfl,X.out⟩
   refine hK.out _ _ hR (fun hHeld=>?_)
   clear hK K
   (try simp only [Act.put,sA,sZ,sS])
   refine wpAnyK_done (by kernel_rfl) ?_ _
   clear hHeld hR
   go_wp2
   go_ret
   exact ⟨rfl,FIN.out _ a10 c10 _ X.out N10.out N16.out⟩
  exact AllReadyK.nil
 refine AllReadyK.cons (op_at _ 16 _ rfl) (fun K hK=>?_) ?_
 ·go_simp
  have Z0:=X;have st:=fr_alloc (fun _=>False) w.drew (.cells NB 4);replace X:=hid (X.out.alloc (.cells NB 4));have N16:Hid ((w.drew.alloc (.cells NB 4)).ownsRow w.heap.size 4 1 (.slice (some ⟨w.heap.size,0,none⟩) n n) n (bv (List.replicate n false))):=hid (by have q:w.drew.heap.size=w.heap.size:=(by first |rfl |simp);rw [←q];exact bool_made w.heap.size n NB HNB.out w.drew Z0.out.fr.size hn);clear st;have hR:Sv w r (.slice aS n cS) (w.drew.alloc (.cells NB 4)):=⟨_,rfl,X.out⟩;clear Z0
  refine hK.out _ _ hR (fun hHeld=>?_)
  clear hK K
  (try simp only [Act.put,sA,sZ,sS])
  refine gk1 5 (fun K hK=>?_)
  go_simp
  have Z0:=X;have st:=fr_alloc (fun _=>False) (w.drew.alloc (.cells NB 4)) (.cells #[] 60);replace X:=hid (X.out.alloc (.cells #[] 60));replace N16:=rz N16 st;have E5:Hid (((w.drew.alloc (.cells NB 4)).alloc (.cells #[] 60)).ownsRow w.heap.size 60 1 (.slice (some ⟨w.heap.size+1,0,none⟩) 0 0) 0 []):=hid (by have q:(w.drew.alloc (.cells NB 4)).heap.size=w.heap.size+1:=(by first |rfl |simp);rw [←q];exact World.ownsRow_made (w.drew.alloc (.cells NB 4)) #[] 0 Z0.out.fr.size (by decide) rfl);clear st;have hR:Sv w r (.slice aS n cS) ((w.drew.alloc (.cells NB 4)).alloc (.cells #[] 60)):=⟨_,rfl,X.out⟩;clear Z0
  refine hK.out _ _ hR (fun hHeld=>?_)
  clear hK K
  (try simp only [Act.put,sA,sZ,sS])
  refine gk1 10 (fun K hK=>?_)
  refine Dsk.step_app rfl (.tmp 12) (.tmp 16) el66 rfl (.slice (some ⟨w.heap.size+1,0,none⟩) 0 0) 0 [] rfl (rr_base E5.out (Nat.zero_le _)) aS n cS vs rfl (src_fr HROW.out HV1.out X.out.fr (fun k hk e=>HNO.out k hk e)) (by omega) ?_;simp only [Nat.zero_add,List.nil_append];intro a10 c10 w10 ho hg ha;have st:=fr_grown hg;have hE:∀ b,(Value.slice (some ⟨w.heap.size+1,0,none⟩) 0 0).ownBlock=some b→w.heap.size≤b:=fun b hb=>(rr_blk E5.out hb).1;have N10:Hid (w10.ownsRow w.heap.size 60 1 (.slice a10 n c10) n vs):=hid (rr_up ho (fun k hk=>(by cases a10 with |none=>cases hk |some a=>(cases hk;rcases ha a rfl with h |h;exact hE _ h;(have:=X.out.fr.size;rw [h];exact this)))));replace N16:=rn N16 E5 st;replace X:=hid (X.out.move st hE);clear ho hg ha st hE E5;have hR:Sv w r (.slice aS n cS) w10:=⟨_,rfl,X.out⟩
  refine hK.out _ _ hR (fun hHeld=>?_)
  clear hK K
  (try simp only [Act.put,sA,sZ,sS])
  refine gkp 17 ?_
  refine gkp 18 ?_
  refine gk1 19 (fun K hK=>?_)
  have k0:w10.cell? ⟨r,3,none⟩=some _:=(X.out.cell 3).trans rfl;have f0:=X.out.frozen 3;go_simp;have st:=fr_setb w10 r 3 (.bool true);replace X:=hid (X.out.set 3 (.bool true));replace N16:=hid (rr_fr N16.out st (fun k hk=>(by have h8:=(rr_blk N16.out hk).1;have h9:=HRL.out;omega)));replace N10:=hid (rr_fr N10.out st (fun k hk=>(by have h8:=(rr_blk N10.out hk).1;have h9:=HRL.out;omega)));clear st k0 f0;have hR:Sv w r (.slice aS n cS) (w10.setCell ⟨r,3,none⟩ (.bool true)):=⟨_,rfl,X.out⟩
  refine hK.out _ _ hR (fun hHeld=>?_)
  clear hK K
  (try simp only [Act.put,sA,sZ,sS])
  refine gkp 20 ?_
  refine gkp 21 ?_
  refine gk1 22 (fun K hK=>?_)
  have k0:(w10.setCell ⟨r,3,none⟩ (.bool true)).cell? ⟨r,1,none⟩=some _:=(X.out.cell 1).trans rfl;have f0:=X.out.frozen 1;go_simp;have st:=fr_setb (w10.setCell ⟨r,3,none⟩ (.bool true)) r 1 (.slice a10 n c10);replace X:=hid (X.out.set 1 (.slice a10 n c10));replace N16:=hid (rr_fr N16.out st (fun k hk=>(by have h8:=(rr_blk N16.out hk).1;have h9:=HRL.out;omega)));replace N10:=hid (rr_fr N10.out st (fun k hk=>(by have h8:=(rr_blk N10.out hk).1;have h9:=HRL.out;omega)));clear st k0 f0;have hR:Sv w r (.slice aS n cS) ((w10.setCell ⟨r,3,none⟩ (.bool true)).setCell ⟨r,1,none⟩ (.slice a10 n c10)):=⟨_,rfl,X.out⟩
  refine hK.out _ _ hR (fun hHeld=>?_)
  clear hK K
  (try simp only [Act.put,sA,sZ,sS])
  refine gkp 23 ?_
  refine gkp 24 ?_
  refine gk1 25 (fun K hK=>?_)
  have k0:((w10.setCell ⟨r,3,none⟩ (.bool true)).setCell ⟨r,1,none⟩ (.slice a10 n c10)).cell? ⟨r,2,none⟩=some _:=(X.out.cell 2).trans rfl;have f0:=X.out.frozen 2;go_simp;have st:=fr_setb ((w10.setCell ⟨r,3,none⟩ (.bool true)).setCell ⟨r,1,none⟩ (.slice a10 n c10)) r 2 (.slice (some ⟨w.heap.size,0,none⟩) n n);replace X:=hid (X.out.set 2 (.slice (some ⟨w.heap.size,0,none⟩) n n));replace N16:=hid (rr_fr N16.out st (fun k hk=>(by have h8:=(rr_blk N16.out hk).1;have h9:=HRL.out;omega)));replace N10:=hid (rr_fr N10.out st (fun k hk=>(by have h8:=(rr_blk N10.out hk).1;have h9:=HRL.out;omega)));clear st k0 f0;have hR:Sv w r (.slice aS n cS) (((w10.setCell ⟨r,3,none⟩ (.bool true)).setCell ⟨r,1,none⟩ (.slice a10 n c10)).setCell ⟨r,2,none⟩ (.slice (some ⟨w.heap.size,0,none⟩) n n)):=⟨_,rfl,X.out⟩
  refine hK.out _ _ hR (fun hHeld=>?_)
  clear hK K
  (try simp only [Act.put,sA,sZ,sS])
  refine gkp 26 ?_
  refine gkp 27 ?_
  refine gk1 28 (fun K hK=>?_)
  have k0:(((w10.setCell ⟨r,3,none⟩ (.bool true)).setCell ⟨r,1,none⟩ (.slice a10 n c10)).setCell ⟨r,2,none⟩ (.slice (some ⟨w.heap.size,0,none⟩) n n)).cell? ⟨r,4,none⟩=some _:=(X.out.cell 4).trans rfl;have f0:=X.out.frozen 4;go_simp;have st:=fr_setb (((w10.setCell ⟨r,3,none⟩ (.bool true)).setCell ⟨r,1,none⟩ (.slice a10 n c10)).setCell ⟨r,2,none⟩ (.slice (some ⟨w.heap.size,0,none⟩) n n)) r 4 (.slice none 0 0);replace X:=hid (X.out.set 4 (.slice none 0 0));replace N16:=hid (rr_fr N16.out st (fun k hk=>(by have h8:=(rr_blk N16.out hk).1;have h9:=HRL.out;omega)));replace N10:=hid (rr_fr N10.out st (fun k hk=>(by have h8:=(rr_blk N10.out hk).1;have h9:=HRL.out;omega)));clear st k0 f0;have hR:Sv w r (.slice aS n cS) ((((w10.setCell ⟨r,3,none⟩ (.bool true)).setCell ⟨r,1,none⟩ (.slice a10 n c10)).setCell ⟨r,2,none⟩ (.slice (some ⟨w.heap.size,0,none⟩) n n)).setCell ⟨r,4,none⟩ (.slice none 0 0)):=⟨_,rfl,X.out⟩
  refine hK.out _ _ hR (fun hHeld=>?_)
  clear hK K
  (try simp only [Act.put,sA,sZ,sS])
  refine gkp 29 ?_
  refine gkp 30 ?_
  refine gk1 31 (fun K hK=>?_)
  have k0:((((w10.setCell ⟨r,3,none⟩ (.bool true)).setCell ⟨r,1,none⟩ (.slice a10 n c10)).setCell ⟨r,2,none⟩ (.slice (some ⟨w.heap.size,0,none⟩) n n)).setCell ⟨r,4,none⟩ (.slice none 0 0)).cell? ⟨r,5,none⟩=some _:=(X.out.cell 5).trans rfl;have f0:=X.out.frozen 5;go_simp;have st:=fr_setb ((((w10.setCell ⟨r,3,none⟩ (.bool true)).setCell ⟨r,1,none⟩ (.slice a10 n c10)).setCell ⟨r,2,none⟩ (.slice (some ⟨w.heap.size,0,none⟩) n n)).setCell ⟨r,4,none⟩ (.slice none 0 0)) r 5 (.int .i64 0);replace X:=hid (X.out.set 5 (.int .i64 0));replace N16:=hid (rr_fr N16.out st (fun k hk=>(by have h8:=(rr_blk N16.out hk).1;have h9:=HRL.out;omega)));replace N10:=hid (rr_fr N10.out st (fun k hk=>(by have h8:=(rr_blk N10.out hk).1;have h9:=HRL.out;omega)));clear st k0 f0;have hR:Sv w r (.slice aS n cS) (((((w10.setCell ⟨r,3,none⟩ (.bool true)).setCell ⟨r,1,none⟩ (.slice a10 n c10)).setCell ⟨r,2,none⟩ (.slice (some ⟨w.heap.size,0,none⟩) n n)).setCell ⟨r,4,none⟩ (.slice none 0 0)).setCell ⟨r,5,none⟩ (.int .i64 0)):=⟨_,rfl,X.out⟩
  refine hK.out _ _ hR (fun hHeld=>?_)
  clear hK K
  (try simp only [Act.put,sA,sZ,sS])
  refine wpAnyK_done (by kernel_rfl) ?_ _
  clear hHeld hR
  go_wp2
  go_ret
  exact ⟨rfl,FIN.out _ a10 c10 _ X.out N10.out N16.out⟩
 exact AllReadyK.nil
end
end Go.Proofs.YtadhdedjdgjboaaGreatDoor
