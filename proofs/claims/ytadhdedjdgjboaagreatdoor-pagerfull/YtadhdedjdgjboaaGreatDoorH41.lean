/- The document's pager: what is changed; no statement of the seat is proved here. -/
import Derived.Test.YtadhdedjdgjboaaGreatDoorH31
import Derived.Test.YtadhdedjdgjboaaGreatDoorH25
import Derived.Test.YtadhdedjdgjboaaGreatDoorH17
set_option maxHeartbeats 16000000
set_option maxRecDepth 20000
namespace Go.Proofs.YtadhdedjdgjboaaGreatDoor
section
open Go.RowKit Go.Maps
open Dsk (gt hid undrew keep_old keep_cell lt_cell Rd bs bs_length bs_one own_stay own_lt own_later own_ne own_set row_form idx)
def chK(c:List Bool)(busy:Bool):Nat→List Nat
 | 0=>[]
 | k+1=>chK c busy k++if c.getD k false&&busy then [k+1] else []
theorem chK_le(c:List Bool)(b:Bool):∀ k,(chK c b k).length≤k
 | 0=>Nat.le_refl _
 | k+1=>by have:=chK_le c b k;rw [chK,List.length_append];split<;>simp<;>omega
theorem chK_false(c:List Bool):∀ k,chK c false k = []
 | 0=>rfl
 | k+1=>by rw [chK,chK_false c k];simp
theorem chK_true(c:List Bool):∀ k,k≤c.length→chK c true k=(List.range (k+1)).filter fun i=>(false::c).getD i false
 | 0,_=>by simp [chK,List.range_succ]
 | k+1,h=>by
  rw [List.range_succ,List.filter_append,←chK_true c k (by omega),chK]
  congr 1
  simp only [List.getD_cons_succ,Bool.and_true,List.filter_cons,List.filter_nil]
theorem chK_all(c:List Bool):chK c true c.length=chL c:=by rw [chK_true c _ (Nat.le_refl _),chL,idx,List.length_cons]
theorem rchanged_any(r:Nat)(S:Nat→Prop)(V:RV)(t:RS)(w:World)(h:RefP w r S V t)(hl:t.c.length≤4000) :
  Calls Tryz.prog 18 #[.pointer (some ⟨r,0,none⟩)] w fun e w'=>∃ ao cp,e=.returned (.slice ao (chK t.c t.busy t.c.length).length cp)∧w'.ownsRow w.heap.size 3 1 (.slice ao (chK t.c t.busy t.c.length).length cp) (chK t.c t.busy t.c.length).length (zI (chK t.c t.busy t.c.length))∧Below w.heap.size w w':=by
 obtain ⟨_,_,c2,c3,_⟩:=h.cells
 obtain ⟨ao,cap,hv,hno,hso⟩:=row_form h.c.row
 have hrow:=h.c.row
 rw [hv]at c2 hrow
 clear h hv
 generalize t.c=c at *
 generalize t.busy=b at *
 obtain ⟨L,hL⟩:∃ L,L=c.length:=⟨_,rfl⟩
 rw [←hL]at c2 hrow hl hno hso ⊢
 have at_:∀ k,k<L→∃ g,ao=some ⟨g,0,none⟩∧w.cell? ⟨g,k,none⟩=some (.bool (c.getD k false)):=by
  intro k hk
  cases ao with
  | none=>have:=(hno rfl).1;omega
  | some a=>
   obtain ⟨e1,_,_⟩:=hso a rfl
   rw [e1]at hrow ⊢
   refine ⟨a.block,rfl,?_⟩
   have h9:=hrow.cells (g:=a.block) rfl k (.bool (c.getD k false)) (by rw [bv,List.getElem?_map,List.getD,List.getElem?_eq_getElem (by omega)];rfl)
   rw [Addr.add_lit]at h9;simpa using h9
 have AT:=hid at_
 have hcap:L≤cap:=by
  cases ao with
  | none=>have:=(hno rfl).1;omega
  | some a=>exact (hso a rfl).2.1
 clear at_ hrow hno hso hL
 go_enter Tryz.func18,Tryz.ntmps18
 go_wp2
 go_loopw [3,11] (fun v3 v11 W=>∃ (k:Nat) (ao:Option Addr) (cp:Nat),k≤L∧v11=.int .i64 (k:Int)∧v3=.slice ao (chK c b k).length cp∧Hid (W.ownsRow w.heap.size 3 1 (.slice ao (chK c b k).length cp) (chK c b k).length (zI (chK c b k)))∧Hid (Below w.heap.size w W)) (fun _ v11 _=>L - (Lib.intOf v11).toNat)
 case atStart=>exact ⟨0,none,0,by omega,rfl,rfl,hid ⟨rfl,Or.inl ⟨rfl,rfl⟩⟩,hid (Below.refl _ _)⟩
 case round=>
  obtain ⟨k,ao3,cp,hk,rfl,rfl,O,B⟩:=hrel
  have hMb:=chK_le c b k
  have hsz:=B.out.size
  by_cases hkL:k<L
  ·obtain ⟨g,rfl,hg0⟩:=AT.out k hkL
   have hg:=keep_old B.out hg0
   have hkI:(k:Int)<(L:Int):=by omega
   have r3:=keep_old B.out c3
   clear hg0
   obtain ⟨M,hM⟩:∃ M,(chK c b k).length=M:=⟨_,rfl⟩
   rw [hM]at O hMb ⊢
   have HM:=hid hM
   clear hM
   by_cases hck:c.getD k false=true
   ·rw [hck]at hg
    by_cases hbb:b=true
    ·subst hbb
     have e1:IntKind.i64.wrap ((k:Int)+1)=((k+1:Nat):Int):=by rw [IntWalk.i64_in _ ⟨by omega,by omega⟩];omega
     obtain ⟨J,hJ⟩:∃ J,J=k+1:=⟨_,rfl⟩
     rw [←hJ]at e1
     have HJ:=hid hJ
     have SR:=hid (lit_src wr [.int .i64 (J:Int)] 3 (by intro x hx;simp at hx;subst hx;rfl))
     have b4:Below wr.heap.size wr (wr.alloc (.cells #[.int .i64 (J:Int)] 3)):=Below.alloc (Below.refl _ _) (Nat.le_refl _) _
     have O3:=hid (own_under O.out (fun k hk=>b4.block k (own_bound (ownsRow_base_a O.out (Nat.zero_le _)) hk)))
     have HB4:=hid b4
     have HCK:=hid hck
     clear b4 hJ hck
     go_wp2_with ((with_reducible refine Dsk.here_op 27 ?_);refine Cch.wpList_app rfl (.tmp 23) (.tmp 26) el41 rfl (.slice ao3 M cp) M _ rfl (ownsRow_base_a O3.out (Nat.zero_le _)) (some ⟨wr.heap.size,0,none⟩) 1 1 [.int .i64 (J:Int)] rfl SR.out (by omega) ?_;intro a7 c7 w7 ho7 hg7 ha7;have O7:=hid ho7;have G7:=hid hg7;have A7:=hid ha7;clear ho7 hg7 ha7)
     have hsucc:chK c true (k+1)=chK c true k++[k+1]:=by rw [chK,HCK.out];rfl
     have hMl:(chK c true (k+1)).length=M+1:=by rw [hsucc,List.length_append,HM.out];rfl
     have hz:zI (chK c true (k+1))=zI (chK c true k)++[.int .i64 (J:Int)]:=by rw [hsucc,zI_append,HJ.out];rfl
     have hblk:∀ a,a7=some a→w.heap.size≤a.block:=fun a ha=>by
      rcases A7.out a ha with h1 |h1
      ·exact own_blk O.out h1
      ·have h2:=HB4.out.size;omega
     have hB7:Below w.heap.size w w7:=(gt B.out HB4.out).grown G7.out (by have:=HB4.out.size;omega) (fun k hk=>own_blk O.out hk)
     refine ⟨⟨k+1,a7,c7,by omega,by rw [HJ.out],by rw [hMl],hid ?_,hid hB7⟩,by have:=HJ.out;simp [Lib.intOf];omega⟩
     rw [hMl,hz]
     exact own_up O7.out hblk
    ·have hbf:b=false:=by simpa using hbb
     subst hbf
     have e1:IntKind.i64.wrap ((k:Int)+1)=((k+1:Nat):Int):=by rw [IntWalk.i64_in _ ⟨by omega,by omega⟩];omega
     have hsucc:chK c false (k+1)=chK c false k:=by rw [chK_false,chK_false]
     clear hck
     go_wp2
     refine ⟨⟨k+1,ao3,cp,by omega,by first |rfl |rw [e1],by rw [hsucc,HM.out],hid (by rw [hsucc,HM.out];exact O.out),B⟩,by simp [Lib.intOf];omega⟩
   ·have hcf:c.getD k false=false:=by simpa using hck
    rw [hcf]at hg
    have e1:IntKind.i64.wrap ((k:Int)+1)=((k+1:Nat):Int):=by rw [IntWalk.i64_in _ ⟨by omega,by omega⟩];omega
    have hsucc:chK c b (k+1)=chK c b k:=by rw [chK,hcf];simp
    clear hck hcf
    go_wp2
    refine ⟨⟨k+1,ao3,cp,by omega,by first |rfl |rw [e1],by rw [hsucc,HM.out],hid (by rw [hsucc,HM.out];exact O.out),B⟩,by simp [Lib.intOf];omega⟩
  ·obtain rfl:k=L:=by omega
   go_wp2
   go_ret
   exact ⟨ao3,cp,rfl,O.out,B.out⟩
end
section
open Go.RowKit Go.Maps
open Dsk (gt hid undrew keep_old keep_cell lt_cell Rd bs bs_length op_at)
open Cch (Fr wpAnyK wpAnyK_take wpAnyK_pure wpAnyK_ready wpAnyK_done wp_region_K AllReadyK.cons AllReadyK.nil)
variable {cs:List Value} {r:Nat} {w w1:World}
theorem BoxTo.more{i:Nat}{v:Value}(h:BoxTo w w1 r cs.toArray):BoxTo w (w1.setCell ⟨r,i,none⟩ v) r (cs.set i v).toArray:=
 ⟨Cch.blk_set h.box,by simpa using h.size,fun k hk=>(heap_setCell_other _ _ _ _ hk).trans (h.other k hk),h.os,h.tape,h.output⟩
theorem BoxTo.refl(h:w.heap[r]? = some (.cells cs.toArray 35 (0,0))):BoxTo w w r cs.toArray:=⟨h,rfl,fun _ _=>rfl,rfl,rfl,rfl⟩
theorem BoxTo.fr{w':World}{cs:Array Value}(h:BoxTo w w' r cs):Fr (fun b=>b=r) w w':=⟨h.os,h.tape,h.output,by rw [h.size];exact Nat.le_refl _,fun k _ hk=>h.other k hk⟩
theorem rcommit_no(r:Nat)(S:Nat→Prop)(V:RV)(t:RS)(w:World)(h:RefP w r S V t)(hb:t.busy=false):Calls Tryz.prog 28 #[.pointer (some ⟨r,0,none⟩)] w fun e w'=>e=.returned (.int .i64 6)∧w'=w:=by
 obtain ⟨_,_,_,c3,_⟩:=h.cells
 rw [hb]at c3
 clear h
 go_enter Tryz.func28,Tryz.ntmps28
 go_wp2
 go_ret
 exact ⟨rfl,rfl⟩
def RS.commit(t:RS):RS:={ t with sure:=t.now,busy:=false,n:=if chK t.c true t.c.length = []∧t.now.length=t.sure.length then t.n else t.n+1 }
theorem box_commit{S:Nat→Prop}{V:RV}{t:RS}(h:RefP w r S V t)(hf:Below w.heap.size w w1)(b:Bool)(w':World)(hw:w'=(((if b then w1.setCell ⟨r,6,none⟩ (.int .i64 ((t.n+1:Nat):Int)) else w1).setCell ⟨r,0,none⟩ V.nv).setCell ⟨r,3,none⟩ (.bool false)))
  (hb:(b=true)↔¬(chK t.c true t.c.length = []∧t.now.length=t.sure.length)):RefP w' r S { V with sv:=V.nv } t.commit∧Fr (fun b=>b=r) w w':=by
 have h1:=h.later hf
 have hB:BoxTo w1 w' r #[V.nv,V.nv,V.cv,.bool false,V.mv,.int .i64 (t.last:Int),.int .i64 (t.commit.n:Int)]:=by
  cases b
  ·have e:t.commit.n=t.n:=by unfold RS.commit;simp only;rw [if_pos (by simpa using hb)]
   rw [e,hw]
   exact ((BoxTo.refl h1.box).more (i:=0) (v:=V.nv)).more (i:=3) (v:=.bool false)
  ·have e:t.commit.n=t.n+1:=by unfold RS.commit;simp only;rw [if_neg (by simpa using hb)]
   rw [e,hw]
   exact (((BoxTo.refl h1.box).more (i:=6) (v:=.int .i64 ((t.n+1:Nat):Int))).more (i:=0) (v:=V.nv)).more (i:=3) (v:=.bool false)
 have f1:=hB.fr
 exact ⟨h1.boxed (V':={ V with sv:=V.nv }) (t':=t.commit) hB h1.now h1.now h1.c h1.cn ⟨rfl,rfl,rfl⟩ (fun h=>by cases h),
  ⟨f1.os.trans hf.os,f1.tape.trans hf.tape,f1.output.trans hf.output,Nat.le_trans hf.size f1.size,fun k hk hn=>(f1.blk k (Nat.lt_of_lt_of_le hk hf.size) hn).trans (hf.block k hk)⟩⟩
theorem rcommit_yes(r:Nat)(S:Nat→Prop)(V:RV)(t:RS)(w:World)(h:RefP w r S V t)(hb:t.busy=true)(hl:t.c.length≤4000)(hn:t.n≤1000000):Calls Tryz.prog 28 #[.pointer (some ⟨r,0,none⟩)] w fun e w'=>e=.returned (.int .i64 0)∧RefP w' r S { V with sv:=V.nv } t.commit∧Fr (fun b=>b=r) w w':=by
 obtain ⟨aS,cS,hSV,_,_⟩:=h.sure.form
 obtain ⟨aN,cN,hNV,_,_⟩:=h.now.form
 have C0:=rchanged_any r S V t w.drew (h.later (Below.refl _ _).drew) hl
 rw [hb]at C0
 obtain ⟨_,_,_,c3,_⟩:=h.cells
 rw [hb]at c3
 have H:=hid h;have HSV:=hid hSV;have HNV:=hid hNV
 have hcn:=h.cn
 have fin:=hid (fun (w1:World) (hf:Below w.heap.size w w1) (b:Bool) (w':World) hw hb=>box_commit h hf b w' hw hb)
 have fz:=hid (fun (w1:World) (hf:Below w.heap.size w w1) (i:Nat)=>(h.later hf).frozen i)
 have cl:=hid (fun (w1:World) (hf:Below w.heap.size w w1)=>(h.later hf).cells)
 have e1:IntKind.i64.wrap ((t.n:Int)+1)=((t.n+1:Nat):Int):=by rw [IntWalk.i64_in _ ⟨by omega,by omega⟩];omega
 obtain ⟨N,hN⟩:∃ N,(chK t.c true t.c.length).length=N:=⟨_,rfl⟩
 rw [hN]at C0
 have C:=hid C0
 clear C0 h hSV hNV
 by_cases h0:0<N
 ·have HN:(0:Int)<(N:Int):=by omega
  go_enter Tryz.func28,Tryz.ntmps28
  go_wp2
  refine wp_region_K (S:=Gr w.drew) (fun _=>false) (by kernel_rfl) (Below.refl _ _) (fun hHeld=>?_)
  refine gkp 0 ?_
  refine gk1 1 (fun K hK=>?_)
  go_simp
  go_at_call 18;refine C.out.mono ?_;rintro e w1 ⟨a1,p1,rfl,_,hR⟩;replace hR:Gr w.drew w1:=hR;have B1:=hid hR
  refine hK.out _ _ hR (fun hHeld=>?_)
  clear hK K
  (try simp only [Act.put,sA,sZ,sS])
  clear hR
  refine gkp 2 ?_
  refine gkp 3 ?_
  refine gkp 4 ?_ (v:=.bool true) (h:=by intro W hSw;go_simp;first |done |with_reducible rfl |simp [HN])
  refine gku 5 ?_
  refine gku 6 ?_
  refine gku 7 ?_
  refine gku 8 ?_
  refine gku 9 ?_
  refine gku 10 ?_
  refine gku 11 ?_
  refine gku 12 ?_
  refine gku 13 ?_
  refine gku 14 ?_
  refine gku 15 ?_
  refine gkp 16 ?_
  refine wpAnyK_done (by kernel_rfl) ?_ _
  have hB:=undrew B1.out
  have HB:=hid hB
  obtain ⟨d0,d1,d2,d3,d4,d5,d6⟩:=cl.out w1 hB
  rw [HSV.out]at d0;rw [HNV.out]at d1
  have z0:=fz.out w1 hB 0;have z3:=fz.out w1 hB 3;have z6:=fz.out w1 hB 6
  clear hB hHeld
  go_wp2
  go_ret
  exact ⟨rfl,fin.out w1 HB.out true _ (by rw [if_pos rfl,HNV.out];rfl) (by simp;intro h9;rw [h9]at hN;simp at hN;omega)⟩
 ·have hN0:N=0:=by omega
  subst hN0
  have HN:¬(0:Int)<((0:Nat):Int):=by omega
  go_enter Tryz.func28,Tryz.ntmps28
  go_wp2
  refine wp_region_K (S:=Gr w.drew) (fun _=>false) (by kernel_rfl) (Below.refl _ _) (fun hHeld=>?_)
  refine gkp 0 ?_
  refine gk1 1 (fun K hK=>?_)
  go_simp
  go_at_call 18;refine C.out.mono ?_;rintro e w1 ⟨a1,p1,rfl,_,hR⟩;replace hR:Gr w.drew w1:=hR;have B1:=hid hR
  refine hK.out _ _ hR (fun hHeld=>?_)
  clear hK K
  (try simp only [Act.put,sA,sZ,sS])
  clear hR
  refine gkp 2 ?_
  refine gkp 3 ?_
  refine gkp 4 ?_ (v:=.bool false) (h:=by intro W hSw;go_simp;first |done |with_reducible rfl |simp [HN])
  refine gkp 5 ?_
  refine gkp 6 ?_
  refine gkp 7 ?_
  refine gkt 8 ?_ (h:=by intro W hSw;obtain ⟨d0,d1,_⟩:=(H.out.later (undrew hSw)).cells;rw [HSV.out]at d0;rw [HNV.out]at d1;go_simp;first |done |with_reducible rfl)
  refine gkp 9 ?_
  refine gkp 10 ?_
  refine gkp 11 ?_
  refine gkp 12 ?_
  refine gkt 13 ?_ (h:=by intro W hSw;obtain ⟨d0,d1,_⟩:=(H.out.later (undrew hSw)).cells;rw [HSV.out]at d0;rw [HNV.out]at d1;go_simp;first |done |with_reducible rfl)
  refine gkp 14 ?_
  refine gkp 15 ?_
  refine gkp 16 ?_
  refine wpAnyK_done (by kernel_rfl) ?_ _
  have hB:=undrew B1.out
  have HB:=hid hB
  obtain ⟨d0,d1,d2,d3,d4,d5,d6⟩:=cl.out w1 hB
  rw [HSV.out]at d0;rw [HNV.out]at d1
  have z0:=fz.out w1 hB 0;have z3:=fz.out w1 hB 3;have z6:=fz.out w1 hB 6
  have hnil:chK t.c true t.c.length = []:=List.eq_nil_of_length_eq_zero hN
  clear hB hHeld hN
  by_cases hq:t.now.length=t.sure.length
  ·go_wp2
   go_ret
   exact ⟨rfl,fin.out w1 HB.out false _ (by rw [if_neg (by simp),HNV.out,hq]) (by simp [hnil,hq])⟩
  ·go_wp2
   go_ret
   exact ⟨rfl,fin.out w1 HB.out true _ (by rw [if_pos rfl,HNV.out];rfl) (by simp [hnil,hq])⟩
end
end Go.Proofs.YtadhdedjdgjboaaGreatDoor
