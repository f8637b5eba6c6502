/- What Sectors and Dirty tell; what slices.Clone and maps.Clone make. No statement of the seat is proved here. -/
import Derived.Test.YtfcikkechphmaaaGreatDoorW24
import Derived.Lib.SliceRun
import Derived.Maps.RangeWalk
import Derived.Laws.IdiomRangeMap
import Derived.Deep.LoopGhost
import Derived.Test.YtfcikkechphmaaaGreatDoorW12
set_option maxHeartbeats 16000000
set_option maxRecDepth 20000
namespace Go.Proofs.YtfcikkechphmaaaGreatDoor
namespace Dsk
open Go.RowKit Go.Maps
def lenD(d:DS)(f:Int):Nat:=if known f then (d.file f).now.length else 0
theorem sectors_call(p:Nat)(P:Parts)(d:DS)(f:Int)(w:World)(h:DiskP w p P d):Calls Tryz.prog 104 #[.pointer (some ⟨p,0,none⟩),.int .i64 f] w fun e w'=>e=.returned (.int .i64 (lenD d f:Int))∧w'=w:=by
 have c:=hid (made_yes p d.room w h.c0 h.ok.r1)
 have ck:=known_any f w
 have c3:=h.f0.c0;have c6:=h.f1.c0
 clear h
 cases hk:known f
 ·rw [hk]at ck
  have CK:=hid ck
  have e:lenD d f=0:=by simp [lenD,hk]
  rw [e]
  clear ck e
  go_enter Tryz.func104,Tryz.ntmps104
  go_wp2_with (first |(go_at_call 157;refine c.out.mono ?_;rintro e wx ⟨rfl,hw⟩;obtain rfl:=hw.symm;clear c) |(go_at_call 166;refine CK.out.mono ?_;rintro e wx ⟨rfl,hw⟩;obtain rfl:=hw.symm))
  go_ret
  exact ⟨rfl,rfl⟩
 ·rw [hk]at ck
  have CK:=hid ck
  clear ck
  rcases known_cases hk with rfl |rfl
  ·have e:lenD d 0=d.f0.now.length:=rfl
   rw [e]
   clear e
   go_enter Tryz.func104,Tryz.ntmps104
   go_wp2_with (first |(go_at_call 157;refine c.out.mono ?_;rintro e wx ⟨rfl,hw⟩;obtain rfl:=hw.symm;clear c) |(go_at_call 166;refine CK.out.mono ?_;rintro e wx ⟨rfl,hw⟩;obtain rfl:=hw.symm))
   go_ret
   exact ⟨rfl,rfl⟩
  ·have e:lenD d 1=d.f1.now.length:=rfl
   rw [e]
   clear e
   go_enter Tryz.func104,Tryz.ntmps104
   go_wp2_with (first |(go_at_call 157;refine c.out.mono ?_;rintro e wx ⟨rfl,hw⟩;obtain rfl:=hw.symm;clear c) |(go_at_call 166;refine CK.out.mono ?_;rintro e wx ⟨rfl,hw⟩;obtain rfl:=hw.symm))
   go_ret
   exact ⟨rfl,rfl⟩
end Dsk
namespace Dsk
open Go.RowKit Go.Maps
theorem box80(x:Sec)(W:World):(Instr.box 306 (secV x)).run Tryz.prog W=.ok (.pointer (some ⟨W.heap.size,0,none⟩)) (W.alloc (.cells (bs x).toArray 306)):=by
 rfl
def behind(n:Nat):Lit→DataW Unit→Bool:=fun kl _=>match kl with | .int _ a=>decide ((n:Int)≤a) |_=>false
theorem cut1_any(B n:Nat)(k:Int)(x:Sec)(W:World)(hc:W.cell? ⟨B,0,none⟩=some (.int .i64 (n:Int))) :
  Calls Tryz.prog 312 #[.int .i64 k,secV x,.pointer (some ⟨B,0,none⟩)] W fun e w'=>e=.returned (.bool (decide ((n:Int)≤k)))∧Below W.heap.size W w':=by
 obtain ⟨W1,hW1⟩:∃ W1,W1=W.alloc (.cells (bs x).toArray 306):=⟨_,rfl⟩
 have hb:Below W.heap.size W W1:=by rw [hW1];exact (Below.refl _ _).alloc (Nat.le_refl _) _
 have hc1:=keep_old hb hc
 have bx:=box80 x W
 rw [←hW1]at bx
 have BX:=hid bx;have HB:=hid hb
 clear bx hb hW1 hc
 go_enter Tryz.func312,Tryz.ntmps312
 go_wp2_with ((with_reducible refine here_op 4 ?_);refine wpList_box_run rfl 306 (.tmp 1) rfl (secV x) _ rfl _ BX.out ?_)
 go_ret
 exact ⟨rfl,HB.out⟩
theorem at_mem{es:List (Lit×DataW Unit)}{kl:Lit}{d:DataW Unit}(h:∀ zd,(DataW.map es).atKey kl zd=d):∃ p∈es,p.2=d:=by
 unfold DataW.atKey at h
 cases hf:es.find? (fun p=>p.1.sameKey kl) with
 | none=>simp only [hf]at h;have h1:=h .nil;rw [←h (.map [])]at h1;cases h1
 | some p=>simp only [hf]at h;exact ⟨p,List.mem_of_find?_eq_some hf,h .nil⟩
theorem grown_of{w w':World}(h:Below w.heap.size w w'):w.grownBy w' none:=⟨h.os,h.tape,h.output,h.size,fun k hk _=>h.block k hk⟩
theorem delete_secs(dirt:List Bool)(old:List Sec)(n B b N:Nat)(w:World)(hso:∀ i,(was old i).length=128)(hown:w.ownsMap Tryz.prog 3 secR b N (dirtD dirt old))(hc:w.cell? ⟨B,0,none⟩=some (.int .i64 (n:Int)))(hBb:B≠b) :
  Calls Tryz.prog 311 #[.map (some b),.func (.func 312) #[] #[.pointer (some ⟨B,0,none⟩)]] w fun e w'=>e=.returned (.tuple #[])∧w'.ownsMap Tryz.prog 3 secR b N (Lib.deleteFuncD (behind n) (dirtD dirt old))∧w.grownBy w' (some b):=by
 have K:=int_keyed Tryz.underlying3
 obtain ⟨es0,he0,hap,hkeys⟩:=hown.entries K
 have hes:∀ p∈es0,∃ i,p.2=secD (was old i):=by
  intro p hp
  simp only [dirtD,DataW.map.injEq]at he0
  rw [←he0]at hp
  obtain ⟨i,_,rfl⟩:=List.mem_map.1 hp
  exact ⟨i,rfl⟩
 have HES:=hid hes;have HSO:=hid hso;have HC:=hid hc
 rw [he0]at hown ⊢
 clear hes hso hc he0
 obtain ⟨NN,hNN⟩:∃ N,N=(bs noughts).toArray:=⟨_,rfl⟩
 have al:=alloc80
 rw [←hNN]at al
 have AL:=hid al;have HN:=hid hNN
 clear al hNN
 go_enter Tryz.func311,Tryz.ntmps311
 go_wp2_with (first
  | (at_range;refine wpList_range_own _ rfl _ 185 rfl 3 306 K Tryz.underlying185 secR b N _ rfl hown ?_;intro w0 hrg0 hg0 hs0;clear hs0)
  | go_in)
 go_frame
 go_loopw [8] (fun _ wr=>∃ (left:Lit→Bool) (cnt:Nat),wr.ranges Tryz.prog 3 secR b w.heap.size N (Fk (behind n) es0 left) left cnt∧w.grownBy wr (some b))
  (fun _ wr=>wr.rangeLeft b w.heap.size)
 case atStart=>exact ⟨_,_,by rw [Fk_start hkeys];exact hrg0,hg0.but _⟩
 case round=>
  obtain ⟨left,cnt,hrg,hgw⟩:=hrel
  go_wp2_with (first
   | (at_next;refine wpList_next_ranges _ rfl _ rfl 3 K secR id id (fun key _ _=>⟨key,rfl⟩) (fun v _ _=>⟨v,rfl⟩) b w.heap.size N _ _ _ rfl hrg ?_ ?_)
   | go_in)
  ·intro _ hl0
   go_wp2
   go_end0
   exact ⟨rfl,by rw [←Fk_end hl0];exact hrg.owns,hgw⟩
  ·intro x c kl yd yp w1 cnt1 hkey hlx hv hat hrg1 hlt hg1 hs1 hen
   clear hs1
   have hgw1:=hgw.andThen hg1 (fun j hj=>by cases hj;exact Or.inl (Nat.le_refl _))
   obtain ⟨k,ex,rfl,hwk⟩:=keyOf_int_inv Tryz.underlying3 hkey
   (try simp only [id_eq]at ex hv hen)
   subst ex
   obtain ⟨p,hp,hpe⟩:=at_mem hat
   obtain ⟨i,hi⟩:=HES.out p (List.mem_filter.1 hp).1
   have hyd:yd=secD (was old i):=hpe.symm.trans hi
   subst hyd
   have hcv:=secR_inv hv
   subst hcv
   have hl:=HSO.out i
   obtain ⟨X,hX⟩:∃ X,X=was old i:=⟨_,rfl⟩
   rw [←hX]at hl hen
   have HX:=hid hX;have HL:=hid hl
   clear hp hpe hi hX hl
   have hbl:=hrg1.owns.lt
   have hrl:=hrg1.lt
   -- the element's own variable
   obtain ⟨w2,hw2⟩:∃ w2,w2=(w1.alloc (.cells NN 306)).setRow w1.heap.size (bs X).toArray:=⟨_,rfl⟩
   have hB2:Below w1.heap.size w1 w2:=by rw [hw2];exact below_setRow ((Below.refl _ _).alloc (Nat.le_refl _) _) (Nat.le_refl _) _
   have hG2:w2.heap[w1.heap.size]? = some (.cells (bs X).toArray 306 (0,0)):=by rw [hw2];exact setRow_heap _ _ _ _ _ _ (heap_alloc_new _ _)
   have st:(storeVar 306 ⟨w1.heap.size,0,none⟩ (secV X)).run Tryz.prog (w1.alloc (.cells NN 306))=.ok () w2:=by
    rw [hw2];exact store80 (cur:=NN.toList) HL.out (by rw [HN.out];simp [bs_length,noughts_length]) (by rw [heap_alloc_new])
   have ld:(loadVar 306 ⟨w1.heap.size,0,none⟩).run Tryz.prog w2=.ok (secV X) w2:=load80 HL.out (fun j v hj=>by
    simp only [World.cell?,Addr.add_lit,hG2,Nat.zero_add]
    simpa using hj)
   have hgw2:=hgw1.andThen (grown_of hB2) (fun j hj=>by cases hj)
   have hc2:=hgw2.cell HC.out (by intro e;cases e;exact hBb rfl)
   have hc3:=hid (cut1_any B n k X w2 hc2)
   have ST:=hid st;have LD:=hid ld;have HB2:=hid hB2
   clear st ld hB2 hG2 hw2 hc2
   have hpd:behind n (.int .i64 k) (secD X)=decide ((n:Int)≤k):=rfl
   cases hpn:decide ((n:Int)≤k)<;>rw [hpn]at hc3 hpd
   ·go_wp2_with (first
     | ((with_reducible refine here_op 5 ?_);refine wpList_alloc_run rfl 306 rfl _ _ (AL.out _) ?_)
     | ((with_reducible refine here_store 306 ?_);refine wpList_store_run rfl 306 (.tmp 5) (.tmp 12) rfl ⟨w1.heap.size,0,none⟩ rfl (secV X) rfl _ ST.out ?_)
     | ((with_reducible refine here_op 15 ?_);refine wpList_load_run rfl 306 (.tmp 5) rfl ⟨w1.heap.size,0,none⟩ rfl _ LD.out ?_)
     | (go_at_call 312;refine hc3.out.mono ?_;rintro e w3 ⟨rfl,hg3⟩;replace hg3:=hid hg3))
    have hg3':=grown_of (gt HB2.out hg3.out)
    have hrg2:=hrg1.kept hg3' (by simp) (by simp)
    go_roundw
    case rel=>exact ⟨_,cnt1,by rw [←Fk_stays hap (K.key hkey) hlx (by rw [←HX.out];exact hpd) hat];exact hrg2,hgw1.andThen hg3' (fun j hj=>by cases hj)⟩
    case measure=>rw [hrg2.left_eq,hrg.left_eq];exact hlt
   ·go_wp2_with (first
     | ((with_reducible refine here_op 5 ?_);refine wpList_alloc_run rfl 306 rfl _ _ (AL.out _) ?_)
     | ((with_reducible refine here_store 306 ?_);refine wpList_store_run rfl 306 (.tmp 5) (.tmp 12) rfl ⟨w1.heap.size,0,none⟩ rfl (secV X) rfl _ ST.out ?_)
     | ((with_reducible refine here_op 15 ?_);refine wpList_load_run rfl 306 (.tmp 5) rfl ⟨w1.heap.size,0,none⟩ rfl _ LD.out ?_)
     | (go_at_call 312;refine hc3.out.mono ?_;rintro e w3 ⟨rfl,hg3⟩;replace hg3:=hid hg3;have hg3':=hid (grown_of (gt HB2.out hg3.out));have hrg2:=hrg1.kept hg3'.out (by simp) (by simp))
     | (at_delete;refine wpList_delete_ranges _ rfl _ _ 185 3 rfl 306 K Tryz.underlying185 secR b w.heap.size N _ _ _ rfl hrg2 _ _ rfl hkey ?_;intro w4 cnt4 hrg4 hle hturn;go_frame))
    rw [strike_twice]at hrg4
    go_roundw
    case rel=>exact ⟨_,cnt4,by rw [←Fk_struck hap (K.key hkey) hlx (by rw [←HX.out];exact hpd) hat];exact hrg4,(hgw1.andThen hg3'.out (fun j hj=>by cases hj)).andThen hturn.grown (fun j hj=>by cases hj;exact Or.inr rfl)⟩
    case measure=>rw [hrg4.left_eq,hrg.left_eq];omega
end Dsk
namespace Dsk
open Go.RowKit Go.Maps
def cutF(F:FS)(n:Nat):FS:=⟨F.now.take n,F.old.take n++List.replicate (n - F.old.length) noughts,F.dirt.take n⟩
theorem cutF_old(F:FS)(n:Nat):(cutF F n).old.length=n:=by simp [cutF];omega
theorem cutF_now(F:FS)(n:Nat)(h:n≤F.now.length):(cutF F n).now.length=n:=by simp [cutF];omega
theorem cutF_was(F:FS)(n i:Nat)(h:i<n):was (cutF F n).old i=was F.old i:=by
 simp only [was,cutF,List.getD,List.getElem?_append,List.length_take,List.getElem?_take,List.getElem?_replicate]
 by_cases h1:i<F.old.length
 ·rw [if_pos (by omega),if_pos h]
 ·rw [if_neg (by omega),if_pos (by omega),List.getElem?_eq_none (by omega)];rfl
theorem cutF_ok{F:FS}(ok:F.Ok){n:Nat}(h:n≤F.now.length):(cutF F n).Ok:=by
 refine ⟨by simp [cutF,ok.ld],by rw [cutF_old,cutF_now F n h];exact Nat.le_refl _,fun x hx=>ok.sn x (List.mem_of_mem_take hx),fun x hx=>?_,fun i hi hd=>?_⟩
 ·rcases List.mem_append.1 hx with h1 |h1
  ·exact ok.so x (List.mem_of_mem_take h1)
  ·rw [List.eq_of_mem_replicate h1];exact noughts_length
 ·rw [cutF_now F n h]at hi
  refine ⟨by rw [cutF_old];exact hi,?_⟩
  rw [cutF_was F n i hi]
  have e1:(cutF F n).dirt.getD i false=F.dirt.getD i false:=by simp [cutF,List.getD,hi]
  have e2:(cutF F n).now.getD i []=F.now.getD i []:=by simp [cutF,List.getD,hi]
  rw [e1]at hd;rw [e2]
  exact (ok.cl i (by omega) hd).2
theorem cut_raw(p o n L cap:Nat)(ao:Option Addr)(s:Int)(m:Nat)(w:World)(R:World→Prop)
  (c0:w.cell? ⟨p,o,none⟩=some (.slice ao L cap)) (c1:w.cell? ⟨p,o+1,none⟩=some (.int .i64 s)) (c2:w.cell? ⟨p,o+2,none⟩=some (.map (some m)))
  (f0:w.frozen? ⟨p,o,none⟩=false) (f1:w.frozen? ⟨p,o+1,none⟩=false) (hn:n≤L) (hL:L≤cap)
  (hdo:Calls Tryz.prog 311 #[.map (some m),.func (.func 312) #[] #[.pointer (some ⟨w.heap.size,0,none⟩)]] ((((w.setCell ⟨p,o,none⟩ (.slice ao n cap)).setCell ⟨p,o+1,none⟩ (.int .i64 (n:Int))).alloc (.cells #[.int .i64 (n:Int)] 3)).drew) fun e w'=>e=.returned (.tuple #[])∧R w') :
  Calls Tryz.prog 269 #[.pointer (some ⟨p,o,none⟩),.int .i64 (n:Int)] w fun e w'=>e=.returned (.tuple #[])∧R w':=by
 have hp:p<w.heap.size:=lt_cell c0
 have hp':¬p=w.heap.size:=by omega
 have hn':(n:Int)≤(cap:Int):=by omega
 have HD:=hid hdo
 clear hdo
 go_enter Tryz.func269,Tryz.ntmps269
 go_wp2_with fail
 go_region
 go_wp2_with (go_at_call 311;refine HD.out.mono ?_;rintro e w3 ⟨rfl,hR⟩;replace hR:=hid hR)
 go_end0
 exact ⟨rfl,hR.out⟩
theorem cut_any(p o cap m n:Nat)(S:Nat→Prop)(ao:Option Addr)(F:FS)(w:World)(h:FileAt w p o S ao cap m F)(ok:F.Ok)(hn:n≤F.now.length) :
  Calls Tryz.prog 269 #[.pointer (some ⟨p,o,none⟩),.int .i64 (n:Int)] w fun e w'=>e=.returned (.tuple #[])∧FileAt w' p o (From S w) ao cap m (cutF F n)∧FFrame w w' p o S:=by
 have hcap:F.now.length≤cap:=by
  rcases h.row.2 with ⟨_,hz⟩ | ⟨g,cap',cur,hv',_,_,hnc,_⟩
  ·omega
  ·simp only [Value.slice.injEq]at hv';obtain ⟨_,_,rfl⟩:=hv';exact hnc
 have hpl:=h.plt
 obtain ⟨w2,hw2⟩:∃ w2,w2=((((w.setCell ⟨p,o,none⟩ (.slice ao n cap)).setCell ⟨p,o+1,none⟩ (.int .i64 (n:Int))).alloc (.cells #[.int .i64 (n:Int)] 3)).drew):=⟨_,rfl⟩
 have hs:((w.setCell ⟨p,o,none⟩ (.slice ao n cap)).setCell ⟨p,o+1,none⟩ (.int .i64 (n:Int))).heap.size=w.heap.size:=by simp
 have hsz:w2.heap.size=w.heap.size+1:=by rw [hw2];simp
 have hcell:∀ i,w2.cell? ⟨p,i,none⟩=((w.setCell ⟨p,o,none⟩ (.slice ao n cap)).setCell ⟨p,o+1,none⟩ (.int .i64 (n:Int))).cell? ⟨p,i,none⟩:=fun i=>by
  rw [hw2];exact World.cell?_alloc_lt _ _ _ (by rw [hs];exact hpl)
 have hblk:∀ k,k<w.heap.size→k≠p→w2.heap[k]? = w.heap[k]?:=fun k hk hkp=>by
  rw [hw2]
  exact (heap_alloc_old _ _ _ (by rw [hs];exact hk)).trans ((set_heap _ _ _ _ _ hkp).trans (set_heap _ _ _ _ _ hkp))
 have hfz:∀ i,w2.frozen? ⟨p,i,none⟩=w.frozen? ⟨p,i,none⟩:=fun i=>by
  rw [hw2]
  refine (World.frozen?_alloc_old _ _ _ (by rw [hs];exact Nat.ne_of_lt hpl)).trans ?_
  rw [World.frozen?_setCell,World.frozen?_setCell]
 have hB:w2.cell? ⟨w.heap.size,0,none⟩=some (.int .i64 (n:Int)):=by
  rw [hw2];exact (World.cell?_alloc_at _ _ _ _ hs.symm).trans rfl
 have hmp:m≠p:=fun e=>h.np (e▸h.inm)
 have hml:=h.map.lt
 have hmap2:w2.ownsMap Tryz.prog 3 secR m (idx F.dirt).length (dirtD F.dirt F.old):=map_stay h.map (hblk m hml hmp)
 have cd:=delete_secs F.dirt F.old n w.heap.size m _ w2 (was_len ok) hmap2 hB (by omega)
 rw [hw2]at cd
 refine (cut_raw p o n F.now.length cap ao _ m w _ h.c0 h.c1 h.c2 h.f0 h.f1 hn hcap cd).mono ?_
 rintro e w' ⟨rfl,hm',hg⟩
 rw [←hw2]at hg
 have e1:Lib.deleteFuncD (behind n) (dirtD F.dirt F.old)=dirtD (cutF F n).dirt (cutF F n).old:=cut_dirt F.dirt F.old _ n (cutF_was F n)
 rw [e1]at hm'
 have hm2:=tight hm'
 rw [size_dirt]at hm2
 have hc':∀ i,w'.cell? ⟨p,i,none⟩=w2.cell? ⟨p,i,none⟩:=fun i=>World.cell?_of_block (hg.block p (by omega) (fun e=>by cases e;exact hmp rfl))
 have hf':∀ i,w'.frozen? ⟨p,i,none⟩=w2.frozen? ⟨p,i,none⟩:=fun i=>World.frozen?_of_block (hg.block p (by omega) (fun e=>by cases e;exact hmp rfl))
 refine ⟨rfl,⟨?_,?_,?_,?_,?_,?_,?_,hm2,?_,fun a ha=>Or.inl (h.ina a ha),Or.inl h.inm⟩,⟨?_,?_,?_,?_,?_,?_,?_⟩⟩
 ·rw [hc',hcell,set_off _ _ _ (by omega),cutF_now F n hn];exact set_same h.c0
 ·rw [hc',hcell,cutF_old];exact set_same ((set_off _ _ _ (by omega)).trans h.c1)
 ·rw [hc',hcell,set_off _ _ _ (by omega),set_off _ _ _ (by omega)];exact h.c2
 ·rw [hf',hfz];exact h.f0
 ·rw [hf',hfz];exact h.f1
 ·rw [hf',hfz];exact h.f2
 ·refine row_stay (row_cut h.row ok.sn n hn) (fun a ha=>?_)
  have hab:=h.row_block a ha
  have hal:=row_lt h.row a ha
  exact (hg.block a.block (by omega) (fun e=>by cases e;exact hab.1 rfl)).trans (hblk _ hal hab.2)
 ·rintro (h1 |h1)
  ·exact h.np h1
  ·omega
 ·rw [hg.os,hw2];rfl
 ·rw [hg.tape,hw2];rfl
 ·rw [hg.output,hw2];rfl
 ·have:=hg.size;omega
 ·intro k hk hkp hkS
  exact (hg.block k (by omega) (fun e=>by cases e;exact hkS h.inm)).trans (hblk k hk hkp)
 ·intro i h0 h1 h2
  rw [hc',hcell,set_off _ _ _ (by omega),set_off _ _ _ (by omega)]
 ·intro i;rw [hf',hfz]
end Dsk
namespace Dsk
open Go.RowKit Go.Maps
def cutD(d:DS)(f n:Int):Int×DS:=
 if d.off then (4,d) else if !known f then (11,d) else if n<0∨((d.file f).now.length:Int)<n then (11,d)
 else if d.left=1 then (4,crashD (opsD d) d.keep d.torn) else (0,(tickD d).put f (cutF (d.file f) n.toNat))
theorem cut_off(p:Nat)(P:Parts)(d:DS)(f n:Int)(w:World)(h:DiskP w p P d)(hx:d.off=true∨known f=false) :
  Calls Tryz.prog 217 #[.pointer (some ⟨p,0,none⟩),.int .i64 f,.int .i64 n] w fun e w'=>e=.returned (.int .i64 (if d.off then 4 else 11))∧Below w.heap.size w w':=by
 obtain ⟨w3,hw3⟩:∃ w3,w3=w.alloc (.cells #[.int .i64 n] 3):=⟨_,rfl⟩
 have hb:Below w.heap.size w w3:=by rw [hw3];exact (by repeat (first |with_reducible exact Below.refl _ _ |with_reducible assumption |with_reducible refine Below.drew ?_ |with_reducible refine below_drewN ?_ _ |with_reducible refine Below.alloc ?_ (by simp<;>omega) _ |with_reducible refine Below.setCell ?_ (by simp<;>omega) _))
 have HB:=hid hb
 have c:Calls Tryz.prog 215 #[.pointer (some ⟨p,0,none⟩),.int .i64 f] w3 fun e w'=>e=.returned (.int .i64 (if d.off then 4 else 11))∧w'=w3:=by
  cases ho:d.off
  ·have hk:known f=false:=by rcases hx with h |h;rw [ho]at h;cases h;exact h
   have:=fault_on p P d f _ (h.later hb) ho
   rw [hk]at this;exact this
  ·exact fault_off p P d f _ (h.later hb) ho
 obtain ⟨r,hr,hr0⟩:∃ r:Int,r=(if d.off then 4 else 11)∧(r == 0)=false:=⟨_,rfl,by cases d.off<;>rfl⟩
 rw [←hr]at c ⊢
 have C:=hid c;have HW3:=hid hw3
 clear c hb h hx hr hw3
 go_enter Tryz.func217,Tryz.ntmps217
 go_wp2_with (go_at_call 215;rw [←HW3.out];refine C.out.mono ?_;rintro e wx ⟨rfl,hwx⟩;obtain rfl:=hwx)
 go_ret
 exact ⟨rfl,HB.out⟩
theorem cutd1_0(p:Nat)(P:Parts)(d:DS)(xf xn n:Nat)(w:World)(h:DiskP w p P d)(cf:w.cell? ⟨xf,0,none⟩=some (.pointer (some ⟨p,3,none⟩)))(cn:w.cell? ⟨xn,0,none⟩=some (.int .i64 (n:Int)))(hn:n≤d.f0.now.length) :
  Calls Tryz.prog 268 #[.pointer (some ⟨xf,0,none⟩),.pointer (some ⟨xn,0,none⟩)] w fun e w'=>∃ x,e=.returned (.int .i64 x)∧(x=0∧(∃ P',DiskP w' p P' (d.put 0 (cutF d.f0 n))∧Grew P w P')∧DFrame w w' p P.all):=by
 have cs:=cut_any p 3 P.k0 P.m0 n P.S0 P.a0 d.f0 w h.f0 h.ok.ok0 hn
 have CS:=hid cs;have H:=hid h
 clear h cs
 go_enter Tryz.func268,Tryz.ntmps268
 go_wp2_with (go_at_call 269;refine CS.out.mono ?_;rintro e w2 ⟨rfl,hF2,hfr2⟩;replace hF2:=hid hF2;replace hfr2:=hid hfr2)
 go_ret
 have hfr:=hfr2.out
 have hlen:=cutF_now d.f0 n hn
 have hok:(d.put 0 (cutF d.f0 n)).Ok:=⟨H.out.ok.r1,H.out.ok.r2,by have:=H.out.ok.sum;show (cutF d.f0 n).now.length+d.f1.now.length≤d.room;omega,cutF_ok H.out.ok.ok0 hn,H.out.ok.ok1,H.out.ok.kl,H.out.ok.tn,H.out.ok.lf,H.out.ok.op⟩
 exact ⟨0,rfl,rfl,⟨_,H.out.file0 hF2.out hfr hok,fun k hk=>by rcases hk with (h |h) |h |h;exact Or.inl (Or.inl h);exact Or.inr h.1;exact Or.inl (Or.inr (Or.inl h));exact Or.inl (Or.inr (Or.inr h))⟩,hfr.df.imp (fun _ _ h=>Or.inl h)⟩
theorem cutd_0(p:Nat)(P:Parts)(d:DS)(n:Int)(w:World)(h:DiskP w p P d)(ho:d.off=false)(hop:d.ops<1000000000) :
  Calls Tryz.prog 217 #[.pointer (some ⟨p,0,none⟩),.int .i64 0,.int .i64 n] w fun e w'=>e=.returned (.int .i64 (cutD d 0 n).1)∧(∃ P',DiskP w' p P' (cutD d 0 n).2∧Grew P w P')∧DFrame w w' p P.all:=by
 obtain ⟨w3,hw3⟩:∃ w3,w3=w.alloc (.cells #[.int .i64 n] 3):=⟨_,rfl⟩
 have hb3:Below w.heap.size w w3:=by rw [hw3];exact (by repeat (first |with_reducible exact Below.refl _ _ |with_reducible assumption |with_reducible refine Below.drew ?_ |with_reducible refine below_drewN ?_ _ |with_reducible refine Below.alloc ?_ (by simp<;>omega) _ |with_reducible refine Below.setCell ?_ (by simp<;>omega) _))
 have hpl:=h.f0.plt
 have h3:=h.later hb3
 have cf:=fault_on p P d 0 w3 h3 ho
 rw [show known 0=true from rfl,if_pos rfl]at cf
 have k5:w3.cell? ⟨w.heap.size,0,none⟩=some (.int .i64 n):=by rw [hw3,World.cell?_alloc_at _ _ _ _ rfl];rfl
 have z3:w3.heap.size=w.heap.size+1:=by rw [hw3];simp
 obtain ⟨w4,hw4⟩:∃ w4,w4=w3.alloc (.cells #[.pointer (some ⟨p,3,none⟩)] 257):=⟨_,rfl⟩
 have hb4:Below w3.heap.size w3 w4:=by rw [hw4];exact (Below.refl _ _).alloc (Nat.le_refl _) _
 have h4:=h3.later hb4
 have k5':=keep_old hb4 k5
 have k8:w4.cell? ⟨w3.heap.size,0,none⟩=some (.pointer (some ⟨p,3,none⟩)):=by rw [hw4,World.cell?_alloc_at _ _ _ _ rfl];rfl
 have c3:=h4.f0.c0
 have CF:=hid cf;have H:=hid h;have H4:=hid h4;have HB:=hid (gt hb3 hb4);have HW3:=hid hw3;have HW4:=hid hw4;have Z3:=hid z3
 have hr2:=h.ok.r2;have hsum:=h.ok.sum
 have hfile:d.file 0=d.f0:=rfl
 have K5:=hid k5';have K8:=hid k8
 clear h h3 h4 hb3 hb4 cf z3 hw3 hw4
 obtain ⟨L,hLL⟩:∃ L,L=d.f0.now.length:=⟨_,rfl⟩
 rw [←hLL]at c3
 have hlb:L≤32768:=by omega
 have HLL:=hid hLL
 have hwd:cutD d 0 n=if n<0∨(L:Int)<n then (11,d) else if d.left=1 then (4,crashD (opsD d) d.keep d.torn) else (0,(tickD d).put 0 (cutF d.f0 n.toNat)):=by
  simp only [cutD,ho,hfile,←hLL];rfl
 rw [hwd]
 clear hwd hLL hfile
 by_cases hneg:n<0
 ·rw [if_pos (Or.inl hneg)]
  go_enter Tryz.func217,Tryz.ntmps217
  go_wp2_with (go_at_call 215;rw [←HW3.out];refine CF.out.mono ?_;rintro e wx ⟨rfl,hwx⟩;obtain rfl:=hwx;clear CF)
  rw [←HW4.out]
  go_quiet (fail)
  go_wp2
  go_ret
  exact ⟨rfl,⟨P,H4.out.drawn nq,fun k hk=>Or.inl hk⟩,(DFrame.below HB.out).drawn nq⟩
 ·have hneg':decide (n<0)=false:=by simp;omega
  by_cases hbig:(L:Int)<n
  ·rw [if_pos (Or.inr hbig)]
   go_enter Tryz.func217,Tryz.ntmps217
   go_wp2_with (go_at_call 215;rw [←HW3.out];refine CF.out.mono ?_;rintro e wx ⟨rfl,hwx⟩;obtain rfl:=hwx;clear CF)
   rw [←HW4.out]
   go_quiet (fail)
   go_wp2
   go_ret
   exact ⟨rfl,⟨P,H4.out.drawn nq,fun k hk=>Or.inl hk⟩,(DFrame.below HB.out).drawn nq⟩
  ·have hbig':decide ((L:Int)<n)=false:=by simp;omega
   rw [if_neg (by omega)]
   have hz:w.heap.size≤w4.heap.size:=HB.out.size
   by_cases hl1:d.left=1
   ·rw [if_pos hl1]
    have co:=fun k=>operate_crash p P d (.func (.func 268) #[] #[.pointer (some ⟨w3.heap.size,0,none⟩),.pointer (some ⟨w.heap.size,0,none⟩)]) (w4.drewN k) (H4.out.drawn k) ho hl1 hop
    have CO:=hid co
    clear co
    go_enter Tryz.func217,Tryz.ntmps217
    go_wp2_with (go_at_call 215;rw [←HW3.out];refine CF.out.mono ?_;rintro e wx ⟨rfl,hwx⟩;obtain rfl:=hwx;clear CF)
    rw [←HW4.out]
    go_quiet (fail)
    go_wp2_with (go_at_call 267;refine (CO.out _).mono ?_;rintro e w9 ⟨rfl,⟨P',hd9,hg9⟩,hf9⟩;replace hd9:=hid hd9;replace hg9:=hid hg9;replace hf9:=hid hf9)
    go_ret
    exact ⟨rfl,⟨P',hd9.out,fun k hk=>by rcases hg9.out k hk with h |h;exact Or.inl h;exact Or.inr (Nat.le_trans hz h)⟩,((DFrame.below HB.out).drawn nq).trans (hf9.out.imp (fun _ _ h=>Or.inl h))⟩
   ·rw [if_neg hl1]
    obtain ⟨A,rfl⟩:=Int.eq_ofNat_of_zero_le (show 0≤n by omega)
    rw [Int.toNat_natCast]
    have hAL:A≤d.f0.now.length:=by rw [←HLL.out];omega
    have co:=fun k=>operate_do p P d 268 #[.pointer (some ⟨w3.heap.size,0,none⟩),.pointer (some ⟨w.heap.size,0,none⟩)] (w4.drewN k) (H4.out.drawn k) hl1 hop (enters_of Tryz.func268 (by kernel_rfl) rfl)
     (fun x w'=>x=0∧(∃ P',DiskP w' p P' ((tickD d).put 0 (cutF d.f0 A))∧Grew P w P')∧DFrame w w' p P.all) (fun w1 h1 hf1=>by
      have hz3:w.heap.size+1=w3.heap.size:=Z3.out.symm
      have hfw:DFrame w w1 p P.all:=((DFrame.below HB.out).drawn k).trans (hf1.imp (fun _ _ h=>h.elim))
      have cw:=cutd1_0 p P (tickD d) w3.heap.size w.heap.size A w1 h1
       (hf1.cellAt (w:=w4.drewN k) K8.out (by show w3.heap.size≠p;omega) (fun h=>h)) (hf1.cellAt (w:=w4.drewN k) K5.out (by show w.heap.size≠p;omega) (fun h=>h)) hAL
      refine cw.mono ?_
      rintro e w2 ⟨x,rfl,hx,⟨P',hd,hg⟩,hf⟩
      refine ⟨x,rfl,hx,⟨P',hd,fun k hk=>?_⟩,hfw.trans (hf.imp (fun _ _ h=>Or.inl h))⟩
      rcases hg k hk with h |h
      ·exact Or.inl h
      ·exact Or.inr (Nat.le_trans hfw.size h))
    have CO:=hid co
    clear co
    go_enter Tryz.func217,Tryz.ntmps217
    go_wp2_with (go_at_call 215;rw [←HW3.out];refine CF.out.mono ?_;rintro e wx ⟨rfl,hwx⟩;obtain rfl:=hwx;clear CF)
    rw [←HW4.out]
    go_quiet (fail)
    go_wp2_with (go_at_call 267;refine (CO.out _).mono ?_;rintro e w9 ⟨x,rfl,hx,hd9,hf9⟩;replace hx:=hid hx;replace hd9:=hid hd9;replace hf9:=hid hf9)
    go_ret
    exact ⟨by rw [←hx.out];rfl,hd9.out,hf9.out⟩
theorem cutd1_1(p:Nat)(P:Parts)(d:DS)(xf xn n:Nat)(w:World)(h:DiskP w p P d)(cf:w.cell? ⟨xf,0,none⟩=some (.pointer (some ⟨p,6,none⟩)))(cn:w.cell? ⟨xn,0,none⟩=some (.int .i64 (n:Int)))(hn:n≤d.f1.now.length) :
  Calls Tryz.prog 268 #[.pointer (some ⟨xf,0,none⟩),.pointer (some ⟨xn,0,none⟩)] w fun e w'=>∃ x,e=.returned (.int .i64 x)∧(x=0∧(∃ P',DiskP w' p P' (d.put 1 (cutF d.f1 n))∧Grew P w P')∧DFrame w w' p P.all):=by
 have cs:=cut_any p 6 P.k1 P.m1 n P.S1 P.a1 d.f1 w h.f1 h.ok.ok1 hn
 have CS:=hid cs;have H:=hid h
 clear h cs
 go_enter Tryz.func268,Tryz.ntmps268
 go_wp2_with (go_at_call 269;refine CS.out.mono ?_;rintro e w2 ⟨rfl,hF2,hfr2⟩;replace hF2:=hid hF2;replace hfr2:=hid hfr2)
 go_ret
 have hfr:=hfr2.out
 have hlen:=cutF_now d.f1 n hn
 have hok:(d.put 1 (cutF d.f1 n)).Ok:=⟨H.out.ok.r1,H.out.ok.r2,by have:=H.out.ok.sum;show d.f0.now.length+(cutF d.f1 n).now.length≤d.room;omega,H.out.ok.ok0,cutF_ok H.out.ok.ok1 hn,H.out.ok.kl,H.out.ok.tn,H.out.ok.lf,H.out.ok.op⟩
 exact ⟨0,rfl,rfl,⟨_,H.out.file1 hF2.out hfr hok,fun k hk=>by rcases hk with h |(h |h) |h;exact Or.inl (Or.inl h);exact Or.inl (Or.inr (Or.inl h));exact Or.inr h.1;exact Or.inl (Or.inr (Or.inr h))⟩,hfr.df.imp (fun _ _ h=>Or.inr (Or.inl h))⟩
theorem cutd_1(p:Nat)(P:Parts)(d:DS)(n:Int)(w:World)(h:DiskP w p P d)(ho:d.off=false)(hop:d.ops<1000000000) :
  Calls Tryz.prog 217 #[.pointer (some ⟨p,0,none⟩),.int .i64 1,.int .i64 n] w fun e w'=>e=.returned (.int .i64 (cutD d 1 n).1)∧(∃ P',DiskP w' p P' (cutD d 1 n).2∧Grew P w P')∧DFrame w w' p P.all:=by
 obtain ⟨w3,hw3⟩:∃ w3,w3=w.alloc (.cells #[.int .i64 n] 3):=⟨_,rfl⟩
 have hb3:Below w.heap.size w w3:=by rw [hw3];exact (by repeat (first |with_reducible exact Below.refl _ _ |with_reducible assumption |with_reducible refine Below.drew ?_ |with_reducible refine below_drewN ?_ _ |with_reducible refine Below.alloc ?_ (by simp<;>omega) _ |with_reducible refine Below.setCell ?_ (by simp<;>omega) _))
 have hpl:=h.f0.plt
 have h3:=h.later hb3
 have cf:=fault_on p P d 1 w3 h3 ho
 rw [show known 1=true from rfl,if_pos rfl]at cf
 have k5:w3.cell? ⟨w.heap.size,0,none⟩=some (.int .i64 n):=by rw [hw3,World.cell?_alloc_at _ _ _ _ rfl];rfl
 have z3:w3.heap.size=w.heap.size+1:=by rw [hw3];simp
 obtain ⟨w4,hw4⟩:∃ w4,w4=w3.alloc (.cells #[.pointer (some ⟨p,6,none⟩)] 257):=⟨_,rfl⟩
 have hb4:Below w3.heap.size w3 w4:=by rw [hw4];exact (Below.refl _ _).alloc (Nat.le_refl _) _
 have h4:=h3.later hb4
 have k5':=keep_old hb4 k5
 have k8:w4.cell? ⟨w3.heap.size,0,none⟩=some (.pointer (some ⟨p,6,none⟩)):=by rw [hw4,World.cell?_alloc_at _ _ _ _ rfl];rfl
 have c3:=h4.f1.c0
 have CF:=hid cf;have H:=hid h;have H4:=hid h4;have HB:=hid (gt hb3 hb4);have HW3:=hid hw3;have HW4:=hid hw4;have Z3:=hid z3
 have hr2:=h.ok.r2;have hsum:=h.ok.sum
 have hfile:d.file 1=d.f1:=rfl
 have K5:=hid k5';have K8:=hid k8
 clear h h3 h4 hb3 hb4 cf z3 hw3 hw4
 obtain ⟨L,hLL⟩:∃ L,L=d.f1.now.length:=⟨_,rfl⟩
 rw [←hLL]at c3
 have hlb:L≤32768:=by omega
 have HLL:=hid hLL
 have hwd:cutD d 1 n=if n<0∨(L:Int)<n then (11,d) else if d.left=1 then (4,crashD (opsD d) d.keep d.torn) else (0,(tickD d).put 1 (cutF d.f1 n.toNat)):=by
  simp only [cutD,ho,hfile,←hLL];rfl
 rw [hwd]
 clear hwd hLL hfile
 by_cases hneg:n<0
 ·rw [if_pos (Or.inl hneg)]
  go_enter Tryz.func217,Tryz.ntmps217
  go_wp2_with (go_at_call 215;rw [←HW3.out];refine CF.out.mono ?_;rintro e wx ⟨rfl,hwx⟩;obtain rfl:=hwx;clear CF)
  rw [←HW4.out]
  go_quiet (fail)
  go_wp2
  go_ret
  exact ⟨rfl,⟨P,H4.out.drawn nq,fun k hk=>Or.inl hk⟩,(DFrame.below HB.out).drawn nq⟩
 ·have hneg':decide (n<0)=false:=by simp;omega
  by_cases hbig:(L:Int)<n
  ·rw [if_pos (Or.inr hbig)]
   go_enter Tryz.func217,Tryz.ntmps217
   go_wp2_with (go_at_call 215;rw [←HW3.out];refine CF.out.mono ?_;rintro e wx ⟨rfl,hwx⟩;obtain rfl:=hwx;clear CF)
   rw [←HW4.out]
   go_quiet (fail)
   go_wp2
   go_ret
   exact ⟨rfl,⟨P,H4.out.drawn nq,fun k hk=>Or.inl hk⟩,(DFrame.below HB.out).drawn nq⟩
  ·have hbig':decide ((L:Int)<n)=false:=by simp;omega
   rw [if_neg (by omega)]
   have hz:w.heap.size≤w4.heap.size:=HB.out.size
   by_cases hl1:d.left=1
   ·rw [if_pos hl1]
    have co:=fun k=>operate_crash p P d (.func (.func 268) #[] #[.pointer (some ⟨w3.heap.size,0,none⟩),.pointer (some ⟨w.heap.size,0,none⟩)]) (w4.drewN k) (H4.out.drawn k) ho hl1 hop
    have CO:=hid co
    clear co
    go_enter Tryz.func217,Tryz.ntmps217
    go_wp2_with (go_at_call 215;rw [←HW3.out];refine CF.out.mono ?_;rintro e wx ⟨rfl,hwx⟩;obtain rfl:=hwx;clear CF)
    rw [←HW4.out]
    go_quiet (fail)
    go_wp2_with (go_at_call 267;refine (CO.out _).mono ?_;rintro e w9 ⟨rfl,⟨P',hd9,hg9⟩,hf9⟩;replace hd9:=hid hd9;replace hg9:=hid hg9;replace hf9:=hid hf9)
    go_ret
    exact ⟨rfl,⟨P',hd9.out,fun k hk=>by rcases hg9.out k hk with h |h;exact Or.inl h;exact Or.inr (Nat.le_trans hz h)⟩,((DFrame.below HB.out).drawn nq).trans (hf9.out.imp (fun _ _ h=>Or.inl h))⟩
   ·rw [if_neg hl1]
    obtain ⟨A,rfl⟩:=Int.eq_ofNat_of_zero_le (show 0≤n by omega)
    rw [Int.toNat_natCast]
    have hAL:A≤d.f1.now.length:=by rw [←HLL.out];omega
    have co:=fun k=>operate_do p P d 268 #[.pointer (some ⟨w3.heap.size,0,none⟩),.pointer (some ⟨w.heap.size,0,none⟩)] (w4.drewN k) (H4.out.drawn k) hl1 hop (enters_of Tryz.func268 (by kernel_rfl) rfl)
     (fun x w'=>x=0∧(∃ P',DiskP w' p P' ((tickD d).put 1 (cutF d.f1 A))∧Grew P w P')∧DFrame w w' p P.all) (fun w1 h1 hf1=>by
      have hz3:w.heap.size+1=w3.heap.size:=Z3.out.symm
      have hfw:DFrame w w1 p P.all:=((DFrame.below HB.out).drawn k).trans (hf1.imp (fun _ _ h=>h.elim))
      have cw:=cutd1_1 p P (tickD d) w3.heap.size w.heap.size A w1 h1
       (hf1.cellAt (w:=w4.drewN k) K8.out (by show w3.heap.size≠p;omega) (fun h=>h)) (hf1.cellAt (w:=w4.drewN k) K5.out (by show w.heap.size≠p;omega) (fun h=>h)) hAL
      refine cw.mono ?_
      rintro e w2 ⟨x,rfl,hx,⟨P',hd,hg⟩,hf⟩
      refine ⟨x,rfl,hx,⟨P',hd,fun k hk=>?_⟩,hfw.trans (hf.imp (fun _ _ h=>Or.inl h))⟩
      rcases hg k hk with h |h
      ·exact Or.inl h
      ·exact Or.inr (Nat.le_trans hfw.size h))
    have CO:=hid co
    clear co
    go_enter Tryz.func217,Tryz.ntmps217
    go_wp2_with (go_at_call 215;rw [←HW3.out];refine CF.out.mono ?_;rintro e wx ⟨rfl,hwx⟩;obtain rfl:=hwx;clear CF)
    rw [←HW4.out]
    go_quiet (fail)
    go_wp2_with (go_at_call 267;refine (CO.out _).mono ?_;rintro e w9 ⟨x,rfl,hx,hd9,hf9⟩;replace hx:=hid hx;replace hd9:=hid hd9;replace hf9:=hid hf9)
    go_ret
    exact ⟨by rw [←hx.out];rfl,hd9.out,hf9.out⟩
theorem cut_call(p:Nat)(P:Parts)(d:DS)(f n:Int)(w:World)(h:DiskP w p P d)(hop:d.ops<1000000000) :
  Calls Tryz.prog 217 #[.pointer (some ⟨p,0,none⟩),.int .i64 f,.int .i64 n] w fun e w'=>e=.returned (.int .i64 (cutD d f n).1)∧(∃ P',DiskP w' p P' (cutD d f n).2∧Grew P w P')∧DFrame w w' p P.all:=by
 by_cases hx:d.off=true∨known f=false
 ·have e:cutD d f n=(if d.off then 4 else 11,d):=by
   unfold cutD
   rcases hx with h |h
   ·simp [h]
   ·cases d.off<;>simp [h]
  rw [e]
  refine (cut_off p P d f n w h hx).mono ?_
  rintro e w' ⟨rfl,hb'⟩
  exact ⟨rfl,⟨P,h.later hb',fun k hk=>Or.inl hk⟩,DFrame.below hb'⟩
 ·have ho:d.off=false:=by cases h':d.off;rfl;exact absurd (Or.inl h') hx
  have hk:known f=true:=by cases h':known f;exact absurd (Or.inr h') hx;rfl
  rcases known_cases hk with rfl |rfl
  ·exact cutd_0 p P d n w h ho hop
  ·exact cutd_1 p P d n w h ho hop
end Dsk
namespace Dsk
open Go.RowKit Go.Maps
end Dsk
end Go.Proofs.YtfcikkechphmaaaGreatDoor
