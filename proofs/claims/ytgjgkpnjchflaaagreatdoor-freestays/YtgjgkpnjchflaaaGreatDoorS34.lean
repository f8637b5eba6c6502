/- What octet.Get returns; no statement of the seat is proved here. -/
import Derived.Test.YtgjgkpnjchflaaaGreatDoorS19
import Derived.OneCell
import Derived.Test.YtgjgkpnjchflaaaGreatDoorS16
import Derived.Test.YtgjgkpnjchflaaaGreatDoorS11
import Derived.Test.YtgjgkpnjchflaaaGreatDoorS17
import Derived.Deep.DeepCutAuto
import Derived.Test.YtgjgkpnjchflaaaGreatDoorS22
import Derived.Laws.EntriesVeiled
import Derived.Test.YtgjgkpnjchflaaaGreatDoorS20
import Derived.Lib.BufferWrite
import Derived.Test.YtgjgkpnjchflaaaGreatDoorS27
set_option maxHeartbeats 16000000
set_option maxRecDepth 20000
namespace Go.Proofs.YtgjgkpnjchflaaaGreatDoor
namespace Jrn
open Go.RowKit
def Tell(w:World)(pa pb:Nat)(ao:Option Addr)(n cap k:Nat)(W:World):Prop:=
 W.heap[pa]? = some (.cells #[.int .i64 (k:Int)] 3 (0,0))∧W.heap[pb]? = some (.cells #[.slice ao n cap] 79 (0,0))∧w.heap.size≤pa∧Below w.heap.size w W
theorem teller_any(ao:Option Addr)(n cap:Nat)(w:World):Calls Tryz.prog 142 #[.slice ao n cap] w fun e w'=>e=.returned (.func (.func 175) #[] #[.pointer (some ⟨w.heap.size+1,0,none⟩),.pointer (some ⟨w.heap.size,0,none⟩)])∧Tell w (w.heap.size+1) w.heap.size ao n cap 0 w':=by
 go_enter Tryz.func142,Tryz.ntmps142
 go_wp2
 go_ret
 refine ⟨rfl,?_,?_,by omega,Below.alloc (Below.alloc (Below.refl _ _) (Nat.le_refl _) _) (by simp) _⟩
 ·have:=heap_alloc_new (w.alloc (Obj.cells #[Value.slice ao n cap] 79)) (Obj.cells #[Value.int IntKind.i64 0] 3)
  simpa using this
 ·rw [Below.heap_alloc _ _ _ (by simp)]
  exact heap_alloc_new w _
theorem tell_more(w:World)(pa pb:Nat)(ao:Option Addr)(n cap:Nat)(xs:List Nat)(h:Rd w ao n cap xs)(hn:n≤9223372036854775807)(k:Nat)(W:World)(hT:Tell w pa pb ao n cap k W)(hk:k<n) :
  Calls Tryz.prog 175 #[.pointer (some ⟨pa,0,none⟩),.pointer (some ⟨pb,0,none⟩)] W fun e w'=>e=.returned (.tuple #[.int .u8 ((xs.getD k 0:Nat):Int),.bool true])∧Tell w pa pb ao n cap (k+1) w':=by
 obtain ⟨b,off,rfl,hc⟩:=h.2.2.2 (by omega)
 have hck:=hc k hk
 have hbl:b<w.heap.size:=lt_cell (w:=w) hck
 obtain ⟨ha,hb,hp,hB⟩:=hT
 have ca:=cell_of_one ha
 have cb:=cell_of_one hb
 have fa:=free_of_one ha
 have hne:¬b=pa:=by omega
 have hne2:¬pb=pa:=by rintro rfl;rw [ha]at hb;simp at hb
 have hcW:=keep_old hB hck
 generalize ((xs.getD k 0:Nat):Int)=X at *
 have hk':((k:Int) == (n:Int))=false:=by simp;omega
 have ha':=hid ha
 have hb':=hid hb
 have hB':=hid hB
 clear hc h hck ha hb hB
 go_enter Tryz.func175,Tryz.ntmps175
 go_wp2
 go_ret2
 refine ⟨rfl,?_,?_,hp,Below.setCell hB'.out hp _⟩
 ·rw [one_setCell ha'.out];simp
 ·rw [heap_setCell_other W ⟨pa,0,none⟩ pb _ (by simpa using hne2)]
  exact hb'.out
theorem gather_tell(pa pb:Nat)(xs:List Nat)(hx:∀ x∈xs,x<256)(s:Nat)(l:Bool)(hs:s≤xs.length)(h8:s≤8)(St:Nat→World→Prop)
  (hmore:∀ k W,St k W→k<xs.length→Calls Tryz.prog 175 #[.pointer (some ⟨pa,0,none⟩),.pointer (some ⟨pb,0,none⟩)] W fun e w'=>e=.returned (.tuple #[.int .u8 ((xs.getD k 0:Nat):Int),.bool true])∧St (k+1) w')
  (w:World) (h0:St 0 w) :
  Calls Tryz.prog 141 #[.func (.func 175) #[] #[.pointer (some ⟨pa,0,none⟩),.pointer (some ⟨pb,0,none⟩)],.int .i64 s,.bool l] w fun e w'=>
   e=.returned (.int .u64 (psum xs s l s:Nat))∧St s w':=by
 have hmore':=hid hmore
 have hx':=hid hx
 have h0':=hid h0
 clear hmore hx h0
 go_enter Tryz.func141,Tryz.ntmps141
 go_wp2
 go_loopw [7,12] (fun a c W=>∃ (i:Nat),i≤s∧a=.int .u64 (psum xs s l i:Nat)∧c=.int .i64 (i:Int)∧St i W) (fun _ c _=>s - (intOf c).toNat)
 case atStart=>exact ⟨0,by omega,rfl,rfl,h0'.out⟩
 case round=>
  obtain ⟨i,hi,rfl,rfl,hS⟩:=hrel
  have hS':=hid hS
  clear hS
  by_cases his:i<s
  ·have c:=hid (hmore'.out i wr hS'.out (by omega))
   obtain ⟨sh,q,csh,_,hshl,_⟩:=shift_named (xs.getD i 0) i s l his h8
   have hor:=bits_or_u64_nat (psum xs s l i) (xs.getD i 0*2 ^ (8*place l s i)) (psum_lt xs s l hx'.out hs h8 i (by omega)) (getD_term_lt xs s l hx'.out hs h8 i his)
   rw [psum_or xs s l hx'.out hs i his]at hor
   have hw:IntKind.u64.wrap ((xs.getD i 0*2 ^ (8*place l s i):Nat):Int)=((xs.getD i 0*2 ^ (8*place l s i):Nat):Int):=by
    rw [IntKind.wrap_u64];have:=getD_term_lt xs s l hx'.out hs h8 i his;omega
   rw [hw]at hshl
   have hX2:=getD_lt hx'.out i (by omega)
   have csh':=hid csh
   clear hw csh
   generalize xs.getD i 0*2 ^ (8*place l s i)=t at *
   obtain ⟨P1,hP1⟩:∃ P,P=psum xs s l (i+1):=⟨_,rfl⟩
   rw [←hP1]at hor
   generalize psum xs s l i=P0 at *
   generalize xs.getD i 0=X at *
   have hP1':=hid hP1
   clear hP1
   go_wp2_with (first |(go_at_call 175;refine c.out.mono ?_;rintro e w1 ⟨rfl,hS1⟩) |(go_at_call 160;refine (csh'.out _).mono ?_;rintro e w2 ⟨rfl,hw2⟩;obtain rfl:=hw2.symm))
   exact ⟨⟨i+1,by omega,by rw [hP1'.out],by go_num,hS1⟩,by simp [intOf];omega⟩
  ·obtain rfl:i=s:=by omega
   go_wp2
   go_ret
   exact ⟨rfl,hS'.out⟩
theorem get_any(ao:Option Addr)(n cap:Nat)(xs:List Nat)(s:Int)(l:Bool)(w:World)(h:Rd w ao n cap xs)(hx:∀ x∈xs,x<256)(hn:n≤9223372036854775807) :
  Calls Tryz.prog 101 #[.slice ao n cap,.int .i64 s,.bool l] w fun e w'=>e=.returned (.tuple #[.int .u64 ((getV xs s l).1:Nat),.bool (getV xs s l).2])∧Below w.heap.size w w':=by
 have hl:=h.1
 subst hl
 have c27:=hid (sized_any s)
 have ct:=hid (teller_any ao xs.length cap w)
 by_cases hs:1≤s∧s≤8∧s≤(xs.length:Int)
 ·obtain ⟨k,rfl⟩:∃ k:Nat,s=(k:Int):=⟨s.toNat,by omega⟩
  have ca:=hid fun w1 h0=>gather_tell (w.heap.size+1) w.heap.size xs hx k l (by omega) (by omega) (fun k W=>Tell w (w.heap.size+1) w.heap.size ao xs.length cap k W)
   (fun k W hT hk=>tell_more w _ _ ao xs.length cap xs h hn k W hT hk) w1 h0
  rw [show (decide ((1:Int)≤(k:Int))&&decide ((k:Int)≤8))=true by simp;omega]at c27
  unfold getV
  rw [if_pos hs,Int.toNat_natCast]
  simp only
  generalize psum xs k l k=R at *
  generalize w.heap.size+1=p1 at *
  have hle:¬(xs.length:Int)<(k:Int):=by omega
  clear hx h hn hs
  go_enter Tryz.func101,Tryz.ntmps101
  go_wp2_with (first |(go_at_call 140;refine (c27.out _).mono ?_;rintro e w3 ⟨rfl,hw3⟩;obtain rfl:=hw3.symm) |(go_at_call 142;refine ct.out.mono ?_;rintro e w1 ⟨rfl,hT⟩;replace hT:=hid hT) |(go_at_call 141;refine (ca.out _ hT.out).mono ?_;rintro e w2 ⟨rfl,hT2⟩;replace hT2:=hid hT2))
  go_ret2
  exact ⟨rfl,hT2.out.2.2.2⟩
 ·unfold getV
  rw [if_neg hs]
  simp only
  by_cases hz:1≤s∧s≤8
  ·rw [show (decide (1≤s)&&decide (s≤8))=true by simp;omega]at c27
   have hle:(xs.length:Int)<s:=by omega
   clear hx h hn hs
   go_enter Tryz.func101,Tryz.ntmps101
   go_wp2_with (go_at_call 140;refine (c27.out _).mono ?_;rintro e w3 ⟨rfl,hw3⟩;obtain rfl:=hw3.symm)
   go_ret2
   exact ⟨rfl,Below.refl _ _⟩
  ·rw [show (decide (1≤s)&&decide (s≤8))=false by simp;omega]at c27
   clear hx h hn hs
   go_enter Tryz.func101,Tryz.ntmps101
   go_wp2_with (go_at_call 140;refine (c27.out _).mono ?_;rintro e w3 ⟨rfl,hw3⟩;obtain rfl:=hw3.symm)
   go_ret2
   exact ⟨rfl,Below.refl _ _⟩
end Jrn
namespace Jrn
open Go.RowKit
def Pv2(n:Int)(b o cap:Nat):Value:=.agg #[.int .i64 n,.slice (some ⟨b,o,none⟩) 512 cap]
theorem Rd.from{w:World}{b o n cap:Nat}{xs:List Nat}(h:Rd w (some ⟨b,o,none⟩) n cap xs){i:Nat}(hi:i<n):Rd w (some ⟨b,o+i,none⟩) (n - i) (cap - i) (xs.drop i):=by
 obtain ⟨hl,hc,hno,hat⟩:=h
 refine ⟨by rw [List.length_drop,hl],by omega,fun h=>(by cases h),fun hp=>⟨b,o+i,rfl,fun t ht=>?_⟩⟩
 obtain ⟨b',off',e,hcell⟩:=hat (by omega)
 simp only [Option.some.injEq,Addr.mk.injEq,and_true]at e
 obtain ⟨rfl,rfl⟩:=e
 have:=hcell (i+t) (by omega)
 rw [show o+i+t=o+(i+t) by omega,this]
 simp [List.getD,List.getElem?_drop]
def numAt(xs:List Nat)(i s:Nat):Nat:=psum (xs.drop i) s false s
theorem numAt_getV(xs:List Nat)(i s:Nat)(h1:1≤s)(h8:s≤8)(hs:i+s≤xs.length):getV (xs.drop i) (s:Int) false=(numAt xs i s,true):=by
 unfold getV numAt
 rw [if_pos ⟨by omega,by omega,by rw [List.length_drop];omega⟩,Int.toNat_natCast]
theorem tell_any(num:Int)(b o cap:Nat)(xs:List Nat)(i s:Nat)(w:World)(h:Rd w (some ⟨b,o,none⟩) 512 cap xs)(hx:∀ x∈xs,x<256)(h1:1≤s)(h8:s≤8)(hs:i+s≤512) :
  Calls Tryz.prog 69 #[Pv2 num b o cap,.int .i64 (i:Int),.int .i64 (s:Int)] w fun e w'=>e=.returned (.int .i64 (wrap64 (numAt xs i s:Int)))∧Below w.heap.size w w':=by
 have hl:=h.1
 have hcp:=h.2.1
 have hb2:Below w.heap.size w (w.alloc (.cells #[.int .i64 num,.slice (some ⟨b,o,none⟩) 512 cap] 81)):=Below.alloc (Below.refl _ _) (Nat.le_refl _) _
 have cg:=hid (fun w1 (hb1:Below w.heap.size w w1)=>get_any (some ⟨b,o+i,none⟩) (512 - i) (cap - i) (xs.drop i) (s:Int) false w1 ((h.from (by omega)).keep hb1) (fun x hx'=>hx x (List.mem_of_mem_drop hx')) (by omega))
 rw [numAt_getV xs i s h1 h8 (by omega)]at cg
 have k1:¬(512:Int)<(i:Int):=by omega
 have k2:((512:Int) - (i:Int))=((512 - i:Nat):Int):=by omega
 have k3:((cap:Int) - (i:Int))=((cap - i:Nat):Int):=by omega
 have HB2:=hid hb2
 clear h hx hb2
 generalize numAt xs i s=R at *
 unfold Pv2
 go_enter Tryz.func69,Tryz.ntmps69
 go_wp2_with (go_at_call 101;refine (cg.out _ HB2.out).mono ?_;rintro e w2 ⟨rfl,hT2⟩;replace hT2:=hid hT2)
 go_ret
 exact ⟨rfl,gt HB2.out hT2.out⟩
theorem numAt_lt(xs:List Nat)(i s:Nat)(hx:∀ x∈xs,x<256)(hs:i+s≤xs.length):numAt xs i s<2 ^ (8*s):=by
 unfold numAt
 obtain ⟨q,hq,e⟩:=psum_big (xs.drop i) s (fun x h=>hx x (List.mem_of_mem_drop h)) (by rw [List.length_drop];omega) s (Nat.le_refl _)
 rw [e];simpa using hq
theorem wrap_small(n:Nat)(h:n<9223372036854775808):wrap64 (n:Int)=(n:Int):=by
 unfold wrap64;omega
theorem tell4(num:Int)(b o cap:Nat)(xs:List Nat)(i:Nat)(w:World)(h:Rd w (some ⟨b,o,none⟩) 512 cap xs)(hx:∀ x∈xs,x<256)(hs:i+4≤512) :
  Calls Tryz.prog 69 #[Pv2 num b o cap,.int .i64 (i:Int),.int .i64 4] w fun e w'=>e=.returned (.int .i64 (numAt xs i 4:Int))∧Below w.heap.size w w':=by
 have:=tell_any num b o cap xs i 4 w h hx (by omega) (by omega) hs
 rw [wrap_small _ (Nat.lt_of_lt_of_le (numAt_lt xs i 4 hx (by rw [h.1];omega)) (by decide))]at this
 exact this
theorem first_any(num:Int)(b o cap:Nat)(xs:List Nat)(w:World)(h:Rd w (some ⟨b,o,none⟩) 512 cap xs)(hx:∀ x∈xs,x<256) :
  Calls Tryz.prog 64 #[Pv2 num b o cap] w fun e w'=>e=.returned (.int .i64 (numAt xs 8 4:Int))∧Below w.heap.size w w':=by
 have HB:=hid (show Below w.heap.size w (w.alloc (.cells #[.int .i64 num,.slice (some ⟨b,o,none⟩) 512 cap] 83)) from Below.alloc (Below.refl _ _) (Nat.le_refl _) _)
 have c:=hid (tell4 num b o cap xs 8 _ (h.keep HB.out) hx (by omega))
 clear h hx
 generalize numAt xs 8 4=R at *
 unfold Pv2 at *
 go_enter Tryz.func64,Tryz.ntmps64
 go_wp2_with (go_at_call 69;refine c.out.mono ?_;rintro e w2 ⟨rfl,hT2⟩;replace hT2:=hid hT2)
 go_ret
 exact ⟨rfl,gt HB.out hT2.out⟩
theorem count_any(num:Int)(b o cap:Nat)(xs:List Nat)(w:World)(h:Rd w (some ⟨b,o,none⟩) 512 cap xs)(hx:∀ x∈xs,x<256) :
  Calls Tryz.prog 33 #[Pv2 num b o cap] w fun e w'=>e=.returned (.int .i64 (numAt xs 12 4:Int))∧Below w.heap.size w w':=by
 have HB:=hid (show Below w.heap.size w (w.alloc (.cells #[.int .i64 num,.slice (some ⟨b,o,none⟩) 512 cap] 83)) from Below.alloc (Below.refl _ _) (Nat.le_refl _) _)
 have c:=hid (tell4 num b o cap xs 12 _ (h.keep HB.out) hx (by omega))
 clear h hx
 generalize numAt xs 12 4=R at *
 unfold Pv2 at *
 go_enter Tryz.func33,Tryz.ntmps33
 go_wp2_with (go_at_call 69;refine c.out.mono ?_;rintro e w2 ⟨rfl,hT2⟩;replace hT2:=hid hT2)
 go_ret
 exact ⟨rfl,gt HB.out hT2.out⟩
theorem size_any(num:Int)(b o cap:Nat)(xs:List Nat)(w:World)(h:Rd w (some ⟨b,o,none⟩) 512 cap xs)(hx:∀ x∈xs,x<256) :
  Calls Tryz.prog 67 #[Pv2 num b o cap] w fun e w'=>e=.returned (.int .i64 (numAt xs 4 4:Int))∧Below w.heap.size w w':=by
 have HB:=hid (show Below w.heap.size w (w.alloc (.cells #[.int .i64 num,.slice (some ⟨b,o,none⟩) 512 cap] 118)) from Below.alloc (Below.refl _ _) (Nat.le_refl _) _)
 have c:=hid (tell4 num b o cap xs 4 _ (h.keep HB.out) hx (by omega))
 clear h hx
 generalize numAt xs 4 4=R at *
 unfold Pv2 at *
 go_enter Tryz.func67,Tryz.ntmps67
 go_wp2_with (go_at_call 69;refine c.out.mono ?_;rintro e w2 ⟨rfl,hT2⟩;replace hT2:=hid hT2)
 go_ret
 exact ⟨rfl,gt HB.out hT2.out⟩
theorem next_any(num:Int)(b o cap:Nat)(xs:List Nat)(w:World)(h:Rd w (some ⟨b,o,none⟩) 512 cap xs)(hx:∀ x∈xs,x<256) :
  Calls Tryz.prog 68 #[Pv2 num b o cap] w fun e w'=>e=.returned (.int .i64 (numAt xs 0 4:Int))∧Below w.heap.size w w':=by
 have HB:=hid (show Below w.heap.size w (w.alloc (.cells #[.int .i64 num,.slice (some ⟨b,o,none⟩) 512 cap] 118)) from Below.alloc (Below.refl _ _) (Nat.le_refl _) _)
 have c:=hid (tell4 num b o cap xs 0 _ (h.keep HB.out) hx (by omega))
 clear h hx
 generalize numAt xs 0 4=R at *
 unfold Pv2 at *
 go_enter Tryz.func68,Tryz.ntmps68
 go_wp2_with (go_at_call 69;refine c.out.mono ?_;rintro e w2 ⟨rfl,hT2⟩;replace hT2:=hid hT2)
 go_ret
 exact ⟨rfl,gt HB.out hT2.out⟩
end Jrn
namespace Jrn
open Go.RowKit
open Cch (Fr wpAnyK wpAnyK_done wp_region_K step_copy_row)
def putAt(xs:List Nat)(i:Nat)(ys:List Nat):List Nat:=xs.take i++ys++xs.drop (i+ys.length)
theorem putAt_length(xs:List Nat)(i:Nat)(ys:List Nat)(h:i+ys.length≤xs.length):(putAt xs i ys).length=xs.length:=by
 simp [putAt];omega
def Row5(w:World)(B g cap:Nat)(xs:List Nat):Prop:=w.ownsRow B 5 1 (.slice (some ⟨g,0,none⟩) 512 cap) 512 (bs xs)
variable {xs:List Nat} {B g:Nat} {w:World}
theorem Row5.rd{cap:Nat}(h:Row5 w B g cap xs):Rd w (some ⟨g,0,none⟩) 512 cap xs:=rd_own h
theorem Row5.len{cap:Nat}(h:Row5 w B g cap xs):xs.length=512:=h.rd.1
theorem Row5.cap{cap:Nat}(h:Row5 w B g cap xs):512≤cap:=h.rd.2.1
theorem Row5.parts{cap:Nat}(h:Row5 w B g cap xs):B≤g∧∃ cur:Array Value,w.heap[g]? = some (.cells cur 5 (0,0))∧cur.size=cap∧cap≤9223372036854775807∧cur.toList.take 512=bs xs:=by
 rcases h.2 with ⟨h',_⟩ | ⟨g',cap',cur,h',hb,hg,hnc,hm,hsz,ht⟩
 ·cases h'
 simp only [Value.slice.injEq,Option.some.injEq,Addr.mk.injEq,and_true,true_and]at h'
 obtain ⟨rfl,rfl⟩:=h'
 exact ⟨hb,cur,hg,by simpa using hsz,hm,by simpa using ht⟩
theorem Row5.lt{cap:Nat}(h:Row5 w B g cap xs):g<w.heap.size:=by
 obtain ⟨_,cur,hg,_⟩:=h.parts
 exact (Array.getElem?_eq_some_iff.1 hg).1
variable {cur:List Value}
theorem Row5.of{cap:Nat}(hB:B≤g)(hg:w.heap[g]? = some (.cells cur.toArray 5 (0,0)))(hc:cur.length=cap)(hm:cap≤9223372036854775807)(hx:cur.take 512=bs xs)(hl:xs.length=512)(h5:512≤cap):Row5 w B g cap xs:=own_of_row hB hg hc hm hx hl h5
theorem Row5.fr{E:Nat→Prop}{w':World}{cap:Nat}(h:Row5 w B g cap xs)(hf:Fr E w w')(hE:¬E g):Row5 w' B g cap xs:=by
 obtain ⟨hB,cur,hg,hs,hm,ht⟩:=h.parts
 refine Row5.of (cur:=cur.toList) hB ?_ (by simpa using hs) hm ht h.len h.cap
 rw [hf.blk g h.lt hE,hg]
theorem Row5.base{B' cap:Nat}(h:Row5 w B g cap xs)(hB:B'≤B):Row5 w B' g cap xs:=own_base h hB
theorem splice_take{ys:List Nat}{i:Nat}(h:cur.take 512=bs xs)(hl:xs.length=512)(hi:i+ys.length≤512)(_hc:512≤cur.length):(cur.take i++(bs ys++cur.drop (i+(bs ys).length))).take 512=bs (putAt xs i ys):=by
 have e:cur=bs xs++cur.drop 512:=by rw [←h,List.take_append_drop]
 have hbl:(bs ys).length=ys.length:=bs_length ys
 have hbx:(bs xs).length=512:=by rw [bs_length,hl]
 rw [hbl,putAt,bs_append,bs_append]
 have e1:cur.take i=bs (xs.take i):=by
  rw [e,List.take_append_of_le_length (by omega)];simp [bs]
 have e2:cur.drop (i+ys.length)=bs (xs.drop (i+ys.length))++cur.drop 512:=by
  conv=>lhs;rw [e]
  rw [List.drop_append_of_le_length (by omega)];simp [bs]
 rw [e1,e2,←List.append_assoc,←List.append_assoc]
 refine List.take_left' ?_
 simp [bs_length,hl];omega
theorem write_any(num:Int)(B g cap:Nat)(xs:List Nat)(i s v:Nat)(n:Int)(w:World)(h:Row5 w B g cap xs)(h1:1≤s)(h8:s≤8)(hs:i+s≤512)(hn:IntKind.u64.wrap n=(v:Int)) :
  Calls Tryz.prog 87 #[Pv2 num g 0 cap,.int .i64 (i:Int),.int .i64 (s:Int),.int .i64 n] w fun e w'=>e=.returned (.tuple #[])∧Row5 w' B g cap (putAt xs i (putN v s false))∧Fr (fun k=>k=g) w w':=by
 have hcp:=h.cap
 have hgl:=h.lt
 have k0:(i:Int)≤512:=by omega
 have hne:¬cap=i:=by omega
 have H:=hid h;have HG:=hid hgl
 have hw0:∃ w0,w0=w.alloc (.cells #[.int .i64 num,.slice (some ⟨g,0,none⟩) 512 cap] 81):=⟨_,rfl⟩
 obtain ⟨w0,hw0⟩:=hw0
 have c1:w0.cell? ⟨w.heap.size,1,none⟩=some (.slice (some ⟨g,0,none⟩) 512 cap):=by rw [hw0,World.cell?_alloc_new];rfl
 have B0:=hid (show Below w.heap.size w w0 by rw [hw0];exact Below.alloc (Below.refl _ _) (Nat.le_refl _) _)
 have HL:=hid (show w.heap.size<w0.heap.size by rw [hw0];simp)
 have C1:=hid c1
 clear h hgl
 unfold Pv2
 go_enter Tryz.func87,Tryz.ntmps87
 go_upto_region 1 with fail
 rw [←hw0]
 clear hw0
 refine wp_region_K (S:=fun W=>W.cell? ⟨w.heap.size,1,none⟩=some (.slice (some ⟨g,0,none⟩) 512 cap)) (fun _=>false) (by kernel_rfl) C1.out (fun hHeld=>?_)
 refine gkp 0 ?_
 refine gkt 1 ?_
 refine gkp 2 ?_
 refine gkp 3 ?_
 refine gkp 4 ?_
 refine gkp 5 ?_
 refine gkp 6 ?_
 refine gk1 7 (fun K hK=>?_)
 go_simp
 go_at_call 114;refine (put_any none 0 0 [] v (s:Int) s false w0.drew (Rd.nil _) (by omega) h8 (by omega)).mono ?_;rintro e w4 ⟨rfl,ho4,hb4⟩;have O4:=hid ho4;have B4:=hid (show Below w0.heap.size w0 w4 from undrew hb4);have hR:w4.cell? ⟨w.heap.size,1,none⟩=some (.slice (some ⟨g,0,none⟩) 512 cap):=keep_old B4.out C1.out;clear ho4 hb4
 refine hK.out _ _ hR (fun hHeld=>?_)
 clear hK K
 (try simp only [Act.put,sA,sZ,sS])
 refine gk1 8 (fun K hK=>?_)
 have R4:=H.out.fr (E:=fun _=>False) (w':=w4) (Fr.of_below (gt B0.out B4.out)) (fun h=>h)
 obtain ⟨hB,cur,hcur,hcs,hcm,hct⟩:=R4.parts
 have hpl:(putN v s false).length=s:=putN_length v s false
 have hrd:=rd_own O4.out
 rw [List.nil_append,Nat.zero_add]at hrd
 have hbl:(bs (putN v s false)).length=s:=by rw [bs_length,hpl]
 have hcl:cur.toList.length=cap:=by simpa using hcs
 refine step_copy_row rfl (.tmp 11) (.tmp 15) 79 79 rfl 5 Tryz.underlying79 (by kernel_rfl) g i (512 - i) (cap - i) ⟨w0.drew.heap.size,0,none⟩ (0+s) (0+s) rfl rfl cur 5 hcur (bs (putN v s false)) (by rw [hbl];show s=min (0+s) (512 - i);omega) ?_ (by rw [hbl,hcs];omega) (bs_one _) ?_
 ·intro j u hu
  obtain ⟨hj,rfl⟩:=bs_get' _ j u hu
  obtain ⟨b,o2,e,hc⟩:=hrd.2.2.2 (by omega)
  rw [Addr.add_lit]
  simp only [Option.some.injEq,Addr.mk.injEq,and_true]at e
  obtain ⟨rfl,rfl⟩:=e
  exact hc j (by omega)
 obtain ⟨w5,hw5⟩:∃ w5,w5=w4.setRow g (cur.toList.take i++(bs (putN v s false)++cur.toList.drop (i+(bs (putN v s false)).length))).toArray:=⟨_,rfl⟩
 have F5:Fr (fun k=>k=g) w4 w5:=by rw [hw5];exact ⟨rfl,rfl,rfl,by simp,fun k _ hk=>setRow_other _ _ _ _ hk⟩
 have R5:Row5 w5 B g cap (putAt xs i (putN v s false)):=by
  refine Row5.of (cur:=cur.toList.take i++(bs (putN v s false)++cur.toList.drop (i+(bs (putN v s false)).length))) hB ?_ ?_ hcm ?_ ?_ hcp
  ·rw [hw5];exact setRow_heap _ _ _ _ _ _ hcur
  ·rw [List.length_append,List.length_append,List.length_take,List.length_drop,hbl,hcl];omega
  ·exact splice_take hct R4.len (by rw [hpl];exact hs) (by omega)
  ·rw [putAt_length _ _ _ (by rw [hpl,R4.len];exact hs),R4.len]
 have hR:w5.cell? ⟨w.heap.size,1,none⟩=some (.slice (some ⟨g,0,none⟩) 512 cap):=(World.cell?_of_block (F5.blk w.heap.size (Nat.lt_of_lt_of_le HL.out B4.out.size) (fun e=>by have:=HG.out;omega))).trans hR
 rw [←hw5]
 have HF:=hid ((Fr.of_below (S:=fun k=>k=g) (gt B0.out B4.out)).trans F5 (fun _ _ h=>h));have HR5:=hid R5
 clear hw5 F5 R5 R4 hcur hct hcs hcm hcl hbl hrd hpl
 refine hK.out _ _ hR (fun hHeld=>?_)
 clear hK K
 (try simp only [Act.put,sA,sZ,sS])
 refine wpAnyK_done (by kernel_rfl) ?_ _
 clear hHeld hR
 go_wp2
 go_end0
 exact ⟨rfl,HR5.out,HF.out⟩
end Jrn
namespace Jrn
open Go.RowKit
open Cch (Fr)
variable {fn:Func}
theorem results_cell1{p:Tmp}{ty:TypeId}(h:fn.results = #[.cell p ty])(tmps:Array Value)(P:Program)(w:World) :
  (results fn tmps).run P w=((asAddr (tmps.getD p undef)).run P w).andThen fun a w₁=>(loadVar ty a).run P w₁:=by
 simp only [results,h]
 simp [Sem.run_bind,Result.andThen]
theorem ret_pg{a:Tmp}{t:TypeId}(h:fn.results = #[.cell a t])(ha:∀ W,(isAgg t).run Tryz.prog W=.ok true W)(hs:∀ W,(Go.sizeOf t).run Tryz.prog W=.ok 2 W){tmps:Array Value}{W:World}{q:Nat}{p:Int}{ao:Option Addr}{n cap:Nat}
  (hp:tmps.getD a undef=.pointer (some ⟨q,0,none⟩)) (hb:RB t W q p ao n cap):(results fn tmps).run Tryz.prog W=.ok (.agg #[.int .i64 p,.slice ao n cap]) W:=by
 rw [results_cell1 h,hp]
 simp [asAddr,load_rec ha hs hb]
def nul:List Nat:=List.replicate 512 0
theorem make512(w:World):(Instr.makeSlice 79 (.int .i64 512) (.int .i64 512)).run Tryz.prog w=.ok (.slice (some ⟨w.heap.size,0,none⟩) 512 512) (w.alloc (.cells (Array.replicate 512 (.int .u8 0)) 5)):=make_lit 512 512 rfl (by omega) w
theorem blank_any(n:Int)(w:World):Calls Tryz.prog 72 #[.int .i64 n] w fun e w'=>∃ g,e=.returned (Pv2 n g 0 512)∧w.heap.size≤g∧Row5 w' w.heap.size g 512 nul∧Below w.heap.size w w':=by
 obtain ⟨NN,hNN⟩:∃ NN,NN=Array.replicate 512 (Value.int .u8 0):=⟨_,rfl⟩
 have mk:∀ W,(Instr.makeSlice 79 (.int .i64 512) (.int .i64 512)).run Tryz.prog W=.ok (.slice (some ⟨W.heap.size,0,none⟩) 512 512) (W.alloc (.cells NN 5)):=fun W=>by rw [hNN];exact make512 W
 have HN:=hid hNN
 clear hNN
 unfold Pv2
 go_enter Tryz.func72,Tryz.ntmps72
 go_wp2
 refine bodyPost_ret (ret_pg rfl Tryz.isAgg81 Tryz.sizeOf81 rfl (((RB.new 81 w n (some ⟨w.heap.size+1,0,none⟩) 512 512)).keep (Below.alloc (Below.refl _ _) (Nat.le_refl _) _))) rfl ?_
 refine ⟨w.heap.size+1,rfl,by omega,?_,Below.alloc (Below.alloc (Below.refl _ _) (Nat.le_refl _) _) (by simp) _⟩
 have:=own_zeros (w.alloc (.cells #[.int .i64 n,.slice (some ⟨w.heap.size+1,0,none⟩) 512 512] 81)) 512 (by omega)
 rw [←HN.out]at this
 have e:(w.alloc (.cells #[.int .i64 n,.slice (some ⟨w.heap.size+1,0,none⟩) 512 512] 81)).heap.size=w.heap.size+1:=by simp
 rw [e]at this
 exact own_base this (by omega)
theorem fr_row{S:Nat→Prop}{w w1 w2:World}(h:Below w.heap.size w w1)(k:Fr S w1 w2):Fr S w w2:=(Fr.of_below h).trans k (fun _ _ h=>h)
theorem lead_any(num:Int)(B g cap:Nat)(xs:List Nat)(f c:Nat)(w:World)(h:Row5 w B g cap xs)(hf:f<18446744073709551616)(hc:c<18446744073709551616)(hfi:f≤9223372036854775807)(hci:c≤9223372036854775807) :
  Calls Tryz.prog 71 #[Pv2 num g 0 cap,.int .i64 (f:Int),.int .i64 (c:Int)] w fun e w'=>e=.returned (.tuple #[])∧Row5 w' B g cap (putAt (putAt xs 8 (putN f 4 false)) 12 (putN c 4 false))∧Fr (fun k=>k=g) w w':=by
 have HB:=hid (show Below w.heap.size w (w.alloc (.cells #[.int .i64 num,.slice (some ⟨g,0,none⟩) 512 cap] 83)) from Below.alloc (Below.refl _ _) (Nat.le_refl _) _)
 have H0:=hid (h.fr (E:=fun _=>False) (Fr.of_below HB.out) (fun h=>h))
 have HX:=hid (RB.new 83 w num (some ⟨g,0,none⟩) 512 cap)
 have C1:=hid (write_any num B g cap xs 8 4 f (f:Int) _ H0.out (by omega) (by omega) (by omega) (by rw [IntKind.wrap_u64];omega))
 have hgl:=h.lt
 have C2:=hid (fun w1 (h1:Row5 w1 B g cap (putAt xs 8 (putN f 4 false)))=>write_any num B g cap _ 12 4 c (c:Int) w1 h1 (by omega) (by omega) (by omega) (by rw [IntKind.wrap_u64];omega))
 have HG:=hid hgl
 clear h hgl hf hc hfi hci
 unfold Pv2 at *
 have t0:Hid True:=hid trivial
 go_enter Tryz.func71,Tryz.ntmps71
 go_wp2_with (first
  | (go_at_call 87;clear t0;refine C1.out.mono ?_;rintro e w1 ⟨rfl,hr1,hf1⟩;have R1:=hid hr1;have F1:=hid hf1;obtain ⟨b0,b1⟩:=((show RB 83 w1 w.heap.size num (some ⟨g,0,none⟩) 512 cap from (hf1.blk w.heap.size (by simp) (fun e=>by have:=HG.out;omega)).trans HX.out)).cells;clear hr1 hf1)
  | (go_at_call 87;refine (C2.out w1 R1.out).mono ?_;rintro e w2 ⟨rfl,hr2,hf2⟩;have R2:=hid hr2;have F2:=hid hf2;clear hr2 hf2))
 go_end0
 exact ⟨rfl,R2.out,fr_row HB.out (F1.out.trans F2.out (fun _ _ h=>h))⟩
end Jrn
namespace Jrn
open Go.RowKit
open Cch (Fr)
def rowC(P:Value)(f s c:Int):List Value:=[.func (.func 69) #[P] #[],.func (.func 87) #[P] #[],.int .i64 f,.int .i64 s,.int .i64 c]
def rowV(P:Value)(f s c:Int):Value:=.agg (rowC P f s c).toArray
def RowB(W:World)(q:Nat)(P:Value)(f s c:Int):Prop:=W.heap[q]? = some (.cells (rowC P f s c).toArray 110 (0,0))
variable {f s c:Int} {P:Value} {q:Nat} {W:World}
theorem RowB.cells(h:RowB W q P f s c):W.cell? ⟨q,0,none⟩=some (.func (.func 69) #[P] #[])∧W.cell? ⟨q,1,none⟩=some (.func (.func 87) #[P] #[])∧W.cell? ⟨q,2,none⟩=some (.int .i64 f)∧W.cell? ⟨q,3,none⟩=some (.int .i64 s)∧W.cell? ⟨q,4,none⟩=some (.int .i64 c):=by
 unfold RowB rowC at h
 simp [World.cell?,h]
theorem load_row(h:RowB W q P f s c) :
  (loadVar 110 ⟨q,0,none⟩).run Tryz.prog W=.ok (rowV P f s c) W:=by
 have hs:∀ W,(Go.sizeOf 110).run Tryz.prog W=.ok 5 W:=fun W=>by kernel_rfl
 have ha:∀ W,(isAgg 110).run Tryz.prog W=.ok true W:=fun W=>by kernel_rfl
 have hl:=run_loadCells_list (P:=Tryz.prog) W ⟨q,0,none⟩ (rowC P f s c) (by
  intro j v hj
  obtain ⟨h0,h1,h2,h3,h4⟩:=h.cells
  unfold rowC at hj
  match j,hj with
  | 0,hj=>simp at hj;subst hj;simpa [Addr.add] using h0
  | 1,hj=>simp at hj;subst hj;simpa [Addr.add] using h1
  | 2,hj=>simp at hj;subst hj;simpa [Addr.add] using h2
  | 3,hj=>simp at hj;subst hj;simpa [Addr.add] using h3
  | 4,hj=>simp at hj;subst hj;simpa [Addr.add] using h4
  | j+5,hj=>simp at hj)
 have e:(rowC P f s c).length=5:=rfl
 rw [e]at hl
 simp [loadVar,ha,hs,hl,rowV]
theorem ret_row{fn:Func}{a:Tmp}(h:fn.results = #[.cell a 110]){tmps:Array Value}{W:World}{q:Nat}{P:Value}{f s c:Int}
  (hp:tmps.getD a undef=.pointer (some ⟨q,0,none⟩)) (hb:RowB W q P f s c):(results fn tmps).run Tryz.prog W=.ok (rowV P f s c) W:=by
 rw [results_cell1 h,hp]
 simp [asAddr,load_row hb]
theorem words_any(num:Int)(g cap:Nat)(w:World) :
  Calls Tryz.prog 48 #[Pv2 num g 0 cap] w fun e w'=>e=.returned (rowV (Pv2 num g 0 cap) 16 8 60)∧Below w.heap.size w w':=by
 have t:True:=trivial
 obtain ⟨V,hV⟩:∃ V,V=rowV (Pv2 num g 0 cap) 16 8 60:=⟨_,rfl⟩
 rw [←hV]
 unfold Pv2
 go_enter Tryz.func48,Tryz.ntmps48
 go_wp2
 refine bodyPost_ret (ret_row rfl rfl (P:=Pv2 num g 0 cap) (f:=16) (s:=8) (c:=60) (q:=w.heap.size+1) (by have:=heap_alloc_new (w.alloc (.cells #[.int .i64 num,.slice (some ⟨g,0,none⟩) 512 cap] 83)) (.cells (rowC (Pv2 num g 0 cap) 16 8 60).toArray 110);have e:(w.alloc (.cells #[.int .i64 num,.slice (some ⟨g,0,none⟩) 512 cap] 83)).heap.size=w.heap.size+1:=(by simp);rw [e]at this;exact this)) rfl ?_
 exact ⟨by rw [hV],Below.alloc (Below.alloc (Below.refl _ _) (Nat.le_refl _) _) (by simp) _⟩
theorem leaves_any(num:Int)(g cap:Nat)(w:World) :
  Calls Tryz.prog 66 #[Pv2 num g 0 cap] w fun e w'=>e=.returned (rowV (Pv2 num g 0 cap) 8 4 126)∧Below w.heap.size w w':=by
 have t:True:=trivial
 obtain ⟨V,hV⟩:∃ V,V=rowV (Pv2 num g 0 cap) 8 4 126:=⟨_,rfl⟩
 rw [←hV]
 unfold Pv2
 go_enter Tryz.func66,Tryz.ntmps66
 go_wp2
 refine bodyPost_ret (ret_row rfl rfl (P:=Pv2 num g 0 cap) (f:=8) (s:=4) (c:=126) (q:=w.heap.size+1) (by have:=heap_alloc_new (w.alloc (.cells #[.int .i64 num,.slice (some ⟨g,0,none⟩) 512 cap] 118)) (.cells (rowC (Pv2 num g 0 cap) 8 4 126).toArray 110);have e:(w.alloc (.cells #[.int .i64 num,.slice (some ⟨g,0,none⟩) 512 cap] 118)).heap.size=w.heap.size+1:=(by simp);rw [e]at this;exact this)) rfl ?_
 exact ⟨by rw [hV],Below.alloc (Below.alloc (Below.refl _ _) (Nat.le_refl _) _) (by simp) _⟩
theorem rget_no(P:Value)(f s c i:Int)(w:World)(hi:i<0∨c≤i) :
  Calls Tryz.prog 56 #[rowV P f s c,.int .i64 i] w fun e w'=>e=.returned (.tuple #[.int .i64 0,.int .i64 11])∧Below w.heap.size w w':=by
 unfold rowV rowC
 by_cases h0:i<0
 ·go_enter Tryz.func56,Tryz.ntmps56
  go_wp2
  go_ret2
  exact ⟨rfl,Below.alloc (Below.refl _ _) (Nat.le_refl _) _⟩
 ·have h1:c≤i:=by omega
  go_enter Tryz.func56,Tryz.ntmps56
  go_wp2
  go_ret2
  exact ⟨rfl,Below.alloc (Below.refl _ _) (Nat.le_refl _) _⟩
theorem rget_yes(num:Int)(g cap:Nat)(xs:List Nat)(f s c i:Nat)(w:World)(h:Rd w (some ⟨g,0,none⟩) 512 cap xs)(hx:∀ x∈xs,x<256)(h1:1≤s)(h8:s≤8)(hi:i<c)(hc:f+c*s≤512) :
  Calls Tryz.prog 56 #[rowV (Pv2 num g 0 cap) f s c,.int .i64 (i:Int)] w fun e w'=>e=.returned (.tuple #[.int .i64 (wrap64 (numAt xs (f+i*s) s:Int)),.int .i64 0])∧Below w.heap.size w w':=by
 have hm:(i+1)*s≤c*s:=Nat.mul_le_mul_right s hi
 have hm2:(i+1)*s=i*s+s:=by rw [Nat.add_mul,Nat.one_mul]
 have hm3:((i*s:Nat):Int)=(i:Int)*(s:Int):=by simp
 have HB:=hid (show Below w.heap.size w (w.alloc (.cells (rowC (Pv2 num g 0 cap) f s c).toArray 110)) from Below.alloc (Below.refl _ _) (Nat.le_refl _) _)
 have C:=hid (tell_any num g 0 cap xs (f+i*s) s _ (h.keep HB.out) hx h1 h8 (by omega))
 obtain ⟨A,hA⟩:∃ A,A=f+i*s:=⟨_,rfl⟩
 have e1:(f:Int)+(i:Int)*(s:Int)=(A:Int):=by rw [←hm3];omega
 have e2:IntKind.i64.wrap ((i:Int)*(s:Int))=(i:Int)*(s:Int):=IntWalk.i64_in _ ⟨by omega,by omega⟩
 have e3:IntKind.i64.wrap (A:Int)=(A:Int):=IntWalk.i64_in _ ⟨by omega,by omega⟩
 rw [←hA]at C ⊢
 clear hA
 have i0:¬(i:Int)<0:=by omega
 have i1:¬(c:Int)≤(i:Int):=by omega
 generalize Pv2 num g 0 cap=P at *
 generalize wrap64 (numAt xs A s:Int)=R at *
 clear h hx hm hm2 hm3 hc
 unfold rowV rowC
 unfold rowC at C HB
 go_enter Tryz.func56,Tryz.ntmps56
 go_wp2_with (go_at_call 69;refine C.out.mono ?_;rintro e w1 ⟨rfl,hb1⟩;have B1:=hid hb1;clear hb1)
 go_ret2
 exact ⟨rfl,gt HB.out B1.out⟩
end Jrn
namespace Jrn
open Go.RowKit
open Cch (Fr)
theorem rset_no(P:Value)(f s c i n:Int)(w:World)(hi:i<0∨c≤i) :
  Calls Tryz.prog 49 #[rowV P f s c,.int .i64 i,.int .i64 n] w fun e w'=>e=.returned (.int .i64 11)∧Below w.heap.size w w':=by
 unfold rowV rowC
 by_cases h0:i<0
 ·go_enter Tryz.func49,Tryz.ntmps49
  go_wp2
  go_ret
  exact ⟨rfl,Below.alloc (Below.refl _ _) (Nat.le_refl _) _⟩
 ·have h1:c≤i:=by omega
  go_enter Tryz.func49,Tryz.ntmps49
  go_wp2
  go_ret
  exact ⟨rfl,Below.alloc (Below.refl _ _) (Nat.le_refl _) _⟩
theorem rset_yes(num:Int)(B g cap:Nat)(xs:List Nat)(f s c i v:Nat)(n:Int)(w:World)(h:Row5 w B g cap xs)(h1:1≤s)(h8:s≤8)(hi:i<c)(hc:f+c*s≤512)(hn:IntKind.u64.wrap n=(v:Int)) :
  Calls Tryz.prog 49 #[rowV (Pv2 num g 0 cap) f s c,.int .i64 (i:Int),.int .i64 n] w fun e w'=>e=.returned (.int .i64 0)∧Row5 w' B g cap (putAt xs (f+i*s) (putN v s false))∧Fr (fun k=>k=g) w w':=by
 have hm:(i+1)*s≤c*s:=Nat.mul_le_mul_right s hi
 have hm2:(i+1)*s=i*s+s:=by rw [Nat.add_mul,Nat.one_mul]
 have hm3:((i*s:Nat):Int)=(i:Int)*(s:Int):=by simp
 have HB:=hid (show Below w.heap.size w (w.alloc (.cells (rowC (Pv2 num g 0 cap) f s c).toArray 110)) from Below.alloc (Below.refl _ _) (Nat.le_refl _) _)
 have C:=hid (write_any num B g cap xs (f+i*s) s v n _ (h.fr (E:=fun _=>False) (Fr.of_below HB.out) (fun h=>h)) h1 h8 (by omega) hn)
 obtain ⟨A,hA⟩:∃ A,A=f+i*s:=⟨_,rfl⟩
 have e1:(f:Int)+(i:Int)*(s:Int)=(A:Int):=by rw [←hm3];omega
 have e2:IntKind.i64.wrap ((i:Int)*(s:Int))=(i:Int)*(s:Int):=IntWalk.i64_in _ ⟨by omega,by omega⟩
 have e3:IntKind.i64.wrap (A:Int)=(A:Int):=IntWalk.i64_in _ ⟨by omega,by omega⟩
 rw [←hA]at C ⊢
 clear hA
 have i0:¬(i:Int)<0:=by omega
 have i1:¬(c:Int)≤(i:Int):=by omega
 generalize Pv2 num g 0 cap=P at *
 clear h hm hm2 hm3 hc hn
 unfold rowV rowC
 unfold rowC at C HB
 go_enter Tryz.func49,Tryz.ntmps49
 go_wp2_with (go_at_call 87;refine C.out.mono ?_;rintro e w1 ⟨rfl,hr1,hf1⟩;have R1:=hid hr1;have F1:=hid hf1;clear hr1 hf1)
 go_ret
 exact ⟨rfl,R1.out,fr_row HB.out F1.out⟩
theorem below_fr{w w':World}(h:Fr (fun k=>w.heap.size≤k) w w'):Below w.heap.size w w':=⟨h.os,h.tape,h.output,h.size,fun k hk=>h.blk k hk (by omega)⟩
theorem fr_two(W:World)(q:Nat)(a b:Value):Fr (fun k=>k=q) W ((W.setCell ⟨q,0,none⟩ a).setCell ⟨q,1,none⟩ b):=⟨rfl,rfl,rfl,by simp,fun k _ hk=>(heap_setCell_other _ _ _ _ hk).trans (heap_setCell_other _ _ _ _ hk)⟩
theorem RB.fr{E:Nat→Prop}{t:TypeId}{W W':World}{q:Nat}{p:Int}{ao:Option Addr}{n cap:Nat}(h:RB t W q p ao n cap)(hf:Fr E W W')(hE:¬E q):RB t W' q p ao n cap:=(hf.blk q h.lt hE).trans h
theorem newTrunk_any(n:Int)(x:Nat)(w:World)(hx:x≤9223372036854775807) :
  Calls Tryz.prog 73 #[.int .i64 n,.int .i64 (x:Int)] w fun e w'=>∃ g,e=.returned (Pv2 n g 0 512)∧w.heap.size≤g∧Row5 w' w.heap.size g 512 (putAt nul 0 (putN x 4 false))∧Below w.heap.size w w':=by
 have HB:=hid (show Below w.heap.size w (w.alloc (.cells #[.int .i64 0,.slice none 0 0] 118)) from Below.alloc (Below.refl _ _) (Nat.le_refl _) _)
 have C1:=hid (blank_any n (w.alloc (.cells #[.int .i64 0,.slice none 0 0] 118)))
 have C2:=hid (fun w1 g B (h1:Row5 w1 B g 512 nul)=>write_any n B g 512 nul 0 4 x (x:Int) w1 h1 (by omega) (by omega) (by omega) (by rw [IntKind.wrap_u64];omega))
 have HX:=hid (RB.new 118 w 0 none 0 0)
 clear hx
 unfold Pv2 at *
 go_enter Tryz.func73,Tryz.ntmps73
 go_wp2_with (first
  | (go_at_call 72;refine C1.out.mono ?_;rintro e w1 ⟨g,rfl,hg,hr1,hb1⟩;have R1:=hid hr1;have B1:=hid hb1;have HG:=hid hg;have HX1:=hid (HX.out.keep hb1);clear hr1 hb1 hg)
  | (go_at_call 87;refine (C2.out _ g _ (R1.out.fr (E:=fun _=>False) (Fr.of_below (Below.alloc (Below.refl _ _) (Nat.le_refl _) _)) (fun h=>h))).mono ?_;rintro e w2 ⟨rfl,hr2,hf2⟩;have R2:=hid hr2;have F2:=hid hf2;have HL:=hid R1.out.lt;have Y5:=hid ((RB.new 118 w1 n (some ⟨g,0,none⟩) 512 512).fr hf2 (fun e=>by have:=HL.out;omega));have Y4:=hid ((HX1.out.keep (Below.alloc (Below.refl _ _) (Nat.le_refl _) _)).fr hf2 (fun e=>by have:=HG.out;simp at this;omega));obtain ⟨y0,y1,y2,y3⟩:=Y5.out.cells;obtain ⟨z0,z1,z2,z3⟩:=Y4.out.cells;have HLL:=hid Y5.out.lt;have hne:¬w1.heap.size=w.heap.size:=(by have h:=B1.out.size;simp at h;omega);clear hr2 hf2))
 refine bodyPost_ret (ret_pg rfl (by intro W;kernel_rfl) (by intro W;kernel_rfl) rfl (RB.set Y4.out _ _ _ _)) rfl ?_
 have hz:w.heap.size+1≤g:=by have:=HG.out;simpa using this
 refine ⟨g,rfl,by omega,?_,below_fr ?_⟩
 ·exact (R2.out.fr (fr_two _ _ _ _) (by omega)).base (by simp)
 ·refine (Fr.of_below (gt HB.out B1.out)).trans ?_ (T:=fun k=>w.heap.size≤k) (fun j hj hk=>hk)
  refine (Fr.of_below (Below.alloc (Below.refl _ _) (Nat.le_refl _) (.cells #[.int .i64 n,.slice (some ⟨g,0,none⟩) 512 512] 118))).trans ?_ (T:=fun k=>w.heap.size≤k) (fun j hj hk=>hk)
  exact (⟨F2.out.os,F2.out.tape,F2.out.output,F2.out.size,fun k hk hn=>F2.out.blk k hk (by omega)⟩:Fr (fun k=>w.heap.size≤k) _ w2).trans (fr_two w2 w.heap.size _ _) (fun j hj hk=>by omega)
end Jrn
namespace Jrn
open Go.RowKit
def wsN(s:Nat)(l:List Nat):List Nat:=l.flatMap fun v=>putN v s false
theorem wsN_length(s:Nat)(l:List Nat):(wsN s l).length=l.length*s:=by
 induction l with
 | nil=>simp [wsN]
 | cons a l ih=>simp only [wsN,List.flatMap_cons,List.length_append,putN_length,List.length_cons]at ih ⊢;rw [ih,Nat.add_mul];omega
theorem wsN_append(s:Nat)(l m:List Nat):wsN s (l++m)=wsN s l++wsN s m:=by simp [wsN]
theorem wsN_one(s v:Nat):wsN s [v]=putN v s false:=by simp [wsN]
theorem wsN_bytes(s:Nat)(l:List Nat):∀ x∈wsN s l,x<256:=by
 intro x h
 simp only [wsN,List.mem_flatMap]at h
 obtain ⟨v,_,h⟩:=h
 exact putN_bytes v s false x h
theorem numAt_app4(a b:List Nat)(v i:Nat)(hi:a.length=i)(hv:v<4294967296):numAt (a++(putN v 4 false++b)) i 4=v:=by
 unfold numAt
 rw [List.drop_left' hi,psum_put4 v hv b]
theorem numAt_app8(a b:List Nat)(v i:Nat)(hi:a.length=i)(hv:v<18446744073709551616):numAt (a++(putN v 8 false++b)) i 8=v:=by
 unfold numAt
 rw [List.drop_left' hi,psum_put8 v hv b]
theorem putAt_app(a m b y:List Nat)(i:Nat)(hi:a.length=i)(hm:m.length=y.length):putAt (a++(m++b)) i y=a++(y++b):=by
 unfold putAt
 rw [List.take_left' hi,List.append_assoc,←List.drop_drop,List.drop_left' hi,List.drop_left' hm]
variable {i:Nat} {l:List Nat}
theorem split_at(hi:i<l.length):l=l.take i++(l.getD i 0::l.drop (i+1)):=by
 conv=>lhs;rw [←List.take_append_drop i l]
 congr 1
 rw [drop_getD l i hi]
theorem wsN_split(s:Nat)(hi:i<l.length):wsN s l=wsN s (l.take i)++(putN (l.getD i 0) s false++wsN s (l.drop (i+1))):=by
 conv=>lhs;rw [split_at hi]
 rw [wsN_append]
 simp [wsN]
def trunkN(nx:Nat)(ls:List Nat):List Nat:=putN nx 4 false++(putN ls.length 4 false++(wsN 4 ls++List.replicate (504 - ls.length*4) 0))
def nameN:List Nat:=[104,97,99,104,117,114,101,49]
def rootN(f c:Nat)(ws:List Nat):List Nat:=nameN++(putN f 4 false++(putN c 4 false++(wsN 8 ws++List.replicate 16 0)))
theorem rootN_length(f c:Nat)(ws:List Nat)(h:ws.length=60):(rootN f c ws).length=512:=by
 simp [rootN,putN_length,wsN_length,nameN,h]
theorem trunkN_bytes(nx:Nat)(ls:List Nat):∀ x∈trunkN nx ls,x<256:=app_bytes (putN_bytes _ _ _) (app_bytes (putN_bytes _ _ _) (app_bytes (wsN_bytes _ _) (zero_bytes _)))
theorem rootN_bytes(f c:Nat)(ws:List Nat):∀ x∈rootN f c ws,x<256:=app_bytes (by decide) (app_bytes (putN_bytes _ _ _) (app_bytes (putN_bytes _ _ _) (app_bytes (wsN_bytes _ _) (zero_bytes _))))
theorem trunk_next(nx:Nat)(ls:List Nat)(h:nx<4294967296):numAt (trunkN nx ls) 0 4=nx:=numAt_app4 [] _ nx 0 rfl h
theorem trunk_size(nx:Nat)(ls:List Nat)(h:ls.length<4294967296):numAt (trunkN nx ls) 4 4=ls.length:=numAt_app4 (putN nx 4 false) _ _ 4 (putN_length _ _ _) h
theorem trunk_leaf(nx:Nat)(ls:List Nat)(i:Nat)(hi:i<ls.length)(h:ls.getD i 0<4294967296):numAt (trunkN nx ls) (8+i*4) 4=ls.getD i 0:=by
 have e:trunkN nx ls=(putN nx 4 false++(putN ls.length 4 false++wsN 4 (ls.take i)))++(putN (ls.getD i 0) 4 false++(wsN 4 (ls.drop (i+1))++List.replicate (504 - ls.length*4) 0)):=by
  rw [trunkN,wsN_split 4 hi];simp only [List.append_assoc]
 rw [e]
 exact numAt_app4 _ _ _ _ (by simp [putN_length,wsN_length];omega) h
theorem root_first(f c:Nat)(ws:List Nat)(h:f<4294967296):numAt (rootN f c ws) 8 4=f:=numAt_app4 nameN _ f 8 rfl h
theorem root_count(f c:Nat)(ws:List Nat)(h:c<4294967296):numAt (rootN f c ws) 12 4=c:=by
 have e:rootN f c ws=(nameN++putN f 4 false)++(putN c 4 false++(wsN 8 ws++List.replicate 16 0)):=by rw [rootN,List.append_assoc]
 rw [e]
 exact numAt_app4 _ _ _ _ (by simp [putN_length,nameN]) h
theorem root_word(f c:Nat)(ws:List Nat)(i:Nat)(hi:i<ws.length)(h:ws.getD i 0<18446744073709551616):numAt (rootN f c ws) (16+i*8) 8=ws.getD i 0:=by
 have e:rootN f c ws=(nameN++(putN f 4 false++(putN c 4 false++wsN 8 (ws.take i))))++(putN (ws.getD i 0) 8 false++(wsN 8 (ws.drop (i+1))++List.replicate 16 0)):=by
  rw [rootN,wsN_split 8 hi];simp only [List.append_assoc]
 rw [e]
 exact numAt_app8 _ _ _ _ (by simp [putN_length,wsN_length,nameN];omega) h
theorem root_lead(f c f' c':Nat)(ws:List Nat):putAt (putAt (rootN f c ws) 8 (putN f' 4 false)) 12 (putN c' 4 false)=rootN f' c' ws:=by
 rw [rootN,putAt_app nameN _ _ _ 8 rfl (by simp [putN_length]),←List.append_assoc nameN,putAt_app _ _ _ _ 12 (by simp [putN_length,nameN]) (by simp [putN_length]),List.append_assoc]
 rfl
theorem root_set(f c:Nat)(ws:List Nat)(i v:Nat)(hi:i<ws.length):putAt (rootN f c ws) (16+i*8) (putN v 8 false)=rootN f c (ws.set i v):=by
 have e:rootN f c ws=(nameN++(putN f 4 false++(putN c 4 false++wsN 8 (ws.take i))))++(putN (ws.getD i 0) 8 false++(wsN 8 (ws.drop (i+1))++List.replicate 16 0)):=by
  rw [rootN,wsN_split 8 hi];simp only [List.append_assoc]
 rw [e,putAt_app _ _ _ _ _ (by simp [putN_length,wsN_length,nameN];omega) (by simp [putN_length])]
 rw [rootN,wsN_split (l:=ws.set i v) 8 (by simpa using hi)]
 simp only [List.append_assoc,List.take_set_of_le (Nat.le_refl i),List.drop_set_of_lt (Nat.lt_succ_self i)]
 simp [List.getD,hi]
theorem trunk_put0(x:Nat):putAt (List.replicate 512 0) 0 (putN x 4 false)=trunkN x []:=by
 have e:List.replicate 512 0=([]:List Nat)++(List.replicate 4 0++List.replicate 508 0):=by rw [List.replicate_append_replicate];rfl
 rw [e,putAt_app [] _ _ _ 0 rfl (by simp [putN_length])]
 rfl
theorem trunk_add(nx:Nat)(ls:List Nat)(v:Nat)(h:ls.length<126):putAt (putAt (trunkN nx ls) (8+ls.length*4) (putN v 4 false)) 4 (putN (ls.length+1) 4 false)=trunkN nx (ls++[v]):=by
 have e0:List.replicate (504 - ls.length*4) 0=List.replicate 4 0++List.replicate (504 - (ls++[v]).length*4) 0:=by
  rw [List.replicate_append_replicate];congr 1;simp;omega
 have e:trunkN nx ls=(putN nx 4 false++(putN ls.length 4 false++wsN 4 ls))++(List.replicate 4 0++List.replicate (504 - (ls++[v]).length*4) 0):=by
  rw [trunkN,e0];simp only [List.append_assoc]
 rw [e,putAt_app _ _ _ _ _ (by simp [putN_length,wsN_length];omega) (by simp [putN_length])]
 simp only [List.append_assoc]
 rw [putAt_app (putN nx 4 false) _ _ _ 4 (putN_length _ _ _) (by simp [putN_length]),trunkN,wsN_append,wsN_one]
 simp only [List.append_assoc,List.length_append,List.length_cons,List.length_nil]
theorem trunk_drop(nx:Nat)(ls:List Nat)(v:Nat)(h:ls.length<126):putAt (putAt (trunkN nx (ls++[v])) (8+ls.length*4) (putN 0 4 false)) 4 (putN ls.length 4 false)=trunkN nx ls:=by
 have e0:List.replicate (504 - ls.length*4) 0=putN 0 4 false++List.replicate (504 - (ls++[v]).length*4) 0:=by
  rw [show putN 0 4 false=List.replicate 4 0 by decide,List.replicate_append_replicate];congr 1;simp;omega
 have e:trunkN nx (ls++[v])=(putN nx 4 false++(putN (ls++[v]).length 4 false++wsN 4 ls))++(putN v 4 false++List.replicate (504 - (ls++[v]).length*4) 0):=by
  rw [trunkN,wsN_append,wsN_one];simp only [List.append_assoc]
 rw [e,putAt_app _ _ _ _ _ (by simp [putN_length,wsN_length];omega) (by simp [putN_length])]
 simp only [List.append_assoc]
 rw [putAt_app (putN nx 4 false) _ _ _ 4 (putN_length _ _ _) (by simp [putN_length]),trunkN,e0]
end Jrn
namespace Jrn
open Go.RowKit
open Cch (Fr)
theorem Row5.keep{w w':World}{B g cap:Nat}{xs:List Nat}(h:Row5 w B g cap xs)(hb:Below w.heap.size w w'):Row5 w' B g cap xs:=h.fr (E:=fun _=>False) (Fr.of_below hb) (fun h=>h)
theorem tadd_any(num:Int)(B g cap nx v:Nat)(ls:List Nat)(w:World)(h:Row5 w B g cap (trunkN nx ls))(hl:ls.length<126)(hv:v≤9223372036854775807) :
  Calls Tryz.prog 74 #[Pv2 num g 0 cap,.int .i64 (v:Int)] w fun e w'=>e=.returned (.tuple #[])∧Row5 w' B g cap (trunkN nx (ls++[v]))∧Fr (fun k=>k=g) w w':=by
 have HB:=hid (show Below w.heap.size w (w.alloc (.cells #[.int .i64 num,.slice (some ⟨g,0,none⟩) 512 cap] 118)) from Below.alloc (Below.refl _ _) (Nat.le_refl _) _)
 have H0:=hid (h.keep HB.out)
 have HX:=hid (RB.new 118 w num (some ⟨g,0,none⟩) 512 cap)
 have CS:=hid (size_any num g 0 cap (trunkN nx ls) _ H0.out.rd (trunkN_bytes _ _))
 rw [trunk_size nx ls (by omega)]at CS
 have CL:=hid (fun W=>leaves_any num g cap W)
 have CT:=hid (fun W (hW:Row5 W B g cap (trunkN nx ls))=>rset_yes num B g cap (trunkN nx ls) 8 4 126 ls.length v (v:Int) W hW (by omega) (by omega) hl (by omega) (by rw [IntKind.wrap_u64];omega))
 have CW:=hid (fun W (hW:Row5 W B g cap (putAt (trunkN nx ls) (8+ls.length*4) (putN v 4 false)))=>write_any num B g cap _ 4 4 (ls.length+1) ((ls.length+1:Nat):Int) W hW (by omega) (by omega) (by omega) (by rw [IntKind.wrap_u64];omega))
 have hT:=trunk_add nx ls v hl
 have HT:=hid hT
 have HG:=hid h.lt
 have e1:(ls.length:Int)+1=((ls.length+1:Nat):Int):=by omega
 have e2:IntKind.i64.wrap (((ls.length+1:Nat):Int))=((ls.length+1:Nat):Int):=IntWalk.i64_in _ ⟨by omega,by omega⟩
 obtain ⟨V,hV⟩:∃ V,V=rowV (Pv2 num g 0 cap) 8 4 126:=⟨_,rfl⟩
 obtain ⟨V2,hV2⟩:∃ V2,V2=rowV (Pv2 num g 0 cap) ((8:Nat):Int) ((4:Nat):Int) ((126:Nat):Int):=⟨_,rfl⟩
 have hVV:V2=V:=by rw [hV,hV2];rfl
 rw [←hV]at CL;rw [←hV2,hVV]at CT
 clear h hT hV hV2 hVV
 generalize ls.length+1=M at *
 generalize ls.length=L at *
 unfold Pv2 at *
 go_enter Tryz.func74,Tryz.ntmps74
 go_wp2_with (first
  | (go_at_call 67;refine CS.out.mono ?_;rintro e w1 ⟨rfl,hb1⟩;have B1:=hid (gt HB.out hb1);have R1:=hid (H0.out.keep hb1);obtain ⟨x0,x1,x2,x3⟩:=(HX.out.keep hb1).cells;have X1:=hid (HX.out.keep hb1);clear hb1)
  | (go_at_call 66;refine (CL.out w1).mono ?_;rintro e w2 ⟨rfl,hb2⟩;have B2:=hid (gt B1.out hb2);have R2:=hid (R1.out.keep hb2);have X2:=hid (X1.out.keep hb2);clear hb2 x0 x1 x2 x3)
  | (go_at_call 49;refine (CT.out w2 R2.out).mono ?_;rintro e w3 ⟨rfl,hr3,hf3⟩;have R3:=hid hr3;have F3:=hid hf3;obtain ⟨x0,x1,x2,x3⟩:=(X2.out.fr hf3 (fun e=>by have:=HG.out;omega)).cells;clear hr3 hf3)
  | (go_at_call 87;refine (CW.out w3 R3.out).mono ?_;rintro e w4 ⟨rfl,hr4,hf4⟩;have R4:=hid hr4;have F4:=hid hf4;clear hr4 hf4))
 go_end0
 exact ⟨rfl,by rw [←HT.out];exact R4.out,fr_row B2.out (F3.out.trans F4.out (fun _ _ h=>h))⟩
end Jrn
namespace Jrn
open Go.RowKit
open Cch (Fr step_copy_row)
theorem tdrop_any(num:Int)(B g cap nx v:Nat)(ls:List Nat)(w:World)(h:Row5 w B g cap (trunkN nx (ls++[v])))(hl:ls.length<126)(hv:v<4294967296) :
  Calls Tryz.prog 70 #[Pv2 num g 0 cap] w fun e w'=>e=.returned (.int .i64 (v:Int))∧Row5 w' B g cap (trunkN nx ls)∧Fr (fun k=>k=g) w w':=by
 have HB:=hid (show Below w.heap.size w (w.alloc (.cells #[.int .i64 num,.slice (some ⟨g,0,none⟩) 512 cap] 118)) from Below.alloc (Below.refl _ _) (Nat.le_refl _) _)
 have H0:=hid (h.keep HB.out)
 have HX:=hid (RB.new 118 w num (some ⟨g,0,none⟩) 512 cap)
 have CS:=hid (size_any num g 0 cap _ _ H0.out.rd (trunkN_bytes _ _))
 rw [trunk_size nx _ (by simp;omega),show (ls++[v]).length=ls.length+1 by simp]at CS
 have CL:=hid (fun W=>leaves_any num g cap W)
 have hgv:numAt (trunkN nx (ls++[v])) (8+ls.length*4) 4=v:=by
  have:=trunk_leaf nx (ls++[v]) ls.length (by simp) (by simpa [List.getD] using hv)
  rw [this];simp [List.getD]
 have CG:=hid (fun W (hW:Row5 W B g cap (trunkN nx (ls++[v])))=>rget_yes num g cap _ 8 4 126 ls.length W hW.rd (trunkN_bytes _ _) (by omega) (by omega) hl (by omega))
 rw [hgv,wrap_small v (by omega)]at CG
 have CT:=hid (fun W (hW:Row5 W B g cap (trunkN nx (ls++[v])))=>rset_yes num B g cap _ 8 4 126 ls.length 0 0 W hW (by omega) (by omega) hl (by omega) (by rw [IntKind.wrap_u64];rfl))
 have CW:=hid (fun W (hW:Row5 W B g cap (putAt (trunkN nx (ls++[v])) (8+ls.length*4) (putN 0 4 false)))=>write_any num B g cap _ 4 4 ls.length (ls.length:Int) W hW (by omega) (by omega) (by omega) (by rw [IntKind.wrap_u64];omega))
 have HT:=hid (trunk_drop nx ls v hl)
 have HG:=hid h.lt
 have e1:((ls.length+1:Nat):Int) - 1=(ls.length:Int):=by omega
 have e2:IntKind.i64.wrap (ls.length:Int)=(ls.length:Int):=IntWalk.i64_in _ ⟨by omega,by omega⟩
 obtain ⟨V,hV⟩:∃ V,V=rowV (Pv2 num g 0 cap) 8 4 126:=⟨_,rfl⟩
 obtain ⟨V2,hV2⟩:∃ V2,V2=rowV (Pv2 num g 0 cap) ((8:Nat):Int) ((4:Nat):Int) ((126:Nat):Int):=⟨_,rfl⟩
 have hVV:V2=V:=by rw [hV,hV2];rfl
 rw [←hV]at CL;rw [←hV2,hVV]at CT CG
 clear h hV hV2 hVV hgv hv
 generalize ls.length+1=M at *
 generalize ls.length=L at *
 unfold Pv2 at *
 have t0:Hid True:=hid trivial
 go_enter Tryz.func70,Tryz.ntmps70
 go_wp2_with (first
  | (go_at_call 67;refine CS.out.mono ?_;rintro e w1 ⟨rfl,hb1⟩;have B1:=hid (gt HB.out hb1);have R1:=hid (H0.out.keep hb1);obtain ⟨x0,x1,x2,x3⟩:=(HX.out.keep hb1).cells;have X1:=hid (HX.out.keep hb1);clear hb1)
  | (go_at_call 66;clear t0;refine (CL.out w1).mono ?_;rintro e w2 ⟨rfl,hb2⟩;have B2:=hid (gt B1.out hb2);have R2:=hid (R1.out.keep hb2);have X2:=hid (X1.out.keep hb2);clear hb2 x0 x1 x2 x3)
  | (go_at_call 56;refine (CG.out w2 R2.out).mono ?_;rintro e w3 ⟨rfl,hb3⟩;have B3:=hid (gt B2.out hb3);have R3:=hid (R2.out.keep hb3);obtain ⟨x0,x1,x2,x3⟩:=(X2.out.keep hb3).cells;have X3:=hid (X2.out.keep hb3);clear hb3)
  | (go_at_call 66;refine (CL.out w3).mono ?_;rintro e w4 ⟨rfl,hb4⟩;have B4:=hid (gt B3.out hb4);have R4:=hid (R3.out.keep hb4);have X4:=hid (X3.out.keep hb4);clear hb4 x0 x1 x2 x3)
  | (go_at_call 49;refine (CT.out w4 R4.out).mono ?_;rintro e w5 ⟨rfl,hr3,hf3⟩;have R5:=hid hr3;have F5:=hid hf3;obtain ⟨x0,x1,x2,x3⟩:=(X4.out.fr hf3 (fun e=>by have:=HG.out;omega)).cells;clear hr3 hf3)
  | (go_at_call 87;refine (CW.out w5 R5.out).mono ?_;rintro e w6 ⟨rfl,hr4,hf4⟩;have R6:=hid hr4;have F6:=hid hf4;clear hr4 hf4))
 go_ret
 exact ⟨rfl,by rw [←HT.out];exact R6.out,fr_row B4.out (F5.out.trans F6.out (fun _ _ h=>h))⟩
theorem Rd.first{w:World}{g n cap:Nat}{xs:List Nat}(h:Rd w (some ⟨g,0,none⟩) n cap xs){k:Nat}(hk:k≤n):Rd w (some ⟨g,0,none⟩) k cap (xs.take k):=by
 obtain ⟨hl,hc,hno,hat⟩:=h
 refine ⟨by rw [List.length_take,hl];omega,by omega,fun h=>(by cases h),fun hp=>⟨g,0,rfl,fun t ht=>?_⟩⟩
 obtain ⟨b',off',e,hcell⟩:=hat (by omega)
 simp only [Option.some.injEq,Addr.mk.injEq,and_true]at e
 obtain ⟨rfl,rfl⟩:=e
 rw [hcell t (by omega)]
 simp [List.getD,ht]
theorem beq_name(xs:List Nat)(h:∀ x∈xs,x<256):((str xs).toList == [104,97,99,104,117,114,101,49])=decide (xs=nameN):=by
 have e:(str xs).toList=xs.map UInt8.ofNat:=by rw [ByteArray.toList_eq];simp [str]
 rw [e,Bool.eq_iff_iff]
 simp only [beq_iff_eq,decide_eq_true_eq]
 constructor
 ·intro h1
  have h2:=congrArg (List.map UInt8.toNat) h1
  rw [List.map_map]at h2
  have h3:xs.map (UInt8.toNat ∘ UInt8.ofNat)=xs:=by
   conv=>rhs;rw [←List.map_id xs]
   refine List.map_congr_left fun x hx=>?_
   have:=h x hx
   simp [Nat.mod_eq_of_lt this]
  rw [h3]at h2
  rw [h2];rfl
 ·rintro rfl;rfl
theorem named_any(num:Int)(g cap:Nat)(xs:List Nat)(w:World)(h:Rd w (some ⟨g,0,none⟩) 512 cap xs)(hx:∀ x∈xs,x<256) :
  Calls Tryz.prog 55 #[Pv2 num g 0 cap] w fun e w'=>e=.returned (.bool (decide (xs.take 8=nameN)))∧Below w.heap.size w w':=by
 have hcp:=h.2.1
 have HB:=hid (show Below w.heap.size w (w.alloc (.cells #[.int .i64 num,.slice (some ⟨g,0,none⟩) 512 cap] 83)) from Below.alloc (Below.refl _ _) (Nat.le_refl _) _)
 have cv:=conv_str ((h.keep HB.out).first (k:=8) (by omega))
 have hb:=beq_name (xs.take 8) (fun x h=>hx x (List.mem_of_mem_take h))
 generalize str (xs.take 8)=SS at *
 generalize decide (xs.take 8=nameN)=bb at *
 have k0:(8:Int)≤(cap:Int):=by omega
 clear h hx
 unfold Pv2
 go_enter Tryz.func55,Tryz.ntmps55
 go_wp2
 go_ret
 exact ⟨rfl,HB.out⟩
end Jrn
namespace Jrn
open Go.RowKit
open Cch (Fr)
theorem wpList_copy_str{w:World}{ops:Array Oper}{rest:List Oper}{o:Oper}{a:Act}{Q:Exit→Act→World→Prop}(hgd:o.guard=none)(d:Operand)(s:ByteArray)
  (ho:o.op=.call { callee:=.builtin .copy,args:=#[d,.const (.string s)],argTypes:=#[79,9] }) (g dLen dCap:Nat) (hd:a.eval d=.slice (some ⟨g,0,none⟩) dLen dCap)
  (cur:Array Value) (hg:w.heap[g]? = some (.cells cur 5 (0,0))) (hle:s.size≤dLen) (hfit:0+s.size≤cur.size)
  (h:wpList Tryz.prog ops Q rest (a.put o.dst (goInt s.size)) (w.setRow g (cur.toList.take 0++Go.Lib.byteCells s.data.toList++cur.toList.drop (0+s.size)).toArray)):wpList Tryz.prog ops Q (o::rest) a w:=by
 refine wpList_plain hgd fun K hK=>?_
 have hrun:=Go.Lib.run_copy_row_string (P:=Tryz.prog) w 79 9 o.type 5 g 0 dLen dCap s cur 5 Tryz.underlying79 (by kernel_rfl) hg hle hfit
 have he:a.eval (.const (.string s))=.string s:=rfl
 unfold Oper.wp execOp
 simp only [ho,resolve,invoke,builtin,Sem.run_bind,Sem.run_pure,Result.andThen_ok,List.map_toArray,List.map_cons,List.map_nil,hd,he,hrun]
 exact hK _ _ h
theorem root_new:(nameN++List.replicate 504 0)=rootN 0 0 (List.replicate 60 0):=by
 have e1:∀ k,wsN 8 (List.replicate k 0)=List.replicate (k*8) 0:=fun k=>by
  induction k with
  | zero=>rfl
  | succ k ih=>rw [List.replicate_succ,←List.singleton_append,wsN_append,ih,wsN_one,show putN 0 8 false=List.replicate 8 0 by decide,List.replicate_append_replicate];congr 1;omega
 rw [rootN,e1]
 have e2:putN 0 4 false=List.replicate 4 0:=by decide
 rw [e2]
 simp only [List.replicate_append_replicate]
theorem copy_name{W:World}{B g:Nat}(h:Row5 W B g 512 nul):∃ cur:Array Value,W.heap[g]? = some (.cells cur 5 (0,0))∧cur.size=512∧∃ w2,w2=W.setRow g (cur.toList.take 0++Go.Lib.byteCells (ByteArray.mk #[104,97,99,104,117,114,101,49]).data.toList++cur.toList.drop (0+(ByteArray.mk #[104,97,99,104,117,114,101,49]).size)).toArray ∧
  Row5 w2 B g 512 (rootN 0 0 (List.replicate 60 0))∧Fr (fun k=>k=g) W w2:=by
 obtain ⟨hB,cur,hcur,hcs,hcm,hct⟩:=h.parts
 have hlc:cur.toList=bs nul:=by rw [←hct];exact (List.take_of_length_le (by simp [hcs])).symm
 refine ⟨cur,hcur,hcs,_,rfl,?_,⟨rfl,rfl,rfl,by simp,fun k _ hk=>setRow_other _ _ _ _ hk⟩⟩
 have e:(cur.toList.take 0++Go.Lib.byteCells (ByteArray.mk #[104,97,99,104,117,114,101,49]).data.toList++cur.toList.drop (0+(ByteArray.mk #[104,97,99,104,117,114,101,49]).size))=bs (rootN 0 0 (List.replicate 60 0)):=by
  rw [hlc,←root_new,bs_append]
  have e1:Go.Lib.byteCells (ByteArray.mk #[104,97,99,104,117,114,101,49]).data.toList=bs nameN:=rfl
  have e2:(0+(ByteArray.mk #[104,97,99,104,117,114,101,49]).size)=8:=rfl
  rw [e1,e2,List.take_zero,List.nil_append]
  congr 1
 refine Row5.of (cur:=bs (rootN 0 0 (List.replicate 60 0))) hB ?_ (by rw [bs_length,rootN_length _ _ _ (by simp)]) hcm (List.take_of_length_le (by rw [bs_length,rootN_length _ _ _ (by simp)];omega)) (rootN_length _ _ _ (by simp)) (by omega)
 rw [←e]
 exact setRow_heap _ _ _ _ _ _ hcur
theorem newRoot_any(w:World):Calls Tryz.prog 47 #[] w fun e w'=>∃ g,e=.returned (Pv2 1 g 0 512)∧w.heap.size≤g∧Row5 w' w.heap.size g 512 (rootN 0 0 (List.replicate 60 0))∧Below w.heap.size w w':=by
 have HB:=hid (show Below w.heap.size w (w.alloc (.cells #[.int .i64 0,.slice none 0 0] 83)) from Below.alloc (Below.refl _ _) (Nat.le_refl _) _)
 have C1:=hid (blank_any 1 (w.alloc (.cells #[.int .i64 0,.slice none 0 0] 83)))
 have HX:=hid (RB.new 83 w 0 none 0 0)
 unfold Pv2 at *
 go_enter Tryz.func47,Tryz.ntmps47
 go_wp2_with (first
  | (go_at_call 72;refine C1.out.mono ?_;rintro e w1 ⟨g,rfl,hg,hr1,hb1⟩;have R1:=hid hr1;have B1:=hid (gt HB.out hb1);have HG:=hid hg;have HX1:=hid (HX.out.keep hb1);clear hr1 hb1 hg)
  | ((with_reducible refine Cch.here_op 5 ?_);obtain ⟨cur,hcur,hcs,w2,hw2,hr2,hf2⟩:=copy_name (R1.out.keep (Below.alloc (Below.refl _ _) (Nat.le_refl _) (.cells #[.int .i64 1,.slice (some ⟨g,0,none⟩) 512 512] 81)));refine wpList_copy_str rfl (.tmp 4) _ rfl g 512 512 rfl cur hcur (by decide) (by rw [hcs];decide) ?_;rw [←hw2];clear hw2 hcur hcs;have R2:=hid hr2;have F2:=hid hf2;have HL:=hid R1.out.lt;have Y5:=hid ((RB.new 81 w1 1 (some ⟨g,0,none⟩) 512 512).fr hf2 (fun e=>by have:=HL.out;omega));have Y4:=hid ((HX1.out.keep (Below.alloc (Below.refl _ _) (Nat.le_refl _) _)).fr hf2 (fun e=>by have:=HG.out;simp at this;omega));obtain ⟨y0,y1,y2,y3⟩:=Y5.out.cells;obtain ⟨z0,z1,z2,z3⟩:=Y4.out.cells;clear hr2 hf2))
 refine bodyPost_ret (ret_pg rfl (by intro W;kernel_rfl) (by intro W;kernel_rfl) rfl (RB.set Y4.out _ _ _ _)) rfl ?_
 have hz:w.heap.size+1≤g:=by have:=HG.out;simpa using this
 refine ⟨g,rfl,by omega,?_,below_fr ?_⟩
 ·exact (R2.out.fr (fr_two _ _ _ _) (by omega)).base (by simp)
 ·refine (Fr.of_below B1.out).trans ?_ (T:=fun k=>w.heap.size≤k) (fun j hj hk=>hk)
  refine (Fr.of_below (Below.alloc (Below.refl _ _) (Nat.le_refl _) (.cells #[.int .i64 1,.slice (some ⟨g,0,none⟩) 512 512] 81))).trans ?_ (T:=fun k=>w.heap.size≤k) (fun j hj hk=>hk)
  exact (⟨F2.out.os,F2.out.tape,F2.out.output,F2.out.size,fun k hk hn=>F2.out.blk k hk (by omega)⟩:Fr (fun k=>w.heap.size≤k) _ w2).trans (fr_two w2 w.heap.size _ _) (fun j hj hk=>by omega)
end Jrn
section
open Go.RowKit Go.Maps
open Dsk (gt hid undrew keep_old keep_cell lt_cell)
end
end Go.Proofs.YtgjgkpnjchflaaaGreatDoor
