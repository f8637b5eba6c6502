/- What octet.Get returns; no statement of the seat is proved here. -/
import Derived.Test.YtfcikkechphmaaaGreatDoorW09
import Derived.OneCell
import Derived.Test.YtfcikkechphmaaaGreatDoorW08
import Derived.Lib.AppendZerosOnto
import Derived.WalkMore
import Derived.Laws.BitsAllLaws
import Derived.Deep.LoopGhost
import Derived.Lib.SlBytesConst
set_option maxHeartbeats 16000000
set_option maxRecDepth 20000
namespace Go.Proofs.YtfcikkechphmaaaGreatDoor
namespace Jrn
open Go.RowKit
def Tell(w:World)(pa pb:Nat)(ao:Option Addr)(n cap k:Nat)(W:World):Prop:=
 W.heap[pa]? = some (.cells #[.int .i64 (k:Int)] 3 (0,0))∧W.heap[pb]? = some (.cells #[.slice ao n cap] 48 (0,0))∧w.heap.size≤pa∧Below w.heap.size w W
theorem teller_any(ao:Option Addr)(n cap:Nat)(w:World):Calls Tryz.prog 303 #[.slice ao n cap] w fun e w'=>e=.returned (.func (.func 328) #[] #[.pointer (some ⟨w.heap.size+1,0,none⟩),.pointer (some ⟨w.heap.size,0,none⟩)])∧Tell w (w.heap.size+1) w.heap.size ao n cap 0 w':=by
 go_enter Tryz.func303,Tryz.ntmps303
 go_wp2
 go_ret
 refine ⟨rfl,?_,?_,by omega,Below.alloc (Below.alloc (Below.refl _ _) (Nat.le_refl _) _) (by simp) _⟩
 ·have:=heap_alloc_new (w.alloc (Obj.cells #[Value.slice ao n cap] 48)) (Obj.cells #[Value.int IntKind.i64 0] 3)
  simpa using this
 ·rw [Below.heap_alloc _ _ _ (by simp)]
  exact heap_alloc_new w _
theorem tell_more(w:World)(pa pb:Nat)(ao:Option Addr)(n cap:Nat)(xs:List Nat)(h:Rd w ao n cap xs)(hn:n≤9223372036854775807)(k:Nat)(W:World)(hT:Tell w pa pb ao n cap k W)(hk:k<n) :
  Calls Tryz.prog 328 #[.pointer (some ⟨pa,0,none⟩),.pointer (some ⟨pb,0,none⟩)] W fun e w'=>e=.returned (.tuple #[.int .u8 ((xs.getD k 0:Nat):Int),.bool true])∧Tell w pa pb ao n cap (k+1) w':=by
 obtain ⟨b,off,rfl,hc⟩:=h.2.2.2 (by omega)
 have hck:=hc k hk
 have hbl:b<w.heap.size:=lt_cell (w:=w) hck
 obtain ⟨ha,hb,hp,hB⟩:=hT
 have ca:=cell_of_one ha
 have cb:=cell_of_one hb
 have fa:=free_of_one ha
 have hne:¬b=pa:=by omega
 have hne2:¬pb=pa:=by rintro rfl;rw [ha]at hb;simp at hb
 have hcW:=keep_old hB hck
 generalize ((xs.getD k 0:Nat):Int)=X at *
 have hk':((k:Int) == (n:Int))=false:=by simp;omega
 have ha':=hid ha
 have hb':=hid hb
 have hB':=hid hB
 clear hc h hck ha hb hB
 go_enter Tryz.func328,Tryz.ntmps328
 go_wp2
 go_ret2
 refine ⟨rfl,?_,?_,hp,Below.setCell hB'.out hp _⟩
 ·rw [one_setCell ha'.out];simp
 ·rw [heap_setCell_other W ⟨pa,0,none⟩ pb _ (by simpa using hne2)]
  exact hb'.out
theorem gather_tell(pa pb:Nat)(xs:List Nat)(hx:∀ x∈xs,x<256)(s:Nat)(l:Bool)(hs:s≤xs.length)(h8:s≤8)(St:Nat→World→Prop)
  (hmore:∀ k W,St k W→k<xs.length→Calls Tryz.prog 328 #[.pointer (some ⟨pa,0,none⟩),.pointer (some ⟨pb,0,none⟩)] W fun e w'=>e=.returned (.tuple #[.int .u8 ((xs.getD k 0:Nat):Int),.bool true])∧St (k+1) w')
  (w:World) (h0:St 0 w) :
  Calls Tryz.prog 294 #[.func (.func 328) #[] #[.pointer (some ⟨pa,0,none⟩),.pointer (some ⟨pb,0,none⟩)],.int .i64 s,.bool l] w fun e w'=>
   e=.returned (.int .u64 (psum xs s l s:Nat))∧St s w':=by
 have hmore':=hid hmore
 have hx':=hid hx
 have h0':=hid h0
 clear hmore hx h0
 go_enter Tryz.func294,Tryz.ntmps294
 go_wp2
 go_loopw [7,12] (fun a c W=>∃ (i:Nat),i≤s∧a=.int .u64 (psum xs s l i:Nat)∧c=.int .i64 (i:Int)∧St i W) (fun _ c _=>s - (intOf c).toNat)
 case atStart=>exact ⟨0,by omega,rfl,rfl,h0'.out⟩
 case round=>
  obtain ⟨i,hi,rfl,rfl,hS⟩:=hrel
  have hS':=hid hS
  clear hS
  by_cases his:i<s
  ·have c:=hid (hmore'.out i wr hS'.out (by omega))
   obtain ⟨sh,q,csh,_,hshl,_⟩:=shift_named (xs.getD i 0) i s l his h8
   have hor:=bits_or_u64_nat (psum xs s l i) (xs.getD i 0*2 ^ (8*place l s i)) (psum_lt xs s l hx'.out hs h8 i (by omega)) (getD_term_lt xs s l hx'.out hs h8 i his)
   rw [psum_or xs s l hx'.out hs i his]at hor
   have hw:IntKind.u64.wrap ((xs.getD i 0*2 ^ (8*place l s i):Nat):Int)=((xs.getD i 0*2 ^ (8*place l s i):Nat):Int):=by
    rw [IntKind.wrap_u64];have:=getD_term_lt xs s l hx'.out hs h8 i his;omega
   rw [hw]at hshl
   have hX2:=getD_lt hx'.out i (by omega)
   have csh':=hid csh
   clear hw csh
   generalize xs.getD i 0*2 ^ (8*place l s i)=t at *
   obtain ⟨P1,hP1⟩:∃ P,P=psum xs s l (i+1):=⟨_,rfl⟩
   rw [←hP1]at hor
   generalize psum xs s l i=P0 at *
   generalize xs.getD i 0=X at *
   have hP1':=hid hP1
   clear hP1
   go_wp2_with (first |(go_at_call 328;refine c.out.mono ?_;rintro e w1 ⟨rfl,hS1⟩) |(go_at_call 304;refine (csh'.out _).mono ?_;rintro e w2 ⟨rfl,hw2⟩;obtain rfl:=hw2.symm))
   exact ⟨⟨i+1,by omega,by rw [hP1'.out],by go_num,hS1⟩,by simp [intOf];omega⟩
  ·obtain rfl:i=s:=by omega
   go_wp2
   go_ret
   exact ⟨rfl,hS'.out⟩
theorem get_any(ao:Option Addr)(n cap:Nat)(xs:List Nat)(s:Int)(l:Bool)(w:World)(h:Rd w ao n cap xs)(hx:∀ x∈xs,x<256)(hn:n≤9223372036854775807) :
  Calls Tryz.prog 254 #[.slice ao n cap,.int .i64 s,.bool l] w fun e w'=>e=.returned (.tuple #[.int .u64 ((getV xs s l).1:Nat),.bool (getV xs s l).2])∧Below w.heap.size w w':=by
 have hl:=h.1
 subst hl
 have c27:=hid (sized_any s)
 have ct:=hid (teller_any ao xs.length cap w)
 by_cases hs:1≤s∧s≤8∧s≤(xs.length:Int)
 ·obtain ⟨k,rfl⟩:∃ k:Nat,s=(k:Int):=⟨s.toNat,by omega⟩
  have ca:=hid fun w1 h0=>gather_tell (w.heap.size+1) w.heap.size xs hx k l (by omega) (by omega) (fun k W=>Tell w (w.heap.size+1) w.heap.size ao xs.length cap k W)
   (fun k W hT hk=>tell_more w _ _ ao xs.length cap xs h hn k W hT hk) w1 h0
  rw [show (decide ((1:Int)≤(k:Int))&&decide ((k:Int)≤8))=true by simp;omega]at c27
  unfold getV
  rw [if_pos hs,Int.toNat_natCast]
  simp only
  generalize psum xs k l k=R at *
  generalize w.heap.size+1=p1 at *
  have hle:¬(xs.length:Int)<(k:Int):=by omega
  clear hx h hn hs
  go_enter Tryz.func254,Tryz.ntmps254
  go_wp2_with (first |(go_at_call 293;refine (c27.out _).mono ?_;rintro e w3 ⟨rfl,hw3⟩;obtain rfl:=hw3.symm) |(go_at_call 303;refine ct.out.mono ?_;rintro e w1 ⟨rfl,hT⟩;replace hT:=hid hT) |(go_at_call 294;refine (ca.out _ hT.out).mono ?_;rintro e w2 ⟨rfl,hT2⟩;replace hT2:=hid hT2))
  go_ret2
  exact ⟨rfl,hT2.out.2.2.2⟩
 ·unfold getV
  rw [if_neg hs]
  simp only
  by_cases hz:1≤s∧s≤8
  ·rw [show (decide (1≤s)&&decide (s≤8))=true by simp;omega]at c27
   have hle:(xs.length:Int)<s:=by omega
   clear hx h hn hs
   go_enter Tryz.func254,Tryz.ntmps254
   go_wp2_with (go_at_call 293;refine (c27.out _).mono ?_;rintro e w3 ⟨rfl,hw3⟩;obtain rfl:=hw3.symm)
   go_ret2
   exact ⟨rfl,Below.refl _ _⟩
  ·rw [show (decide (1≤s)&&decide (s≤8))=false by simp;omega]at c27
   clear hx h hn hs
   go_enter Tryz.func254,Tryz.ntmps254
   go_wp2_with (go_at_call 293;refine (c27.out _).mono ?_;rintro e w3 ⟨rfl,hw3⟩;obtain rfl:=hw3.symm)
   go_ret2
   exact ⟨rfl,Below.refl _ _⟩
end Jrn
namespace Jrn
open Go.RowKit
def Pv2(n:Int)(b o cap:Nat):Value:=.agg #[.int .i64 n,.slice (some ⟨b,o,none⟩) 512 cap]
theorem Rd.from{w:World}{b o n cap:Nat}{xs:List Nat}(h:Rd w (some ⟨b,o,none⟩) n cap xs){i:Nat}(hi:i<n):Rd w (some ⟨b,o+i,none⟩) (n - i) (cap - i) (xs.drop i):=by
 obtain ⟨hl,hc,hno,hat⟩:=h
 refine ⟨by rw [List.length_drop,hl],by omega,fun h=>(by cases h),fun hp=>⟨b,o+i,rfl,fun t ht=>?_⟩⟩
 obtain ⟨b',off',e,hcell⟩:=hat (by omega)
 simp only [Option.some.injEq,Addr.mk.injEq,and_true]at e
 obtain ⟨rfl,rfl⟩:=e
 have:=hcell (i+t) (by omega)
 rw [show o+i+t=o+(i+t) by omega,this]
 simp [List.getD,List.getElem?_drop]
def numAt(xs:List Nat)(i s:Nat):Nat:=psum (xs.drop i) s false s
theorem numAt_getV(xs:List Nat)(i s:Nat)(h1:1≤s)(h8:s≤8)(hs:i+s≤xs.length):getV (xs.drop i) (s:Int) false=(numAt xs i s,true):=by
 unfold getV numAt
 rw [if_pos ⟨by omega,by omega,by rw [List.length_drop];omega⟩,Int.toNat_natCast]
theorem tell_any(num:Int)(b o cap:Nat)(xs:List Nat)(i s:Nat)(w:World)(h:Rd w (some ⟨b,o,none⟩) 512 cap xs)(hx:∀ x∈xs,x<256)(h1:1≤s)(h8:s≤8)(hs:i+s≤512) :
  Calls Tryz.prog 182 #[Pv2 num b o cap,.int .i64 (i:Int),.int .i64 (s:Int)] w fun e w'=>e=.returned (.int .i64 (wrap64 (numAt xs i s:Int)))∧Below w.heap.size w w':=by
 have hl:=h.1
 have hcp:=h.2.1
 have hb2:Below w.heap.size w (w.alloc (.cells #[.int .i64 num,.slice (some ⟨b,o,none⟩) 512 cap] 131)):=Below.alloc (Below.refl _ _) (Nat.le_refl _) _
 have cg:=hid (fun w1 (hb1:Below w.heap.size w w1)=>get_any (some ⟨b,o+i,none⟩) (512 - i) (cap - i) (xs.drop i) (s:Int) false w1 ((h.from (by omega)).keep hb1) (fun x hx'=>hx x (List.mem_of_mem_drop hx')) (by omega))
 rw [numAt_getV xs i s h1 h8 (by omega)]at cg
 have k1:¬(512:Int)<(i:Int):=by omega
 have k2:((512:Int) - (i:Int))=((512 - i:Nat):Int):=by omega
 have k3:((cap:Int) - (i:Int))=((cap - i:Nat):Int):=by omega
 have HB2:=hid hb2
 clear h hx hb2
 generalize numAt xs i s=R at *
 unfold Pv2
 go_enter Tryz.func182,Tryz.ntmps182
 go_wp2_with (go_at_call 254;refine (cg.out _ HB2.out).mono ?_;rintro e w2 ⟨rfl,hT2⟩;replace hT2:=hid hT2)
 go_ret
 exact ⟨rfl,gt HB2.out hT2.out⟩
theorem numAt_lt(xs:List Nat)(i s:Nat)(hx:∀ x∈xs,x<256)(hs:i+s≤xs.length):numAt xs i s<2 ^ (8*s):=by
 unfold numAt
 obtain ⟨q,hq,e⟩:=psum_big (xs.drop i) s (fun x h=>hx x (List.mem_of_mem_drop h)) (by rw [List.length_drop];omega) s (Nat.le_refl _)
 rw [e];simpa using hq
theorem wrap_small(n:Nat)(h:n<9223372036854775808):wrap64 (n:Int)=(n:Int):=by
 unfold wrap64;omega
theorem tell4(num:Int)(b o cap:Nat)(xs:List Nat)(i:Nat)(w:World)(h:Rd w (some ⟨b,o,none⟩) 512 cap xs)(hx:∀ x∈xs,x<256)(hs:i+4≤512) :
  Calls Tryz.prog 182 #[Pv2 num b o cap,.int .i64 (i:Int),.int .i64 4] w fun e w'=>e=.returned (.int .i64 (numAt xs i 4:Int))∧Below w.heap.size w w':=by
 have:=tell_any num b o cap xs i 4 w h hx (by omega) (by omega) hs
 rw [wrap_small _ (Nat.lt_of_lt_of_le (numAt_lt xs i 4 hx (by rw [h.1];omega)) (by decide))]at this
 exact this
theorem first_any(num:Int)(b o cap:Nat)(xs:List Nat)(w:World)(h:Rd w (some ⟨b,o,none⟩) 512 cap xs)(hx:∀ x∈xs,x<256) :
  Calls Tryz.prog 124 #[Pv2 num b o cap] w fun e w'=>e=.returned (.int .i64 (numAt xs 8 4:Int))∧Below w.heap.size w w':=by
 have HB:=hid (show Below w.heap.size w (w.alloc (.cells #[.int .i64 num,.slice (some ⟨b,o,none⟩) 512 cap] 133)) from Below.alloc (Below.refl _ _) (Nat.le_refl _) _)
 have c:=hid (tell4 num b o cap xs 8 _ (h.keep HB.out) hx (by omega))
 clear h hx
 generalize numAt xs 8 4=R at *
 unfold Pv2 at *
 go_enter Tryz.func124,Tryz.ntmps124
 go_wp2_with (go_at_call 182;refine c.out.mono ?_;rintro e w2 ⟨rfl,hT2⟩;replace hT2:=hid hT2)
 go_ret
 exact ⟨rfl,gt HB.out hT2.out⟩
theorem count_any(num:Int)(b o cap:Nat)(xs:List Nat)(w:World)(h:Rd w (some ⟨b,o,none⟩) 512 cap xs)(hx:∀ x∈xs,x<256) :
  Calls Tryz.prog 125 #[Pv2 num b o cap] w fun e w'=>e=.returned (.int .i64 (numAt xs 12 4:Int))∧Below w.heap.size w w':=by
 have HB:=hid (show Below w.heap.size w (w.alloc (.cells #[.int .i64 num,.slice (some ⟨b,o,none⟩) 512 cap] 133)) from Below.alloc (Below.refl _ _) (Nat.le_refl _) _)
 have c:=hid (tell4 num b o cap xs 12 _ (h.keep HB.out) hx (by omega))
 clear h hx
 generalize numAt xs 12 4=R at *
 unfold Pv2 at *
 go_enter Tryz.func125,Tryz.ntmps125
 go_wp2_with (go_at_call 182;refine c.out.mono ?_;rintro e w2 ⟨rfl,hT2⟩;replace hT2:=hid hT2)
 go_ret
 exact ⟨rfl,gt HB.out hT2.out⟩
theorem size_any(num:Int)(b o cap:Nat)(xs:List Nat)(w:World)(h:Rd w (some ⟨b,o,none⟩) 512 cap xs)(hx:∀ x∈xs,x<256) :
  Calls Tryz.prog 128 #[Pv2 num b o cap] w fun e w'=>e=.returned (.int .i64 (numAt xs 4 4:Int))∧Below w.heap.size w w':=by
 have HB:=hid (show Below w.heap.size w (w.alloc (.cells #[.int .i64 num,.slice (some ⟨b,o,none⟩) 512 cap] 205)) from Below.alloc (Below.refl _ _) (Nat.le_refl _) _)
 have c:=hid (tell4 num b o cap xs 4 _ (h.keep HB.out) hx (by omega))
 clear h hx
 generalize numAt xs 4 4=R at *
 unfold Pv2 at *
 go_enter Tryz.func128,Tryz.ntmps128
 go_wp2_with (go_at_call 182;refine c.out.mono ?_;rintro e w2 ⟨rfl,hT2⟩;replace hT2:=hid hT2)
 go_ret
 exact ⟨rfl,gt HB.out hT2.out⟩
theorem next_any(num:Int)(b o cap:Nat)(xs:List Nat)(w:World)(h:Rd w (some ⟨b,o,none⟩) 512 cap xs)(hx:∀ x∈xs,x<256) :
  Calls Tryz.prog 131 #[Pv2 num b o cap] w fun e w'=>e=.returned (.int .i64 (numAt xs 0 4:Int))∧Below w.heap.size w w':=by
 have HB:=hid (show Below w.heap.size w (w.alloc (.cells #[.int .i64 num,.slice (some ⟨b,o,none⟩) 512 cap] 205)) from Below.alloc (Below.refl _ _) (Nat.le_refl _) _)
 have c:=hid (tell4 num b o cap xs 0 _ (h.keep HB.out) hx (by omega))
 clear h hx
 generalize numAt xs 0 4=R at *
 unfold Pv2 at *
 go_enter Tryz.func131,Tryz.ntmps131
 go_wp2_with (go_at_call 182;refine c.out.mono ?_;rintro e w2 ⟨rfl,hT2⟩;replace hT2:=hid hT2)
 go_ret
 exact ⟨rfl,gt HB.out hT2.out⟩
end Jrn
namespace Jrn
open Go.RowKit
def ctd(n:Int):Bool:=decide (0≤n)&&decide (n≤4000)
theorem ctd_iff(n:Int):ctd n=true↔0≤n∧n≤4000:=by simp [ctd]
theorem counted_any(n:Int)(w:World):Calls Tryz.prog 314 #[.int .i64 n] w fun e w'=>e=.returned (.bool (ctd n))∧w'=w:=by
 unfold ctd
 by_cases h:0≤n<;>by_cases h':n≤4000
 all_goals
  go_enter Tryz.func314,Tryz.ntmps314
  go_wp2
  go_ret
  simp [h,h']
def hgood(c p:Int):Bool:=ctd c&&ctd p
theorem hgood_iff(c p:Int):hgood c p=true↔(0≤c∧c≤4000)∧0≤p∧p≤4000:=by simp [hgood,ctd_iff]
theorem hgood_any(c p:Int)(n:Nat)(w:World):Calls Tryz.prog 272 #[.agg #[.int .i64 c,.int .i64 p,.int .u64 (n:Int)]] w fun e w'=>e=.returned (.bool (hgood c p))∧Below w.heap.size w w':=by
 have c1:=hid (counted_any c)
 have c2:=hid (counted_any p)
 unfold hgood
 generalize ctd c=b1 at *
 generalize ctd p=b2 at *
 cases b1 with
 | true=>
  go_enter Tryz.func272,Tryz.ntmps272
  go_wp2_with (first |(go_at_call 314;refine (c1.out _).mono ?_;rintro e w1 ⟨rfl,hw1⟩;obtain rfl:=hw1.symm;clear c1) |(go_at_call 314;refine (c2.out _).mono ?_;rintro e w1 ⟨rfl,hw1⟩;obtain rfl:=hw1.symm))
  go_ret
  exact ⟨by simp,Below.alloc (Below.refl _ _) (Nat.le_refl _) _⟩
 | false=>
  go_enter Tryz.func272,Tryz.ntmps272
  go_wp2_with (go_at_call 314;refine (c1.out _).mono ?_;rintro e w1 ⟨rfl,hw1⟩;obtain rfl:=hw1.symm)
  go_ret
  exact ⟨by simp,Below.alloc (Below.refl _ _) (Nat.le_refl _) _⟩
end Jrn
namespace Jrn
open Go.RowKit
end Jrn
namespace Jrn
open Go.RowKit
theorem xor_nat(a b:Nat)(z:Int)(hz:z=(b:Int))(ha:a<4294967296)(hb:b<4294967296):bits .xor .u32 (a:Int) z=((a ^^^ b:Nat):Int):=by
 subst hz
 exact u32_xor_nat a b ha hb
theorem not_u32(s:Nat)(h:s<4294967296):bits .xor .u32 IntKind.u32.max (s:Int)=((s ^^^ 4294967295:Nat):Int):=by
 rw [show IntKind.u32.max=((4294967295:Nat):Int) from rfl,u32_xor_nat 4294967295 s (by decide) h,Nat.xor_comm]
theorem drop_step(xs:List Nat)(i:Nat)(h:i<xs.length):xs.drop i=xs.getD i 0::xs.drop (i+1):=by
 rw [List.drop_eq_getElem_cons h]
 simp [List.getD,List.getElem?_eq_getElem h]
theorem get_lt{xs:List Nat}(hx:∀ x∈xs,x<256){i:Nat}(h:i<xs.length):xs.getD i 0<256:=by
 rw [List.getD_eq_getElem?_getD,List.getElem?_eq_getElem h]
 exact hx _ (List.getElem_mem h)
theorem and_15(a:Nat)(h:a<4294967296):bits .and .u32 (a:Int) 15=((a % 16:Nat):Int):=by
 rw [show (15:Int)=((15:Nat):Int) from rfl,u32_and_nat a 15 h (by decide),nat_mask4]
theorem four_ex(R:Nat)(h:R<4294967296)(w:World)(hT:Tab w):∃ (k:Nat) (t q:Int),k<16∧bits .and .u32 (R:Int) 15=(k:Int)∧w.cell? ⟨0,k,none⟩=some (.int .u32 t)∧(R:Int)/16=q∧bits .xor .u32 q t=((txn 4 R:Nat):Int):=by
 refine ⟨R % 16,((txn 4 (R % 16):Nat):Int),((R/16:Nat):Int),by omega,and_15 R h,hT _ (by omega),by omega,?_⟩
 rw [u32_xor_nat _ _ (by omega) (txn_lt 4 (by omega)),←txn_four]
theorem byte_two(r c:Nat):byte r c=txn 4 (txn 4 (r ^^^ c)):=by unfold byte;rw [←txn_add]
theorem add_any(s:Nat)(ao:Option Addr)(n cap:Nat)(xs:List Nat)(w:World)(hs:s<4294967296)(h:Rd w ao n cap xs)(hx:∀ x∈xs,x<256)(hn:n≤9223372036854775807)(hT:Tab w) :
  Calls Tryz.prog 313 #[.int .u32 (s:Int),.slice ao n cap] w fun e w'=>e=.returned (.int .u32 ((addN s xs:Nat):Int))∧w'=w:=by
 have hT':=hid hT
 have hr:=hid h
 have hx':=hid hx
 have sg:IntKind.u32.signed=false:=rfl
 have e1:=not_u32 s hs
 have hS:=xor_lt hs (show 4294967295<4294967296 by decide)
 obtain ⟨S,hSe⟩:∃ S,S=s ^^^ 4294967295:=⟨_,rfl⟩
 have hA:addN s xs=fold S xs ^^^ 4294967295:=by rw [hSe];rfl
 rw [hA]
 rw [←hSe]at e1 hS
 clear hT h hx hSe hA
 go_enter Tryz.func313,Tryz.ntmps313
 go_wp2
 go_loopw [5,12] (fun r c W=>∃ (i R:Nat),i≤n∧c=.int .i64 (i:Int)∧r=.int .u32 (R:Int)∧R<4294967296∧fold R (xs.drop i)=fold S xs∧W=w) (fun _ c _=>n - (intOf c).toNat)
 case atStart=>exact ⟨0,S,by omega,rfl,rfl,hS,by simp,rfl⟩
 case round=>
  obtain ⟨i,R,hi,rfl,rfl,hR,he,rfl⟩:=hrel
  have he':=hid he
  clear he e1
  by_cases hin:i<n
  ·obtain ⟨b,off,rfl,hc⟩:=hr.out.2.2.2 (by omega)
   have hci:=hc i hin
   have hl:=hr.out.1
   have hc8:=get_lt hx'.out (i:=i) (by omega)
   have hd:=hid (drop_step xs i (by omega))
   generalize xs.getD i 0=c at *
   have hx1:=xor_nat R c c rfl hR (by omega)
   have hR1:=xor_lt hR (show c<4294967296 by omega)
   have hby:=hid (byte_two R c)
   generalize R ^^^ c=R1 at *
   obtain ⟨k1,t1,q1,hk1,ha1,hl1,hq1,hx2⟩:=four_ex R1 hR1 wr hT'.out
   have hR2:=txn_lt 4 hR1
   generalize txn 4 R1=R2 at *
   obtain ⟨k2,t2,q2,hk2,ha2,hl2,hq2,hx3⟩:=four_ex R2 hR2 wr hT'.out
   have hR3:=txn_lt 4 hR2
   generalize txn 4 R2=R3 at *
   clear hc
   go_wp2
   refine ⟨⟨i+1,R3,by omega,by go_num,rfl,hR3,?_,trivial⟩,by simp [intOf];omega⟩
   rw [←he'.out,hd.out,fold_cons,hby.out]
  ·obtain rfl:i=n:=by omega
   have e2:=not_u32 R hR
   go_wp2
   go_ret
   have:=he'.out
   rw [List.drop_eq_nil_of_le (by have:=hr.out.1;omega)]at this
   rw [←this]
   exact ⟨rfl,rfl⟩
theorem of_any(ao:Option Addr)(n cap:Nat)(xs:List Nat)(w:World)(h:Rd w ao n cap xs)(hx:∀ x∈xs,x<256)(hn:n≤9223372036854775807)(hT:Tab w) :
  Calls Tryz.prog 270 #[.slice ao n cap] w fun e w'=>e=.returned (.int .u32 ((addN 0 xs:Nat):Int))∧w'=w:=by
 have c:=hid (add_any 0 ao n cap xs w (by decide) h hx hn hT)
 clear h hx hT
 go_enter Tryz.func270,Tryz.ntmps270
 go_wp2_with (go_at_call 313;refine c.out.mono ?_;rintro e w1 ⟨rfl,hw1⟩;obtain rfl:=hw1.symm)
 go_ret
 exact ⟨rfl,rfl⟩
end Jrn
namespace Jrn
open Go.RowKit
def mag:List Nat:=[104,97,99,104,117,114]
def hd22(c p n:Nat):List Nat:=mag++putN c 4 false++putN p 4 false++putN n 8 false
def hd26(c p n:Nat):List Nat:=hd22 c p n++putN (addN 0 (hd22 c p n)) 4 false
def headN(c p n:Nat)(wh:Bool):List Nat:=hd26 c p n++List.replicate 101 0++[if wh then 165 else 0]
theorem putN_length(v s:Nat)(l:Bool):(putN v s l).length=s:=up_length _ _ _
theorem up_bytes(F:Nat→Nat)(hF:∀ i,F i<256)(i k:Nat):∀ x∈up F i k,x<256:=by
 induction k generalizing i with
 | zero=>intro x h;cases h
 | succ k ih=>
  intro x h
  simp only [up,List.mem_cons]at h
  rcases h with rfl |h
  ·exact hF i
  ·exact ih _ x h
theorem putN_bytes(v s:Nat)(l:Bool):∀ x∈putN v s l,x<256:=up_bytes _ (fun _=>by omega) _ _
theorem app_bytes{a b:List Nat}(ha:∀ x∈a,x<256)(hb:∀ x∈b,x<256):∀ x∈a++b,x<256:=by
 intro x h
 rcases List.mem_append.1 h with h |h
 ·exact ha x h
 ·exact hb x h
theorem zero_bytes(k:Nat):∀ x∈List.replicate k 0,x<256:=by
 intro x h
 have:=List.eq_of_mem_replicate h
 omega
theorem mag_bytes:∀ x∈mag,x<256:=by decide
theorem hd22_length(c p n:Nat):(hd22 c p n).length=22:=by simp [hd22,putN_length,mag]
theorem hd22_bytes(c p n:Nat):∀ x∈hd22 c p n,x<256:=app_bytes (app_bytes (app_bytes mag_bytes (putN_bytes _ _ _)) (putN_bytes _ _ _)) (putN_bytes _ _ _)
def HB(t:TypeId)(W:World)(q:Nat)(c p:Int)(n:Nat):Prop:=W.heap[q]? = some (.cells #[.int .i64 c,.int .i64 p,.int .u64 (n:Int)] t (0,0))
variable {n q:Nat} {c p:Int} {W:World} {t:TypeId}
theorem HB.cells(h:HB t W q c p n) :
  W.cell? ⟨q,0,none⟩=some (.int .i64 c)∧W.cell? ⟨q,1,none⟩=some (.int .i64 p)∧W.cell? ⟨q,2,none⟩=some (.int .u64 (n:Int))∧W.frozen? ⟨q,0,none⟩=false∧W.frozen? ⟨q,1,none⟩=false∧W.frozen? ⟨q,2,none⟩=false:=by
 unfold HB at h
 simp [World.cell?,World.frozen?,h]
theorem HB.lt(h:HB t W q c p n):q<W.heap.size:=lt_of_block h
theorem HB.keep{W':World}(h:HB t W q c p n)(hb:Below W.heap.size W W'):HB t W' q c p n:=by
 unfold HB;rw [hb.block q h.lt];exact h
theorem HB.new(t:TypeId)(w:World)(c p:Int)(n:Nat):HB t (w.alloc (.cells #[.int .i64 c,.int .i64 p,.int .u64 (n:Int)] t)) w.heap.size c p n:=heap_alloc_new w _
theorem make_lit(z:Int)(K:Nat)(hz:z=(K:Int))(hK:K≤1000)(w:World) :
  (Instr.makeSlice 48 (.int .i64 z) (.int .i64 z)).run Tryz.prog w=.ok (.slice (some ⟨w.heap.size,0,none⟩) K K) (w.alloc (.cells (Array.replicate K (.int .u8 0)) 5)):=by
 subst hz
 exact make_any K K (Nat.le_refl _) (by omega) w
end Jrn
namespace Jrn
open Go.RowKit
theorem own_zeros(w:World)(K:Nat)(hK:K≤1000):(w.alloc (.cells (Array.replicate K (.int .u8 0)) 5)).ownsRow w.heap.size 5 1 (.slice (some ⟨w.heap.size,0,none⟩) K K) K (bs (List.replicate K 0)):=by
 refine own_of_row (cur:=List.replicate K (.int .u8 0)) (Nat.le_refl _) (copy_hg w K) (by simp) (by omega) ?_ (by simp) (Nat.le_refl _)
 simp [bs]
theorem own_base{w:World}{B B' n:Nat}{v:Value}{xs:List Value}(h:w.ownsRow B' 5 1 v n xs)(hB:B≤B'):w.ownsRow B 5 1 v n xs:=by
 refine ⟨h.1,?_⟩
 rcases h.2 with h1 | ⟨g,cap,cur,e,hb,h2⟩
 ·exact Or.inl h1
 ·exact Or.inr ⟨g,cap,cur,e,by omega,h2⟩
end Jrn
end Go.Proofs.YtfcikkechphmaaaGreatDoor
