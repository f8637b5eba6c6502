/- Laws of mine for regions that draw their order, with late operations, with their side facts found by themselves; no statement of the seat is proved here. -/
import Derived.Test.YtfcikkechphmaaaGreatDoorW11
import Derived.Test.YtfcikkechphmaaaGreatDoorW12
import Derived.Test.YtfcikkechphmaaaGreatDoorW10
import Derived.Deep.DeepCutAuto
import Derived.Deep.RegionLaw
import Derived.Test.YtfcikkechphmaaaGreatDoorW09
import Derived.Laws.CopyOwn
import Derived.ChangeKeysEq
set_option maxHeartbeats 16000000
set_option maxRecDepth 20000
namespace Go.Proofs.YtfcikkechphmaaaGreatDoor
section
open Go.RowKit Cch
section
variable {P:Program} {l:List Oper} {Q:Exit→Act→World→Prop} {md:Region.Mode} {S:World→Prop} {E:Nat→Bool} {oi:Oper} {v:Value} {fuel:Nat} {listed:Array Bool} {a a':Act} {w:World}
theorem gkt(i:Nat)(k:wpAnyK P md l.toArray Q S E fuel (listed.setIfInBounds i true) a' w)
  (hi:l[i]? = some oi:=by exact rfl) (hs:Region.noSelect l.toArray=true:=by kernel_rfl) (hf:Region.free md l.toArray listed i=true:=by kernel_rfl) (hr:(Region.ready md l.toArray listed).contains i=true:=by kernel_rfl)
  (hE:(!E i&&waits md l.toArray E i&&!came E listed)=true:=by kernel_rfl)
  (hQ:∀ c a w,Q (.panic c) (a.put oi.dst v) w→Q (.panic c) a w:=by exact fun _ _ _ h=>h) (hw:Region.wanted oi (yielded l.toArray a.tmps)=true:=by rfl)
  (h:∀ w,S w→(execOp a.eval oi).run P w=.ok (.value v) w:=by intro W hSw;go_simp;first |done |with_reducible rfl) (hS:S w:=by assumption)
  (hA:a.put oi.dst v=a':=by (try simp only [Act.put,sA,sZ,sS]);rfl):wpAnyK P md l.toArray Q S E (fuel+1) listed a w:=
 wpAnyK_take (at_op _ _ _ hi) hs hf hr hE hQ (Or.inl ⟨hw,h⟩) hS (hA▸k)
theorem gkp(i:Nat)(k:wpAnyK P md l.toArray Q S E fuel (listed.setIfInBounds i true) a' w)
  (hi:l[i]? = some oi:=by exact rfl) (hs:Region.noSelect l.toArray=true:=by kernel_rfl) (hf:Region.free md l.toArray listed i=true:=by kernel_rfl) (hr:(Region.ready md l.toArray listed).contains i=true:=by kernel_rfl)
  (hE:E i=false:=by kernel_rfl)
  (hQ:∀ c a w,Q (.panic c) (a.put oi.dst v) w→Q (.panic c) a w:=by exact fun _ _ _ h=>h) (hw:Region.wanted oi (yielded l.toArray a.tmps)=true:=by rfl)
  (h:∀ w,True→(execOp a.eval oi).run P w=.ok (.value v) w:=by intro W hSw;go_simp;first |done |with_reducible rfl) (hS:S w∨came E listed=true:=by first |exact Or.inl (by assumption) |exact Or.inr (by kernel_rfl))
  (hA:a.put oi.dst v=a':=by (try simp only [Act.put,sA,sZ,sS]);rfl):wpAnyK P md l.toArray Q S E (fuel+1) listed a w:=
 wpAnyK_pure (at_op _ _ _ hi) hs hf hr hE hQ (Or.inl ⟨hw,h⟩) hS (hA▸k)
theorem gku(i:Nat)(k:wpAnyK P md l.toArray Q S E fuel (listed.setIfInBounds i true) a' w)
  (hi:l[i]? = some oi:=by exact rfl) (hs:Region.noSelect l.toArray=true:=by kernel_rfl) (hf:Region.free md l.toArray listed i=true:=by kernel_rfl) (hr:(Region.ready md l.toArray listed).contains i=true:=by kernel_rfl)
  (hE:E i=false:=by kernel_rfl)
  (hQ:∀ c a w,Q (.panic c) (a.put oi.dst undef) w→Q (.panic c) a w:=by exact fun _ _ _ h=>h) (hw:Region.wanted oi (yielded l.toArray a.tmps)=false:=by kernel_rfl)
  (hS:S w∨came E listed=true:=by first |exact Or.inl (by assumption) |exact Or.inr (by kernel_rfl))
  (hA:a.put oi.dst undef=a':=by (try simp only [Act.put,sA,sZ,sS]);rfl):wpAnyK P md l.toArray Q S E (fuel+1) listed a w:=
 wpAnyK_pure (at_op _ _ _ hi) hs hf hr hE hQ (Or.inr ⟨hw,rfl⟩) hS (hA▸k)
theorem gk1(i:Nat)(h:∀ K':Act→World→Prop,Shut (∀ a w,S w→(S w→wpAnyK P md l.toArray Q S E fuel (listed.setIfInBounds i true) a w)→K' a w)→if Region.wanted oi (yielded l.toArray a.tmps)=true then Oper.wp P oi a w K' Q else K' (a.put oi.dst undef) w)
  (hi:l[i]? = some oi:=by exact rfl) (hr:Region.ready md l.toArray listed = [i]:=by kernel_rfl):wpAnyK P md l.toArray Q S E (fuel+1) listed a w:=
 wpAnyK_ready (rs:=[i]) hr (by simp) (AllReadyK.cons (at_op _ _ _ hi) h AllReadyK.nil)
theorem gkl(i:Nat)(h:∀ K':Act→World→Prop,Shut (∀ a w,wpAnyK P md l.toArray Q S E fuel (listed.setIfInBounds i true) a w→K' a w)→if Region.wanted oi (yielded l.toArray a.tmps)=true then Oper.wp P oi a w K' Q else K' (a.put oi.dst undef) w)
  (hi:l[i]? = some oi:=by exact rfl) (hr:Region.ready md l.toArray listed = [i]:=by kernel_rfl) (hE:came E (listed.setIfInBounds i true)=true:=by kernel_rfl):wpAnyK P md l.toArray Q S E (fuel+1) listed a w:=
 wpAnyK_ready (rs:=[i]) hr (by simp) (AllReadyK.late (at_op _ _ _ hi) hE h AllReadyK.nil)
end
end
namespace Jrn
open Go.RowKit
open Cch (Fr wpAnyK wpAnyK_done wp_region_K)
def Row5(w:World)(B g cap:Nat)(xs:List Nat):Prop:=w.ownsRow B 5 1 (.slice (some ⟨g,0,none⟩) 512 cap) 512 (bs xs)
variable {xs:List Nat} {B g:Nat} {w:World}
theorem Row5.rd{cap:Nat}(h:Row5 w B g cap xs):Rd w (some ⟨g,0,none⟩) 512 cap xs:=rd_own h
theorem Row5.len{cap:Nat}(h:Row5 w B g cap xs):xs.length=512:=h.rd.1
theorem Row5.cap{cap:Nat}(h:Row5 w B g cap xs):512≤cap:=h.rd.2.1
theorem Row5.parts{cap:Nat}(h:Row5 w B g cap xs):B≤g∧∃ cur:Array Value,w.heap[g]? = some (.cells cur 5 (0,0))∧cur.size=cap∧cap≤9223372036854775807∧cur.toList.take 512=bs xs:=by
 rcases h.2 with ⟨h',_⟩ | ⟨g',cap',cur,h',hb,hg,hnc,hm,hsz,ht⟩
 ·cases h'
 simp only [Value.slice.injEq,Option.some.injEq,Addr.mk.injEq,and_true,true_and]at h'
 obtain ⟨rfl,rfl⟩:=h'
 exact ⟨hb,cur,hg,by simpa using hsz,hm,by simpa using ht⟩
theorem Row5.lt{cap:Nat}(h:Row5 w B g cap xs):g<w.heap.size:=by
 obtain ⟨_,cur,hg,_⟩:=h.parts
 exact (Array.getElem?_eq_some_iff.1 hg).1
theorem Row5.of{cap:Nat}{cur:List Value}(hB:B≤g)(hg:w.heap[g]? = some (.cells cur.toArray 5 (0,0)))(hc:cur.length=cap)(hm:cap≤9223372036854775807)(hx:cur.take 512=bs xs)(hl:xs.length=512)(h5:512≤cap):Row5 w B g cap xs:=own_of_row hB hg hc hm hx hl h5
theorem Row5.fr{E:Nat→Prop}{w':World}{cap:Nat}(h:Row5 w B g cap xs)(hf:Fr E w w')(hE:¬E g):Row5 w' B g cap xs:=by
 obtain ⟨hB,cur,hg,hs,hm,ht⟩:=h.parts
 refine Row5.of (cur:=cur.toList) hB ?_ (by simpa using hs) hm ht h.len h.cap
 rw [hf.blk g h.lt hE,hg]
theorem Row5.base{B' cap:Nat}(h:Row5 w B g cap xs)(hB:B'≤B):Row5 w B' g cap xs:=own_base h hB
end Jrn
namespace Jrn
open Go.RowKit
def RB(t:TypeId)(W:World)(q:Nat)(p:Int)(ao:Option Addr)(n cap:Nat):Prop:=W.heap[q]? = some (.cells #[.int .i64 p,.slice ao n cap] t (0,0))
variable {n cap q:Nat} {ao:Option Addr} {p:Int} {W:World} {t:TypeId}
theorem RB.cells(h:RB t W q p ao n cap) :
  W.cell? ⟨q,0,none⟩=some (.int .i64 p)∧W.cell? ⟨q,1,none⟩=some (.slice ao n cap)∧W.frozen? ⟨q,0,none⟩=false∧W.frozen? ⟨q,1,none⟩=false:=by
 unfold RB at h
 simp [World.cell?,World.frozen?,h]
theorem RB.lt(h:RB t W q p ao n cap):q<W.heap.size:=lt_of_block h
theorem RB.keep{W':World}(h:RB t W q p ao n cap)(hb:Below W.heap.size W W'):RB t W' q p ao n cap:=by
 unfold RB;rw [hb.block q h.lt];exact h
theorem RB.new(t:TypeId)(w:World)(p:Int)(ao:Option Addr)(n cap:Nat):RB t (w.alloc (.cells #[.int .i64 p,.slice ao n cap] t)) w.heap.size p ao n cap:=heap_alloc_new w _
end Jrn
namespace Jrn
open Go.RowKit
variable {a b:World} {p:Nat}
theorem grow_trans{c:World}(h:a.grownBy b (some p))(k:b.grownBy c (some p)):a.grownBy c (some p):=
 ⟨k.os.trans h.os,k.tape.trans h.tape,k.output.trans h.output,Nat.le_trans h.size k.size,fun i hi hne=>(k.block i (Nat.lt_of_lt_of_le hi h.size) hne).trans (h.block i hi hne)⟩
theorem grow_below(h:Below a.heap.size a b):a.grownBy b (some p):=⟨h.os,h.tape,h.output,h.size,fun k hk _=>h.block k hk⟩
theorem grow_cell(h:a.grownBy b (some p)){x:Addr}{v:Value}(hc:a.cell? x=some v)(hne:x.block≠p):b.cell? x=some v:=by
 rw [World.cell?_of_block (h.block x.block (lt_cell hc) (by simpa using hne))];exact hc
def SrcAt(W:World)(p:Nat)(xs:List Nat):Prop:=
 ∃ b off n cap,W.heap[p]? = some (.cells #[.bool true,.slice (some ⟨b,off,none⟩) n cap,.int .i64 0] 366 (0,0))∧Rd W (some ⟨b,off,none⟩) n cap xs∧n≤9223372036854775807∧b≠p
variable {xs:List Nat} {W:World}
theorem SrcAt.keep{W':World}(h:SrcAt W p xs)(hb:Below W.heap.size W W'):SrcAt W' p xs:=by
 obtain ⟨b,off,n,cap,hp,hr,hn,hne⟩:=h
 exact ⟨b,off,n,cap,by rw [hb.block p (lt_of_block hp)];exact hp,hr.keep hb,hn,hne⟩
variable {c:Value}
theorem src_cells{a b:Value}(h:W.heap[p]? = some (.cells #[a,b,c] 366 (0,0))) :
  W.cell? ⟨p,0,none⟩=some a∧W.cell? ⟨p,1,none⟩=some b∧W.cell? ⟨p,2,none⟩=some c∧W.frozen? ⟨p,1,none⟩=false∧W.frozen? ⟨p,2,none⟩=false:=by
 simp [World.cell?,World.frozen?,h]
variable {v:Value}
theorem src_set{a b:Value}(h:W.heap[p]? = some (.cells #[a,b,c] 366 (0,0))):(W.setCell ⟨p,1,none⟩ v).heap[p]? = some (.cells #[a,v,c] 366 (0,0)):=by
 rw [heap_setCell_same W p 1 _ 366 v h];simp
theorem grow_set(W:World)(p:Nat)(i:Nat)(v:Value):W.grownBy (W.setCell ⟨p,i,none⟩ v) (some p):=
 ⟨rfl,rfl,rfl,by simp,fun k _ hk=>heap_setCell_other W ⟨p,i,none⟩ k v (fun e=>hk (by simp [e]))⟩
variable {n cap:Nat}
theorem rd_set{i:Nat}{ao:Option Addr}(h:Rd W ao n cap xs)(hne:∀ b off,ao=some ⟨b,off,none⟩→b≠p):Rd (W.setCell ⟨p,i,none⟩ v) ao n cap xs:=by
 refine ⟨h.1,h.2.1,h.2.2.1,fun hp=>?_⟩
 obtain ⟨b,off,e,hc⟩:=h.2.2.2 hp
 exact ⟨b,off,e,fun t ht=>grow_cell (grow_set W p i v) (hc t ht) (hne b off e)⟩
theorem Rd.tail{b off c:Nat}{r:List Nat}(h:Rd W (some ⟨b,off,none⟩) n cap (c::r)):(cap=1→Rd W (some ⟨b,off,none⟩) (n - 1) (cap - 1) r)∧(¬cap=1→Rd W (some ⟨b,off+1,none⟩) (n - 1) (cap - 1) r):=by
 obtain ⟨hl,hc,hno,hat⟩:=h
 simp at hl
 constructor
 ·intro h1
  refine ⟨by omega,by omega,fun h=>(by cases h),fun hp=>?_⟩
  omega
 ·intro h1
  refine ⟨by omega,by omega,fun h=>(by cases h),fun hp=>⟨b,off+1,rfl,fun t ht=>?_⟩⟩
  obtain ⟨b',off',e,hcell⟩:=hat (by omega)
  simp only [Option.some.injEq,Addr.mk.injEq,and_true]at e
  obtain ⟨rfl,rfl⟩:=e
  have:=hcell (t+1) (by omega)
  rw [show off+1+t=off+(t+1) by omega,this]
  simp [List.getD]
theorem next_more(p c:Nat)(r:List Nat)(W:World)(h:SrcAt W p (c::r)) :
  Calls Tryz.prog 295 #[.pointer (some ⟨p,0,none⟩)] W fun e w'=>e=.returned (.tuple #[.int .u8 (c:Int),.bool true])∧SrcAt w' p r∧W.grownBy w' (some p):=by
 obtain ⟨b,off,n,cap,hp,hr,hn,hb⟩:=h
 have hl:=hr.1
 simp at hl
 obtain ⟨b',off',e,hc⟩:=hr.2.2.2 (by omega)
 simp only [Option.some.injEq,Addr.mk.injEq,and_true]at e
 obtain ⟨rfl,rfl⟩:=e
 have hc0:=hc 0 (by omega)
 simp [List.getD]at hc0
 have hcap:=hr.2.1
 obtain ⟨s0,s1,s2,f1,f2⟩:=src_cells hp
 have ht:=hr.tail
 have hr':=hid hr
 have hp':=hid hp
 have h0:((n:Int) == 0)=false:=by simp;omega
 have hn0:(0:Int)<(n:Int):=by omega
 have hn1:(1:Int)≤(n:Int):=by omega
 have ht':=hid ht
 have hl':1≤n:=by omega
 clear hc hr hp ht
 by_cases h1:cap=1
 ·have ht2:=hid (ht'.out.1 h1)
  obtain rfl:n=1:=by omega
  subst h1
  go_enter Tryz.func295,Tryz.ntmps295
  go_wp2
  go_ret2
  exact ⟨rfl,⟨_,_,_,_,src_set hp'.out,rd_set ht2.out (fun _ _ e=>by simp only [Option.some.injEq,Addr.mk.injEq,and_true]at e;rw [←e.1];exact hb),by omega,hb⟩,grow_set _ _ _ _⟩
 ·have ht2:=hid (ht'.out.2 h1)
  go_enter Tryz.func295,Tryz.ntmps295
  go_wp2
  go_ret2
  exact ⟨rfl,⟨_,_,_,_,src_set hp'.out,rd_set ht2.out (fun _ _ e=>by simp only [Option.some.injEq,Addr.mk.injEq,and_true]at e;rw [←e.1];exact hb),by omega,hb⟩,grow_set _ _ _ _⟩
theorem err_ok(p:Nat)(xs:List Nat)(W:World)(h:SrcAt W p xs):Calls Tryz.prog 242 #[.pointer (some ⟨p,0,none⟩)] W fun e w'=>e=.returned (.int .i64 0)∧W=w':=by
 obtain ⟨b,off,n,cap,hp,hr,hn,hne⟩:=h
 obtain ⟨s0,s1,s2,f1,f2⟩:=src_cells hp
 clear hp hr hn hne
 go_enter Tryz.func242,Tryz.ntmps242
 go_wp2
 go_ret
 exact ⟨rfl,rfl⟩
def On(w:World)(p:Nat)(xs:List Nat)(k:Nat)(W:World):Prop:=SrcAt W p (xs.drop k)∧w.grownBy W (some p)
theorem on_more(w:World)(p:Nat)(xs:List Nat)(k:Nat)(W:World)(h:On w p xs k W)(hk:k<xs.length) :
  Calls Tryz.prog 295 #[.pointer (some ⟨p,0,none⟩)] W fun e w'=>e=.returned (.tuple #[.int .u8 ((xs.getD k 0:Nat):Int),.bool true])∧On w p xs (k+1) w':=by
 have h1:=h.1
 rw [drop_getD xs k hk]at h1
 exact (next_more p _ _ W h1).mono fun e w' ⟨he,hs,hg⟩=>⟨he,hs,grow_trans h.2 hg⟩
theorem gather_src(p:Nat)(xs:List Nat)(hx:∀ x∈xs,x<256)(s:Nat)(l:Bool)(hs:s≤xs.length)(h8:s≤8)(St:Nat→World→Prop)
  (hmore:∀ k W,St k W→k<xs.length→Calls Tryz.prog 295 #[.pointer (some ⟨p,0,none⟩)] W fun e w'=>e=.returned (.tuple #[.int .u8 ((xs.getD k 0:Nat):Int),.bool true])∧St (k+1) w')
  (w:World) (h0:St 0 w) :
  Calls Tryz.prog 294 #[.func (.func 295) #[.pointer (some ⟨p,0,none⟩)] #[],.int .i64 s,.bool l] w fun e w'=>
   e=.returned (.int .u64 (psum xs s l s:Nat))∧St s w':=by
 have hmore':=hid hmore
 have hx':=hid hx
 have h0':=hid h0
 clear hmore hx h0
 go_enter Tryz.func294,Tryz.ntmps294
 go_wp2
 go_loopw [7,12] (fun a c W=>∃ (i:Nat),i≤s∧a=.int .u64 (psum xs s l i:Nat)∧c=.int .i64 (i:Int)∧St i W) (fun _ c _=>s - (intOf c).toNat)
 case atStart=>exact ⟨0,by omega,rfl,rfl,h0'.out⟩
 case round=>
  obtain ⟨i,hi,rfl,rfl,hS⟩:=hrel
  have hS':=hid hS
  clear hS
  by_cases his:i<s
  ·have c:=hid (hmore'.out i wr hS'.out (by omega))
   obtain ⟨sh,q,csh,_,hshl,_⟩:=shift_named (xs.getD i 0) i s l his h8
   have hor:=bits_or_u64_nat (psum xs s l i) (xs.getD i 0*2 ^ (8*place l s i)) (psum_lt xs s l hx'.out hs h8 i (by omega)) (getD_term_lt xs s l hx'.out hs h8 i his)
   rw [psum_or xs s l hx'.out hs i his]at hor
   have hw:IntKind.u64.wrap ((xs.getD i 0*2 ^ (8*place l s i):Nat):Int)=((xs.getD i 0*2 ^ (8*place l s i):Nat):Int):=by
    rw [IntKind.wrap_u64];have:=getD_term_lt xs s l hx'.out hs h8 i his;omega
   rw [hw]at hshl
   have hX2:=getD_lt hx'.out i (by omega)
   have csh':=hid csh
   clear hw csh
   generalize xs.getD i 0*2 ^ (8*place l s i)=t at *
   obtain ⟨P1,hP1⟩:∃ P,P=psum xs s l (i+1):=⟨_,rfl⟩
   rw [←hP1]at hor
   generalize psum xs s l i=P0 at *
   generalize xs.getD i 0=X at *
   have hP1':=hid hP1
   clear hP1
   go_wp2_with (first |(go_at_call 295;refine c.out.mono ?_;rintro e w1 ⟨rfl,hS1⟩) |(go_at_call 304;refine (csh'.out _).mono ?_;rintro e w2 ⟨rfl,hw2⟩;obtain rfl:=hw2.symm))
   exact ⟨⟨i+1,by omega,by rw [hP1'.out],by go_num,hS1⟩,by simp [intOf];omega⟩
  ·obtain rfl:i=s:=by omega
   go_wp2
   go_ret
   exact ⟨rfl,hS'.out⟩
theorem read_ok(ao:Option Addr)(n cap:Nat)(xs:List Nat)(w:World)(h:Rd w ao n cap xs)(hn:n≤140737488355328) :
  Calls Tryz.prog 234 #[.slice ao n cap] w fun e w'=>∃ p,e=.returned (.pointer (some ⟨p,0,none⟩))∧w.heap.size≤p∧SrcAt w' p xs∧Below w.heap.size w w':=by
 have cw:Hid (Calls Tryz.prog 291 #[.slice ao n cap,.int .i64 0] w fun e w'=>e=.returned (.slice (some ⟨w.heap.size,0,none⟩) n n) ∧
   w'.ownsRow w.heap.size 5 1 (.slice (some ⟨w.heap.size,0,none⟩) n n) n (bs xs)∧Below w.heap.size w w'):=hid (by simpa using widened_any ao n cap 0 xs w h (by omega))
 clear h
 go_enter Tryz.func234,Tryz.ntmps234
 go_wp2_with (go_at_call 291;refine cw.out.mono ?_;rintro e w1 ⟨rfl,ho1,hb1⟩)
 go_ret
 refine ⟨w1.heap.size,rfl,hb1.size,⟨_,_,_,_,heap_alloc_new w1 _,(rd_own ho1).keep (Below.alloc (Below.refl _ _) (Nat.le_refl _) _),by omega,?_⟩,Below.alloc hb1 hb1.size _⟩
 have:=(ho1.lt w.heap.size (by rfl)).2
 omega
theorem num_k(p:Nat)(xs:List Nat)(s:Nat)(l:Bool)(W:World)(h:SrcAt W p xs)(hx:∀ x∈xs,x<256)(h1:1≤s)(h8:s≤8)(hs:s≤xs.length) :
  Calls Tryz.prog 235 #[.pointer (some ⟨p,0,none⟩),.int .i64 (s:Int),.bool l] W fun e w'=>e=.returned (.int .u64 (psum xs s l s:Nat))∧SrcAt w' p (xs.drop s)∧W.grownBy w' (some p):=by
 have c26:=hid (err_ok p xs W h)
 have c27:=hid (sized_any (s:Int))
 rw [show (decide ((1:Int)≤(s:Int))&&decide ((s:Int)≤8))=true by simp;omega]at c27
 have c28:=hid (gather_src p xs hx s l hs h8 (On W p xs) (fun k W' hS hk=>on_more W p xs k W' hS hk) W ⟨by simpa using h,World.grownBy.refl _ _⟩)
 obtain ⟨b,off,n,cap,hp,hr,hn,hne⟩:=h
 obtain ⟨s0,s1,s2,f1,f2⟩:=src_cells hp
 have hl:=hr.1
 have hn8:¬(n:Int)<(s:Int):=by omega
 generalize psum xs s l s=R at *
 clear hp hr hne hx hl h8 h1 hs
 go_enter Tryz.func235,Tryz.ntmps235
 go_wp2_with (first |(go_at_call 242;refine c26.out.mono ?_;rintro e w1 ⟨rfl,rfl⟩) |(go_at_call 293;refine (c27.out _).mono ?_;rintro e w2 ⟨rfl,hw2⟩;obtain rfl:=hw2.symm) |(go_at_call 294;refine c28.out.mono ?_;rintro e w3 ⟨rfl,hS⟩;replace hS:=hid hS))
 go_ret
 exact ⟨rfl,hS.out.1,hS.out.2⟩
end Jrn
namespace Jrn
open Go.RowKit
theorem op_at(l:List Oper)(i:Nat)(o:Oper)(h:l[i]? = some o):l.toArray[i]? = some o:=by simpa using h
variable {xs:List Nat} {b off n cap:Nat} {W:World}
theorem Rd.from_(h:Rd W (some ⟨b,off,none⟩) n cap xs)(k:Nat)(hk:k≤n) :
  (cap=k→Rd W (some ⟨b,off,none⟩) (n - k) (cap - k) (xs.drop k))∧(¬cap=k→Rd W (some ⟨b,off+k,none⟩) (n - k) (cap - k) (xs.drop k)):=by
 obtain ⟨hl,hc,hno,hat⟩:=h
 constructor
 ·intro h1
  refine ⟨by simp;omega,by omega,fun h=>(by cases h),fun hp=>?_⟩
  omega
 ·intro h1
  refine ⟨by simp;omega,by omega,fun h=>(by cases h),fun hp=>⟨b,off+k,rfl,fun t ht=>?_⟩⟩
  obtain ⟨b',off',e,hcell⟩:=hat (by omega)
  simp only [Option.some.injEq,Addr.mk.injEq,and_true]at e
  obtain ⟨rfl,rfl⟩:=e
  have:=hcell (k+t) (by omega)
  rw [show off+k+t=off+(k+t) by omega,this]
  simp [List.getD]
variable {k:Nat}
theorem bytes_hpos{W1:World}{g:Nat}(h:Rd W (some ⟨b,off,none⟩) n cap xs)(hb:Below W.heap.size W W1)(hk:k≤n):0<(bs (xs.take k)).length→some (⟨g,0,none⟩:Addr)=some ⟨g,0,none⟩∧∃ ad,some (⟨b,off,none⟩:Addr)=some ad∧∀ j v,(bs (xs.take k))[j]? = some v→W1.cell? (ad.add j)=some v:=by
 intro hp
 refine ⟨rfl,_,rfl,fun j v hv=>?_⟩
 obtain ⟨hj,rfl⟩:=bs_get' _ j v hv
 obtain ⟨hl,_,_,hat⟩:=h.keep hb
 simp at hj
 obtain ⟨b',off',e,hcell⟩:=hat (by omega)
 simp only [Option.some.injEq,Addr.mk.injEq,and_true]at e
 obtain ⟨rfl,rfl⟩:=e
 rw [Addr.add_lit,hcell j (by omega)]
 have hj2:j<k:=by omega
 simp [List.getD,hj2]
theorem bytes_hn(hl:xs.length=n)(hk:k≤n):(bs (xs.take k)).length=Nat.min n k:=by
 rw [bs_length,List.length_take,hl]
 show min k n=min n k
 omega
theorem bytes_end{w4:World}{p:Nat}{v:Value}{ao':Addr}(hp:W.heap[p]? = some (.cells #[.bool true,.slice (some ⟨b,off,none⟩) n cap,.int .i64 0] 366 (0,0)))
  (hr:Rd W (some ⟨b,off,none⟩) n cap xs) (hn:n≤9223372036854775807) (hne:b≠p) (hk:k≤n) (hk2:k≤1000) (hb4:Below W.heap.size (W.alloc (.cells (Array.replicate k (.int .u8 0)) 5)).drew w4)
  (hg4:w4.heap[W.heap.size]? = some (.cells (splice (List.replicate k (.int .u8 0)) 0 (bs (xs.take k))).toArray 5 (0,0)))
  (hv:v=.slice (some ao') (n - k) (cap - k)) (ha:(cap=k∧ao'=⟨b,off,none⟩)∨(¬cap=k∧ao'=⟨b,off+k,none⟩)) :
  Rd (w4.setCell ⟨p,1,none⟩ v) (some ⟨W.heap.size,0,none⟩) k k (xs.take k)∧SrcAt (w4.setCell ⟨p,1,none⟩ v) p (xs.drop k)∧W.grownBy (w4.setCell ⟨p,1,none⟩ v) (some p):=by
 have hpl:=lt_of_block hp
 have hl:=hr.1
 have hb:Below W.heap.size W w4:=(Below.alloc (Below.refl _ _) (Nat.le_refl _) _).drew.trans hb4
 have hp4:w4.heap[p]? = some (.cells #[.bool true,.slice (some ⟨b,off,none⟩) n cap,.int .i64 0] 366 (0,0)):=by rw [hb.block p hpl];exact hp
 have hlt:(xs.take k).length=k:=by simp;omega
 have ho:=own_of_row (B:=W.heap.size) (n:=k) (cap:=k) (xs:=xs.take k) (Nat.le_refl _) hg4 (by rw [length_splice _ _ _ (by simp [bs];omega)];simp) (by omega) (by simpa using splice_zero k 0 (xs.take k) hlt) hlt (Nat.le_refl _)
 refine ⟨rd_set (rd_own ho) (fun _ _ e=>by simp only [Option.some.injEq,Addr.mk.injEq,and_true]at e;omega),?_,grow_trans (grow_below hb) (grow_set _ _ _ _)⟩
 have hf:=(hr.keep hb).from_ k hk
 subst hv
 rcases ha with ⟨h1,rfl⟩ | ⟨h1,rfl⟩
 ·exact ⟨_,_,_,_,src_set hp4,rd_set (hf.1 h1) (fun _ _ e=>by simp only [Option.some.injEq,Addr.mk.injEq,and_true]at e;rw [←e.1];exact hne),by omega,hne⟩
 ·exact ⟨_,_,_,_,src_set hp4,rd_set (hf.2 h1) (fun _ _ e=>by simp only [Option.some.injEq,Addr.mk.injEq,and_true]at e;rw [←e.1];exact hne),by omega,hne⟩
theorem bytes_ok(p:Nat)(xs:List Nat)(k:Nat)(W:World)(h:SrcAt W p xs)(hk:k≤xs.length)(hk2:k≤1000) :
  Calls Tryz.prog 237 #[.pointer (some ⟨p,0,none⟩),.int .i64 (k:Int)] W fun e w'=>∃ ao c,e=.returned (.slice ao k c)∧Rd w' ao k c (xs.take k)∧SrcAt w' p (xs.drop k)∧W.grownBy w' (some p):=by
 have c26:=hid (err_ok p xs W h)
 have hmk:=make_any k k (Nat.le_refl _) (by omega)
 obtain ⟨b,off,n,cap,hp,hr,hn,hne⟩:=h
 obtain ⟨s0,s1,s2,f1,f2⟩:=src_cells hp
 have hpl:=lt_of_block hp
 have hl:=hr.1
 have hcap:=hr.2.1
 have hr':=hid hr
 have hp':=hid hp
 have hkn:k≤n:=by omega
 have hkc:k≤cap:=by omega
 have hk0:¬(n:Int)<(k:Int):=by omega
 have hk1:¬(k:Int)<0:=by omega
 have hkc2:(k:Int)≤(cap:Int):=by omega
 have hkn2:(k:Int)≤(n:Int):=by omega
 clear hp hr hk hl
 have hl':=hid hr'.out.1
 have hcs:(bs (xs.take k)).length=k:=by rw [bs_length];have:=hl'.out;simp;omega
 by_cases hck:cap=k
 ·have hnk:n=k:=by omega
  subst hck
  obtain rfl:=hnk
  go_enter Tryz.func237,Tryz.ntmps237
  go_upto_region 10 with (go_at_call 242;refine c26.out.mono ?_;rintro e w1 ⟨rfl,rfl⟩)
  refine wp_region_held_drew (S:=fun _=>True) (by kernel_rfl) (by trivial) (fun hHeld=>?_)
  refine ght 0 ?_
  refine ght 1 ?_
  refine ght 2 ?_
  refine ght 3 ?_
  refine ght 5 ?_
  refine ght 6 ?_
  refine ght 7 ?_
  refine ght 8 ?_
  refine wpAnyH_ready (rs:=[4,9]) (by kernel_rfl) (by simp) ?_
  refine AllReadyH.cons (op_at _ 4 _ rfl) (fun K hK=>?_) ?_
  ·go_simp
   refine hK.out _ _ (by trivial) (fun hHeld=>?_)
   clear hK K
   (try simp only [Act.put,sA,sZ,sS])
   refine gh1 9 (fun K hK=>?_)
   go_simp
   refine hK.out _ _ (by trivial) (fun hHeld=>?_)
   clear hK K
   (try simp only [Act.put,sA,sZ,sS])
   refine gh1 10 (fun K hK=>?_)
   refine step_copy_splice rfl (.tmp 32) (.tmp 36) 48 48 rfl 5 Tryz.underlying48 (by kernel_rfl) _ _ _ _ _ _ rfl rfl W.heap.size 0 (List.replicate n (.int .u8 0)) 5 (copy_hg W n) (bs (xs.take n)) (bytes_hn hl'.out hkn) (bytes_hpos hr'.out (Below.alloc (Below.refl _ _) (Nat.le_refl _) _).drew hkn) (by simp [bs];omega) (bs_one _) W.heap.size _ (Below.refl _ _) (Nat.le_refl _) ?_;intro w4 hg4 hb4;have t1:w4.cell? ⟨p,1,none⟩=some (.slice (some ⟨b,off,none⟩) n n):=keep_cell hb4 (by simpa using keep_old (Below.alloc (Below.refl _ _) (Nat.le_refl _) _).drew s1) hpl;have tf:w4.frozen? ⟨p,1,none⟩=false:=by rw [keep_frozen hb4 hpl,keep_frozen (Below.alloc (Below.refl W.heap.size W) (Nat.le_refl _) _).drew hpl];exact f1
   refine hK.out _ _ (by trivial) (fun hHeld=>?_)
   clear hK K
   (try simp only [Act.put,sA,sZ,sS])
   refine gh1 11 (fun K hK=>?_)
   go_simp
   refine hK.out _ _ (by trivial) (fun hHeld=>?_)
   clear hK K
   (try simp only [Act.put,sA,sZ,sS])
   refine ght 12 ?_
   refine ght 13 ?_
   refine gh1 14 (fun K hK=>?_)
   go_simp
   refine hK.out _ _ (by trivial) (fun hHeld=>?_)
   clear hK K
   (try simp only [Act.put,sA,sZ,sS])
   refine wpAnyH_done (by kernel_rfl) ?_ _
   go_wp2
   go_ret
   exact ⟨_,_,rfl,bytes_end hp'.out hr'.out hn hne hkn hk2 hb4 hg4.out (by simp) (Or.inl ⟨rfl,rfl⟩)⟩
  refine AllReadyH.cons (op_at _ 9 _ rfl) (fun K hK=>?_) ?_
  ·go_simp
   refine hK.out _ _ (by trivial) (fun hHeld=>?_)
   clear hK K
   (try simp only [Act.put,sA,sZ,sS])
   refine wpAnyH_ready (rs:=[4,10]) (by kernel_rfl) (by simp) ?_
   refine AllReadyH.cons (op_at _ 4 _ rfl) (fun K hK=>?_) ?_
   ·go_simp
    refine hK.out _ _ (by trivial) (fun hHeld=>?_)
    clear hK K
    (try simp only [Act.put,sA,sZ,sS])
    refine gh1 10 (fun K hK=>?_)
    refine step_copy_splice rfl (.tmp 32) (.tmp 36) 48 48 rfl 5 Tryz.underlying48 (by kernel_rfl) _ _ _ _ _ _ rfl rfl W.heap.size 0 (List.replicate n (.int .u8 0)) 5 (copy_hg W n) (bs (xs.take n)) (bytes_hn hl'.out hkn) (bytes_hpos hr'.out (Below.alloc (Below.refl _ _) (Nat.le_refl _) _).drew hkn) (by simp [bs];omega) (bs_one _) W.heap.size _ (Below.refl _ _) (Nat.le_refl _) ?_;intro w4 hg4 hb4;have t1:w4.cell? ⟨p,1,none⟩=some (.slice (some ⟨b,off,none⟩) n n):=keep_cell hb4 (by simpa using keep_old (Below.alloc (Below.refl _ _) (Nat.le_refl _) _).drew s1) hpl;have tf:w4.frozen? ⟨p,1,none⟩=false:=by rw [keep_frozen hb4 hpl,keep_frozen (Below.alloc (Below.refl W.heap.size W) (Nat.le_refl _) _).drew hpl];exact f1
    refine hK.out _ _ (by trivial) (fun hHeld=>?_)
    clear hK K
    (try simp only [Act.put,sA,sZ,sS])
    refine gh1 11 (fun K hK=>?_)
    go_simp
    refine hK.out _ _ (by trivial) (fun hHeld=>?_)
    clear hK K
    (try simp only [Act.put,sA,sZ,sS])
    refine ght 12 ?_
    refine ght 13 ?_
    refine gh1 14 (fun K hK=>?_)
    go_simp
    refine hK.out _ _ (by trivial) (fun hHeld=>?_)
    clear hK K
    (try simp only [Act.put,sA,sZ,sS])
    refine wpAnyH_done (by kernel_rfl) ?_ _
    go_wp2
    go_ret
    exact ⟨_,_,rfl,bytes_end hp'.out hr'.out hn hne hkn hk2 hb4 hg4.out (by simp) (Or.inl ⟨rfl,rfl⟩)⟩
   refine AllReadyH.cons (op_at _ 10 _ rfl) (fun K hK=>?_) ?_
   ·refine step_copy_splice rfl (.tmp 32) (.tmp 36) 48 48 rfl 5 Tryz.underlying48 (by kernel_rfl) _ _ _ _ _ _ rfl rfl W.heap.size 0 (List.replicate n (.int .u8 0)) 5 (copy_hg W n) (bs (xs.take n)) (bytes_hn hl'.out hkn) (bytes_hpos hr'.out (Below.alloc (Below.refl _ _) (Nat.le_refl _) _).drew hkn) (by simp [bs];omega) (bs_one _) W.heap.size _ (Below.refl _ _) (Nat.le_refl _) ?_;intro w4 hg4 hb4;have t1:w4.cell? ⟨p,1,none⟩=some (.slice (some ⟨b,off,none⟩) n n):=keep_cell hb4 (by simpa using keep_old (Below.alloc (Below.refl _ _) (Nat.le_refl _) _).drew s1) hpl;have tf:w4.frozen? ⟨p,1,none⟩=false:=by rw [keep_frozen hb4 hpl,keep_frozen (Below.alloc (Below.refl W.heap.size W) (Nat.le_refl _) _).drew hpl];exact f1
    refine hK.out _ _ (by trivial) (fun hHeld=>?_)
    clear hK K
    (try simp only [Act.put,sA,sZ,sS])
    refine gh1 4 (fun K hK=>?_)
    go_simp
    refine hK.out _ _ (by trivial) (fun hHeld=>?_)
    clear hK K
    (try simp only [Act.put,sA,sZ,sS])
    refine gh1 11 (fun K hK=>?_)
    go_simp
    refine hK.out _ _ (by trivial) (fun hHeld=>?_)
    clear hK K
    (try simp only [Act.put,sA,sZ,sS])
    refine ght 12 ?_
    refine ght 13 ?_
    refine gh1 14 (fun K hK=>?_)
    go_simp
    refine hK.out _ _ (by trivial) (fun hHeld=>?_)
    clear hK K
    (try simp only [Act.put,sA,sZ,sS])
    refine wpAnyH_done (by kernel_rfl) ?_ _
    go_wp2
    go_ret
    exact ⟨_,_,rfl,bytes_end hp'.out hr'.out hn hne hkn hk2 hb4 hg4.out (by simp) (Or.inl ⟨rfl,rfl⟩)⟩
   exact AllReadyH.nil
  exact AllReadyH.nil
 ·have hck':¬k=cap:=fun e=>hck e.symm
  go_enter Tryz.func237,Tryz.ntmps237
  go_upto_region 10 with (go_at_call 242;refine c26.out.mono ?_;rintro e w1 ⟨rfl,rfl⟩)
  refine wp_region_held_drew (S:=fun _=>True) (by kernel_rfl) (by trivial) (fun hHeld=>?_)
  refine ght 0 ?_
  refine ght 1 ?_
  refine ght 2 ?_
  refine ght 3 ?_
  refine ght 5 ?_
  refine ght 6 ?_
  refine ght 7 ?_
  refine ght 8 ?_
  refine wpAnyH_ready (rs:=[4,9]) (by kernel_rfl) (by simp) ?_
  refine AllReadyH.cons (op_at _ 4 _ rfl) (fun K hK=>?_) ?_
  ·go_simp
   refine hK.out _ _ (by trivial) (fun hHeld=>?_)
   clear hK K
   (try simp only [Act.put,sA,sZ,sS])
   refine gh1 9 (fun K hK=>?_)
   go_simp
   refine hK.out _ _ (by trivial) (fun hHeld=>?_)
   clear hK K
   (try simp only [Act.put,sA,sZ,sS])
   refine gh1 10 (fun K hK=>?_)
   refine step_copy_splice rfl (.tmp 32) (.tmp 36) 48 48 rfl 5 Tryz.underlying48 (by kernel_rfl) _ _ _ _ _ _ rfl rfl W.heap.size 0 (List.replicate k (.int .u8 0)) 5 (copy_hg W k) (bs (xs.take k)) (bytes_hn hl'.out hkn) (bytes_hpos hr'.out (Below.alloc (Below.refl _ _) (Nat.le_refl _) _).drew hkn) (by simp [bs];omega) (bs_one _) W.heap.size _ (Below.refl _ _) (Nat.le_refl _) ?_;intro w4 hg4 hb4;have t1:w4.cell? ⟨p,1,none⟩=some (.slice (some ⟨b,off,none⟩) n cap):=keep_cell hb4 (by simpa using keep_old (Below.alloc (Below.refl _ _) (Nat.le_refl _) _).drew s1) hpl;have tf:w4.frozen? ⟨p,1,none⟩=false:=by rw [keep_frozen hb4 hpl,keep_frozen (Below.alloc (Below.refl W.heap.size W) (Nat.le_refl _) _).drew hpl];exact f1
   refine hK.out _ _ (by trivial) (fun hHeld=>?_)
   clear hK K
   (try simp only [Act.put,sA,sZ,sS])
   refine gh1 11 (fun K hK=>?_)
   go_simp
   refine hK.out _ _ (by trivial) (fun hHeld=>?_)
   clear hK K
   (try simp only [Act.put,sA,sZ,sS])
   refine ght 12 ?_
   refine ght 13 ?_
   refine gh1 14 (fun K hK=>?_)
   go_simp
   refine hK.out _ _ (by trivial) (fun hHeld=>?_)
   clear hK K
   (try simp only [Act.put,sA,sZ,sS])
   refine wpAnyH_done (by kernel_rfl) ?_ _
   go_wp2
   go_ret
   exact ⟨_,_,rfl,bytes_end hp'.out hr'.out hn hne hkn hk2 hb4 hg4.out (by simp) (Or.inr ⟨hck,rfl⟩)⟩
  refine AllReadyH.cons (op_at _ 9 _ rfl) (fun K hK=>?_) ?_
  ·go_simp
   refine hK.out _ _ (by trivial) (fun hHeld=>?_)
   clear hK K
   (try simp only [Act.put,sA,sZ,sS])
   refine wpAnyH_ready (rs:=[4,10]) (by kernel_rfl) (by simp) ?_
   refine AllReadyH.cons (op_at _ 4 _ rfl) (fun K hK=>?_) ?_
   ·go_simp
    refine hK.out _ _ (by trivial) (fun hHeld=>?_)
    clear hK K
    (try simp only [Act.put,sA,sZ,sS])
    refine gh1 10 (fun K hK=>?_)
    refine step_copy_splice rfl (.tmp 32) (.tmp 36) 48 48 rfl 5 Tryz.underlying48 (by kernel_rfl) _ _ _ _ _ _ rfl rfl W.heap.size 0 (List.replicate k (.int .u8 0)) 5 (copy_hg W k) (bs (xs.take k)) (bytes_hn hl'.out hkn) (bytes_hpos hr'.out (Below.alloc (Below.refl _ _) (Nat.le_refl _) _).drew hkn) (by simp [bs];omega) (bs_one _) W.heap.size _ (Below.refl _ _) (Nat.le_refl _) ?_;intro w4 hg4 hb4;have t1:w4.cell? ⟨p,1,none⟩=some (.slice (some ⟨b,off,none⟩) n cap):=keep_cell hb4 (by simpa using keep_old (Below.alloc (Below.refl _ _) (Nat.le_refl _) _).drew s1) hpl;have tf:w4.frozen? ⟨p,1,none⟩=false:=by rw [keep_frozen hb4 hpl,keep_frozen (Below.alloc (Below.refl W.heap.size W) (Nat.le_refl _) _).drew hpl];exact f1
    refine hK.out _ _ (by trivial) (fun hHeld=>?_)
    clear hK K
    (try simp only [Act.put,sA,sZ,sS])
    refine gh1 11 (fun K hK=>?_)
    go_simp
    refine hK.out _ _ (by trivial) (fun hHeld=>?_)
    clear hK K
    (try simp only [Act.put,sA,sZ,sS])
    refine ght 12 ?_
    refine ght 13 ?_
    refine gh1 14 (fun K hK=>?_)
    go_simp
    refine hK.out _ _ (by trivial) (fun hHeld=>?_)
    clear hK K
    (try simp only [Act.put,sA,sZ,sS])
    refine wpAnyH_done (by kernel_rfl) ?_ _
    go_wp2
    go_ret
    exact ⟨_,_,rfl,bytes_end hp'.out hr'.out hn hne hkn hk2 hb4 hg4.out (by simp) (Or.inr ⟨hck,rfl⟩)⟩
   refine AllReadyH.cons (op_at _ 10 _ rfl) (fun K hK=>?_) ?_
   ·refine step_copy_splice rfl (.tmp 32) (.tmp 36) 48 48 rfl 5 Tryz.underlying48 (by kernel_rfl) _ _ _ _ _ _ rfl rfl W.heap.size 0 (List.replicate k (.int .u8 0)) 5 (copy_hg W k) (bs (xs.take k)) (bytes_hn hl'.out hkn) (bytes_hpos hr'.out (Below.alloc (Below.refl _ _) (Nat.le_refl _) _).drew hkn) (by simp [bs];omega) (bs_one _) W.heap.size _ (Below.refl _ _) (Nat.le_refl _) ?_;intro w4 hg4 hb4;have t1:w4.cell? ⟨p,1,none⟩=some (.slice (some ⟨b,off,none⟩) n cap):=keep_cell hb4 (by simpa using keep_old (Below.alloc (Below.refl _ _) (Nat.le_refl _) _).drew s1) hpl;have tf:w4.frozen? ⟨p,1,none⟩=false:=by rw [keep_frozen hb4 hpl,keep_frozen (Below.alloc (Below.refl W.heap.size W) (Nat.le_refl _) _).drew hpl];exact f1
    refine hK.out _ _ (by trivial) (fun hHeld=>?_)
    clear hK K
    (try simp only [Act.put,sA,sZ,sS])
    refine gh1 4 (fun K hK=>?_)
    go_simp
    refine hK.out _ _ (by trivial) (fun hHeld=>?_)
    clear hK K
    (try simp only [Act.put,sA,sZ,sS])
    refine gh1 11 (fun K hK=>?_)
    go_simp
    refine hK.out _ _ (by trivial) (fun hHeld=>?_)
    clear hK K
    (try simp only [Act.put,sA,sZ,sS])
    refine ght 12 ?_
    refine ght 13 ?_
    refine gh1 14 (fun K hK=>?_)
    go_simp
    refine hK.out _ _ (by trivial) (fun hHeld=>?_)
    clear hK K
    (try simp only [Act.put,sA,sZ,sS])
    refine wpAnyH_done (by kernel_rfl) ?_ _
    go_wp2
    go_ret
    exact ⟨_,_,rfl,bytes_end hp'.out hr'.out hn hne hkn hk2 hb4 hg4.out (by simp) (Or.inr ⟨hck,rfl⟩)⟩
   exact AllReadyH.nil
  exact AllReadyH.nil
end Jrn
namespace Jrn
open Go.RowKit
section
variable {P:Program} {ops:Array Oper} {Q:Exit→Act→World→Prop} {a:Act} {w:World} {rest:List Oper} {o:Oper}
theorem wpList_load_run(hgd:o.guard=none)(ty:TypeId)(x:Operand)(ho:o.op=.load ty x)(ad:Addr)(hx:a.eval x=.pointer (some ad))(v:Value)
  (hrun:(loadVar ty ad).run P w=.ok v w) (h:wpList P ops Q rest (a.put o.dst v) w):wpList P ops Q (o::rest) a w:=by
 refine wpList_plain hgd fun K hK=>?_
 unfold Oper.wp
 simp [execOp,ho,hx,Instr.loadAt,Instr.sureAddr,hrun,Result.andThen]
 exact hK _ _ h
theorem wpList_alloc_run(hgd:o.guard=none)(ty:TypeId)(ho:o.op=.alloc ty)(v:Value)(w':World)
  (hrun:(Instr.alloc ty true (.tuple #[])).run P w=.ok v w') (h:wpList P ops Q rest (a.put o.dst v) w'):wpList P ops Q (o::rest) a w:=by
 refine wpList_plain hgd fun K hK=>?_
 unfold Oper.wp
 simp [execOp,ho,hrun,Result.andThen]
 exact hK _ _ h
end
def zs(n:Nat):List Nat:=List.replicate n 0
theorem zs_length(n:Nat):(zs n).length=n:=by simp [zs]
theorem alloc90(W:World):(Instr.alloc 305 true (.tuple #[])).run Tryz.prog W=.ok (.pointer (some ⟨W.heap.size,0,none⟩)) (W.alloc (.cells (bs (zs 128)).toArray 305)):=by kernel_rfl
theorem cells5:Tryz.prog.cellsOf 5=1:=by kernel_rfl
theorem u90:Tryz.prog.underlying 305=some (.array 128 5):=by kernel_rfl
theorem load90{W:World}{ad:Addr}{x:List Nat}(hx:x.length=128)(h:∀ j v,(bs x)[j]? = some v→W.cell? (ad.add j)=some v):(loadVar 305 ad).run Tryz.prog W=.ok (.agg (bs x).toArray) W:=by
 have hl:=run_loadCells_list (P:=Tryz.prog) W ad (bs x) h
 rw [bs_length,hx]at hl
 simp [loadVar,hl]
theorem part5(xs:List Nat)(i:Nat)(h:i<xs.length)(w:World):(part 5 (bs xs).toArray i).run Tryz.prog w=.ok (.int .u8 ((xs.getD i 0:Nat):Int)) w:=by
 have hb:=bs_get xs i h
 simp [part,hb]
theorem items5(xs ys:List Nat)(w:World):∀ is:List Nat,(∀ i∈is,i<xs.length∧i<ys.length) →
  (Op.eqItems 9999 5 1 (bs xs).toArray (bs ys).toArray is).run Tryz.prog w=.ok (is.all fun i=>xs.getD i 0 == ys.getD i 0) w
 | [],_=>by simp [Op.eqItems]
 | i::is,h=>by
  have h1:=h i (by simp)
  have ih:=items5 xs ys w is (fun j hj=>h j (by simp [hj]))
  have pe:(Op.equalIn 9999 5 (.int .u8 ((xs.getD i 0:Nat):Int)) (.int .u8 ((ys.getD i 0:Nat):Int))).run Tryz.prog w=.ok (((xs.getD i 0:Nat):Int) == ((ys.getD i 0:Nat):Int)) w:=run_equalIn_int w 9998 5 .u8 .u8 _ _ Tryz.underlying5
  have e:(((xs.getD i 0:Nat):Int) == ((ys.getD i 0:Nat):Int))=(xs.getD i 0 == ys.getD i 0):=by
   rw [Bool.eq_iff_iff,beq_iff_eq,beq_iff_eq];omega
  rw [e]at pe
  simp only [Op.eqItems,Sem.run_bind,Nat.mul_one,part5 xs i h1.1,part5 ys i h1.2,Result.andThen_ok,pe,List.all_cons]
  cases hb:(xs.getD i 0 == ys.getD i 0)
  ·simp
  ·simpa using ih
theorem all_eq(xs ys:List Nat)(n:Nat)(hx:xs.length=n)(hy:ys.length=n):((List.range n).all fun i=>xs.getD i 0 == ys.getD i 0)=decide (xs=ys):=by
 rw [Bool.eq_iff_iff]
 simp only [List.all_eq_true,List.mem_range,beq_iff_eq,decide_eq_true_eq]
 constructor
 ·intro h
  apply List.ext_getElem (by omega)
  intro i h1 h2
  have:=h i (by omega)
  simpa [List.getD,List.getElem?_eq_getElem h1,List.getElem?_eq_getElem h2] using this
 ·rintro rfl i _
  rfl
theorem eq90(xs ys:List Nat)(hx:xs.length=128)(hy:ys.length=128)(w:World):(Op.equalIn 10000 305 (.agg (bs xs).toArray) (.agg (bs ys).toArray)).run Tryz.prog w=.ok (decide (xs=ys)) w:=by
 obtain ⟨i5,hi5,_⟩:=info_parts Tryz.info5
 rw [run_equalIn_array w 9999 _ _ u90 hi5,cells5,items5 xs ys w (List.range 128) (fun i hi=>by simp at hi;omega),all_eq xs ys 128 hx hy]
def nil0(ys:List Nat):Bool:=decide (ys=zs ys.length)
theorem nil0_pad(ys:List Nat)(h:ys.length≤128):decide (ys++zs (128 - ys.length)=zs 128)=nil0 ys:=by
 rw [Bool.eq_iff_iff]
 simp only [nil0,decide_eq_true_eq]
 have e:zs 128=zs ys.length++zs (128 - ys.length):=by rw [zs,zs,zs,List.replicate_append_replicate];congr 1;omega
 rw [e]
 exact ⟨fun h=>List.append_cancel_right h,fun h=>by rw [←h]⟩
theorem pad_splice(ys:List Nat):(bs (zs 128)).take 0++(bs ys++(bs (zs 128)).drop (0+(bs ys).length))=bs (ys++zs (128 - ys.length)):=by
 have h1:(bs ys).length=ys.length:=bs_length ys
 rw [bs_append,h1]
 simp only [List.take_zero,List.nil_append,Nat.zero_add]
 congr 1
 simp only [bs,zs]
 rw [←List.map_drop,List.drop_replicate]
theorem noughts_any(ao:Option Addr)(n cap:Nat)(ys:List Nat)(w:World)(h:Rd w ao n cap ys)(h0:0<n)(hn:n≤128) :
  Calls Tryz.prog 271 #[.slice ao n cap] w fun e w'=>e=.returned (.bool (nil0 ys))∧Below w.heap.size w w':=by
 obtain ⟨N,hN⟩:∃ N,N=bs (zs 128):=⟨_,rfl⟩
 have AL:=alloc90
 rw [←hN]at AL
 obtain ⟨M,hM⟩:∃ M,M=bs (ys++zs (128 - ys.length)):=⟨_,rfl⟩
 have hl:=h.1
 have hlz:(ys++zs (128 - ys.length)).length=128:=by simp [zs_length];omega
 have EQ:=fun w=>eq90 (ys++zs (128 - ys.length)) (zs 128) hlz (zs_length _) w
 rw [←hM,←hN,nil0_pad ys (by omega)]at EQ
 have AL':=hid AL
 have h':=hid h
 have hN':=hid hN
 have hM':=hid hM
 generalize nil0 ys=b at *
 clear AL h hN hM
 obtain ⟨b0,o0,rfl,hc⟩:=h'.out.2.2.2 h0
 obtain ⟨W0,hW0⟩:∃ W0,W0=(w.alloc (.cells N.toArray 305)).alloc (.cells N.toArray 305):=⟨_,rfl⟩
 have hB0:Below w.heap.size w W0:=by rw [hW0];exact Below.alloc (Below.alloc (Below.refl _ _) (Nat.le_refl _) _) (by simp) _
 have hg0:W0.heap[w.heap.size]? = some (.cells N.toArray 305 (0,0)):=by rw [hW0,Below.heap_alloc _ _ _ (by simp)];exact heap_alloc_new w _
 have hg1:W0.heap[w.heap.size+1]? = some (.cells N.toArray 305 (0,0)):=by
  rw [hW0]
  have:=heap_alloc_new (w.alloc (.cells N.toArray 305)) (.cells N.toArray 305)
  simpa using this
 obtain ⟨W1,hW1⟩:∃ W1,W1=W0.setRow w.heap.size M.toArray:=⟨_,rfl⟩
 have hb1:Below w.heap.size w W1:=by rw [hW1];exact below_setRow hB0 (Nat.le_refl _) _
 have l0:(loadVar 305 ⟨w.heap.size,0,none⟩).run Tryz.prog W1=.ok (.agg M.toArray) W1:=by
  rw [hM'.out]
  refine load90 hlz fun j v hj=>?_
  rw [Addr.add_lit,←hM'.out]at *
  rw [hW1]
  simpa [World.cell?,setRow_heap W0 w.heap.size _ M.toArray 305 (0,0) hg0] using hj
 have l1:(loadVar 305 ⟨w.heap.size+1,0,none⟩).run Tryz.prog W1=.ok (.agg N.toArray) W1:=by
  rw [hN'.out]
  refine load90 (zs_length _) fun j v hj=>?_
  rw [Addr.add_lit,←hN'.out]at *
  rw [hW1]
  simpa [World.cell?,setRow_other W0 w.heap.size (w.heap.size+1) M.toArray (by omega),hg1] using hj
 have hbl:(bs ys).length=n:=by rw [bs_length,hl]
 have hrow:(N.take 0++(bs ys++N.drop (0+(bs ys).length)))=M:=by rw [hN'.out,hM'.out];exact pad_splice ys
 have l0':=hid l0
 have l1':=hid l1
 have hg0':=hid hg0
 have hc':=hid hc
 have hrow':=hid hrow
 have hW1':=hid hW1
 have hW0':=hid hW0
 have hB0':=hid hB0
 clear l0 l1 hg0 hg1 hc hrow hW0 hW1 hB0
 go_enter Tryz.func271,Tryz.ntmps271
 go_wp2_with (first
  | ((with_reducible refine here_op 3 ?_);refine wpList_alloc_run rfl 305 rfl _ _ (AL'.out _) ?_)
  | ((with_reducible refine here_op 4 ?_);refine wpList_alloc_run rfl 305 rfl _ _ (AL'.out _) ?_)
  | ((with_reducible refine here_op 7 ?_);rw [←hW0'.out];refine wpList_copy_own rfl (.tmp 5) (.tmp 6) 48 48 rfl 5 Tryz.underlying48 (by kernel_rfl) w.heap.size 0 128 128 ⟨b0,o0,none⟩ n cap rfl rfl N.toArray 305 hg0'.out (bs ys) (by rw [hbl];exact (Nat.min_eq_left hn).symm) (fun j v hv=>by obtain ⟨hj,rfl⟩:=bs_get' ys j v hv;rw [Addr.add_lit];exact keep_old hB0'.out (hc'.out j (by omega))) (by rw [hbl,hN'.out];simp [bs,zs];omega) (bs_one ys) ?_;simp only;rw [hrow'.out,←hW1'.out])
  | ((with_reducible refine here_op 8 ?_);refine wpList_load_run rfl 305 (.tmp 3) rfl ⟨w.heap.size,0,none⟩ rfl _ l0'.out ?_)
  | ((with_reducible refine here_op 9 ?_);refine wpList_load_run rfl 305 (.tmp 4) rfl ⟨w.heap.size+1,0,none⟩ rfl _ l1'.out ?_))
 go_ret
 exact ⟨rfl,hb1⟩
theorem byte_ok(p x:Nat)(r:List Nat)(W:World)(h:SrcAt W p (x::r))(hx:∀ y∈x::r,y<256) :
  Calls Tryz.prog 238 #[.pointer (some ⟨p,0,none⟩)] W fun e w'=>e=.returned (.int .u8 (x:Int))∧SrcAt w' p r∧W.grownBy w' (some p):=by
 have c:=hid (num_k p (x::r) 1 false W h hx (by omega) (by omega) (by simp))
 have e:psum (x::r) 1 false 1=x:=by simp [psum,place]
 have hx1:=hx x (by simp)
 rw [e]at c
 clear h hx e
 go_enter Tryz.func238,Tryz.ntmps238
 go_wp2_with (go_at_call 235;refine c.out.mono ?_;rintro e w1 ⟨rfl,hs1,hg1⟩;replace hs1:=hid hs1;replace hg1:=hid hg1)
 go_ret
 exact ⟨rfl,hs1.out,hg1.out⟩
end Jrn
namespace Jrn
open Go.RowKit
theorem psum_take(xs:List Nat)(s k:Nat)(l:Bool):∀ i,i≤k→psum (xs.take k) s l i=psum xs s l i:=by
 intro i
 induction i with
 | zero=>intro _;rfl
 | succ i ih=>
  intro hi
  simp only [psum]
  rw [ih (by omega)]
  congr 2
  simp [List.getD,show i<k by omega]
theorem list4(xs:List Nat)(h:4≤xs.length):xs.take 4 = [xs.getD 0 0,xs.getD 1 0,xs.getD 2 0,xs.getD 3 0]:=by
 match xs,h with
 | a::b::c::d::r,_=>simp [List.getD]
theorem list8(xs:List Nat)(h:8≤xs.length):xs.take 8 = [xs.getD 0 0,xs.getD 1 0,xs.getD 2 0,xs.getD 3 0,xs.getD 4 0,xs.getD 5 0,xs.getD 6 0,xs.getD 7 0]:=by
 match xs,h with
 | a::b::c::d::e::f::g::i::r,_=>simp [List.getD]
theorem put_psum4(xs:List Nat)(hx:∀ x∈xs,x<256)(h:4≤xs.length):putN (psum xs 4 false 4) 4 false=xs.take 4:=by
 rw [list4 xs h]
 have h0:=getD_lt hx 0 (by omega)
 have h1:=getD_lt hx 1 (by omega)
 have h2:=getD_lt hx 2 (by omega)
 have h3:=getD_lt hx 3 (by omega)
 simp only [putN,up,psum,place,Bool.false_eq_true,if_false]
 generalize xs.getD 0 0=a at *
 generalize xs.getD 1 0=b at *
 generalize xs.getD 2 0=c at *
 generalize xs.getD 3 0=d at *
 simp only [Nat.reduceSub,Nat.reduceMul,Nat.reducePow,Nat.reduceAdd,List.cons.injEq,and_true]
 omega
theorem put_psum8(xs:List Nat)(hx:∀ x∈xs,x<256)(h:8≤xs.length):putN (psum xs 8 false 8) 8 false=xs.take 8:=by
 rw [list8 xs h]
 have h0:=getD_lt hx 0 (by omega)
 have h1:=getD_lt hx 1 (by omega)
 have h2:=getD_lt hx 2 (by omega)
 have h3:=getD_lt hx 3 (by omega)
 have h4:=getD_lt hx 4 (by omega)
 have h5:=getD_lt hx 5 (by omega)
 have h6:=getD_lt hx 6 (by omega)
 have h7:=getD_lt hx 7 (by omega)
 simp only [putN,up,psum,place,Bool.false_eq_true,if_false]
 generalize xs.getD 0 0=a at *
 generalize xs.getD 1 0=b at *
 generalize xs.getD 2 0=c at *
 generalize xs.getD 3 0=d at *
 generalize xs.getD 4 0=e at *
 generalize xs.getD 5 0=f at *
 generalize xs.getD 6 0=g at *
 generalize xs.getD 7 0=i at *
 simp only [Nat.reduceSub,Nat.reduceMul,Nat.reducePow,Nat.reduceAdd,List.cons.injEq,and_true]
 omega
theorem psum_put4(v:Nat)(hv:v<4294967296)(r:List Nat):psum (putN v 4 false++r) 4 false 4=v:=by
 simp only [putN,up,psum,place,Bool.false_eq_true,if_false,List.cons_append,List.nil_append,List.getD_cons_zero,List.getD_cons_succ,Nat.reduceSub,Nat.reduceMul,Nat.reducePow,Nat.reduceAdd]
 omega
theorem psum4_lt(xs:List Nat)(hx:∀ x∈xs,x<256)(h:4≤xs.length):psum xs 4 false 4<4294967296:=by
 have h0:=getD_lt hx 0 (by omega)
 have h1:=getD_lt hx 1 (by omega)
 have h2:=getD_lt hx 2 (by omega)
 have h3:=getD_lt hx 3 (by omega)
 simp only [psum,place,Bool.false_eq_true,if_false,Nat.reduceSub,Nat.reduceMul,Nat.reducePow]
 omega
variable {xs:List Nat}
theorem take_bytes(hx:∀ x∈xs,x<256)(k:Nat):∀ x∈xs.take k,x<256:=fun x h=>hx x (List.mem_of_mem_take h)
theorem drop_bytes(hx:∀ x∈xs,x<256)(k:Nat):∀ x∈xs.drop k,x<256:=fun x h=>hx x (List.mem_of_mem_drop h)
def hC(xs:List Nat):Nat:=psum (xs.drop 6) 4 false 4
def hP(xs:List Nat):Nat:=psum (xs.drop 10) 4 false 4
def hN(xs:List Nat):Nat:=psum (xs.drop 14) 8 false 8
def isHead(xs:List Nat):Bool:=decide (xs.take 128=headN (hC xs) (hP xs) (hN xs) true)&&decide (hC xs≤4000)&&decide (hP xs≤4000)
theorem hC_take(xs:List Nat):hC (xs.take 128)=hC xs:=by
 unfold hC;rw [List.drop_take];exact psum_take _ _ _ _ _ (by omega)
theorem hP_take(xs:List Nat):hP (xs.take 128)=hP xs:=by
 unfold hP;rw [List.drop_take];exact psum_take _ _ _ _ _ (by omega)
theorem hN_take(xs:List Nat):hN (xs.take 128)=hN xs:=by
 unfold hN;rw [List.drop_take];exact psum_take _ _ _ _ _ (by omega)
theorem cut3(ys:List Nat)(a b:Nat):(ys.drop a).drop b=ys.drop (a+b):=List.drop_drop
theorem head_whole(ys:List Nat)(hl:ys.length=128)(hx:∀ x∈ys,x<256) :
  ys=headN (hC ys) (hP ys) (hN ys) true↔ys.take 6=mag∧psum (ys.drop 22) 4 false 4=addN 0 (ys.take 22)∧(ys.drop 26).take 101=List.replicate 101 0∧ys.drop 127 = [165]:=by
 have e22:∀ (h:ys.take 6=mag),hd22 (hC ys) (hP ys) (hN ys)=ys.take 22:=by
  intro h
  unfold hd22 hC hP hN
  rw [put_psum4 _ (drop_bytes hx 6) (by simp;omega),put_psum4 _ (drop_bytes hx 10) (by simp;omega),put_psum8 _ (drop_bytes hx 14) (by simp;omega),←h]
  have e:∀ a b,ys.take a++(ys.drop a).take b=ys.take (a+b):=fun a b=>by rw [List.take_add]
  rw [e,e,e]
 constructor
 ·intro h
  obtain ⟨c,hc⟩:∃ c,c=hC ys:=⟨_,rfl⟩
  obtain ⟨p,hp⟩:∃ p,p=hP ys:=⟨_,rfl⟩
  obtain ⟨n,hn⟩:∃ n,n=hN ys:=⟨_,rfl⟩
  rw [←hc,←hp,←hn]at h e22
  have h6:ys.take 6=mag:=by
   rw [h]
   unfold headN hd26 hd22
   simp [mag]
  have h22:=e22 h6
  have hw:ys=hd22 c p n++(putN (addN 0 (hd22 c p n)) 4 false++(List.replicate 101 0++[165])):=by
   rw [h]
   unfold headN hd26
   simp only [List.append_assoc,if_true]
  have d22:ys.drop 22=putN (addN 0 (hd22 c p n)) 4 false++(List.replicate 101 0++[165]):=by
   rw [hw]
   exact List.drop_left' (hd22_length c p n)
  refine ⟨h6,?_,?_,?_⟩
  ·rw [d22,←h22]
   exact psum_put4 _ (addN_lt (by decide) (hd22_bytes _ _ _)) _
  ·rw [show (26:Nat)=22+4 by rfl,←cut3,d22,List.drop_left' (putN_length _ _ _)]
   exact List.take_left' (by simp)
  ·rw [show (127:Nat)=22+4+101 by rfl,←cut3,←cut3,d22,List.drop_left' (putN_length _ _ _)]
   exact List.drop_left' (by simp)
 ·rintro ⟨h6,hs,h0,h1⟩
  unfold headN hd26
  rw [e22 h6,←hs,put_psum4 _ (drop_bytes hx 22) (by simp;omega),←h0,if_pos rfl,←h1]
  have e:∀ a b,ys.take a++(ys.drop a).take b=ys.take (a+b):=fun a b=>by rw [List.take_add]
  rw [e,e]
  exact (List.take_append_drop 127 ys).symm
end Jrn
end Go.Proofs.YtfcikkechphmaaaGreatDoor
