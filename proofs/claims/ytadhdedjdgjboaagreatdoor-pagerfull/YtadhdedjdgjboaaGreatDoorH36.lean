/- slices.BinarySearchFunc and slices.Delete of the program's marks; no statement of the seat is proved here. -/
import Derived.Test.YtadhdedjdgjboaaGreatDoorH35
import Derived.Lib.SliceRun
import Derived.Deep.RegionLaw
import Derived.Deep.LoopGhost
import Derived.Test.YtadhdedjdgjboaaGreatDoorH17
set_option maxHeartbeats 16000000
set_option maxRecDepth 20000
namespace Go.Proofs.YtadhdedjdgjboaaGreatDoor
section
open Go.RowKit Go.Maps
open Dsk (gt hid undrew keep_old keep_cell lt_cell Rd DS FS Sec DiskP DFrame Grew From op_at idx dirtD was secD)
open Cch (CS CP Fr wpAnyK wpAnyK_take wpAnyK_pure wpAnyK_ready wpAnyK_done wp_region_K AllReadyK.cons AllReadyK.nil AllReadyK.late)
theorem nan_any(a:Int)(w:World):Calls Tryz.prog 127 #[.int .i64 a] w fun e w'=>e=.returned (.bool false)∧w'=w:=by
 go_enter Tryz.func127,Tryz.ntmps127
 go_wp2
 go_ret
 exact ⟨by simp,rfl⟩
def cmpZ(a b:Int):Int:=if a<b then -1 else if b<a then 1 else 0
theorem cmp_any(a b:Int)(w:World):Calls Tryz.prog 101 #[.int .i64 a,.int .i64 b] w fun e w'=>e=.returned (.int .i64 (cmpZ a b))∧w'=w:=by
 have ca:=hid (nan_any a w);have cb:=hid (nan_any b w)
 have t1:Hid True:=hid trivial
 unfold cmpZ
 by_cases h1:a<b
 ·rw [if_pos h1]
  go_enter Tryz.func101,Tryz.ntmps101
  go_wp2_with (first
   | (go_at_call 127;clear t1;refine ca.out.mono ?_;rintro e w1 ⟨rfl,hw1⟩;obtain rfl:=hw1.symm)
   | (go_at_call 127;refine cb.out.mono ?_;rintro e w1 ⟨rfl,hw1⟩;obtain rfl:=hw1.symm))
  go_ret
  exact ⟨rfl,rfl⟩
 ·rw [if_neg h1]
  by_cases h2:b<a
  ·rw [if_pos h2]
   go_enter Tryz.func101,Tryz.ntmps101
   go_wp2_with (first
    | (go_at_call 127;clear t1;refine ca.out.mono ?_;rintro e w1 ⟨rfl,hw1⟩;obtain rfl:=hw1.symm)
    | (go_at_call 127;refine cb.out.mono ?_;rintro e w1 ⟨rfl,hw1⟩;obtain rfl:=hw1.symm))
   go_ret
   exact ⟨rfl,rfl⟩
  ·rw [if_neg h2]
   go_enter Tryz.func101,Tryz.ntmps101
   go_wp2_with (first
    | (go_at_call 127;clear t1;refine ca.out.mono ?_;rintro e w1 ⟨rfl,hw1⟩;obtain rfl:=hw1.symm)
    | (go_at_call 127;refine cb.out.mono ?_;rintro e w1 ⟨rfl,hw1⟩;obtain rfl:=hw1.symm))
   go_ret
   exact ⟨rfl,rfl⟩
theorem cmpm_any(a b q:Int)(m:Nat)(w:World):Calls Tryz.prog 100 #[.agg #[.int .i64 a,.int .i64 q,.map (some m)],.int .i64 b] w fun e w'=>e=.returned (.int .i64 (cmpZ a b))∧Below w.heap.size w w':=by
 have cc:=hid (fun W:World=>cmp_any a b W)
 generalize cmpZ a b=r at *
 go_enter Tryz.func100,Tryz.ntmps100
 go_wp2_with (go_at_call 101;refine (cc.out _).mono ?_;rintro e w2 ⟨rfl,hw2⟩;obtain rfl:=hw2)
 go_ret
 exact ⟨rfl,(Below.refl _ _).alloc (Nat.le_refl _) _⟩
structure At (ms:List MK) (z:Int) (j:Nat):Prop where
 le:j≤ms.length
 lo:∀ i k,i<j→ms[i]? = some k→(k.id:Int)<z
 hi:∀ i k,j≤i→ms[i]? = some k→z≤(k.id:Int)
theorem rise_at{ms:List MK}(h:(ms.map MK.id).Pairwise (· < ·)){i j:Nat}{a b:MK}(hij:i<j)(ha:ms[i]? = some a)(hb:ms[j]? = some b):a.id<b.id:=by
 obtain ⟨h1,e1⟩:=List.getElem?_eq_some_iff.1 ha
 obtain ⟨h2,e2⟩:=List.getElem?_eq_some_iff.1 hb
 have:=List.pairwise_iff_getElem.1 h i j (by simpa using h1) (by simpa using h2) hij
 simpa [e1,e2] using this
theorem search_any(mo:Option Addr)(mc:Nat)(ms:List MK)(z:Int)(w:World)(hrow:w.ownsRow 0 102 3 (.slice mo ms.length mc) ms.length (mkC ms))(hr:(ms.map MK.id).Pairwise (· < ·))(hl:ms.length≤1000)(hid2:∀ k∈ms,k.id≤1000000) :
  Calls Tryz.prog 99 #[.slice mo ms.length mc,.int .i64 z,.func (.func 100) #[] #[]] w fun e w'=>∃ (j:Nat) (f:Bool),e=.returned (.tuple #[.int .i64 (j:Int),.bool f])∧At ms z j∧(f=true↔∃ k,ms[j]? = some k∧(k.id:Int)=z)∧Below w.heap.size w w':=by
 have at_:∀ (i:Nat) (k:MK),ms[i]? = some k→∃ g,mo=some ⟨g,0,none⟩∧w.cell? ⟨g,i*3,none⟩=some (.int .i64 (k.id:Int))∧w.cell? ⟨g,i*3+1,none⟩=some (.int .i64 (k.now.length:Int))∧w.cell? ⟨g,i*3+2,none⟩=some (.map (some k.m)):=by
  intro i k hk
  have hil:=(List.getElem?_eq_some_iff.1 hk).1
  obtain ⟨q0,q1,q2⟩:=mkC_get _ _ _ hk
  obtain ⟨ao,cap,hv,h0,h1⟩:=row_form3 hrow
  simp only [Value.slice.injEq,true_and]at hv
  obtain ⟨rfl,rfl⟩:=hv
  cases mo with
  | none=>have:=(h0 rfl).1;omega
  | some a=>
   obtain ⟨ea,_,_⟩:=h1 a rfl
   obtain ⟨g,hg⟩:∃ g,a.block=g:=⟨_,rfl⟩
   rw [hg]at ea
   subst ea
   have cells:=fun j u hu=>(hrow.cells (g:=g) rfl j u hu)
   refine ⟨g,rfl,?_,?_,?_⟩
   ·have:=cells _ _ q0;rw [Addr.add_lit]at this;simpa using this
   ·have:=cells _ _ q1;rw [Addr.add_lit]at this;simpa using this
   ·have:=cells _ _ q2;rw [Addr.add_lit]at this;simpa using this
 have AT:=hid at_;have HR:=hid hr;have HID:=hid hid2
 obtain ⟨L,hL⟩:∃ L,L=ms.length:=⟨_,rfl⟩
 rw [←hL]at hl ⊢
 have HL:=hid hL
 have CM:=hid (fun (W:World) (k:MK)=>cmpm_any (k.id:Int) z (k.now.length:Int) k.m W)
 clear at_ hrow hr hid2 hL
 go_enter Tryz.func99,Tryz.ntmps99
 go_wp2
 go_loopg [9,10] L (fun kx s9 s10 wr=>∃ lo hi:Nat,s9=.int .i64 lo∧s10=.int .i64 hi∧lo≤hi∧hi≤L∧hi - lo≤kx∧Hid (Below w.heap.size w wr) ∧
  Hid ((∀ i k,i<lo→ms[i]? = some k→(k.id:Int)<z)∧(∀ i k,hi≤i→ms[i]? = some k→z≤(k.id:Int))))
 case atStart=>exact ⟨0,L,rfl,rfl,Nat.zero_le _,Nat.le_refl _,by omega,hid (Below.refl _ _),hid ⟨fun i k hi=>by omega,fun i k hi hk=>by have:=(List.getElem?_eq_some_iff.1 hk).1;have:=HL.out;omega⟩⟩
 case round=>
  obtain ⟨lo,hi,rfl,rfl,hlh,hin,hg,B,I⟩:=hrel
  by_cases hlt:lo<hi
  ·obtain ⟨M,hM⟩:∃ M,M=(lo+hi)/2:=⟨_,rfl⟩
   obtain ⟨k,hk⟩:∃ k,ms[M]? = some k:=⟨_,List.getElem?_eq_getElem (by rw [←HL.out];omega)⟩
   obtain ⟨g,rfl,d0,d1,d2⟩:=AT.out M k hk
   replace d0:=keep_old B.out d0;replace d1:=keep_old B.out d1;replace d2:=keep_old B.out d2
   have hidk:=HID.out k (List.mem_of_getElem? hk)
   have e2:((lo:Int)+(hi:Int))/2=(M:Int):=by omega
   have HM:=hid hM;have HK:=hid hk
   have cm:=hid (CM.out wr k)
   have hML:(M:Int)<(L:Int):=by omega
   have hM0:(0:Int)≤(M:Int):=by omega
   clear hM hk
   by_cases hyx:(k.id:Int)<z
   ·have ec:cmpZ (k.id:Int) z = -1:=by unfold cmpZ;rw [if_pos hyx]
    rw [ec]at cm
    generalize hKI:(k.id:Int)=KI at *
    generalize (k.now.length:Int)=KN at *
    go_wp2_with (first
     | (rw [e2])
     | (go_at_call 100;refine cm.out.mono ?_;rintro e w' ⟨rfl,hb'⟩;have B':=hid (gt B.out hb');clear hb'))
    go_roundg (hi - (M+1))
    case measure=>have:=HM.out;omega
    case rel=>
     exact ⟨M+1,hi,by rw [show (M:Int)+1=((M+1:Nat):Int) by omega],rfl,by have:=HM.out;omega,hin,Nat.le_refl _,B',hid ⟨fun i k2 hi2 hk2=>(by
      rcases Nat.lt_or_ge i M with h1 |h1
      ·have h2:=rise_at HR.out h1 hk2 HK.out;omega
      ·obtain rfl:i=M:=by omega
       rw [HK.out]at hk2;cases hk2;omega),I.out.2⟩⟩
   ·have ec:¬cmpZ (k.id:Int) z<0:=by unfold cmpZ;rw [if_neg hyx];split<;>omega
    generalize cmpZ (k.id:Int) z=cz at *
    generalize hKI:(k.id:Int)=KI at *
    generalize (k.now.length:Int)=KN at *
    go_wp2_with (first
     | (rw [e2])
     | (go_at_call 100;refine cm.out.mono ?_;rintro e w' ⟨rfl,hb'⟩;have B':=hid (gt B.out hb');clear hb'))
    go_roundg (M - lo)
    case measure=>have:=HM.out;omega
    case rel=>
     exact ⟨lo,M,rfl,rfl,by have:=HM.out;omega,by omega,Nat.le_refl _,B',hid ⟨I.out.1,fun i k2 hi2 hk2=>(by
      rcases Nat.lt_or_ge M i with h1 |h1
      ·have h2:=rise_at HR.out h1 HK.out hk2;omega
      ·obtain rfl:i=M:=by omega
       rw [HK.out]at hk2;cases hk2;omega)⟩⟩
  ·obtain rfl:hi=lo:=by omega
   by_cases hn:hi<L
   ·obtain ⟨k,hk⟩:∃ k,ms[hi]? = some k:=⟨_,List.getElem?_eq_getElem (by rw [←HL.out];omega)⟩
    obtain ⟨g,rfl,d0,d1,d2⟩:=AT.out hi k hk
    replace d0:=keep_old B.out d0;replace d1:=keep_old B.out d1;replace d2:=keep_old B.out d2
    have HK:=hid hk
    have cm:=hid (CM.out wr k)
    have hML:(hi:Int)<(L:Int):=by omega
    have hM0:(0:Int)≤(hi:Int):=by omega
    have n5:IntKind.i64.wrap (hi:Int)=(hi:Int):=IntWalk.i64_in _ ⟨by omega,by omega⟩
    have hcz:(cmpZ (k.id:Int) z=0)↔(k.id:Int)=z:=by
     unfold cmpZ
     by_cases h1:(k.id:Int)<z
     ·rw [if_pos h1];constructor<;>intro h<;>omega
     ·rw [if_neg h1]
      by_cases h2:z<(k.id:Int)
      ·rw [if_pos h2];constructor<;>intro h<;>omega
      ·rw [if_neg h2];constructor<;>intro h<;>omega
    have HCZ:=hid hcz
    clear hk hcz
    generalize hcg:cmpZ (k.id:Int) z=cz at *
    by_cases hc0:cz=0
    ·go_wp2_with (go_at_call 100;refine cm.out.mono ?_;rintro e w' ⟨rfl,hb'⟩;have B':=hid (gt B.out hb');clear hb')
     go_ret2
     exact ⟨hi,true,rfl,⟨by have:=HL.out;omega,I.out.1,I.out.2⟩,⟨fun _=>⟨k,HK.out,HCZ.out.1 hc0⟩,fun _=>rfl⟩,B'.out⟩
    ·go_wp2_with (go_at_call 100;refine cm.out.mono ?_;rintro e w' ⟨rfl,hb'⟩;have B':=hid (gt B.out hb');clear hb')
     go_ret2
     exact ⟨hi,(cz == 0),rfl,⟨by have:=HL.out;omega,I.out.1,I.out.2⟩,⟨fun h=>(hc0 (by simpa using h)).elim,fun ⟨k2,h2,h3⟩=>(by rw [HK.out]at h2;cases h2;exact (hc0 (HCZ.out.2 h3)).elim)⟩,B'.out⟩
   ·go_wp2
    go_ret2
    exact ⟨hi,false,rfl,⟨by have:=HL.out;omega,I.out.1,I.out.2⟩,⟨fun h=>(by cases h),fun ⟨k2,h2,_⟩=>(by have:=(List.getElem?_eq_some_iff.1 h2).1;have:=HL.out;omega)⟩,B.out⟩
end
section
open Go.RowKit Go.Maps
open Dsk (gt hid undrew keep_old keep_cell lt_cell Rd DS FS Sec DiskP DFrame Grew From op_at idx dirtD was secD)
open Cch (CS CP Fr wpAnyK wpAnyK_take wpAnyK_pure wpAnyK_ready wpAnyK_done wp_region_K AllReadyK.cons AllReadyK.nil AllReadyK.late)
variable {e:TypeId}
theorem setCells_row{b:Nat}:∀ (vs:List Value) (o:Nat) (w:World) (cur:Array Value),w.heap[b]? = some (.cells cur e (0,0))→∃ cur',(w.setCells b o vs).heap[b]? = some (.cells cur' e (0,0))∧cur'.size=cur.size∧(∀ k,k≤o→cur'.toList.take k=cur.toList.take k)∧Fr (fun k=>k=b) w (w.setCells b o vs)
 | [],o,w,cur,h=>⟨cur,h,rfl,fun _ _=>rfl,Fr.refl _ _⟩
 | v::r,o,w,cur,h=>by
  have h1:(w.setCell ⟨b,o,none⟩ v).heap[b]? = some (.cells (cur.setIfInBounds o v) e (0,0)):=by
   simp [World.setCell,Array.getElem?_modify,h]
  obtain ⟨cur',h2,h3,h4,h5⟩:=setCells_row r (o+1) (w.setCell ⟨b,o,none⟩ v) _ h1
  refine ⟨cur',h2,by rw [h3];simp,fun k hk=>?_,(fr_setb w b o v).trans h5 (fun _ _ h=>h)⟩
  rw [h4 k (by omega),Array.toList_setIfInBounds,List.take_set_of_le hk]
theorem clear3(w:World)(b o n c:Nat)(hn:0<n)(hc:∀ j,j<n*3→(w.cell? ⟨b,o+j,none⟩).isSome=true)(hf:∀ j,j<n*3→w.frozen? ⟨b,o+j,none⟩=false)(ty:TypeId) :
  ∃ Z:List Value,(Builtin.clear_ #[74] ty #[.slice (some ⟨b,o,none⟩) n c]).run Tryz.prog w=.ok (.tuple #[]) (w.setCells b o Z):=by
 obtain ⟨Z,hZ⟩:∃ Z,Z=(Builtin.zeroCells (Value.agg #[.int .i64 0,.int .i64 0,.map none]).cells n).toList:=⟨_,rfl⟩
 have hcs:(Value.agg #[.int .i64 0,.int .i64 0,.map none]).cells = #[.int .i64 0,.int .i64 0,.map none]:=rfl
 have hlen:Z.length=n*3:=by rw [hZ,hcs];simp [Builtin.zeroCells]
 have hone:∀ u∈Z,u.oneCell'=true:=by
  intro u hu
  rw [hZ,hcs]at hu
  simp only [Builtin.zeroCells,Array.toList_map,List.mem_map]at hu
  obtain ⟨i,_,rfl⟩:=hu
  have h3:i % 3=0∨i % 3=1∨i % 3=2:=by omega
  have hs:(#[Value.int .i64 0,.int .i64 0,.map none]:Array Value).size=3:=rfl
  rw [hs]
  rcases h3 with h |h |h<;>rw [h]<;>rfl
 have hst:=run_storeCells_cells (P:=Tryz.prog) b o Z 0 w (by rw [hlen];simpa using hc) (by rw [hlen];simpa using hf) hone
 simp only [Nat.add_zero]at hst
 obtain ⟨m,rfl⟩:∃ m,n=m+1:=⟨n - 1,by omega⟩
 exact ⟨Z,by simp [Builtin.clear_,run_underlying u74,←hZ,hst]⟩
variable {g n:Nat} {w:World}
theorem row_take3{cap i:Nat}{xs:List Value}(h:w.ownsRow 0 e 3 (.slice (some ⟨g,0,none⟩) n cap) n xs)(hi:i≤n):w.ownsRow 0 e 3 (.slice (some ⟨g,0,none⟩) i cap) i (xs.take (i*3)):=by
 rcases h.2 with ⟨hv,_⟩ | ⟨g',cap',cur,hv,hb',hg,hnc,hm,hcs,ht⟩
 ·simp at hv
 ·simp only [Value.slice.injEq,Option.some.injEq,Addr.mk.injEq,and_true,true_and]at hv
  obtain ⟨rfl,rfl⟩:=hv
  refine ⟨by rw [List.length_take,h.1];omega,.inr ⟨g,cap,cur,rfl,hb',hg,by omega,hm,hcs,?_⟩⟩
  rw [←ht,List.take_take];congr 1;omega
theorem delete_same(g n cap:Nat)(w:World)(hcap:n≤cap)(hn:n≤1000):Calls Tryz.prog 75 #[.slice (some ⟨g,0,none⟩) n cap,.int .i64 (n:Int),.int .i64 (n:Int)] w fun e w'=>e=.returned (.slice (some ⟨g,0,none⟩) n cap)∧w'=w:=by
 have n1:(0:Int)≤(n:Int):=by omega
 go_enter Tryz.func75,Tryz.ntmps75
 go_wp2
 all_goals (go_ret;exact ⟨rfl,rfl⟩)
theorem delete_tail(g n cap i:Nat)(xs:List Value)(w:World)(hrow:w.ownsRow 0 102 3 (.slice (some ⟨g,0,none⟩) n cap) n xs)(hi:i<n)(hn:n≤1000) :
  Calls Tryz.prog 75 #[.slice (some ⟨g,0,none⟩) n cap,.int .i64 (i:Int),.int .i64 (n:Int)] w fun e w'=>e=.returned (.slice (some ⟨g,0,none⟩) i cap)∧w'.ownsRow 0 102 3 (.slice (some ⟨g,0,none⟩) i cap) i (xs.take (i*3))∧Fr (fun k=>k=g) w w':=by
 obtain ⟨cur,hg,hcapn,hcs⟩:∃ cur,w.heap[g]? = some (.cells cur 102 (0,0))∧n≤cap∧cur.size=cap*3:=by
  rcases hrow.2 with ⟨hv,_⟩ | ⟨g',cap',cur,hv,hb',hg,hnc,hm,hcs,ht⟩
  ·simp at hv
  ·simp only [Value.slice.injEq,Option.some.injEq,Addr.mk.injEq,and_true,true_and]at hv
   obtain ⟨rfl,rfl⟩:=hv
   exact ⟨cur,hg,hnc,hcs⟩
 obtain ⟨i0,hi0,_,hi3,_⟩:=info_parts info102
 obtain ⟨Z,hZ⟩:∃ Z:TypeId→List Value,∀ ty,(Builtin.clear_ #[74] ty #[.slice (some ⟨g,i*3,none⟩) (n - i) (cap - i)]).run Tryz.prog w.drew=.ok (.tuple #[]) (w.drew.setCells g (i*3) (Z ty)):=by
  have:=fun ty=>clear3 w.drew g (i*3) (n - i) (cap - i) (by omega) (fun j hj=>by
   show (w.cell? _).isSome=true
   simp only [World.cell?,hg]
   simp;omega) (fun j hj=>by show w.frozen? _=false;simp [World.frozen?,hg]) ty
  exact ⟨fun ty=>(this ty).choose,fun ty=>(this ty).choose_spec⟩
 have HI0:=hid hi0;have HI3:=hid hi3;have HG:=hid hg;have HROW:=hid hrow
 obtain ⟨AA,hAA⟩:∃ AA:Addr,(if cap=n then some (⟨g,0,none⟩:Addr) else some ⟨g,n*3,none⟩)=some AA:=by
  split
  ·exact ⟨_,rfl⟩
  ·exact ⟨_,rfl⟩
 have n1:(0:Int)≤(i:Int):=by omega
 have n2:¬(i:Int)=(n:Int):=by omega
 have n3:(i:Int)≤(n:Int):=by omega
 have hic:i≤cap:=by omega
 have hni:¬cap=i:=by omega
 have hin:i≤n:=by omega
 clear hrow hg hcs hi0 hi3
 go_enter Tryz.func75,Tryz.ntmps75
 go_upto_region 5 with fail
 refine wp_region_K (S:=fun _=>True) (fun _=>false) (by kernel_rfl) (trivial) (fun hHeld=>?_)
 refine gkp 0 ?_
 refine gkp 1 ?_
 refine gkp 2 ?_
 refine gkp 3 ?_
 refine gkp 4 ?_
 refine gkp 5 ?_
 refine gk1 6 (fun K hK=>?_)
 refine step_append_room rfl (.tmp 22) (.tmp 25) 74 rfl 102 i0 3 u74 HI0.out HI3.out g 0 i cap (by simp [Act.eval]) AA 0 (cap - n) [] (by simp [Act.eval]) rfl (fun j u hu=>(by simp at hu)) (fun u hu=>(by simp at hu)) (by omega) (fun j hj=>(by simp at hj)) ?_;have hR:True:=trivial
 refine hK.out _ _ hR (fun hHeld=>?_)
 clear hK K
 (try simp only [Act.put,sA,sZ,sS])
 refine wpAnyK_pure (i:=7) (v:=?_) (op_at _ 7 _ rfl) (by kernel_rfl) (by kernel_rfl) (by kernel_rfl) (by kernel_rfl) (fun _ _ _ h=>h) (Or.inl ⟨by rfl,?_⟩) (Or.inl (by assumption)) ?_
 rotate_left 1
 focus (intro W hSw;go_simp;first |done |with_reducible rfl)
 (try simp only [Act.put,List.setIfInBounds_toArray,List.set_cons_zero])
 refine wpAnyK_done (by kernel_rfl) ?_ _
 clear hHeld
 have hZ2:∀ ty,(Builtin.clear_ #[74] ty #[.slice (some ⟨g,i*3,none⟩) (n - i) (cap - i)]).run Tryz.prog (w.drew.setCells g (i*3) [])=.ok (.tuple #[]) (w.drew.setCells g (i*3) (Z ty)):=hZ
 go_wp2
 go_ret
 obtain ⟨cur',h1,h2,h3,h4⟩:=setCells_row (e:=102) (Z 0) (i*3) w.drew cur HG.out
 refine ⟨rfl,?_,⟨h4.os,h4.tape,h4.output,h4.size,h4.blk⟩⟩
 have hR:=row_take3 HROW.out hin
 rcases hR.2 with ⟨hv,_⟩ | ⟨g',cap',cur0,hv,hb',hg,hnc,hm,hcs,ht⟩
 ·simp at hv
 ·simp only [Value.slice.injEq,Option.some.injEq,Addr.mk.injEq,and_true,true_and]at hv
  obtain ⟨rfl,rfl⟩:=hv
  rw [HG.out]at hg
  cases hg
  exact ⟨hR.1,.inr ⟨g,cap,cur',rfl,Nat.zero_le _,h1,hnc,hm,by rw [h2];exact hcs,by rw [h3 _ (Nat.le_refl _)];exact ht⟩⟩
variable {s:CS} {d:DS} {x:PC} {p:Nat}
theorem Core.reset2{E:Nat→Prop}{w':World}{x':PC}{P:Dsk.Parts}{C:Cch.Parts}(h:Core w p x P C d s)(hP:PgAt w' p x')(e1:x'.q=x.q)(e2:x'.k=x.k)(hf:Fr E w w')(hN:∀ b,NC p x P C b→b≠p→¬E b):Core w' p x' P C d s:=
 ⟨hP,by rw [e1];exact h.dk.stay hf.size (fun b hb hd=>hf.blk b hb (hN b (Or.inl (by rcases hd with h1 |h1;exact Or.inr h1;exact Or.inl h1)) (fun e=>h.dp (by rcases hd with h1 |h1;exact Or.inr (e▸h1);exact Or.inl (e▸h1))))),by rw [e2];exact h.ck.stay (fun b hb hS=>hf.blk b hb (hN b (Or.inr (Or.inl hS)) (fun e=>h.cp (e▸hS)))),by rw [e1,e2];exact h.dc,by rw [e1];exact h.dp,by rw [e2];exact h.cp⟩
def PC.undone(x:PC)(np m ml:Nat):PC:={ x with np:=np,m:=m,ml:=ml }
theorem undo_done{w1 w2 w3 W:World}{j m3:Nat}{k:MK}{P:Dsk.Parts}{C:Cch.Parts}{sure:List Pg}{now:List Pg}{c:List Bool}{enc:List Sec}{ms:List MK}(h:Live w p x P C d s sure n now c enc ms)(hk:ms[j]? = some k)(hg:x.mo=some ⟨g,0,none⟩)
  (f1:Fr (fun b=>b=g) w w1) (R:w1.ownsRow 0 102 3 (.slice (some ⟨g,0,none⟩) (j+1) x.mc) (j+1) ((mkC ms).take ((j+1)*3))) (h2:w2=w1.setCell ⟨p,8,none⟩ (.slice (some ⟨g,0,none⟩) (j+1) x.mc))
  (b3:Below w2.heap.size w2 w3) (hm3:w3.ownsMap Tryz.prog 3 slR m3 k.n (dirtD (false::k.c) k.enc)) (hn3:w.heap.size≤m3) (hW:W=(w3.setCell ⟨p,6,none⟩ (.int .i64 (k.now.length:Int))).setCell ⟨p,7,none⟩ (.map (some m3))) :
  LTo w W p x (x.undone k.now.length m3 (j+1)) P C d d s sure sure 0 k.n k.now k.c enc ms (ms.take (j+1)):=by
 have hjl:=(List.getElem?_eq_some_iff.1 hk).1
 have hkm:k∈ms:=List.mem_of_getElem? hk
 have hmv:x.mv.ownBlock=some g:=by unfold PC.mv;rw [hg];rfl
 have hs1:w1.heap.size≤w2.heap.size:=by rw [h2];simp
 have f2:Fr (fun b=>b=p) w1 w2:=by rw [h2];exact set_frame (Fr.refl _ _)
 have fW:Fr (fun b=>b=p) w3 W:=by rw [hW];exact set_frame (set_frame (Fr.refl _ _))
 have f01:Fr (fun b=>b=p∨x.mv.ownBlock=some b) w w1:=fr_imp f1 (fun b h=>Or.inr (by rw [h];exact hmv))
 have f02:=f01.trans f2 (fun _ _ h=>Or.inl h)
 have f03:=f02.trans (fr_below (S:=fun _=>False) b3) (fun _ _ h=>h.elim)
 have ff:Fr (fun b=>b=p∨x.mv.ownBlock=some b) w W:=f03.trans fW (fun _ _ h=>Or.inl h)
 have hxm:=mv_ne h.mks.row h.tx.chg.map
 have hpo:∀ b,Out w (NC p x P C) b→b≠p:=fun b hb e=>hb.2 (Or.inr (Or.inr e))
 have hpl:=h.tx.core.hd.lt
 have hgp:g≠p:=hpo g (h.mks.out g hmv)
 have hP1:PgAt w1 p x:=h.tx.core.hd.stay (f1.blk p hpl (fun e=>hgp e.symm))
 have hP2:PgAt w2 p { x with mo:=some ⟨g,0,none⟩,ml:=j+1 }:=by
  have:=Cch.blk_set hP1 (i:=8) (v:=.slice (some ⟨g,0,none⟩) (j+1) x.mc)
  unfold PgAt;rw [h2,this];rfl
 have hPW:PgAt W p (x.undone k.now.length m3 (j+1)):=by
  have:=Cch.blk_set (Cch.blk_set (hP2.later b3) (i:=6) (v:=.int .i64 (k.now.length:Int))) (i:=7) (v:=.map (some m3))
  unfold PgAt;rw [hW,this]
  unfold PC.undone hdP
  rw [hg];rfl
 have hEe:∀ {e:List Sec},(∀ b o l cc,[b,o,l,cc]∈e→Out w (NC p x P C) b)→(∀ b,x.mv.ownBlock=some b→EncOff (fun k=>k=b) e)→EncOff (fun b=>b=p∨x.mv.ownBlock=some b) e:=fun {e} h1 h2 b o l cc hb he=>by
  rcases he with he |he
  ·exact hpo b (h1 b o l cc hb) he
  ·exact h2 b he b o l cc hb rfl
 have hoo:∀ b,Out w (NC p x P C) b→Out W (NC p (x.undone k.now.length m3 (j+1)) P C) b:=fun b hb=>⟨Nat.lt_of_lt_of_le hb.1 ff.size,hb.2⟩
 have hNE:∀ b,NC p x P C b→b≠p→¬(b=p∨x.mv.ownBlock=some b):=fun b hb hbp e=>by
  rcases e with e |e
  ·exact hbp e
  ·exact (h.mks.out b e).2 hb
 have hcore:=h.tx.core.reset2 hPW rfl rfl ff hNE
 have h3s:w.heap.size≤w3.heap.size:=f03.size
 have hmW:W.ownsMap Tryz.prog 3 slR m3 k.n (dirtD (false::k.c) k.enc):=map_df hm3 (fW.blk m3 hm3.lt (fun e=>by omega))
 have mkAt:∀ k∈ms,MkAt W (NC p x P C) sure k:=fun k hk=>by
  obtain ⟨⟨h1,h2,h3,h4,h5,h6⟩,h7⟩:=h.mks.each k hk
  have hkm:=mv_ne h.mks.row h1.map
  exact ⟨h1.off ff (fun e=>by rcases e with e |e;exact hpo _ h2 e;exact hkm _ e rfl) (hEe (h.ek k hk) (fun b hb=>(h.sep b hb).2.1 k hk)) hoo,hoo _ h2,h3,h4,h5,h6⟩
 have hkW:=mkAt k hkm
 have hmo3:Out W (NC p x P C) m3:=⟨hmW.lt,fun h1=>by have:=h.tx.core.lt h1;omega⟩
 have h0E:¬(0=p∨x.mv.ownBlock=some 0):=fun e=>by
  rcases e with e |e
  ·exact hpo _ h.tx.t0 e
  ·exact (h.sep 0 e).2.2 rfl
 have hTx:Tx W p (x.undone k.now.length m3 (j+1)) P C d s sure k.n k.now k.c k.enc:=
  ⟨hcore,⟨hmW,hkW.chg.len,hkW.chg.el,hkW.chg.at_⟩,hmo3,h.tx.fits,h.tx.pages,rfl,h.tx.ws,hkW.wn,h.tx.bs,hkW.bn,tab_of h.tx.tab (ff.blk 0 h.tx.t0.1 h0E),hoo 0 h.tx.t0,by show m3≠0;have:=h.tx.t0.1;omega,hkW.sm⟩
 have hmvW:(x.undone k.now.length m3 (j+1)).mv=.slice (some ⟨g,0,none⟩) (j+1) x.mc:=by unfold PC.mv PC.undone;rw [hg]
 have hRW:W.ownsRow 0 102 3 (.slice (some ⟨g,0,none⟩) (j+1) x.mc) (j+1) ((mkC ms).take ((j+1)*3)):=rr_fr (rr_fr (rr_fr R f2 (fun b hb e=>by cases hb;exact hgp e)) (fr_below (S:=fun _=>False) b3) (fun _ _ h=>h)) fW (fun b hb e=>by cases hb;exact hgp e)
 have hgb:∀ b,(x.undone k.now.length m3 (j+1)).mv.ownBlock=some b→x.mv.ownBlock=some b:=fun b hb=>by rw [hmvW]at hb;cases hb;exact hmv
 have htl:(ms.take (j+1)).length=j+1:=by rw [List.length_take];omega
 refine ⟨⟨P,C,s,k.enc,⟨hTx,⟨by rw [hmvW,htl,mkC_take];exact hRW,by rw [htl];rfl,fun b hb=>hoo b (h.mks.out b (hgb b hb)),fun k2 hk2=>⟨mkAt k2 (List.mem_of_mem_take hk2),?_⟩,?_,fun k2 hk2=>h.mks.ids k2 (List.mem_of_mem_take hk2)⟩,fun b hb=>⟨(h.sep b (hgb b hb)).2.1 k hkm,fun k2 hk2=>(h.sep b (hgb b hb)).2.1 k2 (List.mem_of_mem_take hk2),(h.sep b (hgb b hb)).2.2⟩,fun b o l cc hb=>hoo b (h.ek k hkm b o l cc hb),fun k2 hk2 b o l cc hb=>hoo b (h.ek k2 (List.mem_of_mem_take hk2) b o l cc hb)⟩,fun b hb=>?_,by omega,rfl⟩,fr_imp ff (fun b hb=>by
  rcases hb with rfl |hb
  ·exact Or.inl (Or.inr (Or.inr rfl))
  ·exact Or.inr (Or.inr hb))⟩
 ·show k2.m≠m3
  have:=(h.mks.each k2 (List.mem_of_mem_take hk2)).1.out.1;omega
 ·rw [List.map_take];exact h.mks.rise.sublist (List.take_sublist _ _)
 ·rcases hb with hb |hb |rfl |hb |hb | ⟨k2,hk2,hb⟩
  ·exact Or.inl (Or.inl hb)
  ·right;rw [show b=m3 from hb];exact hn3
  ·exact Or.inl (Or.inr (Or.inr (Or.inl rfl)))
  ·exact Or.inl (Or.inr (Or.inr (Or.inr (Or.inl (hgb b hb)))))
  ·exact Or.inl (Or.inr (Or.inr (Or.inr (Or.inr (Or.inr ⟨k,hkm,Or.inr hb⟩)))))
  ·exact Or.inl (Or.inr (Or.inr (Or.inr (Or.inr (Or.inr ⟨k2,List.mem_of_mem_take hk2,hb⟩)))))
theorem find_any(p:Nat)(x:PC)(ms:List MK)(z:Int)(w:World)(hP:PgAt w p x)(hml:x.ml=ms.length)(hrow:w.ownsRow 0 102 3 x.mv ms.length (mkC ms))(hr:(ms.map MK.id).Pairwise (· < ·))(hl:ms.length≤1000)(hid2:∀ k∈ms,k.id≤1000000) :
  Calls Tryz.prog 74 #[.pointer (some ⟨p,0,none⟩),.int .i64 z] w fun e w'=>∃ (j:Nat) (f:Bool),e=.returned (.tuple #[.int .i64 (j:Int),.bool f])∧At ms z j∧(f=true↔∃ k,ms[j]? = some k∧(k.id:Int)=z)∧Below w.heap.size w w':=by
 obtain ⟨a0,a1,a2,a3,a4,a5,a6,a7,a8,a9,a10,a11⟩:=hP.cells
 unfold PC.mv at hrow
 rw [hml]at hrow a8
 have cs:=hid (search_any x.mo x.mc ms z w hrow hr hl hid2)
 clear hP hrow hr hid2 hml
 go_enter Tryz.func74,Tryz.ntmps74
 go_wp2_with (go_at_call 99;refine cs.out.mono ?_;rintro e w1 ⟨j,f,rfl,h1,h2,h3⟩;have H1:=hid h1;have H2:=hid h2;have B1:=hid h3;clear h1 h2 h3)
 go_ret2
 exact ⟨j,f,rfl,H1.out,H2.out,B1.out⟩
end
section
open Go.RowKit Go.Maps
open Dsk (gt hid undrew keep_old keep_cell lt_cell Rd DS FS Sec DiskP DFrame Grew From op_at idx dirtD was secD)
open Cch (CS CP Fr wpAnyK wpAnyK_take wpAnyK_pure wpAnyK_ready wpAnyK_done wp_region_K AllReadyK.cons AllReadyK.nil AllReadyK.late)
theorem at_yes{ms:List MK}{z:Int}{j:Nat}(h:At ms z j){i:Nat}{k:MK}(hk:ms[i]? = some k)(hz:(k.id:Int)=z)(hr:(ms.map MK.id).Pairwise (· < ·)):j=i:=by
 rcases Nat.lt_trichotomy i j with h1 |h1 |h1
 ·have:=h.lo i k h1 hk;omega
 ·exact h1.symm
 ·obtain ⟨k2,hk2⟩:∃ k2,ms[j]? = some k2:=⟨_,List.getElem?_eq_getElem (Nat.lt_trans h1 (List.getElem?_eq_some_iff.1 hk).1)⟩
  have h2:=h.hi j k2 (Nat.le_refl _) hk2
  have h3:=rise_at hr h1 hk2 hk
  omega
theorem undo_none(p:Nat)(x:PC)(P:Dsk.Parts)(C:Cch.Parts)(d:DS)(s:CS)(sure:List Pg)(n:Nat)(now:List Pg)(c:List Bool)(enc:List Sec)(ms:List MK)(z:Int)(w:World)(h:Live w p x P C d s sure n now c enc ms)(hb:x.busy=true)(hm:ms.length≤1000)(hla:x.last≤1000000)(hz:∀ k∈ms,(k.id:Int)≠z) :
  Calls Tryz.prog 38 #[.pointer (some ⟨p,0,none⟩),.int .i64 z] w fun e w'=>e=.returned (.int .i64 5)∧Below w.heap.size w w':=by
 have cw:=within_live p x w h.tx.core.hd
 rw [hb]at cw
 have CW:=hid cw
 have CF:Hid (∀ W,Below w.heap.size w W→Calls Tryz.prog 74 #[.pointer (some ⟨p,0,none⟩),.int .i64 z] W fun e w'=>∃ j:Nat,e=.returned (.tuple #[.int .i64 (j:Int),.bool false])∧Below W.heap.size W w'):=hid (fun W hW=>(find_any p x ms z W (h.later hW).tx.core.hd h.mks.ml (h.later hW).mks.row h.mks.rise hm (fun k hk=>by have:=(h.mks.ids k hk).2;omega)).mono (fun e w' ⟨j,f,h1,h2,h3,h4⟩=>by
  cases f with
  | false=>exact ⟨j,h1,h4⟩
  | true=>obtain ⟨k,hk,e⟩:=h3.1 rfl;exact (hz k (List.mem_of_getElem? hk) e).elim))
 clear h hb cw hz
 go_enter Tryz.func38,Tryz.ntmps38
 go_wp2_with (first
  | (go_at_call 55;refine CW.out.mono ?_;rintro e w1 ⟨rfl,hb1⟩;have B1:=hid hb1;clear hb1)
  | (go_at_call 74;refine (CF.out w1 B1.out).mono ?_;rintro e w2 ⟨j,rfl,h3⟩;have B2:=hid (gt B1.out h3);clear h3))
 go_ret
 exact ⟨rfl,B2.out⟩
theorem undo_yes(p:Nat)(x:PC)(P:Dsk.Parts)(C:Cch.Parts)(d:DS)(s:CS)(sure:List Pg)(n:Nat)(now:List Pg)(c:List Bool)(enc:List Sec)(ms:List MK)(z:Int)(w:World)(h:Live w p x P C d s sure n now c enc ms)(hb:x.busy=true)(hm:ms.length≤1000)(hla:x.last≤1000000)(j:Nat)(k:MK)(hk:ms[j]? = some k)(hz:(k.id:Int)=z) :
  Calls Tryz.prog 38 #[.pointer (some ⟨p,0,none⟩),.int .i64 z] w fun e w'=>e=.returned (.int .i64 0)∧∃ m3,LTo w w' p x (x.undone k.now.length m3 (j+1)) P C d d s sure sure 0 k.n k.now k.c enc ms (ms.take (j+1)):=by
 have cw:=within_live p x w h.tx.core.hd
 rw [hb]at cw
 have CW:=hid cw
 have CF:Hid (∀ W,Below w.heap.size w W→Calls Tryz.prog 74 #[.pointer (some ⟨p,0,none⟩),.int .i64 z] W fun e w'=>e=.returned (.tuple #[.int .i64 (j:Int),.bool true])∧Below W.heap.size W w'):=hid (fun W hW=>(find_any p x ms z W (h.later hW).tx.core.hd h.mks.ml (h.later hW).mks.row h.mks.rise hm (fun k hk=>by have:=(h.mks.ids k hk).2;omega)).mono (fun e w' ⟨j2,f,h1,h2,h3,h4⟩=>by
  obtain rfl:j2=j:=at_yes h2 hk hz h.mks.rise
  have hf:f=true:=h3.2 ⟨k,hk,hz⟩
  subst hf
  exact ⟨h1,h4⟩))
 have hjl:=(List.getElem?_eq_some_iff.1 hk).1
 obtain ⟨aM,cM,hMV,hM0,hM1⟩:=row_form3 h.mks.row
 have hml:=h.mks.ml
 unfold PC.mv at hMV
 simp only [Value.slice.injEq]at hMV
 obtain ⟨e1,-,e3⟩:=hMV
 obtain ⟨g,hmo⟩:∃ g,x.mo=some ⟨g,0,none⟩:=by
  cases aM with
  | none=>have:=(hM0 rfl).1;omega
  | some a=>exact ⟨a.block,by rw [e1,←(hM1 a rfl).1]⟩
 have hcap:ms.length≤x.mc:=by
  rw [e3]
  cases aM with
  | none=>have:=hM0 rfl;omega
  | some a=>exact (hM1 a rfl).2.1
 have hmvb:x.mv.ownBlock=some g:=by unfold PC.mv;rw [hmo];rfl
 have HGP:Hid (g≠p):=hid (fun e=>(h.mks.out g hmvb).2 (Or.inr (Or.inr e)))
 have hkE:=h.mks.each k (List.mem_of_getElem? hk)
 have HKP:Hid (k.m≠p∧k.m≠g):=hid ⟨fun e=>hkE.1.out.2 (Or.inr (Or.inr e)),fun e=>(mv_ne h.mks.row hkE.1.chg.map) g hmvb e.symm⟩
 have H:=hid h;have HMO:=hid hmo;have HK:=hid hk;have HCAP0:=hid hcap
 have HMR:Hid (∀ W,Below w.heap.size w W→W.ownsRow 0 102 3 (.slice (some ⟨g,0,none⟩) ms.length x.mc) ms.length (mkC ms)):=hid (fun W hW=>by have:=(h.later hW).mks.row;unfold PC.mv at this;rw [hmo,hml]at this;exact this)
 have HKM0:Hid (∀ W,Below w.heap.size w W→W.ownsMap Tryz.prog 3 slR k.m k.n (dirtD (false::k.c) k.enc)):=hid (fun W hW=>((h.later hW).mks.each k (List.mem_of_getElem? hk)).1.chg.map)
 obtain ⟨LM,hLM⟩:∃ LM,LM=ms.length:=⟨_,rfl⟩
 have HML:Hid (x.ml=LM):=hid (by rw [hLM];exact hml)
 rw [←hLM]at hm hjl HCAP0 HMR
 have HCAP:=HCAP0
 have HJL:Hid (j+1≤LM):=hid hjl
 obtain ⟨J,hJ⟩:∃ J,J=j+1:=⟨_,rfl⟩
 have e8:(j:Int)+1=(J:Int):=by omega
 have e9:IntKind.i64.wrap ((j:Int)+1)=(J:Int):=by rw [IntWalk.i64_in _ ⟨by omega,by omega⟩];omega
 have e7:IntKind.i64.wrap (J:Int)=(J:Int):=IntWalk.i64_in _ ⟨by omega,by omega⟩
 have hjc:j+1≤x.mc:=by have:=HCAP.out;omega
 clear h hb cw hz hk hM0 hM1 e1 e3 hmo hcap hmvb hkE hml hLM HCAP0
 go_enter Tryz.func38,Tryz.ntmps38
 go_upto_region 7 with (first
  | (go_at_call 55;refine CW.out.mono ?_;rintro e w1 ⟨rfl,hb1⟩;have B1:=hid hb1;clear hb1)
  | (go_at_call 74;refine (CF.out w1 B1.out).mono ?_;rintro e w2 ⟨rfl,h3⟩;have B2:=hid (gt B1.out h3);clear h3))
 have H2:=hid (H.out.later B2.out)
 have HRW:Hid (w2.drew.ownsRow 0 102 3 (.slice (some ⟨g,0,none⟩) LM x.mc) LM (mkC ms)):=hid (rr_fr (E:=fun _=>False) (HMR.out w2 B2.out) ⟨rfl,rfl,rfl,Nat.le_refl _,fun _ _ _=>rfl⟩ (fun _ _ h=>h))
 have HKM:=hid (HKM0.out w2 B2.out)
 have hP2:PgAt w2.drew p x:=H2.out.tx.core.hd.later (Below.refl _ _).drew
 by_cases hje:j+1=LM
 ·have DS:Hid (Calls Tryz.prog 75 #[.slice (some ⟨g,0,none⟩) LM x.mc,.int .i64 (J:Int),.int .i64 (LM:Int)] w2.drew fun e w'=>e=.returned (.slice (some ⟨g,0,none⟩) J x.mc)∧w'=w2.drew):=hid (by rw [hJ,hje];exact delete_same g LM x.mc w2.drew HCAP.out hm)
  have HJ:=hid hJ
  clear hje hJ
  refine wp_region_K (S:=fun W=>PgAt W p x) (fun i=>i == 15) (by kernel_rfl) (hP2) (fun hHeld=>?_)
  refine gkp 0 ?_
  refine gkp 1 ?_
  refine gkp 2 ?_
  refine gkp 3 ?_
  refine gkt 4 ?_ (h:=by intro W hSw;have hh:=PgAt.cells (show PgAt W p x from hSw);obtain ⟨a0,a1,a2,a3,a4,a5,a6,a7,a8,a9,a10,a11⟩:=hh;rw [HMO.out,HML.out]at a8;go_simp;first |done |with_reducible rfl)
  refine gkp 5 ?_
  refine gkp 6 ?_
  refine gkp 7 ?_
  refine gkp 8 ?_
  refine gkp 9 ?_
  refine gkt 10 ?_ (h:=by intro W hSw;have hh:=PgAt.cells (show PgAt W p x from hSw);obtain ⟨a0,a1,a2,a3,a4,a5,a6,a7,a8,a9,a10,a11⟩:=hh;rw [HMO.out,HML.out]at a8;go_simp;first |done |with_reducible rfl)
  refine gkp 11 ?_
  refine gk1 12 (fun K hK=>?_)
  go_simp
  go_at_call 75;(with_reducible refine (DS.out).mono ?_);rintro e w3 ⟨rfl,hw3⟩;have F3:Hid (Fr (fun b=>b=g) w2 w3):=hid (by rw [hw3];exact ⟨rfl,rfl,rfl,Nat.le_refl _,fun _ _ _=>rfl⟩);have R3:Hid (w3.ownsRow 0 102 3 (.slice (some ⟨g,0,none⟩) J x.mc) J ((mkC ms).take (J*3))):=hid (by rw [hw3];exact row_take3 HRW.out (by rw [HJ.out];exact HJL.out));have hR:PgAt w3 p x:=(by rw [hw3];exact hHeld);have P3:=hid hR;clear hw3
  refine hK.out _ _ hR (fun hHeld=>?_)
  clear hK K
  (try simp only [Act.put,sA,sZ,sS])
  refine gkp 13 ?_
  refine gkp 14 ?_
  have hh:=PgAt.cells P3.out
  obtain ⟨a0,a1,a2,a3,a4,a5,a6,a7,a8,a9,a10,a11⟩:=hh
  have f8:=P3.out.frozen 8
  clear hR
  refine gkl 15 (fun K hK=>?_)
  go_simp
  refine hK.out _ _ ?_
  clear hK K
  (try simp only [Act.put,sA,sZ,sS])
  refine wpAnyK_done (by kernel_rfl) ?_ _
  clear hHeld
  obtain ⟨w4,hw4⟩:∃ w4,w4=w3.setCell ⟨p,8,none⟩ (.slice (some ⟨g,0,none⟩) J x.mc):=⟨_,rfl⟩
  have f4:Fr (fun b=>b=p) w3 w4:=by rw [hw4];exact set_frame (Fr.refl _ _)
  have R4:=rr_fr R3.out f4 (fun b hb e=>by cases hb;exact HGP.out e)
  obtain ⟨q0,q1,q2⟩:=mkC_get _ _ _ HK.out
  have cells:=fun i u hu=>(R4.cells (g:=g) rfl i u hu)
  have d1:w4.cell? ⟨g,j*3+1,none⟩=some (.int .i64 (k.now.length:Int)):=by have:=cells (j*3+1) _ (by rw [List.getElem?_take,if_pos (by have:=HJ.out;omega)];exact q1);rw [Addr.add_lit]at this;simpa using this
  have d2:w4.cell? ⟨g,j*3+2,none⟩=some (.map (some k.m)):=by have:=cells (j*3+2) _ (by rw [List.getElem?_take,if_pos (by have:=HJ.out;omega)];exact q2);rw [Addr.add_lit]at this;simpa using this
  have p8:w4.cell? ⟨p,8,none⟩=some (.slice (some ⟨g,0,none⟩) J x.mc):=by rw [hw4];exact (Cch.hd_cell (Cch.blk_set P3.out (i:=8) (v:=.slice (some ⟨g,0,none⟩) J x.mc)) 8).trans rfl
  rw [←hw4]
  have m4:w4.ownsMap Tryz.prog 3 slR k.m k.n (dirtD (false::k.c) k.enc):=map_df HKM.out (((f4.blk k.m (Nat.lt_of_lt_of_le HKM.out.lt F3.out.size) (fun e=>HKP.out.1 e)).trans (F3.out.blk k.m HKM.out.lt (fun e=>HKP.out.2 e))))
  have CC:=hid (copied_any (k.now.length:Int) k.m k.n (dirtD (false::k.c) k.enc) w4 m4)
  have P4:PgAt w4 p { x with mo:=some ⟨g,0,none⟩,ml:=J }:=by
   have:=Cch.blk_set P3.out (i:=8) (v:=.slice (some ⟨g,0,none⟩) J x.mc)
   unfold PgAt;rw [hw4,this];rfl
  have HP4:=hid P4;have HW4:=hid hw4
  have hgj:(j:Int)<(J:Int):=by omega
  have hj0:(0:Int)≤(j:Int):=by omega
  have n5:IntKind.i64.wrap (j:Int)=(j:Int):=IntWalk.i64_in _ ⟨by omega,by omega⟩
  clear hw4 f4 R4 q0 q1 q2 cells m4 P4 a0 a1 a2 a3 a4 a5 a6 a7 a8 a9 a10 a11 f8
  generalize hKN:(k.now.length:Int)=KN at *
  go_wp2_with (go_at_call 71;refine CC.out.mono ?_;rintro e w5 ⟨m5,rfl,hm5,hl5,hb5⟩;have M5:=hid hm5;have L5:=hid hl5;have B5:=hid hb5;obtain ⟨b0,b1,b2,b3,b4,b5,b6,b7,b8,b9,b10,b11⟩:=(HP4.out.later hb5).cells;have g6:=(HP4.out.later hb5).frozen 6;have g7:=(HP4.out.later hb5).frozen 7;clear hm5 hl5 hb5)
  go_ret
  refine ⟨rfl,m5,LTo.first B2.out ?_⟩
  exact undo_done H2.out HK.out HMO.out F3.out (by rw [←HJ.out];exact R3.out) (by rw [←HJ.out];exact HW4.out) B5.out M5.out (by have h6:=L5.out;have h7:=F3.out.size;have h8:w4.heap.size=w3.heap.size:=(by rw [HW4.out];simp);omega) (by rw [hKN])
 ·have DS:Hid (Calls Tryz.prog 75 #[.slice (some ⟨g,0,none⟩) LM x.mc,.int .i64 (J:Int),.int .i64 (LM:Int)] w2.drew fun e w'=>e=.returned (.slice (some ⟨g,0,none⟩) J x.mc)∧w'.ownsRow 0 102 3 (.slice (some ⟨g,0,none⟩) J x.mc) J ((mkC ms).take (J*3))∧Fr (fun k=>k=g) w2.drew w'):=hid (by rw [hJ];exact delete_tail g LM x.mc (j+1) (mkC ms) w2.drew HRW.out (by omega) hm)
  have HJ:=hid hJ
  clear hje hJ
  refine wp_region_K (S:=fun W=>PgAt W p x) (fun i=>i == 15) (by kernel_rfl) (hP2) (fun hHeld=>?_)
  refine gkp 0 ?_
  refine gkp 1 ?_
  refine gkp 2 ?_
  refine gkp 3 ?_
  refine gkt 4 ?_ (h:=by intro W hSw;have hh:=PgAt.cells (show PgAt W p x from hSw);obtain ⟨a0,a1,a2,a3,a4,a5,a6,a7,a8,a9,a10,a11⟩:=hh;rw [HMO.out,HML.out]at a8;go_simp;first |done |with_reducible rfl)
  refine gkp 5 ?_
  refine gkp 6 ?_
  refine gkp 7 ?_
  refine gkp 8 ?_
  refine gkp 9 ?_
  refine gkt 10 ?_ (h:=by intro W hSw;have hh:=PgAt.cells (show PgAt W p x from hSw);obtain ⟨a0,a1,a2,a3,a4,a5,a6,a7,a8,a9,a10,a11⟩:=hh;rw [HMO.out,HML.out]at a8;go_simp;first |done |with_reducible rfl)
  refine gkp 11 ?_
  refine gk1 12 (fun K hK=>?_)
  go_simp
  go_at_call 75;(with_reducible refine (DS.out).mono ?_);rintro e w3 ⟨rfl,hr3,hf3⟩;have F3:Hid (Fr (fun b=>b=g) w2 w3):=hid ⟨hf3.os,hf3.tape,hf3.output,hf3.size,hf3.blk⟩;have R3:=hid hr3;have hR:PgAt w3 p x:=hHeld.stay (hf3.blk p hHeld.lt (fun e=>HGP.out e.symm));have P3:=hid hR;clear hr3 hf3
  refine hK.out _ _ hR (fun hHeld=>?_)
  clear hK K
  (try simp only [Act.put,sA,sZ,sS])
  refine gkp 13 ?_
  refine gkp 14 ?_
  have hh:=PgAt.cells P3.out
  obtain ⟨a0,a1,a2,a3,a4,a5,a6,a7,a8,a9,a10,a11⟩:=hh
  have f8:=P3.out.frozen 8
  clear hR
  refine gkl 15 (fun K hK=>?_)
  go_simp
  refine hK.out _ _ ?_
  clear hK K
  (try simp only [Act.put,sA,sZ,sS])
  refine wpAnyK_done (by kernel_rfl) ?_ _
  clear hHeld
  obtain ⟨w4,hw4⟩:∃ w4,w4=w3.setCell ⟨p,8,none⟩ (.slice (some ⟨g,0,none⟩) J x.mc):=⟨_,rfl⟩
  have f4:Fr (fun b=>b=p) w3 w4:=by rw [hw4];exact set_frame (Fr.refl _ _)
  have R4:=rr_fr R3.out f4 (fun b hb e=>by cases hb;exact HGP.out e)
  obtain ⟨q0,q1,q2⟩:=mkC_get _ _ _ HK.out
  have cells:=fun i u hu=>(R4.cells (g:=g) rfl i u hu)
  have d1:w4.cell? ⟨g,j*3+1,none⟩=some (.int .i64 (k.now.length:Int)):=by have:=cells (j*3+1) _ (by rw [List.getElem?_take,if_pos (by have:=HJ.out;omega)];exact q1);rw [Addr.add_lit]at this;simpa using this
  have d2:w4.cell? ⟨g,j*3+2,none⟩=some (.map (some k.m)):=by have:=cells (j*3+2) _ (by rw [List.getElem?_take,if_pos (by have:=HJ.out;omega)];exact q2);rw [Addr.add_lit]at this;simpa using this
  have p8:w4.cell? ⟨p,8,none⟩=some (.slice (some ⟨g,0,none⟩) J x.mc):=by rw [hw4];exact (Cch.hd_cell (Cch.blk_set P3.out (i:=8) (v:=.slice (some ⟨g,0,none⟩) J x.mc)) 8).trans rfl
  rw [←hw4]
  have m4:w4.ownsMap Tryz.prog 3 slR k.m k.n (dirtD (false::k.c) k.enc):=map_df HKM.out (((f4.blk k.m (Nat.lt_of_lt_of_le HKM.out.lt F3.out.size) (fun e=>HKP.out.1 e)).trans (F3.out.blk k.m HKM.out.lt (fun e=>HKP.out.2 e))))
  have CC:=hid (copied_any (k.now.length:Int) k.m k.n (dirtD (false::k.c) k.enc) w4 m4)
  have P4:PgAt w4 p { x with mo:=some ⟨g,0,none⟩,ml:=J }:=by
   have:=Cch.blk_set P3.out (i:=8) (v:=.slice (some ⟨g,0,none⟩) J x.mc)
   unfold PgAt;rw [hw4,this];rfl
  have HP4:=hid P4;have HW4:=hid hw4
  have hgj:(j:Int)<(J:Int):=by omega
  have hj0:(0:Int)≤(j:Int):=by omega
  have n5:IntKind.i64.wrap (j:Int)=(j:Int):=IntWalk.i64_in _ ⟨by omega,by omega⟩
  clear hw4 f4 R4 q0 q1 q2 cells m4 P4 a0 a1 a2 a3 a4 a5 a6 a7 a8 a9 a10 a11 f8
  generalize hKN:(k.now.length:Int)=KN at *
  go_wp2_with (go_at_call 71;refine CC.out.mono ?_;rintro e w5 ⟨m5,rfl,hm5,hl5,hb5⟩;have M5:=hid hm5;have L5:=hid hl5;have B5:=hid hb5;obtain ⟨b0,b1,b2,b3,b4,b5,b6,b7,b8,b9,b10,b11⟩:=(HP4.out.later hb5).cells;have g6:=(HP4.out.later hb5).frozen 6;have g7:=(HP4.out.later hb5).frozen 7;clear hm5 hl5 hb5)
  go_ret
  refine ⟨rfl,m5,LTo.first B2.out ?_⟩
  exact undo_done H2.out HK.out HMO.out F3.out (by rw [←HJ.out];exact R3.out) (by rw [←HJ.out];exact HW4.out) B5.out M5.out (by have h6:=L5.out;have h7:=F3.out.size;have h8:w4.heap.size=w3.heap.size:=(by rw [HW4.out];simp);omega) (by rw [hKN])
end
end Go.Proofs.YtadhdedjdgjboaaGreatDoor
