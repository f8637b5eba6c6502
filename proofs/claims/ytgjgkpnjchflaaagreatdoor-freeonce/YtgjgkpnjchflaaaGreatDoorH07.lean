/- The arithmetic of heads and records read: which bytes are one; no statement of the seat is proved here. -/
import Derived.Test.YtgjgkpnjchflaaaGreatDoorH01
import Derived.Test.YtgjgkpnjchflaaaGreatDoorH00
set_option maxHeartbeats 16000000
set_option maxRecDepth 20000
namespace Go.Proofs.YtgjgkpnjchflaaaGreatDoor
namespace Jrn
open Go.RowKit
theorem psum_take(xs:List Nat)(s k:Nat)(l:Bool):∀ i,i≤k→psum (xs.take k) s l i=psum xs s l i:=by
 intro i
 induction i with
 | zero=>intro _;rfl
 | succ i ih=>
  intro hi
  simp only [psum]
  rw [ih (by omega)]
  congr 2
  simp [List.getD,show i<k by omega]
theorem list4(xs:List Nat)(h:4≤xs.length):xs.take 4 = [xs.getD 0 0,xs.getD 1 0,xs.getD 2 0,xs.getD 3 0]:=by
 match xs,h with
 | a::b::c::d::r,_=>simp [List.getD]
theorem list8(xs:List Nat)(h:8≤xs.length):xs.take 8 = [xs.getD 0 0,xs.getD 1 0,xs.getD 2 0,xs.getD 3 0,xs.getD 4 0,xs.getD 5 0,xs.getD 6 0,xs.getD 7 0]:=by
 match xs,h with
 | a::b::c::d::e::f::g::i::r,_=>simp [List.getD]
theorem put_psum4(xs:List Nat)(hx:∀ x∈xs,x<256)(h:4≤xs.length):putN (psum xs 4 false 4) 4 false=xs.take 4:=by
 rw [list4 xs h]
 have h0:=getD_lt hx 0 (by omega)
 have h1:=getD_lt hx 1 (by omega)
 have h2:=getD_lt hx 2 (by omega)
 have h3:=getD_lt hx 3 (by omega)
 simp only [putN,up,psum,place,Bool.false_eq_true,if_false]
 generalize xs.getD 0 0=a at *
 generalize xs.getD 1 0=b at *
 generalize xs.getD 2 0=c at *
 generalize xs.getD 3 0=d at *
 simp only [Nat.reduceSub,Nat.reduceMul,Nat.reducePow,Nat.reduceAdd,List.cons.injEq,and_true]
 omega
theorem put_psum8(xs:List Nat)(hx:∀ x∈xs,x<256)(h:8≤xs.length):putN (psum xs 8 false 8) 8 false=xs.take 8:=by
 rw [list8 xs h]
 have h0:=getD_lt hx 0 (by omega)
 have h1:=getD_lt hx 1 (by omega)
 have h2:=getD_lt hx 2 (by omega)
 have h3:=getD_lt hx 3 (by omega)
 have h4:=getD_lt hx 4 (by omega)
 have h5:=getD_lt hx 5 (by omega)
 have h6:=getD_lt hx 6 (by omega)
 have h7:=getD_lt hx 7 (by omega)
 simp only [putN,up,psum,place,Bool.false_eq_true,if_false]
 generalize xs.getD 0 0=a at *
 generalize xs.getD 1 0=b at *
 generalize xs.getD 2 0=c at *
 generalize xs.getD 3 0=d at *
 generalize xs.getD 4 0=e at *
 generalize xs.getD 5 0=f at *
 generalize xs.getD 6 0=g at *
 generalize xs.getD 7 0=i at *
 simp only [Nat.reduceSub,Nat.reduceMul,Nat.reducePow,Nat.reduceAdd,List.cons.injEq,and_true]
 omega
theorem psum_put4(v:Nat)(hv:v<4294967296)(r:List Nat):psum (putN v 4 false++r) 4 false 4=v:=by
 simp only [putN,up,psum,place,Bool.false_eq_true,if_false,List.cons_append,List.nil_append,List.getD_cons_zero,List.getD_cons_succ,Nat.reduceSub,Nat.reduceMul,Nat.reducePow,Nat.reduceAdd]
 omega
theorem psum4_lt(xs:List Nat)(hx:∀ x∈xs,x<256)(h:4≤xs.length):psum xs 4 false 4<4294967296:=by
 have h0:=getD_lt hx 0 (by omega)
 have h1:=getD_lt hx 1 (by omega)
 have h2:=getD_lt hx 2 (by omega)
 have h3:=getD_lt hx 3 (by omega)
 simp only [psum,place,Bool.false_eq_true,if_false,Nat.reduceSub,Nat.reduceMul,Nat.reducePow]
 omega
variable {xs:List Nat}
theorem take_bytes(hx:∀ x∈xs,x<256)(k:Nat):∀ x∈xs.take k,x<256:=fun x h=>hx x (List.mem_of_mem_take h)
theorem drop_bytes(hx:∀ x∈xs,x<256)(k:Nat):∀ x∈xs.drop k,x<256:=fun x h=>hx x (List.mem_of_mem_drop h)
def hC(xs:List Nat):Nat:=psum (xs.drop 6) 4 false 4
def hP(xs:List Nat):Nat:=psum (xs.drop 10) 4 false 4
def hN(xs:List Nat):Nat:=psum (xs.drop 14) 8 false 8
def isHead(xs:List Nat):Bool:=decide (xs.take 128=headN (hC xs) (hP xs) (hN xs) true)&&decide (hC xs≤4000)&&decide (hP xs≤4000)
theorem hC_take(xs:List Nat):hC (xs.take 128)=hC xs:=by
 unfold hC;rw [List.drop_take];exact psum_take _ _ _ _ _ (by omega)
theorem hP_take(xs:List Nat):hP (xs.take 128)=hP xs:=by
 unfold hP;rw [List.drop_take];exact psum_take _ _ _ _ _ (by omega)
theorem hN_take(xs:List Nat):hN (xs.take 128)=hN xs:=by
 unfold hN;rw [List.drop_take];exact psum_take _ _ _ _ _ (by omega)
theorem cut3(ys:List Nat)(a b:Nat):(ys.drop a).drop b=ys.drop (a+b):=List.drop_drop
theorem head_whole(ys:List Nat)(hl:ys.length=128)(hx:∀ x∈ys,x<256) :
  ys=headN (hC ys) (hP ys) (hN ys) true↔ys.take 6=mag∧psum (ys.drop 22) 4 false 4=addN 0 (ys.take 22)∧(ys.drop 26).take 101=List.replicate 101 0∧ys.drop 127 = [165]:=by
 have e22:∀ (h:ys.take 6=mag),hd22 (hC ys) (hP ys) (hN ys)=ys.take 22:=by
  intro h
  unfold hd22 hC hP hN
  rw [put_psum4 _ (drop_bytes hx 6) (by simp;omega),put_psum4 _ (drop_bytes hx 10) (by simp;omega),put_psum8 _ (drop_bytes hx 14) (by simp;omega),←h]
  have e:∀ a b,ys.take a++(ys.drop a).take b=ys.take (a+b):=fun a b=>by rw [List.take_add]
  rw [e,e,e]
 constructor
 ·intro h
  obtain ⟨c,hc⟩:∃ c,c=hC ys:=⟨_,rfl⟩
  obtain ⟨p,hp⟩:∃ p,p=hP ys:=⟨_,rfl⟩
  obtain ⟨n,hn⟩:∃ n,n=hN ys:=⟨_,rfl⟩
  rw [←hc,←hp,←hn]at h e22
  have h6:ys.take 6=mag:=by
   rw [h]
   unfold headN hd26 hd22
   simp [mag]
  have h22:=e22 h6
  have hw:ys=hd22 c p n++(putN (addN 0 (hd22 c p n)) 4 false++(List.replicate 101 0++[165])):=by
   rw [h]
   unfold headN hd26
   simp only [List.append_assoc,if_true]
  have d22:ys.drop 22=putN (addN 0 (hd22 c p n)) 4 false++(List.replicate 101 0++[165]):=by
   rw [hw]
   exact List.drop_left' (hd22_length c p n)
  refine ⟨h6,?_,?_,?_⟩
  ·rw [d22,←h22]
   exact psum_put4 _ (addN_lt (by decide) (hd22_bytes _ _ _)) _
  ·rw [show (26:Nat)=22+4 by rfl,←cut3,d22,List.drop_left' (putN_length _ _ _)]
   exact List.take_left' (by simp)
  ·rw [show (127:Nat)=22+4+101 by rfl,←cut3,←cut3,d22,List.drop_left' (putN_length _ _ _)]
   exact List.drop_left' (by simp)
 ·rintro ⟨h6,hs,h0,h1⟩
  unfold headN hd26
  rw [e22 h6,←hs,put_psum4 _ (drop_bytes hx 22) (by simp;omega),←h0,if_pos rfl,←h1]
  have e:∀ a b,ys.take a++(ys.drop a).take b=ys.take (a+b):=fun a b=>by rw [List.take_add]
  rw [e,e]
  exact (List.take_append_drop 127 ys).symm
end Jrn
end Go.Proofs.YtgjgkpnjchflaaaGreatDoor
