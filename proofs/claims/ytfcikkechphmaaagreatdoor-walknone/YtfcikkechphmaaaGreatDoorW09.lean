/- The numbers that bytes make; what the document's own function Get returns; no statement of the seat is proved here. -/
import Derived.Test.YtfcikkechphmaaaGreatDoorW08
set_option maxHeartbeats 16000000
set_option maxRecDepth 20000
namespace Go.Proofs.YtfcikkechphmaaaGreatDoor
namespace Jrn
open Go.RowKit
theorem getD_lt{xs:List Nat}(h:∀ x∈xs,x<256)(i:Nat)(hi:i<xs.length):xs.getD i 0<256:=by
 rw [List.getD_eq_getElem?_getD,List.getElem?_eq_getElem hi]
 exact h _ (List.getElem_mem hi)
theorem drop_getD(xs:List Nat)(i:Nat)(hi:i<xs.length):xs.drop i=xs.getD i 0::xs.drop (i+1):=by
 rw [List.drop_eq_getElem_cons hi,List.getD_eq_getElem?_getD,List.getElem?_eq_getElem hi]
 rfl
def psum(xs:List Nat)(s:Nat)(l:Bool):Nat→Nat
 | 0=>0
 | i+1=>psum xs s l i+xs.getD i 0*2 ^ (8*place l s i)
theorem psum_big(xs:List Nat)(s:Nat)(hx:∀ x∈xs,x<256)(hs:s≤xs.length):∀ i,i≤s→∃ q,q<2 ^ (8*i)∧psum xs s false i=q*2 ^ (8*(s - i)):=by
 intro i
 induction i with
 | zero=>intro _;exact ⟨0,by simp,by simp [psum]⟩
 | succ i ih=>
  intro hi
  obtain ⟨q,hq,e⟩:=ih (by omega)
  have hc:=getD_lt hx i (by omega)
  refine ⟨q*256+xs.getD i 0,?_,?_⟩
  ·rw [show 8*(i+1)=8*i+8 by omega,Nat.pow_add];omega
  ·simp only [psum,e,place]
   rw [show 8*(s - i)=8+8*(s - (i+1)) by omega,Nat.pow_add,show s - 1 - i=s - (i+1) by omega,Nat.add_mul,Nat.mul_assoc]
   rfl
theorem psum_little(xs:List Nat)(s:Nat)(hx:∀ x∈xs,x<256)(hs:s≤xs.length):∀ i,i≤s→psum xs s true i<2 ^ (8*i):=by
 intro i
 induction i with
 | zero=>intro _;simp [psum]
 | succ i ih=>
  intro hi
  have h:=ih (by omega)
  have hc:=getD_lt hx i (by omega)
  simp only [psum,place,if_true]
  rw [show 8*(i+1)=8*i+8 by omega,Nat.pow_add]
  have h2:xs.getD i 0*2 ^ (8*i)≤255*2 ^ (8*i):=Nat.mul_le_mul_right _ (by omega)
  omega
theorem psum_lt(xs:List Nat)(s:Nat)(l:Bool)(hx:∀ x∈xs,x<256)(hs:s≤xs.length)(h8:s≤8)(i:Nat)(hi:i≤s):psum xs s l i<18446744073709551616:=by
 cases l with
 | true=>
  have h:=psum_little xs s hx hs i hi
  have hp:2 ^ (8*i)≤2 ^ 64:=Nat.pow_le_pow_right (by omega) (by omega)
  omega
 | false=>
  obtain ⟨q,hq,e⟩:=psum_big xs s hx hs i hi
  have h1:q*2 ^ (8*(s - i))<2 ^ (8*i)*2 ^ (8*(s - i)):=Nat.mul_lt_mul_of_pos_right hq (Nat.pow_pos (by omega))
  rw [←Nat.pow_add,show 8*i+8*(s - i)=8*s by omega]at h1
  have hp:2 ^ (8*s)≤2 ^ 64:=Nat.pow_le_pow_right (by omega) (by omega)
  omega
theorem psum_or(xs:List Nat)(s:Nat)(l:Bool)(hx:∀ x∈xs,x<256)(hs:s≤xs.length)(i:Nat)(hi:i<s) :
  psum xs s l i |||xs.getD i 0*2 ^ (8*place l s i)=psum xs s l (i+1):=by
 have hc:=getD_lt hx i (by omega)
 cases l with
 | true=>
  have h:=psum_little xs s hx hs i (by omega)
  simp only [psum,place,if_true]
  rw [Nat.or_comm,Nat.mul_comm,←Nat.two_pow_add_eq_or_of_lt h,Nat.add_comm]
 | false=>
  obtain ⟨q,hq,e⟩:=psum_big xs s hx hs i (by omega)
  simp only [psum,e,place]
  have hlt:xs.getD i 0*2 ^ (8*(s - 1 - i))<2 ^ (8*(s - i)):=by
   rw [show 8*(s - i)=8+8*(s - 1 - i) by omega,Nat.pow_add]
   exact Nat.mul_lt_mul_of_pos_right (by omega) (Nat.pow_pos (by omega))
  rw [if_neg (by simp),Nat.mul_comm q,←Nat.two_pow_add_eq_or_of_lt hlt]
theorem getD_term_lt(xs:List Nat)(s:Nat)(l:Bool)(hx:∀ x∈xs,x<256)(hs:s≤xs.length)(h8:s≤8)(i:Nat)(hi:i<s):xs.getD i 0*2 ^ (8*place l s i)<18446744073709551616:=by
 have:=psum_lt xs s l hx hs h8 (i+1) (by omega)
 simp only [psum]at this
 omega
def getV(xs:List Nat)(s:Int)(l:Bool):Nat×Bool:=if 1≤s∧s≤8∧s≤(xs.length:Int) then (psum xs s.toNat l s.toNat,true) else (0,false)
end Jrn
end Go.Proofs.YtfcikkechphmaaaGreatDoor
