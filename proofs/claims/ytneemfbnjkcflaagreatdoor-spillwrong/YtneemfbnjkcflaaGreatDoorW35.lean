/- How the list of free pages lies in the pages, and stays so; no statement of the seat is proved here. -/
import Derived.Test.YtneemfbnjkcflaaGreatDoorW34
set_option maxHeartbeats 16000000
set_option maxRecDepth 20000
namespace Go.Proofs.YtneemfbnjkcflaaGreatDoor
section
open Go.RowKit Go.Maps
open Jrn (trunkN rootN nul)
def firstOf:List (Nat×List Nat)→Nat
 | []=>0
 | x::_=>x.1
structure Lay (now:List Pg) (tr:List (Nat×List Nat)) (ws:List Nat):Prop where
 root:now.getD 0 []=rootN (firstOf tr) (flat tr).length ws
 chain:Chain8 now (firstOf tr) tr
 nd:(flat tr).Nodup
 wl:ws.length=60
 ln:0<now.length
variable {now:List Pg}
theorem Chain8.range:∀ {f:Nat} {tr:List (Nat×List Nat)},Chain8 now f tr→∀ y∈flat tr,2≤y∧y≤now.length
 | _,[],_,y,hy=>by simp [flat]at hy
 | _,x::r,h,y,hy=>by
  obtain ⟨_,h1,h2,_,h4,nx,_,_,h7⟩:=h
  rw [flat_cons]at hy
  rcases List.mem_cons.1 hy with rfl |hy
  ·exact ⟨h1,h2⟩
  ·rcases List.mem_append.1 hy with hy |hy
   ·exact h4 y hy
   ·exact Chain8.range h7 y hy
variable {b:Pg} {i:Nat} {l:List Pg}
theorem set_other{j:Nat}(h:i≠j):(l.set i b).getD j []=l.getD j []:=by
 simp only [List.getD]
 rw [List.getElem?_set_ne h]
theorem set_same(h:i<l.length):(l.set i b).getD i []=b:=by
 simp [List.getD,h]
theorem nodup_le:∀ (n:Nat) (l:List Nat),l.Nodup→(∀ y∈l,1≤y∧y≤n)→l.length≤n
 | 0,l,_,h=>by
  cases l with
  | nil=>simp
  | cons y l=>have:=h y (by simp);omega
 | n+1,l,hd,h=>by
  by_cases hm:n+1∈l
  ·have h1:=nodup_le n (l.erase (n+1)) (hd.erase _) (fun y hy=>by
    have h2:=(hd.mem_erase_iff).1 hy
    have h3:=h y h2.2
    exact ⟨h3.1,by have:=h2.1;omega⟩)
   rw [List.length_erase_of_mem hm]at h1
   have:0<l.length:=List.length_pos_of_mem hm
   omega
  ·have h1:=nodup_le n l hd (fun y hy=>⟨(h y hy).1,by have h2:=(h y hy).2;rcases Nat.lt_or_ge y (n+1) with h3 |h3;omega;exact absurd (show n+1∈l by rw [show n+1=y by omega];exact hy) hm⟩)
   omega
theorem Lay.count{tr:List (Nat×List Nat)}{ws:List Nat}(h:Lay now tr ws):(flat tr).length<now.length:=by
 have:=nodup_le now.length (1::flat tr) (List.nodup_cons.2 ⟨fun h1=>by have:=(h.chain.range 1 h1).1;omega,h.nd⟩) (fun y hy=>by rcases List.mem_cons.1 hy with rfl |hy;exact ⟨Nat.le_refl _,h.ln⟩;exact ⟨by have:=(h.chain.range y hy).1;omega,(h.chain.range y hy).2⟩)
 rw [List.length_cons]at this
 omega
theorem flat_len(tr:List (Nat×List Nat)):tr.length≤(flat tr).length:=by
 induction tr with
 | nil=>simp
 | cons x r ih=>rw [flat_cons];simp;omega
end
end Go.Proofs.YtneemfbnjkcflaaGreatDoor
namespace Go.Proofs.YtneemfbnjkcflaaGreatDoor
end Go.Proofs.YtneemfbnjkcflaaGreatDoor
