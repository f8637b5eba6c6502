/- How the list of free pages lies in the pages, and stays so; no statement of the seat is proved here. -/
import Derived.Test.YtfcikkechphmaaaGreatDoorW41
set_option maxHeartbeats 16000000
set_option maxRecDepth 20000
namespace Go.Proofs.YtfcikkechphmaaaGreatDoor
section
open Go.RowKit Go.Maps
open Jrn (trunkN rootN nul)
def firstOf:List (Nat×List Nat)→Nat
 | []=>0
 | x::_=>x.1
structure Lay (now:List Pg) (tr:List (Nat×List Nat)) (ws:List Nat):Prop where
 root:now.getD 0 []=rootN (firstOf tr) (flat tr).length ws
 chain:Chain8 now (firstOf tr) tr
 nd:(flat tr).Nodup
 wl:ws.length=60
 ln:0<now.length
variable {now:List Pg}
theorem Chain8.range:∀ {f:Nat} {tr:List (Nat×List Nat)},Chain8 now f tr→∀ y∈flat tr,2≤y∧y≤now.length
 | _,[],_,y,hy=>by simp [flat]at hy
 | _,x::r,h,y,hy=>by
  obtain ⟨_,h1,h2,_,h4,nx,_,_,h7⟩:=h
  rw [flat_cons]at hy
  rcases List.mem_cons.1 hy with rfl |hy
  ·exact ⟨h1,h2⟩
  ·rcases List.mem_append.1 hy with hy |hy
   ·exact h4 y hy
   ·exact Chain8.range h7 y hy
variable {now':List Pg}
theorem Chain8.stay(hl:now.length≤now'.length):∀ {f:Nat} {tr:List (Nat×List Nat)},Chain8 now f tr→(∀ y∈flat tr,now'.getD (y - 1) []=now.getD (y - 1) [])→Chain8 now' f tr
 | _,[],h,_=>h
 | _,x::r,h,hy=>by
  obtain ⟨h0,h1,h2,h3,h4,nx,h5,h6,h7⟩:=h
  refine ⟨h0,h1,by omega,h3,fun y hy'=>⟨(h4 y hy').1,by have:=(h4 y hy').2;omega⟩,nx,h5,?_,?_⟩
  ·rw [hy x.1 (by rw [flat_cons];simp)];exact h6
  ·exact Chain8.stay hl h7 (fun y hm=>hy y (by rw [flat_cons];simp [hm]))
theorem Chain8.shrunk(he:now'.length=now.length){f:Nat}{tr:List (Nat×List Nat)}(h:Chain8 now f tr)(hy:∀ y∈flat tr,now'.getD (y - 1) []=now.getD (y - 1) []):Chain8 now' f tr:=h.stay (by omega) hy
variable {b:Pg} {i:Nat} {l:List Pg}
theorem set_other{j:Nat}(h:i≠j):(l.set i b).getD j []=l.getD j []:=by
 simp only [List.getD]
 rw [List.getElem?_set_ne h]
theorem set_same(h:i<l.length):(l.set i b).getD i []=b:=by
 simp [List.getD,h]
theorem Lay.grow{ws:List Nat}(h:Lay now [] ws)(b:Pg):Lay (now++[b]) [] ws:=by
 refine ⟨?_,rfl,by simp [flat],h.wl,by simp⟩
 have:=h.root
 simp only [List.getD]at this ⊢
 rw [List.getElem?_append_left h.ln]
 exact this
end
end Go.Proofs.YtfcikkechphmaaaGreatDoor
namespace Go.Proofs.YtfcikkechphmaaaGreatDoor
end Go.Proofs.YtfcikkechphmaaaGreatDoor
