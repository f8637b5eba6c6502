/- How the list of free pages lies in the pages, and stays so; no statement of the seat is proved here. -/
import Derived.Test.YtneemfbnjkcflaaGreatDoorB34
set_option maxHeartbeats 16000000
set_option maxRecDepth 20000
namespace Go.Proofs.YtneemfbnjkcflaaGreatDoor
section
open Go.RowKit Go.Maps
open Jrn (trunkN rootN nul)
def firstOf:List (Nat×List Nat)→Nat
 | []=>0
 | x::_=>x.1
structure Lay (now:List Pg) (tr:List (Nat×List Nat)) (ws:List Nat):Prop where
 root:now.getD 0 []=rootN (firstOf tr) (flat tr).length ws
 chain:Chain8 now (firstOf tr) tr
 nd:(flat tr).Nodup
 wl:ws.length=60
 ln:0<now.length
variable {now:List Pg}
theorem Chain8.range:∀ {f:Nat} {tr:List (Nat×List Nat)},Chain8 now f tr→∀ y∈flat tr,2≤y∧y≤now.length
 | _,[],_,y,hy=>by simp [flat]at hy
 | _,x::r,h,y,hy=>by
  obtain ⟨_,h1,h2,_,h4,nx,_,_,h7⟩:=h
  rw [flat_cons]at hy
  rcases List.mem_cons.1 hy with rfl |hy
  ·exact ⟨h1,h2⟩
  ·rcases List.mem_append.1 hy with hy |hy
   ·exact h4 y hy
   ·exact Chain8.range h7 y hy
variable {now':List Pg}
theorem Chain8.stay(hl:now.length≤now'.length):∀ {f:Nat} {tr:List (Nat×List Nat)},Chain8 now f tr→(∀ y∈flat tr,now'.getD (y - 1) []=now.getD (y - 1) [])→Chain8 now' f tr
 | _,[],h,_=>h
 | _,x::r,h,hy=>by
  obtain ⟨h0,h1,h2,h3,h4,nx,h5,h6,h7⟩:=h
  refine ⟨h0,h1,by omega,h3,fun y hy'=>⟨(h4 y hy').1,by have:=(h4 y hy').2;omega⟩,nx,h5,?_,?_⟩
  ·rw [hy x.1 (by rw [flat_cons];simp)];exact h6
  ·exact Chain8.stay hl h7 (fun y hm=>hy y (by rw [flat_cons];simp [hm]))
theorem Chain8.shrunk(he:now'.length=now.length){f:Nat}{tr:List (Nat×List Nat)}(h:Chain8 now f tr)(hy:∀ y∈flat tr,now'.getD (y - 1) []=now.getD (y - 1) []):Chain8 now' f tr:=h.stay (by omega) hy
variable {b:Pg} {i j:Nat} {l:List Pg}
theorem set_other(h:i≠j):(l.set i b).getD j []=l.getD j []:=by
 simp only [List.getD]
 rw [List.getElem?_set_ne h]
theorem set_same(h:i<l.length):(l.set i b).getD i []=b:=by
 simp [List.getD,h]
theorem nodup_le:∀ (n:Nat) (l:List Nat),l.Nodup→(∀ y∈l,1≤y∧y≤n)→l.length≤n
 | 0,l,_,h=>by
  cases l with
  | nil=>simp
  | cons y l=>have:=h y (by simp);omega
 | n+1,l,hd,h=>by
  by_cases hm:n+1∈l
  ·have h1:=nodup_le n (l.erase (n+1)) (hd.erase _) (fun y hy=>by
    have h2:=(hd.mem_erase_iff).1 hy
    have h3:=h y h2.2
    exact ⟨h3.1,by have:=h2.1;omega⟩)
   rw [List.length_erase_of_mem hm]at h1
   have:0<l.length:=List.length_pos_of_mem hm
   omega
  ·have h1:=nodup_le n l hd (fun y hy=>⟨(h y hy).1,by have h2:=(h y hy).2;rcases Nat.lt_or_ge y (n+1) with h3 |h3;omega;exact absurd (show n+1∈l by rw [show n+1=y by omega];exact hy) hm⟩)
   omega
variable {ws:List Nat}
theorem Lay.count{tr:List (Nat×List Nat)}(h:Lay now tr ws):(flat tr).length<now.length:=by
 have:=nodup_le now.length (1::flat tr) (List.nodup_cons.2 ⟨fun h1=>by have:=(h.chain.range 1 h1).1;omega,h.nd⟩) (fun y hy=>by rcases List.mem_cons.1 hy with rfl |hy;exact ⟨Nat.le_refl _,h.ln⟩;exact ⟨by have:=(h.chain.range y hy).1;omega,(h.chain.range y hy).2⟩)
 rw [List.length_cons]at this
 omega
theorem flat_len(tr:List (Nat×List Nat)):tr.length≤(flat tr).length:=by
 induction tr with
 | nil=>simp
 | cons x r ih=>rw [flat_cons];simp;omega
variable {n:Nat}
theorem Lay.more{nx:Nat}{ls:List Nat}{r:List (Nat×List Nat)}(h:Lay now ((j+1,ls)::r) ws)(hnx:nx<4294967296)(hch:Chain8 now nx r)(hl:ls.length<126)(hn1:2≤n)(hn:n≤now.length)(hnf:n∉flat ((j+1,ls)::r)) :
  Lay ((now.set j (trunkN nx (ls++[n]))).set 0 (rootN (j+1) ((flat ((j+1,ls)::r)).length+1) ws)) ((j+1,ls++[n])::r) ws:=by
 have hnd:=h.nd
 obtain ⟨_,hj1,hj2,hj3,hj4,_⟩:=h.chain
 simp only at hj1 hj2 hj3 hj4
 rw [flat_cons]at hnd hnf
 simp only at hnd hnf
 have hln:=h.ln
 rw [List.nodup_cons]at hnd
 have hvr:∀ y∈flat r,y≠j+1:=fun y hy e=>hnd.1 (by rw [←e];simp [hy])
 have hfl:(flat ((j+1,ls++[n])::r)).length=(flat ((j+1,ls)::r)).length+1:=by rw [flat_cons,flat_cons];simp;omega
 refine ⟨?_,⟨rfl,hj1,by simp;omega,by simp;omega,fun y hy=>?_,nx,hnx,?_,?_⟩,?_,h.wl,by simpa using hln⟩
 ·rw [set_same (by simpa using hln),hfl];rfl
 ·simp only [List.mem_append,List.mem_singleton]at hy
  rcases hy with hy |rfl
  ·simpa using hj4 y hy
  ·exact ⟨hn1,by simpa using hn⟩
 ·show List.getD _ (j+1 - 1) []=_
  rw [Nat.add_sub_cancel,set_other (by omega),set_same (by omega)]
 ·refine hch.shrunk (by simp) (fun y hy=>?_)
  have h1:=hvr y hy
  have h2:=hch.range y hy
  rw [set_other (by omega),set_other (by omega)]
 ·rw [flat_cons]
  have hp:((j+1)::((ls++[n])++flat r)).Perm (n::((j+1)::(ls++flat r))):=by
   rw [List.append_assoc]
   refine (List.Perm.cons _ (List.perm_middle)).trans (List.Perm.swap _ _ _)
  refine hp.nodup_iff.2 (List.nodup_cons.2 ⟨hnf,List.nodup_cons.2 hnd⟩)
theorem Lay.new{tr:List (Nat×List Nat)}(h:Lay now tr ws)(hf:firstOf tr<4294967296)(hn1:2≤n)(hn:n≤now.length)(hnf:n∉flat tr) :
  Lay ((now.set (n - 1) (trunkN (firstOf tr) [])).set 0 (rootN n ((flat tr).length+1) ws)) ((n,[])::tr) ws:=by
 have hln:=h.ln
 refine ⟨?_,⟨rfl,hn1,by simpa using hn,by simp,(fun y hy=>by cases hy),firstOf tr,hf,?_,?_⟩,?_,h.wl,by simpa using hln⟩
 ·rw [set_same (by simpa using hln),flat_cons];simp [firstOf]
 ·rw [set_other (by show 0≠n - 1;omega),set_same (by show n - 1<now.length;omega)]
 ·refine h.chain.shrunk (by simp) (fun y hy=>?_)
  have h2:=h.chain.range y hy
  have h3:y≠n:=fun e=>hnf (e▸hy)
  rw [set_other (by omega),set_other (by omega)]
 ·rw [flat_cons];exact List.nodup_cons.2 ⟨by simpa using hnf,by simpa using h.nd⟩
end
end Go.Proofs.YtneemfbnjkcflaaGreatDoor
namespace Go.Proofs.YtneemfbnjkcflaaGreatDoor
end Go.Proofs.YtneemfbnjkcflaaGreatDoor
