/- The list of free pages as plain numbers: what is taken, given and trimmed; no statement of the seat is proved here. -/
import Derived.Test.YtgjgkpnjchflaaaGreatDoorS39
import Derived.Test.YtgjgkpnjchflaaaGreatDoorS38
import Derived.Test.YtgjgkpnjchflaaaGreatDoorS13
set_option maxHeartbeats 16000000
set_option maxRecDepth 20000
namespace Go.Proofs.YtgjgkpnjchflaaaGreatDoor
section
def giveT(n:Nat):List (Nat×List Nat)→List (Nat×List Nat)
 | []=>[(n,[])]
 | (j,ls)::r=>if ls.length<126 then (j,ls++[n])::r else (n,[])::(j,ls)::r
theorem giveT_perm(n:Nat)(tr:List (Nat×List Nat)):(flat (giveT n tr)).Perm (n::flat tr):=by
 match tr with
 | []=>simp [giveT,flat]
 | (j,ls)::r=>
  by_cases h:ls.length<126
  ·rw [show giveT n ((j,ls)::r)=(j,ls++[n])::r from if_pos h]
   rw [flat_cons,flat_cons]
   simp only
   rw [List.append_assoc]
   exact (List.Perm.cons _ List.perm_middle).trans (List.Perm.swap _ _ _)
  ·rw [show giveT n ((j,ls)::r)=(n,[])::(j,ls)::r from if_neg h,flat_cons (n,[])]
   exact List.Perm.refl _
def takeV(N:Nat):List (Nat×List Nat)→Nat
 | []=>N+1
 | (j,ls)::_=>(ls.getLast?).getD j
def takeT:List (Nat×List Nat)→List (Nat×List Nat)
 | []=>[]
 | (j,ls)::r=>if ls = [] then r else (j,ls.dropLast)::r
def takeN(N:Nat):List (Nat×List Nat)→Nat
 | []=>N+1
 | _::_=>N
theorem takeT_perm(N:Nat)(x:Nat×List Nat)(r:List (Nat×List Nat)):(flat (x::r)).Perm (takeV N (x::r)::flat (takeT (x::r))):=by
 obtain ⟨j,ls⟩:=x
 by_cases h:ls = []
 ·subst h;simp [takeV,takeT,flat_cons]
 ·obtain ⟨ls',v,rfl⟩:∃ ls' v,ls=ls'++[v]:=⟨ls.dropLast,ls.getLast h,(List.dropLast_concat_getLast h).symm⟩
  simp only [takeV,takeT,flat_cons,List.getLast?_append,List.getLast?_singleton,Option.some_or,Option.getD_some,h,if_false,List.dropLast_concat]
  rw [List.append_assoc]
  exact (List.Perm.cons _ List.perm_middle).trans (List.Perm.swap _ _ _)
variable {N:Nat} {l:List Nat}
theorem Parted.took{tr:List (Nat×List Nat)}(h:Parted l tr N)(hr:∀ y∈flat tr,2≤y∧y≤N):Parted (l++[takeV N tr]) (takeT tr) (takeN N tr):=by
 match tr,h,hr with
 | [],h,_=>exact h.take
 | x::r,h,hr=>
  have hp:=takeT_perm N x r
  have hm:takeV N (x::r)∈flat (x::r):=hp.mem_iff.2 (by simp)
  refine ⟨?_,fun y hy=>?_,?_⟩
  ·rw [List.append_assoc]
   exact (List.Perm.append_left l hp).nodup_iff.1 h.nd
  ·rcases List.mem_append.1 hy with hy |hy
   ·exact h.rg y hy
   ·rw [List.mem_singleton]at hy;subst hy;exact hr _ hm
  ·have e1:=hp.length_eq
   have e2:=h.cnt
   simp only [List.length_cons,List.length_append,List.length_nil]at e1 ⊢
   show _=N
   omega
def giveAll:List Nat→List (Nat×List Nat)→List (Nat×List Nat)
 | [],tr=>tr
 | n::l,tr=>giveAll l (giveT n tr)
theorem giveAll_app(a b:List Nat)(tr:List (Nat×List Nat)):giveAll (a++b) tr=giveAll b (giveAll a tr):=by
 induction a generalizing tr with
 | nil=>rfl
 | cons x a ih=>exact ih _
theorem giveAll_perm(l:List Nat)(tr:List (Nat×List Nat)):(flat (giveAll l tr)).Perm (l++flat tr):=by
 induction l generalizing tr with
 | nil=>exact List.Perm.refl _
 | cons n l ih=>exact (ih _).trans ((List.Perm.append_left l (giveT_perm n tr)).trans List.perm_middle)
def trimL(k:Nat)(all:List Nat):List Nat:=(List.range' 2 (k - 1)).filter fun n=>decide (n∈all)
def trimT(k:Nat)(tr:List (Nat×List Nat)):List (Nat×List Nat):=giveAll (trimL k (flat tr)) []
variable {all:List Nat} {k:Nat}
theorem mem_trimL{x:Nat}:x∈trimL k all↔2≤x∧x≤k∧x∈all:=by
 unfold trimL
 rw [List.mem_filter,List.mem_range'_1,decide_eq_true_iff]
 constructor
 ·rintro ⟨⟨a,b⟩,c⟩;exact ⟨a,by omega,c⟩
 ·rintro ⟨a,b,c⟩;exact ⟨⟨a,by omega⟩,c⟩
theorem trimL_lt(k:Nat)(all:List Nat):(trimL k all).Pairwise (· < ·):=(List.pairwise_lt_range' (s:=2) (n:=k - 1) (step:=1) (by omega)).filter _
theorem trimL_nd(k:Nat)(all:List Nat):(trimL k all).Nodup:=(trimL_lt k all).imp (fun h=>by omega)
theorem rise_trim(hn:all.Nodup)(h2:∀ y∈all,2≤y)(hp:l.Perm (all.filter fun z=>decide (z≤k)))(hs:l.Pairwise (·≤·)):l=trimL k all:=by
 refine List.Perm.eq_of_pairwise (le:=(·≤·)) (fun a b _ _ h1 h2=>Nat.le_antisymm h1 h2) hs ((trimL_lt k all).imp (fun h=>Nat.le_of_lt h)) (hp.trans ?_)
 refine (List.perm_ext_iff_of_nodup (hn.filter _) (trimL_nd _ _)).2 fun x=>?_
 rw [mem_trimL,List.mem_filter,decide_eq_true_iff]
 exact ⟨fun ⟨a,b⟩=>⟨h2 x a,b,a⟩,fun ⟨_,b,c⟩=>⟨c,b⟩⟩
theorem Parted.cover{tr:List (Nat×List Nat)}(h:Parted l tr N)(hr:∀ y∈flat tr,2≤y∧y≤N){x:Nat}(h1:2≤x)(h2:x≤N):x∈l∨x∈flat tr:=by
 rcases Classical.em (x∈l++flat tr) with hx |hx
 ·exact List.mem_append.1 hx
 ·have hall:∀ y∈l++flat tr,2≤y∧y≤N:=fun y hy=>by rcases List.mem_append.1 hy with hy |hy;exact h.rg y hy;exact hr y hy
  have:=nodup_le N (1::x::(l++flat tr)) (List.nodup_cons.2 ⟨fun hm=>by
   rcases List.mem_cons.1 hm with rfl |hm
   ·omega
   ·have:=hall 1 hm;omega,List.nodup_cons.2 ⟨hx,h.nd⟩⟩) (fun y hy=>by
   rcases List.mem_cons.1 hy with rfl |hy
   ·omega
   ·rcases List.mem_cons.1 hy with rfl |hy
    ·omega
    ·have:=hall y hy;omega)
  have e:=h.cnt
  simp only [List.length_cons,List.length_append]at this
  omega
theorem Parted.trim{tr:List (Nat×List Nat)}(h:Parted l tr N)(hr:∀ y∈flat tr,2≤y∧y≤N)(hk1:1≤k)(hk:k≤N)(hl:∀ y∈l,y≤k):Parted l (trimT k tr) k:=by
 have hp:(flat (trimT k tr)).Perm (trimL k (flat tr)):=by have:=giveAll_perm (trimL k (flat tr)) [];rw [show flat [] = [] from rfl,List.append_nil]at this;exact this
 have hd:=List.nodup_append.1 h.nd
 have hnd:(l++trimL k (flat tr)).Nodup:=List.nodup_append.2 ⟨hd.1,trimL_nd _ _,fun a ha b hb e=>hd.2.2 a ha b (mem_trimL.1 hb).2.2 e⟩
 refine ⟨(List.Perm.append_left l hp).nodup_iff.2 hnd,fun y hy=>⟨(h.rg y hy).1,hl y hy⟩,?_⟩
 have hall:(l++trimL k (flat tr)).Perm (List.range' 2 (k - 1)):=by
  refine (List.perm_ext_iff_of_nodup hnd List.nodup_range').2 fun x=>?_
  rw [List.mem_append,mem_trimL,List.mem_range'_1]
  constructor
  ·rintro (hx |hx)
   ·have:=h.rg x hx;have:=hl x hx;omega
   ·omega
  ·rintro ⟨a,b⟩
   rcases h.cover hr a (by omega) with hx |hx
   ·exact Or.inl hx
   ·exact Or.inr ⟨a,by omega,hx⟩
 have e1:=hall.length_eq
 have e2:=hp.length_eq
 simp only [List.length_append,List.length_range']at e1
 omega
end
section
open Go.RowKit Go.Maps
open Dsk (gt hid undrew keep_old keep_cell lt_cell Rd)
open Cch (Fr)
open Jrn (Pv2 Row5 numAt RB fr_two trunkN rootN putN nul)
variable {k:Nat}
theorem take_getD{l:List Pg}{i:Nat}(h:i<k):(l.take k).getD i []=l.getD i []:=by simp only [List.getD];rw [List.getElem?_take_of_lt h]
variable {now:List Pg}
theorem Chain8.cut(hk:k≤now.length):∀ {f:Nat} {tr:List (Nat×List Nat)},Chain8 now f tr→(∀ y∈flat tr,y≤k)→Chain8 (now.take k) f tr
 | _,[],h,_=>h
 | _,x::r,h,hy=>by
  obtain ⟨h0,h1,h2,h3,h4,nx,h5,h6,h7⟩:=h
  have hx:=hy x.1 (by rw [flat_cons];simp)
  have hl:(now.take k).length=k:=by rw [List.length_take];omega
  refine ⟨h0,h1,by omega,h3,fun y hy'=>⟨(h4 y hy').1,by rw [hl];exact hy y (by rw [flat_cons];simp [hy'])⟩,nx,h5,?_,?_⟩
  ·rw [take_getD (by omega)];exact h6
  ·exact Chain8.cut hk h7 (fun y hm=>hy y (by rw [flat_cons];simp [hm]))
variable {ws:List Nat}
theorem Lay.cut{tr:List (Nat×List Nat)}(h:Lay now tr ws)(hk1:1≤k)(hk:k≤now.length)(hy:∀ y∈flat tr,y≤k):Lay (now.take k) tr ws:=
 ⟨by rw [take_getD (by omega)];exact h.root,h.chain.cut hk hy,h.nd,h.wl,by rw [List.length_take];omega⟩
theorem Lay.bared{tr:List (Nat×List Nat)}(h:Lay now tr ws):Lay (now.set 0 (rootN 0 0 ws)) [] ws:=
 ⟨set_same h.ln,rfl,by simp [flat],h.wl,by simpa using h.ln⟩
section
variable {arm:Prop} {room croom K:Nat} {p q:Nat} {R:Nat→Prop} {t:RS} {w:World}
def GTo(arm:Prop)(room croom K:Nat)(w:World)(p q:Nat)(R:Nat→Prop)(g cap N:Nat)(tr:List (Nat×List Nat))(ws:List Nat)(w':World):Prop:=
 ∃ t',PrgAt arm room croom K w' p q (Plus R g) t'∧Lay t'.now tr ws∧t'.busy=true∧t'.now.length=N∧Rok R w w'∧Row5 w' 0 g cap (rootN (firstOf tr) (flat tr).length ws)∧t'.sure = []∧t'.n=0
theorem give_lay(hb g cap n:Nat)(tr:List (Nat×List Nat))(ws:List Nat)(h:PrgAt arm room croom K w p q (Plus R g) t)(hh:HeapAt w hb p)(hR:R hb)(hgR:¬R g)(hL:Lay t.now tr ws)(hr:Row5 w 0 g cap (rootN (firstOf tr) (flat tr).length ws))(hbz:t.busy=true)(hn1:2≤n)(hn:n≤t.now.length)(hnf:n∉flat tr)(hn4:t.now.length≤4000)(hK:K+3≤500000)(hsur:t.sure = []∧t.n=0) :
  Calls Tryz.prog 38 #[.pointer (some ⟨hb,0,none⟩),Pv2 1 g 0 cap,.int .i64 (n:Int)] w fun e w'=>e=.returned (.int .i64 0)∧GTo arm room croom (K+3) w p q R g cap t.now.length (giveT n tr) ws w':=by
 have hcnt:=hL.count
 match tr,hL,hr,hnf,hcnt with
 | [],hL,hr,hnf,hcnt=>
  refine (give_newS hb g cap 0 n ws h hh hR hgR hr hL.wl (by omega) hbz hn1 hn (by omega) (by omega)).mono ?_
  rintro e w' ⟨he,hP,hk,hr'⟩
  exact ⟨he,_,hP.up (by omega),hL.new (by simp [firstOf]) hn1 hn hnf,hbz,by simp [RS.put],hk,hr',hsur⟩
 | (j,ls)::r,hL,hr,hnf,hcnt=>
  obtain ⟨j,rfl⟩:∃ i,j=i+1:=⟨j - 1,by have:=(hL.chain).2.1;simp at this;omega⟩
  obtain ⟨_,h1,h2,h3,h4,nx,h5,h6,h7⟩:=hL.chain
  simp only [Nat.add_sub_cancel]at h1 h2 h6
  by_cases hl:ls.length<126
  ·rw [show giveT n ((j+1,ls)::r)=(j+1,ls++[n])::r from if_pos hl]
   have hfl:(flat ((j+1,ls++[n])::r)).length=(flat ((j+1,ls)::r)).length+1:=by rw [flat_cons,flat_cons];simp;omega
   refine (give_moreS hb g cap _ n j nx ls ws h hh hR hgR hr (by omega) hbz hn1 hn (by omega) (by omega) (by omega) (by omega) h6 hl hK).mono ?_
   rintro e w' ⟨he,hP,hk,hr'⟩
   refine ⟨he,_,hP,hL.more h5 h7 hl hn1 hn hnf,hbz,by simp [RS.put],hk,?_,hsur⟩
   rw [hfl];exact hr'
  ·rw [show giveT n ((j+1,ls)::r)=(n,[])::(j+1,ls)::r from if_neg hl]
   have hfl:(flat ((n,[])::(j+1,ls)::r)).length=(flat ((j+1,ls)::r)).length+1:=by rw [flat_cons (n,[])];simp
   simp only at h3
   refine (give_fullS hb g cap _ n j nx ls ws h hh hR hgR hr (by omega) hbz hn1 hn (by omega) (by omega) (by omega) (by omega) h6 (by omega) hK).mono ?_
   rintro e w' ⟨he,hP,hk,hr'⟩
   refine ⟨he,_,hP,hL.new (by simp only [firstOf];omega) hn1 hn hnf,hbz,by simp [RS.put],hk,?_,hsur⟩
   rw [hfl];exact hr'
end
end
section
open Go.RowKit Go.Maps Go.Sort Go.Shelf Go.Lib
open Dsk (gt hid undrew keep_old keep_cell lt_cell Rd)
open Cch (Fr wpAnyK wpAnyK_done wp_region_K)
open Jrn (Pv2 Row5 numAt RB fr_two trunkN rootN putN nul)
theorem fr_putRow{α:Type}[Inhabited α](e:α→Value)(w:World)(q g:Nat)(d:Array α):Fr (fun k=>k=g) w (putRow e (Sort.ahead w q) g 0 d):=
 ⟨rfl,rfl,rfl,by simp [putRow,mapBlock,Sort.ahead],fun k _ hn=>by simp [putRow,mapBlock,Sort.ahead,Array.getElem?_modify,show g≠k from fun e=>hn e.symm]⟩
theorem trim1_any(z:Int)(B T:Nat)(w:World)(h0:w.cell? ⟨B,0,none⟩=some (.int .i64 (T:Int))) :
  Calls Tryz.prog 58 #[.int .i64 z,.pointer (some ⟨B,0,none⟩)] w fun e w'=>e=.returned (.bool (decide ((T:Int)<z)))∧w'=w:=by
 go_enter Tryz.func58,Tryz.ntmps58
 go_wp2
 go_ret
 exact ⟨rfl,rfl⟩
theorem del8_any(B0:Nat)(ao:Option Addr)(cp:Nat)(l:List Nat)(B T:Nat)(w:World)(hv:w.ownsRow B0 3 1 (.slice ao l.length cp) l.length (zI l))(hll:l.length≤100000)
  (h0:w.cell? ⟨B,0,none⟩=some (.int .i64 (T:Int))) (hB:B<B0) :
  Calls Tryz.prog 57 #[.slice ao l.length cp,.func (.func 58) #[] #[.pointer (some ⟨B,0,none⟩)]] w fun e w'=>e=.returned (.slice ao (upto T l).length cp)∧w'.ownsRow B0 3 1 (.slice ao (upto T l).length cp) (upto T l).length (zI (upto T l))∧Fr (fun k=>(Value.slice ao l.length cp).ownBlock=some k) w w':=by
 cases ao with
 | none=>
  have hl:l = []∧cp=0:=by
   rcases hv.2 with ⟨hv,hz⟩ | ⟨g,cap',cur,hv,_⟩
   ·simp only [Value.slice.injEq,true_and]at hv;exact ⟨List.eq_nil_of_length_eq_zero hv.1,hv.2⟩
   ·simp only [Value.slice.injEq]at hv;exact absurd hv.1 (by simp)
  obtain ⟨rfl,rfl⟩:=hl
  have ci:=hid (index_nil (.func (.func 58) #[] #[.pointer (some ⟨B,0,none⟩)]) w)
  clear hv
  go_enter Tryz.func57,Tryz.ntmps57
  go_wp2_with (go_at_call 95;refine ci.out.mono ?_;rintro e w1 ⟨rfl,hw⟩;obtain rfl:=hw.symm)
  go_ret
  exact ⟨rfl,⟨rfl,Or.inl ⟨rfl,rfl⟩⟩,Fr.refl _ _⟩
 | some a=>
  have hzI:zI l=(l.map fun z:Nat=>(z:Int)).map (Value.int .i64):=by simp [zI]
  rw [hzI]at hv
  obtain ⟨g,cap,he,hBg,hg,hnc,hcm,hlen,hH⟩:=holds_of_ownsRow hv (by simp)
  simp only [Value.slice.injEq,Option.some.injEq,true_and]at he
  obtain ⟨rfl,rfl⟩:=he
  have hsz:(l.map fun z:Nat=>(z:Int)).toArray.size=l.length:=by simp
  have hcell:∀ W:World,W.heap[B]? = w.heap[B]?→∀ x:Int,FnGives Tryz.prog 58 #[.pointer (some ⟨B,0,none⟩)] #[Value.int .i64 x] (.bool (decide ((T:Int)<x))) W:=fun W hWB x=>
   (trim1_any x B T W ((World.cell?_of_block hWB).trans h0)).mono fun e w' he=>⟨he.1,0,by rw [he.2];rfl⟩
  have hBl:=lt_cell h0
  have key:=AnyE.slices_DeleteFunc Tryz.delB (Value.int .i64) (fun _=>rfl) (fun z=>decide ((T:Int)<z)) 58 #[.pointer (some ⟨B,0,none⟩)] (enters_of Tryz.func58 (by kernel_rfl) rfl) (0:Int) Tryz.zeroValue3 g 0 cp (l.map fun z:Nat=>(z:Int)).toArray w
   (fun W x hb=>hcell W (hb.block B hBl) x) (fun n os dk x _=>hcell _ (sort_block _ w g n dk os hBl (by omega)) x) hH (by rw [hsz];omega) (by rw [hsz];exact hnc)
  rw [hsz]at key
  change Calls Tryz.prog 57 _ _ _ at key
  refine key.mono ?_
  rintro e w' ⟨rfl,q,rfl⟩
  have hfl:((l.map fun z:Nat=>(z:Int)).toArray.toList.filter fun x=>!(decide ((T:Int)<x)))=(upto T l).map fun z:Nat=>(z:Int):=by rw [List.toList_toArray];exact upto_map T l
  simp only [hfl,List.length_map]
  have hle:(upto T l).length≤l.length:=List.length_filter_le _ _
  have ho:=ownsRow_putRow (enc:=Value.int .i64) (q:=q) (k:=(upto T l).length) (ys:=((upto T l).map fun z:Nat=>(z:Int))++List.replicate (l.length - (upto T l).length) 0) hv (by simp;omega) hle
  refine ⟨by first |rfl |trivial,?_,fr_imp (fr_putRow _ _ _ _ _) (fun b hb=>by rw [hb];rfl)⟩
  have ht:(((upto T l).map fun z:Nat=>(z:Int))++List.replicate (l.length - (upto T l).length) 0).take (upto T l).length=(upto T l).map fun z:Nat=>(z:Int):=by
   rw [List.take_append_of_le_length (by simp),List.take_of_length_le (by simp)]
  rw [ht,List.map_map]at ho
  exact ho
def riseN(l:List Nat):List Nat:=l.mergeSort (fun x y=>decide (x≤y))
theorem riseN_perm(l:List Nat):(riseN l).Perm l:=List.mergeSort_perm l _
theorem riseN_sorted(l:List Nat):(riseN l).Pairwise (·≤·):=by
 have:=List.pairwise_mergeSort (le:=fun x y:Nat=>decide (x≤y)) (fun a b c h1 h2=>by simp only [decide_eq_true_eq]at *;omega) (fun a b=>by simp only [Bool.or_eq_true,decide_eq_true_eq];omega) l
 exact this.imp (fun h=>by simpa using h)
theorem rise_map(l:List Nat):Cch.rise (l.map fun z:Nat=>(z:Int))=(riseN l).map fun z:Nat=>(z:Int):=by
 have h1:(Cch.rise (l.map fun z:Nat=>(z:Int))).Pairwise (·≤·):=by
  have:=List.pairwise_mergeSort (le:=fun x y:Int=>decide (x≤y)) (fun a b c h1 h2=>by simp only [decide_eq_true_eq]at *;omega) (fun a b=>by simp only [Bool.or_eq_true,decide_eq_true_eq];omega) (l.map fun z:Nat=>(z:Int))
  exact this.imp (fun h=>by simpa using h)
 refine List.Perm.eq_of_pairwise (le:=(·≤·)) (fun a b _ _ h1 h2=>Int.le_antisymm h1 h2) h1 (List.pairwise_map.2 ((riseN_sorted l).imp (fun h=>by omega))) ?_
 exact (List.mergeSort_perm _ _).trans ((riseN_perm l).symm.map _)
theorem sort8_any(B cp:Nat)(ao:Option Addr)(l:List Nat)(w:World)(h:w.ownsRow B 3 1 (.slice ao l.length cp) l.length (zI l))(hn:l.length≤1000000) :
  Calls Tryz.prog 59 #[.slice ao l.length cp] w fun e w'=>e=.returned (.tuple #[])∧w'.ownsRow B 3 1 (.slice ao l.length cp) l.length (zI (riseN l))∧Fr (fun k=>(Value.slice ao l.length cp).ownBlock=some k) w w':=by
 have e1:zI l=Cch.ints (l.map fun z:Nat=>(z:Int)):=by simp [zI,Cch.ints]
 have e2:zI (riseN l)=Cch.ints (Cch.rise (l.map fun z:Nat=>(z:Int))):=by rw [rise_map];simp [zI,Cch.ints]
 rw [e1]at h
 rw [e2]
 refine (Cch.sort_row B l.length cp ao _ w h hn).mono ?_
 rintro e w' ⟨he,ho,hf⟩
 exact ⟨he,ho,fr_imp hf (fun b ⟨a,ha,hb⟩=>by subst ha;subst hb;rfl)⟩
section
variable {arm:Prop} {room croom K:Nat} {p q:Nat} {R:Nat→Prop} {t:RS} {w:World}
theorem relist_any(hb g cap:Nat)(ao:Option Addr)(cp:Nat)(xs:List Nat)(tr0:List (Nat×List Nat))(ws:List Nat)(h:PrgAt arm room croom K w p q (Plus R g) t)(hh:HeapAt w hb p)(hR:R hb)(hgR:¬R g)(hL:Lay t.now tr0 ws)(hr:Row5 w 0 g cap (rootN (firstOf tr0) (flat tr0).length ws))(hbz:t.busy=true)
  (hs:Cch.Src w ao xs.length cp (zI xs)) (hsR:∀ a,ao=some a→R a.block∧a.off=0∧a.spot=none) (hnd:xs.Nodup) (hx:∀ y∈xs,2≤y∧y≤t.now.length) (hn4:t.now.length≤4000) (hK:K+1+3*xs.length≤499000) (hsur:t.sure = []∧t.n=0) :
  Calls Tryz.prog 60 #[.pointer (some ⟨hb,0,none⟩),Pv2 1 g 0 cap,.slice ao xs.length cp] w fun e w'=>e=.returned (.int .i64 0)∧GTo arm room croom (K+1+3*xs.length) w p q R g cap t.now.length (giveAll xs []) ws w':=by
 have HND:=hid hnd;have HX:=hid hx;have HSR:=hid hsR;have HBZ:=hid hbz;have HN4:=hid hn4;have HR:=hid hR;have HGR:=hid hgR
 obtain ⟨W0,hW0⟩:∃ W0,W0=w.alloc (.cells #[.int .i64 1,.slice (some ⟨g,0,none⟩) 512 cap] 83):=⟨_,rfl⟩
 have B0:=hid (show Below w.heap.size w W0 by rw [hW0];exact Below.alloc (Below.refl _ _) (Nat.le_refl _) _)
 have X0:=hid (show RB 83 W0 w.heap.size 1 (some ⟨g,0,none⟩) 512 cap by rw [hW0];exact RB.new _ _ _ _ _ _)
 have R0:=hid (hr.keep B0.out)
 have CL:=hid (fun W (hW:Row5 W 0 g cap (rootN (firstOf tr0) (flat tr0).length ws))=>Jrn.lead_any 1 0 g cap _ 0 0 W hW (by omega) (by omega) (by omega) (by omega))
 rw [Jrn.root_lead]at CL
 rw [show ((0:Nat):Int)=0 from rfl]at CL
 have H:=hid h;have HH:=hid hh;have HL:=hid hL;have HW0:=hid hW0;have HS:=hid hs
 have HGL:=hid (show g<w.heap.size from hr.lt)
 obtain ⟨L,hLn⟩:∃ L,L=xs.length:=⟨_,rfl⟩
 obtain ⟨N,hN⟩:∃ N,N=t.now.length:=⟨_,rfl⟩
 rw [←hLn]at HS hK ⊢
 rw [←hN]at HX HN4 ⊢
 have HLN:=hid hLn;have HNN:=hid hN
 clear h hh hL hr hs hnd hx hsR hbz hn4 hR hgR hW0 hLn hN
 unfold Pv2 at *
 go_enter Tryz.func60,Tryz.ntmps60
 go_wp2_with (first
  | (go_at_call 71;rw [←HW0.out];refine (CL.out W0 R0.out).mono ?_;rintro e w1 ⟨rfl,hr1,hf1⟩;have R1:=hid hr1;have F1:=hid hf1;have X1:=hid (X0.out.fr hf1 (fun e=>by have:=HGL.out;omega));obtain ⟨x0,x1,x2,x3⟩:=X1.out.cells;clear hr1 hf1)
  | (go_at_call 46;obtain ⟨W2,hW2⟩:∃ W2,W2=w1.alloc (.cells #[.int .i64 1,.slice (some ⟨g,0,none⟩) 512 cap] 81):=⟨_,rfl⟩;rw [←hW2];have B2:=hid (show Below w1.heap.size w1 W2 by rw [hW2];exact Below.alloc (Below.refl _ _) (Nat.le_refl _) _);have Y2:=hid (show W2.heap[w1.heap.size]? = some (.cells #[.int .i64 1,.slice (some ⟨g,0,none⟩) 512 cap] 81 (0,0)) by rw [hW2];exact heap_alloc_new _ _);have F2:=hid (show Fr (fun b=>b=g) w W2 from ((Fr.of_below B0.out).trans F1.out (fun _ _ h=>h)).trans (Fr.of_below (S:=fun _=>False) B2.out) (fun _ _ h=>h.elim));have P2:=hid (H.out.work (fr_imp F2.out (fun b hb=>Or.inr hb)));have hpg:Pgs W2 w1.heap.size [⟨1,g,cap,rootN 0 0 ws⟩]:=(fun k y hy=>by match k,hy with | 0,hy=>(simp at hy;subst hy;exact ⟨by simp [World.cell?,Y2.out],by simp [World.cell?,Y2.out],(R1.out.keep B2.out).rd⟩) | k+1,hy=>simp at hy);clear hW2;refine (hput_any hb w1.heap.size 1 [⟨1,g,cap,rootN 0 0 ws⟩] P2.out (HH.out.fr F2.out (fun e=>HGR.out (e▸HR.out))) (Or.inl (Or.inl HR.out)) hpg (Or.inr ⟨by have h1:=B0.out.size;have h2:=F1.out.size;omega,(Array.getElem?_eq_some_iff.1 Y2.out).1⟩) (by intro y hy;simp only [List.mem_cons,List.mem_nil_iff,or_false]at hy;subst hy;exact Or.inl (Or.inr rfl)) HBZ.out (by intro y hy;simp only [List.mem_cons,List.mem_nil_iff,or_false]at hy;subst hy;exact ⟨Nat.le_refl _,HL.out.ln⟩) (by intro y hy;simp only [List.mem_cons,List.mem_nil_iff,or_false]at hy;subst hy;exact Jrn.rootN_bytes _ _ _) (by show K+1≤500000;omega)).mono ?_;rintro e w3 ⟨rfl,hP3,hok3⟩;have P3:=hid hP3;have K3:=hid hok3;clear hP3 hok3 hpg x0 x1 x2 x3))
 have X3:=hid (show RB 83 w3 w.heap.size 1 (some ⟨g,0,none⟩) 512 cap from (K3.out.at_ (Or.inr ⟨Nat.le_refl _,(X1.out.keep B2.out).lt⟩) (X1.out.keep B2.out).lt).trans (X1.out.keep B2.out))
 have R3:=hid ((R1.out.keep B2.out).fr K3.out (fun e=>e.1 (Or.inl (Or.inr rfl))))
 have Q3:=hid (show Rok R w w3 from (show Rok R w W2 from fr_imp F2.out (fun b hb=>by subst hb;exact ⟨HGR.out,H.out.ne0 (Or.inr rfl)⟩)).then K3.out (fun b hb=>Or.inl (Or.inl hb)))
 have G3:=hid (show GTo arm room croom (K+1) w3 p q (Plus R w.heap.size) g cap N (giveAll [] []) ws w3 from ⟨_,P3.out.less (fun b hb=>by rcases hb with (hb |rfl) |rfl;exact Or.inl (Or.inl hb);exact Or.inr ⟨Nat.le_refl _,(X1.out.keep B2.out).lt⟩;exact Or.inl (Or.inr rfl)),HL.out.bared,HBZ.out,by show (t.now.set 0 _).length=N;rw [List.length_set];exact HNN.out.symm,Rok.of_below (Below.refl _ _),R3.out,hsur⟩)
 have H3:=hid (HH.out.rok Q3.out HR.out)
 have hgx:¬(Plus R w.heap.size) g:=by rintro (h1 |h1);exact HGR.out h1;have:=HGL.out;omega
 have HGX:=hid hgx
 clear hgx CL P3
 go_loopw [23] (fun cc W=>∃ (i:Nat),i≤L∧cc=.int .i64 (i:Int)∧Hid (GTo arm room croom (K+1+3*i) w3 p q (Plus R w.heap.size) g cap N (giveAll (xs.take i) []) ws W)) (fun cc _=>L - (Lib.intOf cc).toNat)
 case atStart=>exact ⟨0,by omega,rfl,G3⟩
 case round=>
  obtain ⟨i,hi,rfl,GI⟩:=hrel
  clear G3
  by_cases hiL:i<L
  ·have hiL':(i:Int)<(L:Int):=by omega
   have hix:i<xs.length:=by rw [←HLN.out];exact hiL
   obtain ⟨y,hy⟩:∃ y,xs[i]? = some y:=⟨_,List.getElem?_eq_getElem hix⟩
   have hym:y∈xs:=List.mem_of_getElem? hy
   obtain ⟨t',hP',hL',hb',hl',hk',hr',hsu'⟩:=GI.out
   cases ao with
   | none=>have:=(HS.out.no rfl).1;omega
   | some ad=>
    obtain ⟨ab,of,sp⟩:=ad
    obtain ⟨hRa,h0,h1⟩:=HSR.out _ rfl
    simp only at hRa h0 h1
    subst h0;subst h1
    have cc:=HS.out.at_ _ rfl i (.int .i64 (y:Int)) (by unfold zI;rw [List.getElem?_map,hy];rfl)
    rw [Addr.add_lit]at cc
    simp only [Nat.zero_add]at cc
    have c1:=fr_cell (hk':Rok (Plus R w.heap.size) w3 wr) (fr_cell (Q3.out:Rok R w w3) cc (fun e=>e.1 hRa)) (fun e=>e.1 (Or.inl hRa))
    obtain ⟨x0,x1,x2,x3⟩:=(show RB 83 wr w.heap.size 1 (some ⟨g,0,none⟩) 512 cap from (hk'.at_ (Or.inr rfl) X3.out.lt).trans X3.out).cells
    have hnf:y∉flat (giveAll (xs.take i) []):=fun hm=>by
     have hm2:=(giveAll_perm (xs.take i) []).mem_iff.1 hm
     rw [show flat [] = [] from rfl,List.append_nil]at hm2
     have e1:xs=xs.take i++y::xs.drop (i+1):=by
      conv=>lhs;rw [←List.take_append_drop i xs]
      rw [List.drop_eq_getElem_cons hix,←Option.some.inj ((List.getElem?_eq_getElem hix).symm.trans hy)]
     have hnd:=HND.out
     rw [e1]at hnd
     exact (List.nodup_append.1 hnd).2.2 y hm2 y (by simp) rfl
    have CG:=hid (give_lay (K:=K+1+3*i) (R:=Plus R w.heap.size) hb g cap y _ ws hP' (H3.out.rok hk' (Or.inl HR.out)) (Or.inl HR.out) HGX.out hL' hr' hb' (HX.out y hym).1 (by rw [hl'];exact (HX.out y hym).2) hnf (by rw [hl'];exact HN4.out) (by omega) hsu')
    rw [hl']at CG
    have HTK:=hid (show giveAll (xs.take (i+1)) []=giveT y (giveAll (xs.take i) []) by rw [List.take_add_one,hy,Option.toList_some,giveAll_app];rfl)
    have HK':=hid hk'
    clear hP' hL' hb' hl' hr' cc hnf hym hy hRa hk' hsu'
    unfold Pv2 at CG
    go_wp2_with (go_at_call 38;refine CG.out.mono ?_;rintro e w5 ⟨rfl,hG5⟩;have G5:=hid hG5;clear hG5)
    go_roundw
    case measure=>simp [Lib.intOf];omega
    case rel=>
     refine ⟨i+1,by omega,by go_num,hid ?_⟩
     obtain ⟨t5,a1,a2,a3,a4,a5,a6,a7⟩:=G5.out
     rw [HTK.out]
     exact ⟨t5,a1.up (by omega),a2,a3,a4,HK'.out.then a5 (fun _ h=>h),a6,a7⟩
  ·obtain rfl:i=L:=by omega
   have hiL':¬(i:Int)<(i:Int):=by omega
   go_wp2
   go_ret
   obtain ⟨t5,a1,a2,a3,a4,a5,a6,a7⟩:=GI.out
   rw [HLN.out,List.take_length]at a2 a6
   exact ⟨rfl,t5,(a1.less (fun b hb=>by rcases hb with hb |hb;exact Or.inl (Or.inl hb);exact Or.inr hb)),a2,a3,a4,Q3.out.then a5 (fun _ h=>Or.inl h),a6,a7⟩
end
end
section
open Go.RowKit Go.Maps
open Dsk (gt hid undrew keep_old keep_cell lt_cell Rd)
open Cch (Fr wpAnyK wpAnyK_done wp_region_K)
open Jrn (Pv2 Row5 numAt RB fr_two trunkN rootN putN nul)
def S7(b:Nat)(k:Int)(hb p:Nat)(W:World):Prop:=W.cell? ⟨b,0,none⟩=some (.int .i64 k)∧W.cell? ⟨hb,0,none⟩=some (.pointer (some ⟨p,0,none⟩))
theorem S7.keep{b:Nat}{k:Int}{hb p:Nat}{W W':World}(h:S7 b k hb p W)(hb':Below W.heap.size W W'):S7 b k hb p W':=⟨keep_old hb' h.1,keep_old hb' h.2⟩
section
variable {arm:Prop} {room croom K:Nat} {p q:Nat} {R:Nat→Prop} {t:RS} {w:World}
variable {M cp:Nat} {ao:Option Addr}
theorem trim_own{F b:Nat}(h:(Value.slice ao M cp).ownBlock=some b):(Value.slice ao F cp).ownBlock=some b:=by
 cases ao with
 | none=>cases h
 | some a=>exact h
theorem trim_g{W0 w1:World}{g:Nat}{z:Int}{v:Value}(hP:PrgAt arm room croom K w p q R t)(h0:W0.cell? ⟨w.heap.size,0,none⟩=some (.int .i64 z))(hg:W0.heap.size≤g)(hl:g<w1.heap.size)(hv:¬v.ownBlock=some g):¬Own2 (Plus (Plus R w.heap.size) w1.heap.size) v g:=by
 have:=lt_cell h0
 rintro (((h |h) |h) |h)
 ·have:=hP.lt h;simp only at *;omega
 ·simp only at *;omega
 ·omega
 ·exact hv h
variable {xs:List Nat} {B:Nat} {W:World}
theorem trim_src(h:W.ownsRow B 3 1 (.slice ao M cp) M (zI xs)):Cch.Src W ao M cp (zI xs):=Cch.src_row (rr_base h (Nat.zero_le _)) (fun u hu=>by unfold zI at hu;obtain ⟨x,_,rfl⟩:=List.mem_map.1 hu;rfl)
theorem trim_rows{Q:Nat→Prop}(h:W.ownsRow B 3 1 (.slice ao M cp) M (zI xs)):∀ a,ao=some a→Own2 Q (.slice ao M cp) a.block∧a.off=0∧a.spot=none:=fun a ha=>by
 obtain ⟨ao',cap,e,hno,hso⟩:=Cch.row_form (rr_base h (Nat.zero_le _))
 simp only [Value.slice.injEq]at e
 obtain ⟨rfl,-,rfl⟩:=e
 obtain ⟨e1,_,_⟩:=hso a ha
 subst ha
 exact ⟨Or.inr rfl,by rw [e1],by rw [e1]⟩
theorem trim_yes{hb k:Nat}{tr:List (Nat×List Nat)}{ws:List Nat}(h:HeapS arm room croom K w hb p q R t tr ws)(hk1:1≤k)(hk:k≤t.now.length)(hn4:t.now.length≤4000)(hK:K+20000≤490000) :
  Calls Tryz.prog 25 #[.pointer (some ⟨hb,0,none⟩),.int .i64 (k:Int)] w (HTo arm room croom (K+3+4*(flat tr).length) w hb p q R k (trimT k tr) ws (.int .i64 0)):=by
 have hpb:t.pages=t.now:=RS.pages_busy h.busy
 have hcnt:=h.lay.count
 obtain ⟨W0,hW0⟩:∃ W0,W0=w.alloc (.cells #[.int .i64 (k:Int)] 3):=⟨_,rfl⟩
 have B0:=hid (show Below w.heap.size w W0 by rw [hW0];exact Below.alloc (Below.refl _ _) (Nat.le_refl _) _)
 have C0:=hid (show W0.cell? ⟨w.heap.size,0,none⟩=some (.int .i64 (k:Int)) by rw [hW0,World.cell?_alloc_at _ _ _ _ rfl];rfl)
 have P0:=hid (h.prg.new (g:=w.heap.size) B0.out (Nat.le_refl _) (lt_cell C0.out))
 have CG:=hid (changing_yes hb P0.out (h.heap.keep B0.out) h.busy (by rw [hpb];exact h.lay.ln) (by omega))
 rw [hpb,h.lay.root]at CG
 have CLi:=hid (fun W g cap RR B0 (hP:PrgAt arm room croom (K+1) W p q RR t) (hH:HeapAt W hb p) (h1:RR hb) (h2:Row5 W B0 g cap (rootN (firstOf tr) (flat tr).length ws))=>list_lay (R:=RR) hb g cap B0 ws tr hP hH h1 h.lay h.busy h2 hn4 (by omega))
 have CPg:=hid (fun W (RR:Nat→Prop) KK (hP:PrgAt arm room croom KK W p q RR t)=>prg_pages hP)
 rw [hpb]at CPg
 have HS:=hid h;have HW0:=hid hW0;have HN4:=hid hn4;have HK1:=hid hk1;have HK:=hid hk
 have hkz:¬(k:Int)<1:=by omega
 have hkn:¬(t.now.length:Int)<(k:Int):=by omega
 have hln:upto k (flat tr)=(flat tr).filter (fun z=>decide (z≤k)):=rfl
 have hrt:riseN (upto k (flat tr))=trimL k (flat tr):=rise_trim h.lay.nd (fun y hy=>(h.lay.chain.range y hy).1) (by rw [←hln];exact riseN_perm _) (riseN_sorted _)
 have hml:(trimL k (flat tr)).length=(upto k (flat tr)).length:=by rw [←hrt];exact (riseN_perm _).length_eq
 have hmf:(upto k (flat tr)).length≤(flat tr).length:=List.length_filter_le _ _
 have HRT:=hid hrt;have HML:=hid hml;have HCNT:=hid hcnt
 obtain ⟨F,hF⟩:∃ F,F=(flat tr).length:=⟨_,rfl⟩
 obtain ⟨M,hM⟩:∃ M,M=(upto k (flat tr)).length:=⟨_,rfl⟩
 obtain ⟨N,hN⟩:∃ N,N=t.now.length:=⟨_,rfl⟩
 have CD:=hid (fun B0 ao cp B W (hv:W.ownsRow B0 3 1 (.slice ao (flat tr).length cp) (flat tr).length (zI (flat tr))) h0 hB=>del8_any B0 ao cp (flat tr) B k W hv (by omega) h0 hB)
 have CS:=hid (fun B0 ao cp W (hv:W.ownsRow B0 3 1 (.slice ao (upto k (flat tr)).length cp) (upto k (flat tr)).length (zI (upto k (flat tr))))=>sort8_any B0 cp ao (upto k (flat tr)) W hv (by omega))
 rw [hrt]at CS
 rw [←hF]at CG CLi CD HCNT hmf ⊢
 rw [←hM]at CD CS HML hmf
 rw [←hN]at CPg hkn HCNT HN4 HK
 have HF:=hid hF;have HM:=hid hM;have HN:=hid hN;have HMF:=hid hmf
 clear h hpb hW0 hn4 hk1 hk hF hM hN hln hrt hml hcnt hmf
 unfold Pv2 at *
 go_enter Tryz.func25,Tryz.ntmps25
 go_upto_region 7 with (first
  | (go_at_call 34;rw [←HW0.out];refine CG.out.mono ?_;rintro e w1 ⟨g,cap,rfl,hr1,hg1,hP1,hok1⟩;have B1:=hid (show Below w1.heap.size w1 (w1.alloc (.cells #[.int .i64 1,.slice (some ⟨g,0,none⟩) 512 cap] 83)) from Below.alloc (Below.refl _ _) (Nat.le_refl _) _);have R1:=hid (hr1.keep B1.out);have X1:=hid (RB.new 83 w1 1 (some ⟨g,0,none⟩) 512 cap);have P1:=hid (hP1.new B1.out (Nat.le_refl _) (by simp));have K1:=hid hok1;have H1:=hid (((HS.out.heap.keep B0.out).rok hok1 (Or.inl HS.out.mem)).keep B1.out);have G1:=hid hg1;have GL:=hid hr1.lt;have D1:=hid (keep_old B1.out (fr_cell hok1 C0.out (fun e=>e.1 (Or.inr rfl))));clear hr1 hg1 hP1 hok1)
  | (go_at_call 32;refine (CLi.out _ g cap _ _ P1.out H1.out (Or.inl (Or.inl (Or.inl HS.out.mem))) R1.out).mono ?_;rintro e w2 ⟨ao,cp,rfl,hA⟩;have A2:=hid hA;have H2:=hid (H1.out.rok hA.k (Or.inl (Or.inl (Or.inl HS.out.mem))));have X2:=hid (show RB 83 w2 w1.heap.size 1 (some ⟨g,0,none⟩) 512 cap from (hA.k.at_ (Or.inr rfl) X1.out.lt).trans X1.out);have R2:=hid (R1.out.fr hA.k (fun e=>e.1 (Or.inl (Or.inr rfl))));have D2:=hid (fr_cell hA.k D1.out (fun e=>e.1 (Or.inl (Or.inl (Or.inr rfl)))));clear hA))
 have hs2:S7 w.heap.size (k:Int) hb p w2.drew:=⟨D2.out,H2.out.cell⟩
 refine wp_region_K (S:=S7 w.heap.size (k:Int) hb p) (fun _=>false) (by kernel_rfl) hs2 (fun hHeld=>?_)
 refine gkt 0 ?_ (h:=by intro W hSw;obtain ⟨k0,k1⟩:=hSw;go_simp;first |done |with_reducible rfl)
 refine gkp 1 ?_ (v:=.bool false)
 refine gkp 2 ?_
 refine gkt 3 ?_ (h:=by intro W hSw;obtain ⟨k0,k1⟩:=hSw;go_simp;first |done |with_reducible rfl)
 refine gkp 4 ?_
 refine gkp 5 ?_
 refine gkp 6 ?_
 refine gkt 7 ?_ (h:=by intro W hSw;obtain ⟨k0,k1⟩:=hSw;go_simp;first |done |with_reducible rfl)
 refine gk1 8 (fun K hK=>?_)
 go_simp
 go_at_call 10;refine (CPg.out w2.drew _ _ (A2.out.p.keep (Below.refl _ _).drew)).mono ?_;rintro e w3 ⟨rfl,hb3⟩;have B3:=hid (show Below w2.heap.size w2 w3 from undrew hb3);have hR:S7 w.heap.size (k:Int) hb p w3:=hs2.keep hb3;clear hb3
 refine hK.out _ _ hR (fun hHeld=>?_)
 clear hK K
 (try simp only [Act.put,sA,sZ,sS])
 refine gkp 9 ?_ (v:=.bool false) (h:=by intro W _;go_simp;first |done |omega |with_reducible rfl)
 refine gkp 10 ?_
 refine wpAnyK_done (by kernel_rfl) ?_ _
 have C3:=hid hR
 clear hHeld hs2 hR
 have A3:=hid (A2.out.below B3.out)
 have X3:=hid (X2.out.keep B3.out);have R3:=hid (R2.out.keep B3.out);have H3:=hid (H2.out.keep B3.out)
 clear CG CLi CPg A2 X2 R2 H2 D2
 have hsep:∀ b,(Value.slice ao F cp).ownBlock=some b→b≠g∧b≠w.heap.size∧b≠w1.heap.size∧¬R b:=fun b hb=>⟨fun e=>A3.out.s b hb (Or.inl (Or.inr e)),fun e=>A3.out.s b hb (Or.inl (Or.inl (Or.inr e))),fun e=>A3.out.s b hb (Or.inr e),fun e=>A3.out.s b hb (Or.inl (Or.inl (Or.inl e)))⟩
 have HSEP:=hid hsep
 clear hsep
 have O3:=hid (show w3.ownsRow (w1.heap.size+1) 3 1 (.slice ao F cp) F (zI (flat tr)) by
  have h5:=A3.out.o
  rw [←HF.out]at h5
  exact own_dn h5 (by simp))
 have L3:=hid (show w.heap.size<w1.heap.size+1 by have h1:=B0.out.size;have h2:=K1.out.size;omega)
 have CD3:=hid (CD.out (w1.heap.size+1) ao cp w.heap.size w3 O3.out C3.out.1 L3.out)
 clear CD
 go_upto_region 14 with (first
  | (go_at_call 57;refine CD3.out.mono ?_;rintro e w4 ⟨rfl,ho4,hf4⟩;have O4:=hid ho4;have F4:=hid hf4;clear ho4 hf4)
  | (go_at_call 59;refine (CS.out _ ao cp w4 O4.out).mono ?_;rintro e w5 ⟨rfl,ho5,hf5⟩;have O5:=hid ho5;have F5:=hid (F4.out.trans hf5 (fun b _ hb=>(by cases ao with | none=>cases hb | some a=>exact hb)));have X5:=hid (X3.out.fr F5.out (fun e=>(HSEP.out _ e).2.2.1 rfl));obtain ⟨x0,x1,x2,x3⟩:=X5.out.cells;have R5:=hid ((R3.out.fr F5.out (fun e=>(HSEP.out _ e).1 rfl)).base (Nat.zero_le _));have H5:=hid (H3.out.fr F5.out (fun e=>(HSEP.out _ e).2.2.2 HS.out.mem));have P5:=hid ((A3.out.p.mine (fr_imp F5.out (fun b hb=>Or.inr hb))).less (R':=Plus (Own2 (Plus (Plus R w.heap.size) w1.heap.size) (.slice ao M cp)) g) (fun b hb=>(by rcases hb with ((((hb | hb) | hb) | hb) | hb);exact Or.inl (Or.inl (Or.inl (Or.inl hb)));exact Or.inl (Or.inl (Or.inl (Or.inr hb)));exact Or.inl (Or.inr hb);exact Or.inr (by cases ao with | none=>cases hb | some a=>exact hb);exact Or.inl (Or.inl (Or.inr hb)))));clear ho5 hf5)
  | (go_at_call 60;have CR:=relist_any (R:=Own2 (Plus (Plus R w.heap.size) w1.heap.size) (.slice ao M cp)) hb g cap ao cp (trimL k (flat tr)) tr ws P5.out H5.out (Or.inl (Or.inl (Or.inl HS.out.mem))) (trim_g HS.out.prg C0.out G1.out GL.out (fun e=>(HSEP.out g (trim_own e)).1 rfl)) HS.out.lay (by rw [←HF.out];exact R5.out) HS.out.busy (by rw [HML.out];exact trim_src O5.out) (trim_rows O5.out) (trimL_nd _ _) (fun y hy=>⟨(mem_trimL.1 hy).1,(HS.out.lay.chain.range y (mem_trimL.1 hy).2.2).2⟩) (by rw [←HN.out];exact HN4.out) (by rw [HML.out];have h1:=HMF.out;have h2:=HCNT.out;have h3:=HN4.out;have h4:=flat_len tr;have h5:=HF.out;omega) HS.out.sur;rw [HML.out]at CR;refine CR.mono ?_;rintro e w6 ⟨rfl,hG6⟩;have G6:=hid hG6;clear hG6 CR))
 obtain ⟨t6,hP6,hL6,hb6,hl6,hk6,hr6,hs6'⟩:=G6.out
 have H6:=hid (H5.out.rok hk6 (Or.inl (Or.inl (Or.inl HS.out.mem))))
 have D6:=hid (fr_cell hk6 (fr_cell F5.out C3.out.1 (fun e=>(HSEP.out _ e).2.1 rfl)) (fun e=>e.1 (Or.inl (Or.inl (Or.inr rfl)))))
 have CSh:=hid (prg_shrink_yes k (hP6.keep (Below.refl _ _).drew) hb6 (by rw [hl6,←HN.out];exact HK.out))
 have hs6:S7 w.heap.size (k:Int) hb p w6.drew:=⟨D6.out,H6.out.cell⟩
 have KK5:=hid (show Rok R w w5 from (((Rok.after B0.out K1.out (fun b hb=>Or.inl hb)).below B1.out).then A3.out.k (fun b hb=>Or.inl (Or.inl (Or.inl hb)))).trans F5.out (fun b _ hb=>⟨(HSEP.out b hb).2.2.2,A3.out.p.ne0 (Or.inr hb)⟩))
 have KK6:=hid (KK5.out.then hk6 (fun b hb=>Or.inl (Or.inl (Or.inl hb))))
 have HL6:=hid hL6;have HB6:=hid hb6;have HLN6:=hid hl6;have HSU6:=hid hs6'
 clear hP6 hL6 hb6 hl6 hk6 hr6 hs6'
 refine wp_region_K (S:=S7 w.heap.size (k:Int) hb p) (fun i=>i == 5) (by kernel_rfl) hs6 (fun hHeld=>?_)
 refine gkp 0 ?_
 refine gkp 1 ?_
 refine gkp 2 ?_
 refine gkt 3 ?_ (h:=by intro W hSw;obtain ⟨k0,k1⟩:=hSw;go_simp;first |done |with_reducible rfl)
 refine gkt 4 ?_ (h:=by intro W hSw;obtain ⟨k0,k1⟩:=hSw;go_simp;first |done |with_reducible rfl)
 refine gkl 5 (fun K hK=>?_)
 go_simp
 go_at_call 61;refine CSh.out.mono ?_;rintro e w7 ⟨rfl,hP7,hok7⟩;have P7:=hid hP7;have K7:=hid hok7;clear hP7 hok7
 refine hK.out _ _ ?_
 clear hK K
 (try simp only [Act.put,sA,sZ,sS])
 refine gkp 6 ?_
 refine wpAnyK_done (by kernel_rfl) ?_ _
 clear hHeld hs6
 go_wp2
 go_ret
 have hpm:(flat (trimT k tr)).Perm (trimL k (flat tr)):=by have:=giveAll_perm (trimL k (flat tr)) [];rw [show flat [] = [] from rfl,List.append_nil]at this;exact this
 have hkn:k≤t6.now.length:=by rw [HLN6.out,←HN.out];exact HK.out
 refine HS.out.to rfl ((P7.out.less (fun b hb=>Or.inl (Or.inl (Or.inl (Or.inl hb))))).up ?_) (KK6.out.then (Rok.after (Below.refl _ _).drew K7.out (fun b hb=>Or.inl (Or.inl (Or.inl (Or.inl hb))))) (fun _ h=>h)) (HL6.out.cut HK1.out hkn (fun y hy=>(mem_trimL.1 (hpm.mem_iff.1 hy)).2.1)) HB6.out HSU6.out (by show (t6.now.take k).length=k;rw [List.length_take];omega)
 have h1:=HMF.out;have h2:=flat_len tr;have h3:=HF.out;omega
end
end
section
open Go.RowKit Go.Maps
open Dsk (gt hid undrew keep_old keep_cell lt_cell Rd)
open Cch (Fr wpAnyK wpAnyK_done wp_region_K)
open Jrn (Pv2 Row5 numAt RB fr_two trunkN rootN putN nul rowV rowC)
section
variable {arm:Prop} {room croom K:Nat} {p q:Nat} {R:Nat→Prop} {t:RS} {w:World}
variable {w':World} {e:Ending} {v:Value} {ws:List Nat} {K' hb:Nat}
theorem HTo.up{N:Nat}{tr:List (Nat×List Nat)}(h:HTo arm room croom K w hb p q R N tr ws v e w')(hk:K≤K'):HTo arm room croom K' w hb p q R N tr ws v e w':=by
 obtain ⟨he,t',hs,hl,hr⟩:=h
 exact ⟨he,t',⟨hs.prg.up hk,hs.heap,hs.mem,hs.lay,hs.busy,hs.sur⟩,hl,hr⟩
theorem take_any{tr:List (Nat×List Nat)}(h:HeapS arm room croom K w hb p q R t tr ws)(hn4:t.now.length<4000)(hK:K+5000≤500000) :
  Calls Tryz.prog 15 #[.pointer (some ⟨hb,0,none⟩)] w (HTo arm room croom (K+6+(flat tr).length) w hb p q R (takeN t.now.length tr) (takeT tr) ws (.tuple #[.int .i64 ((takeV t.now.length tr:Nat):Int),.int .i64 0])):=by
 match tr,h with
 | [],h=>exact (take_none h hn4 hK).mono fun e w' hh=>hh.up (by omega)
 | (j,ls)::r,h=>
  obtain ⟨j,rfl⟩:∃ i,j=i+1:=⟨j - 1,by have:=(h.lay.chain).2.1;simp at this;omega⟩
  have hfl:=flat_len r
  have hf2:(flat ((j+1,ls)::r)).length=1+ls.length+(flat r).length:=by rw [flat_cons];simp;omega
  by_cases hf:ls = []
  ·subst hf
   rw [show takeT ((j+1,[])::r)=r by simp [takeT]]
   exact (take_trunk h (by omega) hK).mono fun e w' hh=>hh.up (by omega)
  ·obtain ⟨ls',v,rfl⟩:∃ ls' v,ls=ls'++[v]:=⟨ls.dropLast,ls.getLast hf,(List.dropLast_concat_getLast hf).symm⟩
   rw [show takeT ((j+1,ls'++[v])::r)=(j+1,ls')::r by simp [takeT],show takeV t.now.length ((j+1,ls'++[v])::r)=v by simp [takeV]]
   exact (take_leaves h (by omega) hK).mono fun e w' hh=>hh.up (by omega)
theorem give_is{n:Nat}{tr:List (Nat×List Nat)}(h:HeapS arm room croom K w hb p q R t tr ws)(hn1:2≤n)(hn:n≤t.now.length)(hnf:n∉flat tr)(hn4:t.now.length≤4000)(hK:K+5000≤500000) :
  Calls Tryz.prog 16 #[.pointer (some ⟨hb,0,none⟩),.int .i64 (n:Int)] w (HTo arm room croom (K+6+(flat tr).length) w hb p q R t.now.length (giveT n tr) ws (.int .i64 0)):=by
 match tr,h,hnf with
 | [],h,hnf=>exact (give_none h hn1 hn hn4 hK).mono fun e w' hh=>hh.up (by omega)
 | (j,ls)::r,h,hnf=>
  obtain ⟨j,rfl⟩:∃ i,j=i+1:=⟨j - 1,by have:=(h.lay.chain).2.1;simp at this;omega⟩
  have hfl:=flat_len r
  have hf2:(flat ((j+1,ls)::r)).length=1+ls.length+(flat r).length:=by rw [flat_cons];simp;omega
  by_cases hl:ls.length<126
  ·rw [show giveT n ((j+1,ls)::r)=(j+1,ls++[n])::r from if_pos hl]
   exact (give_leaf h hl hn1 hn hnf hn4 hK).mono fun e w' hh=>hh.up (by omega)
  ·rw [show giveT n ((j+1,ls)::r)=(n,[])::(j+1,ls)::r from if_neg hl]
   have h3:=h.lay.chain.2.2.2.1
   simp only at h3
   exact (give_fresh h (by omega) hn1 hn hnf hn4 hK).mono fun e w' hh=>hh.up (by omega)
theorem HeapS.same{tr:List (Nat×List Nat)}(h:HeapS arm room croom K w hb p q R t tr ws)(he:e=.returned v)(hP:PrgAt arm room croom K' w' p q R t)(hk:Rok R w w'):HTo arm room croom K' w hb p q R t.now.length tr ws v e w':=h.to he hP hk h.lay h.busy h.sur rfl
variable {i:Int}
theorem word_no{tr:List (Nat×List Nat)}(h:HeapS arm room croom K w hb p q R t tr ws)(hi:i<0∨60≤i)(hK:K+5000≤500000) :
  Calls Tryz.prog 24 #[.pointer (some ⟨hb,0,none⟩),.int .i64 i] w (HTo arm room croom (K+1) w hb p q R t.now.length tr ws (.tuple #[.int .i64 0,.int .i64 11])):=by
 have hpb:t.pages=t.now:=RS.pages_busy h.busy
 have CG:=hid (root_yes hb h.prg h.heap (by rw [hpb];exact h.lay.ln) (by omega))
 have CWd:=hid (fun W g cap=>Jrn.words_any 1 g cap W)
 have CR:=hid (fun W g cap=>Jrn.rget_no (.agg #[.int .i64 1,.slice (some ⟨g,0,none⟩) 512 cap]) 16 8 60 i W hi)
 have HS:=hid h
 clear h hpb hi
 unfold Pv2 at *
 unfold rowV rowC at *
 go_enter Tryz.func24,Tryz.ntmps24
 go_wp2_with (first
  | (go_at_call 31;refine CG.out.mono ?_;rintro e w1 ⟨g,cap,rfl,hr1,hg1,hP1,hok1⟩;have B1:=hid (show Below w1.heap.size w1 (w1.alloc (.cells #[.int .i64 1,.slice (some ⟨g,0,none⟩) 512 cap] 83)) from Below.alloc (Below.refl _ _) (Nat.le_refl _) _);have P1:=hid (hP1.keep B1.out);have K1:=hid hok1;clear hr1 hg1 hP1 hok1)
  | (go_at_call 48;refine (CWd.out _ g cap).mono ?_;rintro e w2 ⟨rfl,hb2⟩;have B2:=hid hb2;clear hb2)
  | (go_at_call 56;refine (CR.out w2 g cap).mono ?_;rintro e w3 ⟨rfl,hb3⟩;have B3:=hid (gt B2.out hb3);clear hb3))
 go_ret2
 exact HS.out.same rfl ((P1.out.keep B3.out).less (fun b hb=>Or.inl hb)) ((K1.out.below B1.out).below B3.out)
theorem set_no{n:Int}{tr:List (Nat×List Nat)}(h:HeapS arm room croom K w hb p q R t tr ws)(hi:i<0∨60≤i)(hK:K+5000≤500000) :
  Calls Tryz.prog 21 #[.pointer (some ⟨hb,0,none⟩),.int .i64 i,.int .i64 n] w (HTo arm room croom (K+1) w hb p q R t.now.length tr ws (.int .i64 11)):=by
 have hpb:t.pages=t.now:=RS.pages_busy h.busy
 have CG:=hid (changing_yes hb h.prg h.heap h.busy (by rw [hpb];exact h.lay.ln) (by omega))
 have CWd:=hid (fun W g cap=>Jrn.words_any 1 g cap W)
 have CR:=hid (fun W g cap=>Jrn.rset_no (.agg #[.int .i64 1,.slice (some ⟨g,0,none⟩) 512 cap]) 16 8 60 i n W hi)
 have HS:=hid h
 clear h hpb hi
 unfold Pv2 at *
 unfold rowV rowC at *
 go_enter Tryz.func21,Tryz.ntmps21
 go_wp2_with (first
  | (go_at_call 34;refine CG.out.mono ?_;rintro e w1 ⟨g,cap,rfl,hr1,hg1,hP1,hok1⟩;have B1:=hid (show Below w1.heap.size w1 (w1.alloc (.cells #[.int .i64 1,.slice (some ⟨g,0,none⟩) 512 cap] 83)) from Below.alloc (Below.refl _ _) (Nat.le_refl _) _);have P1:=hid (hP1.keep B1.out);have K1:=hid hok1;clear hr1 hg1 hP1 hok1)
  | (go_at_call 48;refine (CWd.out _ g cap).mono ?_;rintro e w2 ⟨rfl,hb2⟩;have B2:=hid hb2;clear hb2)
  | (go_at_call 49;refine (CR.out w2 g cap).mono ?_;rintro e w3 ⟨rfl,hb3⟩;have B3:=hid (gt B2.out hb3);clear hb3))
 go_ret
 exact HS.out.same rfl ((P1.out.keep B3.out).less (fun b hb=>Or.inl hb)) ((K1.out.below B1.out).below B3.out)
theorem give_no{z:Int}{tr:List (Nat×List Nat)}(h:HeapS arm room croom K w hb p q R t tr ws)(hz:z<2∨(t.now.length:Int)<z)(hn4:t.now.length≤4000)(hK:K+5000≤500000) :
  Calls Tryz.prog 16 #[.pointer (some ⟨hb,0,none⟩),.int .i64 z] w (HTo arm room croom (K+1+(flat tr).length) w hb p q R t.now.length tr ws (.int .i64 2)):=by
 have hpb:t.pages=t.now:=RS.pages_busy h.busy
 have CG:=hid (changing_yes hb h.prg h.heap h.busy (by rw [hpb];exact h.lay.ln) (by omega))
 rw [hpb,h.lay.root]at CG
 have CLi:=hid (fun W g cap RR B0 (hP:PrgAt arm room croom (K+1) W p q RR t) (hH:HeapAt W hb p) (h1:RR hb) (h2:Row5 W B0 g cap (rootN (firstOf tr) (flat tr).length ws))=>list_lay (R:=RR) hb g cap B0 ws tr hP hH h1 h.lay h.busy h2 hn4 (by omega))
 have CHs:=hid (fun W RR KK (hP:PrgAt arm room croom KK W p q RR t) (hH:HeapAt W hb p)=>has_any8 (R:=RR) hb z hP hH)
 rw [hpb,show (decide (1<z)&&decide (z≤(t.now.length:Int)))=false by rcases hz with h |h;rw [decide_eq_false (by omega)];rfl;rw [decide_eq_false (show ¬z≤_ by omega)];simp]at CHs
 have HS:=hid h;have HFL:=hid (flat_len tr)
 clear h hpb hz
 generalize (flat tr).length=LL at *
 unfold Pv2 at *
 go_enter Tryz.func16,Tryz.ntmps16
 go_wp2_with (first
  | (go_at_call 34;refine CG.out.mono ?_;rintro e w1 ⟨g,cap,rfl,hr1,hg1,hP1,hok1⟩;have B1:=hid (show Below w1.heap.size w1 (w1.alloc (.cells #[.int .i64 1,.slice (some ⟨g,0,none⟩) 512 cap] 83)) from Below.alloc (Below.refl _ _) (Nat.le_refl _) _);have R1:=hid (hr1.keep B1.out);have P1:=hid (hP1.new B1.out (Nat.le_refl _) (by simp));have K1:=hid hok1;have H1:=hid ((HS.out.heap.rok hok1 HS.out.mem).keep B1.out);clear hr1 hg1 hP1 hok1)
  | (go_at_call 32;refine (CLi.out _ g cap _ _ P1.out H1.out (Or.inl (Or.inl HS.out.mem)) R1.out).mono ?_;rintro e w2 ⟨ao,cp,rfl,hA⟩;have A2:=hid hA;have H2:=hid (H1.out.rok hA.k (Or.inl (Or.inl HS.out.mem)));clear hA)
  | (go_at_call 37;refine (CHs.out w2 _ _ A2.out.at_ H2.out).mono ?_;rintro e w3 ⟨rfl,hb3⟩;have B3:=hid hb3;clear hb3))
 go_ret
 exact HS.out.same rfl (((A2.out.at_.less (fun b hb=>Or.inl (Or.inl hb))).keep B3.out).up (by have:=HFL.out;omega)) (((K1.out.below B1.out).then A2.out.k (fun b hb=>Or.inl (Or.inl hb))).below B3.out)
end
end
section
open Go.RowKit Go.Maps
open Dsk (gt hid undrew keep_old keep_cell lt_cell Rd)
open Cch (Fr wpAnyK wpAnyK_done wp_region_K)
open Jrn (Pv2 Row5 numAt RB fr_two trunkN rootN putN nul)
section
variable {arm:Prop} {room croom K:Nat} {p q:Nat} {R:Nat→Prop} {t:RS} {w:World}
variable {ws:List Nat} {k:Int} {hb:Nat}
theorem trim_low{tr:List (Nat×List Nat)}(h:HeapS arm room croom K w hb p q R t tr ws)(hkz:k<1)(hn4:t.now.length≤4000)(hK:K+20000≤490000) :
  Calls Tryz.prog 25 #[.pointer (some ⟨hb,0,none⟩),.int .i64 k] w (HTo arm room croom (K+1+(flat tr).length) w hb p q R t.now.length tr ws (.int .i64 11)):=by
 have hpb:t.pages=t.now:=RS.pages_busy h.busy
 obtain ⟨W0,hW0⟩:∃ W0,W0=w.alloc (.cells #[.int .i64 k] 3):=⟨_,rfl⟩
 have B0:=hid (show Below w.heap.size w W0 by rw [hW0];exact Below.alloc (Below.refl _ _) (Nat.le_refl _) _)
 have C0:=hid (show W0.cell? ⟨w.heap.size,0,none⟩=some (.int .i64 k) by rw [hW0,World.cell?_alloc_at _ _ _ _ rfl];rfl)
 have P0:=hid (h.prg.new (g:=w.heap.size) B0.out (Nat.le_refl _) (lt_cell C0.out))
 have CG:=hid (changing_yes hb P0.out (h.heap.keep B0.out) h.busy (by rw [hpb];exact h.lay.ln) (by omega))
 rw [hpb,h.lay.root]at CG
 have CLi:=hid (fun W g cap RR B0 (hP:PrgAt arm room croom (K+1) W p q RR t) (hH:HeapAt W hb p) (h1:RR hb) (h2:Row5 W B0 g cap (rootN (firstOf tr) (flat tr).length ws))=>list_lay (R:=RR) hb g cap B0 ws tr hP hH h1 h.lay h.busy h2 hn4 (by omega))
 have HS:=hid h;have HW0:=hid hW0;have HFL:=hid (flat_len tr)
 obtain ⟨F,hF⟩:∃ F,F=(flat tr).length:=⟨_,rfl⟩
 rw [←hF]at CG CLi HFL ⊢
 clear h hpb hW0 hn4 hF
 unfold Pv2 at *
 go_enter Tryz.func25,Tryz.ntmps25
 go_upto_region 7 with (first
  | (go_at_call 34;rw [←HW0.out];refine CG.out.mono ?_;rintro e w1 ⟨g,cap,rfl,hr1,hg1,hP1,hok1⟩;have B1:=hid (show Below w1.heap.size w1 (w1.alloc (.cells #[.int .i64 1,.slice (some ⟨g,0,none⟩) 512 cap] 83)) from Below.alloc (Below.refl _ _) (Nat.le_refl _) _);have R1:=hid (hr1.keep B1.out);have P1:=hid (hP1.new B1.out (Nat.le_refl _) (by simp));have K1:=hid hok1;have H1:=hid (((HS.out.heap.keep B0.out).rok hok1 (Or.inl HS.out.mem)).keep B1.out);have D1:=hid (keep_old B1.out (fr_cell hok1 C0.out (fun e=>e.1 (Or.inr rfl))));clear hr1 hg1 hP1 hok1)
  | (go_at_call 32;refine (CLi.out _ g cap _ _ P1.out H1.out (Or.inl (Or.inl (Or.inl HS.out.mem))) R1.out).mono ?_;rintro e w2 ⟨ao,cp,rfl,hA⟩;have A2:=hid hA;have H2:=hid (H1.out.rok hA.k (Or.inl (Or.inl (Or.inl HS.out.mem))));have D2:=hid (fr_cell hA.k D1.out (fun e=>e.1 (Or.inl (Or.inl (Or.inr rfl)))));clear hA))
 have hs2:S7 w.heap.size k hb p w2.drew:=⟨D2.out,H2.out.cell⟩
 refine wp_region_K (S:=S7 w.heap.size k hb p) (fun _=>false) (by kernel_rfl) hs2 (fun hHeld=>?_)
 have B3:=hid (show Below w2.heap.size w2 w2.drew from (Below.refl _ _).drew)
 refine gkt 0 ?_ (h:=by intro W hSw;obtain ⟨k0,k1⟩:=hSw;go_simp;first |done |with_reducible rfl)
 refine gkp 1 ?_ (v:=.bool true)
 refine gkp 2 ?_
 refine gku 3 ?_
 refine gku 4 ?_
 refine gku 5 ?_
 refine gku 6 ?_
 refine gku 7 ?_
 refine gku 8 ?_
 refine gku 9 ?_
 refine gkp 10 ?_
 refine wpAnyK_done (by kernel_rfl) ?_ _
 clear hHeld hs2
 go_wp2
 go_ret
 have KK:=show Rok R w w2 from ((Rok.after B0.out K1.out (fun b hb=>Or.inl hb)).below B1.out).then A2.out.k (fun b hb=>Or.inl (Or.inl (Or.inl hb)))
 exact HS.out.same rfl (((A2.out.at_.less (fun b hb=>Or.inl (Or.inl (Or.inl hb)))).keep B3.out).up (by have:=HFL.out;omega)) (KK.below B3.out)
theorem trim_high{tr:List (Nat×List Nat)}(h:HeapS arm room croom K w hb p q R t tr ws)(hkz:(t.now.length:Int)<k)(hn4:t.now.length≤4000)(hK:K+20000≤490000) :
  Calls Tryz.prog 25 #[.pointer (some ⟨hb,0,none⟩),.int .i64 k] w (HTo arm room croom (K+1+(flat tr).length) w hb p q R t.now.length tr ws (.int .i64 11)):=by
 have hpb:t.pages=t.now:=RS.pages_busy h.busy
 obtain ⟨W0,hW0⟩:∃ W0,W0=w.alloc (.cells #[.int .i64 k] 3):=⟨_,rfl⟩
 have B0:=hid (show Below w.heap.size w W0 by rw [hW0];exact Below.alloc (Below.refl _ _) (Nat.le_refl _) _)
 have C0:=hid (show W0.cell? ⟨w.heap.size,0,none⟩=some (.int .i64 k) by rw [hW0,World.cell?_alloc_at _ _ _ _ rfl];rfl)
 have P0:=hid (h.prg.new (g:=w.heap.size) B0.out (Nat.le_refl _) (lt_cell C0.out))
 have CG:=hid (changing_yes hb P0.out (h.heap.keep B0.out) h.busy (by rw [hpb];exact h.lay.ln) (by omega))
 rw [hpb,h.lay.root]at CG
 have CLi:=hid (fun W g cap RR B0 (hP:PrgAt arm room croom (K+1) W p q RR t) (hH:HeapAt W hb p) (h1:RR hb) (h2:Row5 W B0 g cap (rootN (firstOf tr) (flat tr).length ws))=>list_lay (R:=RR) hb g cap B0 ws tr hP hH h1 h.lay h.busy h2 hn4 (by omega))
 have CPg:=hid (fun W (RR:Nat→Prop) KK (hP:PrgAt arm room croom KK W p q RR t)=>prg_pages hP)
 rw [hpb]at CPg
 have hk2:¬k<1:=by omega
 have HS:=hid h;have HW0:=hid hW0;have HFL:=hid (flat_len tr)
 obtain ⟨F,hF⟩:∃ F,F=(flat tr).length:=⟨_,rfl⟩
 rw [←hF]at CG CLi HFL ⊢
 clear h hpb hW0 hn4 hF
 unfold Pv2 at *
 go_enter Tryz.func25,Tryz.ntmps25
 go_upto_region 7 with (first
  | (go_at_call 34;rw [←HW0.out];refine CG.out.mono ?_;rintro e w1 ⟨g,cap,rfl,hr1,hg1,hP1,hok1⟩;have B1:=hid (show Below w1.heap.size w1 (w1.alloc (.cells #[.int .i64 1,.slice (some ⟨g,0,none⟩) 512 cap] 83)) from Below.alloc (Below.refl _ _) (Nat.le_refl _) _);have R1:=hid (hr1.keep B1.out);have P1:=hid (hP1.new B1.out (Nat.le_refl _) (by simp));have K1:=hid hok1;have H1:=hid (((HS.out.heap.keep B0.out).rok hok1 (Or.inl HS.out.mem)).keep B1.out);have D1:=hid (keep_old B1.out (fr_cell hok1 C0.out (fun e=>e.1 (Or.inr rfl))));clear hr1 hg1 hP1 hok1)
  | (go_at_call 32;refine (CLi.out _ g cap _ _ P1.out H1.out (Or.inl (Or.inl (Or.inl HS.out.mem))) R1.out).mono ?_;rintro e w2 ⟨ao,cp,rfl,hA⟩;have A2:=hid hA;have H2:=hid (H1.out.rok hA.k (Or.inl (Or.inl (Or.inl HS.out.mem))));have D2:=hid (fr_cell hA.k D1.out (fun e=>e.1 (Or.inl (Or.inl (Or.inr rfl)))));clear hA))
 have hs2:S7 w.heap.size k hb p w2.drew:=⟨D2.out,H2.out.cell⟩
 refine wp_region_K (S:=S7 w.heap.size k hb p) (fun _=>false) (by kernel_rfl) hs2 (fun hHeld=>?_)
 refine gkt 0 ?_ (h:=by intro W hSw;obtain ⟨k0,k1⟩:=hSw;go_simp;first |done |with_reducible rfl)
 refine gkp 1 ?_ (v:=.bool false)
 refine gkp 2 ?_
 refine gkt 3 ?_ (h:=by intro W hSw;obtain ⟨k0,k1⟩:=hSw;go_simp;first |done |with_reducible rfl)
 refine gkp 4 ?_
 refine gkp 5 ?_
 refine gkp 6 ?_
 refine gkt 7 ?_ (h:=by intro W hSw;obtain ⟨k0,k1⟩:=hSw;go_simp;first |done |with_reducible rfl)
 refine gk1 8 (fun K hK=>?_)
 go_simp
 go_at_call 10;refine (CPg.out w2.drew _ _ (A2.out.p.keep (Below.refl _ _).drew)).mono ?_;rintro e w3 ⟨rfl,hb3⟩;have B3:=hid (show Below w2.heap.size w2 w3 from undrew hb3);have hR:S7 w.heap.size k hb p w3:=hs2.keep hb3;clear hb3
 refine hK.out _ _ hR (fun hHeld=>?_)
 clear hK K
 (try simp only [Act.put,sA,sZ,sS])
 refine gkp 9 ?_ (v:=.bool true)
 refine gkp 10 ?_
 refine wpAnyK_done (by kernel_rfl) ?_ _
 clear hHeld hs2
 go_wp2
 go_ret
 have KK:=show Rok R w w2 from ((Rok.after B0.out K1.out (fun b hb=>Or.inl hb)).below B1.out).then A2.out.k (fun b hb=>Or.inl (Or.inl (Or.inl hb)))
 exact HS.out.same rfl (((A2.out.at_.less (fun b hb=>Or.inl (Or.inl (Or.inl hb)))).keep B3.out).up (by have:=HFL.out;omega)) (KK.below B3.out)
end
end
end Go.Proofs.YtgjgkpnjchflaaaGreatDoor
