/- How the list of free pages lies in the pages, and stays so; no statement of the seat is proved here. -/
import Derived.Test.YtgjgkpnjchflaaaGreatDoorS36
import Derived.Test.YtgjgkpnjchflaaaGreatDoorS37
import Derived.Test.YtgjgkpnjchflaaaGreatDoorS30
import Derived.Test.YtgjgkpnjchflaaaGreatDoorS23
set_option maxHeartbeats 16000000
set_option maxRecDepth 20000
namespace Go.Proofs.YtgjgkpnjchflaaaGreatDoor
section
open Go.RowKit Go.Maps
open Jrn (trunkN rootN nul)
def firstOf:List (Nat×List Nat)→Nat
 | []=>0
 | x::_=>x.1
structure Lay (now:List Pg) (tr:List (Nat×List Nat)) (ws:List Nat):Prop where
 root:now.getD 0 []=rootN (firstOf tr) (flat tr).length ws
 chain:Chain8 now (firstOf tr) tr
 nd:(flat tr).Nodup
 wl:ws.length=60
 ln:0<now.length
variable {now:List Pg}
theorem Chain8.first{f:Nat}{tr:List (Nat×List Nat)}(h:Chain8 now f tr):f=firstOf tr:=by
 cases tr with
 | nil=>exact h
 | cons x r=>exact h.1
theorem Chain8.range:∀ {f:Nat} {tr:List (Nat×List Nat)},Chain8 now f tr→∀ y∈flat tr,2≤y∧y≤now.length
 | _,[],_,y,hy=>by simp [flat]at hy
 | _,x::r,h,y,hy=>by
  obtain ⟨_,h1,h2,_,h4,nx,_,_,h7⟩:=h
  rw [flat_cons]at hy
  rcases List.mem_cons.1 hy with rfl |hy
  ·exact ⟨h1,h2⟩
  ·rcases List.mem_append.1 hy with hy |hy
   ·exact h4 y hy
   ·exact Chain8.range h7 y hy
variable {now':List Pg}
theorem Chain8.stay(hl:now.length≤now'.length):∀ {f:Nat} {tr:List (Nat×List Nat)},Chain8 now f tr→(∀ y∈flat tr,now'.getD (y - 1) []=now.getD (y - 1) [])→Chain8 now' f tr
 | _,[],h,_=>h
 | _,x::r,h,hy=>by
  obtain ⟨h0,h1,h2,h3,h4,nx,h5,h6,h7⟩:=h
  refine ⟨h0,h1,by omega,h3,fun y hy'=>⟨(h4 y hy').1,by have:=(h4 y hy').2;omega⟩,nx,h5,?_,?_⟩
  ·rw [hy x.1 (by rw [flat_cons];simp)];exact h6
  ·exact Chain8.stay hl h7 (fun y hm=>hy y (by rw [flat_cons];simp [hm]))
theorem Chain8.shrunk(he:now'.length=now.length){f:Nat}{tr:List (Nat×List Nat)}(h:Chain8 now f tr)(hy:∀ y∈flat tr,now'.getD (y - 1) []=now.getD (y - 1) []):Chain8 now' f tr:=h.stay (by omega) hy
variable {b:Pg} {i j:Nat} {l:List Pg}
theorem set_other(h:i≠j):(l.set i b).getD j []=l.getD j []:=by
 simp only [List.getD]
 rw [List.getElem?_set_ne h]
theorem set_same(h:i<l.length):(l.set i b).getD i []=b:=by
 simp [List.getD,h]
theorem nodup_le:∀ (n:Nat) (l:List Nat),l.Nodup→(∀ y∈l,1≤y∧y≤n)→l.length≤n
 | 0,l,_,h=>by
  cases l with
  | nil=>simp
  | cons y l=>have:=h y (by simp);omega
 | n+1,l,hd,h=>by
  by_cases hm:n+1∈l
  ·have h1:=nodup_le n (l.erase (n+1)) (hd.erase _) (fun y hy=>by
    have h2:=(hd.mem_erase_iff).1 hy
    have h3:=h y h2.2
    exact ⟨h3.1,by have:=h2.1;omega⟩)
   rw [List.length_erase_of_mem hm]at h1
   have:0<l.length:=List.length_pos_of_mem hm
   omega
  ·have h1:=nodup_le n l hd (fun y hy=>⟨(h y hy).1,by have h2:=(h y hy).2;rcases Nat.lt_or_ge y (n+1) with h3 |h3;omega;exact absurd (show n+1∈l by rw [show n+1=y by omega];exact hy) hm⟩)
   omega
variable {ws:List Nat}
theorem Lay.count{tr:List (Nat×List Nat)}(h:Lay now tr ws):(flat tr).length<now.length:=by
 have:=nodup_le now.length (1::flat tr) (List.nodup_cons.2 ⟨fun h1=>by have:=(h.chain.range 1 h1).1;omega,h.nd⟩) (fun y hy=>by rcases List.mem_cons.1 hy with rfl |hy;exact ⟨Nat.le_refl _,h.ln⟩;exact ⟨by have:=(h.chain.range y hy).1;omega,(h.chain.range y hy).2⟩)
 rw [List.length_cons]at this
 omega
theorem flat_len(tr:List (Nat×List Nat)):tr.length≤(flat tr).length:=by
 induction tr with
 | nil=>simp
 | cons x r ih=>rw [flat_cons];simp;omega
theorem Lay.grow(h:Lay now [] ws)(b:Pg):Lay (now++[b]) [] ws:=by
 refine ⟨?_,rfl,by simp [flat],h.wl,by simp⟩
 have:=h.root
 simp only [List.getD]at this ⊢
 rw [List.getElem?_append_left h.ln]
 exact this
variable {ls:List Nat} {nx:Nat}
theorem Lay.leaf{v:Nat}{r:List (Nat×List Nat)}(h:Lay now ((j+1,ls++[v])::r) ws)(hnx:nx<4294967296)(hch:Chain8 now nx r) :
  Lay (((now.set j (trunkN nx ls)).set 0 (rootN (j+1) (flat ((j+1,ls)::r)).length ws)).set (v - 1) nul) ((j+1,ls)::r) ws:=by
 have hnd:=h.nd
 have hrg:=h.chain.range
 obtain ⟨_,hj1,hj2,hj3,hj4,_⟩:=h.chain
 simp only at hj1 hj2 hj3 hj4
 have hv:=hj4 v (by simp)
 rw [flat_cons]at hnd hrg
 simp only at hnd hrg
 have hvj:v≠j+1:=by
  intro e
  rw [List.nodup_cons]at hnd
  exact hnd.1 (by rw [←e];simp)
 have hln:=h.ln
 have hnd2:((j+1)::(ls++flat r)).Nodup:=by
  refine hnd.sublist (List.Sublist.cons_cons _ (List.Sublist.append_right (List.sublist_append_left ls [v]) _))
 have hvr:∀ y∈flat r,y≠v∧y≠j+1:=fun y hy=>by
  rw [List.nodup_cons]at hnd
  refine ⟨fun e=>?_,fun e=>hnd.1 (by rw [←e];simp [hy])⟩
  have h2:=hnd.2
  rw [List.append_assoc,List.nodup_append]at h2
  have h3:=h2.2.1
  rw [List.singleton_append,List.nodup_cons]at h3
  exact h3.1 (e▸hy)
 refine ⟨?_,⟨rfl,hj1,by simp;omega,by simp at hj3 ⊢;omega,fun y hy=>by simpa using hj4 y (by simp [hy]),nx,hnx,?_,?_⟩,by rw [flat_cons];exact hnd2,h.wl,by simpa using hln⟩
 ·rw [set_other (by omega),set_same (by simpa using hln)];rfl
 ·show List.getD _ (j+1 - 1) []=_
  rw [Nat.add_sub_cancel,set_other (by omega),set_other (by omega),set_same (by omega)]
 ·refine hch.shrunk (by simp) (fun y hy=>?_)
  have h1:=hvr y hy
  have h2:=hch.range y hy
  rw [set_other (by omega),set_other (by omega),set_other (by omega)]
theorem Lay.bare{r:List (Nat×List Nat)}(h:Lay now ((j+1,[])::r) ws)(hch:Chain8 now nx r) :
  Lay (((now.set j (trunkN nx [])).set 0 (rootN nx (flat r).length ws)).set j nul) r ws:=by
 have hnd:=h.nd
 obtain ⟨_,hj1,hj2,_⟩:=h.chain
 simp only at hj1 hj2
 rw [flat_cons]at hnd
 simp only [List.nil_append,List.nodup_cons]at hnd
 have hln:=h.ln
 have hf:=hch.first
 refine ⟨?_,?_,hnd.2,h.wl,by simpa using hln⟩
 ·rw [set_other (by omega),set_same (by simpa using hln),hf]
 ·rw [←hf]
  refine hch.shrunk (by simp) (fun y hy=>?_)
  have h2:=hch.range y hy
  have h3:y≠j+1:=fun e=>hnd.1 (e▸hy)
  rw [set_other (by omega),set_other (by omega),set_other (by omega)]
variable {n:Nat}
theorem Lay.more{r:List (Nat×List Nat)}(h:Lay now ((j+1,ls)::r) ws)(hnx:nx<4294967296)(hch:Chain8 now nx r)(hl:ls.length<126)(hn1:2≤n)(hn:n≤now.length)(hnf:n∉flat ((j+1,ls)::r)) :
  Lay ((now.set j (trunkN nx (ls++[n]))).set 0 (rootN (j+1) ((flat ((j+1,ls)::r)).length+1) ws)) ((j+1,ls++[n])::r) ws:=by
 have hnd:=h.nd
 obtain ⟨_,hj1,hj2,hj3,hj4,_⟩:=h.chain
 simp only at hj1 hj2 hj3 hj4
 rw [flat_cons]at hnd hnf
 simp only at hnd hnf
 have hln:=h.ln
 rw [List.nodup_cons]at hnd
 have hvr:∀ y∈flat r,y≠j+1:=fun y hy e=>hnd.1 (by rw [←e];simp [hy])
 have hfl:(flat ((j+1,ls++[n])::r)).length=(flat ((j+1,ls)::r)).length+1:=by rw [flat_cons,flat_cons];simp;omega
 refine ⟨?_,⟨rfl,hj1,by simp;omega,by simp;omega,fun y hy=>?_,nx,hnx,?_,?_⟩,?_,h.wl,by simpa using hln⟩
 ·rw [set_same (by simpa using hln),hfl];rfl
 ·simp only [List.mem_append,List.mem_singleton]at hy
  rcases hy with hy |rfl
  ·simpa using hj4 y hy
  ·exact ⟨hn1,by simpa using hn⟩
 ·show List.getD _ (j+1 - 1) []=_
  rw [Nat.add_sub_cancel,set_other (by omega),set_same (by omega)]
 ·refine hch.shrunk (by simp) (fun y hy=>?_)
  have h1:=hvr y hy
  have h2:=hch.range y hy
  rw [set_other (by omega),set_other (by omega)]
 ·rw [flat_cons]
  have hp:((j+1)::((ls++[n])++flat r)).Perm (n::((j+1)::(ls++flat r))):=by
   rw [List.append_assoc]
   refine (List.Perm.cons _ (List.perm_middle)).trans (List.Perm.swap _ _ _)
  refine hp.nodup_iff.2 (List.nodup_cons.2 ⟨hnf,List.nodup_cons.2 hnd⟩)
theorem Lay.new{tr:List (Nat×List Nat)}(h:Lay now tr ws)(hf:firstOf tr<4294967296)(hn1:2≤n)(hn:n≤now.length)(hnf:n∉flat tr) :
  Lay ((now.set (n - 1) (trunkN (firstOf tr) [])).set 0 (rootN n ((flat tr).length+1) ws)) ((n,[])::tr) ws:=by
 have hln:=h.ln
 refine ⟨?_,⟨rfl,hn1,by simpa using hn,by simp,(fun y hy=>by cases hy),firstOf tr,hf,?_,?_⟩,?_,h.wl,by simpa using hln⟩
 ·rw [set_same (by simpa using hln),flat_cons];simp [firstOf]
 ·rw [set_other (by show 0≠n - 1;omega),set_same (by show n - 1<now.length;omega)]
 ·refine h.chain.shrunk (by simp) (fun y hy=>?_)
  have h2:=h.chain.range y hy
  have h3:y≠n:=fun e=>hnf (e▸hy)
  rw [set_other (by omega),set_other (by omega)]
 ·rw [flat_cons];exact List.nodup_cons.2 ⟨by simpa using hnf,by simpa using h.nd⟩
end
section
open Go.RowKit Go.Maps
open Dsk (gt hid undrew keep_old keep_cell lt_cell Rd)
open Cch (Fr wpAnyK wpAnyK_done wp_region_K)
open Jrn (Pv2 Row5 numAt RB fr_two trunkN rootN putN nul)
section
variable {arm:Prop} {room croom K:Nat} {p q:Nat} {R:Nat→Prop} {t:RS} {w:World}
theorem AO.at_{B:Nat}{W0 W:World}{v:Value}{l:List Nat}{Q:Nat→Prop}(h:AO arm room croom K p q Q t B W0 v l W):PrgAt arm room croom K W p q Q t:=h.p.less (fun _ hb=>Or.inl hb)
theorem Take_grow(hb:Nat)(ws:List Nat)(h:PrgAt arm room croom K w p q R t)(hh:HeapAt w hb p)(hR:R hb)(hx:t.now.getD 0 []=rootN 0 0 ws)(hbz:t.busy=true)(hn:0<t.now.length)(hn4:t.now.length<4000)(hK:K+2≤500000) :
  Calls Tryz.prog 15 #[.pointer (some ⟨hb,0,none⟩)] w fun e w'=>e=.returned (.tuple #[.int .i64 ((t.now.length+1:Nat):Int),.int .i64 0])∧PrgAt arm room croom (K+2) w' p q R t.grow∧Rok R w w':=by
 have hpb:t.pages=t.now:=RS.pages_busy hbz
 have CG:=hid (changing_yes hb h hh hbz (by rw [hpb];exact hn) (by omega))
 rw [hpb,hx]at CG
 have CLi:=hid (fun W g cap RR B0 (hP:PrgAt arm room croom (K+1) W p q RR t) (hH:HeapAt W hb p) (h1:RR hb) (h2:Row5 W B0 g cap (rootN 0 0 ws))=>list_any (R:=RR) hb g cap 0 0 B0 ws [] hP hH h1 h2 (by omega) (by omega) rfl rfl (by rw [hpb];exact hn) (by rw [hpb];omega) (by omega) (by simp;omega))
 have CW:=hid (fun W RR (hP:PrgAt arm room croom (K+1) W p q RR t)=>prg_grow_yes (R:=RR) hP hbz hn4 (by omega))
 have HH:=hid hh;have HR:=hid hR;have H:=hid h
 clear h hh hR hx hpb
 unfold Pv2 at *
 go_enter Tryz.func15,Tryz.ntmps15
 go_wp2_with (first
  | (go_at_call 34;refine CG.out.mono ?_;rintro e w1 ⟨g,cap,rfl,hr1,hg1,hP1,hok1⟩;have B1:=hid (show Below w1.heap.size w1 (w1.alloc (.cells #[.int .i64 1,.slice (some ⟨g,0,none⟩) 512 cap] 83)) from Below.alloc (Below.refl _ _) (Nat.le_refl _) _);have R1:=hid (hr1.keep B1.out);have P1:=hid (hP1.new B1.out (Nat.le_refl _) (by simp));have K1:=hid hok1;have H1:=hid ((HH.out.rok hok1 HR.out).keep B1.out);clear hr1 hg1 hP1 hok1)
  | (go_at_call 32;refine (CLi.out _ g cap _ _ P1.out H1.out (Or.inl (Or.inl HR.out)) R1.out).mono ?_;rintro e w2 ⟨ao,cp,rfl,hA⟩;have A2:=hid hA;have H2:=hid (H1.out.rok hA.k (Or.inl (Or.inl HR.out)));have c2:=H2.out.cell;clear hA)
  | (go_at_call 35;refine (CW.out w2 _ A2.out.at_).mono ?_;rintro e w3 ⟨rfl,hP3,hok3⟩;have P3:=hid hP3;have K3:=hid hok3;clear hP3 hok3))
 go_ret2
 refine ⟨rfl,P3.out.less (fun b hb=>Or.inl (Or.inl hb)),?_⟩
 exact ((K1.out.below B1.out).then A2.out.k (fun b hb=>Or.inl (Or.inl hb))).then K3.out (fun b hb=>Or.inl (Or.inl hb))
theorem Take_one(hb j:Nat)(ws:List Nat)(h:PrgAt arm room croom K w p q R t)(hh:HeapAt w hb p)(hR:R hb)(hRl:∀ b,R b→b<w.heap.size)(hx:t.now.getD 0 []=rootN (j+1) 1 ws)(hy:t.now.getD j []=trunkN 0 [])(hbz:t.busy=true)(hj1:1≤j)(hn:j<t.now.length)(hn4:t.now.length≤4000)(hK:K+6≤500000) :
  Calls Tryz.prog 15 #[.pointer (some ⟨hb,0,none⟩)] w fun e w'=>e=.returned (.tuple #[.int .i64 ((j+1:Nat):Int),.int .i64 0])∧PrgAt arm room croom (K+6) w' p q R (((t.put j (trunkN 0 [])).put 0 (rootN 0 0 ws)).put j nul)∧Rok R w w':=by
 have hpb:t.pages=t.now:=RS.pages_busy hbz
 have CG:=hid (changing_yes hb h hh hbz (by rw [hpb];omega) (by omega))
 rw [hpb,hx]at CG
 have CLi:=hid (fun W g cap RR B0 (hP:PrgAt arm room croom (K+1) W p q RR t) (hH:HeapAt W hb p) (h1:RR hb) (h2:Row5 W B0 g cap (rootN (j+1) 1 ws))=>list_any (R:=RR) hb g cap (j+1) 1 B0 ws [(j+1,[])] hP hH h1 h2 (by omega) (by omega) ⟨rfl,by show 2≤j+1;omega,by rw [hpb];show j+1≤_;omega,by show 0≤126;omega,(fun y hy=>by cases hy),0,by omega,by rw [hpb];exact hy,rfl⟩ rfl (by rw [hpb];simp;omega) (by rw [hpb];exact hn4) (by omega) (by simp;omega))
 have CTk:=hid (fun W g cap (hP:PrgAt arm room croom (K+1+1) W p q (Plus R g) t) (hH:HeapAt W hb p) (h2:¬R g) (h3:Row5 W 0 g cap (rootN (j+1) 1 ws))=>take_bare (R:=R) hb g cap 0 j 0 ws hP hH hR h2 h3 (by omega) hbz hj1 hn (by omega) hy (by omega) (by omega))
 have HH:=hid hh;have HR:=hid hR;have H:=hid h;have HRL:=hid hRl
 clear h hh hR hx hy hpb hRl
 generalize ((j+1:Nat):Int)=z at *
 unfold Pv2 at *
 go_enter Tryz.func15,Tryz.ntmps15
 go_wp2_with (first
  | (go_at_call 34;refine CG.out.mono ?_;rintro e w1 ⟨g,cap,rfl,hr1,hg1,hP1,hok1⟩;have B1:=hid (show Below w1.heap.size w1 (w1.alloc (.cells #[.int .i64 1,.slice (some ⟨g,0,none⟩) 512 cap] 83)) from Below.alloc (Below.refl _ _) (Nat.le_refl _) _);have R1:=hid (hr1.keep B1.out);have X1:=hid (RB.new 83 w1 1 (some ⟨g,0,none⟩) 512 cap);have P1:=hid (hP1.new B1.out (Nat.le_refl _) (by simp));have K1:=hid hok1;have H1:=hid ((HH.out.rok hok1 HR.out).keep B1.out);have G1:=hid hg1;clear hr1 hg1 hP1 hok1)
  | (go_at_call 32;refine (CLi.out _ g cap _ _ P1.out H1.out (Or.inl (Or.inl HR.out)) R1.out).mono ?_;rintro e w2 ⟨ao,cp,rfl,hA⟩;have A2:=hid hA;have H2:=hid (H1.out.rok hA.k (Or.inl (Or.inl HR.out)));obtain ⟨x0,x1,_,_⟩:=(show RB 83 w2 w1.heap.size 1 (some ⟨g,0,none⟩) 512 cap from (hA.k.at_ (Or.inr rfl) X1.out.lt).trans X1.out).cells;have R2:=hid (R1.out.fr hA.k (fun e=>e.1 (Or.inl (Or.inr rfl))));clear hA)
  | (go_at_call 36;refine (CTk.out w2 g cap (A2.out.at_.less (fun b hb=>Or.inl hb)) H2.out (fun hg=>by have h1:=HRL.out g hg;have h2:=G1.out;omega) (R2.out.base (Nat.zero_le _))).mono ?_;rintro e w3 ⟨rfl,hP3,hok3⟩;have P3:=hid hP3;have K3:=hid hok3;clear hP3 hok3))
 go_ret2
 refine ⟨rfl,P3.out,?_⟩
 exact ((K1.out.below B1.out).then A2.out.k (fun b hb=>Or.inl (Or.inl hb))).then K3.out (fun b hb=>hb)
theorem Give_first(hb n:Nat)(ws:List Nat)(h:PrgAt arm room croom K w p q R t)(hh:HeapAt w hb p)(hR:R hb)(hRl:∀ b,R b→b<w.heap.size)(hx:t.now.getD 0 []=rootN 0 0 ws)(hw:ws.length=60)(hbz:t.busy=true)(hn1:2≤n)(hn:n≤t.now.length)(hn4:t.now.length≤4000)(hK:K+3≤500000) :
  Calls Tryz.prog 16 #[.pointer (some ⟨hb,0,none⟩),.int .i64 (n:Int)] w fun e w'=>e=.returned (.int .i64 0)∧PrgAt arm room croom (K+3) w' p q R ((t.put (n - 1) (trunkN 0 [])).put 0 (rootN n 1 ws))∧Rok R w w':=by
 have hpb:t.pages=t.now:=RS.pages_busy hbz
 have CG:=hid (changing_yes hb h hh hbz (by rw [hpb];omega) (by omega))
 rw [hpb,hx]at CG
 have CLi:=hid (fun W g cap RR B0 (hP:PrgAt arm room croom (K+1) W p q RR t) (hH:HeapAt W hb p) (h1:RR hb) (h2:Row5 W B0 g cap (rootN 0 0 ws))=>list_any (R:=RR) hb g cap 0 0 B0 ws [] hP hH h1 h2 (by omega) (by omega) rfl rfl (by rw [hpb];show 0<_;omega) (by rw [hpb];exact hn4) (by omega) (by simp;omega))
 have CHs:=hid (fun W RR (hP:PrgAt arm room croom (K+1) W p q RR t) (hH:HeapAt W hb p)=>has_any8 (R:=RR) hb (n:Int) hP hH)
 rw [hpb,show (decide (1<(n:Int))&&decide ((n:Int)≤(t.now.length:Int)))=true by rw [decide_eq_true (by omega),decide_eq_true (by omega)];rfl]at CHs
 have CGv:=hid (fun W g cap (hP:PrgAt arm room croom (K+1) W p q (Plus R g) t) (hH:HeapAt W hb p) (h2:¬R g) (h3:Row5 W 0 g cap (rootN 0 0 ws))=>give_new (R:=R) hb g cap 0 n ws hP hH hR h2 h3 hw (by omega) hbz hn1 hn (by omega) (by omega))
 have HH:=hid hh;have HR:=hid hR;have H:=hid h;have HRL:=hid hRl
 clear h hh hR hx hpb hRl hw
 unfold Pv2 at *
 go_enter Tryz.func16,Tryz.ntmps16
 go_wp2_with (first
  | (go_at_call 34;refine CG.out.mono ?_;rintro e w1 ⟨g,cap,rfl,hr1,hg1,hP1,hok1⟩;have B1:=hid (show Below w1.heap.size w1 (w1.alloc (.cells #[.int .i64 1,.slice (some ⟨g,0,none⟩) 512 cap] 83)) from Below.alloc (Below.refl _ _) (Nat.le_refl _) _);have R1:=hid (hr1.keep B1.out);have X1:=hid (RB.new 83 w1 1 (some ⟨g,0,none⟩) 512 cap);have P1:=hid (hP1.new B1.out (Nat.le_refl _) (by simp));have K1:=hid hok1;have H1:=hid ((HH.out.rok hok1 HR.out).keep B1.out);have G1:=hid hg1;clear hr1 hg1 hP1 hok1)
  | (go_at_call 32;refine (CLi.out _ g cap _ _ P1.out H1.out (Or.inl (Or.inl HR.out)) R1.out).mono ?_;rintro e w2 ⟨ao,cp,rfl,hA⟩;have A2:=hid hA;have H2:=hid (H1.out.rok hA.k (Or.inl (Or.inl HR.out)));have X2:=hid (show RB 83 w2 w1.heap.size 1 (some ⟨g,0,none⟩) 512 cap from (hA.k.at_ (Or.inr rfl) X1.out.lt).trans X1.out);have R2:=hid (R1.out.fr hA.k (fun e=>e.1 (Or.inl (Or.inr rfl))));clear hA)
  | (go_at_call 37;refine (CHs.out w2 _ A2.out.at_ H2.out).mono ?_;rintro e w3 ⟨rfl,hb3⟩;have B3:=hid hb3;obtain ⟨x0,x1,_,_⟩:=(X2.out.keep hb3).cells;clear hb3)
  | (go_at_call 38;refine (CGv.out w3 g cap ((A2.out.at_.less (fun b hb=>Or.inl hb)).keep B3.out) (H2.out.keep B3.out) (fun hg=>by have h1:=HRL.out g hg;have h2:=G1.out;omega) ((R2.out.base (Nat.zero_le _)).keep B3.out)).mono ?_;rintro e w4 ⟨rfl,hP3,hok3⟩;have P3:=hid hP3;have K3:=hid hok3;clear hP3 hok3))
 go_ret
 refine ⟨rfl,P3.out,?_⟩
 exact (((K1.out.below B1.out).then A2.out.k (fun b hb=>Or.inl (Or.inl hb))).below B3.out).then K3.out (fun b hb=>hb)
end
end
section
open Go.RowKit Go.Maps
open Dsk (gt hid undrew keep_old keep_cell lt_cell Rd)
open Cch (Fr wpAnyK wpAnyK_done wp_region_K)
open Jrn (Pv2 Row5 numAt RB fr_two trunkN rootN putN nul)
section
variable {arm:Prop} {room croom K:Nat} {p q:Nat} {R:Nat→Prop} {t:RS} {w:World}
theorem list_lay(hb g cap B0:Nat)(ws:List Nat)(tr:List (Nat×List Nat))(h:PrgAt arm room croom K w p q R t)(hh:HeapAt w hb p)(hR:R hb)(hL:Lay t.now tr ws)(hbz:t.busy=true)(hr:Row5 w B0 g cap (rootN (firstOf tr) (flat tr).length ws))(hn4:t.now.length≤4000)(hK:K+4000≤800000) :
  Calls Tryz.prog 32 #[.pointer (some ⟨hb,0,none⟩),Pv2 1 g 0 cap] w fun e w'=>∃ ao cp,e=.returned (.tuple #[.slice ao (flat tr).length cp,.int .i64 0])∧AO arm room croom (K+tr.length) p q R t w.heap.size w (.slice ao (flat tr).length cp) (flat tr) w':=by
 have hpb:t.pages=t.now:=RS.pages_busy hbz
 have hc:=hL.count
 have hl:=flat_len tr
 have hf:firstOf tr≤4000:=by
  cases tr with
  | nil=>exact Nat.zero_le _
  | cons x r=>have:=(hL.chain.range x.1 (by rw [flat_cons];simp)).2;show x.1≤4000;omega
 exact list_any hb g cap (firstOf tr) (flat tr).length B0 ws tr h hh hR hr (by omega) (by omega) (by rw [hpb];exact hL.chain) rfl (by rw [hpb];omega) (by rw [hpb];exact hn4) (by omega) (by omega)
theorem Take_some(hb n:Nat)(t':RS)(ws:List Nat)(tr:List (Nat×List Nat))(h:PrgAt arm room croom K w p q R t)(hh:HeapAt w hb p)(hR:R hb)(hRl:∀ b,R b→b<w.heap.size)(hL:Lay t.now tr ws)(hbz:t.busy=true)(hne:tr≠[])(hn4:t.now.length≤4000)(hK:K+5000≤500000)
  (hT:∀ W g cap,PrgAt arm room croom (K+1+tr.length) W p q (Plus R g) t→HeapAt W hb p→¬R g→Row5 W 0 g cap (rootN (firstOf tr) (flat tr).length ws)→Calls Tryz.prog 36 #[.pointer (some ⟨hb,0,none⟩),Pv2 1 g 0 cap] W fun e w'=>e=.returned (.tuple #[.int .i64 (n:Int),.int .i64 0])∧PrgAt arm room croom (K+1+tr.length+4) w' p q R t'∧Rok R W w') :
  Calls Tryz.prog 15 #[.pointer (some ⟨hb,0,none⟩)] w fun e w'=>e=.returned (.tuple #[.int .i64 (n:Int),.int .i64 0])∧PrgAt arm room croom (K+1+tr.length+4) w' p q R t'∧Rok R w w':=by
 have hpb:t.pages=t.now:=RS.pages_busy hbz
 have CG:=hid (changing_yes hb h hh hbz (by rw [hpb];exact hL.ln) (by omega))
 rw [hpb,hL.root]at CG
 have CLi:=hid (fun W g cap RR B0 (hP:PrgAt arm room croom (K+1) W p q RR t) (hH:HeapAt W hb p) (h1:RR hb) (h2:Row5 W B0 g cap (rootN (firstOf tr) (flat tr).length ws))=>list_lay (R:=RR) hb g cap B0 ws tr hP hH h1 hL hbz h2 hn4 (by omega))
 have hl0:¬(((flat tr).length:Int)=0):=by
  have:=flat_len tr
  have:0<tr.length:=List.length_pos_iff.2 hne
  omega
 have HH:=hid hh;have HR:=hid hR;have HRL:=hid hRl;have HT:=hid hT
 clear h hh hR hRl hL hT hpb
 generalize (flat tr).length=LL at *
 unfold Pv2 at *
 go_enter Tryz.func15,Tryz.ntmps15
 go_wp2_with (first
  | (go_at_call 34;refine CG.out.mono ?_;rintro e w1 ⟨g,cap,rfl,hr1,hg1,hP1,hok1⟩;have B1:=hid (show Below w1.heap.size w1 (w1.alloc (.cells #[.int .i64 1,.slice (some ⟨g,0,none⟩) 512 cap] 83)) from Below.alloc (Below.refl _ _) (Nat.le_refl _) _);have R1:=hid (hr1.keep B1.out);have X1:=hid (RB.new 83 w1 1 (some ⟨g,0,none⟩) 512 cap);have P1:=hid (hP1.new B1.out (Nat.le_refl _) (by simp));have K1:=hid hok1;have H1:=hid ((HH.out.rok hok1 HR.out).keep B1.out);have G1:=hid hg1;clear hr1 hg1 hP1 hok1)
  | (go_at_call 32;refine (CLi.out _ g cap _ _ P1.out H1.out (Or.inl (Or.inl HR.out)) R1.out).mono ?_;rintro e w2 ⟨ao,cp,rfl,hA⟩;have A2:=hid hA;have H2:=hid (H1.out.rok hA.k (Or.inl (Or.inl HR.out)));obtain ⟨x0,x1,_,_⟩:=(show RB 83 w2 w1.heap.size 1 (some ⟨g,0,none⟩) 512 cap from (hA.k.at_ (Or.inr rfl) X1.out.lt).trans X1.out).cells;have R2:=hid (R1.out.fr hA.k (fun e=>e.1 (Or.inl (Or.inr rfl))));clear hA)
  | (go_at_call 36;refine (HT.out w2 g cap (A2.out.at_.less (fun b hb=>Or.inl hb)) H2.out (fun hg=>by have h1:=HRL.out g hg;have h2:=G1.out;omega) (R2.out.base (Nat.zero_le _))).mono ?_;rintro e w3 ⟨rfl,hP3,hok3⟩;have P3:=hid hP3;have K3:=hid hok3;clear hP3 hok3))
 go_ret2
 refine ⟨rfl,P3.out,?_⟩
 exact ((K1.out.below B1.out).then A2.out.k (fun b hb=>Or.inl (Or.inl hb))).then K3.out (fun b hb=>hb)
theorem Give_some(hb n:Nat)(t':RS)(ws:List Nat)(tr:List (Nat×List Nat))(h:PrgAt arm room croom K w p q R t)(hh:HeapAt w hb p)(hR:R hb)(hRl:∀ b,R b→b<w.heap.size)(hL:Lay t.now tr ws)(hbz:t.busy=true)(hn1:2≤n)(hn:n≤t.now.length)(hn4:t.now.length≤4000)(hK:K+5000≤500000)
  (hT:∀ W g cap,PrgAt arm room croom (K+1+tr.length) W p q (Plus R g) t→HeapAt W hb p→¬R g→Row5 W 0 g cap (rootN (firstOf tr) (flat tr).length ws)→Calls Tryz.prog 38 #[.pointer (some ⟨hb,0,none⟩),Pv2 1 g 0 cap,.int .i64 (n:Int)] W fun e w'=>e=.returned (.int .i64 0)∧PrgAt arm room croom (K+1+tr.length+3) w' p q R t'∧Rok R W w') :
  Calls Tryz.prog 16 #[.pointer (some ⟨hb,0,none⟩),.int .i64 (n:Int)] w fun e w'=>e=.returned (.int .i64 0)∧PrgAt arm room croom (K+1+tr.length+3) w' p q R t'∧Rok R w w':=by
 have hpb:t.pages=t.now:=RS.pages_busy hbz
 have CG:=hid (changing_yes hb h hh hbz (by rw [hpb];exact hL.ln) (by omega))
 rw [hpb,hL.root]at CG
 have CLi:=hid (fun W g cap RR B0 (hP:PrgAt arm room croom (K+1) W p q RR t) (hH:HeapAt W hb p) (h1:RR hb) (h2:Row5 W B0 g cap (rootN (firstOf tr) (flat tr).length ws))=>list_lay (R:=RR) hb g cap B0 ws tr hP hH h1 hL hbz h2 hn4 (by omega))
 have CHs:=hid (fun W RR KK (hP:PrgAt arm room croom KK W p q RR t) (hH:HeapAt W hb p)=>has_any8 (R:=RR) hb (n:Int) hP hH)
 rw [hpb,show (decide (1<(n:Int))&&decide ((n:Int)≤(t.now.length:Int)))=true by rw [decide_eq_true (by omega),decide_eq_true (by omega)];rfl]at CHs
 have HH:=hid hh;have HR:=hid hR;have HRL:=hid hRl;have HT:=hid hT
 clear h hh hR hRl hL hT hpb
 generalize (flat tr).length=LL at *
 unfold Pv2 at *
 go_enter Tryz.func16,Tryz.ntmps16
 go_wp2_with (first
  | (go_at_call 34;refine CG.out.mono ?_;rintro e w1 ⟨g,cap,rfl,hr1,hg1,hP1,hok1⟩;have B1:=hid (show Below w1.heap.size w1 (w1.alloc (.cells #[.int .i64 1,.slice (some ⟨g,0,none⟩) 512 cap] 83)) from Below.alloc (Below.refl _ _) (Nat.le_refl _) _);have R1:=hid (hr1.keep B1.out);have X1:=hid (RB.new 83 w1 1 (some ⟨g,0,none⟩) 512 cap);have P1:=hid (hP1.new B1.out (Nat.le_refl _) (by simp));have K1:=hid hok1;have H1:=hid ((HH.out.rok hok1 HR.out).keep B1.out);have G1:=hid hg1;clear hr1 hg1 hP1 hok1)
  | (go_at_call 32;refine (CLi.out _ g cap _ _ P1.out H1.out (Or.inl (Or.inl HR.out)) R1.out).mono ?_;rintro e w2 ⟨ao,cp,rfl,hA⟩;have A2:=hid hA;have H2:=hid (H1.out.rok hA.k (Or.inl (Or.inl HR.out)));have X2:=hid (show RB 83 w2 w1.heap.size 1 (some ⟨g,0,none⟩) 512 cap from (hA.k.at_ (Or.inr rfl) X1.out.lt).trans X1.out);have R2:=hid (R1.out.fr hA.k (fun e=>e.1 (Or.inl (Or.inr rfl))));clear hA)
  | (go_at_call 37;refine (CHs.out w2 _ _ A2.out.at_ H2.out).mono ?_;rintro e w3 ⟨rfl,hb3⟩;have B3:=hid hb3;obtain ⟨x0,x1,_,_⟩:=(X2.out.keep hb3).cells;clear hb3)
  | (go_at_call 38;refine (HT.out w3 g cap ((A2.out.at_.less (fun b hb=>Or.inl hb)).keep B3.out) (H2.out.keep B3.out) (fun hg=>by have h1:=HRL.out g hg;have h2:=G1.out;omega) ((R2.out.base (Nat.zero_le _)).keep B3.out)).mono ?_;rintro e w4 ⟨rfl,hP3,hok3⟩;have P3:=hid hP3;have K3:=hid hok3;clear hP3 hok3))
 go_ret
 refine ⟨rfl,P3.out,?_⟩
 exact (((K1.out.below B1.out).then A2.out.k (fun b hb=>Or.inl (Or.inl hb))).below B3.out).then K3.out (fun b hb=>hb)
end
end
section
open Go.RowKit Go.Maps
open Dsk (gt hid undrew keep_old keep_cell lt_cell Rd)
open Cch (Fr)
open Jrn (Pv2 Row5 numAt RB fr_two trunkN rootN putN nul)
section
variable {arm:Prop} {room croom K:Nat} {p q:Nat} {R:Nat→Prop} {t:RS} {w:World}
structure HeapS (arm:Prop) (room croom K:Nat) (w:World) (hb p q:Nat) (R:Nat→Prop) (t:RS) (tr:List (Nat×List Nat)) (ws:List Nat):Prop where
 prg:PrgAt arm room croom K w p q R t
 heap:HeapAt w hb p
 mem:R hb
 lay:Lay t.now tr ws
 busy:t.busy=true
 sur:t.sure = []∧t.n=0
def HTo(arm:Prop)(room croom K:Nat)(w:World)(hb p q:Nat)(R:Nat→Prop)(N:Nat)(tr:List (Nat×List Nat))(ws:List Nat)(v:Value)(e:Ending)(w':World):Prop:=e=.returned v∧∃ t',HeapS arm room croom K w' hb p q R t' tr ws∧t'.now.length=N∧Rok R w w'
variable {ws:List Nat} {hb:Nat}
theorem HeapS.to{w':World}{K' N:Nat}{tr tr':List (Nat×List Nat)}{ws':List Nat}{t':RS}{v:Value}{e:Ending}(h:HeapS arm room croom K w hb p q R t tr ws)(he:e=.returned v)(hP:PrgAt arm room croom K' w' p q R t')(hk:Rok R w w')(hL:Lay t'.now tr' ws')(hb':t'.busy=true)(hsur:t'.sure = []∧t'.n=0)(hN:t'.now.length=N):HTo arm room croom K' w hb p q R N tr' ws' v e w':=
 ⟨he,t',⟨hP,h.heap.rok hk h.mem,h.mem,hL,hb',hsur⟩,hN,hk⟩
theorem take_none(h:HeapS arm room croom K w hb p q R t [] ws)(hn4:t.now.length<4000)(hK:K+5000≤500000) :
  Calls Tryz.prog 15 #[.pointer (some ⟨hb,0,none⟩)] w (HTo arm room croom (K+2) w hb p q R (t.now.length+1) [] ws (.tuple #[.int .i64 ((t.now.length+1:Nat):Int),.int .i64 0])):=by
 refine (Take_grow hb ws h.prg h.heap h.mem h.lay.root h.busy h.lay.ln hn4 (by omega)).mono ?_
 rintro e w' ⟨he,hP,hk⟩
 exact h.to he hP hk (h.lay.grow zeros) h.busy h.sur (by show (t.now++[zeros]).length=_;simp)
variable {ls:List Nat} {j:Nat}
theorem take_leaves{v:Nat}{r:List (Nat×List Nat)}(h:HeapS arm room croom K w hb p q R t ((j+1,ls++[v])::r) ws)(hn4:t.now.length≤4000)(hK:K+5000≤500000) :
  Calls Tryz.prog 15 #[.pointer (some ⟨hb,0,none⟩)] w (HTo arm room croom (K+6+r.length) w hb p q R t.now.length ((j+1,ls)::r) ws (.tuple #[.int .i64 (v:Int),.int .i64 0])):=by
 have hL:=h.lay
 have hcnt:=hL.count
 obtain ⟨_,h1,h2,h3,h4,nx,h5,h6,h7⟩:=hL.chain
 simp only [Nat.add_sub_cancel]at h1 h2 h3 h4 h6
 have hv:=h4 v (by simp)
 have hfl:(flat ((j+1,ls++[v])::r)).length=(flat ((j+1,ls)::r)).length+1:=by rw [flat_cons,flat_cons];simp;omega
 have hrl:=flat_len r
 have hc2:(flat ((j+1,ls)::r)).length=1+ls.length+(flat r).length:=by rw [flat_cons];simp;omega
 refine (Take_some hb v (((t.put j (trunkN nx ls)).put 0 (rootN (j+1) (flat ((j+1,ls)::r)).length ws)).put (v - 1) nul) ws _ h.prg h.heap h.mem (fun b hb=>h.prg.lt hb) hL h.busy (by simp) hn4 hK (fun W g cap hP hH hg hr=>?_)).mono ?_
 ·rw [hfl]at hr
  exact take_leaf hb g cap _ j nx v ls ws hP hH h.mem hg hr (by omega) h.busy (by omega) (by omega) (by omega) h6 (by simp at h3;omega) hv.1 hv.2 (by omega) h5 (by simp;omega)
 ·rintro e w' ⟨he,hP,hk⟩
  refine h.to he (hP.up (by simp;omega)) hk (hL.leaf h5 h7) h.busy h.sur ?_
  show (((t.now.set j _).set 0 _).set (v - 1) _).length=_
  simp
theorem take_trunk{r:List (Nat×List Nat)}(h:HeapS arm room croom K w hb p q R t ((j+1,[])::r) ws)(hn4:t.now.length≤4000)(hK:K+5000≤500000) :
  Calls Tryz.prog 15 #[.pointer (some ⟨hb,0,none⟩)] w (HTo arm room croom (K+6+r.length) w hb p q R t.now.length r ws (.tuple #[.int .i64 ((j+1:Nat):Int),.int .i64 0])):=by
 have hL:=h.lay
 have hcnt:=hL.count
 obtain ⟨_,h1,h2,h3,h4,nx,h5,h6,h7⟩:=hL.chain
 simp only [Nat.add_sub_cancel]at h1 h2 h6
 have hfl:(flat ((j+1,[])::r)).length=(flat r).length+1:=by rw [flat_cons];simp
 have hrl:=flat_len r
 refine (Take_some hb (j+1) (((t.put j (trunkN nx [])).put 0 (rootN nx (flat r).length ws)).put j nul) ws _ h.prg h.heap h.mem (fun b hb=>h.prg.lt hb) hL h.busy (by simp) hn4 hK (fun W g cap hP hH hg hr=>?_)).mono ?_
 ·rw [hfl]at hr
  exact take_bare hb g cap _ j nx ws hP hH h.mem hg hr (by omega) h.busy (by omega) (by omega) (by omega) h6 h5 (by simp;omega)
 ·rintro e w' ⟨he,hP,hk⟩
  refine h.to he (hP.up (by simp;omega)) hk (hL.bare h7) h.busy h.sur ?_
  show (((t.now.set j _).set 0 _).set j _).length=_
  simp
theorem give_leaf{n:Nat}{r:List (Nat×List Nat)}(h:HeapS arm room croom K w hb p q R t ((j+1,ls)::r) ws)(hl:ls.length<126)(hn1:2≤n)(hn:n≤t.now.length)(hnf:n∉flat ((j+1,ls)::r))(hn4:t.now.length≤4000)(hK:K+5000≤500000) :
  Calls Tryz.prog 16 #[.pointer (some ⟨hb,0,none⟩),.int .i64 (n:Int)] w (HTo arm room croom (K+6+r.length) w hb p q R t.now.length ((j+1,ls++[n])::r) ws (.int .i64 0)):=by
 have hL:=h.lay
 have hcnt:=hL.count
 obtain ⟨_,h1,h2,h3,h4,nx,h5,h6,h7⟩:=hL.chain
 simp only [Nat.add_sub_cancel]at h1 h2 h6
 have hrl:=flat_len r
 have hc2:(flat ((j+1,ls)::r)).length=1+ls.length+(flat r).length:=by rw [flat_cons];simp;omega
 refine (Give_some hb n ((t.put j (trunkN nx (ls++[n]))).put 0 (rootN (j+1) ((flat ((j+1,ls)::r)).length+1) ws)) ws _ h.prg h.heap h.mem (fun b hb=>h.prg.lt hb) hL h.busy hn1 hn hn4 hK (fun W g cap hP hH hg hr=>?_)).mono ?_
 ·exact give_more hb g cap _ n j nx ls ws hP hH h.mem hg hr (by omega) h.busy hn1 hn (by omega) (by omega) (by omega) (by omega) h6 hl (by simp;omega)
 ·rintro e w' ⟨he,hP,hk⟩
  refine h.to he (hP.up (by simp;omega)) hk (hL.more h5 h7 hl hn1 hn hnf) h.busy h.sur ?_
  show ((t.now.set j _).set 0 _).length=_
  simp
end
end
section
open Go.RowKit Go.Maps
open Dsk (gt hid undrew keep_old keep_cell lt_cell Rd)
open Cch (Fr)
open Jrn (Pv2 Row5 numAt RB fr_two trunkN rootN putN nul)
section
variable {arm:Prop} {room croom K:Nat} {p q:Nat} {R:Nat→Prop} {t:RS} {w:World}
variable {ws:List Nat} {hb n:Nat}
theorem give_none(h:HeapS arm room croom K w hb p q R t [] ws)(hn1:2≤n)(hn:n≤t.now.length)(hn4:t.now.length≤4000)(hK:K+5000≤500000) :
  Calls Tryz.prog 16 #[.pointer (some ⟨hb,0,none⟩),.int .i64 (n:Int)] w (HTo arm room croom (K+6) w hb p q R t.now.length [(n,[])] ws (.int .i64 0)):=by
 have hL:=h.lay
 refine (Give_some hb n ((t.put (n - 1) (trunkN 0 [])).put 0 (rootN n 1 ws)) ws _ h.prg h.heap h.mem (fun b hb=>h.prg.lt hb) hL h.busy hn1 hn hn4 hK (fun W g cap hP hH hg hr=>?_)).mono ?_
 ·refine (give_new hb g cap 0 n ws hP hH h.mem hg hr hL.wl (by omega) h.busy hn1 hn (by omega) (by simp;omega)).mono ?_
  rintro e w' ⟨he,hP',hk⟩
  exact ⟨he,hP'.up (by omega),hk⟩
 ·rintro e w' ⟨he,hP,hk⟩
  refine h.to he (hP.up (by simp)) hk (hL.new (by simp [firstOf]) hn1 hn (by simp [flat])) h.busy h.sur ?_
  show ((t.now.set (n - 1) _).set 0 _).length=_
  simp
theorem give_fresh{j:Nat}{ls:List Nat}{r:List (Nat×List Nat)}(h:HeapS arm room croom K w hb p q R t ((j+1,ls)::r) ws)(hl:ls.length=126)(hn1:2≤n)(hn:n≤t.now.length)(hnf:n∉flat ((j+1,ls)::r))(hn4:t.now.length≤4000)(hK:K+5000≤500000) :
  Calls Tryz.prog 16 #[.pointer (some ⟨hb,0,none⟩),.int .i64 (n:Int)] w (HTo arm room croom (K+6+r.length) w hb p q R t.now.length ((n,[])::(j+1,ls)::r) ws (.int .i64 0)):=by
 have hL:=h.lay
 have hcnt:=hL.count
 obtain ⟨_,h1,h2,h3,h4,nx,h5,h6,h7⟩:=hL.chain
 simp only [Nat.add_sub_cancel]at h1 h2 h6
 have hrl:=flat_len r
 have hc2:(flat ((j+1,ls)::r)).length=1+ls.length+(flat r).length:=by rw [flat_cons];simp;omega
 refine (Give_some hb n ((t.put (n - 1) (trunkN (j+1) [])).put 0 (rootN n ((flat ((j+1,ls)::r)).length+1) ws)) ws _ h.prg h.heap h.mem (fun b hb=>h.prg.lt hb) hL h.busy hn1 hn hn4 hK (fun W g cap hP hH hg hr=>?_)).mono ?_
 ·exact give_full hb g cap _ n j nx ls ws hP hH h.mem hg hr (by omega) h.busy hn1 hn (by omega) (by omega) (by omega) (by omega) h6 hl (by simp;omega)
 ·rintro e w' ⟨he,hP,hk⟩
  refine h.to he (hP.up (by simp;omega)) hk (hL.new (by simp only [firstOf];omega) hn1 hn hnf) h.busy h.sur ?_
  show ((t.now.set (n - 1) _).set 0 _).length=_
  simp
theorem all_yes{tr:List (Nat×List Nat)}(h:HeapS arm room croom K w hb p q R t tr ws)(hn4:t.now.length≤4000)(hK:K+5000≤500000) :
  Calls Tryz.prog 11 #[.pointer (some ⟨hb,0,none⟩)] w fun e w'=>∃ ao cp,e=.returned (.tuple #[.slice ao (flat tr).length cp,.int .i64 0])∧w'.ownsRow w.heap.size 3 1 (.slice ao (flat tr).length cp) (flat tr).length (zI (flat tr))∧PrgAt arm room croom (K+1+tr.length) w' p q (Own2 R (.slice ao (flat tr).length cp)) t∧Rok R w w':=by
 have hpb:t.pages=t.now:=RS.pages_busy h.busy
 have CG:=hid (root_yes hb h.prg h.heap (by rw [hpb];exact h.lay.ln) (by omega))
 rw [hpb,h.lay.root]at CG
 have CLi:=hid (fun W g cap RR B0 (hP:PrgAt arm room croom (K+1) W p q RR t) (hH:HeapAt W hb p) (h1:RR hb) (h2:Row5 W B0 g cap (rootN (firstOf tr) (flat tr).length ws))=>list_lay (R:=RR) hb g cap B0 ws tr hP hH h1 h.lay h.busy h2 hn4 (by omega))
 have HH:=hid h.heap;have HR:=hid h.mem;have HS:=hid h
 clear h hpb
 generalize hLL:(flat tr).length=LL at *
 have HLL:=hid hLL
 clear hLL
 unfold Pv2 at *
 go_enter Tryz.func11,Tryz.ntmps11
 go_wp2_with (first
  | (go_at_call 31;refine CG.out.mono ?_;rintro e w1 ⟨g,cap,rfl,hr1,hg1,hP1,hok1⟩;have B1:=hid (show Below w1.heap.size w1 (w1.alloc (.cells #[.int .i64 1,.slice (some ⟨g,0,none⟩) 512 cap] 83)) from Below.alloc (Below.refl _ _) (Nat.le_refl _) _);have R1:=hid (hr1.keep B1.out);have P1:=hid (hP1.new B1.out (Nat.le_refl _) (by simp));have K1:=hid hok1;have H1:=hid ((HH.out.rok hok1 HR.out).keep B1.out);clear hr1 hg1 hP1 hok1)
  | (go_at_call 32;refine (CLi.out _ g cap _ _ P1.out H1.out (Or.inl (Or.inl HR.out)) R1.out).mono ?_;rintro e w2 ⟨ao,cp,rfl,hA⟩;have A2:=hid hA;clear hA))
 go_ret2
 refine ⟨ao,cp,rfl,?_,A2.out.p.less (fun b hb=>by rcases hb with hb |hb;exact Or.inl (Or.inl (Or.inl hb));exact Or.inr hb),(K1.out.below B1.out).then A2.out.k (fun b hb=>Or.inl (Or.inl hb))⟩
 have:=A2.out.o
 rw [HLL.out]at this
 exact own_dn this (by have h1:=K1.out.size;have h2:=B1.out.size;omega)
end
end
section
open Go.RowKit Go.Maps
open Dsk (gt hid undrew keep_old keep_cell lt_cell Rd)
open Cch (Fr)
open Jrn (Pv2 Row5 numAt RB fr_two trunkN rootN putN nul rowV rowC)
section
variable {arm:Prop} {room croom K:Nat} {p q:Nat} {R:Nat→Prop} {t:RS} {w:World}
variable {ws:List Nat} {hb i:Nat}
theorem word_yes{tr:List (Nat×List Nat)}(h:HeapS arm room croom K w hb p q R t tr ws)(hi:i<60)(hv:ws.getD i 0<18446744073709551616)(hK:K+5000≤500000) :
  Calls Tryz.prog 24 #[.pointer (some ⟨hb,0,none⟩),.int .i64 (i:Int)] w fun e w'=>e=.returned (.tuple #[.int .i64 (wrap64 (ws.getD i 0:Int)),.int .i64 0])∧PrgAt arm room croom (K+1) w' p q R t∧Rok R w w':=by
 have hpb:t.pages=t.now:=RS.pages_busy h.busy
 have CG:=hid (root_yes hb h.prg h.heap (by rw [hpb];exact h.lay.ln) (by omega))
 rw [hpb,h.lay.root]at CG
 have CWd:=hid (fun W g cap=>Jrn.words_any 1 g cap W)
 have CR:=hid (fun W g cap B (hW:Row5 W B g cap (rootN (firstOf tr) (flat tr).length ws))=>Jrn.rget_yes 1 g cap _ 16 8 60 i W hW.rd (Jrn.rootN_bytes _ _ _) (by omega) (by omega) hi (by omega))
 rw [Jrn.root_word _ _ ws i (by rw [h.lay.wl];exact hi) hv]at CR
 clear h hpb hv
 generalize ws.getD i 0=x at *
 generalize (flat tr).length=LL at *
 unfold Pv2 at *
 unfold rowV rowC at *
 go_enter Tryz.func24,Tryz.ntmps24
 go_wp2_with (first
  | (go_at_call 31;refine CG.out.mono ?_;rintro e w1 ⟨g,cap,rfl,hr1,hg1,hP1,hok1⟩;have B1:=hid (show Below w1.heap.size w1 (w1.alloc (.cells #[.int .i64 1,.slice (some ⟨g,0,none⟩) 512 cap] 83)) from Below.alloc (Below.refl _ _) (Nat.le_refl _) _);have R1:=hid (hr1.keep B1.out);have P1:=hid (hP1.keep B1.out);have K1:=hid hok1;clear hr1 hg1 hP1 hok1)
  | (go_at_call 48;refine (CWd.out _ g cap).mono ?_;rintro e w2 ⟨rfl,hb2⟩;have R2:=hid (R1.out.keep hb2);have B2:=hid hb2;clear hb2)
  | (go_at_call 56;refine (CR.out w2 g cap _ R2.out).mono ?_;rintro e w3 ⟨rfl,hb3⟩;have B3:=hid (gt B2.out hb3);clear hb3))
 go_ret2
 exact ⟨rfl,(P1.out.keep B3.out).less (fun b hb=>Or.inl hb),(K1.out.below B1.out).below B3.out⟩
theorem Lay.word{now:List Pg}{tr:List (Nat×List Nat)}(h:Lay now tr ws)(i x:Nat):Lay (now.set 0 (rootN (firstOf tr) (flat tr).length (ws.set i x))) tr (ws.set i x):=by
 refine ⟨set_same h.ln,?_,h.nd,by simpa using h.wl,by simpa using h.ln⟩
 refine h.chain.shrunk (by simp) (fun y hy=>?_)
 have h2:=h.chain.range y hy
 rw [set_other (by omega)]
theorem set_yes{x:Nat}{n:Int}{tr:List (Nat×List Nat)}(h:HeapS arm room croom K w hb p q R t tr ws)(hi:i<60)(hn:IntKind.u64.wrap n=(x:Int))(hK:K+5000≤500000) :
  Calls Tryz.prog 21 #[.pointer (some ⟨hb,0,none⟩),.int .i64 (i:Int),.int .i64 n] w (HTo arm room croom (K+2) w hb p q R t.now.length tr (ws.set i x) (.int .i64 0)):=by
 have hpb:t.pages=t.now:=RS.pages_busy h.busy
 have CG:=hid (changing_yes hb h.prg h.heap h.busy (by rw [hpb];exact h.lay.ln) (by omega))
 rw [hpb,h.lay.root]at CG
 have CWd:=hid (fun W g cap=>Jrn.words_any 1 g cap W)
 have CR:=hid (fun W g cap B (hW:Row5 W B g cap (rootN (firstOf tr) (flat tr).length ws))=>Jrn.rset_yes 1 B g cap _ 16 8 60 i x n W hW (by omega) (by omega) hi (by omega) hn)
 rw [Jrn.root_set _ _ ws i x (by rw [h.lay.wl];exact hi)]at CR
 have HS:=hid h
 have HF:=hid (fun b (hb:R b)=>h.prg.lt hb)
 clear h hpb hn
 unfold Pv2 at *
 unfold rowV rowC at *
 go_enter Tryz.func21,Tryz.ntmps21
 go_wp2_with (first
  | (go_at_call 34;refine CG.out.mono ?_;rintro e w1 ⟨g,cap,rfl,hr1,hg1,hP1,hok1⟩;have B1:=hid (show Below w1.heap.size w1 (w1.alloc (.cells #[.int .i64 1,.slice (some ⟨g,0,none⟩) 512 cap] 83)) from Below.alloc (Below.refl _ _) (Nat.le_refl _) _);have R1:=hid (hr1.keep B1.out);have X1:=hid (RB.new 83 w1 1 (some ⟨g,0,none⟩) 512 cap);have P1:=hid (hP1.keep B1.out);have K1:=hid hok1;have G1:=hid hg1;have GL:=hid hr1.lt;have H1:=hid ((HS.out.heap.rok hok1 HS.out.mem).keep B1.out);clear hr1 hg1 hP1 hok1)
  | (go_at_call 48;refine (CWd.out _ g cap).mono ?_;rintro e w2 ⟨rfl,hb2⟩;have R2:=hid (R1.out.keep hb2);have B2:=hid hb2;have X2:=hid (X1.out.keep hb2);clear hb2)
  | (go_at_call 49;refine (CR.out w2 g cap _ R2.out).mono ?_;rintro e w3 ⟨rfl,hr3,hf3⟩;have R3:=hid hr3;have F3:=hid hf3;obtain ⟨x0,x1,x2,x3⟩:=(X2.out.fr hf3 (fun e=>by have:=GL.out;omega)).cells;clear hr3 hf3)
  | (go_at_call 46;obtain ⟨W4,hW4⟩:∃ W4,W4=w3.alloc (.cells #[.int .i64 1,.slice (some ⟨g,0,none⟩) 512 cap] 81):=⟨_,rfl⟩;rw [←hW4];have B4:=hid (show Below w3.heap.size w3 W4 by rw [hW4];exact Below.alloc (Below.refl _ _) (Nat.le_refl _) _);have Y4:=hid (show W4.heap[w3.heap.size]? = some (.cells #[.int .i64 1,.slice (some ⟨g,0,none⟩) 512 cap] 81 (0,0)) by rw [hW4];exact heap_alloc_new _ _);have F4:=hid (show Fr (fun b=>b=g) (w1.alloc (.cells #[.int .i64 1,.slice (some ⟨g,0,none⟩) 512 cap] 83)) W4 from ((Fr.of_below B2.out).trans F3.out (fun _ _ h=>h)).trans (Fr.of_below (S:=fun _=>False) B4.out) (fun _ _ h=>h.elim));have P4:=hid (P1.out.work (fr_imp F4.out (fun b hb=>Or.inr hb)));have hpg:Pgs W4 w3.heap.size [⟨1,g,cap,rootN (firstOf tr) (flat tr).length (ws.set i x)⟩]:=(fun k y hy=>by match k,hy with | 0,hy=>(simp at hy;subst hy;exact ⟨by simp [World.cell?,Y4.out],by simp [World.cell?,Y4.out],(R3.out.keep B4.out).rd⟩) | k+1,hy=>simp at hy);clear hW4;refine (hput_any hb w3.heap.size 1 [⟨1,g,cap,rootN (firstOf tr) (flat tr).length (ws.set i x)⟩] P4.out (H1.out.fr F4.out (fun e=>by have h1:=HF.out hb HS.out.mem;have h2:=G1.out;omega)) (Or.inl (Or.inl HS.out.mem)) hpg (Or.inr ⟨by have h1:=B2.out.size;have h2:=F3.out.size;omega,(Array.getElem?_eq_some_iff.1 Y4.out).1⟩) (by intro y hy;simp only [List.mem_cons,List.mem_nil_iff,or_false]at hy;subst hy;exact Or.inl (Or.inr rfl)) HS.out.busy (by intro y hy;simp only [List.mem_cons,List.mem_nil_iff,or_false]at hy;subst hy;exact ⟨Nat.le_refl _,HS.out.lay.ln⟩) (by intro y hy;simp only [List.mem_cons,List.mem_nil_iff,or_false]at hy;subst hy;exact Jrn.rootN_bytes _ _ _) (by show K+1+1≤500000;omega)).mono ?_;rintro e w5 ⟨rfl,hP5,hok5⟩;have P5:=hid hP5;have K5:=hid hok5;clear hP5 hok5 hpg))
 go_ret
 have hgl:∀ b,b=g→w.heap.size≤b:=fun b e=>by rw [e];exact G1.out
 have kk:Rok R w W4:=((K1.out.below B1.out)).mine F4.out hgl
 exact HS.out.to rfl (P5.out.less (fun b hb=>Or.inl (Or.inl hb))) (kk.then K5.out (fun b hb=>Or.inl (Or.inl hb))) (HS.out.lay.word i x) HS.out.busy HS.out.sur (by show (t.now.set 0 _).length=_;simp)
end
end
section
open Go.RowKit Go.Maps
open Dsk (gt hid undrew keep_old keep_cell lt_cell Rd DS FS Sec DiskP DFrame Grew From lenD readD newD known)
open Cch (CS CP Fr)
structure Clean (d:DS) (l:List Pg):Prop where
 f0:d.f0.now=secsOf l
 f1:d.f1.now = []
 on:d.off=false
theorem hot_nil:Jrn.hotN []=false:=by decide
variable {l:List Pg} {d:DS}
theorem Clean.len(h:Clean d l):lenD d 0=l.length*4∧lenD d 1=0:=by
 constructor
 ·show d.f0.now.length=_
  rw [h.f0,secsOf_length]
 ·show d.f1.now.length=_
  rw [h.f1];rfl
theorem Clean.read(h:Clean d l):readD d 1 0 0=([],0):=by
 have hk:known 1=true:=rfl
 have hf:(d.file 1)=d.f1:=rfl
 unfold readD
 rw [h.on,hk,hf,h.f1]
 simp
theorem Clean.cut(h:Clean d l):firstD [.ct 1 0] d=(0,d):=by
 simp [firstD,Stp.go,h.len.2]
theorem recovered_clean(q:Nat)(P:Dsk.Parts)(d:DS)(l:List Pg)(w:World)(h:DiskP w q P d)(hc:Clean d l)(hl:l.length≤4000)(hT:Jrn.Tab w)(hop:d.ops≤900000000) :
  Calls Tryz.prog 42 #[.pointer (some ⟨q,0,none⟩)] w fun e w'=>e=.returned (.tuple #[.int .i64 0,.int .i64 0])∧DiskTo w w' q P d:=by
 obtain ⟨hl0,hl1⟩:=hc.len
 have cs1:=Dsk.sectors_call q P d 1 w h
 rw [hl1]at cs1
 have cr:=Dsk.read_call q P d 0 0 0 w h (by omega) (by omega)
 have cr1:=Dsk.read_call q P d 1 0 0 w h (by omega) (by omega)
 rw [hc.read]at cr1
 have C1:=hid cs1;have C2:=hid cr1;have H:=hid h;have HT:=hid hT;have HC:=hid hc
 have HC0:Hid (∀ W,DiskP W q P d→Calls Tryz.prog 43 #[.pointer (some ⟨q,0,none⟩),.int .i64 0] W fun e w'=>e=.returned (.int .i64 ((l.length*4:Nat):Int))∧w'=W):=hid (fun W hW=>by have:=Dsk.sectors_call q P d 0 W hW;rw [hl0]at this;exact this)
 obtain ⟨N,hN⟩:∃ N,l.length*4=N:=⟨_,rfl⟩
 rw [hN]at HC0
 have hm:(N:Int) % 4=0:=by omega
 have hq:(N:Int)/4≤4000:=by omega
 have hN0:(0:Int)≤(N:Int):=by omega
 have htm:(N:Int).tmod 4=0:=by rw [Int.tmod_eq_emod_of_nonneg hN0];exact hm
 have htd:(N:Int).tdiv 4≤4000:=by rw [Int.tdiv_eq_ediv_of_nonneg hN0];exact hq
 clear cs1 cr cr1 h hT hc hl0 hl1 hN
 go_enter Tryz.func42,Tryz.ntmps42
 have t1:Hid True:=hid trivial
 go_wp2_with (first
  | (go_at_call 43;clear t1;refine C1.out.mono ?_;rintro e w1 ⟨rfl,hw⟩;obtain rfl:=hw.symm)
  | (go_at_call 77;refine C2.out.mono ?_;rintro e w2 ⟨ro,rc,rfl,hr,_,hb⟩;have R2:Hid (Rd w2 ro 0 rc []):=hid hr;have B2:=hid hb;clear hr hb)
  | (go_at_call 43;refine (HC0.out w2 (H.out.later B2.out)).mono ?_;rintro e w3 ⟨rfl,hw⟩;obtain rfl:=hw.symm)
  | (go_at_call 78;refine (cut_make q 1 0 (DN q P) w2 (fun k hk=>Nat.lt_of_lt_of_le (DN.lt H.out hk) B2.out.size)).mono ?_;rintro e w4 ⟨x4,rfl,s4,hb4⟩;obtain ⟨n4,cs4,rfl⟩:=step_func s4;have hb5:Below w4.heap.size w4 (w4.alloc (.cells #[.func (.func n4) #[] cs4] 133)):=Below.alloc (Below.refl _ _) (Nat.le_refl _) _;have S5:=hid (s4.later hb5);have B4:Hid (w2.heap.size≤w4.heap.size):=hid hb4.size;have B5:=hid (gt (gt B2.out hb4) hb5);have R5:=hid ((R2.out.keep hb4).keep hb5);clear s4 hb4 hb5)
  | (go_at_call 79;refine (Jrn.hot_any ro 0 rc [] _ R5.out (by intro x hx;cases hx) (by omega) (HT.out.keep B5.out)).mono ?_;rw [hot_nil];rintro e w6 ⟨rfl,hb6⟩;have B6:=hid (gt B5.out hb6);have ST6:Hid (StepsAt w6 q (DN q P) (some ⟨w4.heap.size,0,none⟩) [.ct 1 0]):=hid (StepsAt.later (steps_lit (us:=[.func (.func n4) #[] cs4]) 133 (fun k hk=>Nat.lt_of_lt_of_le (DN.lt H.out hk) B2.out.size) B4.out (fun j s hs=>by match j with | 0=>simp at hs;subst hs;exact ⟨_,rfl,S5.out⟩ | j+1=>simp at hs)) hb6);clear hb6)
  | (go_at_call 83;refine (show Calls Tryz.prog 83 #[.slice (some ⟨w4.heap.size,0,none⟩) 1 1] w6 _ from first_call q P d (some ⟨w4.heap.size,0,none⟩) 1 [.ct 1 0] w6 (H.out.later B6.out) (by simp;omega) ST6.out).mono ?_;rw [HC.out.cut];rintro e w7 ⟨rfl,hto⟩;have T7:=hid hto;clear hto))
 go_ret2
 exact ⟨rfl,DiskTo.first B6.out T7.out⟩
theorem end_gen(p:Nat)(T:Int)(w:World)(a4:w.cell? ⟨p,4,none⟩=some (.int .i64 T))(a5:w.cell? ⟨p,5,none⟩=some (.bool false))(a6:w.cell? ⟨p,6,none⟩=some (.int .i64 0))(a7:w.cell? ⟨p,7,none⟩=some (.map none))(a8:w.cell? ⟨p,8,none⟩=some (.slice none 0 0))(a9:w.cell? ⟨p,9,none⟩=some (.int .i64 0))(hf:∀ i,w.frozen? ⟨p,i,none⟩=false) :
  Calls Tryz.prog 44 #[.pointer (some ⟨p,0,none⟩)] w fun e w'=>e=.returned (.tuple #[])∧w'=(((((w.setCell ⟨p,5,none⟩ (.bool false)).setCell ⟨p,6,none⟩ (.int .i64 T)).setCell ⟨p,7,none⟩ (.map (some w.heap.size))).setCell ⟨p,8,none⟩ (.slice none 0 0)).setCell ⟨p,9,none⟩ (.int .i64 0)).alloc (.map #[] 0):=by
 have f5:=hf 5;have f6:=hf 6;have f7:=hf 7;have f8:=hf 8;have f9:=hf 9
 have hp:p<w.heap.size:=lt_cell a4
 have hne:¬p=w.heap.size:=by omega
 have mk:=fun W=>run_makeMap (P:=Tryz.prog) 70 W
 clear hf
 go_enter Tryz.func44,Tryz.ntmps44
 go_wp2
 go_end0
 exact ⟨rfl,rfl⟩
def rawP(q k:Nat)(T:Int)(rep:Int):List Value:=[.bool true,.int .i64 0,.pointer (some ⟨q,0,none⟩),.pointer (some ⟨k,0,none⟩),.int .i64 T,.bool false,.int .i64 0,.map none,.slice none 0 0,.int .i64 0,.int .i64 0,.int .i64 rep]
structure OpenTo (w w':World) (q:Nat) (P:Dsk.Parts) (d:DS) (room:Nat) (l:List Pg) (p:Nat) (x:PC):Prop where
 is:∃ P' C s,Rest w' p x P' C d s l∧s.hit=0∧s.miss=0∧s.room=room∧(∀ b,NC p x P' C b→DN q P b∨w.heap.size≤b)
 xq:x.q=q
 com:x.com=0
 rep:x.rep=0
 busy:x.busy=false
 new:w.heap.size≤p
 mnew:w.heap.size≤x.m
 mks:x.mo=none∧x.ml=0∧x.mc=0∧x.last=0
 fr:Fr (DN q P) w w'
theorem tx_open{w w':World}{p q k T:Nat}{P:Dsk.Parts}{C:Cch.Parts}{s:CS}(hd:w.heap[p]? = some (.cells (rawP q k (T:Int) 0).toArray 78 (0,0)))(dk:DiskP w q P d)(ck:CP w k C s)(dc:∀ b,DN q P b→¬C.S k b)(dp:¬DN q P p)(cp:¬C.S k p)(hf:Fits s l)(hT:T=l.length)(ws:Whole l)(bs:l.length≤4000)(tab:Jrn.Tab w)(t0:0<w.heap.size∧¬DN q P 0∧¬C.S k 0∧0≠p)
  (hw:w'=(((((w.setCell ⟨p,5,none⟩ (.bool false)).setCell ⟨p,6,none⟩ (.int .i64 (T:Int))).setCell ⟨p,7,none⟩ (.map (some w.heap.size))).setCell ⟨p,8,none⟩ (.slice none 0 0)).setCell ⟨p,9,none⟩ (.int .i64 0)).alloc (.map #[] 0)) :
  Rest w' p ⟨q,k,T,false,T,w.heap.size,none,0,0,0,0,0⟩ P C d s l∧Fr (fun b=>b=p) w w':=by
 have hpl:p<w.heap.size:=(Array.getElem?_eq_some_iff.1 hd).1
 obtain ⟨W,hW⟩:∃ W,W=((((w.setCell ⟨p,5,none⟩ (.bool false)).setCell ⟨p,6,none⟩ (.int .i64 (T:Int))).setCell ⟨p,7,none⟩ (.map (some w.heap.size))).setCell ⟨p,8,none⟩ (.slice none 0 0)).setCell ⟨p,9,none⟩ (.int .i64 0):=⟨_,rfl⟩
 have hWs:W.heap.size=w.heap.size:=by rw [hW];simp
 have hWo:∀ b,b≠p→W.heap[b]? = w.heap[b]?:=fun b hb=>by
  rw [hW,heap_setCell_other _ _ _ _ hb,heap_setCell_other _ _ _ _ hb,heap_setCell_other _ _ _ _ hb,heap_setCell_other _ _ _ _ hb,heap_setCell_other _ _ _ _ hb]
 rw [←hW]at hw
 have hs':w'.heap.size=w.heap.size+1:=by rw [hw];simp [hWs]
 have ho:∀ b,b<w.heap.size→b≠p→w'.heap[b]? = w.heap[b]?:=fun b hb hbp=>by
  rw [hw,hao _ _ _ (by rw [hWs];exact hb)];exact hWo b hbp
 have hPg:PgAt w' p ⟨q,k,T,false,T,w.heap.size,none,0,0,0,0,0⟩:=by
  have h1:=Cch.blk_set (Cch.blk_set (Cch.blk_set (Cch.blk_set (Cch.blk_set hd (i:=5) (v:=.bool false)) (i:=6) (v:=.int .i64 (T:Int))) (i:=7) (v:=.map (some w.heap.size))) (i:=8) (v:=.slice none 0 0)) (i:=9) (v:=.int .i64 0)
  rw [←hW]at h1
  unfold PgAt
  rw [hw,hao _ _ _ (by rw [hWs];exact hpl),h1]
  rfl
 have hmap:w'.ownsMap Tryz.prog 3 slR w.heap.size 0 (Dsk.dirtD (false::List.replicate l.length false) (List.replicate (l.length+1) [])):=by
  rw [dirt_none,hw]
  have:=World.ownsMap_made W Tryz.prog 3 slR (H:=Unit)
  rw [hWs]at this;exact this
 have hcore:Core w' p ⟨q,k,T,false,T,w.heap.size,none,0,0,0,0,0⟩ P C d s:=
  ⟨hPg,dk.stay (by omega) (fun b hb hdd=>ho b hb (fun e=>dp (by rcases hdd with h1 |h1;exact Or.inr (e▸h1);exact Or.inl (e▸h1)))),ck.stay (fun b hb hS=>ho b hb (fun e=>cp (e▸hS))),dc,dp,cp⟩
 have hfr:Fr (fun b=>b=p) w w':=by rw [hw,hW];exact alloc_frame (set_frame (set_frame (set_frame (set_frame (set_frame (Fr.refl _ _))))))
 have hcf:∀ i,(List.replicate l.length false).getD i false=false:=fun i=>by
  rw [List.getD,List.getElem?_replicate];split<;>rfl
 have hlt:∀ b,NC p ⟨q,k,T,false,T,w.heap.size,none,0,0,0,0,0⟩ P C b→b<w.heap.size:=fun b hb=>by
  rcases hb with hb |hb |rfl
  ·exact DN.lt dk hb
  ·exact ck.lt hb
  ·exact hpl
 refine ⟨⟨hcore,⟨hmap,by simp,by simp,fun i hi=>?_⟩,⟨by show w.heap.size<_;omega,fun hk=>by have:=hlt _ hk;simp only at this;omega⟩,hf,hT,hT,ws,ws,bs,bs,tab_of tab (ho 0 t0.1 t0.2.2.2),⟨by have:=t0.1;omega,fun hk=>?_⟩,?_,fun i hi _=>⟨hi,rfl⟩⟩,hfr⟩
 ·rw [hcf i]at hi;cases hi
 ·rcases hk with hk |hk |hk
  ·exact t0.2.1 hk
  ·exact t0.2.2.1 hk
  ·exact t0.2.2.2 hk
 ·show w.heap.size≠0
  have:=t0.1;omega
theorem open_clean(q room:Nat)(P:Dsk.Parts)(d:DS)(l:List Pg)(w:World)(h:DiskP w q P d)(hc:Clean d l)(hw:Whole l)(hl:l.length≤4000)(hr1:8≤room)(hr2:room≤4096)(hT:Jrn.Tab w)(h0:Out w (DN q P) 0)(hop:d.ops≤900000000) :
  Calls Tryz.prog 18 #[.pointer (some ⟨q,0,none⟩),.int .i64 (room:Int)] w fun e w'=>∃ p x,e=.returned (.tuple #[.pointer (some ⟨p,0,none⟩),.int .i64 0])∧OpenTo w w' q P d room l p x:=by
 have c41:=hid (Dsk.room_any q P d w h)
 have hrm:¬(d.room:Int)=0:=by have:=h.ok.r1;omega
 have c42:=hid (Cch.new_yes room w (by omega) hr2)
 have HR:=hid (fun W (hb:Below w.heap.size w W)=>recovered_clean q P d l W (h.later hb) hc hl (hT.keep hb) hop)
 have H:=hid h;have HC:=hid hc;have HW:=hid hw;have HT:=hid hT;have H0:=hid h0
 have hl0:=hc.len.1
 have C29:Hid (∀ W P',DiskP W q P' d→Calls Tryz.prog 43 #[.pointer (some ⟨q,0,none⟩),.int .i64 0] W fun e w'=>e=.returned (.int .i64 ((l.length*4:Nat):Int))∧w'=W):=hid (fun W P' hW=>by have:=Dsk.sectors_call q P' d 0 W hW;rw [hl0]at this;exact this)
 obtain ⟨T,hTl⟩:∃ T,T=l.length:=⟨_,rfl⟩
 rw [←hTl]at C29 hl
 have HTL:=hid hTl
 obtain ⟨N,hN⟩:∃ N,T*4=N:=⟨_,rfl⟩
 rw [hN]at C29
 have hdiv:(N:Int).tdiv 4=(T:Int):=by rw [Int.tdiv_eq_ediv_of_nonneg (by omega)];omega
 have hr8:¬(room:Int)<8:=by omega
 clear h hc hw hT h0 hl0 hTl hN
 go_enter Tryz.func18,Tryz.ntmps18
 go_upto_region 10 with (first
  | (go_at_call 40;refine c41.out.mono ?_;rintro e w1 ⟨rfl,hw1⟩;obtain rfl:=hw1.symm)
  | (go_at_call 41;refine c42.out.mono ?_;rintro e w2 ⟨k,rfl,C,hcp,hks,hCS,hb2⟩;have CP2:=hid hcp;have CS2:=hid hCS;have B2:=hid hb2;clear hcp hks hCS hb2)
  | (go_at_call 42;refine (HR.out w2 B2.out).mono ?_;rintro e w3 ⟨rfl,hto⟩;have T3:=hid hto;clear hto))
 obtain ⟨P3,hd3,hg3⟩:=T3.out.is
 obtain ⟨pp,hpp⟩:∃ pp,pp=w3.heap.size:=⟨_,rfl⟩
 obtain ⟨W4,hW4⟩:∃ W4,W4=w3.alloc (.cells (rawP q k 0 0).toArray 78):=⟨_,rfl⟩
 have hb4:Below w3.heap.size w3 W4:=by rw [hW4];exact Below.alloc (Below.refl _ _) (Nat.le_refl _) _
 have hr4:W4.heap[pp]? = some (.cells (rawP q k 0 0).toArray 78 (0,0)):=by rw [hW4,hpp];exact heap_alloc_new w3 _
 obtain ⟨W5,hW5⟩:∃ W5,W5=W4.setCell ⟨pp,4,none⟩ (.int .i64 (T:Int)):=⟨_,rfl⟩
 have hr5:W5.heap[pp]? = some (.cells (rawP q k (T:Int) 0).toArray 78 (0,0)):=by rw [hW5,Cch.blk_set hr4];rfl
 have h5o:∀ b,b≠pp→W5.heap[b]? = W4.heap[b]?:=fun b hb=>by rw [hW5,heap_setCell_other _ _ _ _ hb]
 have h5s:W5.heap.size=W4.heap.size:=by rw [hW5];simp
 have h4s:W4.heap.size=pp+1:=by rw [hW4,hpp];simp
 have h45:∀ b,b<pp→W5.heap[b]? = w3.heap[b]?:=fun b hb=>(h5o b (by omega)).trans (hb4.block b (by omega))
 have hdk5:DiskP W5 q P3 d:=hd3.stay (by omega) (fun b hb _=>h45 b (by omega))
 have hf3:=fr_df T3.out.fr
 have hDN:∀ b,DN q P b→b<w.heap.size:=fun b hb=>DN.lt H.out hb
 have hck5:CP W5 k C ⟨room,[],0,0⟩:=CP2.out.stay (fun b hb hS=>(h45 b (by have:=hf3.size;omega)).trans (hf3.blk b hb (fun hk=>by have h1:=hDN b hk;have h2:=CS2.out b hS;omega)))
 have hDN3:∀ b,DN q P3 b→DN q P b∨w2.heap.size≤b:=fun b hb=>by
  rcases hb with hb |hb
  ·exact Or.inl (Or.inl hb)
  ·rcases hg3 b hb with h1 |h1
   ·exact Or.inl (Or.inr h1)
   ·exact Or.inr h1
 have hdc:∀ b,DN q P3 b→¬C.S k b:=fun b hb hS=>by
  have h1:=CP2.out.lt hS
  rcases hDN3 b hb with h2 |h2
  ·have h3:=hDN b h2;have h4:=CS2.out b hS;omega
  ·omega
 have hdp:¬DN q P3 pp:=fun hk=>by have h1:=DN.lt hd3 hk;omega
 have hcp:¬C.S k pp:=fun hk=>by have h1:=CP2.out.lt hk;have:=hf3.size;omega
 have hsz:w.heap.size≤w3.heap.size:=Nat.le_trans B2.out.size hf3.size
 have h00:=H0.out.1
 have hD0:¬DN q P3 0:=fun hk=>by
  rcases hDN3 0 hk with h1 |h1
  ·exact H0.out.2 h1
  ·have:=B2.out.size;omega
 have hC0:¬C.S k 0:=fun hS=>by have:=CS2.out 0 hS;omega
 have htab:Jrn.Tab W5:=tab_of HT.out ((h45 0 (by omega)).trans ((hf3.blk 0 (by have:=B2.out.size;omega) (fun hk=>H0.out.2 hk)).trans (B2.out.block 0 h00)))
 have hfit:Fits (⟨room,[],0,0⟩:CS) l:=⟨fun r hr=>(by cases hr),Nat.zero_le _,hr1⟩
 have FF:Hid (∀ w',w'=(((((W5.setCell ⟨pp,5,none⟩ (.bool false)).setCell ⟨pp,6,none⟩ (.int .i64 (T:Int))).setCell ⟨pp,7,none⟩ (.map (some W5.heap.size))).setCell ⟨pp,8,none⟩ (.slice none 0 0)).setCell ⟨pp,9,none⟩ (.int .i64 0)).alloc (.map #[] 0)→_):=
  hid (fun w' hw=>tx_open hr5 hdk5 hck5 hdc hdp hcp hfit HTL.out HW.out (by rw [←HTL.out];exact hl) htab ⟨by omega,hD0,hC0,by omega⟩ hw)
 have CE:=hid (end_gen pp (T:Int) W5 ((Cch.hd_cell hr5 4).trans rfl) ((Cch.hd_cell hr5 5).trans rfl) ((Cch.hd_cell hr5 6).trans rfl) ((Cch.hd_cell hr5 7).trans rfl) ((Cch.hd_cell hr5 8).trans rfl) ((Cch.hd_cell hr5 9).trans rfl) (fun i=>Cch.hd_frozen hr5 i))
 have CS4:=hid (C29.out W4 P3 (hd3.later hb4))
 have k4:W4.cell? ⟨pp,4,none⟩=some (.int .i64 0):=(Cch.hd_cell hr4 4).trans rfl
 have f4:W4.frozen? ⟨pp,4,none⟩=false:=Cch.hd_frozen hr4 4
 have HW5:=hid hW5
 have FIN:Hid (Fr (DN q P) w W5∧w.heap.size≤pp∧(∀ b,DN q P3 b∨C.S k b∨b=pp→DN q P b∨w.heap.size≤b)):=hid ⟨⟨by rw [hW5,hW4];exact hf3.os.trans B2.out.os,by rw [hW5,hW4];exact hf3.tape.trans B2.out.tape,by rw [hW5,hW4];exact hf3.output.trans B2.out.output,by omega,fun b hb hn=>(h45 b (by omega)).trans ((hf3.blk b (Nat.lt_of_lt_of_le hb B2.out.size) hn).trans (B2.out.block b hb))⟩,by omega,fun b hb=>by
  rcases hb with hb |hb |hb
  ·rcases hDN3 b hb with h1 |h1
   ·exact Or.inl h1
   ·exact Or.inr (Nat.le_trans B2.out.size h1)
  ·exact Or.inr (CS2.out b hb)
  ·right;omega⟩
 have hw4:w3.alloc (.cells #[.bool true,.int .i64 0,.pointer (some ⟨q,0,none⟩),.pointer (some ⟨k,0,none⟩),.int .i64 0,.bool false,.int .i64 0,.map none,.slice none 0 0,.int .i64 0,.int .i64 0,.int .i64 0] 78)=W4:=by rw [hW4];rfl
 rw [hw4,←hpp]
 clear hw4 hW4 hpp hb4 hr4 hr5 h5o h5s h4s h45 hdk5 hf3 hDN hck5 hDN3 hdc hdp hcp hsz h00 hD0 hC0 htab hfit hW5 hd3 hg3
 go_wp2_with (first
  | (go_at_call 43;refine CS4.out.mono ?_;rintro e w5 ⟨rfl,hw5⟩;obtain rfl:=hw5.symm)
  | (go_at_call 44;rw [←HW5.out];refine CE.out.mono ?_;rintro e w6 ⟨rfl,hw6⟩;have HW6:=hid hw6;clear hw6))
 go_ret2
 obtain ⟨t1,t2⟩:=FF.out w6 HW6.out
 obtain ⟨g1,g2,g3⟩:=FIN.out
 exact ⟨pp,_,rfl,⟨⟨P3,C,_,t1,rfl,rfl,rfl,g3⟩,rfl,rfl,rfl,rfl,g2,g1.size,⟨rfl,rfl,rfl,rfl⟩,fr_trans g1 t2 (fun b hb=>by right;rw [hb];exact g2)⟩⟩
end
section
open Go.RowKit Go.Maps
open Dsk (gt hid undrew keep_old keep_cell lt_cell Rd DS FS Sec DiskP DFrame Grew From lenD readD newD known)
open Cch (CS CP Fr)
def RowB(W:World)(g:Nat)(xs:List Nat):Prop:=W.heap[g]? = some (.cells (Dsk.bs xs).toArray 5 (0,0))
end
end Go.Proofs.YtgjgkpnjchflaaaGreatDoor
