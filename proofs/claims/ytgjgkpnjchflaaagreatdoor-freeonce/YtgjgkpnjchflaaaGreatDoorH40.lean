/- How the list of free pages lies in the pages, and stays so; no statement of the seat is proved here. -/
import Derived.Test.YtgjgkpnjchflaaaGreatDoorH38
import Derived.Test.YtgjgkpnjchflaaaGreatDoorH39
set_option maxHeartbeats 16000000
set_option maxRecDepth 20000
namespace Go.Proofs.YtgjgkpnjchflaaaGreatDoor
section
open Go.RowKit Go.Maps
open Jrn (trunkN rootN nul)
def firstOf:List (Nat×List Nat)→Nat
 | []=>0
 | x::_=>x.1
structure Lay (now:List Pg) (tr:List (Nat×List Nat)) (ws:List Nat):Prop where
 root:now.getD 0 []=rootN (firstOf tr) (flat tr).length ws
 chain:Chain8 now (firstOf tr) tr
 nd:(flat tr).Nodup
 wl:ws.length=60
 ln:0<now.length
variable {now:List Pg}
theorem Chain8.range:∀ {f:Nat} {tr:List (Nat×List Nat)},Chain8 now f tr→∀ y∈flat tr,2≤y∧y≤now.length
 | _,[],_,y,hy=>by simp [flat]at hy
 | _,x::r,h,y,hy=>by
  obtain ⟨_,h1,h2,_,h4,nx,_,_,h7⟩:=h
  rw [flat_cons]at hy
  rcases List.mem_cons.1 hy with rfl |hy
  ·exact ⟨h1,h2⟩
  ·rcases List.mem_append.1 hy with hy |hy
   ·exact h4 y hy
   ·exact Chain8.range h7 y hy
variable {now':List Pg}
theorem Chain8.stay(hl:now.length≤now'.length):∀ {f:Nat} {tr:List (Nat×List Nat)},Chain8 now f tr→(∀ y∈flat tr,now'.getD (y - 1) []=now.getD (y - 1) [])→Chain8 now' f tr
 | _,[],h,_=>h
 | _,x::r,h,hy=>by
  obtain ⟨h0,h1,h2,h3,h4,nx,h5,h6,h7⟩:=h
  refine ⟨h0,h1,by omega,h3,fun y hy'=>⟨(h4 y hy').1,by have:=(h4 y hy').2;omega⟩,nx,h5,?_,?_⟩
  ·rw [hy x.1 (by rw [flat_cons];simp)];exact h6
  ·exact Chain8.stay hl h7 (fun y hm=>hy y (by rw [flat_cons];simp [hm]))
theorem Chain8.shrunk(he:now'.length=now.length){f:Nat}{tr:List (Nat×List Nat)}(h:Chain8 now f tr)(hy:∀ y∈flat tr,now'.getD (y - 1) []=now.getD (y - 1) []):Chain8 now' f tr:=h.stay (by omega) hy
variable {b:Pg} {i j:Nat} {l:List Pg}
theorem set_other(h:i≠j):(l.set i b).getD j []=l.getD j []:=by
 simp only [List.getD]
 rw [List.getElem?_set_ne h]
theorem set_same(h:i<l.length):(l.set i b).getD i []=b:=by
 simp [List.getD,h]
theorem nodup_le:∀ (n:Nat) (l:List Nat),l.Nodup→(∀ y∈l,1≤y∧y≤n)→l.length≤n
 | 0,l,_,h=>by
  cases l with
  | nil=>simp
  | cons y l=>have:=h y (by simp);omega
 | n+1,l,hd,h=>by
  by_cases hm:n+1∈l
  ·have h1:=nodup_le n (l.erase (n+1)) (hd.erase _) (fun y hy=>by
    have h2:=(hd.mem_erase_iff).1 hy
    have h3:=h y h2.2
    exact ⟨h3.1,by have:=h2.1;omega⟩)
   rw [List.length_erase_of_mem hm]at h1
   have:0<l.length:=List.length_pos_of_mem hm
   omega
  ·have h1:=nodup_le n l hd (fun y hy=>⟨(h y hy).1,by have h2:=(h y hy).2;rcases Nat.lt_or_ge y (n+1) with h3 |h3;omega;exact absurd (show n+1∈l by rw [show n+1=y by omega];exact hy) hm⟩)
   omega
variable {ws:List Nat}
theorem Lay.count{tr:List (Nat×List Nat)}(h:Lay now tr ws):(flat tr).length<now.length:=by
 have:=nodup_le now.length (1::flat tr) (List.nodup_cons.2 ⟨fun h1=>by have:=(h.chain.range 1 h1).1;omega,h.nd⟩) (fun y hy=>by rcases List.mem_cons.1 hy with rfl |hy;exact ⟨Nat.le_refl _,h.ln⟩;exact ⟨by have:=(h.chain.range y hy).1;omega,(h.chain.range y hy).2⟩)
 rw [List.length_cons]at this
 omega
theorem flat_len(tr:List (Nat×List Nat)):tr.length≤(flat tr).length:=by
 induction tr with
 | nil=>simp
 | cons x r ih=>rw [flat_cons];simp;omega
theorem Lay.grow(h:Lay now [] ws)(b:Pg):Lay (now++[b]) [] ws:=by
 refine ⟨?_,rfl,by simp [flat],h.wl,by simp⟩
 have:=h.root
 simp only [List.getD]at this ⊢
 rw [List.getElem?_append_left h.ln]
 exact this
variable {ls:List Nat} {nx:Nat}
theorem Lay.leaf{v:Nat}{r:List (Nat×List Nat)}(h:Lay now ((j+1,ls++[v])::r) ws)(hnx:nx<4294967296)(hch:Chain8 now nx r) :
  Lay (((now.set j (trunkN nx ls)).set 0 (rootN (j+1) (flat ((j+1,ls)::r)).length ws)).set (v - 1) nul) ((j+1,ls)::r) ws:=by
 have hnd:=h.nd
 have hrg:=h.chain.range
 obtain ⟨_,hj1,hj2,hj3,hj4,_⟩:=h.chain
 simp only at hj1 hj2 hj3 hj4
 have hv:=hj4 v (by simp)
 rw [flat_cons]at hnd hrg
 simp only at hnd hrg
 have hvj:v≠j+1:=by
  intro e
  rw [List.nodup_cons]at hnd
  exact hnd.1 (by rw [←e];simp)
 have hln:=h.ln
 have hnd2:((j+1)::(ls++flat r)).Nodup:=by
  refine hnd.sublist (List.Sublist.cons_cons _ (List.Sublist.append_right (List.sublist_append_left ls [v]) _))
 have hvr:∀ y∈flat r,y≠v∧y≠j+1:=fun y hy=>by
  rw [List.nodup_cons]at hnd
  refine ⟨fun e=>?_,fun e=>hnd.1 (by rw [←e];simp [hy])⟩
  have h2:=hnd.2
  rw [List.append_assoc,List.nodup_append]at h2
  have h3:=h2.2.1
  rw [List.singleton_append,List.nodup_cons]at h3
  exact h3.1 (e▸hy)
 refine ⟨?_,⟨rfl,hj1,by simp;omega,by simp at hj3 ⊢;omega,fun y hy=>by simpa using hj4 y (by simp [hy]),nx,hnx,?_,?_⟩,by rw [flat_cons];exact hnd2,h.wl,by simpa using hln⟩
 ·rw [set_other (by omega),set_same (by simpa using hln)];rfl
 ·show List.getD _ (j+1 - 1) []=_
  rw [Nat.add_sub_cancel,set_other (by omega),set_other (by omega),set_same (by omega)]
 ·refine hch.shrunk (by simp) (fun y hy=>?_)
  have h1:=hvr y hy
  have h2:=hch.range y hy
  rw [set_other (by omega),set_other (by omega),set_other (by omega)]
variable {n:Nat}
theorem Lay.more{r:List (Nat×List Nat)}(h:Lay now ((j+1,ls)::r) ws)(hnx:nx<4294967296)(hch:Chain8 now nx r)(hl:ls.length<126)(hn1:2≤n)(hn:n≤now.length)(hnf:n∉flat ((j+1,ls)::r)) :
  Lay ((now.set j (trunkN nx (ls++[n]))).set 0 (rootN (j+1) ((flat ((j+1,ls)::r)).length+1) ws)) ((j+1,ls++[n])::r) ws:=by
 have hnd:=h.nd
 obtain ⟨_,hj1,hj2,hj3,hj4,_⟩:=h.chain
 simp only at hj1 hj2 hj3 hj4
 rw [flat_cons]at hnd hnf
 simp only at hnd hnf
 have hln:=h.ln
 rw [List.nodup_cons]at hnd
 have hvr:∀ y∈flat r,y≠j+1:=fun y hy e=>hnd.1 (by rw [←e];simp [hy])
 have hfl:(flat ((j+1,ls++[n])::r)).length=(flat ((j+1,ls)::r)).length+1:=by rw [flat_cons,flat_cons];simp;omega
 refine ⟨?_,⟨rfl,hj1,by simp;omega,by simp;omega,fun y hy=>?_,nx,hnx,?_,?_⟩,?_,h.wl,by simpa using hln⟩
 ·rw [set_same (by simpa using hln),hfl];rfl
 ·simp only [List.mem_append,List.mem_singleton]at hy
  rcases hy with hy |rfl
  ·simpa using hj4 y hy
  ·exact ⟨hn1,by simpa using hn⟩
 ·show List.getD _ (j+1 - 1) []=_
  rw [Nat.add_sub_cancel,set_other (by omega),set_same (by omega)]
 ·refine hch.shrunk (by simp) (fun y hy=>?_)
  have h1:=hvr y hy
  have h2:=hch.range y hy
  rw [set_other (by omega),set_other (by omega)]
 ·rw [flat_cons]
  have hp:((j+1)::((ls++[n])++flat r)).Perm (n::((j+1)::(ls++flat r))):=by
   rw [List.append_assoc]
   refine (List.Perm.cons _ (List.perm_middle)).trans (List.Perm.swap _ _ _)
  refine hp.nodup_iff.2 (List.nodup_cons.2 ⟨hnf,List.nodup_cons.2 hnd⟩)
theorem Lay.new{tr:List (Nat×List Nat)}(h:Lay now tr ws)(hf:firstOf tr<4294967296)(hn1:2≤n)(hn:n≤now.length)(hnf:n∉flat tr) :
  Lay ((now.set (n - 1) (trunkN (firstOf tr) [])).set 0 (rootN n ((flat tr).length+1) ws)) ((n,[])::tr) ws:=by
 have hln:=h.ln
 refine ⟨?_,⟨rfl,hn1,by simpa using hn,by simp,(fun y hy=>by cases hy),firstOf tr,hf,?_,?_⟩,?_,h.wl,by simpa using hln⟩
 ·rw [set_same (by simpa using hln),flat_cons];simp [firstOf]
 ·rw [set_other (by show 0≠n - 1;omega),set_same (by show n - 1<now.length;omega)]
 ·refine h.chain.shrunk (by simp) (fun y hy=>?_)
  have h2:=h.chain.range y hy
  have h3:y≠n:=fun e=>hnf (e▸hy)
  rw [set_other (by omega),set_other (by omega)]
 ·rw [flat_cons];exact List.nodup_cons.2 ⟨by simpa using hnf,by simpa using h.nd⟩
end
section
open Go.RowKit Go.Maps
open Dsk (gt hid undrew keep_old keep_cell lt_cell Rd)
open Cch (Fr wpAnyK wpAnyK_done wp_region_K)
open Jrn (Pv2 Row5 numAt RB fr_two trunkN rootN putN nul)
section
variable {arm:Prop} {room croom K:Nat} {p q:Nat} {R:Nat→Prop} {t:RS} {w:World}
theorem AO.at_{B:Nat}{W0 W:World}{v:Value}{l:List Nat}{Q:Nat→Prop}(h:AO arm room croom K p q Q t B W0 v l W):PrgAt arm room croom K W p q Q t:=h.p.less (fun _ hb=>Or.inl hb)
theorem Take_grow(hb:Nat)(ws:List Nat)(h:PrgAt arm room croom K w p q R t)(hh:HeapAt w hb p)(hR:R hb)(hx:t.now.getD 0 []=rootN 0 0 ws)(hbz:t.busy=true)(hn:0<t.now.length)(hn4:t.now.length<4000)(hK:K+2≤500000) :
  Calls Tryz.prog 15 #[.pointer (some ⟨hb,0,none⟩)] w fun e w'=>e=.returned (.tuple #[.int .i64 ((t.now.length+1:Nat):Int),.int .i64 0])∧PrgAt arm room croom (K+2) w' p q R t.grow∧Rok R w w':=by
 have hpb:t.pages=t.now:=RS.pages_busy hbz
 have CG:=hid (changing_yes hb h hh hbz (by rw [hpb];exact hn) (by omega))
 rw [hpb,hx]at CG
 have CLi:=hid (fun W g cap RR B0 (hP:PrgAt arm room croom (K+1) W p q RR t) (hH:HeapAt W hb p) (h1:RR hb) (h2:Row5 W B0 g cap (rootN 0 0 ws))=>list_any (R:=RR) hb g cap 0 0 B0 ws [] hP hH h1 h2 (by omega) (by omega) rfl rfl (by rw [hpb];exact hn) (by rw [hpb];omega) (by omega) (by simp;omega))
 have CW:=hid (fun W RR (hP:PrgAt arm room croom (K+1) W p q RR t)=>prg_grow_yes (R:=RR) hP hbz hn4 (by omega))
 have HH:=hid hh;have HR:=hid hR;have H:=hid h
 clear h hh hR hx hpb
 unfold Pv2 at *
 go_enter Tryz.func15,Tryz.ntmps15
 go_wp2_with (first
  | (go_at_call 34;refine CG.out.mono ?_;rintro e w1 ⟨g,cap,rfl,hr1,hg1,hP1,hok1⟩;have B1:=hid (show Below w1.heap.size w1 (w1.alloc (.cells #[.int .i64 1,.slice (some ⟨g,0,none⟩) 512 cap] 83)) from Below.alloc (Below.refl _ _) (Nat.le_refl _) _);have R1:=hid (hr1.keep B1.out);have P1:=hid (hP1.new B1.out (Nat.le_refl _) (by simp));have K1:=hid hok1;have H1:=hid ((HH.out.rok hok1 HR.out).keep B1.out);clear hr1 hg1 hP1 hok1)
  | (go_at_call 32;refine (CLi.out _ g cap _ _ P1.out H1.out (Or.inl (Or.inl HR.out)) R1.out).mono ?_;rintro e w2 ⟨ao,cp,rfl,hA⟩;have A2:=hid hA;have H2:=hid (H1.out.rok hA.k (Or.inl (Or.inl HR.out)));have c2:=H2.out.cell;clear hA)
  | (go_at_call 35;refine (CW.out w2 _ A2.out.at_).mono ?_;rintro e w3 ⟨rfl,hP3,hok3⟩;have P3:=hid hP3;have K3:=hid hok3;clear hP3 hok3))
 go_ret2
 refine ⟨rfl,P3.out.less (fun b hb=>Or.inl (Or.inl hb)),?_⟩
 exact ((K1.out.below B1.out).then A2.out.k (fun b hb=>Or.inl (Or.inl hb))).then K3.out (fun b hb=>Or.inl (Or.inl hb))
theorem Take_one(hb j:Nat)(ws:List Nat)(h:PrgAt arm room croom K w p q R t)(hh:HeapAt w hb p)(hR:R hb)(hRl:∀ b,R b→b<w.heap.size)(hx:t.now.getD 0 []=rootN (j+1) 1 ws)(hy:t.now.getD j []=trunkN 0 [])(hbz:t.busy=true)(hj1:1≤j)(hn:j<t.now.length)(hn4:t.now.length≤4000)(hK:K+6≤500000) :
  Calls Tryz.prog 15 #[.pointer (some ⟨hb,0,none⟩)] w fun e w'=>e=.returned (.tuple #[.int .i64 ((j+1:Nat):Int),.int .i64 0])∧PrgAt arm room croom (K+6) w' p q R (((t.put j (trunkN 0 [])).put 0 (rootN 0 0 ws)).put j nul)∧Rok R w w':=by
 have hpb:t.pages=t.now:=RS.pages_busy hbz
 have CG:=hid (changing_yes hb h hh hbz (by rw [hpb];omega) (by omega))
 rw [hpb,hx]at CG
 have CLi:=hid (fun W g cap RR B0 (hP:PrgAt arm room croom (K+1) W p q RR t) (hH:HeapAt W hb p) (h1:RR hb) (h2:Row5 W B0 g cap (rootN (j+1) 1 ws))=>list_any (R:=RR) hb g cap (j+1) 1 B0 ws [(j+1,[])] hP hH h1 h2 (by omega) (by omega) ⟨rfl,by show 2≤j+1;omega,by rw [hpb];show j+1≤_;omega,by show 0≤126;omega,(fun y hy=>by cases hy),0,by omega,by rw [hpb];exact hy,rfl⟩ rfl (by rw [hpb];simp;omega) (by rw [hpb];exact hn4) (by omega) (by simp;omega))
 have CTk:=hid (fun W g cap (hP:PrgAt arm room croom (K+1+1) W p q (Plus R g) t) (hH:HeapAt W hb p) (h2:¬R g) (h3:Row5 W 0 g cap (rootN (j+1) 1 ws))=>take_bare (R:=R) hb g cap 0 j 0 ws hP hH hR h2 h3 (by omega) hbz hj1 hn (by omega) hy (by omega) (by omega))
 have HH:=hid hh;have HR:=hid hR;have H:=hid h;have HRL:=hid hRl
 clear h hh hR hx hy hpb hRl
 generalize ((j+1:Nat):Int)=z at *
 unfold Pv2 at *
 go_enter Tryz.func15,Tryz.ntmps15
 go_wp2_with (first
  | (go_at_call 34;refine CG.out.mono ?_;rintro e w1 ⟨g,cap,rfl,hr1,hg1,hP1,hok1⟩;have B1:=hid (show Below w1.heap.size w1 (w1.alloc (.cells #[.int .i64 1,.slice (some ⟨g,0,none⟩) 512 cap] 83)) from Below.alloc (Below.refl _ _) (Nat.le_refl _) _);have R1:=hid (hr1.keep B1.out);have X1:=hid (RB.new 83 w1 1 (some ⟨g,0,none⟩) 512 cap);have P1:=hid (hP1.new B1.out (Nat.le_refl _) (by simp));have K1:=hid hok1;have H1:=hid ((HH.out.rok hok1 HR.out).keep B1.out);have G1:=hid hg1;clear hr1 hg1 hP1 hok1)
  | (go_at_call 32;refine (CLi.out _ g cap _ _ P1.out H1.out (Or.inl (Or.inl HR.out)) R1.out).mono ?_;rintro e w2 ⟨ao,cp,rfl,hA⟩;have A2:=hid hA;have H2:=hid (H1.out.rok hA.k (Or.inl (Or.inl HR.out)));obtain ⟨x0,x1,_,_⟩:=(show RB 83 w2 w1.heap.size 1 (some ⟨g,0,none⟩) 512 cap from (hA.k.at_ (Or.inr rfl) X1.out.lt).trans X1.out).cells;have R2:=hid (R1.out.fr hA.k (fun e=>e.1 (Or.inl (Or.inr rfl))));clear hA)
  | (go_at_call 36;refine (CTk.out w2 g cap (A2.out.at_.less (fun b hb=>Or.inl hb)) H2.out (fun hg=>by have h1:=HRL.out g hg;have h2:=G1.out;omega) (R2.out.base (Nat.zero_le _))).mono ?_;rintro e w3 ⟨rfl,hP3,hok3⟩;have P3:=hid hP3;have K3:=hid hok3;clear hP3 hok3))
 go_ret2
 refine ⟨rfl,P3.out,?_⟩
 exact ((K1.out.below B1.out).then A2.out.k (fun b hb=>Or.inl (Or.inl hb))).then K3.out (fun b hb=>hb)
theorem Give_first(hb n:Nat)(ws:List Nat)(h:PrgAt arm room croom K w p q R t)(hh:HeapAt w hb p)(hR:R hb)(hRl:∀ b,R b→b<w.heap.size)(hx:t.now.getD 0 []=rootN 0 0 ws)(hw:ws.length=60)(hbz:t.busy=true)(hn1:2≤n)(hn:n≤t.now.length)(hn4:t.now.length≤4000)(hK:K+3≤500000) :
  Calls Tryz.prog 16 #[.pointer (some ⟨hb,0,none⟩),.int .i64 (n:Int)] w fun e w'=>e=.returned (.int .i64 0)∧PrgAt arm room croom (K+3) w' p q R ((t.put (n - 1) (trunkN 0 [])).put 0 (rootN n 1 ws))∧Rok R w w':=by
 have hpb:t.pages=t.now:=RS.pages_busy hbz
 have CG:=hid (changing_yes hb h hh hbz (by rw [hpb];omega) (by omega))
 rw [hpb,hx]at CG
 have CLi:=hid (fun W g cap RR B0 (hP:PrgAt arm room croom (K+1) W p q RR t) (hH:HeapAt W hb p) (h1:RR hb) (h2:Row5 W B0 g cap (rootN 0 0 ws))=>list_any (R:=RR) hb g cap 0 0 B0 ws [] hP hH h1 h2 (by omega) (by omega) rfl rfl (by rw [hpb];show 0<_;omega) (by rw [hpb];exact hn4) (by omega) (by simp;omega))
 have CHs:=hid (fun W RR (hP:PrgAt arm room croom (K+1) W p q RR t) (hH:HeapAt W hb p)=>has_any8 (R:=RR) hb (n:Int) hP hH)
 rw [hpb,show (decide (1<(n:Int))&&decide ((n:Int)≤(t.now.length:Int)))=true by rw [decide_eq_true (by omega),decide_eq_true (by omega)];rfl]at CHs
 have CGv:=hid (fun W g cap (hP:PrgAt arm room croom (K+1) W p q (Plus R g) t) (hH:HeapAt W hb p) (h2:¬R g) (h3:Row5 W 0 g cap (rootN 0 0 ws))=>give_new (R:=R) hb g cap 0 n ws hP hH hR h2 h3 hw (by omega) hbz hn1 hn (by omega) (by omega))
 have HH:=hid hh;have HR:=hid hR;have H:=hid h;have HRL:=hid hRl
 clear h hh hR hx hpb hRl hw
 unfold Pv2 at *
 go_enter Tryz.func16,Tryz.ntmps16
 go_wp2_with (first
  | (go_at_call 34;refine CG.out.mono ?_;rintro e w1 ⟨g,cap,rfl,hr1,hg1,hP1,hok1⟩;have B1:=hid (show Below w1.heap.size w1 (w1.alloc (.cells #[.int .i64 1,.slice (some ⟨g,0,none⟩) 512 cap] 83)) from Below.alloc (Below.refl _ _) (Nat.le_refl _) _);have R1:=hid (hr1.keep B1.out);have X1:=hid (RB.new 83 w1 1 (some ⟨g,0,none⟩) 512 cap);have P1:=hid (hP1.new B1.out (Nat.le_refl _) (by simp));have K1:=hid hok1;have H1:=hid ((HH.out.rok hok1 HR.out).keep B1.out);have G1:=hid hg1;clear hr1 hg1 hP1 hok1)
  | (go_at_call 32;refine (CLi.out _ g cap _ _ P1.out H1.out (Or.inl (Or.inl HR.out)) R1.out).mono ?_;rintro e w2 ⟨ao,cp,rfl,hA⟩;have A2:=hid hA;have H2:=hid (H1.out.rok hA.k (Or.inl (Or.inl HR.out)));have X2:=hid (show RB 83 w2 w1.heap.size 1 (some ⟨g,0,none⟩) 512 cap from (hA.k.at_ (Or.inr rfl) X1.out.lt).trans X1.out);have R2:=hid (R1.out.fr hA.k (fun e=>e.1 (Or.inl (Or.inr rfl))));clear hA)
  | (go_at_call 37;refine (CHs.out w2 _ A2.out.at_ H2.out).mono ?_;rintro e w3 ⟨rfl,hb3⟩;have B3:=hid hb3;obtain ⟨x0,x1,_,_⟩:=(X2.out.keep hb3).cells;clear hb3)
  | (go_at_call 38;refine (CGv.out w3 g cap ((A2.out.at_.less (fun b hb=>Or.inl hb)).keep B3.out) (H2.out.keep B3.out) (fun hg=>by have h1:=HRL.out g hg;have h2:=G1.out;omega) ((R2.out.base (Nat.zero_le _)).keep B3.out)).mono ?_;rintro e w4 ⟨rfl,hP3,hok3⟩;have P3:=hid hP3;have K3:=hid hok3;clear hP3 hok3))
 go_ret
 refine ⟨rfl,P3.out,?_⟩
 exact (((K1.out.below B1.out).then A2.out.k (fun b hb=>Or.inl (Or.inl hb))).below B3.out).then K3.out (fun b hb=>hb)
end
end
section
open Go.RowKit Go.Maps
open Dsk (gt hid undrew keep_old keep_cell lt_cell Rd)
open Cch (Fr wpAnyK wpAnyK_done wp_region_K)
open Jrn (Pv2 Row5 numAt RB fr_two trunkN rootN putN nul)
section
variable {arm:Prop} {room croom K:Nat} {p q:Nat} {R:Nat→Prop} {t:RS} {w:World}
theorem list_lay(hb g cap B0:Nat)(ws:List Nat)(tr:List (Nat×List Nat))(h:PrgAt arm room croom K w p q R t)(hh:HeapAt w hb p)(hR:R hb)(hL:Lay t.now tr ws)(hbz:t.busy=true)(hr:Row5 w B0 g cap (rootN (firstOf tr) (flat tr).length ws))(hn4:t.now.length≤4000)(hK:K+4000≤800000) :
  Calls Tryz.prog 32 #[.pointer (some ⟨hb,0,none⟩),Pv2 1 g 0 cap] w fun e w'=>∃ ao cp,e=.returned (.tuple #[.slice ao (flat tr).length cp,.int .i64 0])∧AO arm room croom (K+tr.length) p q R t w.heap.size w (.slice ao (flat tr).length cp) (flat tr) w':=by
 have hpb:t.pages=t.now:=RS.pages_busy hbz
 have hc:=hL.count
 have hl:=flat_len tr
 have hf:firstOf tr≤4000:=by
  cases tr with
  | nil=>exact Nat.zero_le _
  | cons x r=>have:=(hL.chain.range x.1 (by rw [flat_cons];simp)).2;show x.1≤4000;omega
 exact list_any hb g cap (firstOf tr) (flat tr).length B0 ws tr h hh hR hr (by omega) (by omega) (by rw [hpb];exact hL.chain) rfl (by rw [hpb];omega) (by rw [hpb];exact hn4) (by omega) (by omega)
theorem Take_some(hb n:Nat)(t':RS)(ws:List Nat)(tr:List (Nat×List Nat))(h:PrgAt arm room croom K w p q R t)(hh:HeapAt w hb p)(hR:R hb)(hRl:∀ b,R b→b<w.heap.size)(hL:Lay t.now tr ws)(hbz:t.busy=true)(hne:tr≠[])(hn4:t.now.length≤4000)(hK:K+5000≤500000)
  (hT:∀ W g cap,PrgAt arm room croom (K+1+tr.length) W p q (Plus R g) t→HeapAt W hb p→¬R g→Row5 W 0 g cap (rootN (firstOf tr) (flat tr).length ws)→Calls Tryz.prog 36 #[.pointer (some ⟨hb,0,none⟩),Pv2 1 g 0 cap] W fun e w'=>e=.returned (.tuple #[.int .i64 (n:Int),.int .i64 0])∧PrgAt arm room croom (K+1+tr.length+4) w' p q R t'∧Rok R W w') :
  Calls Tryz.prog 15 #[.pointer (some ⟨hb,0,none⟩)] w fun e w'=>e=.returned (.tuple #[.int .i64 (n:Int),.int .i64 0])∧PrgAt arm room croom (K+1+tr.length+4) w' p q R t'∧Rok R w w':=by
 have hpb:t.pages=t.now:=RS.pages_busy hbz
 have CG:=hid (changing_yes hb h hh hbz (by rw [hpb];exact hL.ln) (by omega))
 rw [hpb,hL.root]at CG
 have CLi:=hid (fun W g cap RR B0 (hP:PrgAt arm room croom (K+1) W p q RR t) (hH:HeapAt W hb p) (h1:RR hb) (h2:Row5 W B0 g cap (rootN (firstOf tr) (flat tr).length ws))=>list_lay (R:=RR) hb g cap B0 ws tr hP hH h1 hL hbz h2 hn4 (by omega))
 have hl0:¬(((flat tr).length:Int)=0):=by
  have:=flat_len tr
  have:0<tr.length:=List.length_pos_iff.2 hne
  omega
 have HH:=hid hh;have HR:=hid hR;have HRL:=hid hRl;have HT:=hid hT
 clear h hh hR hRl hL hT hpb
 generalize (flat tr).length=LL at *
 unfold Pv2 at *
 go_enter Tryz.func15,Tryz.ntmps15
 go_wp2_with (first
  | (go_at_call 34;refine CG.out.mono ?_;rintro e w1 ⟨g,cap,rfl,hr1,hg1,hP1,hok1⟩;have B1:=hid (show Below w1.heap.size w1 (w1.alloc (.cells #[.int .i64 1,.slice (some ⟨g,0,none⟩) 512 cap] 83)) from Below.alloc (Below.refl _ _) (Nat.le_refl _) _);have R1:=hid (hr1.keep B1.out);have X1:=hid (RB.new 83 w1 1 (some ⟨g,0,none⟩) 512 cap);have P1:=hid (hP1.new B1.out (Nat.le_refl _) (by simp));have K1:=hid hok1;have H1:=hid ((HH.out.rok hok1 HR.out).keep B1.out);have G1:=hid hg1;clear hr1 hg1 hP1 hok1)
  | (go_at_call 32;refine (CLi.out _ g cap _ _ P1.out H1.out (Or.inl (Or.inl HR.out)) R1.out).mono ?_;rintro e w2 ⟨ao,cp,rfl,hA⟩;have A2:=hid hA;have H2:=hid (H1.out.rok hA.k (Or.inl (Or.inl HR.out)));obtain ⟨x0,x1,_,_⟩:=(show RB 83 w2 w1.heap.size 1 (some ⟨g,0,none⟩) 512 cap from (hA.k.at_ (Or.inr rfl) X1.out.lt).trans X1.out).cells;have R2:=hid (R1.out.fr hA.k (fun e=>e.1 (Or.inl (Or.inr rfl))));clear hA)
  | (go_at_call 36;refine (HT.out w2 g cap (A2.out.at_.less (fun b hb=>Or.inl hb)) H2.out (fun hg=>by have h1:=HRL.out g hg;have h2:=G1.out;omega) (R2.out.base (Nat.zero_le _))).mono ?_;rintro e w3 ⟨rfl,hP3,hok3⟩;have P3:=hid hP3;have K3:=hid hok3;clear hP3 hok3))
 go_ret2
 refine ⟨rfl,P3.out,?_⟩
 exact ((K1.out.below B1.out).then A2.out.k (fun b hb=>Or.inl (Or.inl hb))).then K3.out (fun b hb=>hb)
theorem Give_some(hb n:Nat)(t':RS)(ws:List Nat)(tr:List (Nat×List Nat))(h:PrgAt arm room croom K w p q R t)(hh:HeapAt w hb p)(hR:R hb)(hRl:∀ b,R b→b<w.heap.size)(hL:Lay t.now tr ws)(hbz:t.busy=true)(hn1:2≤n)(hn:n≤t.now.length)(hn4:t.now.length≤4000)(hK:K+5000≤500000)
  (hT:∀ W g cap,PrgAt arm room croom (K+1+tr.length) W p q (Plus R g) t→HeapAt W hb p→¬R g→Row5 W 0 g cap (rootN (firstOf tr) (flat tr).length ws)→Calls Tryz.prog 38 #[.pointer (some ⟨hb,0,none⟩),Pv2 1 g 0 cap,.int .i64 (n:Int)] W fun e w'=>e=.returned (.int .i64 0)∧PrgAt arm room croom (K+1+tr.length+3) w' p q R t'∧Rok R W w') :
  Calls Tryz.prog 16 #[.pointer (some ⟨hb,0,none⟩),.int .i64 (n:Int)] w fun e w'=>e=.returned (.int .i64 0)∧PrgAt arm room croom (K+1+tr.length+3) w' p q R t'∧Rok R w w':=by
 have hpb:t.pages=t.now:=RS.pages_busy hbz
 have CG:=hid (changing_yes hb h hh hbz (by rw [hpb];exact hL.ln) (by omega))
 rw [hpb,hL.root]at CG
 have CLi:=hid (fun W g cap RR B0 (hP:PrgAt arm room croom (K+1) W p q RR t) (hH:HeapAt W hb p) (h1:RR hb) (h2:Row5 W B0 g cap (rootN (firstOf tr) (flat tr).length ws))=>list_lay (R:=RR) hb g cap B0 ws tr hP hH h1 hL hbz h2 hn4 (by omega))
 have CHs:=hid (fun W RR KK (hP:PrgAt arm room croom KK W p q RR t) (hH:HeapAt W hb p)=>has_any8 (R:=RR) hb (n:Int) hP hH)
 rw [hpb,show (decide (1<(n:Int))&&decide ((n:Int)≤(t.now.length:Int)))=true by rw [decide_eq_true (by omega),decide_eq_true (by omega)];rfl]at CHs
 have HH:=hid hh;have HR:=hid hR;have HRL:=hid hRl;have HT:=hid hT
 clear h hh hR hRl hL hT hpb
 generalize (flat tr).length=LL at *
 unfold Pv2 at *
 go_enter Tryz.func16,Tryz.ntmps16
 go_wp2_with (first
  | (go_at_call 34;refine CG.out.mono ?_;rintro e w1 ⟨g,cap,rfl,hr1,hg1,hP1,hok1⟩;have B1:=hid (show Below w1.heap.size w1 (w1.alloc (.cells #[.int .i64 1,.slice (some ⟨g,0,none⟩) 512 cap] 83)) from Below.alloc (Below.refl _ _) (Nat.le_refl _) _);have R1:=hid (hr1.keep B1.out);have X1:=hid (RB.new 83 w1 1 (some ⟨g,0,none⟩) 512 cap);have P1:=hid (hP1.new B1.out (Nat.le_refl _) (by simp));have K1:=hid hok1;have H1:=hid ((HH.out.rok hok1 HR.out).keep B1.out);have G1:=hid hg1;clear hr1 hg1 hP1 hok1)
  | (go_at_call 32;refine (CLi.out _ g cap _ _ P1.out H1.out (Or.inl (Or.inl HR.out)) R1.out).mono ?_;rintro e w2 ⟨ao,cp,rfl,hA⟩;have A2:=hid hA;have H2:=hid (H1.out.rok hA.k (Or.inl (Or.inl HR.out)));have X2:=hid (show RB 83 w2 w1.heap.size 1 (some ⟨g,0,none⟩) 512 cap from (hA.k.at_ (Or.inr rfl) X1.out.lt).trans X1.out);have R2:=hid (R1.out.fr hA.k (fun e=>e.1 (Or.inl (Or.inr rfl))));clear hA)
  | (go_at_call 37;refine (CHs.out w2 _ _ A2.out.at_ H2.out).mono ?_;rintro e w3 ⟨rfl,hb3⟩;have B3:=hid hb3;obtain ⟨x0,x1,_,_⟩:=(X2.out.keep hb3).cells;clear hb3)
  | (go_at_call 38;refine (HT.out w3 g cap ((A2.out.at_.less (fun b hb=>Or.inl hb)).keep B3.out) (H2.out.keep B3.out) (fun hg=>by have h1:=HRL.out g hg;have h2:=G1.out;omega) ((R2.out.base (Nat.zero_le _)).keep B3.out)).mono ?_;rintro e w4 ⟨rfl,hP3,hok3⟩;have P3:=hid hP3;have K3:=hid hok3;clear hP3 hok3))
 go_ret
 refine ⟨rfl,P3.out,?_⟩
 exact (((K1.out.below B1.out).then A2.out.k (fun b hb=>Or.inl (Or.inl hb))).below B3.out).then K3.out (fun b hb=>hb)
end
end
section
open Go.RowKit Go.Maps
open Dsk (gt hid undrew keep_old keep_cell lt_cell Rd)
open Cch (Fr)
open Jrn (Pv2 Row5 numAt RB fr_two trunkN rootN putN nul)
section
variable {arm:Prop} {room croom K:Nat} {p q:Nat} {R:Nat→Prop} {t:RS} {w:World}
structure HeapS (arm:Prop) (room croom K:Nat) (w:World) (hb p q:Nat) (R:Nat→Prop) (t:RS) (tr:List (Nat×List Nat)) (ws:List Nat):Prop where
 prg:PrgAt arm room croom K w p q R t
 heap:HeapAt w hb p
 mem:R hb
 lay:Lay t.now tr ws
 busy:t.busy=true
def HTo(arm:Prop)(room croom K:Nat)(w:World)(hb p q:Nat)(R:Nat→Prop)(N:Nat)(tr:List (Nat×List Nat))(ws:List Nat)(v:Value)(e:Ending)(w':World):Prop:=e=.returned v∧∃ t',HeapS arm room croom K w' hb p q R t' tr ws∧t'.now.length=N∧Rok R w w'
variable {ws:List Nat} {hb:Nat}
theorem HeapS.to{w':World}{K' N:Nat}{tr tr':List (Nat×List Nat)}{ws':List Nat}{t':RS}{v:Value}{e:Ending}(h:HeapS arm room croom K w hb p q R t tr ws)(he:e=.returned v)(hP:PrgAt arm room croom K' w' p q R t')(hk:Rok R w w')(hL:Lay t'.now tr' ws')(hb':t'.busy=true)(hN:t'.now.length=N):HTo arm room croom K' w hb p q R N tr' ws' v e w':=
 ⟨he,t',⟨hP,h.heap.rok hk h.mem,h.mem,hL,hb'⟩,hN,hk⟩
theorem take_none(h:HeapS arm room croom K w hb p q R t [] ws)(hn4:t.now.length<4000)(hK:K+5000≤500000) :
  Calls Tryz.prog 15 #[.pointer (some ⟨hb,0,none⟩)] w (HTo arm room croom (K+2) w hb p q R (t.now.length+1) [] ws (.tuple #[.int .i64 ((t.now.length+1:Nat):Int),.int .i64 0])):=by
 refine (Take_grow hb ws h.prg h.heap h.mem h.lay.root h.busy h.lay.ln hn4 (by omega)).mono ?_
 rintro e w' ⟨he,hP,hk⟩
 exact h.to he hP hk (h.lay.grow zeros) h.busy (by show (t.now++[zeros]).length=_;simp)
variable {ls:List Nat} {j:Nat}
theorem take_leaves{v:Nat}{r:List (Nat×List Nat)}(h:HeapS arm room croom K w hb p q R t ((j+1,ls++[v])::r) ws)(hn4:t.now.length≤4000)(hK:K+5000≤500000) :
  Calls Tryz.prog 15 #[.pointer (some ⟨hb,0,none⟩)] w (HTo arm room croom (K+6+r.length) w hb p q R t.now.length ((j+1,ls)::r) ws (.tuple #[.int .i64 (v:Int),.int .i64 0])):=by
 have hL:=h.lay
 have hcnt:=hL.count
 obtain ⟨_,h1,h2,h3,h4,nx,h5,h6,h7⟩:=hL.chain
 simp only [Nat.add_sub_cancel]at h1 h2 h3 h4 h6
 have hv:=h4 v (by simp)
 have hfl:(flat ((j+1,ls++[v])::r)).length=(flat ((j+1,ls)::r)).length+1:=by rw [flat_cons,flat_cons];simp;omega
 have hrl:=flat_len r
 have hc2:(flat ((j+1,ls)::r)).length=1+ls.length+(flat r).length:=by rw [flat_cons];simp;omega
 refine (Take_some hb v (((t.put j (trunkN nx ls)).put 0 (rootN (j+1) (flat ((j+1,ls)::r)).length ws)).put (v - 1) nul) ws _ h.prg h.heap h.mem (fun b hb=>h.prg.lt hb) hL h.busy (by simp) hn4 hK (fun W g cap hP hH hg hr=>?_)).mono ?_
 ·rw [hfl]at hr
  exact take_leaf hb g cap _ j nx v ls ws hP hH h.mem hg hr (by omega) h.busy (by omega) (by omega) (by omega) h6 (by simp at h3;omega) hv.1 hv.2 (by omega) h5 (by simp;omega)
 ·rintro e w' ⟨he,hP,hk⟩
  refine h.to he (hP.up (by simp;omega)) hk (hL.leaf h5 h7) h.busy ?_
  show (((t.now.set j _).set 0 _).set (v - 1) _).length=_
  simp
theorem give_leaf{n:Nat}{r:List (Nat×List Nat)}(h:HeapS arm room croom K w hb p q R t ((j+1,ls)::r) ws)(hl:ls.length<126)(hn1:2≤n)(hn:n≤t.now.length)(hnf:n∉flat ((j+1,ls)::r))(hn4:t.now.length≤4000)(hK:K+5000≤500000) :
  Calls Tryz.prog 16 #[.pointer (some ⟨hb,0,none⟩),.int .i64 (n:Int)] w (HTo arm room croom (K+6+r.length) w hb p q R t.now.length ((j+1,ls++[n])::r) ws (.int .i64 0)):=by
 have hL:=h.lay
 have hcnt:=hL.count
 obtain ⟨_,h1,h2,h3,h4,nx,h5,h6,h7⟩:=hL.chain
 simp only [Nat.add_sub_cancel]at h1 h2 h6
 have hrl:=flat_len r
 have hc2:(flat ((j+1,ls)::r)).length=1+ls.length+(flat r).length:=by rw [flat_cons];simp;omega
 refine (Give_some hb n ((t.put j (trunkN nx (ls++[n]))).put 0 (rootN (j+1) ((flat ((j+1,ls)::r)).length+1) ws)) ws _ h.prg h.heap h.mem (fun b hb=>h.prg.lt hb) hL h.busy hn1 hn hn4 hK (fun W g cap hP hH hg hr=>?_)).mono ?_
 ·exact give_more hb g cap _ n j nx ls ws hP hH h.mem hg hr (by omega) h.busy hn1 hn (by omega) (by omega) (by omega) (by omega) h6 hl (by simp;omega)
 ·rintro e w' ⟨he,hP,hk⟩
  refine h.to he (hP.up (by simp;omega)) hk (hL.more h5 h7 hl hn1 hn hnf) h.busy ?_
  show ((t.now.set j _).set 0 _).length=_
  simp
end
end
section
open Go.RowKit Go.Maps
open Dsk (gt hid undrew keep_old keep_cell lt_cell Rd)
open Cch (Fr)
open Jrn (Pv2 Row5 numAt RB fr_two trunkN rootN putN nul)
section
variable {arm:Prop} {room croom K:Nat} {p q:Nat} {R:Nat→Prop} {t:RS} {w:World}
variable {ws:List Nat} {hb n:Nat}
theorem give_none(h:HeapS arm room croom K w hb p q R t [] ws)(hn1:2≤n)(hn:n≤t.now.length)(hn4:t.now.length≤4000)(hK:K+5000≤500000) :
  Calls Tryz.prog 16 #[.pointer (some ⟨hb,0,none⟩),.int .i64 (n:Int)] w (HTo arm room croom (K+6) w hb p q R t.now.length [(n,[])] ws (.int .i64 0)):=by
 have hL:=h.lay
 refine (Give_some hb n ((t.put (n - 1) (trunkN 0 [])).put 0 (rootN n 1 ws)) ws _ h.prg h.heap h.mem (fun b hb=>h.prg.lt hb) hL h.busy hn1 hn hn4 hK (fun W g cap hP hH hg hr=>?_)).mono ?_
 ·refine (give_new hb g cap 0 n ws hP hH h.mem hg hr hL.wl (by omega) h.busy hn1 hn (by omega) (by simp;omega)).mono ?_
  rintro e w' ⟨he,hP',hk⟩
  exact ⟨he,hP'.up (by omega),hk⟩
 ·rintro e w' ⟨he,hP,hk⟩
  refine h.to he (hP.up (by simp)) hk (hL.new (by simp [firstOf]) hn1 hn (by simp [flat])) h.busy ?_
  show ((t.now.set (n - 1) _).set 0 _).length=_
  simp
theorem give_fresh{j:Nat}{ls:List Nat}{r:List (Nat×List Nat)}(h:HeapS arm room croom K w hb p q R t ((j+1,ls)::r) ws)(hl:ls.length=126)(hn1:2≤n)(hn:n≤t.now.length)(hnf:n∉flat ((j+1,ls)::r))(hn4:t.now.length≤4000)(hK:K+5000≤500000) :
  Calls Tryz.prog 16 #[.pointer (some ⟨hb,0,none⟩),.int .i64 (n:Int)] w (HTo arm room croom (K+6+r.length) w hb p q R t.now.length ((n,[])::(j+1,ls)::r) ws (.int .i64 0)):=by
 have hL:=h.lay
 have hcnt:=hL.count
 obtain ⟨_,h1,h2,h3,h4,nx,h5,h6,h7⟩:=hL.chain
 simp only [Nat.add_sub_cancel]at h1 h2 h6
 have hrl:=flat_len r
 have hc2:(flat ((j+1,ls)::r)).length=1+ls.length+(flat r).length:=by rw [flat_cons];simp;omega
 refine (Give_some hb n ((t.put (n - 1) (trunkN (j+1) [])).put 0 (rootN n ((flat ((j+1,ls)::r)).length+1) ws)) ws _ h.prg h.heap h.mem (fun b hb=>h.prg.lt hb) hL h.busy hn1 hn hn4 hK (fun W g cap hP hH hg hr=>?_)).mono ?_
 ·exact give_full hb g cap _ n j nx ls ws hP hH h.mem hg hr (by omega) h.busy hn1 hn (by omega) (by omega) (by omega) (by omega) h6 hl (by simp;omega)
 ·rintro e w' ⟨he,hP,hk⟩
  refine h.to he (hP.up (by simp;omega)) hk (hL.new (by simp only [firstOf];omega) hn1 hn hnf) h.busy ?_
  show ((t.now.set (n - 1) _).set 0 _).length=_
  simp
theorem all_yes{tr:List (Nat×List Nat)}(h:HeapS arm room croom K w hb p q R t tr ws)(hn4:t.now.length≤4000)(hK:K+5000≤500000) :
  Calls Tryz.prog 11 #[.pointer (some ⟨hb,0,none⟩)] w fun e w'=>∃ ao cp,e=.returned (.tuple #[.slice ao (flat tr).length cp,.int .i64 0])∧w'.ownsRow w.heap.size 3 1 (.slice ao (flat tr).length cp) (flat tr).length (zI (flat tr))∧PrgAt arm room croom (K+1+tr.length) w' p q (Own2 R (.slice ao (flat tr).length cp)) t∧Rok R w w':=by
 have hpb:t.pages=t.now:=RS.pages_busy h.busy
 have CG:=hid (root_yes hb h.prg h.heap (by rw [hpb];exact h.lay.ln) (by omega))
 rw [hpb,h.lay.root]at CG
 have CLi:=hid (fun W g cap RR B0 (hP:PrgAt arm room croom (K+1) W p q RR t) (hH:HeapAt W hb p) (h1:RR hb) (h2:Row5 W B0 g cap (rootN (firstOf tr) (flat tr).length ws))=>list_lay (R:=RR) hb g cap B0 ws tr hP hH h1 h.lay h.busy h2 hn4 (by omega))
 have HH:=hid h.heap;have HR:=hid h.mem;have HS:=hid h
 clear h hpb
 generalize hLL:(flat tr).length=LL at *
 have HLL:=hid hLL
 clear hLL
 unfold Pv2 at *
 go_enter Tryz.func11,Tryz.ntmps11
 go_wp2_with (first
  | (go_at_call 31;refine CG.out.mono ?_;rintro e w1 ⟨g,cap,rfl,hr1,hg1,hP1,hok1⟩;have B1:=hid (show Below w1.heap.size w1 (w1.alloc (.cells #[.int .i64 1,.slice (some ⟨g,0,none⟩) 512 cap] 83)) from Below.alloc (Below.refl _ _) (Nat.le_refl _) _);have R1:=hid (hr1.keep B1.out);have P1:=hid (hP1.new B1.out (Nat.le_refl _) (by simp));have K1:=hid hok1;have H1:=hid ((HH.out.rok hok1 HR.out).keep B1.out);clear hr1 hg1 hP1 hok1)
  | (go_at_call 32;refine (CLi.out _ g cap _ _ P1.out H1.out (Or.inl (Or.inl HR.out)) R1.out).mono ?_;rintro e w2 ⟨ao,cp,rfl,hA⟩;have A2:=hid hA;clear hA))
 go_ret2
 refine ⟨ao,cp,rfl,?_,A2.out.p.less (fun b hb=>by rcases hb with hb |hb;exact Or.inl (Or.inl (Or.inl hb));exact Or.inr hb),(K1.out.below B1.out).then A2.out.k (fun b hb=>Or.inl (Or.inl hb))⟩
 have:=A2.out.o
 rw [HLL.out]at this
 exact own_dn this (by have h1:=K1.out.size;have h2:=B1.out.size;omega)
end
end
end Go.Proofs.YtgjgkpnjchflaaaGreatDoor
