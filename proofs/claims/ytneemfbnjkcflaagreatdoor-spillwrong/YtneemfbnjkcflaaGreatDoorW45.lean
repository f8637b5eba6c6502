/- What is read of chains that were written; no statement of the seat is proved here. -/
import Derived.Test.YtneemfbnjkcflaaGreatDoorW43
import Derived.Test.YtneemfbnjkcflaaGreatDoorW44
set_option maxHeartbeats 16000000
set_option maxRecDepth 20000
namespace Go.Proofs.YtneemfbnjkcflaaGreatDoor
namespace Spl
open Go.RowKit Go.Maps
open Dsk (gt hid undrew keep_old keep_cell lt_cell newD)
open Jrn (Rd bs bs_length bs_one bs_get bs_get' bs_append rd_own Row5 putN putN_length numAt rootN Pv2)
open Cch (Fr)
structure Chn (P:List Pg) (N c:Nat) (xs:List Nat):Prop where
 at_:∀ j,j<c→P.getD (N+j) []=linkB (nxO N c j) (chunk xs j)
 len:N+c≤P.length
 n1:1≤N
 n4:N+c≤4000
 c1:1≤c
 m1:508*c<xs.length+508
 m2:xs.length≤508*c
 by_:∀ x∈xs,x<256
theorem nxN_link(nx:Nat)(xs:List Nat)(h:nx<4294967296):nxN (linkB nx xs)=nx:=by
 unfold nxN numAt linkB
 have hp:(putN nx 4 false).length=4:=putN_length nx 4 false
 rw [List.append_assoc,List.take_left' hp,List.drop_zero]
 have:=Jrn.psum_put4 nx h []
 rw [List.append_nil]at this
 exact this
theorem link_tail(nx:Nat)(xs:List Nat):(linkB nx xs).drop 4=xs++List.replicate (508 - xs.length) 0:=by
 unfold linkB
 rw [List.append_assoc,List.drop_left' (putN_length nx 4 false)]
theorem nxO_lt{N c j:Nat}(h:N+c≤4000):nxO N c j<4294967296:=by unfold nxO;split<;>omega
section
variable {P:List Pg} {N c:Nat} {xs:List Nat}
theorem Chn.pg(h:Chn P N c xs):∀ k,k<c→pgK P ((N+1:Nat):Int) k=((N+1+k:Nat):Int)
 | 0,_=>rfl
 | k+1,hk=>by
  have ih:=Chn.pg h k (by omega)
  have hl:=h.len
  have hok:okK P ((N+1:Nat):Int) k:=by have:=h.n1;unfold okK;rw [ih];omega
  rw [pgK_next hok]
  unfold pageK
  rw [ih,Int.toNat_natCast,show N+1+k - 1=N+k by omega,h.at_ k (by omega),nxN_link _ _ (nxO_lt h.n4)]
  unfold nxO
  rw [if_pos hk]
theorem Chn.ok(h:Chn P N c xs){k:Nat}(hk:k<c):okK P ((N+1:Nat):Int) k:=by
 have:=h.n1;have:=h.len
 unfold okK;rw [h.pg k hk];omega
theorem Chn.page(h:Chn P N c xs){k:Nat}(hk:k<c):pageK P ((N+1:Nat):Int) k=linkB (nxO N c k) (chunk xs k):=by
 unfold pageK
 rw [h.pg k hk,Int.toNat_natCast,show N+1+k - 1=N+k by omega,h.at_ k hk]
theorem Chn.last(h:Chn P N c xs):pgK P ((N+1:Nat):Int) c=0:=by
 obtain ⟨k,rfl⟩:∃ k,c=k+1:=⟨c - 1,by have:=h.c1;omega⟩
 rw [pgK_next (h.ok (k:=k) (by omega)),h.page (by omega),nxN_link _ _ (nxO_lt h.n4)]
 unfold nxO
 rw [if_neg (by omega)];rfl
theorem chunk_len(xs:List Nat)(k:Nat):(chunk xs k).length=min 508 (xs.length - 508*k):=by simp [chunk]
theorem Chn.tail(h:Chn P N c xs){k:Nat}(hk:k<c):(pageK P ((N+1:Nat):Int) k).drop 4=chunk xs k++List.replicate (508 - (chunk xs k).length) 0:=by rw [h.page hk,link_tail]
theorem all_rep(n:Nat):allNought (List.replicate n 0)=true:=by simp [allNought]
theorem all_app(a b:List Nat):allNought (a++b)=(allNought a&&allNought b):=by simp [allNought]
theorem Chn.behind(h:Chn P N c xs){n k:Nat}(hk:k<c)(hn:508*(c - 1)<n):allNought (behindK P ((N+1:Nat):Int) n k)=(if k+1=c then allNought (xs.drop n) else true):=by
 unfold behindK
 rw [h.tail hk]
 have hcl:=chunk_len xs k
 by_cases hl:k+1=c
 ·rw [if_pos hl]
  have hm1:=h.m1;have hm2:=h.m2
  have e1:chunk xs k=xs.drop (508*k):=by unfold chunk;exact List.take_of_length_le (by rw [List.length_drop];omega)
  rw [List.drop_append,all_app,e1,List.drop_drop,show 508*k+(n - 508*k)=n by omega]
  rw [List.drop_replicate,all_rep,Bool.and_true]
 ·rw [if_neg hl,List.drop_eq_nil_of_le (by simp;omega)]
  rfl
theorem Chn.rdok(h:Chn P N c xs){n:Nat}(hn1:508*(c - 1)<n):RdOk P ((N+1:Nat):Int) n c↔allNought (xs.drop n)=true:=by
 constructor
 ·intro hr
  have h1:=(hr.1 (c - 1) (by have:=h.c1;omega)).2
  rw [h.behind (by have:=h.c1;omega) hn1,if_pos (by have:=h.c1;omega)]at h1
  exact h1
 ·intro ha
  refine ⟨fun k hk=>⟨h.ok hk,?_⟩,h.last⟩
  rw [h.behind hk hn1]
  split
  ·exact ha
  ·rfl
theorem Chn.rdno(h:Chn P N c xs){n c':Nat}(hc:c'≠c):¬RdOk P ((N+1:Nat):Int) n c':=by
 intro hr
 rcases Nat.lt_or_ge c' c with h1 |h1
 ·have h2:=hr.2
  rw [h.pg c' h1]at h2;omega
 ·have h2:=(hr.1 c (by omega)).1
  unfold okK at h2
  rw [h.last]at h2;omega
def AllB(P:List Pg):Prop:=∀ i,∀ x∈P.getD i [],x<256
theorem AllB.page(h:AllB P)(first:Int):∀ k,∀ x∈pageK P first k,x<256:=fun _ x hx=>h _ x hx
theorem AllB.set(h:AllB P){i:Nat}{b:Pg}(hb:∀ x∈b,x<256):AllB (P.set i b):=by
 intro j x hx
 by_cases hj:i=j
 ·subst hj
  rcases Nat.lt_or_ge i P.length with h1 |h1
  ·rw [set_same h1]at hx;exact hb x hx
  ·rw [List.set_eq_of_length_le h1]at hx;exact h i x hx
 ·rw [set_other hj]at hx;exact h j x hx
theorem AllB.app(h:AllB P){b:Pg}(hb:∀ x∈b,x<256):AllB (P++[b]):=by
 intro j x hx
 rcases Nat.lt_or_ge j P.length with h1 |h1
 ·simp only [List.getD]at hx;rw [List.getElem?_append_left h1]at hx;exact h j x hx
 ·simp only [List.getD]at hx
  rw [List.getElem?_append_right h1]at hx
  rcases Nat.eq_or_lt_of_le h1 with e |e
  ·rw [←e]at hx;simp at hx;exact hb x hx
  ·rw [List.getElem?_eq_none (by simp;omega)]at hx;simp at hx
theorem AllB.grown(t:RS)(h:AllB t.now):∀ k,AllB (growN t k).now
 | 0=>h
 | k+1=>(AllB.grown t h k).app (by intro x hx;rw [List.eq_of_mem_replicate hx];omega)
theorem AllB.laid(t:RS)(h:AllB t.now)(N c:Nat)(xs:List Nat)(hx:∀ x∈xs,x<256):∀ k,AllB (layT t N c xs k).now
 | 0=>h
 | k+1=>(AllB.laid t h N c xs hx k).set (linkB_bytes _ _ (fun x hm=>hx x (List.mem_of_mem_drop (List.mem_of_mem_take hm))))
theorem chn_new(t:RS)(c:Nat)(xs:List Nat)(h1:1≤t.now.length)(h4:t.now.length+c≤4000)(hc:1≤c)(m1:508*c<xs.length+508)(m2:xs.length≤508*c)(hx:∀ x∈xs,x<256):Chn (layT (growN t c) t.now.length c xs c).now t.now.length c xs:=
 ⟨fun j hj=>layT_at _ _ _ _ _ _ hj (by rw [growN_len];omega),by rw [layT_len,growN_len];omega,h1,h4,hc,m1,m2,hx⟩
end
section
variable {arm:Prop} {room croom K:Nat} {p q:Nat} {R:Nat→Prop} {t:RS} {w:World}
theorem Read_arg(hb:Nat)(page n:Int)(hh:HeapAt w hb p)(hn:n<1∨20000<n):Calls Tryz.prog 13 #[.pointer (some ⟨hb,0,none⟩),.int .i64 page,.int .i64 n] w fun e w'=>e=.returned (.tuple #[.slice none 0 0,.int .i64 2])∧Below w.heap.size w w':=by
 have BA:=fun x y z=>gt (gt (show Below w.heap.size w (w.alloc x) from Below.alloc (Below.refl _ _) (Nat.le_refl _) _) (show Below _ _ ((w.alloc x).alloc y) from Below.alloc (Below.refl _ _) (Nat.le_refl _) _)) (show Below _ _ (((w.alloc x).alloc y).alloc z) from Below.alloc (Below.refl _ _) (Nat.le_refl _) _)
 have G:=hid BA
 have C:=hid (fun W (hW:Below w.heap.size w W)=>asked_yes (hh.keep hW) n)
 rw [show askN n=2 from if_pos hn]at C
 clear hh BA hn
 go_enter Tryz.func13,Tryz.ntmps13
 go_wp2_with (go_at_call 20;refine (C.out _ (G.out _ _ _)).mono ?_;rintro e w1 ⟨rfl,hw⟩;obtain rfl:=hw.symm)
 refine bodyPost_ret (ret_cells (x:=.slice none 0 0) (y:=.int .i64 2) rfl agg34 agg31 rfl rfl (boxed_cell (al_step (al_last _ _ (by simp)))).1 (boxed_cell (al_last _ _ (by simp))).1) rfl ?_
 exact ⟨rfl,G.out _ _ _⟩
theorem Write_arg(hb m cp:Nat)(ao:Option Addr)(hh:HeapAt w hb p)(hn:m<1∨20000<m)(hm:m≤1000000):Calls Tryz.prog 7 #[.pointer (some ⟨hb,0,none⟩),.slice ao m cp] w fun e w'=>e=.returned (.tuple #[.int .i64 0,.int .i64 2])∧Below w.heap.size w w':=by
 have BA:=fun x y=>gt (show Below w.heap.size w (w.alloc x) from Below.alloc (Below.refl _ _) (Nat.le_refl _) _) (show Below _ _ ((w.alloc x).alloc y) from Below.alloc (Below.refl _ _) (Nat.le_refl _) _)
 have G:=hid BA
 have C:=hid (fun W (hW:Below w.heap.size w W)=>asked_yes (hh.keep hW) (m:Int))
 rw [show askN (m:Int)=2 from if_pos (by omega)]at C
 clear hh BA hn
 go_enter Tryz.func7,Tryz.ntmps7
 go_wp2_with (go_at_call 20;refine (C.out _ (G.out _ _)).mono ?_;rintro e w1 ⟨rfl,hw⟩;have HW:=hid hw;clear hw)
 go_ret2
 exact ⟨rfl,by rw [HW.out];exact G.out _ _⟩
theorem sfresh_any(w:World)(hT:Jrn.Tab w)(h0:0<w.heap.size) :
  Calls Tryz.prog 6 #[] w fun e w'=>∃ p hb,e=.returned (.tuple #[.pointer (some ⟨hb,0,none⟩),.bool true])∧w.heap.size≤hb∧HeapS False 32768 16 3 w' hb p w.heap.size (Plus (Old w) hb) T1 [] z60∧Rok (Old w) w w':=by
 have c17:=hid (Dsk.new_yes 32768 w (by omega) (by omega))
 have HT:=hid hT;have H0:=hid h0
 clear hT h0
 go_enter Tryz.func6,Tryz.ntmps6
 go_wp2_with (first
  | (go_at_call 17;refine c17.out.mono ?_;rintro e w1 ⟨rfl,⟨P1,hd1,ha1⟩,hb1⟩;have D1:=hid hd1;have K1:=hid ha1;have B1:=hid hb1;clear hd1 ha1 hb1)
  | (go_at_call 16;refine (open_clean w.heap.size 16 P1 (newD 32768) [] w1 D1.out (clean_new 32768) whole_nil (by simp) (by omega) (by omega) (HT.out.keep B1.out) ⟨by have:=H0.out;have:=B1.out.size;omega,fun hd=>by rcases hd with h1 | h1;(have:=H0.out;omega);(have:=K1.out 0 h1;omega)⟩ (by show 0≤_;omega)).mono ?_;rintro e w2 ⟨p,x,rfl,ho⟩;have N2:=hid (prg_new B1.out K1.out ho);clear ho)
  | (go_at_call 18;refine (prg_begin N2.out.1).mono ?_;rintro e w3 ⟨rfl,hP3,hok3⟩;have P3:=hid (show PrgAt False 32768 16 1 w3 p w.heap.size (Old w) rt0.begin from hP3);have K3:=hid (N2.out.2.then hok3 (fun _ h=>h));clear hP3 hok3)
  | (go_at_call 19;refine (Make_yes P3.out rfl rfl (by omega)).mono ?_;rintro e w4 ⟨hb,rfl,hH4,hhb,hP4,hok4⟩;have H4:=hid hH4;have P4:=hid hP4;have K4:=hid (K3.out.then hok4 (fun _ h=>h));have HB4:=hid (Nat.le_trans K3.out.size hhb);clear hH4 hP4 hok4 hhb))
 go_ret2
 refine ⟨p,hb,rfl,HB4.out,⟨P4.out,H4.out,Or.inr rfl,⟨rfl,rfl,by simp [flat],rfl,by decide⟩,rfl,rfl,rfl⟩,K4.out⟩
end
end Spl
namespace Spl
open Go.RowKit Go.Maps
open Dsk (gt hid undrew keep_old keep_cell lt_cell newD)
open Jrn (Rd bs bs_length bs_one bs_get bs_get' bs_append rd_own Row5 putN putN_length numAt rootN Pv2)
open Cch (Fr)
def wantI(k:Nat)(xs:List Nat)(ask:Int):Int:=if ask<1∨20000<ask then 2 else if countI ask≠countI (k:Int) then 9 else if allNought (xs.drop ask.toNat) then 0 else 9
section
variable {arm:Prop} {room croom K:Nat} {p q:Nat} {R:Nat→Prop} {t:RS} {w:World}
def Stay(arm:Prop)(room croom K:Nat)(p q:Nat)(R:Nat→Prop)(t:RS)(hb:Nat)(w w':World):Prop:=HeapS arm room croom K w' hb p q R t [] z60∧Rok R w w'
theorem stay_prg{K' hb:Nat}{w':World}(h:HeapS arm room croom K w hb p q R t [] z60)(hP:PrgAt arm room croom K' w' p q R t)(hk:Rok R w w'):Stay arm room croom K' p q R t hb w w':=⟨HeapS.moved h hP (h.heap.rok hk h.mem) h.mem,hk⟩
theorem ask_any(hb k c:Nat)(xs:List Nat)(ask:Int)(h:HeapS arm room croom K w hb p q R t [] z60)(hC:Chn t.now 1 c xs)(hA:AllB t.now)(hk1:1≤k)(hc:c=(k - 1)/508+1)(hK:K+100≤800000) :
  Calls Tryz.prog 13 #[.pointer (some ⟨hb,0,none⟩),.int .i64 2,.int .i64 ask] w fun e w'=>∃ ao l cp,e=.returned (.tuple #[.slice ao l cp,.int .i64 (wantI k xs ask)])∧(decide (0<(l:Int))=decide (wantI k xs ask=0))∧Stay arm room croom (K+40) p q R t hb w w':=by
 by_cases h1:ask<1∨20000<ask
 ·have hw:wantI k xs ask=2:=if_pos h1
  rw [hw]
  refine (Read_arg hb 2 ask h.heap h1).mono ?_
  rintro e w' ⟨rfl,hB⟩
  exact ⟨none,0,0,rfl,by decide,stay_prg h ((h.prg.keep hB).up (by omega)) (Rok.of_below hB)⟩
 ·obtain ⟨n,rfl⟩:∃ n:Nat,ask=(n:Int):=⟨ask.toNat,by omega⟩
  have hpb:t.pages=t.now:=RS.pages_busy h.busy
  have hlt:∀ b,R b→b<w.heap.size:=fun b hb=>h.prg.lt hb
  obtain ⟨cn,hcn⟩:∃ cn,cn=(n - 1)/508+1:=⟨_,rfl⟩
  have hR:=Read_any hb n cn 2 h.prg h.heap h.mem hlt (by omega) (by omega) hcn (by rw [hpb];exact h.lay.ln) (by rw [hpb];exact hA.page 2) hK
  rw [hpb]at hR
  have hcn40:cn≤40:=by omega
  refine hR.mono ?_
  have hw:wantI k xs (n:Int)=if cn≠c then 9 else if allNought (xs.drop n) then 0 else 9:=by
   unfold wantI
   rw [if_neg h1,countN n (by omega),countN k hk1,←hcn,←hc,Int.toNat_natCast]
   by_cases e:cn=c
   ·rw [if_neg (fun h=>h (by rw [e])),if_neg (show ¬cn≠c from fun h=>h e)]
   ·rw [if_pos (by omega),if_pos e]
  have hiff:RdOk t.now 2 n cn↔wantI k xs (n:Int)=0:=by
   rw [hw]
   by_cases e:cn=c
   ·subst e
    rw [if_neg (by omega)]
    have:=hC.rdok (n:=n) (by omega)
    rw [show ((1+1:Nat):Int)=2 from rfl]at this
    rw [this]
    cases allNought (xs.drop n)<;>simp
   ·rw [if_pos e]
    have:=hC.rdno (n:=n) e
    rw [show ((1+1:Nat):Int)=2 from rfl]at this
    exact ⟨fun h=>absurd h this,fun h=>by cases h⟩
  rintro e w' ⟨hk,⟨hok,ao,cp,rfl,_,_,hP⟩ | ⟨hno,rfl,hP⟩⟩
  ·have h0:=hiff.1 hok
   rw [h0]
   exact ⟨ao,n,cp,rfl,by rw [decide_eq_true (show (0:Int)<n by omega)];rfl,stay_prg h ((hP.less (fun b hb=>Or.inl hb)).up (by omega)) hk⟩
  ·have h0:wantI k xs (n:Int)≠0:=fun e=>hno (hiff.2 e)
   have h9:wantI k xs (n:Int)=9:=by
    rw [hw]at h0 ⊢
    split
    ·rfl
    ·rename_i e
     rw [if_neg e]at h0
     split
     ·rename_i e2;rw [if_pos e2]at h0;exact absurd rfl h0
     ·rfl
   rw [h9]
   exact ⟨none,0,0,rfl,by decide,stay_prg h (hP.up (by omega)) hk⟩
theorem ask600(hb:Nat)(page:Int)(h:HeapS arm room croom K w hb p q R t [] z60)(hA:AllB t.now)(hK:K+100≤800000) :
  Calls Tryz.prog 13 #[.pointer (some ⟨hb,0,none⟩),.int .i64 page,.int .i64 600] w fun e w'=>∃ ao l cp er,e=.returned (.tuple #[.slice ao l cp,.int .i64 er])∧(page<2∨(t.now.length:Int)<page→er=9)∧Stay arm room croom (K+40) p q R t hb w w':=by
 have hpb:t.pages=t.now:=RS.pages_busy h.busy
 have hR:=Read_any hb 600 2 page h.prg h.heap h.mem (fun b hb=>h.prg.lt hb) (by omega) (by omega) rfl (by rw [hpb];exact h.lay.ln) (by rw [hpb];exact hA.page page) hK
 rw [hpb]at hR
 refine hR.mono ?_
 rintro e w' ⟨hk,⟨hok,ao,cp,rfl,_,_,hP⟩ | ⟨hno,rfl,hP⟩⟩
 ·refine ⟨ao,600,cp,0,rfl,fun hp=>?_,stay_prg h ((hP.less (fun b hb=>Or.inl hb)).up (by omega)) hk⟩
  have:=(hok.1 0 (by omega)).1
  unfold okK pgK at this
  omega
 ·exact ⟨none,0,0,9,rfl,fun _=>rfl,stay_prg h (hP.up (by omega)) hk⟩
end
end Spl
namespace Spl
open Go.RowKit Go.Maps
open Dsk (gt hid undrew keep_old keep_cell lt_cell newD)
open Jrn (Rd bs bs_length bs_one bs_get bs_get' bs_append rd_own Row5 putN putN_length numAt rootN Pv2)
open Cch (Fr)
theorem T1_len:T1.now.length=1:=by decide
theorem T1_all:AllB T1.now:=by
 have h:T1.now = [rootN 0 0 z60]:=rfl
 rw [h]
 have:=AllB.app (P:=[]) (fun i x hx=>by simp at hx) (Jrn.rootN_bytes 0 0 z60)
 simpa using this
section
variable {arm:Prop} {room croom K:Nat} {p q:Nat} {R:Nat→Prop} {t:RS} {w:World}
def Wrote(arm:Prop)(room croom K:Nat)(p q:Nat)(R:Nat→Prop)(t:RS)(hb N c:Nat)(xs:List Nat)(w w':World):Prop:=
 ∃ t',HeapS arm room croom (K+3+3*c) w' hb p q R t' [] z60∧t'.now.length=N+c∧Chn t'.now N c xs∧AllB t'.now∧(∀ j,j<N→t'.now.getD j []=t.now.getD j [])∧Rok R w w'
theorem wr_any(hb k c g N:Nat)(xs:List Nat){w2:World}(h:HeapS arm room croom K w hb p q R t [] z60)(hA:AllB t.now)(hB:Below w.heap.size w w2)(hr:RowB w2 g xs)(hg:w.heap.size≤g)(hl:xs.length=k)(hx:∀ x∈xs,x<256)(hk1:1≤k)(hk2:k≤20000)(hc:c=(k - 1)/508+1)(hN:N=t.now.length)(hn4:N+c≤4000)(hK:K+20000≤500000) :
  Calls Tryz.prog 7 #[.pointer (some ⟨hb,0,none⟩),.slice (some ⟨g,0,none⟩) k k] w2 fun e w'=>e=.returned (.tuple #[.int .i64 ((N+1:Nat):Int),.int .i64 0])∧Wrote arm room croom K p q R t hb N c xs w w':=by
 subst hN
 have S2:=HeapS.moved h (h.prg.new hB (g:=g) hg (Array.getElem?_eq_some_iff.1 hr).1) (h.heap.keep hB) (Or.inl h.mem)
 refine (Write_yes hb c g 0 k xs z60 S2 (Or.inr rfl) (hr.rd hl) hx hk1 hk2 hc hn4 hK).mono ?_
 rintro e w' ⟨rfl,hP,hk⟩
 obtain ⟨h1,h2⟩:=Write_heap S2 hP hk
 refine ⟨rfl,_,HeapS.moved h1 (h1.prg.less (fun b hb=>Or.inl hb)) h1.heap h.mem,h2,chn_new t c xs h.lay.ln hn4 (by omega) (by omega) (by omega) hx,AllB.laid _ (AllB.grown t hA c) _ _ _ hx c,fun j hj=>?_,(Rok.of_below hB).then hk (fun b hb=>Or.inl hb)⟩
 rw [layT_get _ _ _ _ _ _ (Or.inl hj),growN_now]
 simp only [List.getD]
 rw [List.getElem?_append_left hj]
end
end Spl
namespace Spl
open Go.RowKit Go.Maps
open Dsk (gt hid undrew keep_old keep_cell lt_cell newD)
open Jrn (Rd bs bs_length bs_one bs_get bs_get' bs_append rd_own Row5 putN putN_length numAt rootN Pv2)
open Cch (Fr)
variable {ask:Int} {xs:List Nat} {k:Nat}
theorem want_arg(h:ask<1∨20000<ask):wantI k xs ask=2:=if_pos h
theorem want_bad(h:¬(ask<1∨20000<ask))(hc:countI ask≠countI (k:Int)):wantI k xs ask=9:=by unfold wantI;rw [if_neg h,if_pos hc]
theorem want_same(h:¬(ask<1∨20000<ask))(hc:countI ask=countI (k:Int)):wantI k xs ask=if allNought (xs.drop ask.toNat) then 0 else 9:=by unfold wantI;rw [if_neg h,if_neg (fun e=>e hc)]
end Spl
end Go.Proofs.YtneemfbnjkcflaaGreatDoor
