/- The law FreeActs returns true and turns nothing that was there, whatever it is called with; the walk alone. -/
import Derived.Test.YtgjgkpnjchflaaaGreatDoorQ44
import Derived.Test.YtgjgkpnjchflaaaGreatDoorQ38
set_option maxHeartbeats 16000000
set_option maxRecDepth 20000
namespace Go.Proofs.YtgjgkpnjchflaaaGreatDoor
section
open Go.RowKit Go.Maps
open Dsk (gt hid undrew keep_old keep_cell lt_cell Rd op_at)
open Cch (Fr wpAnyK wpAnyK_done wp_region_K wpAnyK_ready AllReadyK)
def Ac8(w:World)(b off L:Nat)(A B C:Nat→Int):Prop:=∀ i,i<L→w.cell? ⟨b,off+i*3,none⟩=some (.int .i64 (A i))∧w.cell? ⟨b,off+i*3+1,none⟩=some (.int .i64 (B i))∧w.cell? ⟨b,off+i*3+2,none⟩=some (.int .i64 (C i))∧-9223372036854775808≤C i∧C i≤9223372036854775807
def Ac8V(w:World)(lo:Option Addr)(L:Nat)(A B C:Nat→Int):Prop:=0<L→∃ b off,lo=some ⟨b,off,none⟩∧Ac8 w b off L A B C
variable {w:World}
theorem Ac8.keep{w':World}{b off L:Nat}{A B C:Nat→Int}(h:Ac8 w b off L A B C)(hb:Below w.heap.size w w'):Ac8 w' b off L A B C:=fun i hi=>⟨keep_old hb (h i hi).1,keep_old hb (h i hi).2.1,keep_old hb (h i hi).2.2.1,(h i hi).2.2.2⟩
def wd0:List Int:=List.replicate 60 0
theorem wsOf_wd0:wsOf wd0=z60:=by unfold wsOf wd0 z60;rw [List.map_replicate];rfl
def zeroH:Obj:=.cells (hC (.slice none 0 0) 1 wd0).toArray 32
theorem lay_T1':Lay T1.now [] (wsOf wd0):=by rw [wsOf_wd0];exact ⟨rfl,rfl,by simp [flat],by simp [z60],by decide⟩
theorem FA.start{w1:World}{hb p:Nat}(hH:HeapAt w1 hb p)(_hn:w.heap.size≤hb)(hP:PrgAt False 32768 16 3 w1 p w.heap.size (Plus (Old w) hb) T1)(hk:Rok (Old w) w w1) :
  FA 3 (Old w) w hb p w.heap.size w1.heap.size none 0 0 [] [] 1 (wsOf wd0) [] 1 wd0 (w1.alloc zeroH):=by
 have B:=Below.alloc (Below.refl w1.heap.size w1) (Nat.le_refl _) zeroH
 have hl:=hH.lt
 have hs:=hk.size
 have e1:(w1.alloc zeroH).heap[w1.heap.size]? = some zeroH:=heap_alloc_new _ _
 have hlt:w1.heap.size<(w1.alloc zeroH).heap.size:=(Array.getElem?_eq_some_iff.1 e1).1
 refine ⟨⟨Plus (Plus (Old w) hb) w1.heap.size,fun b=>b=w1.heap.size,T1,⟨hP.new B (Nat.le_refl _) hlt,hH.keep B,Or.inl (Or.inr rfl),lay_T1',rfl⟩,rfl,⟨⟨_,e1,Or.inl ⟨rfl,rfl⟩⟩,rfl,fun b hb=>by rw [hb];exact hlt,by simp [wd0]⟩,fun b hb=>Or.inr hb,fun b hb=>Or.inl (Or.inl hb),fun b hb ho=>?_,fun e=>?_,fun a ha=>by cases ha⟩,⟨rfl,fun _=>⟨rfl,rfl⟩,fun ad h=>(by cases h),fun u hu=>by cases hu⟩,Nat.le_refl _,hk.below B⟩
 ·have:=ho.1;simp only at hb;omega
 ·omega
section
variable {K:Nat} {O:Nat→Prop} {w W W':World} {hb p q hm:Nat} {ao:Option Addr} {n c N N2:Nat} {l ws:List Nat} {tr tr2:List (Nat×List Nat)} {wd:List Int}
theorem FA.all(h:FA K O w hb p q hm ao n c l tr N ws tr2 N2 wd W)(hN:N≤1000)(hK:K+20000≤490000):Calls Tryz.prog 11 #[.pointer (some ⟨hb,0,none⟩)] W fun e W'=>∃ ao' c',e=.returned (.tuple #[.slice ao' (flat tr).length c',.int .i64 0])∧FA (K+2000) O w hb p q hm ao' (flat tr).length c' (flat tr) tr N ws tr2 N2 wd W':=by
 obtain ⟨R,S,t,h1,h2,h3,h4,h5,h6,h7,h8⟩:=h.is
 have hc:=h1.lay.count
 have hfl:=flat_len tr
 refine (all_yes h1 (by omega) (by omega)).mono ?_
 rintro e W' ⟨ao',c',he,ho,hP,hk⟩
 have hr:=RdN.of_own ho
 refine ⟨ao',c',he,⟨Own2 R (.slice ao' (flat tr).length c'),S,t,⟨hP.up (by omega),h1.heap.rok hk h1.mem,Or.inl h1.mem,h1.lay,h1.busy⟩,h2,h3.fr hk (fun b hb e=>e.1 (h4 b hb)),fun b hb=>Or.inl (h4 b hb),fun b hb=>Or.inl (h5 b hb),h6,h7,fun a ha=>?_⟩,hr.row,hr.cap,h.k.then hk h5⟩
 refine ⟨Or.inr (by rw [ha];rfl),fun hs=>?_,hr.zero a ha⟩
 have e1:=(rr_blk ho (k:=a.block) (by rw [ha];rfl)).1
 have e2:=h3.lt _ hs
 omega
theorem FA.count(h:FA K O w hb p q hm ao n c l tr N ws tr2 N2 wd W)(hN:N≤1000)(hK:K+20000≤490000):Calls Tryz.prog 12 #[.pointer (some ⟨hb,0,none⟩)] W fun e W'=>e=.returned (.tuple #[.int .i64 ((flat tr).length:Int),.int .i64 0])∧FA (K+1) O w hb p q hm ao n c l tr N ws tr2 N2 wd W':=
 h.prg (fun R t hs hl=>by
  refine (count_yes hs (by omega) (by omega)).mono ?_
  rintro e w' ⟨he,hp,hk⟩
  have:=hs.same he hp hk
  rw [hl]at this;exact this)
theorem FA.rdn(h:FA K O w hb p q hm ao n c l tr N ws tr2 N2 wd W):RdN W ao n c l:=by
 obtain ⟨R,S,t,h1,h2,h3,h4,h5,h6,h7,h8⟩:=h.is
 exact ⟨h.row,fun a ha=>(h8 a ha).2.2,h.cap⟩
theorem FA.mall(h:FA K O w hb p q hm ao n c l tr N ws tr2 N2 wd W)(hF:(flat tr2).length≤1000):Calls Tryz.prog 14 #[.pointer (some ⟨hm,0,none⟩)] W fun e W'=>∃ ao' c',e=.returned (.slice ao' (flat tr2).length c')∧RdN W' ao' (flat tr2).length c' (flat tr2)∧Below W.heap.size W W':=by
 obtain ⟨S,hs⟩:=h.refc
 refine (mall_any hs (by omega)).mono ?_
 rintro e W' ⟨ao',c',he,ho,hb⟩
 exact ⟨ao',c',he,RdN.of_own ho,hb⟩
end
def S12c(hm N:Nat)(X:World):Prop:=X.cell? ⟨hm,1,none⟩=some (.int .i64 (N:Int))
theorem acts8_long(lo:Option Addr)(L C:Nat)(w:World)(hT:Jrn.Tab w)(h0:0<w.heap.size)(hL:400<L) :
  Calls Tryz.prog 3 #[.slice lo L C] w fun e w'=>e=.returned (.bool true)∧Below w.heap.size w w':=by
 have h1:(400:Int)<(L:Int):=by omega
 have CL:=hid (lives_any w hT h0)
 clear hT h0
 go_enter Tryz.func3,Tryz.ntmps3
 go_wp2_with (go_at_call 7;refine CL.out.mono ?_;rintro e w3 ⟨rfl,hb3⟩;replace hb3:=hid hb3)
 go_ret
 exact ⟨rfl,hb3.out⟩
theorem acts8_yes(lo:Option Addr)(L C:Nat)(A B Cx:Nat→Int)(w:World)(hT:Jrn.Tab w)(h0:0<w.heap.size)(h:Ac8V w lo L A B Cx)(hL:L≤400) :
  Calls Tryz.prog 3 #[.slice lo L C] w fun e w'=>e=.returned (.bool true)∧Below w.heap.size w w':=by
 have h1:¬(400:Int)<(L:Int):=by omega
 have H:=hid h;have HT:=hid hT;have H0:=hid h0
 have C8:=hid (fresh_any w hT h0)
 clear h hT h0
 go_enter Tryz.func3,Tryz.ntmps3
 go_wp2_with (go_at_call 8;refine C8.out.mono ?_;rintro e w1 ⟨p,hb,rfl,hH1,hhb,hP1,hok1⟩;have O1:=hid (FA.start hH1 hhb hP1 hok1);clear hH1 hhb hP1 hok1)
 obtain ⟨hm,hhm⟩:∃ hm,hm=w1.heap.size:=⟨_,rfl⟩
 obtain ⟨q,hq⟩:∃ q,q=w.heap.size:=⟨_,rfl⟩
 rw [←hhm,←hq]at O1
 (try rw [←hhm])
 clear C8 hhm
 go_loopg [5,7,29] L (fun cc v5 v7 v29 X=>∃ (i:Nat) (ao:Option Addr) (n c:Nat) (l:List Nat) (tr:List (Nat×List Nat)) (N:Nat) (wd:List Int),i+cc=L∧v29=.int .i64 (i:Int)∧v7=.slice ao n c∧v5=.bool true∧N+(flat tr).length≤i+1∧Hid (Parted l tr N)∧Hid (∀ z∈wd,-9223372036854775808≤z∧z≤9223372036854775807)∧Hid (FA (3+810*i) (Old w) w hb p q hm ao n c l tr N (wsOf wd) tr N wd X))
 case atStart=>exact ⟨0,none,0,0,[],[],1,wd0,by omega,rfl,rfl,rfl,by simp [flat],hid ⟨by simp [flat],(fun y hy=>by cases hy),rfl⟩,hid (fun z hz=>by rw [List.eq_of_mem_replicate hz];omega),O1⟩
 case round=>
  obtain ⟨i,ao,n,c,l,tr,N,wd,hik,rfl,rfl,rfl,hb1,HP,HWD,OA⟩:=hrel
  clear O1
  have hcnt:=HP.out.cnt
  by_cases hiL:i<L
  ·have hiL':(i:Int)<(L:Int):=by omega
   obtain ⟨b,off,rfl,hA⟩:=H.out (by omega)
   obtain ⟨c0,c1,c2,hx⟩:=(hA.keep (old_below OA.out.k)) i hiL
   clear hA
   generalize A i=kA at c0
   generalize B i=kB at c1
   generalize Cx i=kC at c2 hx
   obtain ⟨X1,hX1⟩:∃ X1,X1=wr.alloc (.cells #[.int .i64 kA,.int .i64 kB,.int .i64 kC] 35):=⟨_,rfl⟩
   have BX:=hid (show Below wr.heap.size wr X1 by rw [hX1];exact Below.alloc (Below.refl _ _) (Nat.le_refl _) _)
   have CA:=hid (act_any8 kA kB kC hx (OA.out.below BX.out) HP.out (by omega) (by omega) HWD.out)
   have HX1:=hid hX1
   clear hX1 hx
   go_upto_region 12 with (go_at_call 9;rw [←HX1.out];refine CA.out.mono ?_;rintro e w2 ⟨ao2,n2,c2',l2,tr2,N2,wd2,rfl,hA2,hP2,hM2,hW2⟩;have A2:=hid (hA2.up (K':=3+810*(i+1)) (by omega));have P2:=hid hP2;have M2:=hid hM2;have W2:=hid hW2;clear hA2 hP2 hM2 hW2)
   clear CA
   have hs0:S12c hm N2 w2.drew:=A2.out.hm_cells.1
   have CPg:=hid (A2.out.below (Below.refl _ _).drew).pages
   refine wp_region_K (S:=S12c hm N2) (fun _=>false) (by kernel_rfl) hs0 (fun hHeld=>?_)
   refine gkp 0 ?_
   refine gkp 1 ?_
   refine gkp 2 ?_
   refine gkp 3 ?_
   refine gkp 5 ?_
   refine gkp 6 ?_
   refine gkp 7 ?_
   refine gkt 8 ?_ (h:=by intro W hSw;have k0:=hSw;unfold S12c at k0;go_simp;first |done |with_reducible rfl)
   refine gk1 4 (fun K hK=>?_)
   go_simp
   go_at_call 10;refine CPg.out.mono ?_;rintro e w3 ⟨rfl,hb3⟩;have A3:=hid ((A2.out.below (Below.refl _ _).drew).below hb3);have hR:S12c hm N2 w3:=A3.out.hm_cells.1;clear hb3
   refine hK.out _ _ hR (fun hHeld=>?_)
   clear hK K
   (try simp only [Act.put,sA,sZ,sS])
   refine gkp 9 ?_ (v:=.bool false)
   refine gkp 10 ?_
   refine wpAnyK_done (by kernel_rfl) ?_ _
   clear hHeld hR hs0 CPg
   go_wp2
   go_roundg (gk - 1)
   case measure=>omega
   case rel=>exact ⟨i+1,ao2,n2,c2',l2,tr2,N2,wd2,by omega,by go_num,rfl,rfl,by have:=M2.out;omega,P2,W2,A3⟩
  ·have hiL':¬(i:Int)<(L:Int):=by omega
   have hFb:(flat tr).length≤1000:=by omega
   have CA:=hid (OA.out.all (by omega) (by omega))
   obtain ⟨F,hF⟩:∃ F,F=(flat tr).length:=⟨_,rfl⟩
   rw [←hF]at CA hFb
   have HF:=hid hF
   have HNb:=hid (show N≤1000 by omega)
   have hi4:i≤400:=by omega
   clear hF hb1 hcnt HP HWD
   go_wp2_with (first
    | (go_at_call 11;refine CA.out.mono ?_;rintro e w9 ⟨ao3,c3,rfl,hA9⟩;have A9:=hid hA9;have CC:=hid (hA9.count HNb.out (by omega));rw [←HF.out]at CC;clear hA9)
    | (go_at_call 12;refine CC.out.mono ?_;rintro e w10 ⟨rfl,hA10⟩;have A10:=hid hA10;have CM:=hid (hA10.mall (by rw [←HF.out];exact hFb));rw [←HF.out]at CM;clear hA10)
    | (go_at_call 14;refine CM.out.mono ?_;rintro e w11 ⟨ao4,c4,rfl,hr11,hb11⟩;have B11:=hid hb11;have CI:=hid (ints8 ((A10.out.rdn).below hb11) hr11 (by omega));clear hr11 hb11)
    | (go_at_call 13;refine CI.out.mono ?_;rintro e w12 ⟨rfl,hb12⟩;have B12:=hid (gt B11.out hb12);have CL:=hid (lives_any w12 (HT.out.keep (gt (old_below A10.out.k) B12.out)) (by have h1:=(old_below A10.out.k).size;have h2:=B12.out.size;have h3:=H0.out;omega));clear hb12)
    | (go_at_call 7;refine CL.out.mono ?_;rintro e w13 ⟨rfl,hb13⟩;have B13:=hid (gt B12.out hb13);clear hb13))
   go_ret
   exact ⟨rfl,gt (old_below A10.out.k) B13.out⟩
end
end Go.Proofs.YtgjgkpnjchflaaaGreatDoor
