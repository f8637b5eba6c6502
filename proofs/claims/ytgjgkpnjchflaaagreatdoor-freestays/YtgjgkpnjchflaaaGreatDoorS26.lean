/- The steps that make a journal sure, and then hot; no statement of the seat is proved here. -/
import Derived.Test.YtgjgkpnjchflaaaGreatDoorS25
import Derived.Test.YtgjgkpnjchflaaaGreatDoorS17
set_option maxHeartbeats 16000000
set_option maxRecDepth 20000
namespace Go.Proofs.YtgjgkpnjchflaaaGreatDoor
section
open Go.RowKit Go.Maps
open Dsk (gt hid undrew keep_old keep_cell lt_cell Rd DS FS Sec DiskP DFrame Grew From op_at)
open Cch (CS CP Fr wpAnyK wpAnyK_take wpAnyK_pure wpAnyK_ready wpAnyK_done wp_region_K AllReadyK.cons AllReadyK.nil)
def recL(L T m:Nat)(P:Nat→Int)(D:Nat→List Nat):List Stp:=
 [.wr 1 0 (chunks (1+5*L) (Jrn.bytesN (L:Int) (T:Int) m false L P D)),.sy 1,.wr 1 0 (chunks 1 (Jrn.headN L T m true)),.sy 1]
theorem steps_lit{w:World}{q B:Nat}{N:Nat→Prop}{us:List Value}{l:List Stp}(e:TypeId)(hN:∀ k,N k→k<B)(hB:B≤w.heap.size)(hs:∀ (i:Nat) (s:Stp),l[i]? = some s→∃ u,us[i]? = some u∧StepAt (w.alloc (.cells us.toArray e)) q N u s) :
  StepsAt (w.alloc (.cells us.toArray e)) q N (some ⟨w.heap.size,0,none⟩) l:=fun _=>
 ⟨w.heap.size,0,rfl,⟨by simp,fun hk=>by have:=hN _ hk;omega⟩,fun i s hi=>by
  obtain ⟨u,h1,h2⟩:=hs i s hi
  exact ⟨u,by rw [World.cell?_alloc_at _ _ _ _ rfl];simpa using h1,h2⟩⟩
theorem recorded_make(p:Nat)(x:PC)(L T m:Nat)(lo:Option Addr)(cap:Nat)(P:Nat→Int)(D:Nat→List Nat)(N:Nat→Prop)(w:World)(hP:PgAt w p x)(hN:∀ k,N k→k<w.heap.size)(hr:Jrn.Recs w lo L P D)
  (hd:∀ j,j<L→∀ b∈D j,b<256) (hg:Jrn.goodL (L:Int) (T:Int) L P D=true) (hT:Jrn.Tab w) (hL:L≤150) (hTb:T≤4000) :
  Calls Tryz.prog 89 #[.pointer (some ⟨p,0,none⟩),.agg #[.int .i64 (L:Int),.int .i64 (T:Int),.int .u64 (m:Int)],.slice lo L cap] w fun e w'=>∃ ao,e=.returned (.slice ao 4 4)∧StepsAt w' x.q N ao (recL L T m P D)∧Below w.heap.size w w':=by
 obtain ⟨W1,hW1⟩:∃ W1,W1=w.alloc (.cells #[.int .i64 (L:Int),.int .i64 (T:Int),.int .u64 (m:Int)] 140):=⟨_,rfl⟩
 have hb1:Below w.heap.size w W1.drew:=by rw [hW1];exact (Below.alloc (Below.refl _ _) (Nat.le_refl _) _).drew
 have HP:=hid (hP.later hb1);have HN:=hid hN;have HRc:=hid (hr.keep hb1);have HD:=hid hd;have HG:=hid hg;have HT:=hid hT
 have HZ:Hid (Jrn.HB 140 W1.drew w.heap.size L T m):=hid (by rw [hW1];exact (Jrn.HB.new 140 w L T m).keep (Below.refl _ _).drew)
 have BB:=hid hb1
 have HTb:=hid (hT.keep hb1)
 clear hP hN hr hd hg hT hb1
 go_enter Tryz.func89,Tryz.ntmps89
 go_upto_region 1 with fail
 rw [←hW1]
 clear hW1
 refine wp_region_K (S:=Gr W1.drew) (fun _=>false) (by kernel_rfl) (Below.refl _ _) (fun hHeld=>?_)
 refine gkp 0 ?_
 refine gkp 1 ?_
 refine gkp 2 ?_
 refine gkt 3 ?_ (h:=by intro W hSw;obtain ⟨a0,a1,a2,a3,a4,a5,a6,a7,a8,a9,a10,a11⟩:=(HP.out.later hSw).cells;go_simp;first |done |with_reducible rfl)
 refine gkt 4 ?_ (h:=by intro W hSw;obtain ⟨z0,z1,z2,_,_,_⟩:=(HZ.out.keep hSw).cells;go_simp;first |done |with_reducible rfl)
 refine gkp 5 ?_
 refine gkp 8 ?_
 refine gkp 9 ?_
 refine gkp 10 ?_
 refine gkt 11 ?_ (h:=by intro W hSw;obtain ⟨a0,a1,a2,a3,a4,a5,a6,a7,a8,a9,a10,a11⟩:=(HP.out.later hSw).cells;go_simp;first |done |with_reducible rfl)
 refine gkp 13 ?_
 refine gkp 14 ?_
 refine gkp 15 ?_
 refine gkt 16 ?_ (h:=by intro W hSw;obtain ⟨a0,a1,a2,a3,a4,a5,a6,a7,a8,a9,a10,a11⟩:=(HP.out.later hSw).cells;go_simp;first |done |with_reducible rfl)
 refine gkt 17 ?_ (h:=by intro W hSw;obtain ⟨z0,z1,z2,_,_,_⟩:=(HZ.out.keep hSw).cells;go_simp;first |done |with_reducible rfl)
 refine gkp 20 ?_
 refine gkp 21 ?_
 refine gkp 22 ?_
 refine gkt 23 ?_ (h:=by intro W hSw;obtain ⟨a0,a1,a2,a3,a4,a5,a6,a7,a8,a9,a10,a11⟩:=(HP.out.later hSw).cells;go_simp;first |done |with_reducible rfl)
 refine gk1 6 (fun K hK=>?_)
 go_simp
 go_at_call 118;refine (Jrn.bytes_yes (L:Int) (T:Int) m lo L cap P D false W1.drew HRc.out HD.out HG.out HTb.out).mono ?_;rintro e w1 ⟨v1,rfl,o1,hR⟩;replace hR:Gr W1.drew w1:=hR;obtain ⟨g1,c1,rfl,hg1,hl1⟩:=o1.form (by omega);have R1:Hid (Rd w1 (some ⟨g1,0,none⟩) (128+L*640) c1 (Jrn.bytesN (L:Int) (T:Int) m false L P D)):=hid (Jrn.rd_own o1);have A1:Hid (w.heap.size≤g1):=hid (Nat.le_trans BB.out.size hg1);have Q1:Hid (g1<w1.heap.size):=hid hl1;replace HP:=hid (HP.out.later hR);replace HZ:=hid (HZ.out.keep hR);replace BB:=hid (gt BB.out hR);clear o1 hg1 hl1
 refine hK.out _ _ hR (fun hHeld=>?_)
 clear hK K
 (try simp only [Act.put,sA,sZ,sS])
 clear hHeld
 refine wpAnyK_more (S':=Gr w1) (fun W h=>gt hR h) ?_
 have hHeld:Gr w1 w1:=Below.refl _ _
 clear hR
 refine gk1 7 (fun K hK=>?_)
 go_simp
 go_at_call 110;refine (write_make x.q 1 0 (some ⟨g1,0,none⟩) (128+L*640) c1 (chunks (1+5*L) (Jrn.bytesN (L:Int) (T:Int) m false L P D)) N w1 (fun k hk=>Nat.lt_of_lt_of_le (HN.out k hk) BB.out.size) (by rw [chunks_flatten _ _ (by rw [R1.out.1];omega)];exact R1.out) (fun _ a ha=>(by obtain rfl:=Option.some.inj ha;exact ⟨Q1.out,fun hk=>(by have h1:g1<w.heap.size:=HN.out _ hk;have:=A1.out;omega)⟩)) (by rw [chunks_length];omega) (chunks_each _ _ (by rw [R1.out.1];omega)) (by rw [chunks_length];omega)).mono ?_;rintro e w2 ⟨x1,rfl,s1,hR⟩;replace hR:Gr w1 w2:=hR;obtain ⟨n1,cs1,rfl⟩:=step_func s1;have S1:=hid s1;replace HP:=hid (HP.out.later hR);replace HZ:=hid (HZ.out.keep hR);replace BB:=hid (gt BB.out hR);clear s1 R1 A1 Q1
 refine hK.out _ _ hR (fun hHeld=>?_)
 clear hK K
 (try simp only [Act.put,sA,sZ,sS])
 clear hHeld
 refine wpAnyK_more (S':=Gr w2) (fun W h=>gt hR h) ?_
 have hHeld:Gr w2 w2:=Below.refl _ _
 clear hR
 refine gk1 12 (fun K hK=>?_)
 go_simp
 go_at_call 111;refine (sync_make x.q 1 N w2 (fun k hk=>Nat.lt_of_lt_of_le (HN.out k hk) BB.out.size)).mono ?_;rintro e w3 ⟨x2,rfl,s2,hR⟩;replace hR:Gr w2 w3:=hR;obtain ⟨n2,cs2,rfl⟩:=step_func s2;have S2:=hid s2;replace S1:=hid (S1.out.later hR);replace HP:=hid (HP.out.later hR);replace HZ:=hid (HZ.out.keep hR);replace BB:=hid (gt BB.out hR);clear s2
 refine hK.out _ _ hR (fun hHeld=>?_)
 clear hK K
 (try simp only [Act.put,sA,sZ,sS])
 clear hHeld
 refine wpAnyK_more (S':=Gr w3) (fun W h=>gt hR h) ?_
 have hHeld:Gr w3 w3:=Below.refl _ _
 clear hR
 refine gk1 18 (fun K hK=>?_)
 go_simp
 go_at_call 119;refine (Jrn.head_yes L T m true w3 (by omega) (by omega) (HT.out.keep BB.out)).mono ?_;rintro e w4 ⟨g4,rfl,o4,hR⟩;replace hR:Gr w3 w4:=hR;have R4:Hid (Rd w4 (some ⟨g4,0,none⟩) 128 128 (Jrn.headN L T m true)):=hid (Jrn.rd_own o4);have A4:Hid (w.heap.size≤g4):=hid (Nat.le_trans BB.out.size (own_blk o4 rfl));have Q4:Hid (g4<w4.heap.size):=hid (own_bound (ownsRow_base_a o4 (Nat.zero_le _)) rfl);replace S1:=hid (S1.out.later hR);replace S2:=hid (S2.out.later hR);replace HP:=hid (HP.out.later hR);replace HZ:=hid (HZ.out.keep hR);replace BB:=hid (gt BB.out hR);clear o4
 refine hK.out _ _ hR (fun hHeld=>?_)
 clear hK K
 (try simp only [Act.put,sA,sZ,sS])
 clear hHeld
 refine wpAnyK_more (S':=Gr w4) (fun W h=>gt hR h) ?_
 have hHeld:Gr w4 w4:=Below.refl _ _
 clear hR
 refine gk1 19 (fun K hK=>?_)
 go_simp
 go_at_call 110;refine (write_make x.q 1 0 (some ⟨g4,0,none⟩) 128 128 (chunks 1 (Jrn.headN L T m true)) N w4 (fun k hk=>Nat.lt_of_lt_of_le (HN.out k hk) BB.out.size) (by rw [chunks_flatten _ _ (by rw [R4.out.1])];exact R4.out) (fun _ a ha=>(by obtain rfl:=Option.some.inj ha;exact ⟨Q4.out,fun hk=>(by have h1:g4<w.heap.size:=HN.out _ hk;have:=A4.out;omega)⟩)) (by rw [chunks_length]) (chunks_each _ _ (by rw [R4.out.1])) (by rw [chunks_length];omega)).mono ?_;rintro e w5 ⟨x3,rfl,s3,hR⟩;replace hR:Gr w4 w5:=hR;obtain ⟨n3,cs3,rfl⟩:=step_func s3;have S3:=hid s3;replace S1:=hid (S1.out.later hR);replace S2:=hid (S2.out.later hR);replace HP:=hid (HP.out.later hR);replace HZ:=hid (HZ.out.keep hR);replace BB:=hid (gt BB.out hR);clear s3 R4 A4 Q4
 refine hK.out _ _ hR (fun hHeld=>?_)
 clear hK K
 (try simp only [Act.put,sA,sZ,sS])
 clear hHeld
 refine wpAnyK_more (S':=Gr w5) (fun W h=>gt hR h) ?_
 have hHeld:Gr w5 w5:=Below.refl _ _
 clear hR
 refine gk1 24 (fun K hK=>?_)
 go_simp
 go_at_call 111;refine (sync_make x.q 1 N w5 (fun k hk=>Nat.lt_of_lt_of_le (HN.out k hk) BB.out.size)).mono ?_;rintro e w6 ⟨x4,rfl,s4,hR⟩;replace hR:Gr w5 w6:=hR;obtain ⟨n4,cs4,rfl⟩:=step_func s4;have S4:=hid s4;replace S1:=hid (S1.out.later hR);replace S2:=hid (S2.out.later hR);replace S3:=hid (S3.out.later hR);replace HP:=hid (HP.out.later hR);replace HZ:=hid (HZ.out.keep hR);replace BB:=hid (gt BB.out hR);clear s4
 refine hK.out _ _ hR (fun hHeld=>?_)
 clear hK K
 (try simp only [Act.put,sA,sZ,sS])
 clear hHeld
 refine wpAnyK_more (S':=Gr w6) (fun W h=>gt hR h) ?_
 have hHeld:Gr w6 w6:=Below.refl _ _
 clear hR
 refine gk1 25 (fun K hK=>?_)
 go_simp
 have hR:Gr w6 (w6.alloc (.cells #[.func (.func n1) #[] cs1,.func (.func n2) #[] cs2,.func (.func n3) #[] cs3,.func (.func n4) #[] cs4] 133)):=Below.alloc (Below.refl _ _) (Nat.le_refl _) _;replace S1:=hid (S1.out.later hR);replace S2:=hid (S2.out.later hR);replace S3:=hid (S3.out.later hR);replace S4:=hid (S4.out.later hR);have HS6:Hid (w.heap.size≤w6.heap.size):=hid BB.out.size;replace HP:=hid (HP.out.later hR);replace HZ:=hid (HZ.out.keep hR);replace BB:=hid (gt BB.out hR)
 refine hK.out _ _ hR (fun hHeld=>?_)
 clear hK K
 (try simp only [Act.put,sA,sZ,sS])
 clear hHeld
 refine wpAnyK_more (S':=Gr (w6.alloc (.cells #[.func (.func n1) #[] cs1,.func (.func n2) #[] cs2,.func (.func n3) #[] cs3,.func (.func n4) #[] cs4] 133))) (fun W h=>gt hR h) ?_
 have hHeld:Gr (w6.alloc (.cells #[.func (.func n1) #[] cs1,.func (.func n2) #[] cs2,.func (.func n3) #[] cs3,.func (.func n4) #[] cs4] 133)) (w6.alloc (.cells #[.func (.func n1) #[] cs1,.func (.func n2) #[] cs2,.func (.func n3) #[] cs3,.func (.func n4) #[] cs4] 133)):=Below.refl _ _
 clear hR
 refine gkp 26 ?_
 refine wpAnyK_done (by kernel_rfl) ?_ _
 go_wp2
 go_ret
 refine ⟨_,rfl,?_,BB.out⟩
 refine steps_lit (us:=[.func (.func n1) #[] cs1,.func (.func n2) #[] cs2,.func (.func n3) #[] cs3,.func (.func n4) #[] cs4]) 133 HN.out HS6.out (fun i s hs=>?_)
 match i with
 | 0=>simp [recL]at hs;subst hs;exact ⟨_,rfl,S1.out⟩
 | 1=>simp [recL]at hs;subst hs;exact ⟨_,rfl,S2.out⟩
 | 2=>simp [recL]at hs;subst hs;exact ⟨_,rfl,S3.out⟩
 | 3=>simp [recL]at hs;subst hs;exact ⟨_,rfl,S4.out⟩
 | i+4=>simp [recL]at hs
end
section
open Go.RowKit Go.Maps
open Dsk (gt hid undrew keep_old keep_cell lt_cell Rd DS FS Sec DiskP DFrame Grew From op_at idx dirtD was secD)
open Cch (CS CP Fr wpAnyK wpAnyK_take wpAnyK_pure wpAnyK_ready wpAnyK_done wp_region_K AllReadyK.cons AllReadyK.nil)
def wrL(now:List Pg)(l:List Nat)(i:Nat):List Stp:=(l.take i).map fun z:Nat=>.wr 0 (((z:Int) - 1)*4) (chunks 4 (now.getD (z - 1) []))
theorem wrL_length(now:List Pg)(l:List Nat){i:Nat}(h:i≤l.length):(wrL now l i).length=i:=by simp [wrL];omega
theorem wrL_succ(now:List Pg){l:List Nat}{i:Nat}(h:i<l.length):wrL now l (i+1)=wrL now l i++[.wr 0 ((((l.getD i 0:Nat):Int) - 1)*4) (chunks 4 (now.getD (l.getD i 0 - 1) []))]:=by
 have e:l.take (i+1)=l.take i++[l.getD i 0]:=by
  rw [List.take_add_one,List.getElem?_eq_getElem h];simp [List.getD,List.getElem?_eq_getElem h]
 simp only [wrL]
 rw [e,List.map_append]
 rfl
def writtenL(now:List Pg)(l:List Nat)(np:Nat):List Stp:=wrL now l l.length++[.sy 0,.ct 0 ((np:Int)*4),.ct 1 0]
theorem row_slice{w:World}{B n:Nat}{e:TypeId}{v:Value}{xs:List Value}(h:w.ownsRow B e 1 v n xs):∃ ao c,v=.slice ao n c:=by
 rcases h.2 with ⟨h1,h2⟩ | ⟨g,cap,cur,h1,_⟩
 ·exact ⟨none,0,by rw [h2];exact h1⟩
 ·exact ⟨_,cap,h1⟩
theorem written_make(p:Nat)(x:PC)(N:Nat→Prop)(n:Nat)(now:List Pg)(c:List Bool)(enc:List Sec)(w:World)(hP:PgAt w p x)(hN:∀ k,N k→k<w.heap.size)(hg:Chg w N x.m n now c enc)(hcb:c.length≤4000)(hl:∀ i,i<now.length→(now.getD i []).length=512)(hnp:x.np≤4000) :
  Calls Tryz.prog 91 #[.pointer (some ⟨p,0,none⟩)] w fun e w'=>∃ ao cp,e=.returned (.slice ao (writtenL now (chL c) x.np).length cp)∧StepsAt w' x.q N ao (writtenL now (chL c) x.np)∧Below w.heap.size w w':=by
 obtain ⟨np,hnpe⟩:∃ np,x.np=np:=⟨_,rfl⟩
 obtain ⟨a0,a1,a2,a3,a4,a5,a6,a7,a8,a9,a10,a11⟩:=hP.cells
 rw [hnpe]at a6 hnp ⊢
 have hcl:=chL_length c
 obtain ⟨l,hll⟩:∃ l,chL c=l:=⟨_,rfl⟩
 have c56:=hid (changed_any (np:Int) x.m n (false::c) enc w hg.map (by unfold chL at hcl;omega))
 rw [show idx (false::c)=l from hll]at c56
 have HLM:Hid (∀ z∈l,1≤z∧z≤c.length∧c.getD (z - 1) false=true):=hid (fun z hz=>chL_mem (by rw [hll];exact hz))
 rw [hll]at hcl ⊢
 have hLb:l.length≤4001:=by omega
 have HP0:=hid hP;have HN:=hid hN;have HG:=hid hg;have HL:=hid hl;have HNP:=hid hnpe
 have hnw:IntKind.i64.wrap ((np:Int)*4)=(np:Int)*4:=IntWalk.i64_in _ ⟨by omega,by omega⟩
 obtain ⟨L,hL⟩:∃ L,l.length=L:=⟨_,rfl⟩
 rw [hL]at c56 hLb hcl
 have HLL:=hid hL
 clear hP hN hg hl hnpe hll hL
 go_enter Tryz.func91,Tryz.ntmps91
 go_wp2_with (go_at_call 93;refine c56.out.mono ?_;rintro e w1 ⟨v1,rfl,o1,n1,b1⟩;obtain ⟨ao1,c1,rfl⟩:=row_slice o1;have O1:=hid o1;have N1:=hid n1;have B0:=hid b1;clear o1 n1 b1 a0 a1 a2 a3 a4 a5 a6 a7 a8 a9 a10 a11)
 have o0:=hid (StRow.nil w1 x.q N w1.heap.size (fun k hk=>Nat.lt_of_lt_of_le (HN.out k hk) B0.out.size) (Nat.le_refl _))
 go_loopw [3,12] (fun o cc W=>∃ (i:Nat) (us:List Value),i≤L∧cc=.int .i64 (i:Int)∧Hid (StRow W x.q N w1.heap.size o us (wrL now l i))∧Hid (Below w1.heap.size w1 W)) (fun _ cc _=>L - (Lib.intOf cc).toNat)
 case atStart=>exact ⟨0,[],by omega,rfl,hid (by simpa [wrL] using o0.out),hid (Below.refl _ _)⟩
 case round=>
  obtain ⟨i,us,hi,rfl,OO,BB⟩:=hrel
  clear o0
  have HLL2:=HLL
  have HP:=hid ((HP0.out.later B0.out).later BB.out)
  have hpu:Hid (¬u3.ownBlock=some p):=hid (fun e=>by have h1:=(OO.out.blk _ e).1;have h2:=(HP0.out.later B0.out).lt;omega)
  by_cases hiL:i<L
  ·obtain ⟨g,hcp,hv,hg2,hglt⟩:=O1.out.form (by omega)
   simp only [Value.slice.injEq]at hv
   obtain ⟨rfl,-,rfl⟩:=hv
   obtain ⟨z,hz⟩:∃ z,l.getD i 0=z:=⟨_,rfl⟩
   have hcz:wr.cell? ⟨g,i,none⟩=some (.int .i64 (z:Int)):=keep_old BB.out (by rw [O1.out.cellAt i (by omega),zI_get (by rw [HLL.out];exact hiL),hz])
   have hzl:z∈l:=by
    rw [←hz,List.getD,List.getElem?_eq_getElem (by rw [HLL.out];exact hiL)]
    exact List.getElem_mem _
   obtain ⟨hz1,hz2,hz3⟩:=HLM.out z hzl
   obtain ⟨b,o,cap,hen,hrd,hob0⟩:=HG.out.at_ (z - 1) hz3
   rw [show z - 1+1=z by omega]at hen
   obtain ⟨d,hd⟩:∃ d,now.getD (z - 1) []=d:=⟨_,rfl⟩
   rw [hd]at hrd
   have hdl:Hid (d.length=512):=hid (by rw [←hd];exact HL.out _ (by have:=HG.out.len;omega))
   have hwz:Hid ((Lit.int .i64 (z:Int)).wf=true):=hid (Dsk.wf_i64 z (by omega))
   have hpr:Hid (-1000000≤(z:Int)∧(z:Int)≤1000000):=hid ⟨by omega,by omega⟩
   have hat:Hid ((dirtD (false::c) enc).atKey (.int .i64 (z:Int)) (secD [])=secD [b,o,512,cap]):=hid (by
    rw [Dsk.at_dirt _ _ _ (by cases z with |zero=>omega |succ z=>simpa using hz3),hen])
   have hob:=hid hob0
   have rdw:Hid (∀ W,Below w1.heap.size w1 W→Rd W (some ⟨b,o,none⟩) 512 cap d):=hid (fun W hW=>(hrd.keep B0.out).keep hW)
   have hno:Hid (¬NV N u3 b):=hid (fun hk=>by
    rcases hk with hk |hk
    ·exact hob0.2 hk
    ·have h1:=(OO.out.blk _ hk).1;have h2:=hob0.1;have h3:=B0.out.size;omega)
   have hbs:Hid (wrL now l (i+1)=wrL now l i++[.wr 0 (((z:Int) - 1)*4) (chunks 4 d)]):=hid (by rw [wrL_succ now (by rw [HLL.out];exact hiL),hz,hd])
   have MP:Hid (wr.drew.ownsMap Tryz.prog 3 slR x.m n (dirtD (false::c) enc)):=hid (((HG.out.later B0.out).later BB.out).later (Below.refl _ _).drew).map
   have hmu:Hid (¬u3.ownBlock=some x.m):=hid (fun e=>by have h1:=(OO.out.blk _ e).1;have h2:=(HG.out.later B0.out).map.lt;omega)
   have hiI:(i:Int)<(L:Int):=by omega
   have hi0:(0:Int)≤(i:Int):=by omega
   clear hz hzl hz1 hz2 hz3 hen hrd hob0 hd hg2
   go_upto_region 5 with fail
   replace OO:=hid (OO.out.later (Below.refl _ _).drew);replace BB:=hid (BB.out.drew);replace HP:=hid (HP.out.later (Below.refl _ _).drew)
   clear hcz
   have hLl:Hid (l.length=L):=HLL
   refine wp_region_K (S:=Gv u3 wr.drew) (fun _=>false) (by kernel_rfl) (Cch.Fr.refl _ _) (fun hHeld=>?_)
   refine gkp 0 ?_
   refine gkp 1 ?_
   refine gkp 2 ?_
   refine gkp 3 ?_
   refine gkt 4 ?_ (h:=by intro W hSw;obtain ⟨a0,a1,a2,a3,a4,a5,a6,a7,a8,a9,a10,a11⟩:=((HP.out).stay (hSw.blk p HP.out.lt hpu.out)).cells;rw [HNP.out]at a6;go_simp;first |done |with_reducible rfl)
   refine gkp 5 ?_
   refine gkp 7 ?_
   refine gkp 8 ?_
   refine gkp 9 ?_
   refine gkp 10 ?_
   refine gkt 11 ?_ (h:=by intro W hSw;obtain ⟨a0,a1,a2,a3,a4,a5,a6,a7,a8,a9,a10,a11⟩:=((HP.out).stay (hSw.blk p HP.out.lt hpu.out)).cells;rw [HNP.out]at a6;go_simp;first |done |with_reducible rfl)
   refine gkp 12 ?_
   refine gkt 13 ?_ (h:=by intro W hSw;have lk:=lookB (map_df MP.out (hSw.blk x.m MP.out.lt hmu.out)) (z:Int) hwz.out b o 512 cap hat.out;go_simp;first |done |with_reducible rfl)
   refine gk1 6 (fun K hK=>?_)
   go_simp
   go_at_call 109;refine (place_any _ _ hpr.out).mono ?_;rintro e w4 ⟨rfl,hw⟩;have hb:Below wr.drew.heap.size wr.drew w4:=(by rw [hw];exact Below.refl _ _);have hR:Gv u3 wr.drew w4:=gv_below hb;replace OO:=hid (OO.out.later hb);replace BB:=hid (gt BB.out hb);replace HP:=hid (HP.out.later hb);clear hw hb
   refine hK.out _ _ hR (fun hHeld=>?_)
   clear hK K
   (try simp only [Act.put,sA,sZ,sS])
   clear hHeld
   refine wpAnyK_more (S':=Gv u3 w4) (fun W h=>gvt hR h) ?_
   have hHeld:Gv u3 w4 w4:=Cch.Fr.refl _ _
   clear hR
   refine gk1 14 (fun K hK=>?_)
   go_simp
   go_at_call 110;refine (write_make x.q 0 (((z:Int) - 1)*4) (some ⟨b,o,none⟩) 512 cap (chunks 4 d) (NV N u3) w4 (fun k hk=>OO.out.lt hk) (rd_sec (rdw.out w4 BB.out)) (fun _ y hy=>(by obtain rfl:=Option.some.inj hy;exact ⟨Nat.lt_of_lt_of_le hob.out.1 (Nat.le_trans B0.out.size BB.out.size),fun hk=>hno.out hk⟩)) (by rw [chunks_length]) (chunks_each 4 d (by rw [hdl.out])) (by rw [chunks_length];omega)).mono ?_;rintro e w5 ⟨u,rfl,hst,hb⟩;have hR:Gv u3 w4 w5:=gv_below hb;replace OO:=hid (OO.out.later hb);replace BB:=hid (gt BB.out hb);replace HP:=hid (HP.out.later hb);obtain ⟨n5,cs5,rfl⟩:=step_func hst;have ST:=hid hst;clear hst hb
   refine hK.out _ _ hR (fun hHeld=>?_)
   clear hK K
   (try simp only [Act.put,sA,sZ,sS])
   clear hHeld
   refine wpAnyK_more (S':=Gv u3 w5) (fun W h=>gvt hR h) ?_
   have hHeld:Gv u3 w5 w5:=Cch.Fr.refl _ _
   clear hR
   refine gk1 15 (fun K hK=>?_)
   go_simp
   have hb:Below w5.heap.size w5 (w5.alloc (.cells #[.func (.func n5) #[] cs5] 133)):=Below.alloc (Below.refl _ _) (Nat.le_refl _) _;have hR:Gv u3 w5 (w5.alloc (.cells #[.func (.func n5) #[] cs5] 133)):=gv_below hb;replace OO:=hid (OO.out.later hb);replace BB:=hid (gt BB.out hb);replace HP:=hid (HP.out.later hb);replace ST:=hid (ST.out.later hb);have SR:=hid (lit_src w5 [.func (.func n5) #[] cs5] 133 (by intro x hx;simp at hx;subst hx;exact step_one ST.out));clear hb
   refine hK.out _ _ hR (fun hHeld=>?_)
   clear hK K
   (try simp only [Act.put,sA,sZ,sS])
   clear hHeld
   refine wpAnyK_more (S':=Gv u3 (w5.alloc (.cells #[.func (.func n5) #[] cs5] 133))) (fun W h=>gvt hR h) ?_
   have hHeld:Gv u3 (w5.alloc (.cells #[.func (.func n5) #[] cs5] 133)) (w5.alloc (.cells #[.func (.func n5) #[] cs5] 133)):=Cch.Fr.refl _ _
   clear hR
   refine gk1 16 (fun K hK=>?_)
   refine Cch.step_app rfl (.tmp 16) (.tmp 31) el113 rfl u3 (wrL now l i).length us rfl OO.out.row (some ⟨w5.heap.size,0,none⟩) 1 1 [.func (.func n5) #[] cs5] rfl SR.out (by rw [wrL_length now l (by rw [HLL.out];omega)];omega) ?_;intro a7 c7 w7 ho7 hg7 ha7;have hR:Gv u3 (w5.alloc (.cells #[.func (.func n5) #[] cs5] 133)) w7:=gv_grown hg7;have O7:=hid ho7;have G7:=hid hg7;have A7:=hid ha7;clear ho7 hg7 ha7
   refine hK.out _ _ hR (fun hHeld=>?_)
   clear hK K
   (try simp only [Act.put,sA,sZ,sS])
   clear hR
   refine gkp 17 ?_
   refine wpAnyK_done (by kernel_rfl) ?_ _
   go_wp2
   go_roundw
   case rel=>
    have hlt:∀ y,a7=some y→y.block<w7.heap.size:=fun y hy=>own_bound O7.out (by rw [hy];rfl)
    have hP7:=OO.out.push (ls:=[.wr 0 (((z:Int) - 1)*4) (chunks 4 d)]) (ys:=[.func (.func n5) #[] cs5]) (m:=1) (fun j s hs=>by
     cases j with
     | zero=>simp at hs;subst hs;exact ⟨_,rfl,ST.out⟩
     | succ j=>simp at hs) rfl rfl O7.out G7.out A7.out hlt
    rw [←hbs.out]at hP7
    exact ⟨i+1,us++[.func (.func n5) #[] cs5],by omega,by go_num,hid hP7,hid (below_grown BB.out G7.out (fun k hk=>(OO.out.blk k hk).1))⟩
   case measure=>simp [Lib.intOf];omega
  ·obtain rfl:i=L:=by omega
   go_upto_region 7 with fail
   replace OO:=hid (OO.out.later (Below.refl _ _).drew);replace BB:=hid (BB.out.drew);replace HP:=hid (HP.out.later (Below.refl _ _).drew)
   refine wp_region_K (S:=Gv u3 wr.drew) (fun _=>false) (by kernel_rfl) (Cch.Fr.refl _ _) (fun hHeld=>?_)
   refine gkp 0 ?_
   refine gkp 1 ?_
   refine gkp 2 ?_
   refine gkp 3 ?_
   refine gkt 4 ?_ (h:=by intro W hSw;obtain ⟨a0,a1,a2,a3,a4,a5,a6,a7,a8,a9,a10,a11⟩:=((HP.out).stay (hSw.blk p HP.out.lt hpu.out)).cells;rw [HNP.out]at a6;go_simp;first |done |with_reducible rfl)
   refine gkp 6 ?_
   refine gkp 7 ?_
   refine gkp 8 ?_
   refine gkt 9 ?_ (h:=by intro W hSw;obtain ⟨a0,a1,a2,a3,a4,a5,a6,a7,a8,a9,a10,a11⟩:=((HP.out).stay (hSw.blk p HP.out.lt hpu.out)).cells;rw [HNP.out]at a6;go_simp;first |done |with_reducible rfl)
   refine gkp 10 ?_
   refine gkp 11 ?_
   refine gkp 12 ?_
   refine gkp 13 ?_
   refine gkt 14 ?_ (h:=by intro W hSw;obtain ⟨a0,a1,a2,a3,a4,a5,a6,a7,a8,a9,a10,a11⟩:=((HP.out).stay (hSw.blk p HP.out.lt hpu.out)).cells;rw [HNP.out]at a6;go_simp;first |done |with_reducible rfl)
   refine gkp 15 ?_ (v:=.int .i64 ((np:Int)*4)) (h:=by intro W hSw;go_simp;first |done |with_reducible rfl |(simp [hnw]) |(rw [hnw]))
   refine gkp 17 ?_
   refine gkp 18 ?_
   refine gkp 19 ?_
   refine gkt 20 ?_ (h:=by intro W hSw;obtain ⟨a0,a1,a2,a3,a4,a5,a6,a7,a8,a9,a10,a11⟩:=((HP.out).stay (hSw.blk p HP.out.lt hpu.out)).cells;rw [HNP.out]at a6;go_simp;first |done |with_reducible rfl)
   refine gk1 5 (fun K hK=>?_)
   go_simp
   go_at_call 111;refine (sync_make x.q 0 (NV N u3) wr.drew (fun k hk=>OO.out.lt hk)).mono ?_;rintro e w1 ⟨x1,rfl,s1,hb⟩;have hR:Gv u3 wr.drew w1:=gv_below hb;obtain ⟨n1,cs1,rfl⟩:=step_func s1;have S1:=hid s1;replace OO:=hid (OO.out.later hb);replace BB:=hid (gt BB.out hb);replace HP:=hid (HP.out.later hb);clear s1 hb
   refine hK.out _ _ hR (fun hHeld=>?_)
   clear hK K
   (try simp only [Act.put,sA,sZ,sS])
   clear hHeld
   refine wpAnyK_more (S':=Gv u3 w1) (fun W h=>gvt hR h) ?_
   have hHeld:Gv u3 w1 w1:=Cch.Fr.refl _ _
   clear hR
   refine gk1 16 (fun K hK=>?_)
   go_simp
   go_at_call 78;refine (cut_make x.q 0 ((np:Int)*4) (NV N u3) w1 (fun k hk=>OO.out.lt hk)).mono ?_;rintro e w2 ⟨x2,rfl,s2,hb⟩;have hR:Gv u3 w1 w2:=gv_below hb;obtain ⟨n2,cs2,rfl⟩:=step_func s2;have S2:=hid s2;replace S1:=hid (S1.out.later hb);replace OO:=hid (OO.out.later hb);replace BB:=hid (gt BB.out hb);replace HP:=hid (HP.out.later hb);clear s2 hb
   refine hK.out _ _ hR (fun hHeld=>?_)
   clear hK K
   (try simp only [Act.put,sA,sZ,sS])
   clear hHeld
   refine wpAnyK_more (S':=Gv u3 w2) (fun W h=>gvt hR h) ?_
   have hHeld:Gv u3 w2 w2:=Cch.Fr.refl _ _
   clear hR
   refine gk1 21 (fun K hK=>?_)
   go_simp
   go_at_call 78;refine (cut_make x.q 1 0 (NV N u3) w2 (fun k hk=>OO.out.lt hk)).mono ?_;rintro e w3 ⟨x3,rfl,s3,hb⟩;have hR:Gv u3 w2 w3:=gv_below hb;obtain ⟨n3,cs3,rfl⟩:=step_func s3;have S3:=hid s3;replace S1:=hid (S1.out.later hb);replace S2:=hid (S2.out.later hb);replace OO:=hid (OO.out.later hb);replace BB:=hid (gt BB.out hb);replace HP:=hid (HP.out.later hb);clear s3 hb
   refine hK.out _ _ hR (fun hHeld=>?_)
   clear hK K
   (try simp only [Act.put,sA,sZ,sS])
   clear hHeld
   refine wpAnyK_more (S':=Gv u3 w3) (fun W h=>gvt hR h) ?_
   have hHeld:Gv u3 w3 w3:=Cch.Fr.refl _ _
   clear hR
   refine gk1 22 (fun K hK=>?_)
   go_simp
   have hb:Below w3.heap.size w3 (w3.alloc (.cells #[.func (.func n1) #[] cs1,.func (.func n2) #[] cs2,.func (.func n3) #[] cs3] 133)):=Below.alloc (Below.refl _ _) (Nat.le_refl _) _;have hR:Gv u3 w3 (w3.alloc (.cells #[.func (.func n1) #[] cs1,.func (.func n2) #[] cs2,.func (.func n3) #[] cs3] 133)):=gv_below hb;replace OO:=hid (OO.out.later hb);replace BB:=hid (gt BB.out hb);replace HP:=hid (HP.out.later hb);replace S1:=hid (S1.out.later hb);replace S2:=hid (S2.out.later hb);replace S3:=hid (S3.out.later hb);have SR:=hid (lit_src w3 [.func (.func n1) #[] cs1,.func (.func n2) #[] cs2,.func (.func n3) #[] cs3] 133 (by intro x hx;simp at hx;rcases hx with rfl |rfl |rfl<;>rfl));clear hb
   refine hK.out _ _ hR (fun hHeld=>?_)
   clear hK K
   (try simp only [Act.put,sA,sZ,sS])
   clear hHeld
   refine wpAnyK_more (S':=Gv u3 (w3.alloc (.cells #[.func (.func n1) #[] cs1,.func (.func n2) #[] cs2,.func (.func n3) #[] cs3] 133))) (fun W h=>gvt hR h) ?_
   have hHeld:Gv u3 (w3.alloc (.cells #[.func (.func n1) #[] cs1,.func (.func n2) #[] cs2,.func (.func n3) #[] cs3] 133)) (w3.alloc (.cells #[.func (.func n1) #[] cs1,.func (.func n2) #[] cs2,.func (.func n3) #[] cs3] 133)):=Cch.Fr.refl _ _
   clear hR
   refine gk1 23 (fun K hK=>?_)
   refine Cch.step_app rfl (.tmp 34) (.tmp 56) el113 rfl u3 (wrL now l i).length us rfl OO.out.row (some ⟨w3.heap.size,0,none⟩) 3 3 [.func (.func n1) #[] cs1,.func (.func n2) #[] cs2,.func (.func n3) #[] cs3] rfl SR.out (by rw [wrL_length now l (by rw [HLL.out];omega)];omega) ?_;intro a7 c7 w7 ho7 hg7 ha7;have hR:Gv u3 (w3.alloc (.cells #[.func (.func n1) #[] cs1,.func (.func n2) #[] cs2,.func (.func n3) #[] cs3] 133)) w7:=gv_grown hg7;have O7:=hid ho7;have G7:=hid hg7;have A7:=hid ha7;clear ho7 hg7 ha7
   refine hK.out _ _ hR (fun hHeld=>?_)
   clear hK K
   (try simp only [Act.put,sA,sZ,sS])
   clear hR
   refine gkp 24 ?_
   refine wpAnyK_done (by kernel_rfl) ?_ _
   go_wp2
   go_ret
   have hlt:∀ y,a7=some y→y.block<w7.heap.size:=fun y hy=>own_bound O7.out (by rw [hy];rfl)
   have hP7:=OO.out.push (ls:=[.sy 0,.ct 0 ((np:Int)*4),.ct 1 0]) (ys:=[.func (.func n1) #[] cs1,.func (.func n2) #[] cs2,.func (.func n3) #[] cs3]) (m:=3) (fun j s hs=>by
     match j with
     | 0=>simp at hs;subst hs;exact ⟨_,rfl,S1.out⟩
     | 1=>simp at hs;subst hs;exact ⟨_,rfl,S2.out⟩
     | 2=>simp at hs;subst hs;exact ⟨_,rfl,S3.out⟩
     | j+3=>simp at hs) rfl rfl O7.out G7.out A7.out hlt
   obtain ⟨hn,hst⟩:=hP7.steps
   have hwl:writtenL now l np=wrL now l i++[.sy 0,.ct 0 ((np:Int)*4),.ct 1 0]:=by rw [writtenL,HLL.out]
   refine ⟨a7,c7,by rw [hwl,←hn];rfl,by rw [hwl];exact hst,gt B0.out (below_grown BB.out G7.out (fun k hk=>(OO.out.blk k hk).1))⟩
end
end Go.Proofs.YtgjgkpnjchflaaaGreatDoor
