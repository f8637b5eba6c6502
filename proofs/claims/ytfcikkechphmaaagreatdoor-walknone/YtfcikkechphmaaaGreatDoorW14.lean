/- What ReadHead returns; no statement of the seat is proved here. -/
import Derived.Test.YtfcikkechphmaaaGreatDoorW13
import Derived.Laws.ResultCell
set_option maxHeartbeats 16000000
set_option maxRecDepth 20000
namespace Go.Proofs.YtfcikkechphmaaaGreatDoor
namespace Jrn
open Go.RowKit
variable {xs:List Nat} {n cap:Nat} {ao:Option Addr} {w:World}
theorem rd_take(h:Rd w ao n cap xs)(k:Nat)(hk:k≤n)(h0:0<k):Rd w ao k cap (xs.take k):=by
 refine ⟨by have:=h.1;simp;omega,by have:=h.2.1;omega,fun e=>?_,fun _=>?_⟩
 ·have:=(h.2.2.1 e).1;omega
 ·obtain ⟨b,off,e,hc⟩:=h.2.2.2 (by omega)
  refine ⟨b,off,e,fun t ht=>?_⟩
  rw [hc t (by omega)]
  simp [List.getD,ht]
variable {p:Nat}
theorem grow_keep{a b:World}(h:Below w.heap.size w a)(k:a.grownBy b (some p))(hp:w.heap.size≤p):Below w.heap.size w b:=
 h.grown k h.size (fun j hj=>by cases hj;exact hp)
variable {c:Int} {q:Nat} {W:World} {t:TypeId}
theorem HB.grown{W':World}{d:Int}(h:HB t W q c d n)(k:W.grownBy W' (some p))(hne:q≠p):HB t W' q c d n:=by
 unfold HB;rw [k.block q h.lt (by simpa using hne)];exact h
theorem box_set{a b c:Value}(h:Below w.heap.size w W):Below w.heap.size w (((W.setCell ⟨w.heap.size,0,none⟩ a).setCell ⟨w.heap.size,1,none⟩ b).setCell ⟨w.heap.size,2,none⟩ c):=
 Below.setCell (Below.setCell (Below.setCell h (Nat.le_refl _) _) (Nat.le_refl _) _) (Nat.le_refl _) _
theorem agg24(W:World):(isAgg 251).run Tryz.prog W=.ok true W:=by kernel_rfl
theorem size24(W:World):(Go.sizeOf 251).run Tryz.prog W=.ok 3 W:=by kernel_rfl
theorem load_head(ha:∀ W,(isAgg t).run Tryz.prog W=.ok true W)(hs:∀ W,(Go.sizeOf t).run Tryz.prog W=.ok 3 W){W:World}{q:Nat}{c p:Int}{n:Nat}(h:HB t W q c p n) :
  (loadVar t ⟨q,0,none⟩).run Tryz.prog W=.ok (.agg #[.int .i64 c,.int .i64 p,.int .u64 (n:Int)]) W:=by
 obtain ⟨h0,h1,h2,_⟩:=h.cells
 have hl:=run_loadCells_list (P:=Tryz.prog) W ⟨q,0,none⟩ [.int .i64 c,.int .i64 p,.int .u64 (n:Int)] (by
  intro j v hj
  match j,hj with
  | 0,hj=>simp at hj;subst hj;simpa [Addr.add] using h0
  | 1,hj=>simp at hj;subst hj;simpa [Addr.add] using h1
  | 2,hj=>simp at hj;subst hj;simpa [Addr.add] using h2
  | j+3,hj=>simp at hj)
 simp at hl
 simp [loadVar,ha,hs,hl]
theorem ret_head{fn:Func}{a u:Tmp}(h:fn.results = #[.cell a t,.tmp u])(ha:∀ W,(isAgg t).run Tryz.prog W=.ok true W)(hs:∀ W,(Go.sizeOf t).run Tryz.prog W=.ok 3 W){tmps:Array Value}{W:World}{q:Nat}{c p:Int}{n:Nat}
  (hp:tmps.getD a undef=.pointer (some ⟨q,0,none⟩)) (hb:HB t W q c p n):(results fn tmps).run Tryz.prog W=.ok (.tuple #[.agg #[.int .i64 c,.int .i64 p,.int .u64 (n:Int)],tmps.getD u undef]) W:=by
 rw [results_cell_tmp h,hp]
 simp [asAddr,load_head ha hs hb]
theorem HB.set{p:Int}(h:HB t W q c p n)(c' p':Int)(n':Nat) :
  HB t (((W.setCell ⟨q,0,none⟩ (.int .i64 c')).setCell ⟨q,1,none⟩ (.int .i64 p')).setCell ⟨q,2,none⟩ (.int .u64 (n':Int))) q c' p' n':=by
 have h1:=heap_setCell_same W q 0 _ t (.int .i64 c') h
 have h2:=heap_setCell_same _ q 1 _ t (.int .i64 p') h1
 have h3:=heap_setCell_same _ q 2 _ t (.int .u64 (n':Int)) h2
 unfold HB
 rw [h3]
 simp
theorem conv_str(h:Rd W ao n cap xs):(convert 48 9 (.slice ao n cap)).run Tryz.prog W=.ok (.string (str xs)) W:=conv_rd h 48 9 5 Tryz.underlying48 Tryz.underlying5 Tryz.underlying9
theorem beq_str(xs:List Nat)(h:∀ x∈xs,x<256)(hl:xs.length=6):((str xs).toList == [104,97,99,104,117,114])=decide (xs=mag):=by
 have e:(str xs).toList=xs.map UInt8.ofNat:=by rw [ByteArray.toList_eq];simp [str]
 rw [e,Bool.eq_iff_iff,beq_iff_eq,decide_eq_true_eq]
 constructor
 ·intro h2
  have h3:=congrArg (List.map UInt8.toNat) h2
  rw [List.map_map,List.map_congr_left (g:=id) (fun x hx=>by have:=h x hx;simp;omega)]at h3
  rw [List.map_id]at h3
  rw [h3]
  rfl
 ·rintro rfl
  rfl
theorem head_bools(xs ys:List Nat)(hys:ys=xs.take 128)(hl:128≤xs.length)(hx:∀ x∈xs,x<256)(C P M S R X:Nat)(b1 b2 b3 b5:Bool)
  (h1:((str (ys.take 6)).toList == [104,97,99,104,117,114])=b1) (hC':psum (ys.drop 6) 4 false 4=C) (hP':psum (ys.drop 10) 4 false 4=P) (hM':psum (ys.drop 14) 8 false 8=M)
  (hS:psum (ys.drop 22) 4 false 4=S) (hR:addN 0 (xs.take 22)=R) (h2:((S:Int) == (R:Int))=b2) (h3:nil0 ((ys.drop 26).take 101)=b3) (hX:ys.drop 127 = [X]) (h5:hgood (C:Int) (P:Int)=b5) :
  isHead xs=(b1&&b2&&b3&&decide (X=165)&&b5):=by
 have hyl:ys.length=128:=by rw [hys];simp;omega
 have hyx:∀ x∈ys,x<256:=by rw [hys];exact take_bytes hx 128
 have hc:hC xs=C:=by rw [←hC_take,←hys];exact hC'
 have hp:hP xs=P:=by rw [←hP_take,←hys];exact hP'
 have hm:hN xs=M:=by rw [←hN_take,←hys];exact hM'
 have hw:=head_whole ys hyl hyx
 have hc2:hC ys=C:=hC'
 have hp2:hP ys=P:=hP'
 have hm2:hN ys=M:=hM'
 have e22:xs.take 22=ys.take 22:=by rw [hys,List.take_take];rfl
 have l101:((ys.drop 26).take 101).length=101:=by simp;omega
 rw [beq_str _ (take_bytes hyx 6) (by simp;omega)]at h1
 unfold isHead
 rw [hc,hp,hm,←hys,Bool.eq_iff_iff]
 rw [hc2,hp2,hm2]at hw
 simp only [Bool.and_eq_true,decide_eq_true_eq,hw,←h1,←h2,←h3,←h5,hgood_iff,nil0,l101,beq_iff_eq,hX,hS,←e22,hR,List.cons.injEq,and_true]
 have:zs 101=List.replicate 101 0:=rfl
 rw [this]
 constructor
 ·rintro ⟨⟨⟨a,b,c,d⟩,e⟩,f⟩
  exact ⟨⟨⟨⟨a,by omega⟩,c⟩,d⟩,by omega⟩
 ·rintro ⟨⟨⟨⟨a,b⟩,c⟩,d⟩,e⟩
  exact ⟨⟨⟨a,by omega,c,d⟩,by omega⟩,by omega⟩
theorem rhead_any(ao:Option Addr)(n cap:Nat)(xs:List Nat)(w:World)(h:Rd w ao n cap xs)(hx:∀ x∈xs,x<256)(hn:128≤n)(hn2:n≤140737488355328)(hT:Tab w) :
  Calls Tryz.prog 218 #[.slice ao n cap] w fun e w'=>∃ (c p m:Nat) (er:Int),e=.returned (.tuple #[.agg #[.int .i64 (c:Int),.int .i64 (p:Int),.int .u64 (m:Int)],.int .i64 er]) ∧
   Hid ((isHead xs=true∧c=hC xs∧p=hP xs∧m=hN xs∧er=0)∨(isHead xs=false∧c=0∧p=0∧m=0∧er=9))∧Below w.heap.size w w':=by
 have h':=hid h
 have hT':=hid hT
 obtain ⟨b0,o0,rfl,_⟩:=h.2.2.2 (by omega)
 have hcap:=h.2.1
 have hge:¬(n:Int)<128:=by omega
 have hc1:(128:Int)≤(cap:Int):=by omega
 have hc2:(22:Int)≤(cap:Int):=by omega
 have hl:=hid h.1
 have rd:=hid (rd_take h 128 (by omega) (by omega))
 have r22:=hid (rd_take h 22 (by omega) (by omega))
 obtain ⟨ys,hys⟩:∃ ys,ys=xs.take 128:=⟨_,rfl⟩
 rw [←hys]at rd
 have hyl:ys.length=128:=by rw [hys];simp;have:=h.1;omega
 have hyx:=hid (by rw [hys];exact take_bytes hx 128:∀ x∈ys,x<256)
 have hyl':=hid hyl
 obtain ⟨b1,hb1v⟩:∃ b1,((str (ys.take 6)).toList == [104,97,99,104,117,114])=b1:=⟨_,rfl⟩
 obtain ⟨C,hCv⟩:∃ C,psum (ys.drop 6) 4 false 4=C:=⟨_,rfl⟩
 obtain ⟨P,hPv⟩:∃ P,psum (ys.drop 10) 4 false 4=P:=⟨_,rfl⟩
 obtain ⟨M,hMv⟩:∃ M,psum (ys.drop 14) 8 false 8=M:=⟨_,rfl⟩
 obtain ⟨S,hSv⟩:∃ S,psum (ys.drop 22) 4 false 4=S:=⟨_,rfl⟩
 obtain ⟨R,hRv⟩:∃ R,addN 0 (xs.take 22)=R:=⟨_,rfl⟩
 have hR:R<4294967296:=by rw [←hRv];exact addN_lt (by decide) (take_bytes hx 22)
 have hCl:C<4294967296:=by rw [←hCv];exact psum4_lt _ (drop_bytes hyx.out 6) (by simp;omega)
 have hPl:P<4294967296:=by rw [←hPv];exact psum4_lt _ (drop_bytes hyx.out 10) (by simp;omega)
 have hwr:IntKind.u64.wrap (R:Int)=(R:Int):=by rw [IntKind.wrap_u64];omega
 obtain ⟨b2,hb2v⟩:∃ b2,((S:Int) == (R:Int))=b2:=⟨_,rfl⟩
 obtain ⟨b3,hb3v⟩:∃ b3,nil0 ((ys.drop 26).take 101)=b3:=⟨_,rfl⟩
 obtain ⟨X,hX⟩:∃ X,ys.drop 127 = [X]:=by
  have:(ys.drop 127).length=1:=by simp;omega
  match h:ys.drop 127,this with
  | [X],_=>exact ⟨X,rfl⟩
 have hX256:X<256:=drop_bytes hyx.out 127 X (by rw [hX];simp)
 obtain ⟨b5,hb5v⟩:∃ b5,hgood (C:Int) (P:Int)=b5:=⟨_,rfl⟩
 have hall:isHead xs=(b1&&b2&&b3&&decide (X=165)&&b5):=head_bools xs ys hys (by have:=h.1;omega) hx C P M S R X b1 b2 b3 b5 hb1v hCv hPv hMv hSv hRv hb2v hb3v hX hb5v
 have hnum:hC xs=C∧hP xs=P∧hN xs=M:=by
  rw [←hC_take,←hP_take,←hN_take,←hys]
  exact ⟨hCv,hPv,hMv⟩
 have hall':=hid hall
 have hnum':=hid hnum
 have hb3v':=hid hb3v
 have hX':=hid hX
 have cg:=hid (hgood_any (C:Int) (P:Int) M)
 rw [hb5v]at cg
 clear hall hnum hb3v hX hb5v
 have cC:=fun (p:Nat) W (hs:SrcAt W p (ys.drop 6))=>num_k p (ys.drop 6) 4 false W hs (drop_bytes hyx.out 6) (by omega) (by omega) (by simp;omega)
 have cP:=fun (p:Nat) W (hs:SrcAt W p (ys.drop 10))=>num_k p (ys.drop 10) 4 false W hs (drop_bytes hyx.out 10) (by omega) (by omega) (by simp;omega)
 have cM:=fun (p:Nat) W (hs:SrcAt W p (ys.drop 14))=>num_k p (ys.drop 14) 8 false W hs (drop_bytes hyx.out 14) (by omega) (by omega) (by simp;omega)
 have cS:=fun (p:Nat) W (hs:SrcAt W p (ys.drop 22))=>num_k p (ys.drop 22) 4 false W hs (drop_bytes hyx.out 22) (by omega) (by omega) (by simp;omega)
 simp only [cut3,Nat.reduceAdd,hCv,hPv,hMv,hSv]at cC cP cM cS
 have cC':=hid cC
 have cP':=hid cP
 have cM':=hid cM
 have cS':=hid cS
 have t1:Hid True:=hid trivial
 have t2:Hid True:=hid trivial
 have t3:Hid True:=hid trivial
 have h22:=hid (take_bytes hx 22)
 have hys':=hid hys
 have hCv':=hid hCv
 have hPv':=hid hPv
 have hMv':=hid hMv
 have hSv':=hid hSv
 have hRv':=hid hRv
 clear h hT hx hys hyl cC cP cM cS hCv hPv hMv hSv hRv
 go_enter Tryz.func218,Tryz.ntmps218
 go_upto_region 7 with (first
  | (go_at_call 234;refine (read_ok _ 128 cap ys _ (rd.out.keep (Below.alloc (Below.refl _ _) (Nat.le_refl _) _)) (by omega)).mono ?_;rintro e w1 ⟨p,rfl,hp1,hs1,hb1⟩;have z1:=hid ((HB.new 251 w 0 0 0).keep hb1);have B1:=hid (gt (Below.alloc (Below.refl _ _) (Nat.le_refl _) _) hb1);replace hp1:w.heap.size<p:=(by simp at hp1;omega);replace hs1:=hid hs1;clear hb1 rd)
  | (go_at_call 237;refine (bytes_ok p ys 6 _ hs1.out (by rw [hyl'.out];omega) (by omega)).mono ?_;rintro e w2 ⟨ao2,c2,rfl,r2,hs2,hg2⟩;have cv2:=conv_str r2;have z2:=hid (z1.out.grown hg2 (by omega));have B2:=hid (grow_keep B1.out hg2 (by omega));replace hs2:=hid hs2;clear hg2 r2)
  | (go_at_call 235;clear t1;refine (cC'.out p _ hs2.out).mono ?_;rintro e w3 ⟨rfl,hs3,hg3⟩;have z3:=hid (z2.out.grown hg3 (by omega));have B3:=hid (grow_keep B2.out hg3 (by omega));replace hs3:=hid hs3;clear hg3 cv2)
  | (go_at_call 235;clear t2;refine (cP'.out p _ hs3.out).mono ?_;rintro e w4 ⟨rfl,hs4,hg4⟩;have z4:=hid (z3.out.grown hg4 (by omega));have B4:=hid (grow_keep B3.out hg4 (by omega));replace hs4:=hid hs4;clear hg4)
  | (go_at_call 235;clear t3;refine (cM'.out p _ hs4.out).mono ?_;rintro e w5 ⟨rfl,hs5,hg5⟩;have z5:=hid (z4.out.grown hg5 (by omega));have B5:=hid (grow_keep B4.out hg5 (by omega));replace hs5:=hid hs5;clear hg5))
 obtain ⟨W6,hW6⟩:∃ W6,W6=w5.alloc (.cells #[.int .i64 (C:Int),.int .i64 (P:Int),.int .u64 (M:Int)] 251):=⟨_,rfl⟩
 rw [←hW6]
 have A6:Below w5.heap.size w5 W6:=by rw [hW6];exact Below.alloc (Below.refl _ _) (Nat.le_refl _) _
 have s6:=hid (hs5.out.keep A6)
 have z6:=hid (z5.out.keep A6)
 have B6:=hid (gt B5.out A6)
 have y6:Hid (HB 251 W6 w5.heap.size C P M):=hid (by rw [hW6];exact HB.new 251 w5 C P M)
 obtain ⟨q,hq⟩:∃ q,q=w5.heap.size:=⟨_,rfl⟩
 have hqw:w.heap.size≤q:=by rw [hq];exact B5.out.size
 have hqp:q≠p:=by
  obtain ⟨_,_,_,_,hp5,_⟩:=hs5.out
  have:=lt_of_block hp5
  omega
 have hqz:q≠w.heap.size:=by have:=z5.out.lt;omega
 rw [←hq]at y6 ⊢
 clear A6 hW6 hs1 hs2 hs3 hs4 hs5 z1 z2 z3 z4 z5 B1 B2 B3 B4 B5 hq cC' cP' cM'
 go_region_with (first
  | (go_at_call 235;refine (cS'.out p _ ?_).mono ?_;exact s6.out;rintro e w7 ⟨rfl,hs7,hg7⟩;have z7:=hid (z6.out.grown (show W6.grownBy w7 (some p) from ⟨hg7.os,hg7.tape,hg7.output,hg7.size,hg7.block⟩) (by omega));have y7:=hid (y6.out.grown (show W6.grownBy w7 (some p) from ⟨hg7.os,hg7.tape,hg7.output,hg7.size,hg7.block⟩) hqp);have B7:=hid (grow_keep B6.out (show W6.grownBy w7 (some p) from ⟨hg7.os,hg7.tape,hg7.output,hg7.size,hg7.block⟩) (by omega));replace hs7:=hid hs7;clear hg7)
  | (go_at_call 270;refine (of_any _ 22 cap _ _ (r22.out.keep B7.out) h22.out (by omega) (hT'.out.keep B7.out)).mono ?_;rintro e w8 ⟨rfl,hw8⟩;obtain rfl:=hw8.symm;rw [hRv'.out]))
 clear s6 z6 y6 B6 cS'
 go_upto_region 9 with (first
  | (go_at_call 237;refine (bytes_ok p (ys.drop 26) 101 _ hs7.out (by simp;have:=hyl'.out;omega) (by omega)).mono ?_;rintro e w9 ⟨ao9,c9,rfl,r9,hs9,hg9⟩;have z9:=hid (z7.out.grown hg9 (by omega));have y9:=hid (y7.out.grown hg9 hqp);have B9:=hid (grow_keep B7.out hg9 (by omega));rw [cut3,hX'.out]at hs9;replace hs9:=hid hs9;replace r9:=hid r9;clear hg9 z7 y7 B7 hs7)
  | (go_at_call 271;refine (noughts_any ao9 101 c9 _ _ r9.out (by omega) (by omega)).mono ?_;rw [hb3v'.out];rintro e w10 ⟨rfl,hb10⟩;have z10:=hid (z9.out.keep hb10);have y10:=hid (y9.out.keep hb10);have B10:=hid (gt B9.out hb10);have hs10:=hid (hs9.out.keep hb10);clear hb10 z9 y9 B9 hs9 r9))
 obtain ⟨q0,q1,q2,f0,f1,f2⟩:=z10.out.cells
 cases b1 with
 | false=>
  go_wp2
  (try simp only [Exit.inBlock,Exit.then])
  refine bodyPost_ret (ret_head rfl agg24 size24 rfl (HB.set z10.out _ _ _)) rfl ?_
  exact ⟨0,0,0,9,rfl,hid (Or.inr ⟨by rw [hall'.out];simp,rfl,rfl,rfl,rfl⟩),box_set B10.out⟩
 | true=>
  cases b2 with
  | false=>
   go_wp2
   (try simp only [Exit.inBlock,Exit.then])
   refine bodyPost_ret (ret_head rfl agg24 size24 rfl (HB.set z10.out _ _ _)) rfl ?_
   exact ⟨0,0,0,9,rfl,hid (Or.inr ⟨by rw [hall'.out];simp,rfl,rfl,rfl,rfl⟩),box_set B10.out⟩
  | true=>
   cases b3 with
   | false=>
    go_wp2
    (try simp only [Exit.inBlock,Exit.then])
    refine bodyPost_ret (ret_head rfl agg24 size24 rfl (HB.set z10.out _ _ _)) rfl ?_
    exact ⟨0,0,0,9,rfl,hid (Or.inr ⟨by rw [hall'.out];simp,rfl,rfl,rfl,rfl⟩),box_set B10.out⟩
   | true=>
    have cb:=hid (byte_ok p X [] w10 hs10.out (by intro y hy;simp at hy;omega))
    clear q0 q1 q2 f0 f1 f2
    by_cases hX5:X=165
    ·subst hX5
     cases b5 with
     | false=>
      go_wp2_with (first
       | (go_at_call 238;refine cb.out.mono ?_;rintro e w11 ⟨rfl,_,hg11⟩;have z11:=hid (z10.out.grown hg11 (by omega));have y11:=hid (y10.out.grown hg11 hqp);have B11:=hid (grow_keep B10.out hg11 (by omega));obtain ⟨q0,q1,q2,_,_,_⟩:=y11.out.cells;clear hg11)
       | (go_at_call 272;refine (cg.out _).mono ?_;rintro e w12 ⟨rfl,hb12⟩;clear q0 q1 q2;have z12:=hid (z11.out.keep hb12);have B12:=hid (gt B11.out hb12);obtain ⟨q0,q1,q2,f0,f1,f2⟩:=z12.out.cells))
      (try simp only [Exit.inBlock,Exit.then])
      refine bodyPost_ret (ret_head rfl agg24 size24 rfl (HB.set z12.out _ _ _)) rfl ?_
      exact ⟨0,0,0,9,rfl,hid (Or.inr ⟨by rw [hall'.out];simp,rfl,rfl,rfl,rfl⟩),box_set B12.out⟩
     | true=>
      go_wp2_with (first
       | (go_at_call 238;refine cb.out.mono ?_;rintro e w11 ⟨rfl,_,hg11⟩;have z11:=hid (z10.out.grown hg11 (by omega));have y11:=hid (y10.out.grown hg11 hqp);have B11:=hid (grow_keep B10.out hg11 (by omega));obtain ⟨q0,q1,q2,_,_,_⟩:=y11.out.cells;clear hg11)
       | (go_at_call 272;refine (cg.out _).mono ?_;rintro e w12 ⟨rfl,hb12⟩;clear q0 q1 q2;have z12:=hid (z11.out.keep hb12);have y12:=hid (y11.out.keep hb12);have B12:=hid (gt B11.out hb12);obtain ⟨q0,q1,q2,f0,f1,f2⟩:=z12.out.cells;obtain ⟨u0,u1,u2,_,_,_⟩:=y12.out.cells))
      (try simp only [Exit.inBlock,Exit.then])
      refine bodyPost_ret (ret_head rfl agg24 size24 rfl (HB.set z12.out _ _ _)) rfl ?_
      obtain ⟨e1,e2,e3⟩:=hnum'.out
      exact ⟨C,P,M,0,rfl,hid (Or.inl ⟨by rw [hall'.out];simp,e1.symm,e2.symm,e3.symm,rfl⟩),box_set B12.out⟩
    ·have hXn:((X:Int) == 165)=false:=by simp;omega
     have hXm:((X:Int) != 165)=true:=by simp;omega
     go_wp2_with (go_at_call 238;refine cb.out.mono ?_;rintro e w11 ⟨rfl,_,hg11⟩;have z11:=hid (z10.out.grown hg11 (by omega));have B11:=hid (grow_keep B10.out hg11 (by omega));obtain ⟨q0,q1,q2,f0,f1,f2⟩:=z11.out.cells;clear hg11)
     (try simp only [Exit.inBlock,Exit.then])
     refine bodyPost_ret (ret_head rfl agg24 size24 rfl (HB.set z11.out _ _ _)) rfl ?_
     exact ⟨0,0,0,9,rfl,hid (Or.inr ⟨by rw [hall'.out];simp [hX5],rfl,rfl,rfl,rfl⟩),box_set B11.out⟩
end Jrn
end Go.Proofs.YtfcikkechphmaaaGreatDoor
