/- What check and RecordBytes return; no statement of the seat is proved here. -/
import Derived.Test.YtadhdedjdgjboaaGreatDoorH16
import Derived.Deep.RegionLaw
import Derived.Deep.DeepCutAuto
import Derived.Test.YtadhdedjdgjboaaGreatDoorH11
import Derived.Test.YtadhdedjdgjboaaGreatDoorH15
import Derived.Test.YtadhdedjdgjboaaGreatDoorH02
set_option maxHeartbeats 16000000
set_option maxRecDepth 20000
namespace Go.Proofs.YtadhdedjdgjboaaGreatDoor
namespace Jrn
open Go.RowKit
def RB(t:TypeId)(W:World)(q:Nat)(p:Int)(ao:Option Addr)(n cap:Nat):Prop:=W.heap[q]? = some (.cells #[.int .i64 p,.slice ao n cap] t (0,0))
variable {n cap q:Nat} {ao:Option Addr} {p:Int} {W:World} {t:TypeId}
theorem RB.cells(h:RB t W q p ao n cap) :
  W.cell? ⟨q,0,none⟩=some (.int .i64 p)∧W.cell? ⟨q,1,none⟩=some (.slice ao n cap)∧W.frozen? ⟨q,0,none⟩=false∧W.frozen? ⟨q,1,none⟩=false:=by
 unfold RB at h
 simp [World.cell?,World.frozen?,h]
theorem RB.lt(h:RB t W q p ao n cap):q<W.heap.size:=lt_of_block h
theorem RB.keep{W':World}(h:RB t W q p ao n cap)(hb:Below W.heap.size W W'):RB t W' q p ao n cap:=by
 unfold RB;rw [hb.block q h.lt];exact h
theorem RB.new(t:TypeId)(w:World)(p:Int)(ao:Option Addr)(n cap:Nat):RB t (w.alloc (.cells #[.int .i64 p,.slice ao n cap] t)) w.heap.size p ao n cap:=heap_alloc_new w _
theorem put4'(m:Nat)(v:Nat)(w:World)(hm:m=4) :
  Calls Tryz.prog 150 #[.slice none 0 0,.int .u64 (v:Int),.int .i64 4,.bool false] w fun e w'=>∃ g,e=.returned (.slice (some ⟨g,0,none⟩) m m)∧w.heap.size≤g∧Rd w' (some ⟨g,0,none⟩) m m (putN v 4 false)∧Below w.heap.size w w':=by
 have:=put4 none 0 0 m [] v w (Rd.nil w) (by omega) (by omega)
 simpa using this
theorem check_any(p n:Nat)(ao:Option Addr)(k cap:Nat)(d:List Nat)(w:World)(hT:Tab w)(h:Rd w ao k cap d)(hd:∀ x∈d,x<256)(hk:k≤100000)(hp:p≤4000) :
  Calls Tryz.prog 139 #[.agg #[.int .i64 (p:Int),.slice ao k cap],.int .u64 (n:Int)] w fun e w'=>e=.returned (.int .u32 ((chkN p n d:Nat):Int))∧Below w.heap.size w w':=by
 have hT':=hid hT
 have h':=hid h
 have hd':=hid hd
 have q0:=hid (RB.new 153 w (p:Int) ao k cap)
 obtain ⟨S,hS⟩:∃ S,S=addN 0 (rec12 p n):=⟨_,rfl⟩
 have hSl:S<4294967296:=by rw [hS];exact addN_lt (by decide) (rec12_bytes _ _)
 obtain ⟨R,hR⟩:∃ R,R=chkN p n d:=⟨_,rfl⟩
 have hRS:Hid (addN S d=R):=hid (by rw [hR,hS];unfold chkN;rw [addN_append])
 rw [←hR]
 have hS':=hid hS
 have t1:Hid True:=hid trivial
 clear hT h hd hS hR
 go_enter Tryz.func139,Tryz.ntmps139
 go_upto_region 3 with (first
  | (go_at_call 150;clear t1;refine (put4' 4 p _ rfl).mono ?_;rintro e w1 ⟨g1,rfl,hg1,r1,hb1⟩;have Q1:=hid (q0.out.keep hb1);have B1:=hid (gt (Below.alloc (Below.refl _ _) (Nat.le_refl _) _) hb1);have R1:=hid r1;clear hb1 r1)
  | (go_at_call 150;refine (put8 _ 4 4 12 _ n _ R1.out (by omega) (by omega)).mono ?_;rintro e w2 ⟨g2,rfl,hg2,r2,hb2⟩;have Q2:=hid (Q1.out.keep hb2);have B2:=hid (gt B1.out hb2);have R2:Hid (Rd w2 (some ⟨g2,0,none⟩) 12 12 (rec12 p n)):=hid r2;clear hb2 r2;obtain ⟨a0,a1,_,_⟩:=Q2.out.cells))
 go_region_with (first
  | (go_at_call 134;refine (of_any _ 12 12 _ _ (R2.out.keep (Below.refl _ _).drew) (rec12_bytes _ _) (by omega) (hT'.out.keep B2.out.drew)).mono ?_;rw [←hS'.out];rintro e w3 ⟨rfl,hw3⟩;obtain rfl:=hw3.symm)
  | (go_at_call 162;refine (add_any S ao k cap d _ hSl (h'.out.keep B2.out.drew) hd'.out (by omega) (hT'.out.keep B2.out.drew)).mono ?_;rw [hRS.out];rintro e w4 ⟨rfl,hw4⟩;obtain rfl:=hw4.symm))
 all_goals
  go_wp2
  go_ret
  exact ⟨rfl,B2.out.drew⟩
theorem step_copy_in{ops:Array Oper}{o:Oper}{a:Act}{w:World}{K:Act→World→Prop}{Q:Exit→Act→World→Prop}{E:Prop}(hgd:o.guard=none)(d s:Operand)
  (ho:o.op=.call { callee:=.builtin .copy,args:=#[d,s],argTypes:=#[60,60] }) (B g N off:Nat) (ys:List Nat) (hown:w.ownsRow B 5 1 (.slice (some ⟨g,0,none⟩) N N) N (bs ys))
  (dLen dCap:Nat) (hd:a.eval d=.slice (some ⟨g,off,none⟩) dLen dCap) (hdl:off+dLen=N) (so:Option Addr) (n c:Nat) (xs:List Nat) (hs:a.eval s=.slice so n c) (hr:Rd w so n c xs) (hn:n≤dLen) (h0:0<n)
  (h:∀ w',w'.ownsRow B 5 1 (.slice (some ⟨g,0,none⟩) N N) N (bs (ys.take off++xs++ys.drop (off+n)))→Below B w w'→K (a.put o.dst (goInt n)) w'):if Region.wanted o (yielded ops a.tmps)=true then Oper.wp Tryz.prog o a w K Q else E:=by
 have hw:Region.wanted o (yielded ops a.tmps)=true:=by simp [Region.wanted,hgd]
 rw [if_pos hw]
 have hly:ys.length=N:=by simpa [bs] using hown.1
 have hlx:=hr.1
 rcases hown.2 with ⟨h',_⟩ | ⟨g',cap',cur,h',hb,hg,hnc,hm,hsz,ht⟩
 ·cases h'
 simp only [Value.slice.injEq,Option.some.injEq,Addr.mk.injEq,and_true,true_and]at h'
 obtain ⟨rfl,rfl⟩:=h'
 have hcur:cur.toList=bs ys:=by
  rw [←ht]
  exact (List.take_of_length_le (by simp [hsz])).symm
 have hbl:(bs xs).length=n:=by simp [bs,hlx]
 obtain ⟨b,o2,rfl,hc⟩:=hr.2.2.2 h0
 have hrun:=run_copy_row (P:=Tryz.prog) w 60 60 o.type 5 g off dLen dCap ⟨b,o2,none⟩ n c cur 5 (bs xs) Tryz.underlying60 (by kernel_rfl) hg (by rw [hbl];exact (Nat.min_eq_left hn).symm)
  (fun j v hv=>by obtain ⟨hj,rfl⟩:=bs_get' xs j v hv;rw [Addr.add_lit];exact hc j (by omega)) (by rw [hbl,hsz];omega) (bs_one xs)
 have hsp:cur.toList.take off++bs xs++cur.toList.drop (off+(bs xs).length)=bs (ys.take off++xs++ys.drop (off+n)):=by
  rw [hcur,hbl,bs_append,bs_append]
  simp [bs]
 rw [hsp,hbl]at hrun
 have hZl:(ys.take off++xs++ys.drop (off+n)).length=N:=by simp;omega
 generalize ys.take off++xs++ys.drop (off+n)=Z at *
 have h1:=h (w.setRow g (bs Z).toArray) ?_ ⟨rfl,rfl,rfl,by simp,fun k hk=>setRow_other w g k _ (by omega)⟩
 ·unfold Oper.wp
  simp [execOp,ho,resolve,invoke,builtin,hd,hs,hrun,Result.andThen]
  exact h1
 ·refine own_of_row hb (setRow_heap w g cur _ 5 _ hg) ?_ (by unfold maxLen at hm;omega) ?_ ?_ (Nat.le_refl _)
  ·simp [bs,hZl]
  ·exact List.take_of_length_le (by simp [bs,hZl])
  ·exact hZl
theorem rec_rows(p n:Nat)(d:List Nat)(K:Nat)(hK:K=640) :
  ((List.replicate K 0).take 0++(putN p 4 false++putN (chkN p n d) 4 false)++(List.replicate K 0).drop (0+8)).take 128++d++((List.replicate K 0).take 0++(putN p 4 false++putN (chkN p n d) 4 false)++(List.replicate K 0).drop (0+8)).drop (128+512)=recN p n d:=by
 obtain ⟨A,hA⟩:∃ A,A=putN p 4 false++putN (chkN p n d) 4 false:=⟨_,rfl⟩
 have h8:A.length=8:=by rw [hA];simp [putN_length]
 unfold recN
 rw [←hA,List.take_zero,List.nil_append,List.drop_replicate]
 have e:(A++List.replicate (K - (0+8)) 0).drop (128+512) = []:=List.drop_eq_nil_of_le (by simp [h8];omega)
 rw [e,List.append_nil,List.take_append,h8,List.take_of_length_le (by omega),List.take_replicate,hK]
 rfl
theorem rec_yes(p n:Nat)(ao:Option Addr)(cap:Nat)(d:List Nat)(w:World)(hT:Tab w)(h:Rd w ao 512 cap d)(hd:∀ x∈d,x<256)(hp:1≤p)(hp2:p≤4000) :
  Calls Tryz.prog 149 #[.agg #[.int .i64 (p:Int),.slice ao 512 cap],.int .u64 (n:Int)] w fun e w'=>∃ g,e=.returned (.slice (some ⟨g,0,none⟩) 640 640)∧w'.ownsRow w.heap.size 5 1 (.slice (some ⟨g,0,none⟩) 640 640) 640 (bs (recN p n d))∧Below w.heap.size w w':=by
 have cg:=hid (rgood_any (p:Int) ao 512 cap)
 rw [(rgood_iff (p:Int) 512).2 (by omega)]at cg
 have hT':=hid hT
 have h':=hid h
 have hd':=hid hd
 have q0:=hid (RB.new 153 w (p:Int) ao 512 cap)
 obtain ⟨K,hK⟩:∃ K:Nat,K=640:=⟨_,rfl⟩
 have hmk:=make_lit 640 K (by omega) (by omega)
 have hK':=hid hK
 obtain ⟨S,hS⟩:∃ S,S=chkN p n d:=⟨_,rfl⟩
 have hSl:S<4294967296:=by rw [hS];exact chkN_lt p n hd
 have hS':=hid hS
 have t1:Hid True:=hid trivial
 clear hT h hd hK hS
 go_enter Tryz.func149,Tryz.ntmps149
 go_upto_region 7 with (first
  | (go_at_call 138;refine (cg.out _).mono ?_;rintro e w1 ⟨rfl,hb1⟩;have Q1:=hid (q0.out.keep hb1);have B1:=hid (gt (Below.alloc (Below.refl _ _) (Nat.le_refl _) _) hb1);clear hb1;obtain ⟨a0,a1,_,_⟩:=Q1.out.cells)
  | (go_at_call 150;clear t1;refine (put4' 4 p _ rfl).mono ?_;rintro e w2 ⟨g2,rfl,hg2,r2,hb2⟩;have Q2:=hid (Q1.out.keep hb2);have B2:=hid (gt B1.out hb2);have R2:=hid r2;clear hb2 r2 a0 a1;obtain ⟨a0,a1,_,_⟩:=Q2.out.cells)
  | (go_at_call 139;refine (check_any p n ao 512 cap d _ (hT'.out.keep B2.out) (h'.out.keep B2.out) hd'.out (by omega) hp2).mono ?_;rw [←hS'.out];rintro e w3 ⟨rfl,hb3⟩;have Q3:=hid (Q2.out.keep hb3);have B3:=hid (gt B2.out hb3);have R3:=hid (R2.out.keep hb3);clear hb3 a0 a1)
  | (go_at_call 150;refine (put4 _ 4 4 8 _ S _ R3.out (by omega) (by omega)).mono ?_;rintro e w4 ⟨g4,rfl,hg4,r4,hb4⟩;have Q4:=hid (Q3.out.keep hb4);have B4:=hid (gt B3.out hb4);have R4:=hid r4;clear hb4 r4)
  | ((with_reducible refine here_op 23 ?_);refine wpList_copy_in rfl (.tmp 21) (.tmp 22) rfl w4.heap.size w4.heap.size K 0 (List.replicate K 0) (own_zeros w4 K (by have:=hK'.out;omega)) K K rfl (by omega) (some ⟨g4,0,none⟩) 8 8 _ rfl (R4.out.keep (Below.alloc (Below.refl _ _) (Nat.le_refl _) _)) (by have:=hK'.out;omega) ?_;intro w5 ho5 hb5;have H5:=hid ((Below.alloc (Below.refl _ _) (Nat.le_refl _) _).trans hb5);have Q5:=hid (Q4.out.keep H5.out);have B5:=hid (gt B4.out H5.out);have O5:=hid ho5;have hg5:=B4.out.size;clear ho5 hb5 hmk))
 obtain ⟨a0,a1,_,_⟩:=Q5.out.cells
 have hK1:(128:Int)≤(K:Int):=by have:=hK'.out;omega
 have hK2:¬K=128:=by have:=hK'.out;omega
 have hlt5:w4.heap.size<w5.heap.size:=by
  have:=(O5.out.lt w4.heap.size rfl).2
  exact this
 go_region_law (refine step_copy_in rfl (.tmp 25) (.tmp 27) rfl w4.heap.size w4.heap.size K 128 _ O5.out.drew (K - 128) (K - 128) (by simp [Act.eval]) (by have:=hK'.out;omega) ao 512 cap d (by simp [Act.eval]) (h'.out.keep B5.out.drew) (by have:=hK'.out;omega) (by omega) ?_;intro w6 ho6 hb6)
 rw [hS'.out,rec_rows p n d K hK'.out]at ho6
 have hK3:=hK'.out
 subst hK3
 have O6:=hid (own_base ho6 hg5)
 have B6:=hid (B5.out.drew.trans (hb6.mono hg5))
 clear ho6 hb6
 go_wp2
 go_ret
 exact ⟨_,rfl,O6.out,B6.out⟩
end Jrn
namespace Jrn
open Go.RowKit
def Recs(W:World)(ao:Option Addr)(L:Nat)(P:Nat→Int)(D:Nat→List Nat):Prop:=
 0<L→∃ b off,ao=some ⟨b,off,none⟩∧∀ i,i<L→∃ a n c,W.cell? ⟨b,off+i*2,none⟩=some (.int .i64 (P i))∧W.cell? ⟨b,off+i*2+1,none⟩=some (.slice a n c)∧Rd W a n c (D i)
theorem Recs.keep{W W':World}{ao:Option Addr}{L:Nat}{P:Nat→Int}{D:Nat→List Nat}(h:Recs W ao L P D)(hb:Below W.heap.size W W'):Recs W' ao L P D:=by
 intro hL
 obtain ⟨b,off,e,hc⟩:=h hL
 refine ⟨b,off,e,fun i hi=>?_⟩
 obtain ⟨a,n,c,h0,h1,h2⟩:=hc i hi
 exact ⟨a,n,c,keep_old hb h0,keep_old hb h1,h2.keep hb⟩
theorem Tryz.info153:(Tryz.prog.info? 153).map (fun i=>(i.zero,i.size,i.bytes))=some (some (.agg #[.int .i64 0,.slice none 0 0]),2,32):=by kernel_rfl
variable {xs:List Value} {n size base:Nat} {v:Value} {e:TypeId} {w w':World}
theorem row_later(h:w.ownsRow base e size v n xs)(hb:Below w.heap.size w w'):w'.ownsRow base e size v n xs:=by
 obtain ⟨hl,h | ⟨g,cap,cur,rfl,hb',hg,rest⟩⟩:=h
 ·exact ⟨hl,.inl h⟩
 ·exact ⟨hl,.inr ⟨g,cap,cur,rfl,hb',by rw [hb.block g (lt_of_block hg)];exact hg,rest⟩⟩
theorem row_form(h:w.ownsRow base e size v n xs):∃ ao cap,v=.slice ao n cap:=by
 obtain ⟨hl,⟨rfl,rfl⟩ | ⟨g,cap,cur,rfl,_⟩⟩:=h
 ·exact ⟨_,_,rfl⟩
 ·exact ⟨_,_,rfl⟩
theorem below_grown{B:Nat}(h:w.ownsRow base e size v n xs)(hg:w.grownBy w' v.ownBlock)(hB:B≤base)(hB2:B≤w.heap.size):Below B w w':=
 (Below.refl B w).grown hg hB2 fun k hk=>Nat.le_trans hB (h.lt k hk).1
end Jrn
namespace Jrn
open Go.RowKit
def goodFrom(P:Nat→Int)(D:Nat→List Nat)(pg:Int)(last:Int):Nat→Nat→Bool
 | _,0=>true
 | i,k+1=>rgood (P i) (D i).length&&decide (last<P i)&&decide (P i≤pg)&&goodFrom P D pg (P i) (i+1) k
def goodL(c pg:Int)(L:Nat)(P:Nat→Int)(D:Nat→List Nat):Bool:=hgood c pg&&decide ((L:Int)=c)&&goodFrom P D pg 0 0 L
theorem good_any(c pg:Int)(m:Nat)(ao:Option Addr)(L cap:Nat)(P:Nat→Int)(D:Nat→List Nat)(w:World)(h:Recs w ao L P D)(hL:L≤100000) :
  Calls Tryz.prog 108 #[.agg #[.int .i64 c,.int .i64 pg,.int .u64 (m:Int)],.slice ao L cap] w fun e w'=>e=.returned (.bool (goodL c pg L P D))∧Below w.heap.size w w':=by
 have h':=hid h
 have cg:=hid (hgood_any c pg m)
 have q0:=hid (HB.new 122 w c pg m)
 have cr:=hid fun p ao n cap W=>rgood_any p ao n cap W
 obtain ⟨b,hb⟩:∃ b,b=goodL c pg L P D:=⟨_,rfl⟩
 have hb':=hid hb
 rw [←hb]
 clear h hb
 cases hg:hgood c pg with
 | false=>
  rw [hg]at cg
  obtain rfl:b=false:=by rw [hb'.out];unfold goodL;rw [hg];rfl
  clear hg
  go_enter Tryz.func108,Tryz.ntmps108
  go_wp2_with (go_at_call 137;refine (cg.out _).mono ?_;rintro e w1 ⟨rfl,hb1⟩)
  go_ret
  exact ⟨rfl,gt (Below.alloc (Below.refl _ _) (Nat.le_refl _) _) hb1⟩
 | true=>
  rw [hg]at cg
  by_cases hLc:(L:Int)=c
  ·have e1:b=goodFrom P D pg 0 0 L:=by rw [hb'.out];unfold goodL;rw [hg];simp [hLc]
   have e1':=hid e1
   have hne:((L:Int) != c)=false:=by simp [hLc]
   clear hg e1 hb'
   subst hLc
   go_enter Tryz.func108,Tryz.ntmps108
   go_wp2_with (go_at_call 137;refine (cg.out _).mono ?_;rintro e w1 ⟨rfl,hb1⟩;have Q1:=hid (q0.out.keep hb1);have B1:=hid (gt (Below.alloc (Below.refl _ _) (Nat.le_refl _) _) hb1);clear hb1;obtain ⟨a0,a1,a2,_,_,_⟩:=Q1.out.cells)
   clear a0 a1 a2
   go_loopw [5,20] (fun s5 cc W=>∃ (i:Nat) (last:Int),i≤L∧cc=.int .i64 (i:Int)∧s5=.int .i64 last∧Hid (goodFrom P D pg last i (L - i)=b)∧Hid (HB 122 W w.heap.size (L:Int) pg m)∧Hid (Below w.heap.size w W)) (fun _ cc _=>L - (intOf cc).toNat)
   case atStart=>exact ⟨0,0,by omega,rfl,rfl,hid e1'.out.symm,Q1,B1⟩
   case round=>
    obtain ⟨i,last,hi,rfl,rfl,G,Q,B⟩:=hrel
    clear Q1 B1
    by_cases hiL:i<L
    ·obtain ⟨b0,off,rfl,hc⟩:=h'.out (by omega)
     obtain ⟨a,n,c1,k0,k1,rd⟩:=hc i hiL
     have k0':=keep_old B.out k0
     have k1':=keep_old B.out k1
     have hn:(D i).length=n:=rd.1
     obtain ⟨p,hp⟩:∃ p,p=P i:=⟨_,rfl⟩
     rw [←hp]at k0'
     have hG:=G.out
     rw [show L - i=(L - (i+1))+1 by omega]at hG
     simp only [goodFrom]at hG
     rw [←hp,hn]at hG
     have G':=hid hG
     have hBs:=B.out.size
     clear hG G k0 k1 rd hc hn hp e1'
     cases hg1:rgood p n with
     | false=>
      have hbf:b=false:=by rw [←G'.out,hg1];simp only [Bool.false_and]
      clear G'
      subst hbf
      go_wp2_with (go_at_call 138;refine (cr.out p a n c1 _).mono ?_;rw [hg1];rintro e w2 ⟨rfl,hb2⟩;have Q2:=hid (Q.out.keep2 hb2);have B2:=hid (gt2 B.out hb2);have Y2:=hid ((RB.new 153 wr p a n c1).keep hb2);obtain ⟨y0,y1,_,_⟩:=Y2.out.cells;obtain ⟨q0,q1,q2,_,_,_⟩:=Q2.out.cells;clear hb2)
      go_ret
      exact ⟨rfl,B2.out⟩
     | true=>
      by_cases hl1:last<p
      ·by_cases hl2:p≤pg
       ·have G2:Hid (goodFrom P D pg p (i+1) (L - (i+1))=b):=hid (by rw [←G'.out,hg1,decide_eq_true hl1,decide_eq_true hl2];simp only [Bool.true_and])
        clear G'
        go_wp2_with (go_at_call 138;refine (cr.out p a n c1 _).mono ?_;rw [hg1];rintro e w2 ⟨rfl,hb2⟩;have Q2:=hid (Q.out.keep2 hb2);have B2:=hid (gt2 B.out hb2);have Y2:=hid ((RB.new 153 wr p a n c1).keep hb2);obtain ⟨y0,y1,_,_⟩:=Y2.out.cells;obtain ⟨q0,q1,q2,_,_,_⟩:=Q2.out.cells;clear hb2)
        exact ⟨⟨i+1,p,by omega,by go_num,rfl,G2,Q2,B2⟩,by simp [intOf];omega⟩
       ·have hbf:b=false:=by rw [←G'.out,hg1,decide_eq_false hl2];simp only [Bool.false_and,Bool.and_false]
        clear G'
        subst hbf
        go_wp2_with (go_at_call 138;refine (cr.out p a n c1 _).mono ?_;rw [hg1];rintro e w2 ⟨rfl,hb2⟩;have Q2:=hid (Q.out.keep2 hb2);have B2:=hid (gt2 B.out hb2);have Y2:=hid ((RB.new 153 wr p a n c1).keep hb2);obtain ⟨y0,y1,_,_⟩:=Y2.out.cells;obtain ⟨q0,q1,q2,_,_,_⟩:=Q2.out.cells;clear hb2)
        go_ret
        exact ⟨rfl,B2.out⟩
      ·have hbf:b=false:=by rw [←G'.out,hg1,decide_eq_false hl1];simp only [Bool.false_and,Bool.and_false]
       clear G'
       subst hbf
       go_wp2_with (go_at_call 138;refine (cr.out p a n c1 _).mono ?_;rw [hg1];rintro e w2 ⟨rfl,hb2⟩;have Q2:=hid (Q.out.keep2 hb2);have B2:=hid (gt2 B.out hb2);have Y2:=hid ((RB.new 153 wr p a n c1).keep hb2);obtain ⟨y0,y1,_,_⟩:=Y2.out.cells;obtain ⟨q0,q1,q2,_,_,_⟩:=Q2.out.cells;clear hb2)
       go_ret
       exact ⟨rfl,B2.out⟩
    ·obtain rfl:i=L:=by omega
     have:b=true:=by rw [←G.out,Nat.sub_self];rfl
     subst this
     go_wp2
     go_ret
     exact ⟨rfl,B.out⟩
  ·obtain rfl:b=false:=by rw [hb'.out];unfold goodL;rw [hg];simp [hLc]
   have hne:((L:Int) != c)=true:=by simp [hLc]
   have hne2:((L:Int) == c)=false:=by simp [hLc]
   clear hg
   go_enter Tryz.func108,Tryz.ntmps108
   go_wp2_with (go_at_call 137;refine (cg.out _).mono ?_;rintro e w1 ⟨rfl,hb1⟩;have Q1:=hid (q0.out.keep hb1);have B1:=hid (gt (Below.alloc (Below.refl _ _) (Nat.le_refl _) _) hb1);clear hb1;obtain ⟨a0,a1,a2,_,_,_⟩:=Q1.out.cells)
   go_ret
   exact ⟨rfl,B1.out⟩
end Jrn
namespace Jrn
open Go.RowKit
theorem head_rows(c p n:Nat):(List.replicate 128 0).take 0++hd26 c p n++(List.replicate 128 0).drop (0+26)=headN c p n false:=by
 unfold headN
 simp only [List.take_zero,List.nil_append,List.drop_replicate,List.append_assoc,Bool.false_eq_true,if_false]
 rfl
theorem head_mark(c p n:Nat):(headN c p n false).set 127 165=headN c p n true:=by
 unfold headN
 rw [List.set_append_right _ _ (by simp [hd26_length])]
 simp [hd26_length]
theorem cell127{w:World}{B g:Nat}{c p n:Nat}(h:w.ownsRow B 5 1 (.slice (some ⟨g,0,none⟩) 128 128) 128 (bs (headN c p n false))):w.cell? ⟨g,127,none⟩=some (.int .u8 0):=by
 rw [h.cellAt 127 (by omega),bs_get _ _ (by rw [headN_length];omega)]
 have:(headN c p n false).getD 127 0=0:=by
  unfold headN
  simp [List.getD,hd26_length]
 rw [this]
 rfl
theorem head_yes(c p n:Nat)(wh:Bool)(w:World)(hc:c≤4000)(hp:p≤4000)(hT:Tab w) :
  Calls Tryz.prog 119 #[.agg #[.int .i64 (c:Int),.int .i64 (p:Int),.int .u64 (n:Int)],.bool wh] w fun e w'=>∃ g,e=.returned (.slice (some ⟨g,0,none⟩) 128 128)∧w'.ownsRow w.heap.size 5 1 (.slice (some ⟨g,0,none⟩) 128 128) 128 (bs (headN c p n wh))∧Below w.heap.size w w':=by
 have cg:=hid (hgood_any (c:Int) (p:Int) n)
 rw [(hgood_iff (c:Int) (p:Int)).2 (by omega)]at cg
 have kc:=fun (w:World) (C:Array Value) (n c:Nat)=>Lib.run_convert_bytes_const (P:=Tryz.prog) w 60 5 C n c Tryz.underlying60 Tryz.underlying5
 have hT':=hid hT
 have h0:Hid (HB 122 (w.alloc (.cells #[.int .i64 c,.int .i64 p,.int .u64 (n:Int)] 122)) w.heap.size c p n):=hid (HB.new 122 w c p n)
 obtain ⟨K,hK⟩:∃ K:Nat,K=128:=⟨_,rfl⟩
 have hmk:=make_lit 128 K (by omega) (by omega)
 have hK':=hid hK
 obtain ⟨S,hS⟩:∃ S,S=addN 0 (hd22 c p n):=⟨_,rfl⟩
 have hS1:S<4294967296:=by rw [hS];exact addN_lt (by decide) (hd22_bytes _ _ _)
 have hS':=hid hS
 have tA:Hid True:=hid trivial
 have tB:Hid True:=hid trivial
 have tC:Hid True:=hid trivial
 clear hT hK hS
 go_enter Tryz.func119,Tryz.ntmps119
 go_wp2_with (first
  | (go_at_call 137;refine (cg.out _).mono ?_;rintro e w1 ⟨rfl,hb1⟩;have h1:=hid (h0.out.keep hb1);have B1:=hid (gt (Below.alloc (Below.refl _ _) (Nat.le_refl _) _) hb1);obtain ⟨q0,q1,q2,_,_,_⟩:=h1.out.cells;have hl1:=h1.out.lt;have hne1:¬w.heap.size=w1.heap.size:=(by omega);clear cg hb1)
  | (go_at_call 150;clear tA;refine (put4 _ 6 6 10 mag c _ (rd_lit w1 mag 6 _ _ rfl rfl) (by omega) (by omega)).mono ?_;rintro e w2 ⟨g2,rfl,hg2,r2,hb2⟩;have h2:=hid (h1.out.keep2 hb2);have B2:=hid (gt2 B1.out hb2);replace r2:=hid r2;clear hb2 q0 q1 q2 kc hne1;obtain ⟨q0,q1,q2,_,_,_⟩:=h2.out.cells)
  | (go_at_call 150;clear tB;refine (put4 _ 10 10 14 _ p _ r2.out (by omega) (by omega)).mono ?_;rintro e w3 ⟨g3,rfl,hg3,r3,hb3⟩;have h3:=hid (h2.out.keep hb3);have B3:=hid (gt B2.out hb3);replace r3:=hid r3;clear hb3 q0 q1 q2;obtain ⟨q0,q1,q2,_,_,_⟩:=h3.out.cells)
  | (go_at_call 150;clear tC;refine (put8 _ 14 14 22 _ n _ r3.out (by omega) (by omega)).mono ?_;rintro e w4 ⟨g4,rfl,hg4,r4,hb4⟩;have B4:=hid (gt B3.out hb4);replace r4:Hid (Rd w4 (some ⟨g4,0,none⟩) 22 22 (hd22 c p n)):=hid r4;clear hb4 q0 q1 q2)
  | (go_at_call 134;refine (of_any _ 22 22 _ _ r4.out (hd22_bytes _ _ _) (by omega) (hT'.out.keep B4.out)).mono ?_;rintro e w5 ⟨rfl,hw5⟩;obtain rfl:=hw5.symm;rw [←hS'.out])
  | (go_at_call 150;refine (put4 _ 22 22 26 _ S _ r4.out (by omega) (by omega)).mono ?_;rintro e w6 ⟨g6,rfl,hg6,r6,hb6⟩;have B6:=hid (gt B4.out hb6);replace r6:Hid (Rd w6 (some ⟨g6,0,none⟩) 26 26 (hd26 c p n)):=hid (by rw [hS'.out]at r6;exact r6);clear hb6)
  | ((with_reducible refine here_op 33 ?_);refine wpList_copy_in rfl (.tmp 31) (.tmp 32) rfl w6.heap.size w6.heap.size K 0 (List.replicate K 0) (own_zeros w6 K (by have:=hK'.out;omega)) K K rfl (by omega) (some ⟨g6,0,none⟩) 26 26 (hd26 c p n) rfl (r6.out.keep (Below.alloc (Below.refl _ _) (Nat.le_refl _) _)) (by have:=hK'.out;omega) ?_;intro w7 ho7 hb7;clear hmk;have hK2:=hK'.out;subst hK2;rw [head_rows]at ho7;have B7:=hid ((Below.alloc B6.out B6.out.size _).trans (hb7.mono B6.out.size));have hg7:=B6.out.size;have c7:=cell127 ho7;have f7:=ho7.frozenAt 127;replace ho7:=hid (own_base ho7 hg7);clear hb7))
 all_goals go_ret
 ·exact ⟨_,rfl,by rw [←head_mark];exact own_store ho7.out 127 165,Below.setCell B7.out hg7 _⟩
 ·exact ⟨_,rfl,ho7.out,B7.out⟩
end Jrn
namespace Jrn
open Go.RowKit
def recsN(P:Nat→Int)(D:Nat→List Nat)(n:Nat):Nat→Nat→List Nat
 | _,0=>[]
 | i,k+1=>recN (P i).toNat n (D i)++recsN P D n (i+1) k
def bytesN(c pg:Int)(n:Nat)(wh:Bool)(L:Nat)(P:Nat→Int)(D:Nat→List Nat):List Nat:=headN c.toNat pg.toNat n wh++recsN P D n 0 L
theorem recsN_bytes(P:Nat→Int)(D:Nat→List Nat)(n:Nat)(k:Nat):∀ i,(∀ j,j<i+k→∀ x∈D j,x<256)→∀ x∈recsN P D n i k,x<256:=by
 induction k with
 | zero=>intro i _ x h;cases h
 | succ k ih=>
  intro i hd
  exact app_bytes (recN_bytes _ _ (hd i (by omega))) (ih (i+1) (fun j hj=>hd j (by omega)))
variable {pg:Int}
theorem goodFrom_all{P:Nat→Int}{D:Nat→List Nat}(k:Nat):∀ {last i},goodFrom P D pg last i k=true→∀ j,i≤j→j<i+k→(1≤P j∧P j≤4000)∧(D j).length=512:=by
 induction k with
 | zero=>intro last i _ j h1 h2;omega
 | succ k ih=>
  intro last i h j h1 h2
  simp only [goodFrom,Bool.and_eq_true]at h
  rcases Nat.eq_or_lt_of_le h1 with rfl |h3
  ·exact (rgood_iff _ _).1 h.1.1.1
  ·exact ih h.2 j (by omega) (by omega)
variable {L:Nat}
theorem goodL_all{c:Int}{P:Nat→Int}{D:Nat→List Nat}(h:goodL c pg L P D=true):((0≤c∧c≤4000)∧0≤pg∧pg≤4000)∧(L:Int)=c∧∀ j,j<L→(1≤P j∧P j≤4000)∧(D j).length=512:=by
 simp only [goodL,Bool.and_eq_true,decide_eq_true_eq]at h
 exact ⟨(hgood_iff _ _).1 h.1.1,h.1.2,fun j hj=>goodFrom_all L h.2 j (by omega) (by omega)⟩
variable {n:Nat}
theorem recsN_length{P:Nat→Int}{D:Nat→List Nat}(k:Nat):∀ i,(∀ j,i≤j→j<i+k→(D j).length=512)→(recsN P D n i k).length=k*640:=by
 induction k with
 | zero=>intro i _;rfl
 | succ k ih=>
  intro i h
  simp only [recsN,List.length_append,recN_length,h i (by omega) (by omega)]
  rw [ih (i+1) (fun j h1 h2=>h j (by omega) (by omega))]
  omega
theorem recsN_step{P:Nat→Int}{D:Nat→List Nat}{i:Nat}(hi:i<L){ys T:List Nat}(e:ys++recsN P D n i (L - i)=T):(ys++recN (P i).toNat n (D i))++recsN P D n (i+1) (L - (i+1))=T:=by
 rw [←e,show L - i=(L - (i+1))+1 by omega]
 simp [recsN]
theorem bytes_yes(c pg:Int)(m:Nat)(ao:Option Addr)(L cap:Nat)(P:Nat→Int)(D:Nat→List Nat)(wh:Bool)(w:World)(h:Recs w ao L P D)(hd:∀ j,j<L→∀ x∈D j,x<256)(hg:goodL c pg L P D=true)(hT:Tab w) :
  Calls Tryz.prog 118 #[.agg #[.int .i64 c,.int .i64 pg,.int .u64 (m:Int)],.slice ao L cap,.bool wh] w fun e w'=>∃ v,e=.returned v∧w'.ownsRow w.heap.size 5 1 v (128+L*640) (bs (bytesN c pg m wh L P D))∧Below w.heap.size w w':=by
 obtain ⟨hcp,hLc,hall⟩:=goodL_all hg
 have hL:L≤4000:=by omega
 have A0:Below w.heap.size w (w.alloc (.cells #[.int .i64 c,.int .i64 pg,.int .u64 (m:Int)] 122)):=Below.alloc (Below.refl _ _) (Nat.le_refl _) _
 have cg:=hid (good_any c pg m ao L cap P D _ (h.keep A0) (by omega))
 rw [hg]at cg
 have q0:=hid (HB.new 122 w c pg m)
 obtain ⟨c',rfl⟩:∃ k:Nat,c=(k:Int):=⟨c.toNat,by omega⟩
 obtain ⟨p',rfl⟩:∃ k:Nat,pg=(k:Int):=⟨pg.toNat,by omega⟩
 obtain ⟨T,hTv⟩:∃ T,T=bytesN c' p' m wh L P D:=⟨_,rfl⟩
 have hT0:Hid (headN c' p' m wh++recsN P D m 0 L=T):=hid (by rw [hTv];rfl)
 rw [←hTv]
 have hc4:c'≤4000:=by omega
 have hp4:p'≤4000:=by omega
 have hall':=hid hall
 have h':=hid h
 have hd':=hid hd
 have hT':=hid hT
 have hA0:=hid A0
 obtain ⟨K,hw640,hK⟩:∃ K:Nat,(L:Int)*640=(K:Int)∧K=L*640:=⟨L*640,by omega,rfl⟩
 have hK':=hid hK
 have hKb:K≤2560000:=by omega
 clear hK
 clear h hd hT hall hTv A0 hg hcp hLc
 obtain ⟨B,hB⟩:∃ B,B=w.heap.size+1:=⟨_,rfl⟩
 have hB':=hid hB
 clear hB
 go_enter Tryz.func118,Tryz.ntmps118
 go_wp2_with (first
  | (go_at_call 108;refine cg.out.mono ?_;rintro e w1 ⟨rfl,hb1⟩;have Q1:=hid (q0.out.keep hb1);have B1:=hid (gt hA0.out hb1);clear hb1;obtain ⟨a0,a1,a2,_,_,_⟩:=Q1.out.cells)
  | (go_at_call 119;refine (head_yes c' p' m wh _ hc4 hp4 (hT'.out.keep B1.out)).mono ?_;rintro e w2 ⟨g2,rfl,ho2,hb2⟩;have hBs:B≤w1.heap.size:=(by have:=Q1.out.lt;have:=hB'.out;omega);have hBs2:B≤w2.heap.size:=Nat.le_trans hBs hb2.size;have Q2:=hid (Q1.out.keep hb2);have B2:=hid (gt B1.out hb2);have O2:=hid (own_base ho2 hBs);clear hb2 ho2 a0 a1 a2)
  | (go_at_call 148;refine (grow_any B g2 128 K _ _ O2.out (by omega) hBs2).mono ?_;rintro e w3 ⟨v3,rfl,ho3,hb3⟩;have Q3:=hid (Q2.out.under hb3 (by have:=hB'.out;omega));have B3:=hid (B2.out.trans (hb3.mono (by have:=hB'.out;omega)));have O3:=hid ho3;have hBs3:B≤w3.heap.size:=Nat.le_trans hBs2 hb3.size;clear hb3 ho3))
 go_loopw [7,23] (fun o cc W=>∃ (i:Nat) (ys:List Nat),i≤L∧cc=.int .i64 (i:Int)∧Hid (ys++recsN P D m i (L - i)=T)∧Hid (W.ownsRow B 5 1 o (128+i*640) (bs ys))∧Hid (HB 122 W w.heap.size c' p' m)∧Hid (Below w.heap.size w W)) (fun _ cc _=>L - (intOf cc).toNat)
 case atStart=>exact ⟨0,_,by omega,rfl,hT0,O3,Q3,B3⟩
 case round=>
  obtain ⟨i,ys,hi,rfl,E,O,Q,BW⟩:=hrel
  clear Q1 Q2 Q3 O2 O3 B1 B2 B3
  by_cases hiL:i<L
  ·obtain ⟨b0,off,rfl,hc⟩:=h'.out (by omega)
   obtain ⟨a,n,c1,k0,k1,rd⟩:=hc i hiL
   obtain ⟨hp,hdl⟩:=hall'.out i hiL
   obtain ⟨p,hpv⟩:∃ p:Nat,P i=(p:Int):=⟨(P i).toNat,by omega⟩
   have hn:n=512:=by rw [←rd.1];exact hdl
   subst hn
   have k0':=keep_old BW.out k0
   have k1':=keep_old BW.out k1
   rw [hpv]at k0' hp
   have rd':=hid (rd.keep BW.out)
   have hp1:1≤p:=by omega
   have hp2:p≤4000:=by omega
   have E2:=hid (recsN_step hiL E.out)
   have hpv':=hid hpv
   obtain ⟨a0,a1,a2,_,_,_⟩:=Q.out.cells
   have hlt:=Q.out.lt
   have hne:¬w.heap.size=wr.heap.size:=by omega
   have hBr:B≤wr.heap.size:=by have:=hB'.out;omega
   have hBr2:w.heap.size≤B:=by have:=hB'.out;omega
   clear k0 k1 rd hc hpv hp hdl E
   go_wp2_with (first
    | (go_at_call 149;refine (rec_yes p m a c1 _ _ (hT'.out.keep (Below.alloc BW.out BW.out.size _)) (rd'.out.keep (Below.alloc (Below.refl _ _) (Nat.le_refl _) _)) (hd'.out i hiL) hp1 hp2).mono ?_;rintro e w5 ⟨g5,rfl,ho5,hb5⟩;have Q5:=hid (Q.out.keep2 hb5);have B5:=hid (gt2 BW.out hb5);have R5:=hid (rd_own ho5);have O5:=hid (row_later (O.out.alloc _) hb5);have hBr5:B≤w5.heap.size:=(by have:=hb5.size;simp at this;omega);clear hb5 ho5 a0 a1 a2)
    | ((with_reducible refine here_op 32 ?_);refine wpList_append_rd rfl (.tmp 27) (.tmp 31) rfl B _ (128+i*640) ys rfl O5.out (some ⟨g5,0,none⟩) 640 640 _ rfl R5.out (by omega) hBr5 ?_;intro v6 w6 ho6 hb6;have Q6:=hid (Q5.out.under hb6 (by have:=hB'.out;omega));have B6:=hid (B5.out.trans (hb6.mono hBr2));have O6:=hid ho6;clear ho6 hb6))
   refine ⟨⟨i+1,ys++recN p m (D i),by omega,by go_num,hid ?_,hid ?_,Q6,B6⟩,by simp [intOf];omega⟩
   ·have:=E2.out
    rw [hpv'.out,Int.toNat_natCast]at this
    exact this
   ·rw [show 128+(i+1)*640=128+i*640+640 by omega]
    exact O6.out
  ·obtain rfl:i=L:=by omega
   have hy:ys=T:=by rw [←E.out,Nat.sub_self];simp [recsN]
   subst hy
   go_wp2
   go_ret
   exact ⟨_,rfl,own_base O.out (by have:=hB'.out;omega),BW.out⟩
end Jrn
section
open Go.RowKit Go.Maps
open Dsk (gt hid undrew keep_old keep_cell lt_cell Rd DS FS Sec DiskP DFrame Grew From writeD syncD cutD lenD readD newD known)
open Cch (wpAnyK)
theorem wpAnyK_more{P:Program}{ops:Array Oper}{Q:Exit→Act→World→Prop}{md:Region.Mode}{S S':World→Prop}{E:Nat→Bool}(hSS:∀ w,S' w→S w):∀ {fuel:Nat} {listed:Array Bool} {a:Act} {w:World},wpAnyK P md ops Q S' E fuel listed a w→wpAnyK P md ops Q S E fuel listed a w
 | 0,_,_,_,h=>h
 | _+1,_,_,_,h=>⟨h.1,fun i hi=>wpOp_mono (fun _ _ h'=>⟨fun hc=>hSS _ (h'.1 hc),wpAnyK_more hSS h'.2⟩) (h.2 i hi)⟩
abbrev Gr(w W:World):Prop:=Below w.heap.size w W
abbrev Gv(o:Value)(w W:World):Prop:=Cch.Fr (fun b=>o.ownBlock=some b) w W
variable {w a:World} {o:Value}
theorem gvt{b:World}(h:Gv o w a)(k:Gv o a b):Gv o w b:=
 ⟨k.os.trans h.os,k.tape.trans h.tape,k.output.trans h.output,Nat.le_trans h.size k.size,fun i hi hn=>(k.blk i (Nat.lt_of_lt_of_le hi h.size) hn).trans (h.blk i hi hn)⟩
theorem gv_below(h:Below w.heap.size w a):Gv o w a:=Cch.Fr.of_below h
theorem gv_grown(h:w.grownBy a o.ownBlock):Gv o w a:=⟨h.os,h.tape,h.output,h.size,fun k hk hn=>h.block k hk (fun e=>hn e.symm)⟩
variable {W:World}
theorem gv_cell(h:Gv o w W){b i:Nat}{v:Value}(hc:w.cell? ⟨b,i,none⟩=some v)(hb:o.ownBlock≠some b):W.cell? ⟨b,i,none⟩=some v:=
 (World.cell?_of_block (h.blk b (lt_cell hc) hb)).trans hc
def RecsO(W:World)(N:Nat→Prop)(ao:Option Addr)(L:Nat)(P:Nat→Int)(D:Nat→List Nat):Prop:=
 0<L→∃ b off,ao=some ⟨b,off,none⟩∧Out W N b∧∀ i,i<L→∃ a c,W.cell? ⟨b,off+i*2,none⟩=some (.int .i64 (P i))∧W.cell? ⟨b,off+i*2+1,none⟩=some (.slice (some a) 512 c)∧Rd W (some a) 512 c (D i)∧Out W N a.block
variable {L:Nat} {ao:Option Addr} {N:Nat→Prop} {w':World}
theorem RecsO.turn{N':Nat→Prop}{P:Nat→Int}{D:Nat→List Nat}(h:RecsO w N ao L P D)(ho:∀ b,Out w N b→Out w' N' b)(hc:∀ b o v,Out w N b→w.cell? ⟨b,o,none⟩=some v→w'.cell? ⟨b,o,none⟩=some v):RecsO w' N' ao L P D:=fun hl=>by
 obtain ⟨b,off,rfl,hb,hh⟩:=h hl
 refine ⟨b,off,rfl,ho _ hb,fun i hi=>?_⟩
 obtain ⟨a,c,k0,k1,hr,hao⟩:=hh i hi
 refine ⟨a,c,hc _ _ _ hb k0,hc _ _ _ hb k1,⟨hr.1,hr.2.1,hr.2.2.1,fun hp=>?_⟩,ho _ hao⟩
 obtain ⟨b',off',e,h2⟩:=hr.2.2.2 hp
 obtain rfl:=Option.some.inj e
 exact ⟨b',off',rfl,fun t ht=>hc _ _ _ hao (h2 t ht)⟩
theorem RecsO.later{P:Nat→Int}{D:Nat→List Nat}(h:RecsO w N ao L P D)(hb:Below w.heap.size w w'):RecsO w' N ao L P D:=
 h.turn (fun _ ho=>ho.later hb.size) (fun _ _ _ _ hc=>keep_old hb hc)
variable {q:Nat}
theorem RecsO.disk{P P':Dsk.Parts}{Pg:Nat→Int}{D:Nat→List Nat}(h:RecsO w (DN q P) ao L Pg D)(hf:DFrame w w' q P.all)(hg:Grew P w P'):RecsO w' (DN q P') ao L Pg D:=
 h.turn (fun _ ho=>ho.grew hf.size hg) (fun _ _ _ ho hc=>cell_df hf hc ho)
theorem RecsO.recs{P:Nat→Int}{D:Nat→List Nat}(h:RecsO w N ao L P D):Jrn.Recs w ao L P D:=fun hl=>by
 obtain ⟨b,off,rfl,hb,hh⟩:=h hl
 refine ⟨b,off,rfl,fun i hi=>?_⟩
 obtain ⟨a,c,k0,k1,hr,_⟩:=hh i hi
 exact ⟨some a,512,c,k0,k1,hr⟩
theorem rd_sec{c:Nat}{x:List Nat}(h:Rd w ao 512 c x):Rd w ao 512 c (chunks 4 x).flatten:=by
 rw [chunks_flatten 4 x (by rw [h.1])];exact h
def backL(P:Nat→Int)(D:Nat→List Nat)(n:Nat):List Stp:=(List.range n).map fun i=>.wr 0 ((P i - 1)*4) (chunks 4 (D i))
theorem backL_succ(P:Nat→Int)(D:Nat→List Nat)(n:Nat):backL P D (n+1)=backL P D n++[.wr 0 ((P n - 1)*4) (chunks 4 (D n))]:=by simp [backL,List.range_succ]
theorem backL_length(P:Nat→Int)(D:Nat→List Nat)(n:Nat):(backL P D n).length=n:=by simp [backL]
def replayL(pg:Int)(P:Nat→Int)(D:Nat→List Nat)(n:Nat):List Stp:=backL P D n++[.ct 0 (pg*4),.sy 0,.ct 1 0]
theorem lit_src(w:World)(us:List Value)(e:TypeId)(h1:∀ u∈us,u.oneCell'=true):Cch.Src (w.alloc (.cells us.toArray e)) (some ⟨w.heap.size,0,none⟩) us.length us.length us:=
 ⟨rfl,fun h=>(by cases h),fun ad e j u hu=>by
  obtain rfl:=Option.some.inj e
  rw [Addr.add_lit,World.cell?_alloc_at _ _ _ _ rfl]
  simpa using hu,h1⟩
variable {s:Stp} {v:Value}
theorem step_one(h:StepAt w q N v s):v.oneCell'=true:=by
 cases s with
 | wr f a ss=>obtain ⟨b0,b1,b2,b3,ao,n,cap,rfl,_⟩:=h;rfl
 | sy f=>obtain ⟨b0,b1,rfl,_⟩:=h;rfl
 | ct f m=>obtain ⟨b0,b1,b2,rfl,_⟩:=h;rfl
theorem step_func(h:StepAt w q N v s):∃ n cs,v=.func (.func n) #[] cs:=by
 cases s with
 | wr f a ss=>obtain ⟨b0,b1,b2,b3,ao,n,cap,rfl,_⟩:=h;exact ⟨_,_,rfl⟩
 | sy f=>obtain ⟨b0,b1,rfl,_⟩:=h;exact ⟨_,_,rfl⟩
 | ct f m=>obtain ⟨b0,b1,b2,rfl,_⟩:=h;exact ⟨_,_,rfl⟩
theorem below_grown{W':World}(hb:Below w.heap.size w W)(hg:W.grownBy W' v.ownBlock)(hv:∀ k,v.ownBlock=some k→w.heap.size≤k):Below w.heap.size w W':=
 ⟨hg.os.trans hb.os,hg.tape.trans hb.tape,hg.output.trans hb.output,Nat.le_trans hb.size hg.size,fun k hk=>(hg.block k (Nat.lt_of_lt_of_le hk hb.size) (fun e=>by have:=hv k e.symm;omega)).trans (hb.block k hk)⟩
end
section
open Go.RowKit Cch
section
variable {P:Program} {l:List Oper} {Q:Exit→Act→World→Prop} {md:Region.Mode} {S:World→Prop} {E:Nat→Bool} {oi:Oper} {v:Value} {fuel:Nat} {listed:Array Bool} {a a':Act} {w:World}
theorem gkt(i:Nat)(k:wpAnyK P md l.toArray Q S E fuel (listed.setIfInBounds i true) a' w)
  (hi:l[i]? = some oi:=by exact rfl) (hs:Region.noSelect l.toArray=true:=by kernel_rfl) (hf:Region.free md l.toArray listed i=true:=by kernel_rfl) (hr:(Region.ready md l.toArray listed).contains i=true:=by kernel_rfl)
  (hE:(!E i&&waits md l.toArray E i&&!came E listed)=true:=by kernel_rfl)
  (hQ:∀ c a w,Q (.panic c) (a.put oi.dst v) w→Q (.panic c) a w:=by exact fun _ _ _ h=>h) (hw:Region.wanted oi (yielded l.toArray a.tmps)=true:=by rfl)
  (h:∀ w,S w→(execOp a.eval oi).run P w=.ok (.value v) w:=by intro W hSw;go_simp;first |done |with_reducible rfl) (hS:S w:=by assumption)
  (hA:a.put oi.dst v=a':=by (try simp only [Act.put,sA,sZ,sS]);rfl):wpAnyK P md l.toArray Q S E (fuel+1) listed a w:=
 wpAnyK_take (at_op _ _ _ hi) hs hf hr hE hQ (Or.inl ⟨hw,h⟩) hS (hA▸k)
theorem gkp(i:Nat)(k:wpAnyK P md l.toArray Q S E fuel (listed.setIfInBounds i true) a' w)
  (hi:l[i]? = some oi:=by exact rfl) (hs:Region.noSelect l.toArray=true:=by kernel_rfl) (hf:Region.free md l.toArray listed i=true:=by kernel_rfl) (hr:(Region.ready md l.toArray listed).contains i=true:=by kernel_rfl)
  (hE:E i=false:=by kernel_rfl)
  (hQ:∀ c a w,Q (.panic c) (a.put oi.dst v) w→Q (.panic c) a w:=by exact fun _ _ _ h=>h) (hw:Region.wanted oi (yielded l.toArray a.tmps)=true:=by rfl)
  (h:∀ w,True→(execOp a.eval oi).run P w=.ok (.value v) w:=by intro W hSw;go_simp;first |done |with_reducible rfl) (hS:S w∨came E listed=true:=by first |exact Or.inl (by assumption) |exact Or.inr (by kernel_rfl))
  (hA:a.put oi.dst v=a':=by (try simp only [Act.put,sA,sZ,sS]);rfl):wpAnyK P md l.toArray Q S E (fuel+1) listed a w:=
 wpAnyK_pure (at_op _ _ _ hi) hs hf hr hE hQ (Or.inl ⟨hw,h⟩) hS (hA▸k)
theorem gku(i:Nat)(k:wpAnyK P md l.toArray Q S E fuel (listed.setIfInBounds i true) a' w)
  (hi:l[i]? = some oi:=by exact rfl) (hs:Region.noSelect l.toArray=true:=by kernel_rfl) (hf:Region.free md l.toArray listed i=true:=by kernel_rfl) (hr:(Region.ready md l.toArray listed).contains i=true:=by kernel_rfl)
  (hE:E i=false:=by kernel_rfl)
  (hQ:∀ c a w,Q (.panic c) (a.put oi.dst undef) w→Q (.panic c) a w:=by exact fun _ _ _ h=>h) (hw:Region.wanted oi (yielded l.toArray a.tmps)=false:=by kernel_rfl)
  (hS:S w∨came E listed=true:=by first |exact Or.inl (by assumption) |exact Or.inr (by kernel_rfl))
  (hA:a.put oi.dst undef=a':=by (try simp only [Act.put,sA,sZ,sS]);rfl):wpAnyK P md l.toArray Q S E (fuel+1) listed a w:=
 wpAnyK_pure (at_op _ _ _ hi) hs hf hr hE hQ (Or.inr ⟨hw,rfl⟩) hS (hA▸k)
theorem gk1(i:Nat)(h:∀ K':Act→World→Prop,Shut (∀ a w,S w→(S w→wpAnyK P md l.toArray Q S E fuel (listed.setIfInBounds i true) a w)→K' a w)→if Region.wanted oi (yielded l.toArray a.tmps)=true then Oper.wp P oi a w K' Q else K' (a.put oi.dst undef) w)
  (hi:l[i]? = some oi:=by exact rfl) (hr:Region.ready md l.toArray listed = [i]:=by kernel_rfl):wpAnyK P md l.toArray Q S E (fuel+1) listed a w:=
 wpAnyK_ready (rs:=[i]) hr (by simp) (AllReadyK.cons (at_op _ _ _ hi) h AllReadyK.nil)
theorem gkl(i:Nat)(h:∀ K':Act→World→Prop,Shut (∀ a w,wpAnyK P md l.toArray Q S E fuel (listed.setIfInBounds i true) a w→K' a w)→if Region.wanted oi (yielded l.toArray a.tmps)=true then Oper.wp P oi a w K' Q else K' (a.put oi.dst undef) w)
  (hi:l[i]? = some oi:=by exact rfl) (hr:Region.ready md l.toArray listed = [i]:=by kernel_rfl) (hE:came E (listed.setIfInBounds i true)=true:=by kernel_rfl):wpAnyK P md l.toArray Q S E (fuel+1) listed a w:=
 wpAnyK_ready (rs:=[i]) hr (by simp) (AllReadyK.late (at_op _ _ _ hi) hE h AllReadyK.nil)
end
end
section
open Go.RowKit Go.Maps
open Dsk (gt hid undrew keep_old keep_cell lt_cell Rd DS FS Sec DiskP DFrame Grew From writeD syncD cutD lenD readD newD known op_at)
open Cch (wpAnyK wpAnyK_take wpAnyK_pure wpAnyK_ready wpAnyK_done wp_region_K AllReadyK.cons AllReadyK.nil)
theorem own_bound{w:World}{e:TypeId}{v:Value}{n:Nat}{xs:List Value}(h:w.ownsRow 0 e 1 v n xs){k:Nat}(hk:v.ownBlock=some k):k<w.heap.size:=by
 rcases h.2 with ⟨h1,_⟩ | ⟨g,cap,cur,h1,_,hg,_⟩
 ·subst h1;cases hk
 ·subst h1
  have:g=k:=by simpa [Value.ownBlock] using hk
  subst this
  rcases Nat.lt_or_ge g w.heap.size with hlt |hge
  ·exact hlt
  ·rw [Array.getElem?_eq_none hge]at hg;cases hg
theorem replay_make(q:Nat)(c pg:Int)(m:Nat)(lo:Option Addr)(L cap:Nat)(P:Nat→Int)(D:Nat→List Nat)(N:Nat→Prop)(w:World)(hN:∀ k,N k→k<w.heap.size)
  (hr:RecsO w N lo L P D) (hL:L≤100000) (hP:∀ i,i<L→-1000000≤P i∧P i≤1000000) (hpg:0≤pg∧pg≤1000000) :
  Calls Tryz.prog 82 #[.pointer (some ⟨q,0,none⟩),.agg #[.int .i64 c,.int .i64 pg,.int .u64 (m:Int)],.slice lo L cap] w fun e w'=>∃ ao cp,e=.returned (.slice ao (replayL pg P D L).length cp)∧StepsAt w' q N ao (replayL pg P D L)∧Below w.heap.size w w':=by
 have HN:=hid hN;have HR:=hid hr;have HP:=hid hP
 have A0:Below w.heap.size w (w.alloc (.cells #[.int .i64 c,.int .i64 pg,.int .u64 (m:Int)] 122)):=Below.alloc (Below.refl _ _) (Nat.le_refl _) _
 have q0:=hid (Jrn.HB.new 122 w c pg m).cells.2.1
 have o0:=hid (StRow.nil (w.alloc (.cells #[.int .i64 c,.int .i64 pg,.int .u64 (m:Int)] 122)) q N (w.heap.size+1) (fun k hk=>Nat.lt_succ_of_lt (hN k hk)) (by simp))
 have A0':=hid A0
 have hpw:IntKind.i64.wrap (pg*4)=pg*4:=IntWalk.i64_in _ ⟨by omega,by omega⟩
 clear hN hr hP A0 hpg
 go_enter Tryz.func82,Tryz.ntmps82
 go_wp2
 go_loopw [7,12] (fun o cc W=>∃ (i:Nat) (us:List Value),i≤L∧cc=.int .i64 (i:Int)∧Hid (StRow W q N (w.heap.size+1) o us (backL P D i))∧Hid (Below w.heap.size w W)∧Hid (W.cell? ⟨w.heap.size,1,none⟩=some (.int .i64 pg))) (fun _ cc _=>L - (Lib.intOf cc).toNat)
 case atStart=>exact ⟨0,[],by omega,rfl,o0,A0',q0⟩
 case round=>
  obtain ⟨i,us,hi,rfl,OO,BB,QQ⟩:=hrel
  clear o0 A0' q0
  by_cases hiL:i<L
  ·obtain ⟨b0,off,rfl,hbo,hc⟩:=HR.out (by omega)
   obtain ⟨a,c1,k0,k1,rd,hao⟩:=hc i hiL
   obtain ⟨p,hp⟩:∃ p,P i=p:=⟨_,rfl⟩
   obtain ⟨d,hd⟩:∃ d,D i=d:=⟨_,rfl⟩
   rw [hp]at k0;rw [hd]at rd
   have hpr:Hid (-1000000≤p∧p≤1000000):=hid (by rw [←hp];exact HP.out i hiL)
   have hdl:Hid (d.length=512):=hid rd.1
   have rd5:=hid rd;have ao5:=hid hao
   have hno:Hid (¬NV N u7 a.block):=hid (fun hk=>by
    rcases hk with hk |hk
    ·exact hao.2 hk
    ·have:=(OO.out.blk _ hk).1;have:=hao.1;omega)
   have k0':=keep_old BB.out k0
   have k1':=keep_old BB.out k1
   have hbs:Hid (backL P D (i+1)=backL P D i++[.wr 0 ((p - 1)*4) (chunks 4 d)]):=hid (by rw [backL_succ,hp,hd])
   have hiI:(i:Int)<(L:Int):=by omega
   have hi0:(0:Int)≤(i:Int):=by omega
   clear k0 k1 rd hao hc hp hd hbo
   go_upto_region 5 with fail
   obtain ⟨r,hr⟩:∃ r,r=wr.heap.size:=⟨_,rfl⟩
   obtain ⟨W3,hW3⟩:∃ W3,W3=wr.alloc (.cells #[.int .i64 p,.slice (some a) 512 c1] 153):=⟨_,rfl⟩
   have hb:Below wr.heap.size wr W3.drew:=by rw [hW3];exact (Below.alloc (Below.refl _ _) (Nat.le_refl _) _).drew
   have YY:Jrn.RB 153 W3.drew r p (some a) 512 c1:=by rw [hW3,hr];exact (Jrn.RB.new 153 wr p (some a) 512 c1).keep (Below.refl _ _).drew
   have Y0:=hid YY.cells.1
   have Y1:=hid YY.cells.2.1
   have hor:Hid (u7.ownBlock≠some r):=hid (fun e=>by have:=(OO.out.blk _ e).2;omega)
   replace OO:=hid (OO.out.later hb);replace BB:=hid (gt BB.out hb);replace QQ:=hid (keep_old hb QQ.out)
   rw [←hW3,←hr]
   clear hW3 hr hb YY k0' k1'
   refine wp_region_K (S:=Gv u7 W3.drew) (fun _=>false) (by kernel_rfl) (Cch.Fr.refl _ _) (fun hHeld=>?_)
   refine gkp 0 ?_
   refine gkp 1 ?_
   refine gkp 2 ?_
   refine gkt 3 ?_ (h:=by intro W hSw;have a0:=gv_cell hSw Y0.out hor.out;have a1:=gv_cell hSw Y1.out hor.out;go_simp;first |done |with_reducible rfl)
   refine gkp 5 ?_
   refine gkt 6 ?_ (h:=by intro W hSw;have a0:=gv_cell hSw Y0.out hor.out;have a1:=gv_cell hSw Y1.out hor.out;go_simp;first |done |with_reducible rfl)
   refine gk1 4 (fun K hK=>?_)
   go_simp
   go_at_call 97;refine (place_any _ _ hpr.out).mono ?_;rintro e w4 ⟨rfl,hw⟩;have hb:Below W3.drew.heap.size W3.drew w4:=(by rw [hw];exact Below.refl _ _);have hR:Gv u7 W3.drew w4:=gv_below hb;replace OO:=hid (OO.out.later hb);replace Y0:=hid (keep_old hb Y0.out);replace Y1:=hid (keep_old hb Y1.out);replace BB:=hid (gt BB.out hb);replace QQ:=hid (keep_old hb QQ.out);clear hw hb
   refine hK.out _ _ hR (fun hHeld=>?_)
   clear hK K
   (try simp only [Act.put,sA,sZ,sS])
   clear hHeld
   refine wpAnyK_more (S':=Gv u7 w4) (fun W h=>gvt hR h) ?_
   have hHeld:Gv u7 w4 w4:=Cch.Fr.refl _ _
   clear hR
   refine gk1 7 (fun K hK=>?_)
   go_simp
   go_at_call 109;refine (write_make q 0 ((p - 1)*4) (some a) 512 c1 (chunks 4 d) (NV N u7) w4 (fun k hk=>OO.out.lt hk) (rd_sec (rd5.out.keep BB.out)) (fun _ x hx=>(by obtain rfl:=Option.some.inj hx;exact ⟨Nat.lt_of_lt_of_le ao5.out.1 BB.out.size,fun hk=>hno.out hk⟩)) (by rw [chunks_length]) (chunks_each 4 d (by rw [hdl.out])) (by rw [chunks_length];omega)).mono ?_;rintro e w5 ⟨u,rfl,hst,hb⟩;have hR:Gv u7 w4 w5:=gv_below hb;replace OO:=hid (OO.out.later hb);replace Y0:=hid (keep_old hb Y0.out);replace Y1:=hid (keep_old hb Y1.out);replace BB:=hid (gt BB.out hb);replace QQ:=hid (keep_old hb QQ.out);obtain ⟨n5,cs5,rfl⟩:=step_func hst;have ST:=hid hst;clear hst hb
   refine hK.out _ _ hR (fun hHeld=>?_)
   clear hK K
   (try simp only [Act.put,sA,sZ,sS])
   clear hHeld
   refine wpAnyK_more (S':=Gv u7 w5) (fun W h=>gvt hR h) ?_
   have hHeld:Gv u7 w5 w5:=Cch.Fr.refl _ _
   clear hR
   refine gk1 8 (fun K hK=>?_)
   go_simp
   have hb:Below w5.heap.size w5 (w5.alloc (.cells #[.func (.func n5) #[] cs5] 115)):=Below.alloc (Below.refl _ _) (Nat.le_refl _) _;have hR:Gv u7 w5 (w5.alloc (.cells #[.func (.func n5) #[] cs5] 115)):=gv_below hb;replace OO:=hid (OO.out.later hb);replace Y0:=hid (keep_old hb Y0.out);replace Y1:=hid (keep_old hb Y1.out);replace BB:=hid (gt BB.out hb);replace QQ:=hid (keep_old hb QQ.out);replace ST:=hid (ST.out.later hb);have SR:=hid (lit_src w5 [(.func (.func n5) #[] cs5)] 115 (by intro x hx;simp at hx;subst hx;exact step_one ST.out));clear hb
   refine hK.out _ _ hR (fun hHeld=>?_)
   clear hK K
   (try simp only [Act.put,sA,sZ,sS])
   clear hHeld
   refine wpAnyK_more (S':=Gv u7 (w5.alloc (.cells #[.func (.func n5) #[] cs5] 115))) (fun W h=>gvt hR h) ?_
   have hHeld:Gv u7 (w5.alloc (.cells #[.func (.func n5) #[] cs5] 115)) (w5.alloc (.cells #[.func (.func n5) #[] cs5] 115)):=Cch.Fr.refl _ _
   clear hR
   refine gk1 9 (fun K hK=>?_)
   refine Cch.step_app rfl (.tmp 16) (.tmp 24) el113 rfl u7 (backL P D i).length us rfl OO.out.row (some ⟨w5.heap.size,0,none⟩) 1 1 [(.func (.func n5) #[] cs5)] rfl SR.out (by rw [backL_length];omega) ?_;intro a7 c7 w7 ho7 hg7 ha7;have hR:Gv u7 (w5.alloc (.cells #[.func (.func n5) #[] cs5] 115)) w7:=gv_grown hg7;have O7:=hid ho7;have G7:=hid hg7;have A7:=hid ha7;clear ho7 hg7 ha7
   refine hK.out _ _ hR (fun hHeld=>?_)
   clear hK K
   (try simp only [Act.put,sA,sZ,sS])
   clear hR
   refine gkp 10 ?_
   refine wpAnyK_done (by kernel_rfl) ?_ _
   go_wp2
   go_roundw
   case rel=>
    have hlt:∀ x,a7=some x→x.block<w7.heap.size:=fun x hx=>own_bound O7.out (by rw [hx];rfl)
    have hP7:=OO.out.push (ls:=[.wr 0 ((p - 1)*4) (chunks 4 d)]) (ys:=[(.func (.func n5) #[] cs5)]) (m:=1) (fun j s hs=>by
     cases j with
     | zero=>simp at hs;subst hs;exact ⟨_,rfl,ST.out⟩
     | succ j=>simp at hs) rfl rfl O7.out G7.out A7.out hlt
    rw [←hbs.out]at hP7
    refine ⟨i+1,us++[(.func (.func n5) #[] cs5)],by omega,by go_num,hid hP7,hid (below_grown BB.out G7.out (fun k hk=>Nat.le_of_succ_le (OO.out.blk k hk).1)),hid (cell_grown G7.out QQ.out (fun e=>by have:=(OO.out.blk _ e).1;omega))⟩
   case measure=>simp [Lib.intOf];omega
  ·obtain rfl:i=L:=by omega
   have q1:=QQ.out
   have t1:Hid True:=hid trivial
   go_wp2_with (first
    | (go_at_call 78;clear t1;refine (cut_make q 0 (pg*4) (NV N u7) wr (fun k hk=>OO.out.lt hk)).mono ?_;rintro e w1 ⟨x1,rfl,s1,b1⟩;obtain ⟨n1,cs1,rfl⟩:=step_func s1;replace OO:=hid (OO.out.later b1);replace BB:=hid (gt BB.out b1);have S1:=hid s1;clear s1 b1 q1 QQ)
    | (go_at_call 110;refine (sync_make q 0 (NV N u7) w1 (fun k hk=>OO.out.lt hk)).mono ?_;rintro e w2 ⟨x2,rfl,s2,b2⟩;obtain ⟨n2,cs2,rfl⟩:=step_func s2;replace OO:=hid (OO.out.later b2);replace BB:=hid (gt BB.out b2);replace S1:=hid (S1.out.later b2);have S2:=hid s2;clear s2 b2)
    | (go_at_call 78;refine (cut_make q 1 0 (NV N u7) w2 (fun k hk=>OO.out.lt hk)).mono ?_;rintro e w3 ⟨x3,rfl,s3,b3⟩;obtain ⟨n3,cs3,rfl⟩:=step_func s3;have b4:Below w3.heap.size w3 (w3.alloc (.cells #[.func (.func n1) #[] cs1,.func (.func n2) #[] cs2,.func (.func n3) #[] cs3] 115)):=Below.alloc (Below.refl _ _) (Nat.le_refl _) _;have SR:=hid (lit_src w3 [(.func (.func n1) #[] cs1),(.func (.func n2) #[] cs2),(.func (.func n3) #[] cs3)] 115 (by intro x hx;simp at hx;rcases hx with rfl | rfl | rfl<;>rfl));replace OO:=hid ((OO.out.later b3).later b4);replace BB:=hid (gt (gt BB.out b3) b4);replace S1:=hid ((S1.out.later b3).later b4);replace S2:=hid ((S2.out.later b3).later b4);have S3:=hid (s3.later b4);clear s3 b3 b4)
    | ((with_reducible refine Dsk.here_op 38 ?_);refine Cch.wpList_app rfl (.tmp 27) (.tmp 37) el113 rfl u7 (backL P D i).length us rfl OO.out.row (some ⟨w3.heap.size,0,none⟩) 3 3 [(.func (.func n1) #[] cs1),(.func (.func n2) #[] cs2),(.func (.func n3) #[] cs3)] rfl SR.out (by rw [backL_length];omega) ?_;intro a7 c7 w7 ho7 hg7 ha7;have O7:=hid ho7;have G7:=hid hg7;have A7:=hid ha7;clear ho7 hg7 ha7))
   go_ret
   have hlt:∀ x,a7=some x→x.block<w7.heap.size:=fun x hx=>own_bound O7.out (by rw [hx];rfl)
   have hP7:=OO.out.push (ls:=[.ct 0 (pg*4),.sy 0,.ct 1 0]) (ys:=[(.func (.func n1) #[] cs1),(.func (.func n2) #[] cs2),(.func (.func n3) #[] cs3)]) (m:=3) (fun j s hs=>by
     match j with
     | 0=>simp at hs;subst hs;exact ⟨_,rfl,S1.out⟩
     | 1=>simp at hs;subst hs;exact ⟨_,rfl,S2.out⟩
     | 2=>simp at hs;subst hs;exact ⟨_,rfl,S3.out⟩
     | j+3=>simp at hs) rfl rfl O7.out G7.out A7.out hlt
   obtain ⟨hn,hst⟩:=hP7.steps
   refine ⟨a7,c7,by rw [hn];rfl,hst,below_grown BB.out G7.out (fun k hk=>Nat.le_of_succ_le (OO.out.blk k hk).1)⟩
end
end Go.Proofs.YtadhdedjdgjboaaGreatDoor
