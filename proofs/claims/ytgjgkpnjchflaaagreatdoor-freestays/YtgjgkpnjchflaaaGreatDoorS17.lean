/- Lists of records in memory, and what records makes of seeds; no statement of the seat is proved here. -/
import Derived.Test.YtgjgkpnjchflaaaGreatDoorS16
import Derived.Deep.DeepCutAuto
import Derived.Test.YtgjgkpnjchflaaaGreatDoorS10
import Derived.Test.YtgjgkpnjchflaaaGreatDoorS15
import Derived.Test.YtgjgkpnjchflaaaGreatDoorS02
import Derived.Test.YtgjgkpnjchflaaaGreatDoorS00
set_option maxHeartbeats 16000000
set_option maxRecDepth 20000
namespace Go.Proofs.YtgjgkpnjchflaaaGreatDoor
namespace Jrn
open Go.RowKit
def Recs(W:World)(ao:Option Addr)(L:Nat)(P:Nat→Int)(D:Nat→List Nat):Prop:=
 0<L→∃ b off,ao=some ⟨b,off,none⟩∧∀ i,i<L→∃ a n c,W.cell? ⟨b,off+i*2,none⟩=some (.int .i64 (P i))∧W.cell? ⟨b,off+i*2+1,none⟩=some (.slice a n c)∧Rd W a n c (D i)
theorem Recs.keep{W W':World}{ao:Option Addr}{L:Nat}{P:Nat→Int}{D:Nat→List Nat}(h:Recs W ao L P D)(hb:Below W.heap.size W W'):Recs W' ao L P D:=by
 intro hL
 obtain ⟨b,off,e,hc⟩:=h hL
 refine ⟨b,off,e,fun i hi=>?_⟩
 obtain ⟨a,n,c,h0,h1,h2⟩:=hc i hi
 exact ⟨a,n,c,keep_old hb h0,keep_old hb h1,h2.keep hb⟩
theorem Tryz.info168:(Tryz.prog.info? 168).map (fun i=>(i.zero,i.size,i.bytes))=some (some (.agg #[.int .i64 0,.slice none 0 0]),2,32):=by kernel_rfl
variable {xs:List Value} {n size base:Nat} {v:Value} {e:TypeId} {w w':World}
theorem row_later(h:w.ownsRow base e size v n xs)(hb:Below w.heap.size w w'):w'.ownsRow base e size v n xs:=by
 obtain ⟨hl,h | ⟨g,cap,cur,rfl,hb',hg,rest⟩⟩:=h
 ·exact ⟨hl,.inl h⟩
 ·exact ⟨hl,.inr ⟨g,cap,cur,rfl,hb',by rw [hb.block g (lt_of_block hg)];exact hg,rest⟩⟩
theorem row_form(h:w.ownsRow base e size v n xs):∃ ao cap,v=.slice ao n cap:=by
 obtain ⟨hl,⟨rfl,rfl⟩ | ⟨g,cap,cur,rfl,_⟩⟩:=h
 ·exact ⟨_,_,rfl⟩
 ·exact ⟨_,_,rfl⟩
theorem below_grown{B:Nat}(h:w.ownsRow base e size v n xs)(hg:w.grownBy w' v.ownBlock)(hB:B≤base)(hB2:B≤w.heap.size):Below B w w':=
 (Below.refl B w).grown hg hB2 fun k hk=>Nat.le_trans hB (h.lt k hk).1
end Jrn
namespace Jrn
open Go.RowKit
def goodFrom(P:Nat→Int)(D:Nat→List Nat)(pg:Int)(last:Int):Nat→Nat→Bool
 | _,0=>true
 | i,k+1=>rgood (P i) (D i).length&&decide (last<P i)&&decide (P i≤pg)&&goodFrom P D pg (P i) (i+1) k
def goodL(c pg:Int)(L:Nat)(P:Nat→Int)(D:Nat→List Nat):Bool:=hgood c pg&&decide ((L:Int)=c)&&goodFrom P D pg 0 0 L
theorem good_any(c pg:Int)(m:Nat)(ao:Option Addr)(L cap:Nat)(P:Nat→Int)(D:Nat→List Nat)(w:World)(h:Recs w ao L P D)(hL:L≤100000) :
  Calls Tryz.prog 108 #[.agg #[.int .i64 c,.int .i64 pg,.int .u64 (m:Int)],.slice ao L cap] w fun e w'=>e=.returned (.bool (goodL c pg L P D))∧Below w.heap.size w w':=by
 have h':=hid h
 have cg:=hid (hgood_any c pg m)
 have q0:=hid (HB.new 140 w c pg m)
 have cr:=hid fun p ao n cap W=>rgood_any p ao n cap W
 obtain ⟨b,hb⟩:∃ b,b=goodL c pg L P D:=⟨_,rfl⟩
 have hb':=hid hb
 rw [←hb]
 clear h hb
 cases hg:hgood c pg with
 | false=>
  rw [hg]at cg
  obtain rfl:b=false:=by rw [hb'.out];unfold goodL;rw [hg];rfl
  clear hg
  go_enter Tryz.func108,Tryz.ntmps108
  go_wp2_with (go_at_call 152;refine (cg.out _).mono ?_;rintro e w1 ⟨rfl,hb1⟩)
  go_ret
  exact ⟨rfl,gt (Below.alloc (Below.refl _ _) (Nat.le_refl _) _) hb1⟩
 | true=>
  rw [hg]at cg
  by_cases hLc:(L:Int)=c
  ·have e1:b=goodFrom P D pg 0 0 L:=by rw [hb'.out];unfold goodL;rw [hg];simp [hLc]
   have e1':=hid e1
   have hne:((L:Int) != c)=false:=by simp [hLc]
   clear hg e1 hb'
   subst hLc
   go_enter Tryz.func108,Tryz.ntmps108
   go_wp2_with (go_at_call 152;refine (cg.out _).mono ?_;rintro e w1 ⟨rfl,hb1⟩;have Q1:=hid (q0.out.keep hb1);have B1:=hid (gt (Below.alloc (Below.refl _ _) (Nat.le_refl _) _) hb1);clear hb1;obtain ⟨a0,a1,a2,_,_,_⟩:=Q1.out.cells)
   clear a0 a1 a2
   go_loopw [5,20] (fun s5 cc W=>∃ (i:Nat) (last:Int),i≤L∧cc=.int .i64 (i:Int)∧s5=.int .i64 last∧Hid (goodFrom P D pg last i (L - i)=b)∧Hid (HB 140 W w.heap.size (L:Int) pg m)∧Hid (Below w.heap.size w W)) (fun _ cc _=>L - (intOf cc).toNat)
   case atStart=>exact ⟨0,0,by omega,rfl,rfl,hid e1'.out.symm,Q1,B1⟩
   case round=>
    obtain ⟨i,last,hi,rfl,rfl,G,Q,B⟩:=hrel
    clear Q1 B1
    by_cases hiL:i<L
    ·obtain ⟨b0,off,rfl,hc⟩:=h'.out (by omega)
     obtain ⟨a,n,c1,k0,k1,rd⟩:=hc i hiL
     have k0':=keep_old B.out k0
     have k1':=keep_old B.out k1
     have hn:(D i).length=n:=rd.1
     obtain ⟨p,hp⟩:∃ p,p=P i:=⟨_,rfl⟩
     rw [←hp]at k0'
     have hG:=G.out
     rw [show L - i=(L - (i+1))+1 by omega]at hG
     simp only [goodFrom]at hG
     rw [←hp,hn]at hG
     have G':=hid hG
     have hBs:=B.out.size
     clear hG G k0 k1 rd hc hn hp e1'
     cases hg1:rgood p n with
     | false=>
      have hbf:b=false:=by rw [←G'.out,hg1];simp only [Bool.false_and]
      clear G'
      subst hbf
      go_wp2_with (go_at_call 153;refine (cr.out p a n c1 _).mono ?_;rw [hg1];rintro e w2 ⟨rfl,hb2⟩;have Q2:=hid (Q.out.keep2 hb2);have B2:=hid (gt2 B.out hb2);have Y2:=hid ((RB.new 168 wr p a n c1).keep hb2);obtain ⟨y0,y1,_,_⟩:=Y2.out.cells;obtain ⟨q0,q1,q2,_,_,_⟩:=Q2.out.cells;clear hb2)
      go_ret
      exact ⟨rfl,B2.out⟩
     | true=>
      by_cases hl1:last<p
      ·by_cases hl2:p≤pg
       ·have G2:Hid (goodFrom P D pg p (i+1) (L - (i+1))=b):=hid (by rw [←G'.out,hg1,decide_eq_true hl1,decide_eq_true hl2];simp only [Bool.true_and])
        clear G'
        go_wp2_with (go_at_call 153;refine (cr.out p a n c1 _).mono ?_;rw [hg1];rintro e w2 ⟨rfl,hb2⟩;have Q2:=hid (Q.out.keep2 hb2);have B2:=hid (gt2 B.out hb2);have Y2:=hid ((RB.new 168 wr p a n c1).keep hb2);obtain ⟨y0,y1,_,_⟩:=Y2.out.cells;obtain ⟨q0,q1,q2,_,_,_⟩:=Q2.out.cells;clear hb2)
        exact ⟨⟨i+1,p,by omega,by go_num,rfl,G2,Q2,B2⟩,by simp [intOf];omega⟩
       ·have hbf:b=false:=by rw [←G'.out,hg1,decide_eq_false hl2];simp only [Bool.false_and,Bool.and_false]
        clear G'
        subst hbf
        go_wp2_with (go_at_call 153;refine (cr.out p a n c1 _).mono ?_;rw [hg1];rintro e w2 ⟨rfl,hb2⟩;have Q2:=hid (Q.out.keep2 hb2);have B2:=hid (gt2 B.out hb2);have Y2:=hid ((RB.new 168 wr p a n c1).keep hb2);obtain ⟨y0,y1,_,_⟩:=Y2.out.cells;obtain ⟨q0,q1,q2,_,_,_⟩:=Q2.out.cells;clear hb2)
        go_ret
        exact ⟨rfl,B2.out⟩
      ·have hbf:b=false:=by rw [←G'.out,hg1,decide_eq_false hl1];simp only [Bool.false_and,Bool.and_false]
       clear G'
       subst hbf
       go_wp2_with (go_at_call 153;refine (cr.out p a n c1 _).mono ?_;rw [hg1];rintro e w2 ⟨rfl,hb2⟩;have Q2:=hid (Q.out.keep2 hb2);have B2:=hid (gt2 B.out hb2);have Y2:=hid ((RB.new 168 wr p a n c1).keep hb2);obtain ⟨y0,y1,_,_⟩:=Y2.out.cells;obtain ⟨q0,q1,q2,_,_,_⟩:=Q2.out.cells;clear hb2)
       go_ret
       exact ⟨rfl,B2.out⟩
    ·obtain rfl:i=L:=by omega
     have:b=true:=by rw [←G.out,Nat.sub_self];rfl
     subst this
     go_wp2
     go_ret
     exact ⟨rfl,B.out⟩
  ·obtain rfl:b=false:=by rw [hb'.out];unfold goodL;rw [hg];simp [hLc]
   have hne:((L:Int) != c)=true:=by simp [hLc]
   have hne2:((L:Int) == c)=false:=by simp [hLc]
   clear hg
   go_enter Tryz.func108,Tryz.ntmps108
   go_wp2_with (go_at_call 152;refine (cg.out _).mono ?_;rintro e w1 ⟨rfl,hb1⟩;have Q1:=hid (q0.out.keep hb1);have B1:=hid (gt (Below.alloc (Below.refl _ _) (Nat.le_refl _) _) hb1);clear hb1;obtain ⟨a0,a1,a2,_,_,_⟩:=Q1.out.cells)
   go_ret
   exact ⟨rfl,B1.out⟩
end Jrn
namespace Jrn
open Go.RowKit
theorem head_rows(c p n:Nat):(List.replicate 128 0).take 0++hd26 c p n++(List.replicate 128 0).drop (0+26)=headN c p n false:=by
 unfold headN
 simp only [List.take_zero,List.nil_append,List.drop_replicate,List.append_assoc,Bool.false_eq_true,if_false]
 rfl
theorem head_mark(c p n:Nat):(headN c p n false).set 127 165=headN c p n true:=by
 unfold headN
 rw [List.set_append_right _ _ (by simp [hd26_length])]
 simp [hd26_length]
theorem cell127{w:World}{B g:Nat}{c p n:Nat}(h:w.ownsRow B 5 1 (.slice (some ⟨g,0,none⟩) 128 128) 128 (bs (headN c p n false))):w.cell? ⟨g,127,none⟩=some (.int .u8 0):=by
 rw [h.cellAt 127 (by omega),bs_get _ _ (by rw [headN_length];omega)]
 have:(headN c p n false).getD 127 0=0:=by
  unfold headN
  simp [List.getD,hd26_length]
 rw [this]
 rfl
theorem head_yes(c p n:Nat)(wh:Bool)(w:World)(hc:c≤4000)(hp:p≤4000)(hT:Tab w) :
  Calls Tryz.prog 119 #[.agg #[.int .i64 (c:Int),.int .i64 (p:Int),.int .u64 (n:Int)],.bool wh] w fun e w'=>∃ g,e=.returned (.slice (some ⟨g,0,none⟩) 128 128)∧w'.ownsRow w.heap.size 5 1 (.slice (some ⟨g,0,none⟩) 128 128) 128 (bs (headN c p n wh))∧Below w.heap.size w w':=by
 have cg:=hid (hgood_any (c:Int) (p:Int) n)
 rw [(hgood_iff (c:Int) (p:Int)).2 (by omega)]at cg
 have kc:=fun (w:World) (C:Array Value) (n c:Nat)=>Lib.run_convert_bytes_const (P:=Tryz.prog) w 79 5 C n c Tryz.underlying79 Tryz.underlying5
 have hT':=hid hT
 have h0:Hid (HB 140 (w.alloc (.cells #[.int .i64 c,.int .i64 p,.int .u64 (n:Int)] 140)) w.heap.size c p n):=hid (HB.new 140 w c p n)
 obtain ⟨K,hK⟩:∃ K:Nat,K=128:=⟨_,rfl⟩
 have hmk:=make_lit 128 K (by omega) (by omega)
 have hK':=hid hK
 obtain ⟨S,hS⟩:∃ S,S=addN 0 (hd22 c p n):=⟨_,rfl⟩
 have hS1:S<4294967296:=by rw [hS];exact addN_lt (by decide) (hd22_bytes _ _ _)
 have hS':=hid hS
 have tA:Hid True:=hid trivial
 have tB:Hid True:=hid trivial
 have tC:Hid True:=hid trivial
 clear hT hK hS
 go_enter Tryz.func119,Tryz.ntmps119
 go_wp2_with (first
  | (go_at_call 152;refine (cg.out _).mono ?_;rintro e w1 ⟨rfl,hb1⟩;have h1:=hid (h0.out.keep hb1);have B1:=hid (gt (Below.alloc (Below.refl _ _) (Nat.le_refl _) _) hb1);obtain ⟨q0,q1,q2,_,_,_⟩:=h1.out.cells;have hl1:=h1.out.lt;have hne1:¬w.heap.size=w1.heap.size:=(by omega);clear cg hb1)
  | (go_at_call 114;clear tA;refine (put4 _ 6 6 10 mag c _ (rd_lit w1 mag 6 _ _ rfl rfl) (by omega) (by omega)).mono ?_;rintro e w2 ⟨g2,rfl,hg2,r2,hb2⟩;have h2:=hid (h1.out.keep2 hb2);have B2:=hid (gt2 B1.out hb2);replace r2:=hid r2;clear hb2 q0 q1 q2 kc hne1;obtain ⟨q0,q1,q2,_,_,_⟩:=h2.out.cells)
  | (go_at_call 114;clear tB;refine (put4 _ 10 10 14 _ p _ r2.out (by omega) (by omega)).mono ?_;rintro e w3 ⟨g3,rfl,hg3,r3,hb3⟩;have h3:=hid (h2.out.keep hb3);have B3:=hid (gt B2.out hb3);replace r3:=hid r3;clear hb3 q0 q1 q2;obtain ⟨q0,q1,q2,_,_,_⟩:=h3.out.cells)
  | (go_at_call 114;clear tC;refine (put8 _ 14 14 22 _ n _ r3.out (by omega) (by omega)).mono ?_;rintro e w4 ⟨g4,rfl,hg4,r4,hb4⟩;have B4:=hid (gt B3.out hb4);replace r4:Hid (Rd w4 (some ⟨g4,0,none⟩) 22 22 (hd22 c p n)):=hid r4;clear hb4 q0 q1 q2)
  | (go_at_call 149;refine (of_any _ 22 22 _ _ r4.out (hd22_bytes _ _ _) (by omega) (hT'.out.keep B4.out)).mono ?_;rintro e w5 ⟨rfl,hw5⟩;obtain rfl:=hw5.symm;rw [←hS'.out])
  | (go_at_call 114;refine (put4 _ 22 22 26 _ S _ r4.out (by omega) (by omega)).mono ?_;rintro e w6 ⟨g6,rfl,hg6,r6,hb6⟩;have B6:=hid (gt B4.out hb6);replace r6:Hid (Rd w6 (some ⟨g6,0,none⟩) 26 26 (hd26 c p n)):=hid (by rw [hS'.out]at r6;exact r6);clear hb6)
  | ((with_reducible refine here_op 33 ?_);refine wpList_copy_in rfl (.tmp 31) (.tmp 32) rfl w6.heap.size w6.heap.size K 0 (List.replicate K 0) (own_zeros w6 K (by have:=hK'.out;omega)) K K rfl (by omega) (some ⟨g6,0,none⟩) 26 26 (hd26 c p n) rfl (r6.out.keep (Below.alloc (Below.refl _ _) (Nat.le_refl _) _)) (by have:=hK'.out;omega) ?_;intro w7 ho7 hb7;clear hmk;have hK2:=hK'.out;subst hK2;rw [head_rows]at ho7;have B7:=hid ((Below.alloc B6.out B6.out.size _).trans (hb7.mono B6.out.size));have hg7:=B6.out.size;have c7:=cell127 ho7;have f7:=ho7.frozenAt 127;replace ho7:=hid (own_base ho7 hg7);clear hb7))
 all_goals go_ret
 ·exact ⟨_,rfl,by rw [←head_mark];exact own_store ho7.out 127 165,Below.setCell B7.out hg7 _⟩
 ·exact ⟨_,rfl,ho7.out,B7.out⟩
end Jrn
namespace Jrn
open Go.RowKit
def recsN(P:Nat→Int)(D:Nat→List Nat)(n:Nat):Nat→Nat→List Nat
 | _,0=>[]
 | i,k+1=>recN (P i).toNat n (D i)++recsN P D n (i+1) k
def bytesN(c pg:Int)(n:Nat)(wh:Bool)(L:Nat)(P:Nat→Int)(D:Nat→List Nat):List Nat:=headN c.toNat pg.toNat n wh++recsN P D n 0 L
theorem recsN_bytes(P:Nat→Int)(D:Nat→List Nat)(n:Nat)(k:Nat):∀ i,(∀ j,j<i+k→∀ x∈D j,x<256)→∀ x∈recsN P D n i k,x<256:=by
 induction k with
 | zero=>intro i _ x h;cases h
 | succ k ih=>
  intro i hd
  exact app_bytes (recN_bytes _ _ (hd i (by omega))) (ih (i+1) (fun j hj=>hd j (by omega)))
variable {pg:Int}
theorem goodFrom_all{P:Nat→Int}{D:Nat→List Nat}(k:Nat):∀ {last i},goodFrom P D pg last i k=true→∀ j,i≤j→j<i+k→(1≤P j∧P j≤4000)∧(D j).length=512:=by
 induction k with
 | zero=>intro last i _ j h1 h2;omega
 | succ k ih=>
  intro last i h j h1 h2
  simp only [goodFrom,Bool.and_eq_true]at h
  rcases Nat.eq_or_lt_of_le h1 with rfl |h3
  ·exact (rgood_iff _ _).1 h.1.1.1
  ·exact ih h.2 j (by omega) (by omega)
variable {L:Nat}
theorem goodL_all{c:Int}{P:Nat→Int}{D:Nat→List Nat}(h:goodL c pg L P D=true):((0≤c∧c≤4000)∧0≤pg∧pg≤4000)∧(L:Int)=c∧∀ j,j<L→(1≤P j∧P j≤4000)∧(D j).length=512:=by
 simp only [goodL,Bool.and_eq_true,decide_eq_true_eq]at h
 exact ⟨(hgood_iff _ _).1 h.1.1,h.1.2,fun j hj=>goodFrom_all L h.2 j (by omega) (by omega)⟩
variable {n:Nat}
theorem recsN_length{P:Nat→Int}{D:Nat→List Nat}(k:Nat):∀ i,(∀ j,i≤j→j<i+k→(D j).length=512)→(recsN P D n i k).length=k*640:=by
 induction k with
 | zero=>intro i _;rfl
 | succ k ih=>
  intro i h
  simp only [recsN,List.length_append,recN_length,h i (by omega) (by omega)]
  rw [ih (i+1) (fun j h1 h2=>h j (by omega) (by omega))]
  omega
theorem recsN_step{P:Nat→Int}{D:Nat→List Nat}{i:Nat}(hi:i<L){ys T:List Nat}(e:ys++recsN P D n i (L - i)=T):(ys++recN (P i).toNat n (D i))++recsN P D n (i+1) (L - (i+1))=T:=by
 rw [←e,show L - i=(L - (i+1))+1 by omega]
 simp [recsN]
theorem bytes_yes(c pg:Int)(m:Nat)(ao:Option Addr)(L cap:Nat)(P:Nat→Int)(D:Nat→List Nat)(wh:Bool)(w:World)(h:Recs w ao L P D)(hd:∀ j,j<L→∀ x∈D j,x<256)(hg:goodL c pg L P D=true)(hT:Tab w) :
  Calls Tryz.prog 118 #[.agg #[.int .i64 c,.int .i64 pg,.int .u64 (m:Int)],.slice ao L cap,.bool wh] w fun e w'=>∃ v,e=.returned v∧w'.ownsRow w.heap.size 5 1 v (128+L*640) (bs (bytesN c pg m wh L P D))∧Below w.heap.size w w':=by
 obtain ⟨hcp,hLc,hall⟩:=goodL_all hg
 have hL:L≤4000:=by omega
 have A0:Below w.heap.size w (w.alloc (.cells #[.int .i64 c,.int .i64 pg,.int .u64 (m:Int)] 140)):=Below.alloc (Below.refl _ _) (Nat.le_refl _) _
 have cg:=hid (good_any c pg m ao L cap P D _ (h.keep A0) (by omega))
 rw [hg]at cg
 have q0:=hid (HB.new 140 w c pg m)
 obtain ⟨c',rfl⟩:∃ k:Nat,c=(k:Int):=⟨c.toNat,by omega⟩
 obtain ⟨p',rfl⟩:∃ k:Nat,pg=(k:Int):=⟨pg.toNat,by omega⟩
 obtain ⟨T,hTv⟩:∃ T,T=bytesN c' p' m wh L P D:=⟨_,rfl⟩
 have hT0:Hid (headN c' p' m wh++recsN P D m 0 L=T):=hid (by rw [hTv];rfl)
 rw [←hTv]
 have hc4:c'≤4000:=by omega
 have hp4:p'≤4000:=by omega
 have hall':=hid hall
 have h':=hid h
 have hd':=hid hd
 have hT':=hid hT
 have hA0:=hid A0
 obtain ⟨K,hw640,hK⟩:∃ K:Nat,(L:Int)*640=(K:Int)∧K=L*640:=⟨L*640,by omega,rfl⟩
 have hK':=hid hK
 have hKb:K≤2560000:=by omega
 clear hK
 clear h hd hT hall hTv A0 hg hcp hLc
 obtain ⟨B,hB⟩:∃ B,B=w.heap.size+1:=⟨_,rfl⟩
 have hB':=hid hB
 clear hB
 go_enter Tryz.func118,Tryz.ntmps118
 go_wp2_with (first
  | (go_at_call 108;refine cg.out.mono ?_;rintro e w1 ⟨rfl,hb1⟩;have Q1:=hid (q0.out.keep hb1);have B1:=hid (gt hA0.out hb1);clear hb1;obtain ⟨a0,a1,a2,_,_,_⟩:=Q1.out.cells)
  | (go_at_call 119;refine (head_yes c' p' m wh _ hc4 hp4 (hT'.out.keep B1.out)).mono ?_;rintro e w2 ⟨g2,rfl,ho2,hb2⟩;have hBs:B≤w1.heap.size:=(by have:=Q1.out.lt;have:=hB'.out;omega);have hBs2:B≤w2.heap.size:=Nat.le_trans hBs hb2.size;have Q2:=hid (Q1.out.keep hb2);have B2:=hid (gt B1.out hb2);have O2:=hid (own_base ho2 hBs);clear hb2 ho2 a0 a1 a2)
  | (go_at_call 162;refine (grow_any B g2 128 K _ _ O2.out (by omega) hBs2).mono ?_;rintro e w3 ⟨v3,rfl,ho3,hb3⟩;have Q3:=hid (Q2.out.under hb3 (by have:=hB'.out;omega));have B3:=hid (B2.out.trans (hb3.mono (by have:=hB'.out;omega)));have O3:=hid ho3;have hBs3:B≤w3.heap.size:=Nat.le_trans hBs2 hb3.size;clear hb3 ho3))
 go_loopw [7,23] (fun o cc W=>∃ (i:Nat) (ys:List Nat),i≤L∧cc=.int .i64 (i:Int)∧Hid (ys++recsN P D m i (L - i)=T)∧Hid (W.ownsRow B 5 1 o (128+i*640) (bs ys))∧Hid (HB 140 W w.heap.size c' p' m)∧Hid (Below w.heap.size w W)) (fun _ cc _=>L - (intOf cc).toNat)
 case atStart=>exact ⟨0,_,by omega,rfl,hT0,O3,Q3,B3⟩
 case round=>
  obtain ⟨i,ys,hi,rfl,E,O,Q,BW⟩:=hrel
  clear Q1 Q2 Q3 O2 O3 B1 B2 B3
  by_cases hiL:i<L
  ·obtain ⟨b0,off,rfl,hc⟩:=h'.out (by omega)
   obtain ⟨a,n,c1,k0,k1,rd⟩:=hc i hiL
   obtain ⟨hp,hdl⟩:=hall'.out i hiL
   obtain ⟨p,hpv⟩:∃ p:Nat,P i=(p:Int):=⟨(P i).toNat,by omega⟩
   have hn:n=512:=by rw [←rd.1];exact hdl
   subst hn
   have k0':=keep_old BW.out k0
   have k1':=keep_old BW.out k1
   rw [hpv]at k0' hp
   have rd':=hid (rd.keep BW.out)
   have hp1:1≤p:=by omega
   have hp2:p≤4000:=by omega
   have E2:=hid (recsN_step hiL E.out)
   have hpv':=hid hpv
   obtain ⟨a0,a1,a2,_,_,_⟩:=Q.out.cells
   have hlt:=Q.out.lt
   have hne:¬w.heap.size=wr.heap.size:=by omega
   have hBr:B≤wr.heap.size:=by have:=hB'.out;omega
   have hBr2:w.heap.size≤B:=by have:=hB'.out;omega
   clear k0 k1 rd hc hpv hp hdl E
   go_wp2_with (first
    | (go_at_call 163;refine (rec_yes p m a c1 _ _ (hT'.out.keep (Below.alloc BW.out BW.out.size _)) (rd'.out.keep (Below.alloc (Below.refl _ _) (Nat.le_refl _) _)) (hd'.out i hiL) hp1 hp2).mono ?_;rintro e w5 ⟨g5,rfl,ho5,hb5⟩;have Q5:=hid (Q.out.keep2 hb5);have B5:=hid (gt2 BW.out hb5);have R5:=hid (rd_own ho5);have O5:=hid (row_later (O.out.alloc _) hb5);have hBr5:B≤w5.heap.size:=(by have:=hb5.size;simp at this;omega);clear hb5 ho5 a0 a1 a2)
    | ((with_reducible refine here_op 32 ?_);refine wpList_append_rd rfl (.tmp 27) (.tmp 31) rfl B _ (128+i*640) ys rfl O5.out (some ⟨g5,0,none⟩) 640 640 _ rfl R5.out (by omega) hBr5 ?_;intro v6 w6 ho6 hb6;have Q6:=hid (Q5.out.under hb6 (by have:=hB'.out;omega));have B6:=hid (B5.out.trans (hb6.mono hBr2));have O6:=hid ho6;clear ho6 hb6))
   refine ⟨⟨i+1,ys++recN p m (D i),by omega,by go_num,hid ?_,hid ?_,Q6,B6⟩,by simp [intOf];omega⟩
   ·have:=E2.out
    rw [hpv'.out,Int.toNat_natCast]at this
    exact this
   ·rw [show 128+(i+1)*640=128+i*640+640 by omega]
    exact O6.out
  ·obtain rfl:i=L:=by omega
   have hy:ys=T:=by rw [←E.out,Nat.sub_self];simp [recsN]
   subst hy
   go_wp2
   go_ret
   exact ⟨_,rfl,own_base O.out (by have:=hB'.out;omega),BW.out⟩
end Jrn
section
open Go.RowKit Go.Maps
open Dsk (gt hid undrew keep_old keep_cell lt_cell Rd DS FS Sec DiskP DFrame Grew From writeD syncD cutD lenD readD newD known)
open Cch (wpAnyK)
theorem wpAnyK_more{P:Program}{ops:Array Oper}{Q:Exit→Act→World→Prop}{md:Region.Mode}{S S':World→Prop}{E:Nat→Bool}(hSS:∀ w,S' w→S w):∀ {fuel:Nat} {listed:Array Bool} {a:Act} {w:World},wpAnyK P md ops Q S' E fuel listed a w→wpAnyK P md ops Q S E fuel listed a w
 | 0,_,_,_,h=>h
 | _+1,_,_,_,h=>⟨h.1,fun i hi=>wpOp_mono (fun _ _ h'=>⟨fun hc=>hSS _ (h'.1 hc),wpAnyK_more hSS h'.2⟩) (h.2 i hi)⟩
abbrev Gr(w W:World):Prop:=Below w.heap.size w W
abbrev Gv(o:Value)(w W:World):Prop:=Cch.Fr (fun b=>o.ownBlock=some b) w W
variable {w a:World} {o:Value}
theorem gvt{b:World}(h:Gv o w a)(k:Gv o a b):Gv o w b:=
 ⟨k.os.trans h.os,k.tape.trans h.tape,k.output.trans h.output,Nat.le_trans h.size k.size,fun i hi hn=>(k.blk i (Nat.lt_of_lt_of_le hi h.size) hn).trans (h.blk i hi hn)⟩
theorem gv_below(h:Below w.heap.size w a):Gv o w a:=Cch.Fr.of_below h
theorem gv_grown(h:w.grownBy a o.ownBlock):Gv o w a:=⟨h.os,h.tape,h.output,h.size,fun k hk hn=>h.block k hk (fun e=>hn e.symm)⟩
variable {W:World}
theorem gv_cell(h:Gv o w W){b i:Nat}{v:Value}(hc:w.cell? ⟨b,i,none⟩=some v)(hb:o.ownBlock≠some b):W.cell? ⟨b,i,none⟩=some v:=
 (World.cell?_of_block (h.blk b (lt_cell hc) hb)).trans hc
def RecsO(W:World)(N:Nat→Prop)(ao:Option Addr)(L:Nat)(P:Nat→Int)(D:Nat→List Nat):Prop:=
 0<L→∃ b off,ao=some ⟨b,off,none⟩∧Out W N b∧∀ i,i<L→∃ a c,W.cell? ⟨b,off+i*2,none⟩=some (.int .i64 (P i))∧W.cell? ⟨b,off+i*2+1,none⟩=some (.slice (some a) 512 c)∧Rd W (some a) 512 c (D i)∧Out W N a.block
variable {L:Nat} {ao:Option Addr} {N:Nat→Prop} {w':World}
theorem RecsO.turn{N':Nat→Prop}{P:Nat→Int}{D:Nat→List Nat}(h:RecsO w N ao L P D)(ho:∀ b,Out w N b→Out w' N' b)(hc:∀ b o v,Out w N b→w.cell? ⟨b,o,none⟩=some v→w'.cell? ⟨b,o,none⟩=some v):RecsO w' N' ao L P D:=fun hl=>by
 obtain ⟨b,off,rfl,hb,hh⟩:=h hl
 refine ⟨b,off,rfl,ho _ hb,fun i hi=>?_⟩
 obtain ⟨a,c,k0,k1,hr,hao⟩:=hh i hi
 refine ⟨a,c,hc _ _ _ hb k0,hc _ _ _ hb k1,⟨hr.1,hr.2.1,hr.2.2.1,fun hp=>?_⟩,ho _ hao⟩
 obtain ⟨b',off',e,h2⟩:=hr.2.2.2 hp
 obtain rfl:=Option.some.inj e
 exact ⟨b',off',rfl,fun t ht=>hc _ _ _ hao (h2 t ht)⟩
theorem RecsO.later{P:Nat→Int}{D:Nat→List Nat}(h:RecsO w N ao L P D)(hb:Below w.heap.size w w'):RecsO w' N ao L P D:=
 h.turn (fun _ ho=>ho.later hb.size) (fun _ _ _ _ hc=>keep_old hb hc)
variable {q:Nat}
theorem RecsO.disk{P P':Dsk.Parts}{Pg:Nat→Int}{D:Nat→List Nat}(h:RecsO w (DN q P) ao L Pg D)(hf:DFrame w w' q P.all)(hg:Grew P w P'):RecsO w' (DN q P') ao L Pg D:=
 h.turn (fun _ ho=>ho.grew hf.size hg) (fun _ _ _ ho hc=>cell_df hf hc ho)
theorem RecsO.recs{P:Nat→Int}{D:Nat→List Nat}(h:RecsO w N ao L P D):Jrn.Recs w ao L P D:=fun hl=>by
 obtain ⟨b,off,rfl,hb,hh⟩:=h hl
 refine ⟨b,off,rfl,fun i hi=>?_⟩
 obtain ⟨a,c,k0,k1,hr,_⟩:=hh i hi
 exact ⟨some a,512,c,k0,k1,hr⟩
theorem rd_sec{c:Nat}{x:List Nat}(h:Rd w ao 512 c x):Rd w ao 512 c (chunks 4 x).flatten:=by
 rw [chunks_flatten 4 x (by rw [h.1])];exact h
def backL(P:Nat→Int)(D:Nat→List Nat)(n:Nat):List Stp:=(List.range n).map fun i=>.wr 0 ((P i - 1)*4) (chunks 4 (D i))
theorem backL_succ(P:Nat→Int)(D:Nat→List Nat)(n:Nat):backL P D (n+1)=backL P D n++[.wr 0 ((P n - 1)*4) (chunks 4 (D n))]:=by simp [backL,List.range_succ]
theorem backL_length(P:Nat→Int)(D:Nat→List Nat)(n:Nat):(backL P D n).length=n:=by simp [backL]
def replayL(pg:Int)(P:Nat→Int)(D:Nat→List Nat)(n:Nat):List Stp:=backL P D n++[.ct 0 (pg*4),.sy 0,.ct 1 0]
theorem lit_src(w:World)(us:List Value)(e:TypeId)(h1:∀ u∈us,u.oneCell'=true):Cch.Src (w.alloc (.cells us.toArray e)) (some ⟨w.heap.size,0,none⟩) us.length us.length us:=
 ⟨rfl,fun h=>(by cases h),fun ad e j u hu=>by
  obtain rfl:=Option.some.inj e
  rw [Addr.add_lit,World.cell?_alloc_at _ _ _ _ rfl]
  simpa using hu,h1⟩
variable {s:Stp} {v:Value}
theorem step_one(h:StepAt w q N v s):v.oneCell'=true:=by
 cases s with
 | wr f a ss=>obtain ⟨b0,b1,b2,b3,ao,n,cap,rfl,_⟩:=h;rfl
 | sy f=>obtain ⟨b0,b1,rfl,_⟩:=h;rfl
 | ct f m=>obtain ⟨b0,b1,b2,rfl,_⟩:=h;rfl
theorem step_func(h:StepAt w q N v s):∃ n cs,v=.func (.func n) #[] cs:=by
 cases s with
 | wr f a ss=>obtain ⟨b0,b1,b2,b3,ao,n,cap,rfl,_⟩:=h;exact ⟨_,_,rfl⟩
 | sy f=>obtain ⟨b0,b1,rfl,_⟩:=h;exact ⟨_,_,rfl⟩
 | ct f m=>obtain ⟨b0,b1,b2,rfl,_⟩:=h;exact ⟨_,_,rfl⟩
theorem below_grown{W':World}(hb:Below w.heap.size w W)(hg:W.grownBy W' v.ownBlock)(hv:∀ k,v.ownBlock=some k→w.heap.size≤k):Below w.heap.size w W':=
 ⟨hg.os.trans hb.os,hg.tape.trans hb.tape,hg.output.trans hb.output,Nat.le_trans hb.size hg.size,fun k hk=>(hg.block k (Nat.lt_of_lt_of_le hk hb.size) (fun e=>by have:=hv k e.symm;omega)).trans (hb.block k hk)⟩
end
section
open Go.RowKit Cch
section
variable {P:Program} {l:List Oper} {Q:Exit→Act→World→Prop} {md:Region.Mode} {S:World→Prop} {E:Nat→Bool} {oi:Oper} {v:Value} {fuel:Nat} {listed:Array Bool} {a a':Act} {w:World}
theorem gkt(i:Nat)(k:wpAnyK P md l.toArray Q S E fuel (listed.setIfInBounds i true) a' w)
  (hi:l[i]? = some oi:=by exact rfl) (hs:Region.noSelect l.toArray=true:=by kernel_rfl) (hf:Region.free md l.toArray listed i=true:=by kernel_rfl) (hr:(Region.ready md l.toArray listed).contains i=true:=by kernel_rfl)
  (hE:(!E i&&waits md l.toArray E i&&!came E listed)=true:=by kernel_rfl)
  (hQ:∀ c a w,Q (.panic c) (a.put oi.dst v) w→Q (.panic c) a w:=by exact fun _ _ _ h=>h) (hw:Region.wanted oi (yielded l.toArray a.tmps)=true:=by rfl)
  (h:∀ w,S w→(execOp a.eval oi).run P w=.ok (.value v) w:=by intro W hSw;go_simp;first |done |with_reducible rfl) (hS:S w:=by assumption)
  (hA:a.put oi.dst v=a':=by (try simp only [Act.put,sA,sZ,sS]);rfl):wpAnyK P md l.toArray Q S E (fuel+1) listed a w:=
 wpAnyK_take (at_op _ _ _ hi) hs hf hr hE hQ (Or.inl ⟨hw,h⟩) hS (hA▸k)
theorem gkp(i:Nat)(k:wpAnyK P md l.toArray Q S E fuel (listed.setIfInBounds i true) a' w)
  (hi:l[i]? = some oi:=by exact rfl) (hs:Region.noSelect l.toArray=true:=by kernel_rfl) (hf:Region.free md l.toArray listed i=true:=by kernel_rfl) (hr:(Region.ready md l.toArray listed).contains i=true:=by kernel_rfl)
  (hE:E i=false:=by kernel_rfl)
  (hQ:∀ c a w,Q (.panic c) (a.put oi.dst v) w→Q (.panic c) a w:=by exact fun _ _ _ h=>h) (hw:Region.wanted oi (yielded l.toArray a.tmps)=true:=by rfl)
  (h:∀ w,True→(execOp a.eval oi).run P w=.ok (.value v) w:=by intro W hSw;go_simp;first |done |with_reducible rfl) (hS:S w∨came E listed=true:=by first |exact Or.inl (by assumption) |exact Or.inr (by kernel_rfl))
  (hA:a.put oi.dst v=a':=by (try simp only [Act.put,sA,sZ,sS]);rfl):wpAnyK P md l.toArray Q S E (fuel+1) listed a w:=
 wpAnyK_pure (at_op _ _ _ hi) hs hf hr hE hQ (Or.inl ⟨hw,h⟩) hS (hA▸k)
theorem gku(i:Nat)(k:wpAnyK P md l.toArray Q S E fuel (listed.setIfInBounds i true) a' w)
  (hi:l[i]? = some oi:=by exact rfl) (hs:Region.noSelect l.toArray=true:=by kernel_rfl) (hf:Region.free md l.toArray listed i=true:=by kernel_rfl) (hr:(Region.ready md l.toArray listed).contains i=true:=by kernel_rfl)
  (hE:E i=false:=by kernel_rfl)
  (hQ:∀ c a w,Q (.panic c) (a.put oi.dst undef) w→Q (.panic c) a w:=by exact fun _ _ _ h=>h) (hw:Region.wanted oi (yielded l.toArray a.tmps)=false:=by kernel_rfl)
  (hS:S w∨came E listed=true:=by first |exact Or.inl (by assumption) |exact Or.inr (by kernel_rfl))
  (hA:a.put oi.dst undef=a':=by (try simp only [Act.put,sA,sZ,sS]);rfl):wpAnyK P md l.toArray Q S E (fuel+1) listed a w:=
 wpAnyK_pure (at_op _ _ _ hi) hs hf hr hE hQ (Or.inr ⟨hw,rfl⟩) hS (hA▸k)
theorem gk1(i:Nat)(h:∀ K':Act→World→Prop,Shut (∀ a w,S w→(S w→wpAnyK P md l.toArray Q S E fuel (listed.setIfInBounds i true) a w)→K' a w)→if Region.wanted oi (yielded l.toArray a.tmps)=true then Oper.wp P oi a w K' Q else K' (a.put oi.dst undef) w)
  (hi:l[i]? = some oi:=by exact rfl) (hr:Region.ready md l.toArray listed = [i]:=by kernel_rfl):wpAnyK P md l.toArray Q S E (fuel+1) listed a w:=
 wpAnyK_ready (rs:=[i]) hr (by simp) (AllReadyK.cons (at_op _ _ _ hi) h AllReadyK.nil)
theorem gkl(i:Nat)(h:∀ K':Act→World→Prop,Shut (∀ a w,wpAnyK P md l.toArray Q S E fuel (listed.setIfInBounds i true) a w→K' a w)→if Region.wanted oi (yielded l.toArray a.tmps)=true then Oper.wp P oi a w K' Q else K' (a.put oi.dst undef) w)
  (hi:l[i]? = some oi:=by exact rfl) (hr:Region.ready md l.toArray listed = [i]:=by kernel_rfl) (hE:came E (listed.setIfInBounds i true)=true:=by kernel_rfl):wpAnyK P md l.toArray Q S E (fuel+1) listed a w:=
 wpAnyK_ready (rs:=[i]) hr (by simp) (AllReadyK.late (at_op _ _ _ hi) hE h AllReadyK.nil)
end
end
section
open Go.RowKit Go.Maps
open Dsk (gt hid undrew keep_old keep_cell lt_cell Rd DS FS Sec DiskP DFrame Grew From writeD syncD cutD lenD readD newD known op_at)
open Cch (wpAnyK wpAnyK_take wpAnyK_pure wpAnyK_ready wpAnyK_done wp_region_K AllReadyK.cons AllReadyK.nil)
theorem own_bound{w:World}{e:TypeId}{v:Value}{n:Nat}{xs:List Value}(h:w.ownsRow 0 e 1 v n xs){k:Nat}(hk:v.ownBlock=some k):k<w.heap.size:=by
 rcases h.2 with ⟨h1,_⟩ | ⟨g,cap,cur,h1,_,hg,_⟩
 ·subst h1;cases hk
 ·subst h1
  have:g=k:=by simpa [Value.ownBlock] using hk
  subst this
  rcases Nat.lt_or_ge g w.heap.size with hlt |hge
  ·exact hlt
  ·rw [Array.getElem?_eq_none hge]at hg;cases hg
theorem replay_make(q:Nat)(c pg:Int)(m:Nat)(lo:Option Addr)(L cap:Nat)(P:Nat→Int)(D:Nat→List Nat)(N:Nat→Prop)(w:World)(hN:∀ k,N k→k<w.heap.size)
  (hr:RecsO w N lo L P D) (hL:L≤100000) (hP:∀ i,i<L→-1000000≤P i∧P i≤1000000) (hpg:0≤pg∧pg≤1000000) :
  Calls Tryz.prog 82 #[.pointer (some ⟨q,0,none⟩),.agg #[.int .i64 c,.int .i64 pg,.int .u64 (m:Int)],.slice lo L cap] w fun e w'=>∃ ao cp,e=.returned (.slice ao (replayL pg P D L).length cp)∧StepsAt w' q N ao (replayL pg P D L)∧Below w.heap.size w w':=by
 have HN:=hid hN;have HR:=hid hr;have HP:=hid hP
 have A0:Below w.heap.size w (w.alloc (.cells #[.int .i64 c,.int .i64 pg,.int .u64 (m:Int)] 140)):=Below.alloc (Below.refl _ _) (Nat.le_refl _) _
 have q0:=hid (Jrn.HB.new 140 w c pg m).cells.2.1
 have o0:=hid (StRow.nil (w.alloc (.cells #[.int .i64 c,.int .i64 pg,.int .u64 (m:Int)] 140)) q N (w.heap.size+1) (fun k hk=>Nat.lt_succ_of_lt (hN k hk)) (by simp))
 have A0':=hid A0
 have hpw:IntKind.i64.wrap (pg*4)=pg*4:=IntWalk.i64_in _ ⟨by omega,by omega⟩
 clear hN hr hP A0 hpg
 go_enter Tryz.func82,Tryz.ntmps82
 go_wp2
 go_loopw [7,12] (fun o cc W=>∃ (i:Nat) (us:List Value),i≤L∧cc=.int .i64 (i:Int)∧Hid (StRow W q N (w.heap.size+1) o us (backL P D i))∧Hid (Below w.heap.size w W)∧Hid (W.cell? ⟨w.heap.size,1,none⟩=some (.int .i64 pg))) (fun _ cc _=>L - (Lib.intOf cc).toNat)
 case atStart=>exact ⟨0,[],by omega,rfl,o0,A0',q0⟩
 case round=>
  obtain ⟨i,us,hi,rfl,OO,BB,QQ⟩:=hrel
  clear o0 A0' q0
  by_cases hiL:i<L
  ·obtain ⟨b0,off,rfl,hbo,hc⟩:=HR.out (by omega)
   obtain ⟨a,c1,k0,k1,rd,hao⟩:=hc i hiL
   obtain ⟨p,hp⟩:∃ p,P i=p:=⟨_,rfl⟩
   obtain ⟨d,hd⟩:∃ d,D i=d:=⟨_,rfl⟩
   rw [hp]at k0;rw [hd]at rd
   have hpr:Hid (-1000000≤p∧p≤1000000):=hid (by rw [←hp];exact HP.out i hiL)
   have hdl:Hid (d.length=512):=hid rd.1
   have rd5:=hid rd;have ao5:=hid hao
   have hno:Hid (¬NV N u7 a.block):=hid (fun hk=>by
    rcases hk with hk |hk
    ·exact hao.2 hk
    ·have:=(OO.out.blk _ hk).1;have:=hao.1;omega)
   have k0':=keep_old BB.out k0
   have k1':=keep_old BB.out k1
   have hbs:Hid (backL P D (i+1)=backL P D i++[.wr 0 ((p - 1)*4) (chunks 4 d)]):=hid (by rw [backL_succ,hp,hd])
   have hiI:(i:Int)<(L:Int):=by omega
   have hi0:(0:Int)≤(i:Int):=by omega
   clear k0 k1 rd hao hc hp hd hbo
   go_upto_region 5 with fail
   obtain ⟨r,hr⟩:∃ r,r=wr.heap.size:=⟨_,rfl⟩
   obtain ⟨W3,hW3⟩:∃ W3,W3=wr.alloc (.cells #[.int .i64 p,.slice (some a) 512 c1] 168):=⟨_,rfl⟩
   have hb:Below wr.heap.size wr W3.drew:=by rw [hW3];exact (Below.alloc (Below.refl _ _) (Nat.le_refl _) _).drew
   have YY:Jrn.RB 168 W3.drew r p (some a) 512 c1:=by rw [hW3,hr];exact (Jrn.RB.new 168 wr p (some a) 512 c1).keep (Below.refl _ _).drew
   have Y0:=hid YY.cells.1
   have Y1:=hid YY.cells.2.1
   have hor:Hid (u7.ownBlock≠some r):=hid (fun e=>by have:=(OO.out.blk _ e).2;omega)
   replace OO:=hid (OO.out.later hb);replace BB:=hid (gt BB.out hb);replace QQ:=hid (keep_old hb QQ.out)
   rw [←hW3,←hr]
   clear hW3 hr hb YY k0' k1'
   refine wp_region_K (S:=Gv u7 W3.drew) (fun _=>false) (by kernel_rfl) (Cch.Fr.refl _ _) (fun hHeld=>?_)
   refine gkp 0 ?_
   refine gkp 1 ?_
   refine gkp 2 ?_
   refine gkt 3 ?_ (h:=by intro W hSw;have a0:=gv_cell hSw Y0.out hor.out;have a1:=gv_cell hSw Y1.out hor.out;go_simp;first |done |with_reducible rfl)
   refine gkp 5 ?_
   refine gkt 6 ?_ (h:=by intro W hSw;have a0:=gv_cell hSw Y0.out hor.out;have a1:=gv_cell hSw Y1.out hor.out;go_simp;first |done |with_reducible rfl)
   refine gk1 4 (fun K hK=>?_)
   go_simp
   go_at_call 109;refine (place_any _ _ hpr.out).mono ?_;rintro e w4 ⟨rfl,hw⟩;have hb:Below W3.drew.heap.size W3.drew w4:=(by rw [hw];exact Below.refl _ _);have hR:Gv u7 W3.drew w4:=gv_below hb;replace OO:=hid (OO.out.later hb);replace Y0:=hid (keep_old hb Y0.out);replace Y1:=hid (keep_old hb Y1.out);replace BB:=hid (gt BB.out hb);replace QQ:=hid (keep_old hb QQ.out);clear hw hb
   refine hK.out _ _ hR (fun hHeld=>?_)
   clear hK K
   (try simp only [Act.put,sA,sZ,sS])
   clear hHeld
   refine wpAnyK_more (S':=Gv u7 w4) (fun W h=>gvt hR h) ?_
   have hHeld:Gv u7 w4 w4:=Cch.Fr.refl _ _
   clear hR
   refine gk1 7 (fun K hK=>?_)
   go_simp
   go_at_call 110;refine (write_make q 0 ((p - 1)*4) (some a) 512 c1 (chunks 4 d) (NV N u7) w4 (fun k hk=>OO.out.lt hk) (rd_sec (rd5.out.keep BB.out)) (fun _ x hx=>(by obtain rfl:=Option.some.inj hx;exact ⟨Nat.lt_of_lt_of_le ao5.out.1 BB.out.size,fun hk=>hno.out hk⟩)) (by rw [chunks_length]) (chunks_each 4 d (by rw [hdl.out])) (by rw [chunks_length];omega)).mono ?_;rintro e w5 ⟨u,rfl,hst,hb⟩;have hR:Gv u7 w4 w5:=gv_below hb;replace OO:=hid (OO.out.later hb);replace Y0:=hid (keep_old hb Y0.out);replace Y1:=hid (keep_old hb Y1.out);replace BB:=hid (gt BB.out hb);replace QQ:=hid (keep_old hb QQ.out);obtain ⟨n5,cs5,rfl⟩:=step_func hst;have ST:=hid hst;clear hst hb
   refine hK.out _ _ hR (fun hHeld=>?_)
   clear hK K
   (try simp only [Act.put,sA,sZ,sS])
   clear hHeld
   refine wpAnyK_more (S':=Gv u7 w5) (fun W h=>gvt hR h) ?_
   have hHeld:Gv u7 w5 w5:=Cch.Fr.refl _ _
   clear hR
   refine gk1 8 (fun K hK=>?_)
   go_simp
   have hb:Below w5.heap.size w5 (w5.alloc (.cells #[.func (.func n5) #[] cs5] 133)):=Below.alloc (Below.refl _ _) (Nat.le_refl _) _;have hR:Gv u7 w5 (w5.alloc (.cells #[.func (.func n5) #[] cs5] 133)):=gv_below hb;replace OO:=hid (OO.out.later hb);replace Y0:=hid (keep_old hb Y0.out);replace Y1:=hid (keep_old hb Y1.out);replace BB:=hid (gt BB.out hb);replace QQ:=hid (keep_old hb QQ.out);replace ST:=hid (ST.out.later hb);have SR:=hid (lit_src w5 [(.func (.func n5) #[] cs5)] 133 (by intro x hx;simp at hx;subst hx;exact step_one ST.out));clear hb
   refine hK.out _ _ hR (fun hHeld=>?_)
   clear hK K
   (try simp only [Act.put,sA,sZ,sS])
   clear hHeld
   refine wpAnyK_more (S':=Gv u7 (w5.alloc (.cells #[.func (.func n5) #[] cs5] 133))) (fun W h=>gvt hR h) ?_
   have hHeld:Gv u7 (w5.alloc (.cells #[.func (.func n5) #[] cs5] 133)) (w5.alloc (.cells #[.func (.func n5) #[] cs5] 133)):=Cch.Fr.refl _ _
   clear hR
   refine gk1 9 (fun K hK=>?_)
   refine Cch.step_app rfl (.tmp 16) (.tmp 24) el113 rfl u7 (backL P D i).length us rfl OO.out.row (some ⟨w5.heap.size,0,none⟩) 1 1 [(.func (.func n5) #[] cs5)] rfl SR.out (by rw [backL_length];omega) ?_;intro a7 c7 w7 ho7 hg7 ha7;have hR:Gv u7 (w5.alloc (.cells #[.func (.func n5) #[] cs5] 133)) w7:=gv_grown hg7;have O7:=hid ho7;have G7:=hid hg7;have A7:=hid ha7;clear ho7 hg7 ha7
   refine hK.out _ _ hR (fun hHeld=>?_)
   clear hK K
   (try simp only [Act.put,sA,sZ,sS])
   clear hR
   refine gkp 10 ?_
   refine wpAnyK_done (by kernel_rfl) ?_ _
   go_wp2
   go_roundw
   case rel=>
    have hlt:∀ x,a7=some x→x.block<w7.heap.size:=fun x hx=>own_bound O7.out (by rw [hx];rfl)
    have hP7:=OO.out.push (ls:=[.wr 0 ((p - 1)*4) (chunks 4 d)]) (ys:=[(.func (.func n5) #[] cs5)]) (m:=1) (fun j s hs=>by
     cases j with
     | zero=>simp at hs;subst hs;exact ⟨_,rfl,ST.out⟩
     | succ j=>simp at hs) rfl rfl O7.out G7.out A7.out hlt
    rw [←hbs.out]at hP7
    refine ⟨i+1,us++[(.func (.func n5) #[] cs5)],by omega,by go_num,hid hP7,hid (below_grown BB.out G7.out (fun k hk=>Nat.le_of_succ_le (OO.out.blk k hk).1)),hid (cell_grown G7.out QQ.out (fun e=>by have:=(OO.out.blk _ e).1;omega))⟩
   case measure=>simp [Lib.intOf];omega
  ·obtain rfl:i=L:=by omega
   have q1:=QQ.out
   have t1:Hid True:=hid trivial
   go_wp2_with (first
    | (go_at_call 78;clear t1;refine (cut_make q 0 (pg*4) (NV N u7) wr (fun k hk=>OO.out.lt hk)).mono ?_;rintro e w1 ⟨x1,rfl,s1,b1⟩;obtain ⟨n1,cs1,rfl⟩:=step_func s1;replace OO:=hid (OO.out.later b1);replace BB:=hid (gt BB.out b1);have S1:=hid s1;clear s1 b1 q1 QQ)
    | (go_at_call 111;refine (sync_make q 0 (NV N u7) w1 (fun k hk=>OO.out.lt hk)).mono ?_;rintro e w2 ⟨x2,rfl,s2,b2⟩;obtain ⟨n2,cs2,rfl⟩:=step_func s2;replace OO:=hid (OO.out.later b2);replace BB:=hid (gt BB.out b2);replace S1:=hid (S1.out.later b2);have S2:=hid s2;clear s2 b2)
    | (go_at_call 78;refine (cut_make q 1 0 (NV N u7) w2 (fun k hk=>OO.out.lt hk)).mono ?_;rintro e w3 ⟨x3,rfl,s3,b3⟩;obtain ⟨n3,cs3,rfl⟩:=step_func s3;have b4:Below w3.heap.size w3 (w3.alloc (.cells #[.func (.func n1) #[] cs1,.func (.func n2) #[] cs2,.func (.func n3) #[] cs3] 133)):=Below.alloc (Below.refl _ _) (Nat.le_refl _) _;have SR:=hid (lit_src w3 [(.func (.func n1) #[] cs1),(.func (.func n2) #[] cs2),(.func (.func n3) #[] cs3)] 133 (by intro x hx;simp at hx;rcases hx with rfl | rfl | rfl<;>rfl));replace OO:=hid ((OO.out.later b3).later b4);replace BB:=hid (gt (gt BB.out b3) b4);replace S1:=hid ((S1.out.later b3).later b4);replace S2:=hid ((S2.out.later b3).later b4);have S3:=hid (s3.later b4);clear s3 b3 b4)
    | ((with_reducible refine Dsk.here_op 38 ?_);refine Cch.wpList_app rfl (.tmp 27) (.tmp 37) el113 rfl u7 (backL P D i).length us rfl OO.out.row (some ⟨w3.heap.size,0,none⟩) 3 3 [(.func (.func n1) #[] cs1),(.func (.func n2) #[] cs2),(.func (.func n3) #[] cs3)] rfl SR.out (by rw [backL_length];omega) ?_;intro a7 c7 w7 ho7 hg7 ha7;have O7:=hid ho7;have G7:=hid hg7;have A7:=hid ha7;clear ho7 hg7 ha7))
   go_ret
   have hlt:∀ x,a7=some x→x.block<w7.heap.size:=fun x hx=>own_bound O7.out (by rw [hx];rfl)
   have hP7:=OO.out.push (ls:=[.ct 0 (pg*4),.sy 0,.ct 1 0]) (ys:=[(.func (.func n1) #[] cs1),(.func (.func n2) #[] cs2),(.func (.func n3) #[] cs3)]) (m:=3) (fun j s hs=>by
     match j with
     | 0=>simp at hs;subst hs;exact ⟨_,rfl,S1.out⟩
     | 1=>simp at hs;subst hs;exact ⟨_,rfl,S2.out⟩
     | 2=>simp at hs;subst hs;exact ⟨_,rfl,S3.out⟩
     | j+3=>simp at hs) rfl rfl O7.out G7.out A7.out hlt
   obtain ⟨hn,hst⟩:=hP7.steps
   refine ⟨a7,c7,by rw [hn];rfl,hst,below_grown BB.out G7.out (fun k hk=>Nat.le_of_succ_le (OO.out.blk k hk).1)⟩
end
section
open Go.RowKit Go.Maps Go.Sort Go.Shelf
open Dsk (gt hid undrew keep_old keep_cell lt_cell Rd DS FS Sec DiskP DFrame Grew From secD secD_inj idx entry dirtD was mem_idx canon_dirt has_dirt at_dirt size_dirt keys_dirt dirt_ext mem_insert behind)
theorem hao(w:World)(o:Obj)(i:Nat)(h:i<w.heap.size):(w.alloc o).heap[i]? = w.heap[i]?:=by first|exact heap_alloc_old _ _ _ h|exact heap_alloc_old _ _ h
def slR:Value→Option (DataW Unit×List MemPlace)
 | .slice (some ⟨b,o,none⟩) n c=>some (secD [b,o,n,c],[])
 | .slice none _ _=>some (secD [],[])
 | _=>none
theorem slR_mk(b o n c:Nat):slR (.slice (some ⟨b,o,none⟩) n c)=some (secD [b,o,n,c],[]):=rfl
theorem slR_nil:slR (.slice none 0 0)=some (secD [],[]):=rfl
variable {n:Nat}
theorem slR_inv{v:Value}{b o c:Nat}{ps:List MemPlace}(h:slR v=some (secD [b,o,n,c],ps)):v=.slice (some ⟨b,o,none⟩) n c:=by
 unfold slR at h
 split at h
 ·simp only [Option.some.injEq,Prod.mk.injEq]at h
  have e:=secD_inj h.1
  simp only [List.cons.injEq,and_true]at e
  obtain ⟨rfl,rfl,rfl,rfl⟩:=e
  rfl
 ·simp only [Option.some.injEq,Prod.mk.injEq]at h
  have e:=secD_inj h.1
  simp at e
 ·cases h
variable {i:Nat}
theorem put_ch{dirt dirt':List Bool}{old old':List Sec}{x:Sec}(hd:∀ j,dirt'.getD j false=(dirt.getD j false||decide (j=i)))(ho:∀ j,dirt.getD j false=true→j≠i→was old' j=was old j)(hx:was old' i=x)
  (hc:Canon ((dirtD dirt old).put (.int .i64 (i:Int)) (secD x))):(dirtD dirt old).put (.int .i64 (i:Int)) (secD x)=dirtD dirt' old':=by
 refine dirt_ext hc dirt' old' fun es he p=>?_
 simp only [dirtD,DataW.put,DataW.map.injEq]at he
 rw [←he,mem_insert,List.mem_filter]
 constructor
 ·rintro (rfl | ⟨hp,hs⟩)
  ·exact ⟨i,by rw [hd];simp,by rw [entry,hx]⟩
  ·obtain ⟨j,hj,rfl⟩:=List.mem_map.1 hp
   have hji:j≠i:=by
    intro e
    subst e
    simp [entry,Lit.sameKey]at hs
   exact ⟨j,by rw [hd,mem_idx.1 hj];rfl,by rw [entry,entry,ho j (mem_idx.1 hj) hji]⟩
 ·rintro ⟨j,hj,rfl⟩
  by_cases hji:j=i
  ·subst hji;left;rw [entry,hx]
  ·right
   rw [hd]at hj
   simp only [hji,decide_false,Bool.or_false]at hj
   refine ⟨List.mem_map.2 ⟨j,mem_idx.2 hj,by rw [entry,entry,ho j hj hji]⟩,?_⟩
   simp only [entry,Lit.sameKey,true_and,Bool.not_eq_true',decide_eq_false_iff_not]
   omega
structure Chg (w:World) (N:Nat→Prop) (m n:Nat) (now:List (List Nat)) (c:List Bool) (enc:List Sec):Prop where
 map:w.ownsMap Tryz.prog 3 slR m n (dirtD (false::c) enc)
 len:c.length=now.length
 el:enc.length=c.length+1
 at_:∀ i,c.getD i false=true→∃ b o cap,was enc (i+1) = [b,o,512,cap]∧Rd w (some ⟨b,o,none⟩) 512 cap (now.getD i [])∧Out w N b
variable {m:Nat} {w w':World}
theorem map_df{D:DataW Unit}(h:w.ownsMap Tryz.prog 3 slR m n D)(hb:w'.heap[m]? = w.heap[m]?):w'.ownsMap Tryz.prog 3 slR m n D:=by
 obtain ⟨es,clock,h1,h2⟩:=h
 exact ⟨es,clock,hb.trans h1,h2⟩
variable {enc:List Sec} {c:List Bool} {now:List (List Nat)} {N:Nat→Prop}
theorem Chg.turn{N':Nat→Prop}(h:Chg w N m n now c enc)(hm:w'.heap[m]? = w.heap[m]?)(ho:∀ b,Out w N b→Out w' N' b)(hc:∀ b o v,Out w N b→w.cell? ⟨b,o,none⟩=some v→w'.cell? ⟨b,o,none⟩=some v):Chg w' N' m n now c enc:=
 ⟨map_df h.map hm,h.len,h.el,fun i hi=>by
  obtain ⟨b,o,cap,e,hr,hob⟩:=h.at_ i hi
  refine ⟨b,o,cap,e,⟨hr.1,hr.2.1,hr.2.2.1,fun hp=>?_⟩,ho _ hob⟩
  obtain ⟨b',o',e',h2⟩:=hr.2.2.2 hp
  simp only [Option.some.injEq,Addr.mk.injEq,and_true]at e'
  obtain ⟨rfl,rfl⟩:=e'
  exact ⟨b,o,rfl,fun t ht=>hc _ _ _ hob (h2 t ht)⟩⟩
theorem Chg.later(h:Chg w N m n now c enc)(hb:Below w.heap.size w w'):Chg w' N m n now c enc:=
 h.turn (hb.block m h.map.lt) (fun _ ho=>ho.later hb.size) (fun _ _ _ _ hc=>keep_old hb hc)
def chL(c:List Bool):List Nat:=idx (false::c)
theorem chL_mem(h:i∈chL c):1≤i∧i≤c.length∧c.getD (i - 1) false=true:=by
 have h1:=mem_idx.1 h
 cases i with
 | zero=>simp at h1
 | succ i=>
  have h2:c.getD i false=true:=by simpa using h1
  have h3:i<c.length:=by
   rcases Nat.lt_or_ge i c.length with h |h
   ·exact h
   ·simp [List.getD,List.getElem?_eq_none h]at h2
  exact ⟨by omega,by omega,by simpa using h2⟩
theorem sortsB(m:Nat):AnyZI.SortsIn Tryz.prog Tryz.sortedA_ren Fence.wide m:=
 ⟨fun blk off cap ss W hH hblk hsz=>callsIn_wide.2 (AnyM.slices_Sort_int Tryz.sortA blk off cap ss W hH hblk hsz),
  fun p cap W=>callsIn_wide.2 (AnyM.slices_Sort_int_none Tryz.sortA p cap W)⟩
theorem keysB_any(mb:Option Nat)(w:World):Calls Tryz.prog 123 #[.map mb] w fun e w'=>e=.returned (.func (.func 166) #[] #[.pointer (some ⟨w.heap.size,0,none⟩)])∧w'=w.alloc (.cells #[.map mb] 70):=
 (callsIn_wide (n:=5)).1 (AnyZI.keys_in Tryz.keysB Fence.wide 5 trivial rfl mb w)
theorem zeroB(W:World):(zeroValue 79).run Tryz.prog W=.ok (.slice none 0 0) W:=by kernel_rfl
theorem lenB{D:DataW Unit}(h:w.ownsMap Tryz.prog 3 slR m n D):(Builtin.len_ #[70] 3 #[.map (some m)]).run Tryz.prog w=.ok (.int .i64 (Maps.size D)) w:=h.len Tryz.underlying70 3
theorem lookB{D:DataW Unit}(h:w.ownsMap Tryz.prog 3 slR m n D)(k:Int)(hk:(Lit.int .i64 k).wf=true)(b o l c:Nat)(hat:D.atKey (.int .i64 k) (secD [])=secD [b,o,l,c]) :
  (Instr.lookup 70 (.map (some m)) (.int .i64 k) false).run Tryz.prog w=.ok (.slice (some ⟨b,o,none⟩) l c) w:=by
 obtain ⟨v,ps,hrun,hv⟩:=h.lookup (int_keyed Tryz.underlying3) Tryz.underlying70 (zeroB w) slR_nil (keyOf_int_mk Tryz.underlying3 hk)
 rw [hat]at hv
 rw [slR_inv hv]at hrun
 exact hrun
end
section
open Go.RowKit Go.Maps
open Dsk (gt hid undrew keep_old keep_cell lt_cell Rd DS FS Sec DiskP DFrame Grew From writeD syncD cutD lenD readD newD known)
open Cch (CS CP Fr)
structure PC where
 q:Nat
 k:Nat
 pages:Nat
 busy:Bool
 np:Nat
 m:Nat
 mo:Option Addr
 ml:Nat
 mc:Nat
 last:Nat
 com:Nat
 rep:Nat
def hdP(x:PC):List Value:=[.bool true,.int .i64 0,.pointer (some ⟨x.q,0,none⟩),.pointer (some ⟨x.k,0,none⟩),.int .i64 (x.pages:Int),.bool x.busy,.int .i64 (x.np:Int),.map (some x.m),.slice x.mo x.ml x.mc,.int .i64 (x.last:Int),.int .i64 (x.com:Int),.int .i64 (x.rep:Int)]
def PgAt(w:World)(p:Nat)(x:PC):Prop:=w.heap[p]? = some (.cells (hdP x).toArray 78 (0,0))
variable {x:PC} {p:Nat} {w:World}
theorem PgAt.lt(h:PgAt w p x):p<w.heap.size:=(Array.getElem?_eq_some_iff.1 h).1
theorem PgAt.cell(h:PgAt w p x)(i:Nat):w.cell? ⟨p,i,none⟩=(hdP x)[i]?:=Cch.hd_cell h i
theorem PgAt.cells(h:PgAt w p x):w.cell? ⟨p,0,none⟩=some (.bool true)∧w.cell? ⟨p,1,none⟩=some (.int .i64 0)∧w.cell? ⟨p,2,none⟩=some (.pointer (some ⟨x.q,0,none⟩))∧w.cell? ⟨p,3,none⟩=some (.pointer (some ⟨x.k,0,none⟩)) ∧
  w.cell? ⟨p,4,none⟩=some (.int .i64 (x.pages:Int))∧w.cell? ⟨p,5,none⟩=some (.bool x.busy)∧w.cell? ⟨p,6,none⟩=some (.int .i64 (x.np:Int))∧w.cell? ⟨p,7,none⟩=some (.map (some x.m))∧w.cell? ⟨p,8,none⟩=some (.slice x.mo x.ml x.mc)∧w.cell? ⟨p,9,none⟩=some (.int .i64 (x.last:Int))∧w.cell? ⟨p,10,none⟩=some (.int .i64 (x.com:Int))∧w.cell? ⟨p,11,none⟩=some (.int .i64 (x.rep:Int)):=
 ⟨h.cell 0,h.cell 1,h.cell 2,h.cell 3,h.cell 4,h.cell 5,h.cell 6,h.cell 7,h.cell 8,h.cell 9,h.cell 10,h.cell 11⟩
theorem PgAt.frozen(h:PgAt w p x)(i:Nat):w.frozen? ⟨p,i,none⟩=false:=Cch.hd_frozen h i
variable {w':World}
theorem PgAt.stay(h:PgAt w p x)(hb:w'.heap[p]? = w.heap[p]?):PgAt w' p x:=hb.trans h
theorem PgAt.later(h:PgAt w p x)(hb:Below w.heap.size w w'):PgAt w' p x:=h.stay (hb.block p h.lt)
variable {w1:World} {S S1:Nat→Prop}
theorem fr_trans{w2:World}(h:Fr S w w1)(k:Fr S1 w1 w2)(hs:∀ b,S1 b→S b∨w.heap.size≤b):Fr S w w2:=
 ⟨k.os.trans h.os,k.tape.trans h.tape,k.output.trans h.output,Nat.le_trans h.size k.size,fun i hi hn=>(k.blk i (Nat.lt_of_lt_of_le hi h.size) (fun h1=>by
  rcases hs i h1 with h2 |h2
  ·exact hn h2
  ·omega)).trans (h.blk i hi hn)⟩
theorem fr_imp(h:Fr S w w1)(hs:∀ b,S b→S1 b):Fr S1 w w1:=⟨h.os,h.tape,h.output,h.size,fun i hi hn=>h.blk i hi (fun h1=>hn (hs i h1))⟩
theorem fr_df{q:Nat}{P:Dsk.Parts}(h:DFrame w w' q P.all):Fr (DN q P) w w':=⟨h.os,h.tape,h.output,h.size,fun i hi hn=>h.block i hi (fun e=>hn (Or.inl e)) (fun e=>hn (Or.inr e))⟩
theorem fr_cell(h:Fr S w w'){b i:Nat}{v:Value}(hc:w.cell? ⟨b,i,none⟩=some v)(hb:¬S b):w'.cell? ⟨b,i,none⟩=some v:=(World.cell?_of_block (h.blk b (lt_cell hc) hb)).trans hc
theorem fr_below(h:Below w.heap.size w w'):Fr S w w':=Fr.of_below h
def NC(p:Nat)(x:PC)(P:Dsk.Parts)(C:Cch.Parts):Nat→Prop:=fun b=>DN x.q P b∨C.S x.k b∨b=p
structure Core (w:World) (p:Nat) (x:PC) (P:Dsk.Parts) (C:Cch.Parts) (d:DS) (s:CS):Prop where
 hd:PgAt w p x
 dk:DiskP w x.q P d
 ck:CP w x.k C s
 dc:∀ b,DN x.q P b→¬C.S x.k b
 dp:¬DN x.q P p
 cp:¬C.S x.k p
variable {s:CS} {d:DS}
theorem Core.lt{P:Dsk.Parts}{C:Cch.Parts}(h:Core w p x P C d s){b:Nat}(hb:NC p x P C b):b<w.heap.size:=by
 rcases hb with hb |hb |rfl
 ·exact DN.lt h.dk hb
 ·exact h.ck.lt hb
 ·exact h.hd.lt
theorem Core.later{P:Dsk.Parts}{C:Cch.Parts}(h:Core w p x P C d s)(hb:Below w.heap.size w w'):Core w' p x P C d s:=
 ⟨h.hd.later hb,h.dk.later hb,h.ck.later hb,h.dc,h.dp,h.cp⟩
def More(p:Nat)(x:PC)(P P':Dsk.Parts)(C C':Cch.Parts)(w:World):Prop:=∀ b,NC p x P' C' b→NC p x P C b∨w.heap.size≤b
theorem More.refl(p:Nat)(x:PC)(P:Dsk.Parts)(C:Cch.Parts)(w:World):More p x P P C C w:=fun _ h=>Or.inl h
theorem More.trans{P P1 P2:Dsk.Parts}{C C1 C2:Cch.Parts}(h:More p x P P1 C C1 w)(k:More p x P1 P2 C1 C2 w1)(hs:w.heap.size≤w1.heap.size):More p x P P2 C C2 w:=fun b hb=>by
 rcases k b hb with h1 |h1
 ·exact h b h1
 ·exact Or.inr (Nat.le_trans hs h1)
theorem More.out{P P':Dsk.Parts}{C C':Cch.Parts}(h:More p x P P' C C' w)(hs:w.heap.size≤w'.heap.size){b:Nat}(ho:Out w (NC p x P C) b):Out w' (NC p x P' C') b:=
 ⟨Nat.lt_of_lt_of_le ho.1 hs,fun hb=>by
  rcases h b hb with h1 |h1
  ·exact ho.2 h1
  ·have:=ho.1;omega⟩
theorem Core.disk{P:Dsk.Parts}{C:Cch.Parts}{d':DS}(h:Core w p x P C d s)(k:DiskTo w w' x.q P d'):∃ P',Core w' p x P' C d' s∧More p x P P' C C w∧Fr (DN x.q P) w w'∧Grew P w P':=by
 obtain ⟨⟨P',hp,hg⟩,hf⟩:=k
 have hf':=fr_df hf
 have key:∀ b,DN x.q P' b→DN x.q P b∨w.heap.size≤b:=fun b hb=>by
  rcases hb with rfl |hb
  ·exact Or.inl (Or.inl rfl)
  ·rcases hg b hb with h1 |h1
   ·exact Or.inl (Or.inr h1)
   ·exact Or.inr h1
 refine ⟨P',⟨h.hd.stay (hf'.blk p h.hd.lt h.dp),hp,h.ck.stay (fun b hb hS=>hf'.blk b hb (fun hd=>h.dc b hd hS)),fun b hb hS=>?_,fun hb=>?_,h.cp⟩,fun b hb=>?_,hf',hg⟩
 ·rcases key b hb with h1 |h1
  ·exact h.dc b h1 hS
  ·have:=h.ck.lt hS;omega
 ·rcases key p hb with h1 |h1
  ·exact h.dp h1
  ·have:=h.hd.lt;omega
 ·rcases hb with hb |hb |rfl
  ·rcases key b hb with h1 |h1
   ·exact Or.inl (Or.inl h1)
   ·exact Or.inr h1
  ·exact Or.inl (Or.inr (Or.inl hb))
  ·exact Or.inl (Or.inr (Or.inr rfl))
theorem Core.cache{P:Dsk.Parts}{C C':Cch.Parts}{s':CS}(h:Core w p x P C d s)(k:Cch.Step w w' x.k C C' s'):Core w' p x P C' d s'∧More p x P P C C' w∧Fr (C.S x.k) w w':=by
 refine ⟨⟨h.hd.stay (k.fr.blk p h.hd.lt h.cp),h.dk.stay k.fr.size (fun b hb hd=>k.fr.blk b hb (fun hS=>h.dc b (by rcases hd with h1 |h1;exact Or.inr h1;exact Or.inl h1) hS)),k.cp,fun b hb hS=>?_,h.dp,fun hS=>?_⟩,fun b hb=>?_,k.fr⟩
 ·rcases k.gr b hS with h1 |h1
  ·exact h.dc b hb h1
  ·have:=DN.lt h.dk hb;omega
 ·rcases k.gr p hS with h1 |h1
  ·exact h.cp h1
  ·have:=h.hd.lt;omega
 ·rcases hb with hb |hb |rfl
  ·exact Or.inl (Or.inl hb)
  ·rcases k.gr b hb with h1 |h1
   ·exact Or.inl (Or.inr (Or.inl h1))
   ·exact Or.inr h1
  ·exact Or.inl (Or.inr (Or.inr rfl))
theorem kind5{c:Nat}{C:Cch.Parts}(h:CP w c C s){b:Nat}{cur:Array Value}(hb:w.heap[b]? = some (.cells cur 5 (0,0))):¬C.S c b:=fun hS=>by
 rcases hS with rfl |rfl |hS
 ·rw [h.hd]at hb;simp at hb
 ·obtain ⟨es,cl,ho⟩:=h.mp.obj
  rw [ho]at hb;cases hb
 ·rw [(h.rg.en _ hS).blk]at hb;simp at hb
abbrev Pg:=List Nat
def secsOf(l:List Pg):List Sec:=l.flatMap (chunks 4)
theorem secsOf_length(l:List Pg):(secsOf l).length=l.length*4:=by
 induction l with
 | nil=>rfl
 | cons a r ih=>simp only [secsOf,List.flatMap_cons,List.length_append,chunks_length,List.length_cons]at *;omega
theorem secsOf_append(a b:List Pg):secsOf (a++b)=secsOf a++secsOf b:=by simp [secsOf]
variable {i:Nat} {l:List Pg}
theorem secsOf_at(h:i<l.length):((secsOf l).drop (i*4)).take 4=chunks 4 (l.getD i []):=by
 have e:l=l.take i++l.getD i []::l.drop (i+1):=by
  rw [List.getD,List.getElem?_eq_getElem h,Option.getD_some,←List.drop_eq_getElem_cons h,List.take_append_drop]
 have h1:(secsOf (l.take i)).length=i*4:=by rw [secsOf_length,List.length_take];omega
 have h2:secsOf l=secsOf (l.take i)++(chunks 4 (l.getD i [])++secsOf (l.drop (i+1))):=by
  conv=>lhs;rw [e]
  rw [secsOf_append];rfl
 rw [h2,←h1,List.drop_left,List.take_append_of_le_length (by rw [chunks_length];omega),List.take_of_length_le (by rw [chunks_length];omega)]
theorem read_page(hd:d.f0.now=secsOf l)(ho:d.off=false)(h:i<l.length)(hl:(l.getD i []).length=512):readD d 0 ((i:Int)*4) 4=(l.getD i [],0):=by
 have hk:known 0=true:=rfl
 have hf:(d.file 0)=d.f0:=rfl
 have hsl:=secsOf_length l
 unfold readD
 rw [ho,hk,hf,hd,hsl]
 simp only [Bool.false_eq_true,if_false,Bool.not_true]
 rw [if_neg (by omega)]
 have e1:((i:Int)*4).toNat=i*4:=by omega
 rw [e1]
 have e2:(4:Int).toNat=4:=rfl
 rw [e2,secsOf_at h,chunks_flatten 4 _ (by rw [hl])]
def Kept(s:CS)(sure:List Pg):Prop:=∀ r∈s.l,∃ i:Nat,r.page=((i+1:Nat):Int)∧i<sure.length∧r.bytes=sure.getD i []∧r.pins=0∧r.dirty=false
end
end Go.Proofs.YtgjgkpnjchflaaaGreatDoor
