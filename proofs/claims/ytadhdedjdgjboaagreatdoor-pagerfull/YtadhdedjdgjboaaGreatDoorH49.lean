/- The law PagerFull returns true and turns nothing that was there, whatever it is called with; the walk alone. -/
import Derived.Test.YtadhdedjdgjboaaGreatDoorH48
import Derived.Test.YtadhdedjdgjboaaGreatDoorH17
set_option maxHeartbeats 16000000
set_option maxRecDepth 20000
namespace Go.Proofs.YtadhdedjdgjboaaGreatDoor
section
open Go.RowKit Go.Maps
open Dsk (gt hid undrew keep_old keep_cell lt_cell Rd DS FS Sec DiskP DFrame Grew From op_at idx dirtD was secD sureF sureF_ok crashD newD)
open Cch (CS CP Fr wpAnyK wpAnyK_take wpAnyK_pure wpAnyK_ready wpAnyK_done wp_region_K AllReadyK.cons AllReadyK.nil AllReadyK.late)
variable {t:RS} {O S:Nat→Prop} {V:RV} {r:Nat} {w:World}
theorem AS.up1{arm:Prop}{room croom K:Nat}{p q:Nat}(h:AS arm room croom K (K+1) w p q r S V O t t):AS arm room croom (K+1) (K+1) w p q r S V O t t:=⟨h.ref,h.prg,h.tb.up,h.o⟩
structure Row (w:World) (O:Nat→Prop) (ao:Option Addr) (L c:Nat) (Z:Nat→Pv):Prop where
 row:w.ownsRow 0 37 4 (.slice ao L c) L (actC Z L)
 own:∀ a,ao=some a→O a.block
 ok:∀ i,i<L→(Z i).s<256
variable {L c:Nat} {ao:Option Addr}
theorem Row.at_{Z:Nat→Pv}(h:Row w O ao L c Z){i:Nat}(hi:i<L):∃ g,ao=some ⟨g,0,none⟩∧L≤c∧g<w.heap.size∧w.cell? ⟨g,i*4,none⟩=some (.int .i64 (Z i).k)∧w.cell? ⟨g,i*4+1,none⟩=some (.int .i64 (Z i).n)∧w.cell? ⟨g,i*4+2,none⟩=some (.int .u8 ((Z i).s:Int))∧w.cell? ⟨g,i*4+3,none⟩=some (.bool (Z i).sh):=by
 obtain ⟨ao',cap,e,hno,hso⟩:=row_form4 h.row
 simp only [Value.slice.injEq]at e
 obtain ⟨rfl,-,rfl⟩:=e
 cases ao with
 | none=>have:=(hno rfl).1;omega
 | some a=>
  obtain ⟨e1,h2,h3⟩:=hso a rfl
  have hr:=h.row
  rw [e1]at hr ⊢
  obtain ⟨a0,a1,a2,a3⟩:=actC_at Z L i hi
  have f:∀ j u,(actC Z L)[j]? = some u→w.cell? ⟨a.block,j,none⟩=some u:=fun j u hu=>by
   have:=hr.cells (g:=a.block) rfl j u hu
   rw [Addr.add_lit]at this;simpa using this
  exact ⟨a.block,rfl,h2,h3,f _ _ a0,f _ _ a1,f _ _ a2,f _ _ a3⟩
variable {w':World}
theorem Row.stay{Z:Nat→Pv}(h:Row w O ao L c Z)(hs:Stay O w w'):Row w' O ao L c Z:=
 ⟨rr_fr h.row hs (fun k hk e=>by
  cases ao with
  | none=>cases hk
  | some a=>exact e.1 (by rw [←Option.some.inj (show some a.block=some k from hk)];exact h.own a rfl)),h.own,h.ok⟩
variable {R:Nat→Prop}
theorem stay_of(h:Rok R w w')(hR:∀ b,O b→R b):Stay O w w':=fr_imp h (fun b hb=>⟨fun k=>hb.1 (hR b k),hb.2⟩)
theorem RefP.rok2(h:RefP w r S V t)(hk:Rok R w w')(hR:∀ b,RO r S O b→R b):RefP w' r S V t:=
 h.stay hk.size (fun k hl hs=>hk.at_ (hR k (by rcases hs with h1 |h1;exact Or.inr (Or.inl h1);exact Or.inl h1)) hl)
variable {v:Value} {Y:World} {B:Nat}
theorem gt_own{Z:World}(hb:Below B w Y)(hB:B≤Y.heap.size)(hg:Y.grownBy Z v.ownBlock)(hv:∀ k,v.ownBlock=some k→B≤k):Below B w Z:=hb.grown hg hB (fun j hj=>hv j hj)
theorem src_below{W:World}{lo:Option Addr}{C:Nat}{X:Nat→Pv}(h:ActsV w lo L X)(hb:Below w.heap.size w W)(hno:lo=none→L=0∧C=0):Src4 W lo L C (actC X L):=acts_src (fun hl=>by obtain ⟨b,off,e,ha⟩:=h hl;exact ⟨b,off,e,ha.keep hb⟩) hno
theorem own_new2{n:Nat}(hB:B≤Y.heap.size)(hv:∀ k,v.ownBlock=some k→B≤k)(ha:∀ a,ao=some a→(v.ownBlock=some a.block∨a.block=Y.heap.size)):∀ k,(Value.slice ao n c).ownBlock=some k→B≤k:=by
 intro k hk
 cases ao with
 | none=>cases hk
 | some a=>
  cases hk
  rcases ha a rfl with h |h
  ·exact hv _ h
  ·rw [h];exact hB
theorem full_long(rm:Int)(lo1:Option Addr)(L1 C1:Nat)(lo2:Option Addr)(L2 C2:Nat)(w:World)(hT:Jrn.Tab w)(h0:0<w.heap.size)(hL:60<L2∨40<L1) :
  Calls Tryz.prog 5 #[.int .u8 rm,.slice lo1 L1 C1,.slice lo2 L2 C2] w fun e w'=>e=.returned (.bool true)∧Below w.heap.size w w':=by
 have CL:=hid (lives_any w hT h0)
 clear hT h0
 by_cases h1:60<L2
 ·have h1':(60:Int)<(L2:Int):=by omega
  go_enter Tryz.func5,Tryz.ntmps5
  go_wp2_with (go_at_call 8;refine CL.out.mono ?_;rintro e w3 ⟨rfl,hb3⟩;replace hb3:=hid hb3)
  go_ret
  exact ⟨rfl,hb3.out⟩
 ·have h1':¬(60:Int)<(L2:Int):=by omega
  have h2':(40:Int)<(L1:Int):=by omega
  go_enter Tryz.func5,Tryz.ntmps5
  go_wp2_with (go_at_call 8;refine CL.out.mono ?_;rintro e w3 ⟨rfl,hb3⟩;replace hb3:=hid hb3)
  go_ret
  exact ⟨rfl,hb3.out⟩
theorem full_yes(rm:Nat)(hrm:rm<256)(lo1:Option Addr)(L1 C1:Nat)(X:Nat→Pv)(lo2:Option Addr)(L2 C2:Nat)(Y:Nat→Pv)(w:World)(hT:Jrn.Tab w)(h0:0<w.heap.size)(h1:ActsV w lo1 L1 X)(h2:ActsV w lo2 L2 Y)(n1:lo1=none→L1=0∧C1=0)(n2:lo2=none→L2=0∧C2=0)(hL1:L1≤40)(hL2:L2≤60) :
  Calls Tryz.prog 5 #[.int .u8 (rm:Int),.slice lo1 L1 C1,.slice lo2 L2 C2] w fun e w'=>e=.returned (.bool true)∧Below w.heap.size w w':=by
 have k1:¬(60:Int)<(L2:Int):=by omega
 have k2:¬(40:Int)<(L1:Int):=by omega
 have k3:IntKind.i64.wrap (8+(rm:Int))=((8+rm:Nat):Int):=by rw [IntWalk.i64_in _ ⟨by omega,by omega⟩];omega
 obtain ⟨RM,hRM⟩:∃ RM,RM=8+rm:=⟨_,rfl⟩
 rw [←hRM]at k3
 have k4:IntKind.i64.wrap (rm:Int)=(rm:Int):=IntWalk.i64_in _ ⟨by omega,by omega⟩
 have H1:=hid h1;have H2:=hid h2;have HT:=hid hT;have H0:=hid h0;have HN1:=hid n1;have HN2:=hid n2
 have C9:=hid (Dsk.new_yes RM w (by omega) (by omega))
 clear h1 h2 hT h0 n1 n2 hRM
 go_enter Tryz.func5,Tryz.ntmps5
 go_upto_region 8 with (first
  | (go_at_call 9;refine C9.out.mono ?_;rintro e w1 ⟨rfl,⟨P1,hd1,hp1⟩,hb1⟩;have D1:=hid hd1;have P1':=hid hp1;have B1:=hid hb1;clear hd1 hp1 hb1)
  | (go_at_call 10;refine (open_clean w.heap.size 8 P1 (newD RM) [] w1 D1.out (clean_new RM) whole_nil (by simp) (by omega) (by omega) (HT.out.keep B1.out) ⟨by have:=H0.out;have:=B1.out.size;omega,fun hd=>by rcases hd with h1 | h1;(have:=H0.out;omega);(have:=P1'.out 0 h1;omega)⟩ (by show 0≤_;omega)).mono ?_;rintro e w2 ⟨p,x,rfl,ho⟩;have N2:=hid (both_new B1.out P1'.out ho);clear ho))
 have HA:Hid (Both False RM 8 0 (w2.alloc zeroRef) p w.heap.size w2.heap.size (Old w) rt0):=hid N2.out.1
 have HS:Hid (Stay (Old w) w (w2.alloc zeroRef)):=hid N2.out.2
 obtain ⟨q,hq⟩:∃ q,q=w.heap.size:=⟨_,rfl⟩
 obtain ⟨r,hr⟩:∃ r,r=w2.heap.size:=⟨_,rfl⟩
 obtain ⟨w3,hw3⟩:∃ w3,w3=w2.alloc (.cells #[.slice none 0 0,.slice none 0 0,.slice none 0 0,.bool false,.slice none 0 0,.int .i64 0,.int .i64 0] 35):=⟨_,rfl⟩
 have HA3:Hid (Both False RM 8 0 w3 p q r (Old w) rt0):=hid (by rw [hw3,hq,hr];exact HA.out)
 have HS3:Hid (Stay (Old w) w w3):=hid (by rw [hw3];exact HS.out)
 rw [←hw3,←hr]
 (try rw [←hq])
 have b4:Below w3.heap.size w3 (w3.alloc (.cells #[] 37)):=Below.alloc (Below.refl _ _) (Nat.le_refl _) _
 have B4:=hid b4
 have R4:Hid ((w3.alloc (.cells #[] 37)).ownsRow w3.heap.size 37 4 (.slice (some ⟨w3.heap.size,0,none⟩) 0 0) 0 []):=hid (World.ownsRow_made w3 #[] 0 (Nat.le_refl _) (by decide) rfl)
 have B0:=hid (gt (old_below HS3.out) B4.out)
 have N4:Hid (∀ k,(Value.slice (some ⟨w3.heap.size,0,none⟩) 0 0).ownBlock=some k→w3.heap.size≤k):=hid (fun k hk=>by cases hk;exact Nat.le_refl _)
 have S1:=hid (src_below H1.out B0.out HN1.out)
 have HSZ:=hid HS3.out.size
 clear N2 HA HS hq hr hw3 C9 D1 P1' B1 b4
 go_wp2_with (first
  | ((with_reducible refine Dsk.here_op 45 ?_);refine wpList_app4 rfl (.tmp 43) (.tmp 44) el22 rfl (.slice (some ⟨w3.heap.size,0,none⟩) 0 0) 0 [] rfl (rr_base R4.out (Nat.zero_le _)) lo1 L1 C1 (actC X L1) rfl S1.out (by omega) ?_;intro a5 c5 w5 ho5 hg5 ha5;have B5:=hid (gt_own B4.out B4.out.size hg5 N4.out);have N5:=hid (own_new2 (n:=L1) (c:=c5) B4.out.size N4.out ha5);have S2:=hid (src_below H2.out (gt (old_below HS3.out) B5.out) HN2.out);rw [Nat.zero_add,List.nil_append]at ho5;have O5:=hid ho5;clear ho5 hg5 ha5)
  | ((with_reducible refine Dsk.here_op 47 ?_);refine wpList_app4 rfl (.tmp 45) (.tmp 46) el22 rfl (.slice a5 L1 c5) L1 (actC X L1) rfl O5.out lo2 L2 C2 (actC Y L2) rfl S2.out (by omega) ?_;intro a6 c6 w6 ho6 hg6 ha6;have O6:=hid ho6;have B6:=hid (gt_own B5.out B5.out.size hg6 N5.out);have N6:=hid (own_new2 (n:=L1+L2) (c:=c6) B5.out.size N5.out ha6);clear ho6 hg6 ha6))
 obtain ⟨L,hLL⟩:∃ L,L=L1+L2:=⟨_,rfl⟩
 obtain ⟨Z,hZ⟩:∃ Z,Z=joinX L1 X Y:=⟨_,rfl⟩
 obtain ⟨OO,hOO⟩:∃ OO:Nat→Prop,OO=fun b=>Old w b∨(Value.slice a6 (L1+L2) c6).ownBlock=some b:=⟨_,rfl⟩
 have HB6:Hid (Both False RM 8 0 w6 p q r OO rt0):=hid (by
  obtain ⟨SS,VV,hA⟩:=HA3.out
  refine ⟨SS,VV,hA.more B6.out (fun b hb=>?_)⟩
  rw [hOO]at hb
  rcases hb with hb |hb
  ·exact Or.inl hb
  ·exact Or.inr ⟨N6.out b hb,(rr_blk O6.out hb).2⟩)
 have HR6:Hid (Row w6 OO a6 (L1+L2) c6 Z):=hid (by
  refine ⟨by rw [hZ,actC_join];exact O6.out,fun a ha=>by rw [hOO,ha];exact Or.inr rfl,fun i hi=>?_⟩
  rw [hZ];unfold joinX
  split
  ·rename_i h
   obtain ⟨b,off,e,ha⟩:=H1.out (by omega)
   exact (ha i h).2.2.2.2
  ·rename_i h
   obtain ⟨b,off,e,ha⟩:=H2.out (by omega)
   exact (ha (i - L1) (by omega)).2.2.2.2)
 have HS6:Hid (Stay (Old w) w w6):=hid (HS3.out.trans (fr_below B6.out))
 have HOO:Hid (∀ b,Old w b→OO b):=hid (fun b hb=>by rw [hOO];exact Or.inl hb)
 rw [←hLL]at HR6
 have hL100:L≤100:=by omega
 (try rw [←hLL])
 have kLL:(L1:Int)+(L2:Int)=(L:Int):=by omega
 (try rw [kLL])
 clear hOO hZ hLL O6 O5 N4 N5 N6 B4 B5 B6 B0 R4 S1 S2 HA3 HS3 H1 H2 HN1 HN2 kLL
 go_loopg [49] L (fun k v W=>∃ (i:Nat) (t:RS),i+k=L∧v=.int .i64 (i:Int)∧Hid (Both False RM 8 i W p q r OO t)∧Hid (Stay (Old w) w W)∧Hid (Row W OO a6 L c6 Z))
 case atStart=>exact ⟨0,rt0,by omega,rfl,HB6,HS6,HR6⟩
 case round=>
  clear HB6 HS6 HR6
  obtain ⟨i,t,hik,rfl,HB,HST,ROW⟩:=hrel
  by_cases hiL:i<L
  ·obtain ⟨g,rfl,hLc,hgl,c0,c1,c2,c3⟩:=ROW.out.at_ hiL
   have hiL':(i:Int)<(L:Int):=by omega
   have OK:=hid (ROW.out.ok i hiL)
   have hbl':¬g=wr.heap.size:=by omega
   generalize Z i=z at c0 c1 c2 c3 OK
   obtain ⟨kk,nn,ss,sh⟩:=z
   simp only at c0 c1 c2 c3 OK
   obtain ⟨W0,hW0⟩:∃ W0,W0=wr.alloc (.cells #[.int .i64 kk,.int .i64 nn,.int .u8 (ss:Int),.bool sh] 37):=⟨_,rfl⟩
   obtain ⟨xb,hxb⟩:∃ xb,xb=wr.heap.size:=⟨_,rfl⟩
   have HB0:=hid (show Below wr.heap.size wr W0 by rw [hW0];exact (Below.refl _ _).alloc (Nat.le_refl _) _)
   have HX0:Hid (Stay OO wr W0):=hid (fr_below HB0.out)
   obtain ⟨SS,VV,hA0⟩:=HB.out
   have hA:AS False RM 8 i i W0 p q r SS VV (fun b=>OO b∨b=xb) t t:=by rw [hW0,hxb];exact hA0.box _
   have HW0:=hid hW0
   clear hW0 hA0 hxb HB
   by_cases hk7:kk=7
   ·subst hk7
    rcases prg_commit_any hA.prg hA.tb (by omega) with ⟨hne,CC⟩ | ⟨hbz,CC⟩
    ·have HA:=hid hA;have CC:=hid CC
     have CD:=hid (fun W (hm:AS False RM 8 i (i+1) W p q r SS VV (fun b=>OO b∨b=xb) t t.aCommit.2)=>doc_commit hm.ref hm.tb (by omega))
     obtain ⟨v,hv⟩:∃ v,v=t.aCommit.1:=⟨_,rfl⟩
     rw [←hv]at hne CC CD
     clear hv hA
     go_wp2_with (first
      | (go_at_call 27;rw [←HW0.out];refine CC.out.mono ?_;rintro e w5 ⟨rfl,hp5,hr5⟩;have M5:=hid (HA.out.did hp5 hr5);clear hp5 hr5)
      | (go_at_call 28;refine (CD.out w5 M5.out.1).mono ?_;rintro e w6 ⟨rfl,hd6⟩;have D6:=hid (M5.out.1.done hd6 HA.out.tb.commit);clear hd6))
     go_roundg (gk - 1)
     case measure=>omega
     case rel=>
      refine ⟨i+1,t.aCommit.2,by omega,by simp,hid (D6.out.1.less (fun _ h=>Or.inl h)),hid ?_,hid ?_⟩
      ·exact ((HST.out.trans (fr_below HB0.out)).trans (M5.out.2.less (fun b h=>Or.inl (HOO.out b h)))).trans (D6.out.2.less (fun b h=>Or.inl (HOO.out b h)))
      ·exact ROW.out.stay ((HX0.out.trans (M5.out.2.less (fun _ h=>Or.inl h))).trans (D6.out.2.less (fun _ h=>Or.inl h)))
    ·have HA:=hid hA;have CC:=hid CC
     have CBU:=hid (fun W (hm:AS False RM 8 i (i+1) W p q r SS VV (fun b=>OO b∨b=xb) t t)=>prg_busy hm.prg)
     rw [hbz]at CBU
     obtain ⟨N,hN⟩:∃ N,N=t.sure.length:=⟨_,rfl⟩
     have CS4:Hid (∀ W,AS False RM 8 i (i+1) W p q r SS VV (fun b=>OO b∨b=xb) t t→Calls Tryz.prog 29 #[.pointer (some ⟨q,0,none⟩),.int .i64 0] W fun e w'=>e=.returned (.int .i64 (4*(N:Int)))∧w'=W):=hid (fun W hm=>by have:=(prg_sectors hm.prg).2;rw [←hN,show ((N*4:Nat):Int)=4*(N:Int) by omega]at this;exact this)
     have SV:Hid (∃ aos cs,VV.sv=.slice aos N cs):=hid (by obtain ⟨aos,cs,e,_⟩:=rdP_of hA.ref.sure;exact ⟨aos,cs,by rw [hN];exact e⟩)
     obtain ⟨aos,cs,hSV⟩:=SV.out
     have SV:=hid hSV
     have e4:IntKind.i64.wrap (4*(N:Int))=4*(N:Int):=by have:=hA.tb.ls;exact IntWalk.i64_in _ ⟨by omega,by omega⟩
     have CL:Hid (t.c.length≤4000):=hid (by have:=hA.tb.lc;have:=hA.tb.ln;omega)
     have CB:Hid (t.chg.length≤1000000):=hid (by have:=chK_le t.c t.busy t.c.length;have:=CL.out;unfold RS.chg;omega)
     clear hA hN hSV hbz
     go_upto_region 18 with (go_at_call 27;rw [←HW0.out];refine CC.out.mono ?_;rintro e w6 ⟨rfl,hp6,hr6⟩;have M6:=hid (HA.out.did hp6 hr6);clear hp6 hr6)
     have A6:=hid (M6.out.1.later (Below.refl _ _).drew)
     refine wp_region_K (S:=fun _=>True) (fun _=>false) (by kernel_rfl) (trivial) (fun hHeld=>?_)
     refine gkp 0 ?_
     refine gk1 1 (fun K hK=>?_)
     go_simp
     go_at_call 14;(with_reducible refine (CBU.out w6.drew A6.out).mono ?_);rintro e w7 ⟨rfl,hb⟩;have A7:=hid (A6.out.later hb);have B7:=hid hb;have hR:True:=trivial;clear hb
     refine hK.out _ _ hR (fun hHeld=>?_)
     clear hK K
     (try simp only [Act.put,sA,sZ,sS])
     refine gkp 2 ?_
     refine gkp 3 ?_
     refine gkp 4 ?_
     refine gkp 6 ?_
     refine gk1 5 (fun K hK=>?_)
     go_simp
     go_at_call 17;(with_reducible refine (prg_changed A7.out.prg).mono ?_);rintro e w9 ⟨ao9,cp9,rfl,hr9,hc9,hb⟩;have A9:=hid (A7.out.later hb);have B9:=hid hb;have hR:True:=trivial;have I9:=hid hr9;have C9:=hid hc9;clear hr9 hc9;clear hb
     refine hK.out _ _ hR (fun hHeld=>?_)
     clear hK K
     (try simp only [Act.put,sA,sZ,sS])
     refine gk1 7 (fun K hK=>?_)
     go_simp
     go_at_call 18;(with_reducible refine (doc_changed A9.out.ref CL.out).mono ?_);rintro e w10 ⟨ao10,cp10,rfl,hr10,hc10,hb⟩;have A10:=hid (A9.out.later hb);have B10:=hid hb;have hR:True:=trivial;have I10:=hid hr10;have C10:=hid hc10;have I9:=hid (I9.out.keep hb);clear hr10 hc10;clear hb
     refine hK.out _ _ hR (fun hHeld=>?_)
     clear hK K
     (try simp only [Act.put,sA,sZ,sS])
     refine gk1 8 (fun K hK=>?_)
     go_simp
     go_at_call 16;(with_reducible refine (ints_same ao9 ao10 _ cp9 cp10 t.chg w10 I9.out I10.out CB.out C9.out C10.out).mono ?_);rintro e w11 ⟨rfl,hb⟩;have A11:=hid (A10.out.later hb);have B11:=hid hb;have hR:True:=trivial;clear hb
     refine hK.out _ _ hR (fun hHeld=>?_)
     clear hK K
     (try simp only [Act.put,sA,sZ,sS])
     refine gkp 9 ?_
     refine gkp 10 ?_
     refine gkp 11 ?_
     refine gkp 12 ?_
     refine gk1 13 (fun K hK=>?_)
     go_simp
     go_at_call 29;(with_reducible refine ((prg_sectors A11.out.prg).1).mono ?_);rintro e wx ⟨rfl,hwx⟩;obtain rfl:=hwx.symm;have hR:True:=trivial
     refine hK.out _ _ hR (fun hHeld=>?_)
     clear hK K
     (try simp only [Act.put,sA,sZ,sS])
     refine gkp 14 ?_
     refine gkp 15 ?_
     refine gkp 16 ?_
     refine gkp 17 ?_
     refine gkp 19 ?_
     refine gkp 20 ?_
     refine gkp 21 ?_
     refine wpAnyK_ready (rs:=[18,22]) (by kernel_rfl) (by simp) ?_
     refine AllReadyK.cons (op_at _ 18 _ rfl) (fun K hK=>?_) ?_
     ·go_simp
      go_at_call 29;(with_reducible refine (CS4.out w11 A11.out).mono ?_);rintro e wx ⟨rfl,hwx⟩;obtain rfl:=hwx.symm;have hR:True:=trivial
      refine hK.out _ _ hR (fun hHeld=>?_)
      clear hK K
      (try simp only [Act.put,sA,sZ,sS])
      refine gk1 22 (fun K hK=>?_)
      have ys:=A11.out.ref.cells.1;rw [SV.out]at ys;go_simp;have hR:True:=trivial
      refine hK.out _ _ hR (fun hHeld=>?_)
      clear hK K
      (try simp only [Act.put,sA,sZ,sS])
      refine gkp 23 ?_
      refine gkp 24 ?_ (v:=.int .i64 (4*(N:Int))) (h:=by intro W hSw;go_simp;first |done |with_reducible rfl |simp [e4])
      refine gkp 25 ?_ (v:=.bool false) (h:=by intro W hSw;go_simp;first |done |with_reducible rfl |simp)
      refine gkp 26 ?_
      refine wpAnyK_done (by kernel_rfl) ?_ _
      go_wp2
      go_roundg (gk - 1)
      case measure=>omega
      case rel=>
       refine ⟨i+1,t,by omega,by simp,hid (Both.less ⟨SS,VV,A11.out.up1⟩ (fun _ h=>Or.inl h)),hid ?_,hid ?_⟩
       ·exact (((((((HST.out.trans (fr_below HB0.out)).trans (M6.out.2.less (fun b h=>Or.inl (HOO.out b h)))).trans (fr_below (Below.refl _ _).drew)).trans (fr_below B7.out)).trans (fr_below B9.out)).trans (fr_below B10.out)).trans (fr_below B11.out))
       ·exact ROW.out.stay ((((((HX0.out.trans (M6.out.2.less (fun _ h=>Or.inl h))).trans (fr_below (Below.refl _ _).drew)).trans (fr_below B7.out)).trans (fr_below B9.out)).trans (fr_below B10.out)).trans (fr_below B11.out))
     refine AllReadyK.cons (op_at _ 22 _ rfl) (fun K hK=>?_) ?_
     ·have ys:=A11.out.ref.cells.1;rw [SV.out]at ys;go_simp;have hR:True:=trivial
      refine hK.out _ _ hR (fun hHeld=>?_)
      clear hK K
      (try simp only [Act.put,sA,sZ,sS])
      refine gkp 23 ?_
      refine gkp 24 ?_ (v:=.int .i64 (4*(N:Int))) (h:=by intro W hSw;go_simp;first |done |with_reducible rfl |simp [e4])
      refine gk1 18 (fun K hK=>?_)
      go_simp
      go_at_call 29;(with_reducible refine (CS4.out w11 A11.out).mono ?_);rintro e wx ⟨rfl,hwx⟩;obtain rfl:=hwx.symm;have hR:True:=trivial
      refine hK.out _ _ hR (fun hHeld=>?_)
      clear hK K
      (try simp only [Act.put,sA,sZ,sS])
      refine gkp 25 ?_ (v:=.bool false) (h:=by intro W hSw;go_simp;first |done |with_reducible rfl |simp)
      refine gkp 26 ?_
      refine wpAnyK_done (by kernel_rfl) ?_ _
      go_wp2
      go_roundg (gk - 1)
      case measure=>omega
      case rel=>
       refine ⟨i+1,t,by omega,by simp,hid (Both.less ⟨SS,VV,A11.out.up1⟩ (fun _ h=>Or.inl h)),hid ?_,hid ?_⟩
       ·exact (((((((HST.out.trans (fr_below HB0.out)).trans (M6.out.2.less (fun b h=>Or.inl (HOO.out b h)))).trans (fr_below (Below.refl _ _).drew)).trans (fr_below B7.out)).trans (fr_below B9.out)).trans (fr_below B10.out)).trans (fr_below B11.out))
       ·exact ROW.out.stay ((((((HX0.out.trans (M6.out.2.less (fun _ h=>Or.inl h))).trans (fr_below (Below.refl _ _).drew)).trans (fr_below B7.out)).trans (fr_below B9.out)).trans (fr_below B10.out)).trans (fr_below B11.out))
     exact AllReadyK.nil
   ·have CA:=hid (act_most ⟨SS,VV,hA⟩ (by omega) kk nn ss sh OK.out hk7)
    clear hA
    obtain ⟨T,hT⟩:∃ T,T=t.did ⟨kk,nn,ss,sh⟩:=⟨_,rfl⟩
    rw [←hT]at CA
    clear hT
    go_wp2_with (go_at_call 11;rw [←HW0.out];refine CA.out.mono ?_;rintro e w5 ⟨rfl,hB5,hS5⟩;have B5:=hid hB5;have S5:=hid hS5;clear hB5 hS5)
    go_roundg (gk - 1)
    case measure=>omega
    case rel=>
     refine ⟨i+1,T,by omega,by simp,hid (B5.out.less (fun _ h=>Or.inl h)),hid ?_,hid ?_⟩
     ·exact (HST.out.trans (fr_below HB0.out)).trans (S5.out.less (fun b h=>Or.inl (HOO.out b h)))
     ·exact ROW.out.stay (HX0.out.trans (S5.out.less (fun _ h=>Or.inl h)))
  ·have hiL':¬(i:Int)<(L:Int):=by omega
   obtain ⟨SS,VV,hA⟩:=HB.out
   have hps:t.pages.length≤100:=by have h1:=hA.tb.ls;have h2:=hA.tb.ln;unfold RS.pages;split<;>omega
   obtain ⟨N,hN⟩:∃ N,N=t.pages.length:=⟨_,rfl⟩
   obtain ⟨M,hM⟩:∃ M,M=t.sure.length:=⟨_,rfl⟩
   have C20:=hid (pages_keep hA.prg (by omega) (by omega))
   rw [←hN]at C20 hps
   have HN:=hid hN;have HM:=hid hM
   have hms:M≤100:=by have h1:=hA.tb.ls;omega
   have RF:=hid hA.ref
   clear hN hM hA HB ROW
   have ONCE:Hid True:=hid trivial
   cases hbz:t.busy with
   | false=>
    go_wp2_with (first
     | (go_at_call 20;refine C20.out.mono ?_;rintro e w5 ⟨ao5,cp5,R5,rfl,hr5,hc5,hp5,hR5,hk5⟩;have X5:=hid hr5;have L5:=hid hc5;have P5:=hid hp5;have RR:=hid hR5;have RF5:=hid (RF.out.rok2 hk5 (fun _ h=>h));have ST5:=hid (HST.out.trans (stay_of hk5 (fun b hb=>Or.inr (Or.inr (HOO.out b hb)))));clear hr5 hc5 hp5 hR5 hk5 C20)
     | (go_at_call 10;refine (reopen2 P5.out (by omega)).mono ?_;rintro e w6 ⟨p2,rfl,hp6,hk6⟩;have P6:=hid hp6;have X6:=hid (X5.out.rok hk6 (fun _ h=>h));have RF6:=hid (RF5.out.rok2 hk6 RR.out);have ST6:=hid (ST5.out.trans (stay_of hk6 (fun b hb=>RR.out b (Or.inr (Or.inr (HOO.out b hb))))));clear hp6 hk6)
     | (go_at_call 20;have hc:Calls Tryz.prog 20 #[.pointer (some ⟨p2,0,none⟩)] w6 (fun e w'=>∃ ao cp,e=.returned (.tuple #[.slice ao M cp,.bool true])∧RdP w' ao M t.sure∧M≤cp∧Rok R5 w6 w'):=(by rw [HM.out];exact pages_any P6.out (by show t.sure.length≤400;rw [←HM.out];omega) (by omega));refine hc.mono ?_;clear hc;rintro e w7 ⟨ao7,cp7,rfl,hr7,hc7,hk7⟩;have X7:=hid (X6.out.rok hk7 (fun _ h=>h));have Y7:=hid hr7;have L7:=hid hc7;have RF7:=hid (RF6.out.rok2 hk7 RR.out);have ST7:=hid (ST6.out.trans (stay_of hk7 (fun b hb=>RR.out b (Or.inr (Or.inr (HOO.out b hb))))));have y0:=RF7.out.cells.1;have y1:=RF7.out.cells.2.1;have y3:=RF7.out.cells.2.2.2.1;rw [hbz]at y3;obtain ⟨asx,cs,es,hps7,hls7⟩:=rdP_of RF7.out.sure;rw [←HM.out]at es hps7 hls7;obtain ⟨an,cn,en,hpn7,hln7⟩:=rdP_of RF7.out.pages;rw [←HN.out]at en hpn7 hln7;rw [es]at y0;have ev:VV.pages t=VV.sv:=(by unfold RV.pages;rw [hbz];rfl);rw [ev,es]at en;have hmn:M=N:=(by simp only [Value.slice.injEq]at en;exact en.2.1);(simp only [Value.slice.injEq]at en);obtain ⟨rfl,-,rfl⟩:=en;subst hmn;clear ev;have PS7:=hid hps7;have LS7:=hid hls7;have PN7:=hid hpn7;have LN7:=hid hln7;clear hr7 hc7 hk7 es hps7 hls7 hpn7 hln7;(try clear en))
     | (go_at_call 21;clear ONCE;refine (pages_same ao5 asx M cp5 cs t.pages w7 X7.out.rdP PN7.out (by omega) L5.out LN7.out).mono ?_;rintro e w8 ⟨rfl,hb8⟩;have B8:=hid hb8;have z0:=keep_old hb8 y0;clear hb8)
     | (go_at_call 21;refine (pages_same ao7 asx M cp7 cs t.sure w8 (Y7.out.keep B8.out) (PS7.out.keep B8.out) (by omega) L7.out LS7.out).mono ?_;rintro e w9 ⟨rfl,hb9⟩;have ST9:=hid ((ST7.out.trans (fr_below B8.out)).trans (fr_below hb9));clear hb9)
     | (go_at_call 8;refine (lives_any w9 (HT.out.keep (old_below ST9.out)) (by have:=H0.out;have:=(old_below ST9.out).size;omega)).mono ?_;rintro e w10 ⟨rfl,hb10⟩;have ST10:=hid (ST9.out.trans (fr_below hb10));clear hb10))
    go_ret
    exact ⟨rfl,old_below ST10.out⟩
   | true=>
    go_wp2_with (first
     | (go_at_call 20;refine C20.out.mono ?_;rintro e w5 ⟨ao5,cp5,R5,rfl,hr5,hc5,hp5,hR5,hk5⟩;have X5:=hid hr5;have L5:=hid hc5;have P5:=hid hp5;have RR:=hid hR5;have RF5:=hid (RF.out.rok2 hk5 (fun _ h=>h));have ST5:=hid (HST.out.trans (stay_of hk5 (fun b hb=>Or.inr (Or.inr (HOO.out b hb)))));clear hr5 hc5 hp5 hR5 hk5 C20)
     | (go_at_call 10;refine (reopen2 P5.out (by omega)).mono ?_;rintro e w6 ⟨p2,rfl,hp6,hk6⟩;have P6:=hid hp6;have X6:=hid (X5.out.rok hk6 (fun _ h=>h));have RF6:=hid (RF5.out.rok2 hk6 RR.out);have ST6:=hid (ST5.out.trans (stay_of hk6 (fun b hb=>RR.out b (Or.inr (Or.inr (HOO.out b hb))))));clear hp6 hk6)
     | (go_at_call 20;have hc:Calls Tryz.prog 20 #[.pointer (some ⟨p2,0,none⟩)] w6 (fun e w'=>∃ ao cp,e=.returned (.tuple #[.slice ao M cp,.bool true])∧RdP w' ao M t.sure∧M≤cp∧Rok R5 w6 w'):=(by rw [HM.out];exact pages_any P6.out (by show t.sure.length≤400;rw [←HM.out];omega) (by omega));refine hc.mono ?_;clear hc;rintro e w7 ⟨ao7,cp7,rfl,hr7,hc7,hk7⟩;have X7:=hid (X6.out.rok hk7 (fun _ h=>h));have Y7:=hid hr7;have L7:=hid hc7;have RF7:=hid (RF6.out.rok2 hk7 RR.out);have ST7:=hid (ST6.out.trans (stay_of hk7 (fun b hb=>RR.out b (Or.inr (Or.inr (HOO.out b hb))))));have y0:=RF7.out.cells.1;have y1:=RF7.out.cells.2.1;have y3:=RF7.out.cells.2.2.2.1;rw [hbz]at y3;obtain ⟨asx,cs,es,hps7,hls7⟩:=rdP_of RF7.out.sure;rw [←HM.out]at es hps7 hls7;obtain ⟨an,cn,en,hpn7,hln7⟩:=rdP_of RF7.out.pages;rw [←HN.out]at en hpn7 hln7;have ev:VV.pages t=VV.nv:=(by unfold RV.pages;rw [hbz];rfl);rw [ev]at en;rw [en]at y1;rw [es]at y0;clear ev;have PS7:=hid hps7;have LS7:=hid hls7;have PN7:=hid hpn7;have LN7:=hid hln7;clear hr7 hc7 hk7 es hps7 hls7 hpn7 hln7;(try clear en))
     | (go_at_call 21;clear ONCE;refine (pages_same ao5 an N cp5 cn t.pages w7 X7.out.rdP PN7.out (by omega) L5.out LN7.out).mono ?_;rintro e w8 ⟨rfl,hb8⟩;have B8:=hid hb8;have z0:=keep_old hb8 y0;clear hb8)
     | (go_at_call 21;refine (pages_same ao7 asx M cp7 cs t.sure w8 (Y7.out.keep B8.out) (PS7.out.keep B8.out) (by omega) L7.out LS7.out).mono ?_;rintro e w9 ⟨rfl,hb9⟩;have ST9:=hid ((ST7.out.trans (fr_below B8.out)).trans (fr_below hb9));clear hb9)
     | (go_at_call 8;refine (lives_any w9 (HT.out.keep (old_below ST9.out)) (by have:=H0.out;have:=(old_below ST9.out).size;omega)).mono ?_;rintro e w10 ⟨rfl,hb10⟩;have ST10:=hid (ST9.out.trans (fr_below hb10));clear hb10))
    go_ret
    exact ⟨rfl,old_below ST10.out⟩
end
end Go.Proofs.YtadhdedjdgjboaaGreatDoor
