/- The law FreeOnce returns true and turns nothing that was there, whatever it is called with; the walk alone. -/
import Derived.Test.YtgjgkpnjchflaaaGreatDoorH42
import Derived.Test.YtgjgkpnjchflaaaGreatDoorH05
import Derived.WalkMore
import Derived.Deep.LoopGhost
set_option maxHeartbeats 16000000
set_option maxRecDepth 20000
namespace Go.Proofs.YtgjgkpnjchflaaaGreatDoor
section
open Go.RowKit Go.Maps
open Dsk (gt hid undrew keep_old keep_cell lt_cell Rd)
open Cch (Fr wpAnyK wpAnyK_done wp_region_K)
theorem once_long(n:Int)(lo:Option Addr)(L C:Nat)(w:World)(hT:Jrn.Tab w)(h0:0<w.heap.size)(hL:300<L) :
  Calls Tryz.prog 4 #[.int .u16 n,.slice lo L C] w fun e w'=>e=.returned (.bool true)∧Below w.heap.size w w':=by
 have h1:(300:Int)<(L:Int):=by omega
 have CL:=hid (lives_any w hT h0)
 clear hT h0
 go_enter Tryz.func4,Tryz.ntmps4
 go_wp2_with (go_at_call 7;refine CL.out.mono ?_;rintro e w3 ⟨rfl,hb3⟩;replace hb3:=hid hb3)
 go_ret
 exact ⟨rfl,hb3.out⟩
theorem once_yes(n:Nat)(lo:Option Addr)(L C:Nat)(G:Nat→Nat)(w:World)(hT:Jrn.Tab w)(h0:0<w.heap.size)(h:U16V w lo L G)(hL:L≤300) :
  Calls Tryz.prog 4 #[.int .u16 (n:Int),.slice lo L C] w fun e w'=>e=.returned (.bool true)∧Below w.heap.size w w':=by
 have h1:¬(300:Int)<(L:Int):=by omega
 have H:=hid h;have HT:=hid hT;have H0:=hid h0
 have C8:=hid (fresh_any w hT h0)
 clear h hT h0
 have mk:=fun W=>run_makeMap (P:=Tryz.prog) 49 W
 obtain ⟨M,hM⟩:∃ M,M=n % 400:=⟨_,rfl⟩
 have hM4:M<400:=by omega
 have km:∀ z:Int,z=(n:Int)→Int.tmod z 400=(M:Int):=fun z hz=>by rw [hz,hM];simp [Int.tmod]
 have k1:=km (n:Int) rfl
 have k2:IntKind.u16.wrap (M:Int)=(M:Int):=by simp [IntKind.wrap,IntKind.bits,IntKind.signed];omega
 clear km hM
 go_enter Tryz.func4,Tryz.ntmps4
 go_wp2_with (go_at_call 8;refine C8.out.mono ?_;rintro e w1 ⟨p,hb,rfl,hH1,hhb,hP1,hok1⟩;have O1:=hid (OS.start hH1 hhb hP1 hok1);clear hH1 hhb hP1 hok1)
 obtain ⟨W1,hW1⟩:∃ W1,W1=w1.alloc (.map #[] 0):=⟨_,rfl⟩
 obtain ⟨m,hm⟩:∃ m,m=w1.heap.size:=⟨_,rfl⟩
 obtain ⟨q,hq⟩:∃ q,q=w.heap.size:=⟨_,rfl⟩
 rw [←hW1,←hm,←hq]at O1
 rw [←hW1]
 (try rw [←hm])
 clear hW1 hm mk C8
 go_loopg [9,10] M (fun k v9 v10 W=>∃ (i:Nat) (ao:Option Addr) (cp:Nat) (l:List Nat),i+k=M∧v10=.int .i64 (i:Int)∧v9=.slice ao i cp∧Hid (i=l.length)∧Hid (Parted l [] (i+1))∧Hid (OS (3+2*i) w hb p q m (.slice ao i cp) l l [] (i+1) W))
 case atStart=>exact ⟨0,none,0,[],by omega,rfl,rfl,hid rfl,hid ⟨by simp [flat],(fun y hy=>by cases hy),rfl⟩,O1⟩
 case round=>
  obtain ⟨i,ao,cp,l,hik,rfl,rfl,HL1,HP1,OA⟩:=hrel
  clear O1
  by_cases hiM:i<M
  ·have hiM':(i:Int)<(M:Int):=by omega
   have CT:=hid (OA.out.take (by omega) (by omega))
   have hxl:i+1+1∉l:=fun hx=>by have:=(HP1.out.rg _ hx).2;omega
   have HX:=hid hxl
   clear hxl
   obtain ⟨X,hX⟩:∃ X,X=i+1+1:=⟨_,rfl⟩
   rw [←hX]at CT HX
   have hx2:¬(X:Int)<2:=by omega
   have HXE:=hid hX
   clear hX
   go_wp2_with (first
    | (go_at_call 15;refine CT.out.mono ?_;rintro e w2 ⟨rfl,hO2⟩;have O2:=hid hO2;have lk:=hO2.map.look (k:=X) (by have:=HXE.out;omega);rw [decide_eq_false HX.out]at lk;obtain ⟨w3,up3,hm3,ht3⟩:=hO2.map.put (k:=X) (by have:=HXE.out;omega) (by have:=HL1.out;omega) HX.out;have O3:=hid (hO2.turn hm3 ht3);have A3:=hid (show Below w3.heap.size w3 (w3.alloc (.cells #[.int .i64 (X:Int)] 3)) from Below.alloc (Below.refl _ _) (Nat.le_refl _) _);have SR:=hid (lit_src w3 [.int .i64 (X:Int)] 3 (by intro x hx;simp at hx;subst hx;rfl));clear hO2 hm3 ht3)
    | ((with_reducible refine Dsk.here_op 61 ?_);refine Cch.wpList_app rfl (.tmp 58) (.tmp 60) el41 rfl (.slice ao i cp) i _ rfl (by have:=(O3.out.below A3.out).row;rw [←HL1.out]at this;exact this) (some ⟨w3.heap.size,0,none⟩) 1 1 [.int .i64 (X:Int)] rfl SR.out (by omega) ?_;intro a4 c4 w4 ho4 hg4 ha4;have O4:=hid ((O3.out.below A3.out).app HL1.out ho4 hg4 ha4);clear ho4 hg4 ha4))
   go_roundg (gk - 1)
   case measure=>omega
   case rel=>
    refine ⟨i+1,a4,c4,l++[X],by omega,by simp,rfl,hid (by simp;exact HL1.out),hid ?_,hid (by have h5:=O4.out.up (K':=3+2*(i+1)) (by omega);rw [←HXE.out];exact h5)⟩
    rw [HXE.out];exact HP1.out.take
  ·have hiM':¬(i:Int)<(M:Int):=by omega
   obtain rfl:i=M:=by omega
   have OB0:=hid (OA.out.up (K':=1000) (by omega))
   clear OA
   go_wp2
   go_loopg [9,64] L (fun k v9 v64 W=>∃ (i2:Nat) (ao2:Option Addr) (cp2 n2:Nat) (l2:List Nat) (tr2:List (Nat×List Nat)),i2+k=L∧v64=.int .i64 (i2:Int)∧v9=.slice ao2 n2 cp2∧Hid (n2=l2.length)∧Hid (Parted l2 tr2 (i+1))∧Hid (OS (1000+500*i2) w hb p q m (.slice ao2 n2 cp2) l2 l2 tr2 (i+1) W))
   case atStart=>exact ⟨0,ao,cp,i,l,[],by omega,rfl,rfl,HL1,HP1,OB0⟩
   case round=>
    clear OB0 HP1 HL1
    obtain ⟨i2,ao2,cp2,n2,l2,tr2,hik2,rfl,rfl,HL2,HP2,OB⟩:=hrel
    by_cases hi2:i2<L
    ·obtain ⟨b,off,rfl,hU⟩:=H.out (by omega)
     have hi2':(i2:Int)<(L:Int):=by omega
     obtain ⟨c0,hg⟩:=(hU.keep (old_below OB.out.k)) i2 hi2
     clear hU
     generalize G i2=gv at c0 hg
     by_cases hn2:n2=0
     ·subst hn2
      have hF0:=HP2.out.cnt
      obtain ⟨F,hF⟩:∃ F,F=(flat tr2).length:=⟨_,rfl⟩
      have CA:=hid (OB.out.all (by omega) (by omega))
      rw [←hF]at CA hF0
      have HF:=hid hF;have HF0:=hid hF0
      have hF4:F≤400:=by omega
      clear hF hF0
      go_wp2_with (go_at_call 11;refine CA.out.mono ?_;rintro e w9 ⟨ao3,cp3,rfl,hO9⟩;have O9:=hid hO9;clear hO9)
      clear CA OB
      go_loopg [104] F (fun k v W=>∃ (j3:Nat),j3+k=F∧v=.int .i64 (j3:Int)∧Hid (OS (1000+500*i2+500) w hb p q m (.slice ao3 F cp3) (flat tr2) (l2++(flat tr2).take j3) tr2 (i+1) W))
      case atStart=>exact ⟨0,by omega,rfl,hid (by simpa using O9.out)⟩
      case round=>
       obtain ⟨j3,hjk,rfl,OC⟩:=hrel
       clear O9
       by_cases hj3:j3<F
       ·obtain ⟨g3,rfl,hnc3,hgl3,hcell3⟩:=OC.out.cell HF.out hj3
        have c3:=hcell3 j3 hj3
        have hj3':(j3:Int)<(F:Int):=by omega
        have hj4:j3<(flat tr2).length:=by rw [←HF.out];exact hj3
        have hxe:(flat tr2).getD j3 0=(flat tr2)[j3]:=by rw [List.getD,List.getElem?_eq_getElem hj4];rfl
        have htk:(flat tr2).take (j3+1)=(flat tr2).take j3++[(flat tr2).getD j3 0]:=by rw [List.take_add_one,List.getD,List.getElem?_eq_getElem hj4];rfl
        have hxn:(flat tr2).getD j3 0∉l2++(flat tr2).take j3:=HP2.out.fresh hj4
        have hxr:(flat tr2).getD j3 0≤i+1:=by rw [hxe];exact OC.out.range _ (List.getElem_mem _)
        have HTK:=hid htk;have HXN:=hid hxn;have HXR:=hid hxr
        clear htk hxn hxr hxe hcell3 hj4
        generalize (flat tr2).getD j3 0=X3 at c3 HTK HXN HXR
        have lk:=OC.out.map.look (k:=X3) (by have:=HXR.out;omega)
        rw [decide_eq_false HXN.out]at lk
        have hll:(l2++(flat tr2).take j3).length≤100000:=by rw [List.length_append,List.length_take];have h1:=HF0.out;omega
        obtain ⟨w10,up10,hm10,ht10⟩:=OC.out.map.put (k:=X3) (by have:=HXR.out;omega) (by omega) HXN.out
        have O10:=hid (OC.out.turn hm10 ht10)
        clear hm10 ht10 hll
        go_wp2
        go_roundg (gk - 1)
        case measure=>omega
        case rel=>
         refine ⟨j3+1,by omega,by simp,hid ?_⟩
         rw [HTK.out,←List.append_assoc];exact O10.out
       ·have hj3':¬(j3:Int)<(F:Int):=by omega
        have hjf:j3=F:=by omega
        have hta:(flat tr2).take j3=flat tr2:=by rw [hjf,HF.out,List.take_length]
        have hln:(l2++(flat tr2).take j3).length=i:=by rw [hta,List.length_append,←HF.out];have h1:=HF0.out;omega
        have ln:∀ ty,(Builtin.len_ #[49] ty #[.map (some m)]).run Tryz.prog wr=.ok (.int .i64 (i:Int)) wr:=fun ty=>by rw [OC.out.map.len ty,hln]
        have CPg:=hid OC.out.pages
        have CL:=hid (fun W (hW:Below wr.heap.size wr W)=>lives_any W ((HT.out.keep (old_below OC.out.k)).keep hW) (by have h1:=(old_below OC.out.k).size;have h2:=hW.size;have h3:=H0.out;omega))
        have HOK:=hid (old_below OC.out.k)
        clear hta hln OC hjf
        go_wp2_with (first
         | (go_at_call 10;refine CPg.out.mono ?_;rintro e w11 ⟨rfl,hb11⟩;have B11:=hid hb11;clear hb11)
         | (go_at_call 7;refine (CL.out w11 B11.out).mono ?_;rintro e w12 ⟨rfl,hb12⟩;have B12:=hid (gt B11.out hb12);clear hb12))
        go_ret
        exact ⟨rfl,gt HOK.out B12.out⟩
     ·have hn2':¬(n2:Int)=0:=by omega
      obtain ⟨j,hj⟩:∃ j,j=gv % n2:=⟨_,rfl⟩
      have hjn:j<n2:=by rw [hj];exact Nat.mod_lt _ (by omega)
      have kj:Int.tmod (gv:Int) (n2:Int)=(j:Int):=by rw [hj];simp [Int.tmod]
      have hn4:n2≤400:=by have h1:=HP2.out.cnt;have h2:=HL2.out;omega
      obtain ⟨g,rfl,hnc,hgl,hcell⟩:=OB.out.cell HL2.out hjn
      have c1:=hcell j hjn
      have hjn':(j:Int)<(n2:Int):=by omega
      have hxm:l2.getD j 0∈l2:=by rw [List.getD,List.getElem?_eq_getElem (by rw [←HL2.out];exact hjn)];exact List.getElem_mem _
      have HXR:=hid (HP2.out.rg _ hxm)
      have HXF:=hid (HP2.out.out hxm)
      have HPO:=hid (perm_out (l:=l2) (i:=j) (by rw [←HL2.out];exact hjn))
      clear hj hcell hxm
      generalize l2.getD j 0=X2 at c1 HXR HXF HPO
      go_upto_region 22 with fail
      have hc1:=cut_hi g n2 cp2 j (by omega)
      have hc2:∀ W,(Instr.slice 33 (.slice (some ⟨g,0,none⟩) n2 cp2) (some (.int .i64 ((j:Int)+1))) none none).run Tryz.prog W=.ok (.slice (some ⟨g,if cp2=j+1 then 0 else j+1,none⟩) (n2 - (j+1)) (cp2 - (j+1))) W:=fun W=>by
       rw [show ((j:Int)+1)=((j+1:Nat):Int) by omega];exact cut_lo g n2 cp2 (j+1) (by omega) W
      refine wp_region_K (S:=fun _=>True) (fun _=>false) (by kernel_rfl) trivial (fun hHeld=>?_)
      refine gkp 1 ?_
      refine gkp 2 ?_
      refine gkp 3 ?_
      refine gkp 5 ?_
      refine gkp 6 ?_
      refine gkp 7 ?_
      have kw:IntKind.i64.wrap ((j:Int)+1)=((j+1:Nat):Int):=by rw [IntWalk.i64_in _ ⟨by omega,by omega⟩];omega
      obtain ⟨of,hof⟩:∃ of,of=(if cp2=j+1 then 0 else j+1):=⟨_,rfl⟩
      have HOF:=hid hof
      clear hof
      refine gkp 8 ?_ (v:=.slice (some ⟨g,of,none⟩) (n2 - (j+1)) (cp2 - (j+1))) (h:=by intro W _;rw [HOF.out];go_simp;first |done |with_reducible rfl |(simp;split<;>rfl))
      refine gk1 0 (fun K hK=>?_)
      go_simp
      obtain ⟨Y1,hY1⟩:∃ Y1,Y1=(wr.alloc (.cells #[] 3)).drew:=⟨_,rfl⟩
      rw [←hY1]
      have B1:=hid (show Below wr.heap.size wr Y1 by rw [hY1];exact (Below.alloc (Below.refl _ _) (Nat.le_refl _) _).drew)
      have R1:=hid (show Y1.ownsRow 0 3 1 (.slice (some ⟨wr.heap.size,0,none⟩) 0 0) 0 [] by rw [hY1];exact rr_base (World.ownsRow_made wr #[] 0 (Nat.le_refl _) (by decide) rfl) (Nat.zero_le _))
      have S1:=hid (src_keep (OB.out.src HL2.out) B1.out)
      clear hY1
      refine hK.out _ _ trivial (fun hHeld=>?_)
      clear hK K
      (try simp only [Act.put,sA,sZ,sS])
      refine gk1 4 (fun K hK=>?_)
      refine Cch.step_app rfl (.tmp 80) (.tmp 83) el41 rfl (.slice (some ⟨wr.heap.size,0,none⟩) 0 0) 0 [] rfl R1.out (some ⟨g,0,none⟩) j cp2 ((zI l2).take j) rfl (src_hi S1.out (by omega)) (by omega) ?_
      intro a5 c5 w5 ho5 hg5 ha5
      have B5:=hid (gt_new B1.out hg5 (Nat.le_refl _))
      have N5:=hid (show ∀ k,(Value.slice a5 (0+j) c5).ownBlock=some k→wr.heap.size≤k from own_new B1.out (Nat.le_refl _) ha5)
      have R5:=hid ho5
      have S5:=hid (src_keep (OB.out.src HL2.out) B5.out)
      clear ho5 hg5 ha5
      refine hK.out _ _ trivial (fun hHeld=>?_)
      clear hK K
      (try simp only [Act.put,sA,sZ,sS])
      refine gk1 9 (fun K hK=>?_)
      refine Cch.step_app rfl (.tmp 84) (.tmp 88) el41 rfl (.slice a5 (0+j) c5) (0+j) _ rfl R5.out (some ⟨g,of,none⟩) (n2 - (j+1)) (cp2 - (j+1)) ((zI l2).drop (j+1)) rfl (by rw [HOF.out];exact src_lo S5.out (by omega) hnc) (by omega) ?_
      intro a6 c6 w6 ho6 hg6 ha6
      obtain ⟨n3,hn3⟩:∃ n3,n3=0+j+(n2 - (j+1)):=⟨_,rfl⟩
      rw [←hn3]at ho6 ⊢
      have hz3:[]++(zI l2).take j++(zI l2).drop (j+1)=zI (l2.take j++l2.drop (j+1)):=by unfold zI;simp
      have hl3:(l2.take j++l2.drop (j+1)).length=n3:=by rw [List.length_append,List.length_take,List.length_drop,←HL2.out];omega
      have O6:=hid (OB.out.other (l':=l2.take j++l2.drop (j+1)) (v':=.slice a6 n3 c6) (gt_own B5.out hg6 N5.out) (by rw [hl3,←hz3];exact ho6) (own_new2 B5.out N5.out ha6))
      have HN3:=hid hl3
      have hn3':n3≤400:=by omega
      clear ho6 hg6 ha6 hz3 hl3 hn3
      refine hK.out _ _ trivial (fun hHeld=>?_)
      clear hK K
      (try simp only [Act.put,sA,sZ,sS])
      refine gkp 10 ?_
      refine wpAnyK_done (by kernel_rfl) ?_ _
      clear hHeld c0 c1 hc1 hc2 R1 R5 S1 S5 B1 B5 N5 OB
      generalize l2.take j++l2.drop (j+1)=l3 at *
      go_wp2_with (go_at_call 16;refine (O6.out.give HXR.out.1 HXR.out.2 HXF.out (by omega) (by omega)).mono ?_;rintro e w7 ⟨rfl,tr3,hp3,hO7⟩;obtain ⟨w8,del8,hm8,ht8⟩:=hO7.map.del HPO.out (List.nodup_append.1 HP2.out.nd).1 (by have:=HXR.out.2;omega);have O8:=hid (hO7.turn hm8 ht8);have HP3:=hid (HP2.out.give HPO.out hp3);clear hO7 hm8 ht8 hp3)
      go_roundg (gk - 1)
      case measure=>omega
      case rel=>
       exact ⟨i2+1,a6,c6,n3,l3,tr3,by omega,by simp,rfl,hid HN3.out.symm,HP3,hid (O8.out.up (by omega))⟩
    ·have hi2':¬(i2:Int)<(L:Int):=by omega
     have hF0:=HP2.out.cnt
     obtain ⟨F,hF⟩:∃ F,F=(flat tr2).length:=⟨_,rfl⟩
     have CA:=hid (OB.out.all (by omega) (by omega))
     rw [←hF]at CA hF0
     have HF:=hid hF;have HF0:=hid hF0
     have hF4:F≤400:=by omega
     clear hF hF0
     go_wp2_with (go_at_call 11;refine CA.out.mono ?_;rintro e w9 ⟨ao3,cp3,rfl,hO9⟩;have O9:=hid hO9;clear hO9)
     clear CA OB
     go_loopg [104] F (fun k v W=>∃ (j3:Nat),j3+k=F∧v=.int .i64 (j3:Int)∧Hid (OS (1000+500*i2+500) w hb p q m (.slice ao3 F cp3) (flat tr2) (l2++(flat tr2).take j3) tr2 (i+1) W))
     case atStart=>exact ⟨0,by omega,rfl,hid (by simpa using O9.out)⟩
     case round=>
      obtain ⟨j3,hjk,rfl,OC⟩:=hrel
      clear O9
      by_cases hj3:j3<F
      ·obtain ⟨g3,rfl,hnc3,hgl3,hcell3⟩:=OC.out.cell HF.out hj3
       have c3:=hcell3 j3 hj3
       have hj3':(j3:Int)<(F:Int):=by omega
       have hj4:j3<(flat tr2).length:=by rw [←HF.out];exact hj3
       have hxe:(flat tr2).getD j3 0=(flat tr2)[j3]:=by rw [List.getD,List.getElem?_eq_getElem hj4];rfl
       have htk:(flat tr2).take (j3+1)=(flat tr2).take j3++[(flat tr2).getD j3 0]:=by rw [List.take_add_one,List.getD,List.getElem?_eq_getElem hj4];rfl
       have hxn:(flat tr2).getD j3 0∉l2++(flat tr2).take j3:=HP2.out.fresh hj4
       have hxr:(flat tr2).getD j3 0≤i+1:=by rw [hxe];exact OC.out.range _ (List.getElem_mem _)
       have HTK:=hid htk;have HXN:=hid hxn;have HXR:=hid hxr
       clear htk hxn hxr hxe hcell3 hj4
       generalize (flat tr2).getD j3 0=X3 at c3 HTK HXN HXR
       have lk:=OC.out.map.look (k:=X3) (by have:=HXR.out;omega)
       rw [decide_eq_false HXN.out]at lk
       have hll:(l2++(flat tr2).take j3).length≤100000:=by rw [List.length_append,List.length_take];have h1:=HF0.out;omega
       obtain ⟨w10,up10,hm10,ht10⟩:=OC.out.map.put (k:=X3) (by have:=HXR.out;omega) (by omega) HXN.out
       have O10:=hid (OC.out.turn hm10 ht10)
       clear hm10 ht10 hll
       go_wp2
       go_roundg (gk - 1)
       case measure=>omega
       case rel=>
        refine ⟨j3+1,by omega,by simp,hid ?_⟩
        rw [HTK.out,←List.append_assoc];exact O10.out
      ·have hj3':¬(j3:Int)<(F:Int):=by omega
       have hjf:j3=F:=by omega
       have hta:(flat tr2).take j3=flat tr2:=by rw [hjf,HF.out,List.take_length]
       have hln:(l2++(flat tr2).take j3).length=i:=by rw [hta,List.length_append,←HF.out];have h1:=HF0.out;omega
       have ln:∀ ty,(Builtin.len_ #[49] ty #[.map (some m)]).run Tryz.prog wr=.ok (.int .i64 (i:Int)) wr:=fun ty=>by rw [OC.out.map.len ty,hln]
       have CPg:=hid OC.out.pages
       have CL:=hid (fun W (hW:Below wr.heap.size wr W)=>lives_any W ((HT.out.keep (old_below OC.out.k)).keep hW) (by have h1:=(old_below OC.out.k).size;have h2:=hW.size;have h3:=H0.out;omega))
       have HOK:=hid (old_below OC.out.k)
       clear hta hln OC hjf
       go_wp2_with (first
        | (go_at_call 10;refine CPg.out.mono ?_;rintro e w11 ⟨rfl,hb11⟩;have B11:=hid hb11;clear hb11)
        | (go_at_call 7;refine (CL.out w11 B11.out).mono ?_;rintro e w12 ⟨rfl,hb12⟩;have B12:=hid (gt B11.out hb12);clear hb12))
       go_ret
       exact ⟨rfl,gt HOK.out B12.out⟩
end
end Go.Proofs.YtgjgkpnjchflaaaGreatDoor
