/- A map that tells which numbers are one's own; no statement of the seat is proved here. -/
import Derived.Test.YtgjgkpnjchflaaaGreatDoorS38
import Derived.Test.YtgjgkpnjchflaaaGreatDoorS39
import Derived.Test.YtgjgkpnjchflaaaGreatDoorS42
set_option maxHeartbeats 16000000
set_option maxRecDepth 20000
namespace Go.Proofs.YtgjgkpnjchflaaaGreatDoor
section
open Go.RowKit Go.Maps
open Cch (Fr key_int KD lit_ne)
section
variable {arm:Prop} {room croom K:Nat} {p q:Nat} {R:Nat→Prop} {t:RS} {w:World}
end
end
section
open Go.RowKit Go.Maps
open Dsk (gt hid undrew keep_old keep_cell lt_cell Rd)
open Cch (Fr)
open Jrn (rootN)
def Q4(w:World)(hb m:Nat):Nat→Prop:=Plus (Plus (Old w) hb) m
section
variable {K N:Nat} {w W W':World} {hb p q m:Nat} {v:Value} {l S:List Nat} {tr:List (Nat×List Nat)}
end
end
section
open Go.RowKit Go.Maps
open Dsk (gt hid undrew keep_old keep_cell lt_cell Rd)
open Cch (Fr)
open Jrn (rootN)
section
variable {K N:Nat} {w W W':World} {hb p q m:Nat} {v:Value} {l S:List Nat} {tr:List (Nat×List Nat)}
end
theorem cut_hi(g n c i:Nat)(h1:i≤c)(W:World):(Instr.slice 33 (.slice (some ⟨g,0,none⟩) n c) none (some (.int .i64 (i:Int))) none).run Tryz.prog W=.ok (.slice (some ⟨g,0,none⟩) i c) W:=by
 rw [run_slice_h (P:=Tryz.prog) (t:=33) (a:=_) (len:=n) (cap:=c) (ht:=by kernel_rfl) (kh:=.i64) (h:=(i:Int)) (h0:=by omega) (h2:=by omega)]
 have e:(sizeOf (Tryz.prog.elem 33)).run Tryz.prog W=.ok 1 W:=by kernel_rfl
 rw [e]
 simp [sliced,Result.andThen,Addr.add]
theorem cut_lo(g n c i:Nat)(h1:i≤n)(W:World):(Instr.slice 33 (.slice (some ⟨g,0,none⟩) n c) (some (.int .i64 (i:Int))) none none).run Tryz.prog W=.ok (.slice (some ⟨g,if c=i then 0 else i,none⟩) (n - i) (c - i)) W:=by
 rw [run_slice_l (P:=Tryz.prog) (t:=33) (a:=_) (len:=n) (cap:=c) (ht:=by kernel_rfl) (kl:=.i64) (l:=(i:Int)) (h0:=by omega) (h1:=by omega)]
 have e:(sizeOf (Tryz.prog.elem 33)).run Tryz.prog W=.ok 1 W:=by kernel_rfl
 rw [e]
 by_cases h:c=i
 ·simp [sliced,Result.andThen,h]
 ·simp [sliced,Result.andThen,h,Addr.add]
  omega
variable {xs:List Value} {g n c i:Nat} {W:World}
theorem src_hi(h:Cch.Src W (some ⟨g,0,none⟩) n c xs)(hi:i≤n):Cch.Src W (some ⟨g,0,none⟩) i c (xs.take i):=by
 refine ⟨by rw [List.length_take,h.len];omega,fun e=>(by cases e),fun ad e j u hu=>?_,fun u hu=>h.one u (List.mem_of_mem_take hu)⟩
 rw [List.getElem?_take]at hu
 split at hu
 ·exact h.at_ ad e j u hu
 ·cases hu
theorem src_lo(h:Cch.Src W (some ⟨g,0,none⟩) n c xs)(hi:i≤n)(hc:n≤c):Cch.Src W (some ⟨g,if c=i then 0 else i,none⟩) (n - i) (c - i) (xs.drop i):=by
 refine ⟨by rw [List.length_drop,h.len],fun e=>(by cases e),fun ad e j u hu=>?_,fun u hu=>h.one u (List.mem_of_mem_drop hu)⟩
 rw [List.getElem?_drop]at hu
 have h1:=h.at_ _ rfl (i+j) u hu
 have h2:i+j<n:=by rw [←h.len];exact (List.getElem?_eq_some_iff.1 hu).1
 obtain rfl:=Option.some.inj e
 rw [if_neg (by omega),Addr.add_lit]
 rw [Addr.add_lit]at h1
 simpa using h1
variable {ao:Option Addr}
theorem src_keep{W':World}(h:Cch.Src W ao n c xs)(hb:Below W.heap.size W W'):Cch.Src W' ao n c xs:=⟨h.len,h.no,fun ad e j u hu=>keep_old hb (h.at_ ad e j u hu),h.one⟩
variable {v:Value} {Y Z:World}
theorem gt_own(hb:Below W.heap.size W Y)(hg:Y.grownBy Z v.ownBlock)(hv:∀ k,v.ownBlock=some k→W.heap.size≤k):Below W.heap.size W Z:=hb.grown hg hb.size (fun j hj=>hv j hj)
theorem gt_new{k:Nat}(hb:Below W.heap.size W Y)(hg:Y.grownBy Z (Value.slice (some ⟨k,0,none⟩) n c).ownBlock)(hk:W.heap.size≤k):Below W.heap.size W Z:=gt_own hb hg (fun j hj=>by cases hj;exact hk)
theorem own_new2(hb:Below W.heap.size W Y)(hv:∀ k,v.ownBlock=some k→W.heap.size≤k)(ha:∀ a,ao=some a→(v.ownBlock=some a.block∨a.block=Y.heap.size)):∀ k,(Value.slice ao n c).ownBlock=some k→W.heap.size≤k:=by
 intro k hk
 cases ao with
 | none=>cases hk
 | some a=>
  cases hk
  rcases ha a rfl with h |h
  ·exact hv _ h
  ·rw [h];exact hb.size
theorem own_new{b m d:Nat}(hb:Below W.heap.size W Y)(hk:W.heap.size≤b)(ha:∀ a,ao=some a→((Value.slice (some ⟨b,0,none⟩) m d).ownBlock=some a.block∨a.block=Y.heap.size)):∀ k,(Value.slice ao n c).ownBlock=some k→W.heap.size≤k:=own_new2 hb (fun k e=>by cases e;exact hk) ha
end
section
open Go.RowKit Go.Maps
open Dsk (gt hid undrew keep_old keep_cell lt_cell Rd op_at)
open Cch (Fr wpAnyK wpAnyK_done wp_region_K wpAnyK_ready AllReadyK)
section
variable {K:Nat} {O:Nat→Prop} {w W W':World} {hb p q hm:Nat} {ao:Option Addr} {n c N:Nat} {l ws:List Nat} {tr:List (Nat×List Nat)} {wd:List Int}
theorem FA.cell1{g i N2:Nat}{tr2:List (Nat×List Nat)}(h:FA K O w hb p q hm (some ⟨g,0,none⟩) n c l tr N ws tr2 N2 wd W)(hi:i<n):W.cell? ⟨g,i,none⟩=some (.int .i64 ((l.getD i 0:Nat):Int)):=by
 obtain ⟨g',e,hc⟩:=h.cell hi
 simp only [Option.some.injEq,Addr.mk.injEq,and_true]at e
 subst e
 exact hc i hi
theorem act_give0(I x:Int)(h:FA K O w hb p q hm ao 0 c l tr N (wsOf wd) tr N wd W)(hP:Parted l tr N)(hwd:∀ z∈wd,-9223372036854775808≤z∧z≤9223372036854775807) :
  Calls Tryz.prog 9 #[.pointer (some ⟨hb,0,none⟩),.pointer (some ⟨hm,0,none⟩),.slice ao 0 c,.agg #[.int .i64 1,.int .i64 I,.int .i64 x]] W (AR (K+3+4*(flat tr).length+3) O w hb p q hm (N+(flat tr).length+1)):=by
 have A0:=hid (h.below (show Below W.heap.size W (W.alloc (.cells #[.int .i64 1,.int .i64 I,.int .i64 x] 35)) from Below.alloc (Below.refl _ _) (Nat.le_refl _) _))
 have HP:=hid hP;have HWD:=hid hwd
 clear h hP hwd
 go_enter Tryz.func9,Tryz.ntmps9
 go_wp2
 go_ret2
 exact ⟨ao,0,c,l,tr,N,wd,rfl,A0.out.up (by omega),HP.out,by omega,HWD.out⟩
theorem act_give(I x:Int)(h:FA K O w hb p q hm ao n c l tr N (wsOf wd) tr N wd W)(hP:Parted l tr N)(hn0:0<n)(hN:N≤1000)(hK:K+20000≤490000)(hwd:∀ z∈wd,-9223372036854775808≤z∧z≤9223372036854775807) :
  Calls Tryz.prog 9 #[.pointer (some ⟨hb,0,none⟩),.pointer (some ⟨hm,0,none⟩),.slice ao n c,.agg #[.int .i64 1,.int .i64 I,.int .i64 x]] W (AR (K+3+4*(flat tr).length+3) O w hb p q hm (N+(flat tr).length+1)):=by
 obtain ⟨W0,hW0⟩:∃ W0,W0=W.alloc (boxA 1 I x):=⟨_,rfl⟩
 have B0:=hid (show Below W.heap.size W W0 by rw [hW0];exact Below.alloc (Below.refl _ _) (Nat.le_refl _) _)
 have hcl:=boxA_cells (W:=W) (k:=1) (I:=I) (x:=x)
 rw [←hW0]at hcl
 have A0:=hid (h.enter (g:=W.heap.size) B0.out (Nat.le_refl _) (lt_cell hcl.1))
 have hcnt:=hP.cnt
 have hln:=h.len
 have hfl:=flat_len tr
 have hn1:n≤1000:=by omega
 obtain ⟨X,hX⟩:∃ X:Nat,IntKind.u64.wrap I=(X:Int):=⟨(IntKind.u64.wrap I).toNat,by rw [IntKind.wrap_u64];omega⟩
 obtain ⟨i,hi⟩:∃ i,i=X % n:=⟨_,rfl⟩
 have hin:i<n:=by rw [hi];exact Nat.mod_lt _ hn0
 have km:Int.tmod (X:Int) (n:Int)=(i:Int):=by rw [hi];simp [Int.tmod]
 have kn:IntKind.u64.wrap (n:Int)=(n:Int):=by rw [IntKind.wrap_u64];omega
 have ki:IntKind.u64.wrap (i:Int)=(i:Int):=by rw [IntKind.wrap_u64];omega
 have kj:IntKind.i64.wrap (i:Int)=(i:Int):=IntWalk.i64_in _ ⟨by omega,by omega⟩
 have hnz:¬(n:Int)=0:=by omega
 have hin':(i:Int)<(n:Int):=by omega
 obtain ⟨g,rfl,hcell⟩:=A0.out.cell hn0
 obtain ⟨y,hy⟩:∃ y,y=l.getD i 0:=⟨_,rfl⟩
 have hyl:y∈l:=by rw [hy,List.getD,List.getElem?_eq_getElem (by omega)];exact List.getElem_mem _
 have hyr:=hP.rg y hyl
 have hyf:=hP.out hyl
 have hy0:=hcell i hin
 rw [←hy]at hy0
 have CP:=hid ((A0.out.below (Below.refl _ _).drew).prg (f:=16) (args:=#[.pointer (some ⟨hb,0,none⟩),.int .i64 (y:Int)]) (K':=K+6+(flat tr).length) (N':=N) (tr':=giveT y tr) (ws':=wsOf wd) (v:=.int .i64 0) (fun R t hs hl=>by have:=give_is hs hyr.1 (by rw [hl];exact hyr.2) hyf (by omega) (by omega);rw [hl]at this;exact this))
 have HP:=hid hP;have HW0:=hid hW0;have HK:=hid h.k;have HR:=hid h.range;have HWD:=hid hwd;have HLN:=hid hln;have HY:=hid hy;have HC:=hid h.cap;have HYR:=hid hyr
 have C0:=hid hy0
 have D0:=hid hcl
 clear hP hW0 h hwd hln hy hyl hyr hyf hcell hcl hi hy0
 unfold boxA at HW0
 go_enter Tryz.func9,Tryz.ntmps9
 go_upto_region 9 with fail
 rw [←HW0.out]
 have hs0:(fun X:World=>X.cell? ⟨g,i,none⟩=some (.int .i64 (y:Int))) W0.drew:=C0.out
 refine wp_region_K (S:=fun X=>X.cell? ⟨g,i,none⟩=some (.int .i64 (y:Int))) (fun _=>false) (by kernel_rfl) hs0 (fun hHeld=>?_)
 refine gkp 0 ?_
 refine gkp 1 ?_
 refine gkp 2 ?_
 refine gkp 3 ?_
 refine gkt 4 ?_
 refine gkp 6 ?_
 refine gkp 7 ?_
 refine gkp 8 ?_
 refine gkp 9 ?_
 refine gkt 10 ?_
 refine gk1 5 (fun K hK=>?_)
 go_simp
 go_at_call 16;refine CP.out.mono ?_;rintro e w1 ⟨rfl,hA1⟩;have A1:=hid hA1;have hR:w1.cell? ⟨g,i,none⟩=some (.int .i64 (y:Int)):=(by rw [HY.out];exact hA1.cell1 hin);have CM:=hid (hA1.ref (f:=28) (fun S hs=>mgive_any hs (by omega) HYR.out.1 HYR.out.2));clear hA1
 refine hK.out _ _ hR (fun hHeld=>?_)
 clear hK K
 (try simp only [Act.put,sA,sZ,sS])
 refine gk1 11 (fun K hK=>?_)
 go_simp
 go_at_call 28;refine CM.out.mono ?_;rintro e w2 ⟨rfl,hA2⟩;have A2:=hid hA2;have hR:w2.cell? ⟨g,i,none⟩=some (.int .i64 (y:Int)):=(by rw [HY.out];exact hA2.cell1 hin);clear hA2
 refine hK.out _ _ hR (fun hHeld=>?_)
 clear hK K
 (try simp only [Act.put,sA,sZ,sS])
 refine gkp 12 ?_
 refine gkp 13 ?_
 refine wpAnyK_done (by kernel_rfl) ?_ _
 clear hHeld hR hs0 CP CM
 go_upto_region 10 with fail
 have hcc:=HC.out
 have hc1:=cut_hi g n c i (by omega)
 have hc2:∀ W,(Instr.slice 33 (.slice (some ⟨g,0,none⟩) n c) (some (.int .i64 ((i:Int)+1))) none none).run Tryz.prog W=.ok (.slice (some ⟨g,if c=i+1 then 0 else i+1,none⟩) (n - (i+1)) (c - (i+1))) W:=fun W=>by
  rw [show ((i:Int)+1)=((i+1:Nat):Int) by omega];exact cut_lo g n c (i+1) (by omega) W
 refine wp_region_K (S:=fun _=>True) (fun _=>false) (by kernel_rfl) trivial (fun hHeld=>?_)
 refine gkp 1 ?_
 refine gkp 2 ?_
 refine gkp 3 ?_
 refine gkp 5 ?_
 refine gkp 6 ?_
 refine gkp 7 ?_
 have kw:IntKind.i64.wrap ((i:Int)+1)=((i+1:Nat):Int):=by rw [IntWalk.i64_in _ ⟨by omega,by omega⟩];omega
 obtain ⟨of,hof⟩:∃ of,of=(if c=i+1 then 0 else i+1):=⟨_,rfl⟩
 have HOF:=hid hof
 clear hof
 refine gkp 8 ?_ (v:=.slice (some ⟨g,of,none⟩) (n - (i+1)) (c - (i+1))) (h:=by intro W _;rw [HOF.out];go_simp;first |done |with_reducible rfl |(simp;split<;>rfl))
 refine gkp 10 ?_
 refine gk1 0 (fun K hK=>?_)
 go_simp
 obtain ⟨Y1,hY1⟩:∃ Y1,Y1=(w2.alloc (.cells #[] 3)).drew:=⟨_,rfl⟩
 rw [←hY1]
 have B1:=hid (show Below w2.heap.size w2 Y1 by rw [hY1];exact (Below.alloc (Below.refl _ _) (Nat.le_refl _) _).drew)
 have R1:=hid (show Y1.ownsRow 0 3 1 (.slice (some ⟨w2.heap.size,0,none⟩) 0 0) 0 [] by rw [hY1];exact rr_base (World.ownsRow_made w2 #[] 0 (Nat.le_refl _) (by decide) rfl) (Nat.zero_le _))
 have S1:=hid (src_keep A2.out.row B1.out)
 clear hY1
 refine hK.out _ _ trivial (fun hHeld=>?_)
 clear hK K
 (try simp only [Act.put,sA,sZ,sS])
 refine gk1 4 (fun K hK=>?_)
 refine Cch.step_app rfl (.tmp 68) (.tmp 71) el41 rfl (.slice (some ⟨w2.heap.size,0,none⟩) 0 0) 0 [] rfl R1.out (some ⟨g,0,none⟩) i c ((zI l).take i) rfl (src_hi S1.out (by omega)) (by omega) ?_
 intro a5 c5 w5 ho5 hg5 ha5
 have B5:=hid (gt_new B1.out hg5 (Nat.le_refl _))
 have N5:=hid (show ∀ k,(Value.slice a5 (0+i) c5).ownBlock=some k→w2.heap.size≤k from own_new B1.out (Nat.le_refl _) ha5)
 have R5:=hid ho5
 have S5:=hid (src_keep A2.out.row B5.out)
 clear ho5 hg5 ha5
 refine hK.out _ _ trivial (fun hHeld=>?_)
 clear hK K
 (try simp only [Act.put,sA,sZ,sS])
 refine gk1 9 (fun K hK=>?_)
 refine Cch.step_app rfl (.tmp 72) (.tmp 76) el41 rfl (.slice a5 (0+i) c5) (0+i) _ rfl R5.out (some ⟨g,of,none⟩) (n - (i+1)) (c - (i+1)) ((zI l).drop (i+1)) rfl (by rw [HOF.out];exact src_lo S5.out (by omega) hcc) (by omega) ?_
 intro a6 c6 w6 ho6 hg6 ha6
 obtain ⟨n3,hn3⟩:∃ n3,n3=0+i+(n - (i+1)):=⟨_,rfl⟩
 rw [←hn3]at ho6 ⊢
 clear hn3
 have B6:=hid (gt_own B5.out hg6 N5.out)
 have N6:=hid (own_new2 (n:=n3) (c:=c6) B5.out N5.out ha6)
 have R6:=hid ho6
 clear ho6 hg6 ha6
 refine hK.out _ _ trivial (fun hHeld=>?_)
 clear hK K
 (try simp only [Act.put,sA,sZ,sS])
 refine gkp 11 ?_
 refine gkp 12 ?_
 refine wpAnyK_done (by kernel_rfl) ?_ _
 clear hHeld
 have A6:=hid (A2.out.other (l':=l.take i++l.drop (i+1)) B6.out (by
  have e:zI (l.take i++l.drop (i+1)) = []++(zI l).take i++(zI l).drop (i+1):=by unfold zI;rw [List.nil_append,List.map_append,List.map_take,List.map_drop]
  rw [e];exact R6.out) N6.out)
 go_wp2
 go_ret2
 refine ⟨a6,n3,c6,l.take i++l.drop (i+1),giveT y tr,N,wd,rfl,(A6.out.leave (HK.out.below B0.out)).up (by omega),?_,?_,HWD.out⟩
 ·have hp:=perm_out (l:=l) (i:=i) (by rw [HLN.out];exact hin)
  rw [←HY.out]at hp
  exact HP.out.give hp (giveT_perm y tr)
 ·have:=(giveT_perm y tr).length_eq
  simp only [List.length_cons]at this
  omega
end
end
end Go.Proofs.YtgjgkpnjchflaaaGreatDoor
