/- A value is written: what is asked ahead, and the change itself; no statement of the seat is proved here. -/
import Derived.Test.YtneemfbnjkcflaaGreatDoorW41
set_option maxHeartbeats 16000000
set_option maxRecDepth 20000
namespace Go.Proofs.YtneemfbnjkcflaaGreatDoor
namespace Spl
open Go.RowKit Go.Maps
open Dsk (gt hid undrew keep_old keep_cell lt_cell)
open Jrn (Rd bs bs_length bs_one bs_get bs_get' bs_append rd_own Row5 putN numAt rootN Pv2)
open Cch (Fr hd_cell hd_frozen blk_set wpAnyK wpAnyK_done wp_region_K)
section
variable {arm:Prop} {room croom K:Nat} {p q:Nat} {R:Nat→Prop} {t:RS} {w:World}
variable {ws:List Nat} {hb:Nat}
theorem give_nox{z:Int}{tr:List (Nat×List Nat)}(h:HeapS arm room croom K w hb p q R t tr ws)(hz:z<2∨(t.now.length:Int)<z)(hn4:t.now.length≤4000)(hK:K+5000≤500000) :
  Calls Tryz.prog 45 #[.pointer (some ⟨hb,0,none⟩),.int .i64 z] w fun e w'=>e=.returned (.int .i64 2)∧PrgAt arm room croom (K+1+(flat tr).length) w' p q R t∧Rok R w w':=by
 have hpb:t.pages=t.now:=RS.pages_busy h.busy
 have CG:=hid (changing_yes hb h.prg h.heap h.busy (by rw [hpb];exact h.lay.ln) (by omega))
 rw [hpb,h.lay.root]at CG
 have CLi:=hid (fun W g cap RR B0 (hP:PrgAt arm room croom (K+1) W p q RR t) (hH:HeapAt W hb p) (h1:RR hb) (h2:Row5 W B0 g cap (rootN (firstOf tr) (flat tr).length ws))=>list_lay (R:=RR) hb g cap B0 ws tr hP hH h1 h.lay h.busy h2 hn4 (by omega))
 have CHs:=hid (fun W RR KK (hP:PrgAt arm room croom KK W p q RR t) (hH:HeapAt W hb p)=>has_any8 (R:=RR) hb z hP hH)
 rw [hpb,show (decide (1<z)&&decide (z≤(t.now.length:Int)))=false by rcases hz with h |h;rw [decide_eq_false (by omega)];rfl;rw [decide_eq_false (show ¬z≤_ by omega)];simp]at CHs
 have HS:=hid h;have HFL:=hid (flat_len tr)
 clear h hpb hz
 generalize (flat tr).length=LL at *
 unfold Pv2 at *
 go_enter Tryz.func45,Tryz.ntmps45
 go_wp2_with (first
  | (go_at_call 81;refine CG.out.mono ?_;rintro e w1 ⟨g,cap,rfl,hr1,hg1,hP1,hok1⟩;have B1:=hid (show Below w1.heap.size w1 (w1.alloc (.cells #[.int .i64 1,.slice (some ⟨g,0,none⟩) 512 cap] 70)) from Below.alloc (Below.refl _ _) (Nat.le_refl _) _);have R1:=hid (hr1.keep B1.out);have P1:=hid (hP1.new B1.out (Nat.le_refl _) (by simp));have K1:=hid hok1;have H1:=hid ((HS.out.heap.rok hok1 HS.out.mem).keep B1.out);clear hr1 hg1 hP1 hok1)
  | (go_at_call 31;refine (CLi.out _ g cap _ _ P1.out H1.out (Or.inl (Or.inl HS.out.mem)) R1.out).mono ?_;rintro e w2 ⟨ao,cp,rfl,hA⟩;have A2:=hid hA;have H2:=hid (H1.out.rok hA.k (Or.inl (Or.inl HS.out.mem)));clear hA)
  | (go_at_call 64;refine (CHs.out w2 _ _ A2.out.at_ H2.out).mono ?_;rintro e w3 ⟨rfl,hb3⟩;have B3:=hid hb3;clear hb3))
 go_ret
 exact ⟨rfl,(((A2.out.at_.less (fun b hb=>Or.inl (Or.inl hb))).keep B3.out).up (by have:=HFL.out;omega)),(((K1.out.below B1.out).then A2.out.k (fun b hb=>Or.inl (Or.inl hb))).below B3.out)⟩
theorem HeapS.moved{w':World}{K':Nat}{R':Nat→Prop}{tr:List (Nat×List Nat)}(h:HeapS arm room croom K w hb p q R t tr ws)(hP:PrgAt arm room croom K' w' p q R' t)(hH:HeapAt w' hb p)(hm:R' hb):HeapS arm room croom K' w' hb p q R' t tr ws:=⟨hP,hH,hm,h.lay,h.busy,h.sur⟩
theorem listed_yes{tr:List (Nat×List Nat)}(h:HeapS arm room croom K w hb p q R t tr ws)(hn4:t.now.length≤4000)(hK:K+10000≤500000)(hfl:(flat tr).length≤4000) :
  Calls Tryz.prog 21 #[.pointer (some ⟨hb,0,none⟩)] w fun e w'=>∃ ao cp,e=.returned (.tuple #[.slice ao (flat tr).length cp,.int .i64 0])∧w'.ownsRow w.heap.size 3 1 (.slice ao (flat tr).length cp) (flat tr).length (zI (flat tr))∧PrgAt arm room croom (K+2+2*(flat tr).length) w' p q (Own2 R (.slice ao (flat tr).length cp)) t∧Rok R w w':=by
 have C1:=hid (give_nox (z:=0) h (by omega) hn4 (by omega))
 have HS:=hid h
 have CA:=hid (fun W (hs:HeapS arm room croom (K+1+(flat tr).length) W hb p q R t tr ws)=>all_yes hs hn4 (by omega))
 have HFL:=hid (flat_len tr)
 clear h
 generalize hLL:(flat tr).length=LL at *
 have HLL:=hid hLL
 clear hLL
 go_enter Tryz.func21,Tryz.ntmps21
 go_wp2_with (first
  | (go_at_call 45;refine C1.out.mono ?_;rintro e w1 ⟨rfl,hP,hk⟩;have K1:=hid hk;have S1:=hid (HeapS.moved HS.out hP (HS.out.heap.rok hk HS.out.mem) HS.out.mem);clear hP hk)
  | (go_at_call 12;refine (CA.out w1 S1.out).mono ?_;rintro e w2 ⟨ao,cp,rfl,ho,hP,hk⟩;have O2:=hid ho;have P2:=hid hP;have K2:=hid hk;clear ho hP hk))
 go_ret2
 exact ⟨ao,cp,rfl,own_dn O2.out K1.out.size,P2.out.up (by have:=HFL.out;omega),K1.out.then K2.out (fun b hb=>hb)⟩
theorem whole24{Q:Ending→World→Prop}(h p0 p1 p2 p3:Value)(C:Calls Tryz.prog 24 #[p0,p1,p2,p3] w fun e w'=>∃ v,e=.returned (.int .i64 v)∧Q e w'):Calls Tryz.prog 22 #[h,.bool true,.func (.func 24) #[] #[p0,p1,p2,p3]] w Q:=by
 have CC:=hid C
 clear C
 go_enter Tryz.func22,Tryz.ntmps22
 go_wp2_with (go_at_call 24;refine CC.out.mono ?_;rintro e w1 ⟨v,rfl,hq⟩;have HQ:=hid hq;clear hq)
 exact HQ.out
structure WBx (W:World) (b0 b1 b2 b3 hb c bb bo m:Nat) (v2:Value):Prop where
 x0:W.heap[b0]? = some (.cells #[.pointer (some ⟨hb,0,none⟩)] 25 (0,0))
 x1:W.heap[b1]? = some (.cells #[.int .i64 (c:Int)] 3 (0,0))
 x2:W.heap[b2]? = some (.cells #[v2] 3 (0,0))
 x3:W.heap[b3]? = some (.cells #[.slice (some ⟨bb,bo,none⟩) m m] 34 (0,0))
theorem WBx.rok{R:Nat→Prop}{W W':World}{b0 b1 b2 b3 c bb bo m:Nat}{v2:Value}(h:WBx W b0 b1 b2 b3 hb c bb bo m v2)(hk:Rok R W W')(r0:R b0)(r1:R b1)(r2:R b2)(r3:R b3):WBx W' b0 b1 b2 b3 hb c bb bo m v2:=
 ⟨(hk.at_ r0 (Array.getElem?_eq_some_iff.1 h.x0).1).trans h.x0,(hk.at_ r1 (Array.getElem?_eq_some_iff.1 h.x1).1).trans h.x1,(hk.at_ r2 (Array.getElem?_eq_some_iff.1 h.x2).1).trans h.x2,(hk.at_ r3 (Array.getElem?_eq_some_iff.1 h.x3).1).trans h.x3⟩
theorem write1_yes(b0 b1 b2 b3 hb c bb bo m:Nat)(v2:Value)(xs ws:List Nat)(h:PrgAt arm room croom K w p q R t)(hh:HeapAt w hb p)(hR:R hb)(hx:WBx w b0 b1 b2 b3 hb c bb bo m v2)(r0:R b0)(r1:R b1)(r2:R b2)(r3:R b3)(rb:R bb)(n0:b2≠b0)(n3:b2≠b3)(nb:b2≠bb)(nh:b2≠hb)(hroot:t.now.getD 0 []=rootN 0 0 ws)(hbz:t.busy=true)(hn:0<t.now.length)(hn4:t.now.length+c≤4000)(hrd:Rd w (some ⟨bb,bo,none⟩) m m xs)(hxs:∀ x∈xs,x<256)(hm1:508*c<m+508)(hm2:m≤508*c)(hc:1≤c)(hc2:c≤1000)(hK:K+3*c≤500000) :
  Calls Tryz.prog 24 #[.pointer (some ⟨b0,0,none⟩),.pointer (some ⟨b1,0,none⟩),.pointer (some ⟨b2,0,none⟩),.pointer (some ⟨b3,0,none⟩)] w fun e w'=>e=.returned (.int .i64 0)∧PrgAt arm room croom (K+3*c) w' p q R (layT (growN t c) t.now.length c xs c)∧w'.heap[b2]? = some (.cells #[.int .i64 ((t.now.length+1:Nat):Int)] 3 (0,0))∧Rok (fun b=>R b∧b≠b2) w w':=by
 have C1:=hid (take_all hb c ws h hh hR hroot hbz hn hn4 (by omega))
 have HX:=hid hx;have HH:=hid hh;have HR:=hid hR;have HRD:=hid hrd;have HXS:=hid hxs;have HBZ:=hid hbz;have RR:=hid (show R b0∧R b1∧R b2∧R b3∧R bb from ⟨r0,r1,r2,r3,rb⟩)
 have HLT:=hid (fun b (hb:R b)=>h.lt hb)
 have y0:=(boxed_cell hx.x0).1;have y1:=(boxed_cell hx.x1).1
 have k1:¬(c:Int)≤0:=by omega
 clear h hh hR hx r0 r1 r2 r3 rb hrd hxs hbz hroot
 go_enter Tryz.func24,Tryz.ntmps24
 go_upto_region 4 with (go_at_call 25;refine C1.out.mono ?_;rintro e w1 ⟨g,rfl,hr,hg,hP,hk⟩;have R1:=hid hr;have HG:=hid hg;have P1:=hid hP;have K1:=hid hk;clear hr hg hP hk)
 have X1:=HX.out.rok K1.out RR.out.1 RR.out.2.1 RR.out.2.2.1 RR.out.2.2.2.1
 have c0:=R1.out.cell (i:=0) (by rw [newL_len];exact hc)
 rw [newL_get _ c hc,show t.now.length+1+0=t.now.length+1 from rfl]at c0
 obtain ⟨V,hV⟩:∃ V:Int,V=((t.now.length+1:Nat):Int):=⟨_,rfl⟩
 rw [←hV]at c0
 have HV:=hid hV
 obtain ⟨y2,y2f⟩:=boxed_cell X1.x2
 have y2t:=X1.x2
 obtain ⟨W2,hW2⟩:∃ W2,W2=w1.setCell ⟨b2,0,none⟩ (.int .i64 V):=⟨_,rfl⟩
 have F2:Hid (Fr (fun k=>k=b2) w1 W2):=hid (by rw [hW2];exact ⟨rfl,rfl,rfl,by simp,fun k _ hk=>heap_setCell_other _ _ _ _ hk⟩)
 have Y2:Hid (W2.heap[b2]? = some (.cells #[.int .i64 V] 3 (0,0))):=hid (by
  have:=heap_setCell_same w1 b2 0 _ 3 (.int .i64 V) y2t
  rw [hW2,this];simp)
 have hlt2:b2<w.heap.size:=HLT.out b2 RR.out.2.2.1
 have hg2:g≠b2:=by have:=HG.out;omega
 have z0:=(boxed_cell ((F2.out.blk b0 (Array.getElem?_eq_some_iff.1 X1.x0).1 (fun e=>n0 e.symm)).trans X1.x0)).1
 have z3:=(boxed_cell ((F2.out.blk b3 (Array.getElem?_eq_some_iff.1 X1.x3).1 (fun e=>n3 e.symm)).trans X1.x3)).1
 have P2:=hid (P1.out.mine (fr_imp F2.out (fun b hb=>by subst hb;exact Or.inl RR.out.2.2.1)))
 have H2:=hid ((HH.out.rok K1.out HR.out).fr F2.out (fun e=>nh e.symm))
 have D2:=hid (rd_blk (rd_blk HRD.out (W:=w1) (K1.out.at_ RR.out.2.2.2.2 (HLT.out bb RR.out.2.2.2.2))) (W:=W2) (F2.out.blk bb (Nat.lt_of_lt_of_le (HLT.out bb RR.out.2.2.2.2) K1.out.size) (fun e=>nb e.symm)))
 have R2:=hid (show RowI W2 g (newL t.now.length c) from (F2.out.blk g R1.out.lt hg2).trans R1.out)
 have C2:=hid (lay_all hb c t.now.length bb bo m g xs P2.out H2.out (Or.inl HR.out) (Or.inl RR.out.2.2.2.2) (Or.inr rfl) R2.out D2.out HXS.out (by rw [growN_busy];exact HBZ.out) (growN_len t c) hm1 hm2 hc hc2 hn4 (by omega))
 clear X1 hV y2t
 go_upto_region 5 with fail
 rw [←hW2]
 clear hW2 c0 y2 y2f y0 y1
 go_wp2_with (go_at_call 26;refine C2.out.mono ?_;rintro e w3 ⟨rfl,hP,hk⟩;have P3:=hid hP;have K3:=hid hk;clear hP hk)
 go_ret
 refine ⟨rfl,?_,?_,?_⟩
 ·exact (P3.out.less (fun b hb=>Or.inl hb)).up (by omega)
 ·rw [←HV.out]
  exact (K3.out.at_ (Or.inl RR.out.2.2.1) (Array.getElem?_eq_some_iff.1 Y2.out).1).trans Y2.out
 ·have k1:Fr (fun b=>¬(R b∧b≠b2)∧b≠0) w w1:=fr_imp K1.out (fun b hb=>⟨fun e=>hb.1 e.1,hb.2⟩)
  have k2:Fr (fun b=>¬(R b∧b≠b2)∧b≠0) w1 W2:=fr_imp F2.out (fun b hb=>⟨fun e=>e.2 hb,by subst hb;exact P1.out.ne0 (Or.inl RR.out.2.2.1)⟩)
  have k3:Fr (fun b=>¬(R b∧b≠b2)∧b≠0) W2 w3:=fr_imp K3.out (fun b hb=>⟨fun e=>hb.1 (Or.inl e.1),hb.2⟩)
  exact (k1.trans k2 (fun _ _ h=>h)).trans k3 (fun _ _ h=>h)
end
end Spl
end Go.Proofs.YtneemfbnjkcflaaGreatDoor
