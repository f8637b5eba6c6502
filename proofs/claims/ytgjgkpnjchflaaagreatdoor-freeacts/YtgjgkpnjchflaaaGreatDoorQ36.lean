/- Trim: the first pages are left; no statement of the seat is proved here. -/
import Derived.Test.YtgjgkpnjchflaaaGreatDoorQ35
set_option maxHeartbeats 16000000
set_option maxRecDepth 20000
namespace Go.Proofs.YtgjgkpnjchflaaaGreatDoor
section
open Go.RowKit Go.Maps
open Dsk (gt hid undrew keep_old keep_cell lt_cell Rd)
open Cch (Fr wpAnyK wpAnyK_done wp_region_K)
open Jrn (Pv2 Row5 numAt RB fr_two trunkN rootN putN nul)
def S7(b:Nat)(k:Int)(hb p:Nat)(W:World):Prop:=W.cell? ⟨b,0,none⟩=some (.int .i64 k)∧W.cell? ⟨hb,0,none⟩=some (.pointer (some ⟨p,0,none⟩))
theorem S7.keep{b:Nat}{k:Int}{hb p:Nat}{W W':World}(h:S7 b k hb p W)(hb':Below W.heap.size W W'):S7 b k hb p W':=⟨keep_old hb' h.1,keep_old hb' h.2⟩
section
variable {arm:Prop} {room croom K:Nat} {p q:Nat} {R:Nat→Prop} {t:RS} {w:World}
variable {M cp:Nat} {ao:Option Addr}
theorem trim_own{F b:Nat}(h:(Value.slice ao M cp).ownBlock=some b):(Value.slice ao F cp).ownBlock=some b:=by
 cases ao with
 | none=>cases h
 | some a=>exact h
theorem trim_g{W0 w1:World}{g:Nat}{z:Int}{v:Value}(hP:PrgAt arm room croom K w p q R t)(h0:W0.cell? ⟨w.heap.size,0,none⟩=some (.int .i64 z))(hg:W0.heap.size≤g)(hl:g<w1.heap.size)(hv:¬v.ownBlock=some g):¬Own2 (Plus (Plus R w.heap.size) w1.heap.size) v g:=by
 have:=lt_cell h0
 rintro (((h |h) |h) |h)
 ·have:=hP.lt h;simp only at *;omega
 ·simp only at *;omega
 ·omega
 ·exact hv h
variable {xs:List Nat} {B:Nat} {W:World}
theorem trim_src(h:W.ownsRow B 3 1 (.slice ao M cp) M (zI xs)):Cch.Src W ao M cp (zI xs):=Cch.src_row (rr_base h (Nat.zero_le _)) (fun u hu=>by unfold zI at hu;obtain ⟨x,_,rfl⟩:=List.mem_map.1 hu;rfl)
theorem trim_rows{Q:Nat→Prop}(h:W.ownsRow B 3 1 (.slice ao M cp) M (zI xs)):∀ a,ao=some a→Own2 Q (.slice ao M cp) a.block∧a.off=0∧a.spot=none:=fun a ha=>by
 obtain ⟨ao',cap,e,hno,hso⟩:=Cch.row_form (rr_base h (Nat.zero_le _))
 simp only [Value.slice.injEq]at e
 obtain ⟨rfl,-,rfl⟩:=e
 obtain ⟨e1,_,_⟩:=hso a ha
 subst ha
 exact ⟨Or.inr rfl,by rw [e1],by rw [e1]⟩
theorem trim_yes{hb k:Nat}{tr:List (Nat×List Nat)}{ws:List Nat}(h:HeapS arm room croom K w hb p q R t tr ws)(hk1:1≤k)(hk:k≤t.now.length)(hn4:t.now.length≤4000)(hK:K+20000≤490000) :
  Calls Tryz.prog 25 #[.pointer (some ⟨hb,0,none⟩),.int .i64 (k:Int)] w (HTo arm room croom (K+3+4*(flat tr).length) w hb p q R k (trimT k tr) ws (.int .i64 0)):=by
 have hpb:t.pages=t.now:=RS.pages_busy h.busy
 have hcnt:=h.lay.count
 obtain ⟨W0,hW0⟩:∃ W0,W0=w.alloc (.cells #[.int .i64 (k:Int)] 3):=⟨_,rfl⟩
 have B0:=hid (show Below w.heap.size w W0 by rw [hW0];exact Below.alloc (Below.refl _ _) (Nat.le_refl _) _)
 have C0:=hid (show W0.cell? ⟨w.heap.size,0,none⟩=some (.int .i64 (k:Int)) by rw [hW0,World.cell?_alloc_at _ _ _ _ rfl];rfl)
 have P0:=hid (h.prg.new (g:=w.heap.size) B0.out (Nat.le_refl _) (lt_cell C0.out))
 have CG:=hid (changing_yes hb P0.out (h.heap.keep B0.out) h.busy (by rw [hpb];exact h.lay.ln) (by omega))
 rw [hpb,h.lay.root]at CG
 have CLi:=hid (fun W g cap RR B0 (hP:PrgAt arm room croom (K+1) W p q RR t) (hH:HeapAt W hb p) (h1:RR hb) (h2:Row5 W B0 g cap (rootN (firstOf tr) (flat tr).length ws))=>list_lay (R:=RR) hb g cap B0 ws tr hP hH h1 h.lay h.busy h2 hn4 (by omega))
 have CPg:=hid (fun W (RR:Nat→Prop) KK (hP:PrgAt arm room croom KK W p q RR t)=>prg_pages hP)
 rw [hpb]at CPg
 have HS:=hid h;have HW0:=hid hW0;have HN4:=hid hn4;have HK1:=hid hk1;have HK:=hid hk
 have hkz:¬(k:Int)<1:=by omega
 have hkn:¬(t.now.length:Int)<(k:Int):=by omega
 have hln:upto k (flat tr)=(flat tr).filter (fun z=>decide (z≤k)):=rfl
 have hrt:riseN (upto k (flat tr))=trimL k (flat tr):=rise_trim h.lay.nd (fun y hy=>(h.lay.chain.range y hy).1) (by rw [←hln];exact riseN_perm _) (riseN_sorted _)
 have hml:(trimL k (flat tr)).length=(upto k (flat tr)).length:=by rw [←hrt];exact (riseN_perm _).length_eq
 have hmf:(upto k (flat tr)).length≤(flat tr).length:=List.length_filter_le _ _
 have HRT:=hid hrt;have HML:=hid hml;have HCNT:=hid hcnt
 obtain ⟨F,hF⟩:∃ F,F=(flat tr).length:=⟨_,rfl⟩
 obtain ⟨M,hM⟩:∃ M,M=(upto k (flat tr)).length:=⟨_,rfl⟩
 obtain ⟨N,hN⟩:∃ N,N=t.now.length:=⟨_,rfl⟩
 have CD:=hid (fun B0 ao cp B W (hv:W.ownsRow B0 3 1 (.slice ao (flat tr).length cp) (flat tr).length (zI (flat tr))) h0 hB=>del8_any B0 ao cp (flat tr) B k W hv (by omega) h0 hB)
 have CS:=hid (fun B0 ao cp W (hv:W.ownsRow B0 3 1 (.slice ao (upto k (flat tr)).length cp) (upto k (flat tr)).length (zI (upto k (flat tr))))=>sort8_any B0 cp ao (upto k (flat tr)) W hv (by omega))
 rw [hrt]at CS
 rw [←hF]at CG CLi CD HCNT hmf ⊢
 rw [←hM]at CD CS HML hmf
 rw [←hN]at CPg hkn HCNT HN4 HK
 have HF:=hid hF;have HM:=hid hM;have HN:=hid hN;have HMF:=hid hmf
 clear h hpb hW0 hn4 hk1 hk hF hM hN hln hrt hml hcnt hmf
 unfold Pv2 at *
 go_enter Tryz.func25,Tryz.ntmps25
 go_upto_region 7 with (first
  | (go_at_call 34;rw [←HW0.out];refine CG.out.mono ?_;rintro e w1 ⟨g,cap,rfl,hr1,hg1,hP1,hok1⟩;have B1:=hid (show Below w1.heap.size w1 (w1.alloc (.cells #[.int .i64 1,.slice (some ⟨g,0,none⟩) 512 cap] 83)) from Below.alloc (Below.refl _ _) (Nat.le_refl _) _);have R1:=hid (hr1.keep B1.out);have X1:=hid (RB.new 83 w1 1 (some ⟨g,0,none⟩) 512 cap);have P1:=hid (hP1.new B1.out (Nat.le_refl _) (by simp));have K1:=hid hok1;have H1:=hid (((HS.out.heap.keep B0.out).rok hok1 (Or.inl HS.out.mem)).keep B1.out);have G1:=hid hg1;have GL:=hid hr1.lt;have D1:=hid (keep_old B1.out (fr_cell hok1 C0.out (fun e=>e.1 (Or.inr rfl))));clear hr1 hg1 hP1 hok1)
  | (go_at_call 32;refine (CLi.out _ g cap _ _ P1.out H1.out (Or.inl (Or.inl (Or.inl HS.out.mem))) R1.out).mono ?_;rintro e w2 ⟨ao,cp,rfl,hA⟩;have A2:=hid hA;have H2:=hid (H1.out.rok hA.k (Or.inl (Or.inl (Or.inl HS.out.mem))));have X2:=hid (show RB 83 w2 w1.heap.size 1 (some ⟨g,0,none⟩) 512 cap from (hA.k.at_ (Or.inr rfl) X1.out.lt).trans X1.out);have R2:=hid (R1.out.fr hA.k (fun e=>e.1 (Or.inl (Or.inr rfl))));have D2:=hid (fr_cell hA.k D1.out (fun e=>e.1 (Or.inl (Or.inl (Or.inr rfl)))));clear hA))
 have hs2:S7 w.heap.size (k:Int) hb p w2.drew:=⟨D2.out,H2.out.cell⟩
 refine wp_region_K (S:=S7 w.heap.size (k:Int) hb p) (fun _=>false) (by kernel_rfl) hs2 (fun hHeld=>?_)
 refine gkt 0 ?_ (h:=by intro W hSw;obtain ⟨k0,k1⟩:=hSw;go_simp;first |done |with_reducible rfl)
 refine gkp 1 ?_ (v:=.bool false)
 refine gkp 2 ?_
 refine gkt 3 ?_ (h:=by intro W hSw;obtain ⟨k0,k1⟩:=hSw;go_simp;first |done |with_reducible rfl)
 refine gkp 4 ?_
 refine gkp 5 ?_
 refine gkp 6 ?_
 refine gkt 7 ?_ (h:=by intro W hSw;obtain ⟨k0,k1⟩:=hSw;go_simp;first |done |with_reducible rfl)
 refine gk1 8 (fun K hK=>?_)
 go_simp
 go_at_call 10;refine (CPg.out w2.drew _ _ (A2.out.p.keep (Below.refl _ _).drew)).mono ?_;rintro e w3 ⟨rfl,hb3⟩;have B3:=hid (show Below w2.heap.size w2 w3 from undrew hb3);have hR:S7 w.heap.size (k:Int) hb p w3:=hs2.keep hb3;clear hb3
 refine hK.out _ _ hR (fun hHeld=>?_)
 clear hK K
 (try simp only [Act.put,sA,sZ,sS])
 refine gkp 9 ?_ (v:=.bool false) (h:=by intro W _;go_simp;first |done |omega |with_reducible rfl)
 refine gkp 10 ?_
 refine wpAnyK_done (by kernel_rfl) ?_ _
 have C3:=hid hR
 clear hHeld hs2 hR
 have A3:=hid (A2.out.below B3.out)
 have X3:=hid (X2.out.keep B3.out);have R3:=hid (R2.out.keep B3.out);have H3:=hid (H2.out.keep B3.out)
 clear CG CLi CPg A2 X2 R2 H2 D2
 have hsep:∀ b,(Value.slice ao F cp).ownBlock=some b→b≠g∧b≠w.heap.size∧b≠w1.heap.size∧¬R b:=fun b hb=>⟨fun e=>A3.out.s b hb (Or.inl (Or.inr e)),fun e=>A3.out.s b hb (Or.inl (Or.inl (Or.inr e))),fun e=>A3.out.s b hb (Or.inr e),fun e=>A3.out.s b hb (Or.inl (Or.inl (Or.inl e)))⟩
 have HSEP:=hid hsep
 clear hsep
 have O3:=hid (show w3.ownsRow (w1.heap.size+1) 3 1 (.slice ao F cp) F (zI (flat tr)) by
  have h5:=A3.out.o
  rw [←HF.out]at h5
  exact own_dn h5 (by simp))
 have L3:=hid (show w.heap.size<w1.heap.size+1 by have h1:=B0.out.size;have h2:=K1.out.size;omega)
 have CD3:=hid (CD.out (w1.heap.size+1) ao cp w.heap.size w3 O3.out C3.out.1 L3.out)
 clear CD
 go_upto_region 14 with (first
  | (go_at_call 57;refine CD3.out.mono ?_;rintro e w4 ⟨rfl,ho4,hf4⟩;have O4:=hid ho4;have F4:=hid hf4;clear ho4 hf4)
  | (go_at_call 59;refine (CS.out _ ao cp w4 O4.out).mono ?_;rintro e w5 ⟨rfl,ho5,hf5⟩;have O5:=hid ho5;have F5:=hid (F4.out.trans hf5 (fun b _ hb=>(by cases ao with | none=>cases hb | some a=>exact hb)));have X5:=hid (X3.out.fr F5.out (fun e=>(HSEP.out _ e).2.2.1 rfl));obtain ⟨x0,x1,x2,x3⟩:=X5.out.cells;have R5:=hid ((R3.out.fr F5.out (fun e=>(HSEP.out _ e).1 rfl)).base (Nat.zero_le _));have H5:=hid (H3.out.fr F5.out (fun e=>(HSEP.out _ e).2.2.2 HS.out.mem));have P5:=hid ((A3.out.p.mine (fr_imp F5.out (fun b hb=>Or.inr hb))).less (R':=Plus (Own2 (Plus (Plus R w.heap.size) w1.heap.size) (.slice ao M cp)) g) (fun b hb=>(by rcases hb with ((((hb | hb) | hb) | hb) | hb);exact Or.inl (Or.inl (Or.inl (Or.inl hb)));exact Or.inl (Or.inl (Or.inl (Or.inr hb)));exact Or.inl (Or.inr hb);exact Or.inr (by cases ao with | none=>cases hb | some a=>exact hb);exact Or.inl (Or.inl (Or.inr hb)))));clear ho5 hf5)
  | (go_at_call 60;have CR:=relist_any (R:=Own2 (Plus (Plus R w.heap.size) w1.heap.size) (.slice ao M cp)) hb g cap ao cp (trimL k (flat tr)) tr ws P5.out H5.out (Or.inl (Or.inl (Or.inl HS.out.mem))) (trim_g HS.out.prg C0.out G1.out GL.out (fun e=>(HSEP.out g (trim_own e)).1 rfl)) HS.out.lay (by rw [←HF.out];exact R5.out) HS.out.busy (by rw [HML.out];exact trim_src O5.out) (trim_rows O5.out) (trimL_nd _ _) (fun y hy=>⟨(mem_trimL.1 hy).1,(HS.out.lay.chain.range y (mem_trimL.1 hy).2.2).2⟩) (by rw [←HN.out];exact HN4.out) (by rw [HML.out];have h1:=HMF.out;have h2:=HCNT.out;have h3:=HN4.out;have h4:=flat_len tr;have h5:=HF.out;omega);rw [HML.out]at CR;refine CR.mono ?_;rintro e w6 ⟨rfl,hG6⟩;have G6:=hid hG6;clear hG6 CR))
 obtain ⟨t6,hP6,hL6,hb6,hl6,hk6,hr6⟩:=G6.out
 have H6:=hid (H5.out.rok hk6 (Or.inl (Or.inl (Or.inl HS.out.mem))))
 have D6:=hid (fr_cell hk6 (fr_cell F5.out C3.out.1 (fun e=>(HSEP.out _ e).2.1 rfl)) (fun e=>e.1 (Or.inl (Or.inl (Or.inr rfl)))))
 have CSh:=hid (prg_shrink_yes k (hP6.keep (Below.refl _ _).drew) hb6 (by rw [hl6,←HN.out];exact HK.out))
 have hs6:S7 w.heap.size (k:Int) hb p w6.drew:=⟨D6.out,H6.out.cell⟩
 have KK5:=hid (show Rok R w w5 from (((Rok.after B0.out K1.out (fun b hb=>Or.inl hb)).below B1.out).then A3.out.k (fun b hb=>Or.inl (Or.inl (Or.inl hb)))).trans F5.out (fun b _ hb=>⟨(HSEP.out b hb).2.2.2,A3.out.p.ne0 (Or.inr hb)⟩))
 have KK6:=hid (KK5.out.then hk6 (fun b hb=>Or.inl (Or.inl (Or.inl hb))))
 have HL6:=hid hL6;have HB6:=hid hb6;have HLN6:=hid hl6
 clear hP6 hL6 hb6 hl6 hk6 hr6
 refine wp_region_K (S:=S7 w.heap.size (k:Int) hb p) (fun i=>i == 5) (by kernel_rfl) hs6 (fun hHeld=>?_)
 refine gkp 0 ?_
 refine gkp 1 ?_
 refine gkp 2 ?_
 refine gkt 3 ?_ (h:=by intro W hSw;obtain ⟨k0,k1⟩:=hSw;go_simp;first |done |with_reducible rfl)
 refine gkt 4 ?_ (h:=by intro W hSw;obtain ⟨k0,k1⟩:=hSw;go_simp;first |done |with_reducible rfl)
 refine gkl 5 (fun K hK=>?_)
 go_simp
 go_at_call 61;refine CSh.out.mono ?_;rintro e w7 ⟨rfl,hP7,hok7⟩;have P7:=hid hP7;have K7:=hid hok7;clear hP7 hok7
 refine hK.out _ _ ?_
 clear hK K
 (try simp only [Act.put,sA,sZ,sS])
 refine gkp 6 ?_
 refine wpAnyK_done (by kernel_rfl) ?_ _
 clear hHeld hs6
 go_wp2
 go_ret
 have hpm:(flat (trimT k tr)).Perm (trimL k (flat tr)):=by have:=giveAll_perm (trimL k (flat tr)) [];rw [show flat [] = [] from rfl,List.append_nil]at this;exact this
 have hkn:k≤t6.now.length:=by rw [HLN6.out,←HN.out];exact HK.out
 refine HS.out.to rfl ((P7.out.less (fun b hb=>Or.inl (Or.inl (Or.inl (Or.inl hb))))).up ?_) (KK6.out.then (Rok.after (Below.refl _ _).drew K7.out (fun b hb=>Or.inl (Or.inl (Or.inl (Or.inl hb))))) (fun _ h=>h)) (HL6.out.cut HK1.out hkn (fun y hy=>(mem_trimL.1 (hpm.mem_iff.1 hy)).2.1)) HB6.out (by show (t6.now.take k).length=k;rw [List.length_take];omega)
 have h1:=HMF.out;have h2:=flat_len tr;have h3:=HF.out;omega
end
end
section
open Go.RowKit Go.Maps
open Dsk (gt hid undrew keep_old keep_cell lt_cell Rd)
open Cch (Fr)
open Jrn (Pv2 Row5 numAt RB fr_two trunkN rootN putN nul rowV rowC)
section
variable {arm:Prop} {room croom K:Nat} {p q:Nat} {R:Nat→Prop} {t:RS} {w:World}
variable {ws:List Nat} {hb i:Nat}
theorem word_yes{tr:List (Nat×List Nat)}(h:HeapS arm room croom K w hb p q R t tr ws)(hi:i<60)(hv:ws.getD i 0<18446744073709551616)(hK:K+5000≤500000) :
  Calls Tryz.prog 24 #[.pointer (some ⟨hb,0,none⟩),.int .i64 (i:Int)] w fun e w'=>e=.returned (.tuple #[.int .i64 (wrap64 (ws.getD i 0:Int)),.int .i64 0])∧PrgAt arm room croom (K+1) w' p q R t∧Rok R w w':=by
 have hpb:t.pages=t.now:=RS.pages_busy h.busy
 have CG:=hid (root_yes hb h.prg h.heap (by rw [hpb];exact h.lay.ln) (by omega))
 rw [hpb,h.lay.root]at CG
 have CWd:=hid (fun W g cap=>Jrn.words_any 1 g cap W)
 have CR:=hid (fun W g cap B (hW:Row5 W B g cap (rootN (firstOf tr) (flat tr).length ws))=>Jrn.rget_yes 1 g cap _ 16 8 60 i W hW.rd (Jrn.rootN_bytes _ _ _) (by omega) (by omega) hi (by omega))
 rw [Jrn.root_word _ _ ws i (by rw [h.lay.wl];exact hi) hv]at CR
 clear h hpb hv
 generalize ws.getD i 0=x at *
 generalize (flat tr).length=LL at *
 unfold Pv2 at *
 unfold rowV rowC at *
 go_enter Tryz.func24,Tryz.ntmps24
 go_wp2_with (first
  | (go_at_call 31;refine CG.out.mono ?_;rintro e w1 ⟨g,cap,rfl,hr1,hg1,hP1,hok1⟩;have B1:=hid (show Below w1.heap.size w1 (w1.alloc (.cells #[.int .i64 1,.slice (some ⟨g,0,none⟩) 512 cap] 83)) from Below.alloc (Below.refl _ _) (Nat.le_refl _) _);have R1:=hid (hr1.keep B1.out);have P1:=hid (hP1.keep B1.out);have K1:=hid hok1;clear hr1 hg1 hP1 hok1)
  | (go_at_call 48;refine (CWd.out _ g cap).mono ?_;rintro e w2 ⟨rfl,hb2⟩;have R2:=hid (R1.out.keep hb2);have B2:=hid hb2;clear hb2)
  | (go_at_call 56;refine (CR.out w2 g cap _ R2.out).mono ?_;rintro e w3 ⟨rfl,hb3⟩;have B3:=hid (gt B2.out hb3);clear hb3))
 go_ret2
 exact ⟨rfl,(P1.out.keep B3.out).less (fun b hb=>Or.inl hb),(K1.out.below B1.out).below B3.out⟩
theorem Lay.word{now:List Pg}{tr:List (Nat×List Nat)}(h:Lay now tr ws)(i x:Nat):Lay (now.set 0 (rootN (firstOf tr) (flat tr).length (ws.set i x))) tr (ws.set i x):=by
 refine ⟨set_same h.ln,?_,h.nd,by simpa using h.wl,by simpa using h.ln⟩
 refine h.chain.shrunk (by simp) (fun y hy=>?_)
 have h2:=h.chain.range y hy
 rw [set_other (by omega)]
theorem set_yes{x:Nat}{n:Int}{tr:List (Nat×List Nat)}(h:HeapS arm room croom K w hb p q R t tr ws)(hi:i<60)(hn:IntKind.u64.wrap n=(x:Int))(hK:K+5000≤500000) :
  Calls Tryz.prog 21 #[.pointer (some ⟨hb,0,none⟩),.int .i64 (i:Int),.int .i64 n] w (HTo arm room croom (K+2) w hb p q R t.now.length tr (ws.set i x) (.int .i64 0)):=by
 have hpb:t.pages=t.now:=RS.pages_busy h.busy
 have CG:=hid (changing_yes hb h.prg h.heap h.busy (by rw [hpb];exact h.lay.ln) (by omega))
 rw [hpb,h.lay.root]at CG
 have CWd:=hid (fun W g cap=>Jrn.words_any 1 g cap W)
 have CR:=hid (fun W g cap B (hW:Row5 W B g cap (rootN (firstOf tr) (flat tr).length ws))=>Jrn.rset_yes 1 B g cap _ 16 8 60 i x n W hW (by omega) (by omega) hi (by omega) hn)
 rw [Jrn.root_set _ _ ws i x (by rw [h.lay.wl];exact hi)]at CR
 have HS:=hid h
 have HF:=hid (fun b (hb:R b)=>h.prg.lt hb)
 clear h hpb hn
 unfold Pv2 at *
 unfold rowV rowC at *
 go_enter Tryz.func21,Tryz.ntmps21
 go_wp2_with (first
  | (go_at_call 34;refine CG.out.mono ?_;rintro e w1 ⟨g,cap,rfl,hr1,hg1,hP1,hok1⟩;have B1:=hid (show Below w1.heap.size w1 (w1.alloc (.cells #[.int .i64 1,.slice (some ⟨g,0,none⟩) 512 cap] 83)) from Below.alloc (Below.refl _ _) (Nat.le_refl _) _);have R1:=hid (hr1.keep B1.out);have X1:=hid (RB.new 83 w1 1 (some ⟨g,0,none⟩) 512 cap);have P1:=hid (hP1.keep B1.out);have K1:=hid hok1;have G1:=hid hg1;have GL:=hid hr1.lt;have H1:=hid ((HS.out.heap.rok hok1 HS.out.mem).keep B1.out);clear hr1 hg1 hP1 hok1)
  | (go_at_call 48;refine (CWd.out _ g cap).mono ?_;rintro e w2 ⟨rfl,hb2⟩;have R2:=hid (R1.out.keep hb2);have B2:=hid hb2;have X2:=hid (X1.out.keep hb2);clear hb2)
  | (go_at_call 49;refine (CR.out w2 g cap _ R2.out).mono ?_;rintro e w3 ⟨rfl,hr3,hf3⟩;have R3:=hid hr3;have F3:=hid hf3;obtain ⟨x0,x1,x2,x3⟩:=(X2.out.fr hf3 (fun e=>by have:=GL.out;omega)).cells;clear hr3 hf3)
  | (go_at_call 46;obtain ⟨W4,hW4⟩:∃ W4,W4=w3.alloc (.cells #[.int .i64 1,.slice (some ⟨g,0,none⟩) 512 cap] 81):=⟨_,rfl⟩;rw [←hW4];have B4:=hid (show Below w3.heap.size w3 W4 by rw [hW4];exact Below.alloc (Below.refl _ _) (Nat.le_refl _) _);have Y4:=hid (show W4.heap[w3.heap.size]? = some (.cells #[.int .i64 1,.slice (some ⟨g,0,none⟩) 512 cap] 81 (0,0)) by rw [hW4];exact heap_alloc_new _ _);have F4:=hid (show Fr (fun b=>b=g) (w1.alloc (.cells #[.int .i64 1,.slice (some ⟨g,0,none⟩) 512 cap] 83)) W4 from ((Fr.of_below B2.out).trans F3.out (fun _ _ h=>h)).trans (Fr.of_below (S:=fun _=>False) B4.out) (fun _ _ h=>h.elim));have P4:=hid (P1.out.work (fr_imp F4.out (fun b hb=>Or.inr hb)));have hpg:Pgs W4 w3.heap.size [⟨1,g,cap,rootN (firstOf tr) (flat tr).length (ws.set i x)⟩]:=(fun k y hy=>by match k,hy with | 0,hy=>(simp at hy;subst hy;exact ⟨by simp [World.cell?,Y4.out],by simp [World.cell?,Y4.out],(R3.out.keep B4.out).rd⟩) | k+1,hy=>simp at hy);clear hW4;refine (hput_any hb w3.heap.size 1 [⟨1,g,cap,rootN (firstOf tr) (flat tr).length (ws.set i x)⟩] P4.out (H1.out.fr F4.out (fun e=>by have h1:=HF.out hb HS.out.mem;have h2:=G1.out;omega)) (Or.inl (Or.inl HS.out.mem)) hpg (Or.inr ⟨by have h1:=B2.out.size;have h2:=F3.out.size;omega,(Array.getElem?_eq_some_iff.1 Y4.out).1⟩) (by intro y hy;simp only [List.mem_cons,List.mem_nil_iff,or_false]at hy;subst hy;exact Or.inl (Or.inr rfl)) HS.out.busy (by intro y hy;simp only [List.mem_cons,List.mem_nil_iff,or_false]at hy;subst hy;exact ⟨Nat.le_refl _,HS.out.lay.ln⟩) (by intro y hy;simp only [List.mem_cons,List.mem_nil_iff,or_false]at hy;subst hy;exact Jrn.rootN_bytes _ _ _) (by show K+1+1≤500000;omega)).mono ?_;rintro e w5 ⟨rfl,hP5,hok5⟩;have P5:=hid hP5;have K5:=hid hok5;clear hP5 hok5 hpg))
 go_ret
 have hgl:∀ b,b=g→w.heap.size≤b:=fun b e=>by rw [e];exact G1.out
 have kk:Rok R w W4:=((K1.out.below B1.out)).mine F4.out hgl
 exact HS.out.to rfl (P5.out.less (fun b hb=>Or.inl (Or.inl hb))) (kk.then K5.out (fun b hb=>Or.inl (Or.inl hb))) (HS.out.lay.word i x) HS.out.busy (by show (t.now.set 0 _).length=_;simp)
end
end
section
open Go.RowKit Go.Maps
open Dsk (gt hid undrew keep_old keep_cell lt_cell Rd)
open Cch (Fr wpAnyK wpAnyK_done wp_region_K)
open Jrn (Pv2 Row5 numAt RB fr_two trunkN rootN putN nul rowV rowC)
section
variable {arm:Prop} {room croom K:Nat} {p q:Nat} {R:Nat→Prop} {t:RS} {w:World}
variable {w':World} {e:Ending} {v:Value} {ws:List Nat} {K' hb:Nat}
theorem HTo.up{N:Nat}{tr:List (Nat×List Nat)}(h:HTo arm room croom K w hb p q R N tr ws v e w')(hk:K≤K'):HTo arm room croom K' w hb p q R N tr ws v e w':=by
 obtain ⟨he,t',hs,hl,hr⟩:=h
 exact ⟨he,t',⟨hs.prg.up hk,hs.heap,hs.mem,hs.lay,hs.busy⟩,hl,hr⟩
theorem take_any{tr:List (Nat×List Nat)}(h:HeapS arm room croom K w hb p q R t tr ws)(hn4:t.now.length<4000)(hK:K+5000≤500000) :
  Calls Tryz.prog 15 #[.pointer (some ⟨hb,0,none⟩)] w (HTo arm room croom (K+6+(flat tr).length) w hb p q R (takeN t.now.length tr) (takeT tr) ws (.tuple #[.int .i64 ((takeV t.now.length tr:Nat):Int),.int .i64 0])):=by
 match tr,h with
 | [],h=>exact (take_none h hn4 hK).mono fun e w' hh=>hh.up (by omega)
 | (j,ls)::r,h=>
  obtain ⟨j,rfl⟩:∃ i,j=i+1:=⟨j - 1,by have:=(h.lay.chain).2.1;simp at this;omega⟩
  have hfl:=flat_len r
  have hf2:(flat ((j+1,ls)::r)).length=1+ls.length+(flat r).length:=by rw [flat_cons];simp;omega
  by_cases hf:ls = []
  ·subst hf
   rw [show takeT ((j+1,[])::r)=r by simp [takeT]]
   exact (take_trunk h (by omega) hK).mono fun e w' hh=>hh.up (by omega)
  ·obtain ⟨ls',v,rfl⟩:∃ ls' v,ls=ls'++[v]:=⟨ls.dropLast,ls.getLast hf,(List.dropLast_concat_getLast hf).symm⟩
   rw [show takeT ((j+1,ls'++[v])::r)=(j+1,ls')::r by simp [takeT],show takeV t.now.length ((j+1,ls'++[v])::r)=v by simp [takeV]]
   exact (take_leaves h (by omega) hK).mono fun e w' hh=>hh.up (by omega)
theorem give_is{n:Nat}{tr:List (Nat×List Nat)}(h:HeapS arm room croom K w hb p q R t tr ws)(hn1:2≤n)(hn:n≤t.now.length)(hnf:n∉flat tr)(hn4:t.now.length≤4000)(hK:K+5000≤500000) :
  Calls Tryz.prog 16 #[.pointer (some ⟨hb,0,none⟩),.int .i64 (n:Int)] w (HTo arm room croom (K+6+(flat tr).length) w hb p q R t.now.length (giveT n tr) ws (.int .i64 0)):=by
 match tr,h,hnf with
 | [],h,hnf=>exact (give_none h hn1 hn hn4 hK).mono fun e w' hh=>hh.up (by omega)
 | (j,ls)::r,h,hnf=>
  obtain ⟨j,rfl⟩:∃ i,j=i+1:=⟨j - 1,by have:=(h.lay.chain).2.1;simp at this;omega⟩
  have hfl:=flat_len r
  have hf2:(flat ((j+1,ls)::r)).length=1+ls.length+(flat r).length:=by rw [flat_cons];simp;omega
  by_cases hl:ls.length<126
  ·rw [show giveT n ((j+1,ls)::r)=(j+1,ls++[n])::r from if_pos hl]
   exact (give_leaf h hl hn1 hn hnf hn4 hK).mono fun e w' hh=>hh.up (by omega)
  ·rw [show giveT n ((j+1,ls)::r)=(n,[])::(j+1,ls)::r from if_neg hl]
   have h3:=h.lay.chain.2.2.2.1
   simp only at h3
   exact (give_fresh h (by omega) hn1 hn hnf hn4 hK).mono fun e w' hh=>hh.up (by omega)
theorem HeapS.same{tr:List (Nat×List Nat)}(h:HeapS arm room croom K w hb p q R t tr ws)(he:e=.returned v)(hP:PrgAt arm room croom K' w' p q R t)(hk:Rok R w w'):HTo arm room croom K' w hb p q R t.now.length tr ws v e w':=h.to he hP hk h.lay h.busy rfl
variable {i:Int}
theorem word_no{tr:List (Nat×List Nat)}(h:HeapS arm room croom K w hb p q R t tr ws)(hi:i<0∨60≤i)(hK:K+5000≤500000) :
  Calls Tryz.prog 24 #[.pointer (some ⟨hb,0,none⟩),.int .i64 i] w (HTo arm room croom (K+1) w hb p q R t.now.length tr ws (.tuple #[.int .i64 0,.int .i64 11])):=by
 have hpb:t.pages=t.now:=RS.pages_busy h.busy
 have CG:=hid (root_yes hb h.prg h.heap (by rw [hpb];exact h.lay.ln) (by omega))
 have CWd:=hid (fun W g cap=>Jrn.words_any 1 g cap W)
 have CR:=hid (fun W g cap=>Jrn.rget_no (.agg #[.int .i64 1,.slice (some ⟨g,0,none⟩) 512 cap]) 16 8 60 i W hi)
 have HS:=hid h
 clear h hpb hi
 unfold Pv2 at *
 unfold rowV rowC at *
 go_enter Tryz.func24,Tryz.ntmps24
 go_wp2_with (first
  | (go_at_call 31;refine CG.out.mono ?_;rintro e w1 ⟨g,cap,rfl,hr1,hg1,hP1,hok1⟩;have B1:=hid (show Below w1.heap.size w1 (w1.alloc (.cells #[.int .i64 1,.slice (some ⟨g,0,none⟩) 512 cap] 83)) from Below.alloc (Below.refl _ _) (Nat.le_refl _) _);have P1:=hid (hP1.keep B1.out);have K1:=hid hok1;clear hr1 hg1 hP1 hok1)
  | (go_at_call 48;refine (CWd.out _ g cap).mono ?_;rintro e w2 ⟨rfl,hb2⟩;have B2:=hid hb2;clear hb2)
  | (go_at_call 56;refine (CR.out w2 g cap).mono ?_;rintro e w3 ⟨rfl,hb3⟩;have B3:=hid (gt B2.out hb3);clear hb3))
 go_ret2
 exact HS.out.same rfl ((P1.out.keep B3.out).less (fun b hb=>Or.inl hb)) ((K1.out.below B1.out).below B3.out)
theorem set_no{n:Int}{tr:List (Nat×List Nat)}(h:HeapS arm room croom K w hb p q R t tr ws)(hi:i<0∨60≤i)(hK:K+5000≤500000) :
  Calls Tryz.prog 21 #[.pointer (some ⟨hb,0,none⟩),.int .i64 i,.int .i64 n] w (HTo arm room croom (K+1) w hb p q R t.now.length tr ws (.int .i64 11)):=by
 have hpb:t.pages=t.now:=RS.pages_busy h.busy
 have CG:=hid (changing_yes hb h.prg h.heap h.busy (by rw [hpb];exact h.lay.ln) (by omega))
 have CWd:=hid (fun W g cap=>Jrn.words_any 1 g cap W)
 have CR:=hid (fun W g cap=>Jrn.rset_no (.agg #[.int .i64 1,.slice (some ⟨g,0,none⟩) 512 cap]) 16 8 60 i n W hi)
 have HS:=hid h
 clear h hpb hi
 unfold Pv2 at *
 unfold rowV rowC at *
 go_enter Tryz.func21,Tryz.ntmps21
 go_wp2_with (first
  | (go_at_call 34;refine CG.out.mono ?_;rintro e w1 ⟨g,cap,rfl,hr1,hg1,hP1,hok1⟩;have B1:=hid (show Below w1.heap.size w1 (w1.alloc (.cells #[.int .i64 1,.slice (some ⟨g,0,none⟩) 512 cap] 83)) from Below.alloc (Below.refl _ _) (Nat.le_refl _) _);have P1:=hid (hP1.keep B1.out);have K1:=hid hok1;clear hr1 hg1 hP1 hok1)
  | (go_at_call 48;refine (CWd.out _ g cap).mono ?_;rintro e w2 ⟨rfl,hb2⟩;have B2:=hid hb2;clear hb2)
  | (go_at_call 49;refine (CR.out w2 g cap).mono ?_;rintro e w3 ⟨rfl,hb3⟩;have B3:=hid (gt B2.out hb3);clear hb3))
 go_ret
 exact HS.out.same rfl ((P1.out.keep B3.out).less (fun b hb=>Or.inl hb)) ((K1.out.below B1.out).below B3.out)
theorem give_no{z:Int}{tr:List (Nat×List Nat)}(h:HeapS arm room croom K w hb p q R t tr ws)(hz:z<2∨(t.now.length:Int)<z)(hn4:t.now.length≤4000)(hK:K+5000≤500000) :
  Calls Tryz.prog 16 #[.pointer (some ⟨hb,0,none⟩),.int .i64 z] w (HTo arm room croom (K+1+(flat tr).length) w hb p q R t.now.length tr ws (.int .i64 2)):=by
 have hpb:t.pages=t.now:=RS.pages_busy h.busy
 have CG:=hid (changing_yes hb h.prg h.heap h.busy (by rw [hpb];exact h.lay.ln) (by omega))
 rw [hpb,h.lay.root]at CG
 have CLi:=hid (fun W g cap RR B0 (hP:PrgAt arm room croom (K+1) W p q RR t) (hH:HeapAt W hb p) (h1:RR hb) (h2:Row5 W B0 g cap (rootN (firstOf tr) (flat tr).length ws))=>list_lay (R:=RR) hb g cap B0 ws tr hP hH h1 h.lay h.busy h2 hn4 (by omega))
 have CHs:=hid (fun W RR KK (hP:PrgAt arm room croom KK W p q RR t) (hH:HeapAt W hb p)=>has_any8 (R:=RR) hb z hP hH)
 rw [hpb,show (decide (1<z)&&decide (z≤(t.now.length:Int)))=false by rcases hz with h |h;rw [decide_eq_false (by omega)];rfl;rw [decide_eq_false (show ¬z≤_ by omega)];simp]at CHs
 have HS:=hid h;have HFL:=hid (flat_len tr)
 clear h hpb hz
 generalize (flat tr).length=LL at *
 unfold Pv2 at *
 go_enter Tryz.func16,Tryz.ntmps16
 go_wp2_with (first
  | (go_at_call 34;refine CG.out.mono ?_;rintro e w1 ⟨g,cap,rfl,hr1,hg1,hP1,hok1⟩;have B1:=hid (show Below w1.heap.size w1 (w1.alloc (.cells #[.int .i64 1,.slice (some ⟨g,0,none⟩) 512 cap] 83)) from Below.alloc (Below.refl _ _) (Nat.le_refl _) _);have R1:=hid (hr1.keep B1.out);have P1:=hid (hP1.new B1.out (Nat.le_refl _) (by simp));have K1:=hid hok1;have H1:=hid ((HS.out.heap.rok hok1 HS.out.mem).keep B1.out);clear hr1 hg1 hP1 hok1)
  | (go_at_call 32;refine (CLi.out _ g cap _ _ P1.out H1.out (Or.inl (Or.inl HS.out.mem)) R1.out).mono ?_;rintro e w2 ⟨ao,cp,rfl,hA⟩;have A2:=hid hA;have H2:=hid (H1.out.rok hA.k (Or.inl (Or.inl HS.out.mem)));clear hA)
  | (go_at_call 37;refine (CHs.out w2 _ _ A2.out.at_ H2.out).mono ?_;rintro e w3 ⟨rfl,hb3⟩;have B3:=hid hb3;clear hb3))
 go_ret
 exact HS.out.same rfl (((A2.out.at_.less (fun b hb=>Or.inl (Or.inl hb))).keep B3.out).up (by have:=HFL.out;omega)) (((K1.out.below B1.out).then A2.out.k (fun b hb=>Or.inl (Or.inl hb))).below B3.out)
end
end
section
open Go.RowKit Go.Maps
open Dsk (gt hid undrew keep_old keep_cell lt_cell Rd)
open Cch (Fr wpAnyK wpAnyK_done wp_region_K)
open Jrn (Pv2 Row5 numAt RB fr_two trunkN rootN putN nul)
section
variable {arm:Prop} {room croom K:Nat} {p q:Nat} {R:Nat→Prop} {t:RS} {w:World}
variable {ws:List Nat} {k:Int} {hb:Nat}
theorem trim_low{tr:List (Nat×List Nat)}(h:HeapS arm room croom K w hb p q R t tr ws)(hkz:k<1)(hn4:t.now.length≤4000)(hK:K+20000≤490000) :
  Calls Tryz.prog 25 #[.pointer (some ⟨hb,0,none⟩),.int .i64 k] w (HTo arm room croom (K+1+(flat tr).length) w hb p q R t.now.length tr ws (.int .i64 11)):=by
 have hpb:t.pages=t.now:=RS.pages_busy h.busy
 obtain ⟨W0,hW0⟩:∃ W0,W0=w.alloc (.cells #[.int .i64 k] 3):=⟨_,rfl⟩
 have B0:=hid (show Below w.heap.size w W0 by rw [hW0];exact Below.alloc (Below.refl _ _) (Nat.le_refl _) _)
 have C0:=hid (show W0.cell? ⟨w.heap.size,0,none⟩=some (.int .i64 k) by rw [hW0,World.cell?_alloc_at _ _ _ _ rfl];rfl)
 have P0:=hid (h.prg.new (g:=w.heap.size) B0.out (Nat.le_refl _) (lt_cell C0.out))
 have CG:=hid (changing_yes hb P0.out (h.heap.keep B0.out) h.busy (by rw [hpb];exact h.lay.ln) (by omega))
 rw [hpb,h.lay.root]at CG
 have CLi:=hid (fun W g cap RR B0 (hP:PrgAt arm room croom (K+1) W p q RR t) (hH:HeapAt W hb p) (h1:RR hb) (h2:Row5 W B0 g cap (rootN (firstOf tr) (flat tr).length ws))=>list_lay (R:=RR) hb g cap B0 ws tr hP hH h1 h.lay h.busy h2 hn4 (by omega))
 have HS:=hid h;have HW0:=hid hW0;have HFL:=hid (flat_len tr)
 obtain ⟨F,hF⟩:∃ F,F=(flat tr).length:=⟨_,rfl⟩
 rw [←hF]at CG CLi HFL ⊢
 clear h hpb hW0 hn4 hF
 unfold Pv2 at *
 go_enter Tryz.func25,Tryz.ntmps25
 go_upto_region 7 with (first
  | (go_at_call 34;rw [←HW0.out];refine CG.out.mono ?_;rintro e w1 ⟨g,cap,rfl,hr1,hg1,hP1,hok1⟩;have B1:=hid (show Below w1.heap.size w1 (w1.alloc (.cells #[.int .i64 1,.slice (some ⟨g,0,none⟩) 512 cap] 83)) from Below.alloc (Below.refl _ _) (Nat.le_refl _) _);have R1:=hid (hr1.keep B1.out);have P1:=hid (hP1.new B1.out (Nat.le_refl _) (by simp));have K1:=hid hok1;have H1:=hid (((HS.out.heap.keep B0.out).rok hok1 (Or.inl HS.out.mem)).keep B1.out);have D1:=hid (keep_old B1.out (fr_cell hok1 C0.out (fun e=>e.1 (Or.inr rfl))));clear hr1 hg1 hP1 hok1)
  | (go_at_call 32;refine (CLi.out _ g cap _ _ P1.out H1.out (Or.inl (Or.inl (Or.inl HS.out.mem))) R1.out).mono ?_;rintro e w2 ⟨ao,cp,rfl,hA⟩;have A2:=hid hA;have H2:=hid (H1.out.rok hA.k (Or.inl (Or.inl (Or.inl HS.out.mem))));have D2:=hid (fr_cell hA.k D1.out (fun e=>e.1 (Or.inl (Or.inl (Or.inr rfl)))));clear hA))
 have hs2:S7 w.heap.size k hb p w2.drew:=⟨D2.out,H2.out.cell⟩
 refine wp_region_K (S:=S7 w.heap.size k hb p) (fun _=>false) (by kernel_rfl) hs2 (fun hHeld=>?_)
 have B3:=hid (show Below w2.heap.size w2 w2.drew from (Below.refl _ _).drew)
 refine gkt 0 ?_ (h:=by intro W hSw;obtain ⟨k0,k1⟩:=hSw;go_simp;first |done |with_reducible rfl)
 refine gkp 1 ?_ (v:=.bool true)
 refine gkp 2 ?_
 refine gku 3 ?_
 refine gku 4 ?_
 refine gku 5 ?_
 refine gku 6 ?_
 refine gku 7 ?_
 refine gku 8 ?_
 refine gku 9 ?_
 refine gkp 10 ?_
 refine wpAnyK_done (by kernel_rfl) ?_ _
 clear hHeld hs2
 go_wp2
 go_ret
 have KK:=show Rok R w w2 from ((Rok.after B0.out K1.out (fun b hb=>Or.inl hb)).below B1.out).then A2.out.k (fun b hb=>Or.inl (Or.inl (Or.inl hb)))
 exact HS.out.same rfl (((A2.out.at_.less (fun b hb=>Or.inl (Or.inl (Or.inl hb)))).keep B3.out).up (by have:=HFL.out;omega)) (KK.below B3.out)
theorem trim_high{tr:List (Nat×List Nat)}(h:HeapS arm room croom K w hb p q R t tr ws)(hkz:(t.now.length:Int)<k)(hn4:t.now.length≤4000)(hK:K+20000≤490000) :
  Calls Tryz.prog 25 #[.pointer (some ⟨hb,0,none⟩),.int .i64 k] w (HTo arm room croom (K+1+(flat tr).length) w hb p q R t.now.length tr ws (.int .i64 11)):=by
 have hpb:t.pages=t.now:=RS.pages_busy h.busy
 obtain ⟨W0,hW0⟩:∃ W0,W0=w.alloc (.cells #[.int .i64 k] 3):=⟨_,rfl⟩
 have B0:=hid (show Below w.heap.size w W0 by rw [hW0];exact Below.alloc (Below.refl _ _) (Nat.le_refl _) _)
 have C0:=hid (show W0.cell? ⟨w.heap.size,0,none⟩=some (.int .i64 k) by rw [hW0,World.cell?_alloc_at _ _ _ _ rfl];rfl)
 have P0:=hid (h.prg.new (g:=w.heap.size) B0.out (Nat.le_refl _) (lt_cell C0.out))
 have CG:=hid (changing_yes hb P0.out (h.heap.keep B0.out) h.busy (by rw [hpb];exact h.lay.ln) (by omega))
 rw [hpb,h.lay.root]at CG
 have CLi:=hid (fun W g cap RR B0 (hP:PrgAt arm room croom (K+1) W p q RR t) (hH:HeapAt W hb p) (h1:RR hb) (h2:Row5 W B0 g cap (rootN (firstOf tr) (flat tr).length ws))=>list_lay (R:=RR) hb g cap B0 ws tr hP hH h1 h.lay h.busy h2 hn4 (by omega))
 have CPg:=hid (fun W (RR:Nat→Prop) KK (hP:PrgAt arm room croom KK W p q RR t)=>prg_pages hP)
 rw [hpb]at CPg
 have hk2:¬k<1:=by omega
 have HS:=hid h;have HW0:=hid hW0;have HFL:=hid (flat_len tr)
 obtain ⟨F,hF⟩:∃ F,F=(flat tr).length:=⟨_,rfl⟩
 rw [←hF]at CG CLi HFL ⊢
 clear h hpb hW0 hn4 hF
 unfold Pv2 at *
 go_enter Tryz.func25,Tryz.ntmps25
 go_upto_region 7 with (first
  | (go_at_call 34;rw [←HW0.out];refine CG.out.mono ?_;rintro e w1 ⟨g,cap,rfl,hr1,hg1,hP1,hok1⟩;have B1:=hid (show Below w1.heap.size w1 (w1.alloc (.cells #[.int .i64 1,.slice (some ⟨g,0,none⟩) 512 cap] 83)) from Below.alloc (Below.refl _ _) (Nat.le_refl _) _);have R1:=hid (hr1.keep B1.out);have P1:=hid (hP1.new B1.out (Nat.le_refl _) (by simp));have K1:=hid hok1;have H1:=hid (((HS.out.heap.keep B0.out).rok hok1 (Or.inl HS.out.mem)).keep B1.out);have D1:=hid (keep_old B1.out (fr_cell hok1 C0.out (fun e=>e.1 (Or.inr rfl))));clear hr1 hg1 hP1 hok1)
  | (go_at_call 32;refine (CLi.out _ g cap _ _ P1.out H1.out (Or.inl (Or.inl (Or.inl HS.out.mem))) R1.out).mono ?_;rintro e w2 ⟨ao,cp,rfl,hA⟩;have A2:=hid hA;have H2:=hid (H1.out.rok hA.k (Or.inl (Or.inl (Or.inl HS.out.mem))));have D2:=hid (fr_cell hA.k D1.out (fun e=>e.1 (Or.inl (Or.inl (Or.inr rfl)))));clear hA))
 have hs2:S7 w.heap.size k hb p w2.drew:=⟨D2.out,H2.out.cell⟩
 refine wp_region_K (S:=S7 w.heap.size k hb p) (fun _=>false) (by kernel_rfl) hs2 (fun hHeld=>?_)
 refine gkt 0 ?_ (h:=by intro W hSw;obtain ⟨k0,k1⟩:=hSw;go_simp;first |done |with_reducible rfl)
 refine gkp 1 ?_ (v:=.bool false)
 refine gkp 2 ?_
 refine gkt 3 ?_ (h:=by intro W hSw;obtain ⟨k0,k1⟩:=hSw;go_simp;first |done |with_reducible rfl)
 refine gkp 4 ?_
 refine gkp 5 ?_
 refine gkp 6 ?_
 refine gkt 7 ?_ (h:=by intro W hSw;obtain ⟨k0,k1⟩:=hSw;go_simp;first |done |with_reducible rfl)
 refine gk1 8 (fun K hK=>?_)
 go_simp
 go_at_call 10;refine (CPg.out w2.drew _ _ (A2.out.p.keep (Below.refl _ _).drew)).mono ?_;rintro e w3 ⟨rfl,hb3⟩;have B3:=hid (show Below w2.heap.size w2 w3 from undrew hb3);have hR:S7 w.heap.size k hb p w3:=hs2.keep hb3;clear hb3
 refine hK.out _ _ hR (fun hHeld=>?_)
 clear hK K
 (try simp only [Act.put,sA,sZ,sS])
 refine gkp 9 ?_ (v:=.bool true)
 refine gkp 10 ?_
 refine wpAnyK_done (by kernel_rfl) ?_ _
 clear hHeld hs2
 go_wp2
 go_ret
 have KK:=show Rok R w w2 from ((Rok.after B0.out K1.out (fun b hb=>Or.inl hb)).below B1.out).then A2.out.k (fun b hb=>Or.inl (Or.inl (Or.inl hb)))
 exact HS.out.same rfl (((A2.out.at_.less (fun b hb=>Or.inl (Or.inl (Or.inl hb)))).keep B3.out).up (by have:=HFL.out;omega)) (KK.below B3.out)
end
end
end Go.Proofs.YtgjgkpnjchflaaaGreatDoor
