/- A page is given where none is free; no statement of the seat is proved here. -/
import Derived.Test.YtneemfbnjkcflaaGreatDoorB33
set_option maxHeartbeats 16000000
set_option maxRecDepth 20000
namespace Go.Proofs.YtneemfbnjkcflaaGreatDoor
section
open Go.RowKit Go.Maps
open Dsk (gt hid undrew keep_old keep_cell lt_cell Rd)
open Cch (Fr wpAnyK wpAnyK_done wp_region_K)
open Jrn (Pv2 Row5 numAt RB fr_two trunkN rootN putN nul)
section
variable {arm:Prop} {room croom K:Nat} {p q:Nat} {R:Nat→Prop} {t:RS} {w:World}
def NewR(R:Nat→Prop)(w W:World):Nat→Prop:=fun b=>R b∨(w.heap.size≤b∧b<W.heap.size)
variable {W:World}
theorem PrgAt.work(h:PrgAt arm room croom K w p q R t)(hf:Fr R w W):PrgAt arm room croom K W p q (NewR R w W) t:=by
 obtain ⟨x,P,C,d,s,n,enc,ms,h⟩:=h
 refine ⟨x,P,C,d,s,n,enc,ms,h.live.off hf h.off,h.q,h.busy,h.com,h.mb,h.mr,fun b hb hR=>?_,h.sure,h.env,h.ops,h.hm,h.rm,h.nk,h.nm,fun b hb=>?_⟩
 ·rcases hR with hR |hR
  ·exact h.off b hb hR
  ·have:=h.live.lt b hb;omega
 ·rcases hb with hb |hb
  ·exact Nat.lt_of_lt_of_le (h.rl b hb) hf.size
  ·exact hb.2
theorem PrgAt.ne0(h:PrgAt arm room croom K w p q R t){g:Nat}(hg:R g):g≠0:=by
 obtain ⟨x,P,C,d,s,n,enc,ms,h⟩:=h
 rintro rfl
 exact h.off 0 (Or.inr (Or.inr (Or.inl rfl))) hg
variable {g:Nat}
theorem Rok.own{w':World}(h:PrgAt arm room croom K w p q (Plus R g) t)(hg:¬R g)(hf:Fr (fun b=>b=g) w w'):Rok R w w':=fr_imp hf (fun b hb=>by subst hb;exact ⟨hg,h.ne0 (Or.inr rfl)⟩)
def BX4(b1:Nat)(n1:Int)(g1 c1 b2:Nat)(n2:Int)(g2 c2:Nat)(W:World):Prop:=BX2 b1 n1 g1 c1 W∧BX2 b2 n2 g2 c2 W
variable {W':World} {c b:Nat} {n:Int}
theorem BX2.keep(h:BX2 b n g c W)(hb:Below W.heap.size W W'):BX2 b n g c W':=⟨keep_old hb h.1,keep_old hb h.2⟩
theorem BX2.fr{E:Nat→Prop}(h:BX2 b n g c W)(hf:Fr E W W')(hE:¬E b):BX2 b n g c W':=⟨fr_cell hf h.1 hE,fr_cell hf h.2 hE⟩
theorem BX4.keep{b1:Nat}{n1:Int}{g1 c1 b2:Nat}{n2:Int}{g2 c2:Nat}(h:BX4 b1 n1 g1 c1 b2 n2 g2 c2 W)(hb:Below W.heap.size W W'):BX4 b1 n1 g1 c1 b2 n2 g2 c2 W':=⟨h.1.keep hb,h.2.keep hb⟩
theorem give_newS(hb g cap c n:Nat)(ws:List Nat)(h:PrgAt arm room croom K w p q (Plus R g) t)(hh:HeapAt w hb p)(hR:R hb)(hgR:¬R g)(hr:Row5 w 0 g cap (rootN 0 c ws))(hw:ws.length=60)(hc:c<4000)(hbz:t.busy=true)(hn1:2≤n)(hn:n≤t.now.length)(hn4:n≤4000)(hK:K+2≤500000) :
  Calls Tryz.prog 82 #[.pointer (some ⟨hb,0,none⟩),Pv2 1 g 0 cap,.int .i64 (n:Int)] w fun e w'=>e=.returned (.int .i64 0)∧PrgAt arm room croom (K+2) w' p q (Plus R g) ((t.put (n - 1) (trunkN 0 [])).put 0 (rootN n (c+1) ws))∧Rok R w w'∧Row5 w' 0 g cap (rootN n (c+1) ws):=by
 obtain ⟨W0,hW0⟩:∃ W0,W0=w.alloc (.cells #[.int .i64 1,.slice (some ⟨g,0,none⟩) 512 cap] 70):=⟨_,rfl⟩
 have B0:=hid (show Below w.heap.size w W0 by rw [hW0];exact Below.alloc (Below.refl _ _) (Nat.le_refl _) _)
 have X0:=hid (show RB 70 W0 w.heap.size 1 (some ⟨g,0,none⟩) 512 cap by rw [hW0];exact RB.new _ _ _ _ _ _)
 have R0:=hid (hr.keep B0.out)
 have CC:=hid (fun W (hW:Row5 W 0 g cap (rootN 0 c ws))=>Jrn.count_any 1 g 0 cap _ W hW.rd (Jrn.rootN_bytes _ _ _))
 rw [Jrn.root_count 0 c ws (by omega)]at CC
 have CF:=hid (fun W (hW:Row5 W 0 g cap (rootN 0 c ws))=>Jrn.first_any 1 g 0 cap _ W hW.rd (Jrn.rootN_bytes _ _ _))
 rw [Jrn.root_first 0 c ws (by omega)]at CF
 have CT:=hid (fun W=>Jrn.newTrunk_any (n:Int) 0 W (by omega))
 have CN:=hid (fun W g2 B (hW:Row5 W B g2 512 (trunkN 0 []))=>Jrn.next_any (n:Int) g2 0 512 _ W hW.rd (Jrn.trunkN_bytes _ _))
 rw [Jrn.trunk_next 0 [] (by omega)]at CN
 have CL:=hid (fun W (hW:Row5 W 0 g cap (rootN 0 c ws))=>Jrn.lead_any 1 0 g cap _ n (c+1) W hW (by omega) (by omega) (by omega) (by omega))
 rw [Jrn.root_lead]at CL
 have H:=hid h;have HH:=hid hh;have HR:=hid hR;have HGR:=hid hgR;have HW0:=hid hW0;have HN:=hid hn;have HBZ:=hid hbz;have HWS:=hid hw
 have k1:¬((c:Int)=4294967295):=by omega
 have e1:(c:Int)+1=((c+1:Nat):Int):=by omega
 have e2:IntKind.i64.wrap ((c+1:Nat):Int)=((c+1:Nat):Int):=IntWalk.i64_in _ ⟨by omega,by omega⟩
 have HGL:=hid (show g<w.heap.size from hr.lt)
 clear h hh hR hgR hr hW0 hn hbz hw
 generalize c+1=M at *
 unfold Pv2 at *
 have t0:Hid True:=hid trivial
 go_enter Tryz.func82,Tryz.ntmps82
 go_upto_region 11 with (first
  | (go_at_call 59;clear t0;rw [←HW0.out];refine (CC.out W0 R0.out).mono ?_;rintro e w1 ⟨rfl,hb1⟩;have B1:=hid (gt B0.out hb1);have R1:=hid (R0.out.keep hb1);have X1:=hid (X0.out.keep hb1);obtain ⟨x0,x1,x2,x3⟩:=X1.out.cells;clear hb1)
  | (go_at_call 58;refine (CF.out w1 R1.out).mono ?_;rintro e w2 ⟨rfl,hb2⟩;have B2:=hid (gt B1.out hb2);have R2:=hid (R1.out.keep hb2);have X2:=hid (X1.out.keep hb2);clear hb2 x0 x1 x2 x3)
  | (go_at_call 109;refine (CT.out w2).mono ?_;rintro e w3 ⟨g2,rfl,hg2,hr3,hb3⟩;rw [show Jrn.putAt nul 0 (putN 0 4 false)=trunkN 0 [] from Jrn.trunk_put0 0]at hr3;have B3:=hid (gt B2.out hb3);have R3:=hid (R2.out.keep hb3);have X3:=hid (X2.out.keep hb3);have G2:=hid hg2;have T3:=hid hr3;clear hb3 hr3 hg2)
  | (go_at_call 65;refine (CN.out _ g2 _ (T3.out.keep (Below.alloc (Below.refl _ _) (Nat.le_refl _) _))).mono ?_;rintro e w5 ⟨rfl,hb5⟩;have B4:=hid (gt (Below.alloc (Below.refl _ _) (Nat.le_refl _) (.cells #[.int .i64 (n:Int),.slice (some ⟨g2,0,none⟩) 512 512] 115)) hb5);have Z5:=hid ((RB.new 115 w3 (n:Int) (some ⟨g2,0,none⟩) 512 512).keep hb5);clear hb5))
 have B5:=hid (gt B3.out B4.out)
 have X5:=hid (X3.out.keep B4.out);have R5:=hid (R3.out.keep B4.out);have T5:=hid (T3.out.keep B4.out)
 have hs5:BX4 w.heap.size 1 g cap w3.heap.size (n:Int) g2 512 w5.drew:=⟨⟨X5.out.cells.1,X5.out.cells.2.1⟩,⟨Z5.out.cells.1,Z5.out.cells.2.1⟩⟩
 have hg2:¬g2=g:=by have h1:=G2.out;have h2:=HGL.out;have h3:=B2.out.size;omega
 have hb1:¬w.heap.size=g:=by have h2:=HGL.out;omega
 have hb2:¬w3.heap.size=g:=by have h2:=HGL.out;have h3:=B3.out.size;omega
 have HB1:=hid hb1;have HB2:=hid hb2;have HG2:=hid hg2
 clear CN CT CF
 refine wp_region_K (S:=BX4 w.heap.size 1 g cap w3.heap.size (n:Int) g2 512) (fun _=>false) (by kernel_rfl) hs5 (fun hHeld=>?_)
 refine gkt 0 ?_ (h:=by intro W hSw;obtain ⟨⟨k0,k1⟩,k2,k3⟩:=hSw;go_simp;first |done |with_reducible rfl)
 refine gkp 1 ?_
 refine gkp 2 ?_
 refine gkt 3 ?_ (h:=by intro W hSw;obtain ⟨⟨k0,k1⟩,k2,k3⟩:=hSw;go_simp;first |done |with_reducible rfl)
 refine gkt 4 ?_ (h:=by intro W hSw;obtain ⟨⟨k0,k1⟩,k2,k3⟩:=hSw;go_simp;first |done |with_reducible rfl)
 refine gk1 5 (fun K hK=>?_)
 go_simp
 go_at_call 59;refine (CC.out w5.drew (R5.out.keep (Below.refl _ _).drew)).mono ?_;rintro e w6 ⟨rfl,hb6⟩;have B6:=hid (show Below w5.heap.size w5 w6 from undrew hb6);have hR:BX4 w.heap.size 1 g cap w3.heap.size (n:Int) g2 512 w6:=hs5.keep hb6;have R6:=hid (R5.out.keep B6.out);have T6:=hid (T5.out.keep B6.out);clear hb6
 refine hK.out _ _ hR (fun hHeld=>?_)
 clear hK K
 (try simp only [Act.put,sA,sZ,sS])
 refine gkp 6 ?_
 refine gk1 7 (fun K hK=>?_)
 go_simp
 go_at_call 111;refine (CL.out w6 R6.out).mono ?_;rintro e w7 ⟨rfl,hr7,hf7⟩;have R7:=hid hr7;have F7:=hid hf7;have hR:BX4 w.heap.size 1 g cap w3.heap.size (n:Int) g2 512 w7:=⟨hHeld.1.fr hf7 HB1.out,hHeld.2.fr hf7 HB2.out⟩;have T7:=hid (T6.out.fr hf7 HG2.out);clear hr7 hf7
 refine hK.out _ _ hR (fun hHeld=>?_)
 clear hK K
 (try simp only [Act.put,sA,sZ,sS])
 refine wpAnyK_done (by kernel_rfl) ?_ _
 obtain ⟨⟨k0,k1⟩,k2,k3⟩:=hR
 clear hHeld hs5
 have FA:=hid (show Fr (Plus R g) w w7 from ((Fr.of_below (gt B5.out B6.out)).trans (fr_imp F7.out (fun b hb=>Or.inr hb)) (fun _ _ h=>h)))
 obtain ⟨W8,hW8⟩:∃ W8,W8=w7.alloc (.cells #[.int .i64 (n:Int),.slice (some ⟨g2,0,none⟩) 512 512,.int .i64 1,.slice (some ⟨g,0,none⟩) 512 cap] 68):=⟨_,rfl⟩
 have B8:=hid (show Below w7.heap.size w7 W8 by rw [hW8];exact Below.alloc (Below.refl _ _) (Nat.le_refl _) _)
 have Y8:=hid (show W8.heap[w7.heap.size]? = some (.cells #[.int .i64 (n:Int),.slice (some ⟨g2,0,none⟩) 512 512,.int .i64 1,.slice (some ⟨g,0,none⟩) 512 cap] 68 (0,0)) by rw [hW8];exact heap_alloc_new _ _)
 have HW8:=hid hW8
 have P8:=hid (H.out.work (FA.out.trans (Fr.of_below (S:=fun _=>False) B8.out) (fun _ _ h=>h.elim)))
 clear hW8
 have FG:=hid (show Fr (fun b=>b=g) w w7 from ((Fr.of_below (gt B5.out B6.out)).trans F7.out (fun _ _ h=>h)))
 have H8:=hid ((HH.out.fr FG.out (fun e=>HGR.out (e▸HR.out))).keep B8.out)
 have hpg:Pgs W8 w7.heap.size [⟨n,g2,512,trunkN 0 []⟩,⟨1,g,cap,rootN n M ws⟩]:=fun i x hx=>by
  have y:=Y8.out
  match i,hx with
  | 0,hx=>simp at hx;subst hx;exact ⟨by simp [World.cell?,y],by simp [World.cell?,y],(T7.out.keep B8.out).rd⟩
  | 1,hx=>simp at hx;subst hx;exact ⟨by simp [World.cell?,y],by simp [World.cell?,y],(R7.out.keep B8.out).rd⟩
  | i+2,hx=>simp at hx
 have CPut:=hid (hput_any (R:=NewR (Plus R g) w W8) hb w7.heap.size 2 [⟨n,g2,512,trunkN 0 []⟩,⟨1,g,cap,rootN n M ws⟩] P8.out H8.out (Or.inl (Or.inl HR.out)) hpg
  (Or.inr ⟨by have h1:=B5.out.size;have h2:=B6.out.size;have h3:=F7.out.size;omega,(Array.getElem?_eq_some_iff.1 Y8.out).1⟩)
  (by
   intro x hx
   simp only [List.mem_cons,List.mem_nil_iff,or_false]at hx
   rcases hx with rfl |rfl
   ·exact Or.inr ⟨by have h1:=G2.out;have h2:=B2.out.size;show w.heap.size≤g2;omega,Nat.lt_of_lt_of_le T7.out.lt B8.out.size⟩
   ·exact Or.inl (Or.inr rfl)) HBZ.out
  (by
   intro x hx
   simp only [List.mem_cons,List.mem_nil_iff,or_false]at hx
   rcases hx with rfl |rfl
   ·exact ⟨by show 1≤n;omega,HN.out⟩
   ·exact ⟨Nat.le_refl _,by have:=HN.out;show 1≤t.now.length;omega⟩)
  (by
   intro x hx
   simp only [List.mem_cons,List.mem_nil_iff,or_false]at hx
   rcases hx with rfl |rfl
   ·exact Jrn.trunkN_bytes _ _
   ·exact Jrn.rootN_bytes _ _ _) (by simpa using hK))
 clear hpg
 go_wp2_with (go_at_call 43;rw [←HW8.out];refine CPut.out.mono ?_;rintro e w9 ⟨rfl,hP9,hok9⟩;have P9:=hid hP9;have K9:=hid hok9;clear hP9 hok9)
 go_ret
 refine ⟨rfl,P9.out.less (fun b hb=>Or.inl hb),((Rok.own H.out HGR.out FG.out).below B8.out).then K9.out (fun b hb=>Or.inl (Or.inl hb)),(R7.out.keep B8.out).fr K9.out (fun e=>e.1 (Or.inl (Or.inr rfl)))⟩
theorem give_new(hb g cap c n:Nat)(ws:List Nat)(h:PrgAt arm room croom K w p q (Plus R g) t)(hh:HeapAt w hb p)(hR:R hb)(hgR:¬R g)(hr:Row5 w 0 g cap (rootN 0 c ws))(hw:ws.length=60)(hc:c<4000)(hbz:t.busy=true)(hn1:2≤n)(hn:n≤t.now.length)(hn4:n≤4000)(hK:K+2≤500000) :
  Calls Tryz.prog 82 #[.pointer (some ⟨hb,0,none⟩),Pv2 1 g 0 cap,.int .i64 (n:Int)] w fun e w'=>e=.returned (.int .i64 0)∧PrgAt arm room croom (K+2) w' p q R ((t.put (n - 1) (trunkN 0 [])).put 0 (rootN n (c+1) ws))∧Rok R w w':=(give_newS hb g cap c n ws h hh hR hgR hr hw hc hbz hn1 hn hn4 hK).mono (fun _ _ h=>⟨h.1,h.2.1.less (fun _ hb=>Or.inl hb),h.2.2.1⟩)
end
end
section
open Go.RowKit Go.Maps
open Dsk (gt hid undrew keep_old keep_cell lt_cell Rd)
open Cch (Fr wpAnyK wpAnyK_done wp_region_K)
open Jrn (Pv2 Row5 numAt RB fr_two trunkN rootN putN nul)
section
variable {arm:Prop} {room croom K:Nat} {p q:Nat} {R:Nat→Prop} {t:RS} {w:World}
end
end
section
open Go.RowKit Go.Maps
open Dsk (gt hid undrew keep_old keep_cell lt_cell Rd)
open Cch (Fr wpAnyK wpAnyK_done wp_region_K)
open Jrn (Pv2 Row5 numAt RB fr_two trunkN rootN putN nul)
section
variable {arm:Prop} {room croom K:Nat} {p q:Nat} {R:Nat→Prop} {t:RS} {w:World}
end
end
section
open Go.RowKit Go.Maps
open Dsk (gt hid undrew keep_old keep_cell lt_cell Rd)
open Cch (Fr wpAnyK wpAnyK_done wp_region_K)
open Jrn (Pv2 Row5 numAt RB fr_two trunkN rootN putN nul)
section
variable {arm:Prop} {room croom K:Nat} {p q:Nat} {R:Nat→Prop} {t:RS} {w:World}
theorem give_moreS(hb g cap c n j nx:Nat)(ls ws:List Nat)(h:PrgAt arm room croom K w p q (Plus R g) t)(hh:HeapAt w hb p)(hR:R hb)(hgR:¬R g)(hr:Row5 w 0 g cap (rootN (j+1) c ws))(hc:c<4000)(hbz:t.busy=true)(hn1:2≤n)(hn:n≤t.now.length)(hn4:n≤4000)(hj1:1≤j)(hj:j<t.now.length)(hj4:j<4000)(hx:t.now.getD j []=trunkN nx ls)(hl:ls.length<126)(hK:K+3≤500000) :
  Calls Tryz.prog 82 #[.pointer (some ⟨hb,0,none⟩),Pv2 1 g 0 cap,.int .i64 (n:Int)] w fun e w'=>e=.returned (.int .i64 0)∧PrgAt arm room croom (K+3) w' p q (Plus R g) ((t.put j (trunkN nx (ls++[n]))).put 0 (rootN (j+1) (c+1) ws))∧Rok R w w'∧Row5 w' 0 g cap (rootN (j+1) (c+1) ws):=by
 have hpb:t.pages=t.now:=RS.pages_busy hbz
 obtain ⟨W0,hW0⟩:∃ W0,W0=w.alloc (.cells #[.int .i64 1,.slice (some ⟨g,0,none⟩) 512 cap] 70):=⟨_,rfl⟩
 have B0:=hid (show Below w.heap.size w W0 by rw [hW0];exact Below.alloc (Below.refl _ _) (Nat.le_refl _) _)
 have X0:=hid (show RB 70 W0 w.heap.size 1 (some ⟨g,0,none⟩) 512 cap by rw [hW0];exact RB.new _ _ _ _ _ _)
 have R0:=hid (hr.keep B0.out)
 have CC:=hid (fun W (hW:Row5 W 0 g cap (rootN (j+1) c ws))=>Jrn.count_any 1 g 0 cap _ W hW.rd (Jrn.rootN_bytes _ _ _))
 rw [Jrn.root_count _ c ws (by omega)]at CC
 have CF:=hid (fun W (hW:Row5 W 0 g cap (rootN (j+1) c ws))=>Jrn.first_any 1 g 0 cap _ W hW.rd (Jrn.rootN_bytes _ _ _))
 rw [Jrn.root_first _ c ws (by omega)]at CF
 have CT:=hid (fun W=>Jrn.newTrunk_any (n:Int) (j+1) W (by omega))
 have CN:=hid (fun W g2 B (hW:Row5 W B g2 512 (trunkN (j+1) []))=>Jrn.next_any (n:Int) g2 0 512 _ W hW.rd (Jrn.trunkN_bytes _ _))
 rw [Jrn.trunk_next (j+1) [] (by omega)]at CN
 have CY:=hid (fun W (hW:HeapAt W hb p) (RR:Nat→Prop) (hP:PrgAt arm room croom K W p q RR t)=>trunk_yes (R:=RR) hb j nx ls hP hW hj1 (by rw [hpb];exact hj) (by rw [hpb];exact hx) (by omega) (by omega))
 have CS:=hid (fun W g3 cp3 B (hW:Row5 W B g3 cp3 (trunkN nx ls))=>Jrn.size_any ((j+1:Nat):Int) g3 0 cp3 _ W hW.rd (Jrn.trunkN_bytes _ _))
 rw [Jrn.trunk_size nx ls (by omega)]at CS
 have CA:=hid (fun W g3 cp3 B (hW:Row5 W B g3 cp3 (trunkN nx ls)) (hl2:ls.length<126)=>Jrn.tadd_any ((j+1:Nat):Int) B g3 cp3 nx n ls W hW hl2 (by omega))
 have CL:=hid (fun W (hW:Row5 W 0 g cap (rootN (j+1) c ws))=>Jrn.lead_any 1 0 g cap _ (j+1) (c+1) W hW (by omega) (by omega) (by omega) (by omega))
 rw [Jrn.root_lead]at CL
 have hls:(ls.length:Int)<126:=by omega
 have H:=hid h;have HH:=hid hh;have HR:=hid hR;have HGR:=hid hgR;have HW0:=hid hW0;have HN:=hid hn;have HBZ:=hid hbz;have HJ:=hid hj;have HLS:=hid hl
 have k1:¬((c:Int)=4294967295):=by omega
 have e1:(c:Int)+1=((c+1:Nat):Int):=by omega
 have e2:IntKind.i64.wrap ((c+1:Nat):Int)=((c+1:Nat):Int):=IntWalk.i64_in _ ⟨by omega,by omega⟩
 have HGL:=hid (show g<w.heap.size from hr.lt)
 clear h hh hR hgR hr hW0 hn hbz hpb hx hj hl
 obtain ⟨z,hz⟩:∃ z:Nat,z=j+1:=⟨_,rfl⟩
 rw [←hz]at CC CF CT CN CY CS CA CL R0 ⊢
 have HZ:=hid hz
 have hz0:¬((z:Int)=0):=by omega
 have HZ1:=hid (show 2≤z by omega)
 clear hz
 generalize c+1=M at *
 generalize ls.length=LL at *
 unfold Pv2 at *
 have t0:Hid True:=hid trivial
 have t1:Hid True:=hid trivial
 go_enter Tryz.func82,Tryz.ntmps82
 go_upto_region 11 with (first
  | (go_at_call 59;clear t0;rw [←HW0.out];refine (CC.out W0 R0.out).mono ?_;rintro e w1 ⟨rfl,hb1⟩;have B1:=hid (gt B0.out hb1);have R1:=hid (R0.out.keep hb1);have X1:=hid (X0.out.keep hb1);obtain ⟨x0,x1,x2,x3⟩:=X1.out.cells;clear hb1)
  | (go_at_call 58;refine (CF.out w1 R1.out).mono ?_;rintro e w2 ⟨rfl,hb2⟩;have B2:=hid (gt B1.out hb2);have R2:=hid (R1.out.keep hb2);have X2:=hid (X1.out.keep hb2);clear hb2 x0 x1 x2 x3)
  | (go_at_call 109;refine (CT.out w2).mono ?_;rintro e w3 ⟨g2,rfl,hg2,hr3,hb3⟩;rw [show Jrn.putAt nul 0 (putN z 4 false)=trunkN z [] from Jrn.trunk_put0 z]at hr3;have B3:=hid (gt B2.out hb3);have R3:=hid (R2.out.keep hb3);have X3:=hid (X2.out.keep hb3);have G2:=hid (Nat.le_trans B2.out.size hg2);have T3:=hid hr3;clear hb3 hr3 hg2)
  | (go_at_call 65;clear t1;refine (CN.out _ g2 _ (T3.out.keep (Below.alloc (Below.refl _ _) (Nat.le_refl _) _))).mono ?_;rintro e w5 ⟨rfl,hb5⟩;have B4:=hid (gt (Below.alloc (Below.refl _ _) (Nat.le_refl _) (.cells #[.int .i64 (n:Int),.slice (some ⟨g2,0,none⟩) 512 512] 115)) hb5);have Z5:=hid ((RB.new 115 w3 (n:Int) (some ⟨g2,0,none⟩) 512 512).keep hb5);have T5:=hid (T3.out.keep B4.out);obtain ⟨z0,z1,z2,z3⟩:=Z5.out.cells;clear hb5)
  | (go_at_call 65;refine (CN.out w5 g2 _ T5.out).mono ?_;rintro e w6 ⟨rfl,hb6⟩;have B6:=hid (gt (gt B3.out B4.out) hb6);have P6:=hid (H.out.work (Fr.of_below B6.out));have H6:=hid (HH.out.keep B6.out);have X6:=hid ((X3.out.keep B4.out).keep hb6);have R6:=hid ((R3.out.keep B4.out).keep hb6);have Z6:=hid (Z5.out.keep hb6);have T6:=hid (T5.out.keep hb6);clear hb6 z0 z1 z2 z3)
  | (go_at_call 60;refine (CY.out w6 H6.out _ P6.out).mono ?_;rintro e w7 ⟨g3,cp3,rfl,hr7,hg7,hP7,hok7⟩;have U7:=hid hr7;have G7:=hid hg7;have P7:=hid hP7;have K7:=hid hok7;have X7:=hid (show RB 70 w7 w.heap.size 1 (some ⟨g,0,none⟩) 512 cap from (hok7.at_ (Or.inr ⟨Nat.le_refl _,X6.out.lt⟩) X6.out.lt).trans X6.out);have Z7:=hid (show RB 115 w7 w3.heap.size (n:Int) (some ⟨g2,0,none⟩) 512 512 from (hok7.at_ (Or.inr ⟨B3.out.size,Z6.out.lt⟩) Z6.out.lt).trans Z6.out);have R7:=hid (R6.out.fr hok7 (fun e=>e.1 (Or.inl (Or.inr rfl))));have T7:=hid (T6.out.fr hok7 (fun e=>e.1 (Or.inr ⟨G2.out,T6.out.lt⟩)));clear hr7 hg7 hP7 hok7)
  | (go_at_call 62;refine (CS.out _ g3 cp3 _ (U7.out.keep (Below.alloc (Below.refl _ _) (Nat.le_refl _) _))).mono ?_;rintro e w8 ⟨rfl,hb8⟩;have B8:=hid (gt (Below.alloc (Below.refl _ _) (Nat.le_refl _) (.cells #[.int .i64 (z:Int),.slice (some ⟨g3,0,none⟩) 512 cp3] 115)) hb8);have Y8:=hid ((RB.new 115 w7 (z:Int) (some ⟨g3,0,none⟩) 512 cp3).keep hb8);have U8:=hid (U7.out.keep B8.out);have X8:=hid (X7.out.keep B8.out);have Z8:=hid (Z7.out.keep B8.out);have R8:=hid (R7.out.keep B8.out);have T8:=hid (T7.out.keep B8.out);obtain ⟨y0,y1,y2,y3⟩:=Y8.out.cells;clear hb8)
  | (go_at_call 110;refine (CA.out w8 g3 cp3 _ U8.out HLS.out).mono ?_;rintro e w9 ⟨rfl,hr9,hf9⟩;have U9:=hid hr9;have F9:=hid hf9;have X9:=hid (X8.out.fr hf9 (fun e=>by have h1:=G7.out;have h2:=X6.out.lt;omega));have Z9:=hid (Z8.out.fr hf9 (fun e=>by have h1:=G7.out;have h2:=Z6.out.lt;omega));have Y9:=hid (Y8.out.fr hf9 (fun e=>by have h1:=U7.out.lt;omega));have R9:=hid (R8.out.fr hf9 (fun e=>by have h1:=G7.out;have h2:=R6.out.lt;omega));obtain ⟨y0,y1,y2,y3⟩:=Y9.out.cells;obtain ⟨z0,z1,z2,z3⟩:=Z9.out.cells;clear hr9 hf9))
 obtain ⟨w10,hw10⟩:∃ w10,w10=(w9.setCell ⟨w3.heap.size,0,none⟩ (.int .i64 (z:Int))).setCell ⟨w3.heap.size,1,none⟩ (.slice (some ⟨g3,0,none⟩) 512 cp3):=⟨_,rfl⟩
 have F10:=hid (show Fr (fun b=>b=w3.heap.size) w9 w10 by rw [hw10];exact fr_two _ _ _ _)
 have V10:=hid (show RB 115 w10 w3.heap.size (z:Int) (some ⟨g3,0,none⟩) 512 cp3 by rw [hw10];exact RB.set Z9.out _ _ _ _)
 rw [←hw10]
 have X10:=hid (X9.out.fr F10.out (fun e=>by have h1:=B2.out.size;have h2:=X2.out.lt;have h3:=B3.out.size;have h4:=X3.out.lt;omega))
 have R10:=hid (R9.out.fr F10.out (fun e=>by have h1:=B3.out.size;have h2:=HGL.out;omega))
 have U10:=hid ((U9.out.fr F10.out (fun e=>by have h1:=G7.out;have h2:=Z6.out.lt;omega)).base (Nat.zero_le _))
 have Q10:=hid (show Fr (fun b=>b=g3∨b=w3.heap.size) w7 w10 from ((Fr.of_below (S:=fun b=>b=g3∨b=w3.heap.size) B8.out).trans F9.out (fun _ _ h=>Or.inl h)).trans F10.out (fun _ _ h=>Or.inr h))
 clear hw10 CF CT CN CY CS CA
 have hs10:BX4 w.heap.size 1 g cap w3.heap.size (z:Int) g3 cp3 w10.drew:=⟨⟨X10.out.cells.1,X10.out.cells.2.1⟩,⟨V10.out.cells.1,V10.out.cells.2.1⟩⟩
 have HB1:=hid (show ¬w.heap.size=g by have h2:=HGL.out;omega)
 have HB2:=hid (show ¬w3.heap.size=g by have h2:=HGL.out;have h3:=B3.out.size;omega)
 have HG2:=hid (show ¬g3=g from (fun e=>by have h1:=G7.out;have h2:=HGL.out;have h3:=B6.out.size;omega))
 refine wp_region_K (S:=BX4 w.heap.size 1 g cap w3.heap.size (z:Int) g3 cp3) (fun _=>false) (by kernel_rfl) hs10 (fun hHeld=>?_)
 refine gkt 0 ?_ (h:=by intro W hSw;obtain ⟨⟨k0,k1⟩,k2,k3⟩:=hSw;go_simp;first |done |with_reducible rfl)
 refine gkp 1 ?_
 refine gkp 2 ?_
 refine gkt 3 ?_ (h:=by intro W hSw;obtain ⟨⟨k0,k1⟩,k2,k3⟩:=hSw;go_simp;first |done |with_reducible rfl)
 refine gkt 4 ?_ (h:=by intro W hSw;obtain ⟨⟨k0,k1⟩,k2,k3⟩:=hSw;go_simp;first |done |with_reducible rfl)
 refine gk1 5 (fun K hK=>?_)
 go_simp
 go_at_call 59;refine (CC.out w10.drew (R10.out.keep (Below.refl _ _).drew)).mono ?_;rintro e w11 ⟨rfl,hb6⟩;have B11:=hid (show Below w10.heap.size w10 w11 from undrew hb6);have hR:BX4 w.heap.size 1 g cap w3.heap.size (z:Int) g3 cp3 w11:=hs10.keep hb6;have R11:=hid (R10.out.keep B11.out);have U11:=hid (U10.out.keep B11.out);clear hb6
 refine hK.out _ _ hR (fun hHeld=>?_)
 clear hK K
 (try simp only [Act.put,sA,sZ,sS])
 refine gkp 6 ?_
 refine gk1 7 (fun K hK=>?_)
 go_simp
 go_at_call 111;refine (CL.out w11 R11.out).mono ?_;rintro e w12 ⟨rfl,hr7,hf7⟩;have R12:=hid hr7;have F12:=hid hf7;have hR:BX4 w.heap.size 1 g cap w3.heap.size (z:Int) g3 cp3 w12:=⟨hHeld.1.fr hf7 HB1.out,hHeld.2.fr hf7 HB2.out⟩;have U12:=hid (U11.out.fr hf7 HG2.out);clear hr7 hf7
 refine hK.out _ _ hR (fun hHeld=>?_)
 clear hK K
 (try simp only [Act.put,sA,sZ,sS])
 refine wpAnyK_done (by kernel_rfl) ?_ _
 obtain ⟨⟨k0,k1⟩,k2,k3⟩:=hR
 clear hHeld hs10
 obtain ⟨W13,hW13⟩:∃ W13,W13=w12.alloc (.cells #[.int .i64 (z:Int),.slice (some ⟨g3,0,none⟩) 512 cp3,.int .i64 1,.slice (some ⟨g,0,none⟩) 512 cap] 68):=⟨_,rfl⟩
 have B13:=hid (show Below w12.heap.size w12 W13 by rw [hW13];exact Below.alloc (Below.refl _ _) (Nat.le_refl _) _)
 have Y13:=hid (show W13.heap[w12.heap.size]? = some (.cells #[.int .i64 (z:Int),.slice (some ⟨g3,0,none⟩) 512 cp3,.int .i64 1,.slice (some ⟨g,0,none⟩) 512 cap] 68 (0,0)) by rw [hW13];exact heap_alloc_new _ _)
 have HW13:=hid hW13
 clear hW13
 have FA:=hid (show Fr (fun b=>b=g3∨b=w3.heap.size∨b=g) w7 W13 from (((fr_imp Q10.out (S1:=fun b=>b=g3∨b=w3.heap.size∨b=g) (fun b hb=>by rcases hb with h |h;exact Or.inl h;exact Or.inr (Or.inl h))).trans (Fr.of_below (S:=fun _=>False) B11.out) (fun _ _ h=>h.elim)).trans F12.out (fun _ _ h=>Or.inr (Or.inr h))).trans (Fr.of_below (S:=fun _=>False) B13.out) (fun _ _ h=>h.elim))
 have P13:=hid (P7.out.work (fr_imp FA.out (fun b hb=>by rcases hb with h |h |h;exact Or.inr h;(subst h;exact Or.inl (Or.inr ⟨B3.out.size,Z6.out.lt⟩));exact Or.inl (Or.inl (Or.inr h)))))
 have H13:=hid ((H6.out.rok K7.out (Or.inl (Or.inl HR.out))).fr FA.out (fun e=>by rcases e with h |h |h;(have h1:=H6.out.lt;have h2:=G7.out;omega);(have h1:=HH.out.lt;have h2:=B3.out.size;omega);exact HGR.out (h▸HR.out)))
 have hpg:Pgs W13 w12.heap.size [⟨z,g3,cp3,trunkN nx (ls++[n])⟩,⟨1,g,cap,rootN z M ws⟩]:=fun i x hx=>by
  have y:=Y13.out
  match i,hx with
  | 0,hx=>simp at hx;subst hx;exact ⟨by simp [World.cell?,y],by simp [World.cell?,y],(U12.out.keep B13.out).rd⟩
  | 1,hx=>simp at hx;subst hx;exact ⟨by simp [World.cell?,y],by simp [World.cell?,y],(R12.out.keep B13.out).rd⟩
  | i+2,hx=>simp at hx
 have CPut:=hid (hput_any hb w12.heap.size 2 [⟨z,g3,cp3,trunkN nx (ls++[n])⟩,⟨1,g,cap,rootN z M ws⟩] P13.out H13.out (Or.inl (Or.inl (Or.inl (Or.inl HR.out)))) hpg
  (Or.inr ⟨by have h1:=Q10.out.size;have h2:=B11.out.size;have h3:=F12.out.size;omega,(Array.getElem?_eq_some_iff.1 Y13.out).1⟩)
  (by
   intro x hx
   simp only [List.mem_cons,List.mem_nil_iff,or_false]at hx
   rcases hx with rfl |rfl
   ·exact Or.inl (Or.inr rfl)
   ·exact Or.inl (Or.inl (Or.inl (Or.inr rfl)))) HBZ.out
  (by
   intro x hx
   simp only [List.mem_cons,List.mem_nil_iff,or_false]at hx
   rcases hx with rfl |rfl
   ·exact ⟨(by have:=HZ1.out;show 1≤z;omega),(by have h1:=HJ.out;have h2:=HZ.out;show z≤t.now.length;omega)⟩
   ·exact ⟨Nat.le_refl _,by have:=HJ.out;show 1≤t.now.length;omega⟩)
  (by
   intro x hx
   simp only [List.mem_cons,List.mem_nil_iff,or_false]at hx
   rcases hx with rfl |rfl
   ·exact Jrn.trunkN_bytes _ _
   ·exact Jrn.rootN_bytes _ _ _) (by show K+1+2≤500000;omega))
 clear hpg
 go_wp2_with (go_at_call 43;rw [←HW13.out];refine CPut.out.mono ?_;rintro e w14 ⟨rfl,hP9,hok9⟩;have P14:=hid hP9;have K14:=hid hok9;clear hP9 hok9)
 go_ret
 refine ⟨rfl,?_,?_,(R12.out.keep B13.out).fr K14.out (fun e=>e.1 (Or.inl (Or.inl (Or.inl (Or.inr rfl)))))⟩
 ·have:=P14.out.less (R':=Plus R g) (fun b hb=>Or.inl (Or.inl (Or.inl hb)))
  simp only [RS.puts,show z - 1=j by have:=HZ.out;omega]at this
  exact this
 ·have q1:Rok R w w7:=Rok.after B6.out K7.out (fun b hb=>Or.inl (Or.inl hb))
  have q2:Rok R w W13:=q1.trans FA.out (fun b hb1 hb=>by rcases hb with rfl |rfl |rfl;(have h1:=G7.out;have h2:=B6.out.size;omega);(have h2:=B3.out.size;omega);exact ⟨HGR.out,H.out.ne0 (Or.inr rfl)⟩)
  exact q2.then K14.out (fun b hb=>Or.inl (Or.inl (Or.inl (Or.inl hb))))
theorem give_more(hb g cap c n j nx:Nat)(ls ws:List Nat)(h:PrgAt arm room croom K w p q (Plus R g) t)(hh:HeapAt w hb p)(hR:R hb)(hgR:¬R g)(hr:Row5 w 0 g cap (rootN (j+1) c ws))(hc:c<4000)(hbz:t.busy=true)(hn1:2≤n)(hn:n≤t.now.length)(hn4:n≤4000)(hj1:1≤j)(hj:j<t.now.length)(hj4:j<4000)(hx:t.now.getD j []=trunkN nx ls)(hl:ls.length<126)(hK:K+3≤500000) :
  Calls Tryz.prog 82 #[.pointer (some ⟨hb,0,none⟩),Pv2 1 g 0 cap,.int .i64 (n:Int)] w fun e w'=>e=.returned (.int .i64 0)∧PrgAt arm room croom (K+3) w' p q R ((t.put j (trunkN nx (ls++[n]))).put 0 (rootN (j+1) (c+1) ws))∧Rok R w w':=(give_moreS hb g cap c n j nx ls ws h hh hR hgR hr hc hbz hn1 hn hn4 hj1 hj hj4 hx hl hK).mono (fun _ _ h=>⟨h.1,h.2.1.less (fun _ hb=>Or.inl hb),h.2.2.1⟩)
end
end
section
open Go.RowKit Go.Maps
open Dsk (gt hid undrew keep_old keep_cell lt_cell Rd)
open Cch (Fr wpAnyK wpAnyK_done wp_region_K)
open Jrn (Pv2 Row5 numAt RB fr_two trunkN rootN putN nul)
section
variable {arm:Prop} {room croom K:Nat} {p q:Nat} {R:Nat→Prop} {t:RS} {w:World}
end
end
end Go.Proofs.YtneemfbnjkcflaaGreatDoor
