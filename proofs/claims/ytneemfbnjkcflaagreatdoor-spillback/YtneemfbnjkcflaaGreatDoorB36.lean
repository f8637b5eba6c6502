/- The list of free pages as plain numbers: what is taken, given and trimmed; no statement of the seat is proved here. -/
import Derived.Test.YtneemfbnjkcflaaGreatDoorB35
import Derived.Test.YtneemfbnjkcflaaGreatDoorB34
import Derived.Test.YtneemfbnjkcflaaGreatDoorB20
import Derived.Test.YtneemfbnjkcflaaGreatDoorB10
import Derived.Laws.ResultCell
import Derived.Test.YtneemfbnjkcflaaGreatDoorB19
set_option maxHeartbeats 16000000
set_option maxRecDepth 20000
namespace Go.Proofs.YtneemfbnjkcflaaGreatDoor
end Go.Proofs.YtneemfbnjkcflaaGreatDoor
namespace Go.Proofs.YtneemfbnjkcflaaGreatDoor
section
open Go.RowKit Go.Maps
open Dsk (gt hid undrew keep_old keep_cell lt_cell Rd)
open Cch (Fr wpAnyK wpAnyK_done wp_region_K)
open Jrn (Pv2 Row5 numAt RB fr_two trunkN rootN putN nul)
section
variable {arm:Prop} {room croom K:Nat} {p q:Nat} {R:Nat→Prop} {t:RS} {w:World}
theorem AO.at_{B:Nat}{W0 W:World}{v:Value}{l:List Nat}{Q:Nat→Prop}(h:AO arm room croom K p q Q t B W0 v l W):PrgAt arm room croom K W p q Q t:=h.p.less (fun _ hb=>Or.inl hb)
theorem Take_grow(hb:Nat)(ws:List Nat)(h:PrgAt arm room croom K w p q R t)(hh:HeapAt w hb p)(hR:R hb)(hx:t.now.getD 0 []=rootN 0 0 ws)(hbz:t.busy=true)(hn:0<t.now.length)(hn4:t.now.length<4000)(hK:K+2≤500000) :
  Calls Tryz.prog 52 #[.pointer (some ⟨hb,0,none⟩)] w fun e w'=>e=.returned (.tuple #[.int .i64 ((t.now.length+1:Nat):Int),.int .i64 0])∧PrgAt arm room croom (K+2) w' p q R t.grow∧Rok R w w':=by
 have hpb:t.pages=t.now:=RS.pages_busy hbz
 have CG:=hid (changing_yes hb h hh hbz (by rw [hpb];exact hn) (by omega))
 rw [hpb,hx]at CG
 have CLi:=hid (fun W g cap RR B0 (hP:PrgAt arm room croom (K+1) W p q RR t) (hH:HeapAt W hb p) (h1:RR hb) (h2:Row5 W B0 g cap (rootN 0 0 ws))=>list_any (R:=RR) hb g cap 0 0 B0 ws [] hP hH h1 h2 (by omega) (by omega) rfl rfl (by rw [hpb];exact hn) (by rw [hpb];omega) (by omega) (by simp;omega))
 have CW:=hid (fun W RR (hP:PrgAt arm room croom (K+1) W p q RR t)=>prg_grow_yes (R:=RR) hP hbz hn4 (by omega))
 have HH:=hid hh;have HR:=hid hR;have H:=hid h
 clear h hh hR hx hpb
 unfold Pv2 at *
 go_enter Tryz.func52,Tryz.ntmps52
 go_wp2_with (first
  | (go_at_call 81;refine CG.out.mono ?_;rintro e w1 ⟨g,cap,rfl,hr1,hg1,hP1,hok1⟩;have B1:=hid (show Below w1.heap.size w1 (w1.alloc (.cells #[.int .i64 1,.slice (some ⟨g,0,none⟩) 512 cap] 70)) from Below.alloc (Below.refl _ _) (Nat.le_refl _) _);have R1:=hid (hr1.keep B1.out);have P1:=hid (hP1.new B1.out (Nat.le_refl _) (by simp));have K1:=hid hok1;have H1:=hid ((HH.out.rok hok1 HR.out).keep B1.out);clear hr1 hg1 hP1 hok1)
  | (go_at_call 31;refine (CLi.out _ g cap _ _ P1.out H1.out (Or.inl (Or.inl HR.out)) R1.out).mono ?_;rintro e w2 ⟨ao,cp,rfl,hA⟩;have A2:=hid hA;have H2:=hid (H1.out.rok hA.k (Or.inl (Or.inl HR.out)));have c2:=H2.out.cell;clear hA)
  | (go_at_call 42;refine (CW.out w2 _ A2.out.at_).mono ?_;rintro e w3 ⟨rfl,hP3,hok3⟩;have P3:=hid hP3;have K3:=hid hok3;clear hP3 hok3))
 go_ret2
 refine ⟨rfl,P3.out.less (fun b hb=>Or.inl (Or.inl hb)),?_⟩
 exact ((K1.out.below B1.out).then A2.out.k (fun b hb=>Or.inl (Or.inl hb))).then K3.out (fun b hb=>Or.inl (Or.inl hb))
end
end
section
open Go.RowKit Go.Maps
open Dsk (gt hid undrew keep_old keep_cell lt_cell Rd)
open Cch (Fr wpAnyK wpAnyK_done wp_region_K)
open Jrn (Pv2 Row5 numAt RB fr_two trunkN rootN putN nul)
section
variable {arm:Prop} {room croom K:Nat} {p q:Nat} {R:Nat→Prop} {t:RS} {w:World}
theorem list_lay(hb g cap B0:Nat)(ws:List Nat)(tr:List (Nat×List Nat))(h:PrgAt arm room croom K w p q R t)(hh:HeapAt w hb p)(hR:R hb)(hL:Lay t.now tr ws)(hbz:t.busy=true)(hr:Row5 w B0 g cap (rootN (firstOf tr) (flat tr).length ws))(hn4:t.now.length≤4000)(hK:K+4000≤800000) :
  Calls Tryz.prog 31 #[.pointer (some ⟨hb,0,none⟩),Pv2 1 g 0 cap] w fun e w'=>∃ ao cp,e=.returned (.tuple #[.slice ao (flat tr).length cp,.int .i64 0])∧AO arm room croom (K+tr.length) p q R t w.heap.size w (.slice ao (flat tr).length cp) (flat tr) w':=by
 have hpb:t.pages=t.now:=RS.pages_busy hbz
 have hc:=hL.count
 have hl:=flat_len tr
 have hf:firstOf tr≤4000:=by
  cases tr with
  | nil=>exact Nat.zero_le _
  | cons x r=>have:=(hL.chain.range x.1 (by rw [flat_cons];simp)).2;show x.1≤4000;omega
 exact list_any hb g cap (firstOf tr) (flat tr).length B0 ws tr h hh hR hr (by omega) (by omega) (by rw [hpb];exact hL.chain) rfl (by rw [hpb];omega) (by rw [hpb];exact hn4) (by omega) (by omega)
theorem Give_some(hb n:Nat)(t':RS)(ws:List Nat)(tr:List (Nat×List Nat))(h:PrgAt arm room croom K w p q R t)(hh:HeapAt w hb p)(hR:R hb)(hRl:∀ b,R b→b<w.heap.size)(hL:Lay t.now tr ws)(hbz:t.busy=true)(hn1:2≤n)(hn:n≤t.now.length)(hn4:t.now.length≤4000)(hK:K+5000≤500000)
  (hT:∀ W g cap,PrgAt arm room croom (K+1+tr.length) W p q (Plus R g) t→HeapAt W hb p→¬R g→Row5 W 0 g cap (rootN (firstOf tr) (flat tr).length ws)→Calls Tryz.prog 82 #[.pointer (some ⟨hb,0,none⟩),Pv2 1 g 0 cap,.int .i64 (n:Int)] W fun e w'=>e=.returned (.int .i64 0)∧PrgAt arm room croom (K+1+tr.length+3) w' p q R t'∧Rok R W w') :
  Calls Tryz.prog 45 #[.pointer (some ⟨hb,0,none⟩),.int .i64 (n:Int)] w fun e w'=>e=.returned (.int .i64 0)∧PrgAt arm room croom (K+1+tr.length+3) w' p q R t'∧Rok R w w':=by
 have hpb:t.pages=t.now:=RS.pages_busy hbz
 have CG:=hid (changing_yes hb h hh hbz (by rw [hpb];exact hL.ln) (by omega))
 rw [hpb,hL.root]at CG
 have CLi:=hid (fun W g cap RR B0 (hP:PrgAt arm room croom (K+1) W p q RR t) (hH:HeapAt W hb p) (h1:RR hb) (h2:Row5 W B0 g cap (rootN (firstOf tr) (flat tr).length ws))=>list_lay (R:=RR) hb g cap B0 ws tr hP hH h1 hL hbz h2 hn4 (by omega))
 have CHs:=hid (fun W RR KK (hP:PrgAt arm room croom KK W p q RR t) (hH:HeapAt W hb p)=>has_any8 (R:=RR) hb (n:Int) hP hH)
 rw [hpb,show (decide (1<(n:Int))&&decide ((n:Int)≤(t.now.length:Int)))=true by rw [decide_eq_true (by omega),decide_eq_true (by omega)];rfl]at CHs
 have HH:=hid hh;have HR:=hid hR;have HRL:=hid hRl;have HT:=hid hT
 clear h hh hR hRl hL hT hpb
 generalize (flat tr).length=LL at *
 unfold Pv2 at *
 go_enter Tryz.func45,Tryz.ntmps45
 go_wp2_with (first
  | (go_at_call 81;refine CG.out.mono ?_;rintro e w1 ⟨g,cap,rfl,hr1,hg1,hP1,hok1⟩;have B1:=hid (show Below w1.heap.size w1 (w1.alloc (.cells #[.int .i64 1,.slice (some ⟨g,0,none⟩) 512 cap] 70)) from Below.alloc (Below.refl _ _) (Nat.le_refl _) _);have R1:=hid (hr1.keep B1.out);have X1:=hid (RB.new 70 w1 1 (some ⟨g,0,none⟩) 512 cap);have P1:=hid (hP1.new B1.out (Nat.le_refl _) (by simp));have K1:=hid hok1;have H1:=hid ((HH.out.rok hok1 HR.out).keep B1.out);have G1:=hid hg1;clear hr1 hg1 hP1 hok1)
  | (go_at_call 31;refine (CLi.out _ g cap _ _ P1.out H1.out (Or.inl (Or.inl HR.out)) R1.out).mono ?_;rintro e w2 ⟨ao,cp,rfl,hA⟩;have A2:=hid hA;have H2:=hid (H1.out.rok hA.k (Or.inl (Or.inl HR.out)));have X2:=hid (show RB 70 w2 w1.heap.size 1 (some ⟨g,0,none⟩) 512 cap from (hA.k.at_ (Or.inr rfl) X1.out.lt).trans X1.out);have R2:=hid (R1.out.fr hA.k (fun e=>e.1 (Or.inl (Or.inr rfl))));clear hA)
  | (go_at_call 64;refine (CHs.out w2 _ _ A2.out.at_ H2.out).mono ?_;rintro e w3 ⟨rfl,hb3⟩;have B3:=hid hb3;obtain ⟨x0,x1,_,_⟩:=(X2.out.keep hb3).cells;clear hb3)
  | (go_at_call 82;refine (HT.out w3 g cap ((A2.out.at_.less (fun b hb=>Or.inl hb)).keep B3.out) (H2.out.keep B3.out) (fun hg=>by have h1:=HRL.out g hg;have h2:=G1.out;omega) ((R2.out.base (Nat.zero_le _)).keep B3.out)).mono ?_;rintro e w4 ⟨rfl,hP3,hok3⟩;have P3:=hid hP3;have K3:=hid hok3;clear hP3 hok3))
 go_ret
 refine ⟨rfl,P3.out,?_⟩
 exact (((K1.out.below B1.out).then A2.out.k (fun b hb=>Or.inl (Or.inl hb))).below B3.out).then K3.out (fun b hb=>hb)
end
end
section
open Go.RowKit Go.Maps
open Dsk (gt hid undrew keep_old keep_cell lt_cell Rd)
open Cch (Fr)
open Jrn (Pv2 Row5 numAt RB fr_two trunkN rootN putN nul)
section
variable {arm:Prop} {room croom K:Nat} {p q:Nat} {R:Nat→Prop} {t:RS} {w:World}
structure HeapS (arm:Prop) (room croom K:Nat) (w:World) (hb p q:Nat) (R:Nat→Prop) (t:RS) (tr:List (Nat×List Nat)) (ws:List Nat):Prop where
 prg:PrgAt arm room croom K w p q R t
 heap:HeapAt w hb p
 mem:R hb
 lay:Lay t.now tr ws
 busy:t.busy=true
 sur:t.sure = []∧t.n=0
end
end
section
open Go.RowKit Go.Maps
open Dsk (gt hid undrew keep_old keep_cell lt_cell Rd)
open Cch (Fr)
open Jrn (Pv2 Row5 numAt RB fr_two trunkN rootN putN nul)
section
variable {arm:Prop} {room croom K:Nat} {p q:Nat} {R:Nat→Prop} {t:RS} {w:World}
end
end
section
open Go.RowKit Go.Maps Go.Sort Go.Shelf Go.Lib
open Dsk (gt hid undrew keep_old keep_cell lt_cell Rd)
open Cch (Fr wpAnyK wpAnyK_done wp_region_K)
open Jrn (Pv2 Row5 numAt RB fr_two trunkN rootN putN nul)
def riseN(l:List Nat):List Nat:=l.mergeSort (fun x y=>decide (x≤y))
theorem riseN_perm(l:List Nat):(riseN l).Perm l:=List.mergeSort_perm l _
theorem riseN_sorted(l:List Nat):(riseN l).Pairwise (·≤·):=by
 have:=List.pairwise_mergeSort (le:=fun x y:Nat=>decide (x≤y)) (fun a b c h1 h2=>by simp only [decide_eq_true_eq]at *;omega) (fun a b=>by simp only [Bool.or_eq_true,decide_eq_true_eq];omega) l
 exact this.imp (fun h=>by simpa using h)
theorem rise_map(l:List Nat):Cch.rise (l.map fun z:Nat=>(z:Int))=(riseN l).map fun z:Nat=>(z:Int):=by
 have h1:(Cch.rise (l.map fun z:Nat=>(z:Int))).Pairwise (·≤·):=by
  have:=List.pairwise_mergeSort (le:=fun x y:Int=>decide (x≤y)) (fun a b c h1 h2=>by simp only [decide_eq_true_eq]at *;omega) (fun a b=>by simp only [Bool.or_eq_true,decide_eq_true_eq];omega) (l.map fun z:Nat=>(z:Int))
  exact this.imp (fun h=>by simpa using h)
 refine List.Perm.eq_of_pairwise (le:=(·≤·)) (fun a b _ _ h1 h2=>Int.le_antisymm h1 h2) h1 (List.pairwise_map.2 ((riseN_sorted l).imp (fun h=>by omega))) ?_
 exact (List.mergeSort_perm _ _).trans ((riseN_perm l).symm.map _)
theorem sort8_any(B cp:Nat)(ao:Option Addr)(l:List Nat)(w:World)(h:w.ownsRow B 3 1 (.slice ao l.length cp) l.length (zI l))(hn:l.length≤1000000) :
  Calls Tryz.prog 50 #[.slice ao l.length cp] w fun e w'=>e=.returned (.tuple #[])∧w'.ownsRow B 3 1 (.slice ao l.length cp) l.length (zI (riseN l))∧Fr (fun k=>(Value.slice ao l.length cp).ownBlock=some k) w w':=by
 have e1:zI l=Cch.ints (l.map fun z:Nat=>(z:Int)):=by simp [zI,Cch.ints]
 have e2:zI (riseN l)=Cch.ints (Cch.rise (l.map fun z:Nat=>(z:Int))):=by rw [rise_map];simp [zI,Cch.ints]
 rw [e1]at h
 rw [e2]
 refine (Cch.sort_row B l.length cp ao _ w h hn).mono ?_
 rintro e w' ⟨he,ho,hf⟩
 exact ⟨he,ho,fr_imp hf (fun b ⟨a,ha,hb⟩=>by subst ha;subst hb;rfl)⟩
section
variable {arm:Prop} {room croom K:Nat} {p q:Nat} {R:Nat→Prop} {t:RS} {w:World}
end
end
section
open Go.RowKit Go.Maps
open Dsk (gt hid undrew keep_old keep_cell lt_cell Rd)
open Cch (Fr)
open Jrn (Pv2 Row5 numAt RB fr_two trunkN rootN putN nul)
section
variable {arm:Prop} {room croom K:Nat} {p q:Nat} {R:Nat→Prop} {t:RS} {w:World}
variable {ws:List Nat} {hb:Nat}
theorem all_yes{tr:List (Nat×List Nat)}(h:HeapS arm room croom K w hb p q R t tr ws)(hn4:t.now.length≤4000)(hK:K+5000≤500000) :
  Calls Tryz.prog 12 #[.pointer (some ⟨hb,0,none⟩)] w fun e w'=>∃ ao cp,e=.returned (.tuple #[.slice ao (flat tr).length cp,.int .i64 0])∧w'.ownsRow w.heap.size 3 1 (.slice ao (flat tr).length cp) (flat tr).length (zI (flat tr))∧PrgAt arm room croom (K+1+tr.length) w' p q (Own2 R (.slice ao (flat tr).length cp)) t∧Rok R w w':=by
 have hpb:t.pages=t.now:=RS.pages_busy h.busy
 have CG:=hid (root_yes hb h.prg h.heap (by rw [hpb];exact h.lay.ln) (by omega))
 rw [hpb,h.lay.root]at CG
 have CLi:=hid (fun W g cap RR B0 (hP:PrgAt arm room croom (K+1) W p q RR t) (hH:HeapAt W hb p) (h1:RR hb) (h2:Row5 W B0 g cap (rootN (firstOf tr) (flat tr).length ws))=>list_lay (R:=RR) hb g cap B0 ws tr hP hH h1 h.lay h.busy h2 hn4 (by omega))
 have HH:=hid h.heap;have HR:=hid h.mem;have HS:=hid h
 clear h hpb
 generalize hLL:(flat tr).length=LL at *
 have HLL:=hid hLL
 clear hLL
 unfold Pv2 at *
 go_enter Tryz.func12,Tryz.ntmps12
 go_wp2_with (first
  | (go_at_call 30;refine CG.out.mono ?_;rintro e w1 ⟨g,cap,rfl,hr1,hg1,hP1,hok1⟩;have B1:=hid (show Below w1.heap.size w1 (w1.alloc (.cells #[.int .i64 1,.slice (some ⟨g,0,none⟩) 512 cap] 70)) from Below.alloc (Below.refl _ _) (Nat.le_refl _) _);have R1:=hid (hr1.keep B1.out);have P1:=hid (hP1.new B1.out (Nat.le_refl _) (by simp));have K1:=hid hok1;have H1:=hid ((HH.out.rok hok1 HR.out).keep B1.out);clear hr1 hg1 hP1 hok1)
  | (go_at_call 31;refine (CLi.out _ g cap _ _ P1.out H1.out (Or.inl (Or.inl HR.out)) R1.out).mono ?_;rintro e w2 ⟨ao,cp,rfl,hA⟩;have A2:=hid hA;clear hA))
 go_ret2
 refine ⟨ao,cp,rfl,?_,A2.out.p.less (fun b hb=>by rcases hb with hb |hb;exact Or.inl (Or.inl (Or.inl hb));exact Or.inr hb),(K1.out.below B1.out).then A2.out.k (fun b hb=>Or.inl (Or.inl hb))⟩
 have:=A2.out.o
 rw [HLL.out]at this
 exact own_dn this (by have h1:=K1.out.size;have h2:=B1.out.size;omega)
theorem count_yes{tr:List (Nat×List Nat)}(h:HeapS arm room croom K w hb p q R t tr ws)(hn4:t.now.length≤4000)(hK:K+5000≤500000) :
  Calls Tryz.prog 48 #[.pointer (some ⟨hb,0,none⟩)] w fun e w'=>e=.returned (.tuple #[.int .i64 ((flat tr).length:Int),.int .i64 0])∧PrgAt arm room croom (K+1) w' p q R t∧Rok R w w':=by
 have hpb:t.pages=t.now:=RS.pages_busy h.busy
 have hcnt:=h.lay.count
 have CG:=hid (root_yes hb h.prg h.heap (by rw [hpb];exact h.lay.ln) (by omega))
 rw [hpb,h.lay.root]at CG
 have CC:=hid (fun W g cap B (hW:Row5 W B g cap (rootN (firstOf tr) (flat tr).length ws))=>Jrn.count_any 1 g 0 cap _ W hW.rd (Jrn.rootN_bytes _ _ _))
 rw [Jrn.root_count _ _ ws (by omega)]at CC
 clear h hpb
 generalize (flat tr).length=LL at *
 unfold Pv2 at *
 go_enter Tryz.func48,Tryz.ntmps48
 go_wp2_with (first
  | (go_at_call 30;refine CG.out.mono ?_;rintro e w1 ⟨g,cap,rfl,hr1,hg1,hP1,hok1⟩;have B1:=hid (show Below w1.heap.size w1 (w1.alloc (.cells #[.int .i64 1,.slice (some ⟨g,0,none⟩) 512 cap] 70)) from Below.alloc (Below.refl _ _) (Nat.le_refl _) _);have R1:=hid (hr1.keep B1.out);have P1:=hid (hP1.keep B1.out);have K1:=hid hok1;clear hr1 hg1 hP1 hok1)
  | (go_at_call 59;refine (CC.out _ g cap _ R1.out).mono ?_;rintro e w2 ⟨rfl,hb2⟩;have B2:=hid hb2;clear hb2))
 go_ret2
 exact ⟨rfl,(P1.out.keep B2.out).less (fun b hb=>Or.inl hb),(K1.out.below B1.out).below B2.out⟩
end
end
section
open Go.RowKit Go.Maps
open Dsk (gt hid undrew keep_old keep_cell lt_cell Rd)
open Cch (Fr wpAnyK wpAnyK_done wp_region_K)
open Jrn (Pv2 Row5 numAt RB fr_two trunkN rootN putN nul)
section
variable {arm:Prop} {room croom K:Nat} {p q:Nat} {R:Nat→Prop} {t:RS} {w:World}
end
end
section
open Go.RowKit Go.Maps
open Dsk (gt hid undrew keep_old keep_cell lt_cell Rd)
open Cch (Fr)
open Jrn (Pv2 Row5 numAt RB fr_two trunkN rootN putN nul rowV rowC)
section
variable {arm:Prop} {room croom K:Nat} {p q:Nat} {R:Nat→Prop} {t:RS} {w:World}
end
end
section
open Go.RowKit Go.Maps
open Dsk (gt hid undrew keep_old keep_cell lt_cell Rd)
open Cch (Fr wpAnyK wpAnyK_done wp_region_K)
open Jrn (Pv2 Row5 numAt RB fr_two trunkN rootN putN nul rowV rowC)
section
variable {arm:Prop} {room croom K:Nat} {p q:Nat} {R:Nat→Prop} {t:RS} {w:World}
end
end
namespace Spl
open Go.RowKit Go.Maps
open Dsk (gt hid undrew keep_old keep_cell lt_cell)
open Jrn (Rd bs bs_length bs_one bs_get rd_own Row5 putN numAt numAt_getV numAt_lt wrap_small)
open Cch (Fr hd_cell hd_frozen blk_set)
variable {hb p:Nat} {w:World}
theorem Pager_yes(h:HeapAt w hb p):Calls Tryz.prog 14 #[.pointer (some ⟨hb,0,none⟩)] w fun e w'=>e=.returned (.pointer (some ⟨p,0,none⟩))∧w'=w:=by
 have c:=h.cell
 clear h
 go_enter Tryz.func14,Tryz.ntmps14
 go_wp2
 go_ret
 exact ⟨rfl,rfl⟩
def askN(n:Int):Int:=if n<1∨20000<n then 2 else 0
theorem asked_yes(h:HeapAt w hb p)(n:Int):Calls Tryz.prog 20 #[.pointer (some ⟨hb,0,none⟩),.int .i64 n] w fun e w'=>e=.returned (.int .i64 (askN n))∧w'=w:=by
 have C:=hid (Pager_yes h)
 clear h
 unfold askN
 by_cases h1:n<1
 ·rw [if_pos (Or.inl h1)]
  go_enter Tryz.func20,Tryz.ntmps20
  go_wp2_with (go_at_call 14;refine C.out.mono ?_;rintro e w1 ⟨rfl,hw⟩;obtain rfl:=hw.symm)
  go_ret
  exact ⟨rfl,rfl⟩
 ·by_cases h2:20000<n
  ·rw [if_pos (Or.inr h2)]
   go_enter Tryz.func20,Tryz.ntmps20
   go_wp2_with (go_at_call 14;refine C.out.mono ?_;rintro e w1 ⟨rfl,hw⟩;obtain rfl:=hw.symm)
   go_ret
   exact ⟨rfl,rfl⟩
  ·rw [if_neg (by omega)]
   go_enter Tryz.func20,Tryz.ntmps20
   go_wp2_with (go_at_call 14;refine C.out.mono ?_;rintro e w1 ⟨rfl,hw⟩;obtain rfl:=hw.symm)
   go_ret
   exact ⟨rfl,rfl⟩
def nxN(xs:List Nat):Nat:=numAt (xs.take 4) 0 4
theorem nxN_lt(xs:List Nat)(hx:∀ x∈xs,x<256)(h:4≤xs.length):nxN xs<4294967296:=numAt_lt (xs.take 4) 0 4 (fun x h=>hx x (List.mem_of_mem_take h)) (by rw [List.length_take];omega)
theorem rd_head{g n cap k:Nat}{xs:List Nat}(h:Rd w (some ⟨g,0,none⟩) n cap xs)(hk:k≤n)(h0:0<k)(c:Nat)(hc:k≤c):Rd w (some ⟨g,0,none⟩) k c (xs.take k):=by
 obtain ⟨b,off,e,hcell⟩:=h.2.2.2 (by omega)
 refine ⟨by rw [List.length_take,h.1];omega,hc,fun h=>(by cases h),fun _=>⟨b,off,e,fun t ht=>?_⟩⟩
 rw [hcell t (by omega)]
 simp [List.getD,ht]
section
variable {arm:Prop} {room croom K:Nat} {p q:Nat} {R:Nat→Prop} {t:RS} {w:World}
def Lk(pg nx:Int)(ao:Option Addr)(n c:Nat):Value:=.agg #[.int .i64 pg,.int .i64 nx,.slice ao n c]
def LB(W:World)(q:Nat)(pg nx:Int)(ao:Option Addr)(n c:Nat):Prop:=W.heap[q]? = some (.cells #[.int .i64 pg,.int .i64 nx,.slice ao n c] 65 (0,0))
theorem LB.new(w:World)(pg nx:Int)(ao:Option Addr)(n c:Nat):LB (w.alloc (.cells #[.int .i64 pg,.int .i64 nx,.slice ao n c] 65)) w.heap.size pg nx ao n c:=heap_alloc_new w _
variable {n c q:Nat} {ao:Option Addr} {pg nx:Int} {W W':World}
theorem LB.keep(h:LB W q pg nx ao n c)(hb:Below W.heap.size W W'):LB W' q pg nx ao n c:=(hb.block q (Array.getElem?_eq_some_iff.1 h).1).trans h
theorem LB.rok{R:Nat→Prop}(h:LB W q pg nx ao n c)(hb:Rok R W W')(hq:R q):LB W' q pg nx ao n c:=(hb.at_ hq (Array.getElem?_eq_some_iff.1 h).1).trans h
theorem LB.cells(h:LB W q pg nx ao n c):W.cell? ⟨q,0,none⟩=some (.int .i64 pg)∧W.cell? ⟨q,1,none⟩=some (.int .i64 nx)∧W.cell? ⟨q,2,none⟩=some (.slice ao n c)∧W.frozen? ⟨q,0,none⟩=false∧W.frozen? ⟨q,1,none⟩=false∧W.frozen? ⟨q,2,none⟩=false:=by
 unfold LB at h
 refine ⟨?_,?_,?_,?_,?_,?_⟩<;>simp [World.cell?,World.frozen?,h]
theorem LB.set(h:LB W q pg nx ao n c)(pg' nx':Int)(ao':Option Addr)(n' c':Nat) :
  LB (((W.setCell ⟨q,0,none⟩ (.int .i64 pg')).setCell ⟨q,1,none⟩ (.int .i64 nx')).setCell ⟨q,2,none⟩ (.slice ao' n' c')) q pg' nx' ao' n' c':=by
 have h1:=heap_setCell_same W q 0 _ 65 (.int .i64 pg') h
 have h2:=heap_setCell_same _ q 1 _ 65 (.int .i64 nx') h1
 have h3:=heap_setCell_same _ q 2 _ 65 (.slice ao' n' c') h2
 unfold LB
 rw [h3]
 simp
theorem agg65(W:World):(isAgg 65).run Tryz.prog W=.ok true W:=by kernel_rfl
theorem load_link(h:LB W q pg nx ao n c):(loadVar 65 ⟨q,0,none⟩).run Tryz.prog W=.ok (Lk pg nx ao n c) W:=by
 obtain ⟨h0,h1,h2,_⟩:=h.cells
 have hl:=run_loadCells_list (P:=Tryz.prog) W ⟨q,0,none⟩ [.int .i64 pg,.int .i64 nx,.slice ao n c] (by
  intro j v hj
  match j,hj with
  | 0,hj=>simp at hj;subst hj;simpa [Addr.add] using h0
  | 1,hj=>simp at hj;subst hj;simpa [Addr.add] using h1
  | 2,hj=>simp at hj;subst hj;simpa [Addr.add] using h2
  | j+3,hj=>simp at hj)
 simp at hl
 simp [loadVar,hl,Lk,agg65 W]
theorem ret_link{fn:Func}{a u:Tmp}(h:fn.results = #[.cell a 65,.tmp u]){tmps:Array Value}{W:World}{q:Nat}{pg nx:Int}{ao:Option Addr}{n c:Nat}
  (hp:tmps.getD a undef=.pointer (some ⟨q,0,none⟩)) (hb:LB W q pg nx ao n c):(results fn tmps).run Tryz.prog W=.ok (.tuple #[Lk pg nx ao n c,tmps.getD u undef]) W:=by
 rw [results_cell_tmp h,hp]
 simp [asAddr,load_link hb]
theorem fr_three(W:World)(q:Nat)(a b c:Value):Fr (fun k=>k=q) W (((W.setCell ⟨q,0,none⟩ a).setCell ⟨q,1,none⟩ b).setCell ⟨q,2,none⟩ c):=
 ⟨rfl,rfl,rfl,by simp,fun k _ hk=>by rw [heap_setCell_other _ _ _ _ hk,heap_setCell_other _ _ _ _ hk,heap_setCell_other _ _ _ _ hk]⟩
theorem linkOf_yes(hb i:Nat)(h:PrgAt arm room croom K w p q R t)(hh:HeapAt w hb p)(hR:R hb)(hi1:1≤i)(hi:i<t.pages.length)(hx:∀ x∈t.pages.getD i [],x<256)(hK:K≤800000) :
  Calls Tryz.prog 56 #[.pointer (some ⟨hb,0,none⟩),.int .i64 ((i+1:Nat):Int)] w fun e w'=>∃ g cap,e=.returned (.tuple #[Lk ((i+1:Nat):Int) ((nxN (t.pages.getD i []):Nat):Int) (some ⟨g,4,none⟩) 508 508,.int .i64 0])∧Row5 w' w.heap.size g cap (t.pages.getD i [])∧w.heap.size≤g∧PrgAt arm room croom (K+1) w' p q (Plus R g) t∧Rok R w w':=by
 have B0:=hid (show Below w.heap.size w (w.alloc (.cells #[.int .i64 0,.int .i64 0,.slice none 0 0] 65)) from Below.alloc (Below.refl _ _) (Nat.le_refl _) _)
 have C1:=hid (prg_get i (h.new B0.out (Nat.le_refl _) (by simp)) hi hK)
 have HX:=hid (LB.new w 0 0 none 0 0)
 have HH:=hid (hh.keep B0.out)
 have kz:¬((i+1:Nat):Int)≤1:=by omega
 have kl:¬(t.pages.length:Int)<((i+1:Nat):Int):=by omega
 have HL:=hid (show (t.pages.length:Int)=((t.pages.length:Nat):Int) from rfl)
 have HB:=hid hx;have HRB:=hid hR
 obtain ⟨N,hN⟩:∃ N,N=nxN (t.pages.getD i []):=⟨_,rfl⟩
 rw [←hN]
 have HN:=hid hN
 generalize ((i+1:Nat):Int)=z at *
 clear h hh hx hi hi1 hR hN
 go_enter Tryz.func56,Tryz.ntmps56
 go_upto_region 2 with (first
  | (go_at_call 14;refine (Pager_yes HH.out).mono ?_;rintro e w0 ⟨rfl,hw⟩;obtain rfl:=hw.symm)
  | (go_at_call 93;refine C1.out.mono ?_;rintro e w1 ⟨g,cap,rfl,hr,hg,hP,hok⟩;have R1:=hid hr;have HG:=hid hg;have P1:=hid hP;have K1:=hid hok;have X1:=hid (LB.rok HX.out hok (Or.inr rfl));clear hr hg hP hok))
 have H1:=hid (HH.out.rok K1.out (Or.inl HRB.out))
 have hrl:=R1.out.len
 have hcp:=R1.out.cap
 have hcm:cap≤9223372036854775807:=by obtain ⟨_,_,_,_,hm,_⟩:=R1.out.parts;exact hm
 have CUT:=hid (fun W=>cut_less g 0 512 cap 4 hcp (by omega) hcm W)
 rw [show ((4:Nat):Int)=4 from rfl]at CUT
 simp only [Nat.zero_add,Nat.reduceSub]at CUT
 have CP:=hid (prg_pages P1.out)
 clear hcp hcm hrl
 have hgx:=fun (W:World) (hW:Below w1.heap.size w1 W)=>Jrn.get_any (some ⟨g,0,none⟩) 4 4 ((t.pages.getD i []).take 4) 4 false W (rd_head (R1.out.rd.keep hW) (by omega) (by omega) 4 (by omega)) (fun x h=>HB.out x (List.mem_of_mem_take h)) (by omega)
 have hgv:Jrn.getV ((t.pages.getD i []).take 4) 4 false=(nxN (t.pages.getD i []),true):=numAt_getV ((t.pages.getD i []).take 4) 0 4 (by omega) (by omega) (by rw [List.length_take,R1.out.len];omega)
 rw [hgv,←HN.out]at hgx
 have HGX:=hid hgx
 have hnx:=nxN_lt (t.pages.getD i []) HB.out (by rw [R1.out.len];omega)
 rw [←HN.out]at hnx
 have hwr:IntKind.i64.wrap (N:Int)=(N:Int):=IntWalk.i64_in _ ⟨by omega,by omega⟩
 clear hgx hgv
 generalize (t.pages.length:Int)=L at *
 have t2:Hid True:=hid trivial
 go_wp2_with (first
  | (go_at_call 14;refine (Pager_yes H1.out).mono ?_;rintro e w0 ⟨rfl,hw⟩;obtain rfl:=hw.symm)
  | (go_at_call 15;refine CP.out.mono ?_;rintro e w2 ⟨rfl,hb2⟩;have B2:=hid hb2;clear hb2)
  | (go_at_call 32;refine (CUT.out _).mono ?_;rintro e w3 ⟨rfl,hb3⟩;have B3:=hid (gt B2.out hb3);clear hb3)
  | (go_at_call 94;refine (HGX.out _ B3.out).mono ?_;rintro e w4 ⟨rfl,hb4⟩;have B4:=hid (gt B3.out hb4);have X4:=hid (X1.out.keep B4.out);obtain ⟨x0,x1,x2,x3,x4,x5⟩:=X4.out.cells;clear hb4))
 refine bodyPost_ret (ret_link rfl rfl (LB.set X4.out _ _ _ _ _)) rfl ?_
 have hz:w.heap.size+1≤g:=by have:=HG.out;simpa using this
 refine ⟨g,cap,rfl,?_,by omega,?_,?_⟩
 ·exact (((R1.out.fr (E:=fun _=>False) (Fr.of_below B4.out) (fun h=>h)).fr (fr_three _ _ _ _ _) (by omega)).base (by simp))
 ·exact ((P1.out.keep B4.out).mine (fr_imp (fr_three w4 w.heap.size _ _ _) (fun b hb=>Or.inl (Or.inr hb)))).less (fun b hb=>by rcases hb with hb |hb;exact Or.inl (Or.inl hb);exact Or.inr hb)
 ·exact ((Rok.after B0.out K1.out (fun b hb=>Or.inl hb)).below B4.out).mine (fr_three w4 w.heap.size _ _ _) (fun b hb=>by omega)
theorem linkOf_no(hb:Nat)(z:Int)(h:PrgAt arm room croom K w p q R t)(hh:HeapAt w hb p)(hR:R hb)(hz:z<2∨(t.pages.length:Int)<z)(hK:K≤800000)(hl:0<t.pages.length) :
  Calls Tryz.prog 56 #[.pointer (some ⟨hb,0,none⟩),.int .i64 z] w fun e w'=>e=.returned (.tuple #[Lk 0 0 none 0 0,.int .i64 9])∧PrgAt arm room croom (K+1) w' p q R t∧Rok R w w':=by
 have B0:=hid (show Below w.heap.size w (w.alloc (.cells #[.int .i64 0,.int .i64 0,.slice none 0 0] 65)) from Below.alloc (Below.refl _ _) (Nat.le_refl _) _)
 have HX:=hid (LB.new w 0 0 none 0 0)
 have HH:=hid (hh.keep B0.out)
 have HRB:=hid hR
 have P0:=h.new B0.out (Nat.le_refl _) (by simp) (g:=w.heap.size)
 by_cases h1:z=1
 ·subst h1
  have C1:=hid (prg_get 0 P0 hl hK)
  rw [show ((0+1:Nat):Int)=1 from rfl]at C1
  clear h hh hR hz P0
  go_enter Tryz.func56,Tryz.ntmps56
  go_wp2_with (first
   | (go_at_call 14;refine (Pager_yes HH.out).mono ?_;rintro e w0 ⟨rfl,hw⟩;obtain rfl:=hw.symm)
   | (go_at_call 93;refine C1.out.mono ?_;rintro e w1 ⟨g,cap,rfl,hr,hg,hP,hok⟩;have P1:=hid hP;have K1:=hid hok;have X1:=hid (LB.rok HX.out hok (Or.inr rfl));obtain ⟨x0,x1,x2,x3,x4,x5⟩:=X1.out.cells;clear hr hg hP hok))
  refine bodyPost_ret (ret_link rfl rfl (LB.set X1.out _ _ _ _ _)) rfl ?_
  refine ⟨rfl,?_,?_⟩
  ·exact (P1.out.mine (fr_imp (fr_three w1 w.heap.size _ _ _) (fun b hb=>Or.inl (Or.inr hb)))).less (fun b hb=>Or.inl (Or.inl hb))
  ·exact (Rok.after B0.out K1.out (fun b hb=>Or.inl hb)).mine (fr_three w1 w.heap.size _ _ _) (fun b hb=>by omega)
 ·have C1:=hid (prg_get_range z P0 (by simp;omega))
  have h2:z≤1∨(1<z∧(t.pages.length:Int)<z):=by omega
  clear h hh hR hz P0 h1 hl
  rcases h2 with h2 | ⟨h2,h3⟩
  ·go_enter Tryz.func56,Tryz.ntmps56
   go_wp2_with (first
    | (go_at_call 14;refine (Pager_yes HH.out).mono ?_;rintro e w0 ⟨rfl,hw⟩;obtain rfl:=hw.symm)
    | (go_at_call 93;refine C1.out.mono ?_;rintro e w1 ⟨rfl,hP,hok⟩;have P1:=hid hP;have K1:=hid hok;have X1:=hid (LB.rok HX.out hok (Or.inr rfl));obtain ⟨x0,x1,x2,x3,x4,x5⟩:=X1.out.cells;clear hP hok))
   refine bodyPost_ret (ret_link rfl rfl (LB.set X1.out _ _ _ _ _)) rfl ?_
   refine ⟨rfl,?_,?_⟩
   ·exact (P1.out.mine (fr_imp (fr_three w1 w.heap.size _ _ _) (fun b hb=>Or.inr hb))).less (fun b hb=>Or.inl hb)
   ·exact (Rok.after B0.out K1.out (fun b hb=>Or.inl hb)).mine (fr_three w1 w.heap.size _ _ _) (fun b hb=>by omega)
  ·go_enter Tryz.func56,Tryz.ntmps56
   go_upto_region 2 with (first
    | (go_at_call 14;refine (Pager_yes HH.out).mono ?_;rintro e w0 ⟨rfl,hw⟩;obtain rfl:=hw.symm)
    | (go_at_call 93;refine C1.out.mono ?_;rintro e w1 ⟨rfl,hP,hok⟩;have P1:=hid hP;have K1:=hid hok;have X1:=hid (LB.rok HX.out hok (Or.inr rfl));clear hP hok))
   have H1:=hid (HH.out.rok K1.out (Or.inl HRB.out))
   have CP:=hid (prg_pages P1.out)
   generalize (t.pages.length:Int)=L at *
   go_wp2_with (first
    | (go_at_call 14;refine (Pager_yes H1.out).mono ?_;rintro e w0 ⟨rfl,hw⟩;obtain rfl:=hw.symm)
    | (go_at_call 15;refine CP.out.mono ?_;rintro e w2 ⟨rfl,hb2⟩;have B2:=hid hb2;have X2:=hid (X1.out.keep hb2);obtain ⟨x0,x1,x2,x3,x4,x5⟩:=X2.out.cells;clear hb2))
   refine bodyPost_ret (ret_link rfl rfl (LB.set X2.out _ _ _ _ _)) rfl ?_
   refine ⟨rfl,?_,?_⟩
   ·exact ((P1.out.keep B2.out).mine (fr_imp (fr_three w2 w.heap.size _ _ _) (fun b hb=>Or.inr hb))).less (fun b hb=>Or.inl hb)
   ·exact ((Rok.after B0.out K1.out (fun b hb=>Or.inl hb)).below B2.out).mine (fr_three w2 w.heap.size _ _ _) (fun b hb=>by omega)
end
end Spl
namespace Spl
open Go.RowKit Go.Maps
open Dsk (gt hid undrew keep_old keep_cell lt_cell)
open Cch (Fr TwoKept RPost Rec put_other)
structure LkD where
 pn:Int
 nx:Int
 ao:Option Addr
 n:Nat
 c:Nat
def LkD.v(x:LkD):Value:=.agg #[.int .i64 x.pn,.int .i64 x.nx,.slice x.ao x.n x.c]
def LkD.o(x:LkD):Obj:=.cells #[.int .i64 x.pn,.int .i64 x.nx,.slice x.ao x.n x.c] 65
section
variable {n:Nat} {P:Program} {g:Operand} {ps:Array Tmp} {assign body:Code} {Q:Exit→Act→World→Prop} {a:Act} {w:World}
theorem range_two{gf:Nat}{lb:Array Value}(hg:a.eval g=.func (.func gf) #[] lb)(eg:∀ args w,(callFunc gf args).run P w=.ok (.enter gf args) w)
  (hps:ps.size=2) (I:Nat→World→Prop) (M:Nat→LkD→Int→Nat→World→Prop) (N:Nat→LkD→Int→Nat→Nat→World→Prop) (Dn:Nat→Prop) (X:Code→World→Prop)
  (hI:∀ k W l o o',w.heap.size≤l→l≤w.heap.size+1→W.heap[l]? = some o→o.isCells=false→I k W→I k (W.putObj l o'))
  (hN:∀ k v r z W,M k v r z W→N k v r z W.heap.size (W.alloc v.o))
  (hM:∀ k v r z b W l o o',w.heap.size≤l→l≤w.heap.size+1→W.heap[l]? = some o→o.isCells=false→N k v r z b W→N k v r z b (W.putObj l o'))
  (hz:∀ k v r z W,M k v r z W→z≠w.heap.size+1∧z<W.heap.size)
  (hX:∀ c W l o o',w.heap.size≤l→l≤w.heap.size+1→W.heap[l]? = some o→o.isCells=false→X c W→X c (W.putObj l o'))
  (h0:∀ W,Below w.heap.size w W→w.heap.size+2≤W.heap.size→I 0 W)
  (hseq:∀ (l:Nat) (J:Nat→World→Prop) (L:Nat→LkD→Int→Nat→World→Prop) (Jx:World→Prop) (W:World),(∀ k W,J k W→I k W) →
   (∀ k W W' v r z,J k W→M k v r z W'→TwoKept w.heap.size W W'→L k v r z W') →
   (∀ k v r z W,L k v r z W→YieldAt Fence.wide (n - 1 - 1) P l #[v.v,.int .i64 r] W fun e W'=>(e=.returned (.bool true)∧r=0∧J (k+1) W'∧W'.heap[z]? = W.heap[z]?)∨(e=.returned (.bool false)∧Jx W'))→J 0 W →
   CallsIn Fence.wide (n - 1) P gf (#[.func (.yield l) #[] #[]]++lb) W fun e W'=>(∃ v,e=.returned v)∧((∃ k,Dn k∧J k W')∨Jx W'))
  (a₁:LkD→Int→Nat→Act)
  (hassign:∀ (l:Nat) (v:LkD) (r:Int) (W:World) (K:Act→World→Prop),K (a₁ v r W.heap.size) (W.alloc v.o) →
   assign.wpIn (Fence.wide.inRound l) (n - 1 - 1) P (Exit.then K (fun _ _ _=>False)) { tmps:=(ps.zip #[v.v,.int .i64 r]).foldl (fun t (p,v)=>t.setIfInBounds p v) a.tmps,defers:=[] } W)
  (hbody:∀ (l k:Nat) (v:LkD) (r:Int) (z b:Nat) (W:World),N k v r z b W→Cch.Mark w.heap.size W→Rec w.heap.size W→body.wpIn (Fence.wide.inRound l) (n - 1 - 1) P (RPost w.heap.size (fun W'=>r=0∧I (k+1) W'∧W'.heap[z]? = W.heap[z]?) X W) (a₁ v r b) W)
  (hdone:∀ k W,Dn k→I k W→Cch.Mark w.heap.size W→Q .normal { a with defers:={ target:=.collected w.heap.size,args:=#[] }::a.defers } W)
  (hstop:∀ c W,X c W→Cch.Mark w.heap.size W→c.wpIn Fence.wide n P Q { a with defers:={ target:=.collected w.heap.size,args:=#[] }::a.defers } W) :
  (Code.rangeFunc g ps assign body).wpIn Fence.wide n P Q a w:=by
 refine wpIn_rangeFunc fun fn hfn=>?_
 rw [show Fence.wide.round=none from rfl]
 obtain ⟨rc,hrc⟩:∃ rc:LoopState→Option Code→Loop,∀ st pe,rc st pe = { state:=st,pending:=pe,fn:=fn,tmps:=a.tmps,params:=ps,assign:=assign,body:=body,defers:=w.heap.size }:=⟨_,fun _ _=>rfl⟩
 have hst:∀ st pe,(rc st pe).state=st:=fun st pe=>by rw [hrc]
 have hpe:∀ st pe,(rc st pe).pending=pe:=fun st pe=>by rw [hrc]
 have hpa:∀ st pe,(rc st pe).params=ps:=fun st pe=>by rw [hrc]
 have hbusy:∀ st pe st',({ rc st pe with state:=st' }:Loop)=rc st' pe:=fun st pe st'=>by rw [hrc,hrc]
 have hboth:∀ st pe st' pe',({ rc st pe with state:=st',pending:=pe' }:Loop)=rc st' pe':=fun st pe st' pe'=>by rw [hrc,hrc]
 have hyield:∀ (W:World) (v:LkD) (r:Int),W.heap[w.heap.size+1]? = some (.loop (rc .ready none))→(Instr.yield (w.heap.size+1) #[v.v,.int .i64 r]).run P W=.ok (.round (w.heap.size+1) fn ((ps.zip #[v.v,.int .i64 r]).foldl (fun t (p,v)=>t.setIfInBounds p v) a.tmps) assign body) W:=fun W v r h=>by
  have:=run_yield (P:=P) (args:=#[v.v,.int .i64 r]) h (by rw [hpa];simp [hps])
  rw [hrc]at this;exact this
 obtain ⟨W1,hW1⟩:∃ W1,W1=(w.alloc (.deferred (some []))).alloc (.loop (rc .ready none)):=⟨_,rfl⟩
 have hrec1:W1.heap[w.heap.size+1]? = some (.loop (rc .ready none)):=by
  have:=World.alloc_heap_new (w.alloc (.deferred (some []))) (.loop (rc .ready none))
  rw [World.size_alloc]at this;rw [hW1];exact this
 have hmark1:Cch.Mark w.heap.size W1:=by
  show W1.heap[w.heap.size]? = _
  rw [hW1];exact (Below.heap_alloc _ _ _ (by simp)).trans (World.alloc_heap_new w _)
 have hI1:I 0 W1:=h0 W1 (by rw [hW1];exact ((Below.refl _ w).alloc (Nat.le_refl _) _).alloc (by simp) _) (by rw [hW1];simp)
 have hcall:=hseq (w.heap.size+1) (fun k W=>I k W∧W.heap[w.heap.size+1]? = some (.loop (rc .ready none))∧Cch.Mark w.heap.size W)
  (fun k v r z W=>M k v r z W∧W.heap[w.heap.size+1]? = some (.loop (rc .ready none))∧Cch.Mark w.heap.size W)
  (fun W=>∃ c,X c W∧W.heap[w.heap.size+1]? = some (.loop (rc .done (some c)))∧Cch.Mark w.heap.size W) W1 (fun k W h=>h.1) (fun k W W' v r z hj hm ht=>⟨hm,ht.l.trans hj.2.1,ht.d.trans hj.2.2⟩) ?_ ⟨hI1,hrec1,hmark1⟩
 ·refine ⟨w.heap.size+1,[{ target:=.collected w.heap.size,args:=#[] }],W1,{ target:=.fn (.func gf) lb,args:=#[.func (.yield (w.heap.size+1)) #[] #[]] },W1,gf,
   #[.func (.yield (w.heap.size+1)) #[] #[]]++lb,W1,by rw [hW1,hrc];exact run_enterLoop_outer _ _ _ _ _,?_,?_,?_,?_,?_⟩
  ·simp only [resolve,hg];simp [go_sem]
  ·exact fun _ _=>trivial
  ·simp [invoke,go_sem,eg]
  ·intro h;cases h
  ·refine hcall.mono ?_
   rintro e W2 ⟨⟨v,rfl⟩,⟨k,hd,hi,hl,hm⟩ | ⟨c,hx,hl,hm⟩⟩
   ·refine ⟨none,_,by have:=run_endLoop (P:=P) hl (by rw [hst];simp);rw [hpe]at this;exact this,hdone k _ hd (hI _ _ _ _ _ (by omega) (Nat.le_refl _) hl rfl hi) ((put_other (by omega)).trans hm)⟩
   ·exact ⟨some c,_,by have:=run_endLoop (P:=P) hl (by rw [hst];simp);rw [hpe]at this;exact this,hstop _ _ (hX _ _ _ _ _ (by omega) (Nat.le_refl _) hl rfl hx) ((put_other (by omega)).trans hm)⟩
 ·rintro k v r z W ⟨hi,hl,hm⟩
  have hzl:=hz k v r z W hi
  have hlt0:w.heap.size+1<W.heap.size:=(Array.getElem?_eq_some_iff.1 hl).1
  obtain ⟨V0,hV0⟩:∃ V0,V0=W.alloc v.o:=⟨_,rfl⟩
  have hV0o:∀ j,j<W.heap.size→V0.heap[j]? = W.heap[j]?:=fun j hj=>by rw [hV0];exact heap_alloc_old W v.o hj
  have hl0:V0.heap[w.heap.size+1]? = some (.loop (rc .ready none)):=(hV0o _ hlt0).trans hl
  have hlt:w.heap.size+1<V0.heap.size:=(Array.getElem?_eq_some_iff.1 hl0).1
  refine ⟨fn,_,assign,body,hyield W v r hl,roundIn_of_wpIn hfn (hassign _ v r W _ ?_)⟩
  rw [←hV0]
  refine ⟨_,run_beginRound hl0 (hst _ _),?_⟩
  rw [hbusy]
  have hl2:=World.putObj_heap_same (w:=V0) (h:=hlt) (o:=.loop (rc .busy none))
  obtain ⟨V,hV⟩:∃ V,V=V0.putObj (w.heap.size+1) (.loop (rc .busy none)):=⟨_,rfl⟩
  rw [←hV]at hl2 ⊢
  have hiV:N k v r z W.heap.size V:=hV▸hM _ _ _ _ _ _ _ _ _ (by omega) (Nat.le_refl _) hl0 rfl (hV0▸hN k v r z W hi)
  have hmV:Cch.Mark w.heap.size V:=by show V.heap[w.heap.size]? = _;rw [hV];exact (put_other (by omega)).trans ((hV0o _ (by omega)).trans hm)
  refine wpIn_mono (hbody _ k v r z _ V hiV hmV ⟨_,hl2⟩) ?_
  have key:∀ (jump:Option Code) (V':World),TwoKept w.heap.size V V'→V'.heap[w.heap.size+1]? = some (.loop (rc .busy none))∧Cch.Mark w.heap.size V':=fun jump V' hk2=>⟨hk2.l.trans hl2,hk2.d.trans hmV⟩
  have hsame:∀ {V':World} {o o':Obj},V'.heap[w.heap.size+1]? = some o→(V'.putObj (w.heap.size+1) o').heap[w.heap.size+1]? = some o':=fun h=>World.putObj_heap_same (Array.getElem?_eq_some_iff.1 h).1
  intro e a3 V' hp
  cases e with
  | normal=>
   obtain ⟨h1,h2⟩:=key none V' hp.1
   exact ⟨_,_,by have:=run_endRound (P:=P) none h1;rw [hboth]at this;exact this,Or.inl ⟨rfl,hp.2.1,⟨hI _ _ _ _ _ (by omega) (Nat.le_refl _) h1 rfl hp.2.2.1,hsame h1,(put_other (by omega)).trans h2⟩,((put_other hzl.1).trans hp.2.2.2).trans (by rw [hV];exact (put_other hzl.1).trans (hV0o z hzl.2))⟩⟩
  | ret=>
   obtain ⟨h1,h2⟩:=key none V' hp.1
   exact ⟨_,_,by have:=run_endRound (P:=P) (some .ret) h1;rw [hboth]at this;exact this,Or.inr ⟨rfl,_,hX _ _ _ _ _ (by omega) (Nat.le_refl _) h1 rfl hp.2,hsame h1,(put_other (by omega)).trans h2⟩⟩
  | exit id=>
   obtain ⟨h1,h2⟩:=key none V' hp.1
   exact ⟨_,_,by have:=run_endRound (P:=P) (some (.exit id)) h1;rw [hboth]at this;exact this,Or.inr ⟨rfl,_,hX _ _ _ _ _ (by omega) (Nat.le_refl _) h1 rfl hp.2,hsame h1,(put_other (by omega)).trans h2⟩⟩
  | goto t=>
   obtain ⟨h1,h2⟩:=key none V' hp.1
   exact ⟨_,_,by have:=run_endRound (P:=P) (some (.goto t)) h1;rw [hboth]at this;exact this,Or.inr ⟨rfl,_,hX _ _ _ _ _ (by omega) (Nat.le_refl _) h1 rfl hp.2,hsame h1,(put_other (by omega)).trans h2⟩⟩
  | panic ch=>exact hp.elim
  | outgrown=>exact hp.elim
end
theorem here_in(k:Nat){F:Fence}{n:Nat}{P:Program}{ops:Array Oper}{Q:Exit→Act→World→Prop}{a:Act}{w:World}{rest:List Oper}{op:Op}{t:TypeId}{pos:String}{after:Array Edge}{gd:Option (Nat×Bool)}
  (h:wpListIn F n P ops Q (⟨some k,op,t,pos,after,gd⟩::rest) a w):wpListIn F n P ops Q (⟨some k,op,t,pos,after,gd⟩::rest) a w:=h
theorem in_append{F:Fence}{n:Nat}{P:Program}{ops:Array Oper}{rest:List Oper}{o:Oper}{a:Act}{w:World}{Q:Exit→Act→World→Prop}(hgd:o.guard=none)(s x:Operand)(t:TypeId)
  (ho:o.op=.call { callee:=.builtin .append,args:=#[s,x],argTypes:=#[t,t] }) (v u v':Value) (hs:a.eval s=v) (hx:a.eval x=u) (w':World)
  (hrun:(Builtin.append_ #[t,t] o.type #[v,u]).run P w=.ok v' w') (h:wpListIn F n P ops Q rest (a.put o.dst v') w'):wpListIn F n P ops Q (o::rest) a w:=by
 refine wpListIn_plain hgd fun K hK=>?_
 unfold Oper.wpIn
 refine ⟨by simp [Oper.about,ho,resolve,Target.leads,Sem.run_pure],?_⟩
 rw [Oper.semAt_plain F _ _ (by rw [ho];intro c hc';cases hc')]
 simp [execOp,ho,resolve,invoke,builtin,hs,hx,hrun,Result.andThen,Oper.uponIn]
 exact hK _ _ h
attribute [local go_sem] Oper.semAt_some
theorem chain1_in(m l b1 b2 b3 hb cnt:Nat)(pg:Nat→Int)(hcnt:cnt≤1000000)(J:Nat→World→Prop)(L:Nat→LkD→Int→Nat→World→Prop)(Jx:World→Prop)
  (hJ:∀ k W,J k W→W.cell? ⟨b1,0,none⟩=some (.int .i64 (pg 0))∧W.cell? ⟨b2,0,none⟩=some (.int .i64 (cnt:Int))∧W.cell? ⟨b3,0,none⟩=some (.pointer (some ⟨hb,0,none⟩)))
  (hlink:∀ k W,k<cnt→J k W→Calls Tryz.prog 56 #[.pointer (some ⟨hb,0,none⟩),.int .i64 (pg k)] W fun e W1=>∃ (x:LkD) (r:Int),e=.returned (.tuple #[x.v,.int .i64 r])∧(r=0→x.nx=pg (k+1))∧L k x r W1.heap.size (W1.alloc x.o))
  (hY:∀ k v r z W,L k v r z W→YieldAt Fence.wide (m - 1) Tryz.prog l #[v.v,.int .i64 r] W fun e W'=>(e=.returned (.bool true)∧r=0∧J (k+1) W'∧W'.heap[z]? = W.heap[z]?)∨(e=.returned (.bool false)∧Jx W'))
  (hend:∀ W,pg cnt≠0→J cnt W→∃ z,L cnt ⟨0,0,none,0,0⟩ 9 z W)
  (W:World) (h0:J 0 W) :
  CallsIn Fence.wide m Tryz.prog 55 #[.func (.yield l) #[] #[],.pointer (some ⟨b1,0,none⟩),.pointer (some ⟨b2,0,none⟩),.pointer (some ⟨b3,0,none⟩)] W fun e W'=>(∃ v,e=.returned v)∧((∃ k,(k=cnt∧pg cnt=0)∧J k W')∨Jx W'):=by
 obtain ⟨a1,a2,a3⟩:=hJ 0 W h0
 have H0:=hid h0;have HJ:=hid hJ;have HY:=hid hY;have HL:=hid hlink;have HE:=hid hend
 clear h0 hJ hY hlink hend
 refine callsIn_of_wp Tryz.func55 rfl trivial ?_ rfl
 simp only [Tryz.ntmps55,List.size_toArray,List.length_cons,List.length_nil,Nat.reduceAdd,Nat.reduceSub,Array.replicate_succ,Array.replicate_zero,List.push_toArray,List.append_toArray,List.nil_append,List.cons_append]
 gi_wp2
 gi_loopw [5,10] (fun x c wr=>∃ k:Nat,k≤cnt∧x=.int .i64 (pg k)∧c=.int .i64 (k:Int)∧Hid (J k wr)) (fun _ c _=>cnt - (Lib.intOf c).toNat)
 case atStart=>
  exact ⟨0,Nat.zero_le _,rfl,rfl,H0⟩
 case round=>
  obtain ⟨k,hk,rfl,rfl,hj⟩:=hrel
  obtain ⟨e1,e2,e3⟩:=HJ.out k wr hj.out
  clear a1 a2 a3 H0
  rcases Nat.lt_or_ge k cnt with hlt |hge
  ·have hlt':(k:Int)<(cnt:Int):=by omega
   have CL:=hid (HL.out k wr hlt hj.out)
   clear hj
   gi_wp2_with (refine ⟨trivial,fun h=>(by cases h),?_⟩;refine (callsIn_wide.2 CL.out).mono ?_;rintro e w1 ⟨x,r,rfl,hr,hl⟩;have HR:=hid hr;have HL1:=hid hl;clear hr hl;obtain ⟨fn,tms,asg,bdy,hy,hYR⟩:=HY.out k x r _ _ HL1.out;have HYR:=hid hYR;clear hYR;unfold LkD.v LkD.o at hy;unfold LkD.v)
   refine ⟨fun h=>(by cases h),HYR.out.mono ?_⟩
   rintro e W3 (⟨rfl,rfl,hJ3,hz3⟩ | ⟨rfl,hJx3⟩)
   ·have J3:=hid hJ3
    have LB3:LB W3 w1.heap.size x.pn x.nx x.ao x.n x.c:=hz3.trans (heap_alloc_new w1 _)
    obtain ⟨_,x1,_⟩:=LB3.cells
    rw [HR.out rfl]at x1
    clear hz3 LB3 hJ3 hy
    gi_wp2
    go_roundw
    case rel=>exact ⟨k+1,by omega,rfl,by go_num,J3⟩
    case measure=>simp [Lib.intOf];omega
   ·have J3:=hid hJx3
    clear hJx3 hy
    gi_wp2
    refine bodyPost_ret (results_none rfl _ _ _) rfl ?_
    exact ⟨⟨_,rfl⟩,.inr J3.out⟩
  ·obtain rfl:k=cnt:=by omega
   by_cases hp:pg k=0
   ·rw [hp]
    have HP:=hid hp
    clear hp
    gi_wp2
    go_end0
    exact ⟨⟨_,rfl⟩,.inl ⟨k,⟨rfl,HP.out⟩,hj.out⟩⟩
   ·obtain ⟨z,hL9⟩:=HE.out wr hp hj.out
    obtain ⟨fn,tms,asg,bdy,hy,hYR⟩:=HY.out k _ 9 z _ hL9
    have HYR:=hid hYR
    unfold LkD.v at hy
    clear hYR hL9 hj
    gi_wp2
    refine ⟨fun h=>(by cases h),HYR.out.mono ?_⟩
    rintro e W3 (⟨rfl,h9,_⟩ | ⟨rfl,hJx3⟩)
    ·cases h9
    ·have J3:=hid hJx3
     clear hJx3 hy
     gi_wp2
     go_end0
     exact ⟨⟨_,rfl⟩,.inr J3.out⟩
end Spl
namespace Spl
open Go.RowKit Go.Maps
open Dsk (gt hid undrew keep_old keep_cell lt_cell)
open Jrn (Rd bs bs_length bs_one bs_get rd_own Row5 putN numAt)
open Cch (Fr TwoKept RPost Rec put_other)
def pgK(P:List Pg)(first:Int):Nat→Int
 | 0=>first
 | k+1=>if 2≤pgK P first k∧pgK P first k≤(P.length:Int) then ((nxN (P.getD ((pgK P first k).toNat - 1) []):Nat):Int) else 0
def okK(P:List Pg)(first:Int)(k:Nat):Prop:=2≤pgK P first k∧pgK P first k≤(P.length:Int)
def pageK(P:List Pg)(first:Int)(k:Nat):Pg:=P.getD ((pgK P first k).toNat - 1) []
theorem pgK_next{P:List Pg}{first:Int}{k:Nat}(h:okK P first k):pgK P first (k+1)=((nxN (pageK P first k):Nat):Int):=by
 show (if 2≤pgK P first k∧pgK P first k≤(P.length:Int) then ((nxN (P.getD ((pgK P first k).toNat - 1) []):Nat):Int) else 0)=_
 rw [if_pos (show 2≤pgK P first k∧pgK P first k≤(P.length:Int) from h)];rfl
def QQ(R:Nat→Prop)(s S mb:Nat):Nat→Prop:=fun b=>R b∨(s≤b∧b<S∧b≠mb)
structure CI (arm:Prop) (room croom K:Nat) (p q:Nat) (R:Nat→Prop) (t:RS) (w:World) (hb S mb ob:Nat) (T e:TypeId) (Bx:List (Nat×TypeId×Value)) (v:Value) (us:List Value) (W:World):Prop where
 prg:PrgAt arm room croom K W p q (Own2 (QQ R w.heap.size S mb) v) t
 row:W.ownsRow w.heap.size e 1 v us.length us
 sep:∀ b,v.ownBlock=some b→¬QQ R w.heap.size S mb b
 out:W.heap[ob]? = some (.cells #[v] T (0,0))
 bx:∀ x∈Bx,W.heap[x.1]? = some (.cells #[x.2.2] x.2.1 (0,0))
 heap:HeapAt W hb p
 rok:Rok R w W
 sz:S≤W.heap.size
structure Lie (R:Nat→Prop) (w:World) (hb S mb ob:Nat) (Bx:List (Nat×TypeId×Value)):Prop where
 hbR:R hb
 lt:∀ b,R b→b<w.heap.size
 obS:w.heap.size≤ob∧ob+2<S∧ob≠mb
 bx:∀ x∈Bx,w.heap.size≤x.1∧x.1+2<S∧x.1≠mb∧x.1≠ob
 mbS:w.heap.size≤mb∧mb+2<S
section
variable {arm:Prop} {room croom K:Nat} {p q:Nat} {R:Nat→Prop} {t:RS} {w:World} {hb S mb ob:Nat} {T e:TypeId} {Bx:List (Nat×TypeId×Value)} {v:Value} {us:List Value} {W:World}
theorem Lie.two(L:Lie R w hb S mb ob Bx){l:Nat}(h1:S≤l+2)(h2:l<S):QQ R w.heap.size S mb l:=by
 have:=L.obS;have:=L.mbS
 exact Or.inr ⟨by omega,h2,by omega⟩
theorem put_fr(W:World)(l:Nat)(o:Obj):Fr (fun k=>k=l) W (W.putObj l o):=
 ⟨rfl,rfl,rfl,by simp [World.putObj],fun k _ hk=>put_other hk⟩
variable {W':World}
theorem CI.below(h:CI arm room croom K p q R t w hb S mb ob T e Bx v us W)(hW:Below W.heap.size W W'):CI arm room croom K p q R t w hb S mb ob T e Bx v us W':=
 ⟨h.prg.keep hW,own_fr (E:=fun _=>False) h.row (Fr.of_below hW) (fun _ _ h=>h),h.sep,(hW.block _ (Array.getElem?_eq_some_iff.1 h.out).1).trans h.out,fun x hx=>(hW.block _ (Array.getElem?_eq_some_iff.1 (h.bx x hx)).1).trans (h.bx x hx),h.heap.keep hW,h.rok.below hW,Nat.le_trans h.sz hW.size⟩
theorem CI.put(L:Lie R w hb S mb ob Bx)(h:CI arm room croom K p q R t w hb S mb ob T e Bx v us W){l:Nat}(o:Obj)(h1:S≤l+2)(h2:l<S):CI arm room croom K p q R t w hb S mb ob T e Bx v us (W.putObj l o):=by
 have hq:=L.two h1 h2
 have hf:=put_fr W l o
 have hlo:=L.obS
 refine ⟨h.prg.mine (fr_imp hf (fun b hb=>by subst hb;exact Or.inl hq)),own_fr h.row hf (fun k hk e=>h.sep k hk (e▸hq)),h.sep,(put_other (by omega)).trans h.out,fun x hx=>(put_other (by have:=L.bx x hx;omega)).trans (h.bx x hx),h.heap.fr hf (fun e=>by have:=L.lt hb L.hbR;have:=L.mbS;omega),h.rok.mine hf (fun b hb=>by have:=L.mbS;omega),by have:=hf.size;exact Nat.le_trans h.sz this⟩
theorem CI.rok_to{K':Nat}(L:Lie R w hb S mb ob Bx)(h:CI arm room croom K p q R t w hb S mb ob T e Bx v us W)(hP:PrgAt arm room croom K' W' p q (Own2 (QQ R w.heap.size S mb) v) t)(hk:Rok (Own2 (QQ R w.heap.size S mb) v) W W'):CI arm room croom K' p q R t w hb S mb ob T e Bx v us W':=by
 have hQ:∀ b,QQ R w.heap.size S mb b→b<W.heap.size→W'.heap[b]? = W.heap[b]?:=fun b hb hl=>hk.at_ (Or.inl hb) hl
 have hlo:=L.obS
 refine ⟨hP,own_fr h.row hk (fun k hk' e=>e.1 (Or.inr hk')),h.sep,(hQ ob (Or.inr ⟨hlo.1,by omega,hlo.2.2⟩) (Array.getElem?_eq_some_iff.1 h.out).1).trans h.out,fun x hx=>?_,h.heap.rok hk (Or.inl (Or.inl L.hbR)),h.rok.then hk (fun b hb=>Or.inl (Or.inl hb)),Nat.le_trans h.sz hk.size⟩
 have hx2:=L.bx x hx
 exact (hQ x.1 (Or.inr ⟨hx2.1,by omega,hx2.2.2.1⟩) (Array.getElem?_eq_some_iff.1 (h.bx x hx)).1).trans (h.bx x hx)
theorem CI.link_yes(L:Lie R w hb S mb ob Bx)(h:CI arm room croom K p q R t w hb S mb ob T e Bx v us W){first:Int}{k:Nat}(hok:okK t.pages first k)(hx:∀ x∈pageK t.pages first k,x<256)(hK:K≤800000) :
  Calls Tryz.prog 56 #[.pointer (some ⟨hb,0,none⟩),.int .i64 (pgK t.pages first k)] W fun e' W1=>∃ g cap,e'=.returned (.tuple #[Lk (pgK t.pages first k) (pgK t.pages first (k+1)) (some ⟨g,4,none⟩) 508 508,.int .i64 0])∧Row5 W1 W.heap.size g cap (pageK t.pages first k)∧W.heap.size≤g∧CI arm room croom (K+1) p q R t w hb S mb ob T e Bx v us W1∧Rok (Own2 (QQ R w.heap.size S mb) v) W W1:=by
 rw [pgK_next hok]
 obtain ⟨h1,h2⟩:=hok
 obtain ⟨i,hi⟩:∃ i:Nat,pgK t.pages first k=((i+1:Nat):Int):=⟨(pgK t.pages first k).toNat - 1,by omega⟩
 have hp:pageK t.pages first k=t.pages.getD i []:=by unfold pageK;rw [hi];congr 1
 rw [hp]at hx ⊢
 rw [hi]
 rw [hi]at h1 h2
 refine (linkOf_yes hb i h.prg h.heap (Or.inl (Or.inl L.hbR)) (by omega) (by omega) hx hK).mono ?_
 rintro e' W1 ⟨g,cap,rfl,hr,hg,hP,hk⟩
 exact ⟨g,cap,rfl,hr,hg,h.rok_to L (hP.less (fun b hb=>Or.inl hb)) hk,hk⟩
theorem CI.link_no(L:Lie R w hb S mb ob Bx)(h:CI arm room croom K p q R t w hb S mb ob T e Bx v us W){z:Int}(hok:¬(2≤z∧z≤(t.pages.length:Int)))(hl:0<t.pages.length)(hK:K≤800000) :
  Calls Tryz.prog 56 #[.pointer (some ⟨hb,0,none⟩),.int .i64 z] W fun e' W1=>e'=.returned (.tuple #[Lk 0 0 none 0 0,.int .i64 9])∧CI arm room croom (K+1) p q R t w hb S mb ob T e Bx v us W1∧Rok (Own2 (QQ R w.heap.size S mb) v) W W1:=by
 refine (linkOf_no hb z h.prg h.heap (Or.inl (Or.inl L.hbR)) (by omega) hK hl).mono ?_
 rintro e' W1 ⟨rfl,hP,hk⟩
 exact ⟨rfl,h.rok_to L hP hk,hk⟩
theorem CI.two(L:Lie R w hb S mb ob Bx)(h:CI arm room croom K p q R t w hb S mb ob T e Bx v us W){W1:World}(hk:Rok (Own2 (QQ R w.heap.size S mb) v) W W1)(o:Obj){B:Nat}(hB:B+2=S):TwoKept B W (W1.alloc o):=by
 have hs:=h.sz
 have hs2:=hk.size
 have e:∀ j,S≤j+2→j<S→(W1.alloc o).heap[j]? = W.heap[j]?:=fun j h1 h2=>(heap_alloc_old W1 o (by omega)).trans (hk.at_ (Or.inl (L.two h1 h2)) (by omega))
 exact ⟨e B (by omega) (by omega),e (B+1) (by omega) (by omega)⟩
theorem CI.app(L:Lie R w hb S mb ob Bx)(h:CI arm room croom K p q R t w hb S mb ob T e Bx v us W){ao:Option Addr}{m c:Nat}{ys:List Value}{w':World}(hm:m=us.length+ys.length)(ho:w'.ownsRow 0 e 1 (.slice ao m c) m (us++ys))(hg:W.grownBy w' v.ownBlock)(ha:∀ a,ao=some a→(v.ownBlock=some a.block∨a.block=W.heap.size)) :
  (w'.cell? ⟨ob,0,none⟩=some v∧w'.frozen? ⟨ob,0,none⟩=false)∧CI arm room croom K p q R t w hb S mb ob T e Bx (.slice ao m c) (us++ys) (w'.setCell ⟨ob,0,none⟩ (.slice ao m c))∧Fr (fun b=>v.ownBlock=some b) W w':=by
 have hlo:=L.obS
 have hf:Fr (fun b=>v.ownBlock=some b) W w':=⟨hg.os,hg.tape,hg.output,hg.size,fun k hk hn=>hg.block k hk (fun e=>hn e.symm)⟩
 have hv:∀ b,(Value.slice ao m c).ownBlock=some b→v.ownBlock=some b∨(W.heap.size≤b∧b<w'.heap.size):=fun b hb=>by
  cases ao with
  | none=>cases hb
  | some a=>
   have hb2:=rr_blk ho hb
   cases hb
   rcases ha a rfl with h1 |h1
   ·exact Or.inl h1
   ·exact Or.inr ⟨by rw [h1];exact Nat.le_refl _,hb2.2⟩
 have hQv:∀ b,QQ R w.heap.size S mb b→¬v.ownBlock=some b:=fun b hb e=>h.sep b e hb
 have hQo:QQ R w.heap.size S mb ob:=Or.inr ⟨hlo.1,by omega,hlo.2.2⟩
 have hQ:∀ b,QQ R w.heap.size S mb b→b<W.heap.size→w'.heap[b]? = W.heap[b]?:=fun b hb hl=>hf.blk b hl (hQv b hb)
 have hoL:ob<W.heap.size:=(Array.getElem?_eq_some_iff.1 h.out).1
 have ho1:w'.heap[ob]? = some (.cells #[v] T (0,0)):=(hQ ob hQo hoL).trans h.out
 have sep':∀ b,(Value.slice ao m c).ownBlock=some b→¬QQ R w.heap.size S mb b:=fun b hb hq=>by
  rcases hv b hb with h1 |h1
  ·exact h.sep b h1 hq
  ·have:=h.prg.lt (b:=b) (Or.inl hq);omega
 have P1:=h.prg.grow hf hv
 have F2:Fr (fun k=>k=ob) w' (w'.setCell ⟨ob,0,none⟩ (.slice ao m c)):=⟨rfl,rfl,rfl,by simp,fun k _ hk=>heap_setCell_other _ _ _ _ hk⟩
 have hlen:(us++ys).length=m:=by rw [List.length_append,hm]
 refine ⟨⟨by simp [World.cell?,ho1],by simp [World.frozen?,ho1]⟩,⟨?_,?_,sep',?_,fun x hx=>?_,?_,?_,?_⟩,hf⟩
 ·exact P1.mine (fr_imp F2 (fun b hb=>by subst hb;exact Or.inl hQo))
 ·rw [hlen]
  refine own_fr (rr_up ho (fun k hk=>?_)) F2 (fun k hk e=>sep' k hk (e▸hQo))
  rcases hv k hk with h1 |h1
  ·exact (rr_blk h.row h1).1
  ·have:=h.rok.size;omega
 ·have:=heap_setCell_same w' ob 0 _ T (.slice ao m c) ho1
  rw [this];simp
 ·have hx2:=L.bx x hx
  rw [heap_setCell_other _ _ _ _ (by simpa using hx2.2.2.2)]
  exact (hQ x.1 (Or.inr ⟨hx2.1,by omega,hx2.2.2.1⟩) (Array.getElem?_eq_some_iff.1 (h.bx x hx)).1).trans (h.bx x hx)
 ·exact (h.heap.fr hf (hQv hb (Or.inl L.hbR))).fr F2 (fun e=>by have:=L.lt hb L.hbR;omega)
 ·exact ((h.rok.mine hf (fun b hb=>(rr_blk h.row hb).1))).mine F2 (fun b hb=>by omega)
 ·simp;exact Nat.le_trans h.sz hf.size
end
end Spl
end Go.Proofs.YtneemfbnjkcflaaGreatDoor
