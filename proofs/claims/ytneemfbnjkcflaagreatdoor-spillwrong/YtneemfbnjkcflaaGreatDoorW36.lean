/- The list of free pages as plain numbers: what is taken, given and trimmed; no statement of the seat is proved here. -/
import Derived.Test.YtneemfbnjkcflaaGreatDoorW35
import Derived.Test.YtneemfbnjkcflaaGreatDoorW34
import Derived.Test.YtneemfbnjkcflaaGreatDoorW20
set_option maxHeartbeats 16000000
set_option maxRecDepth 20000
namespace Go.Proofs.YtneemfbnjkcflaaGreatDoor
end Go.Proofs.YtneemfbnjkcflaaGreatDoor
namespace Go.Proofs.YtneemfbnjkcflaaGreatDoor
section
open Go.RowKit Go.Maps
open Dsk (gt hid undrew keep_old keep_cell lt_cell Rd)
open Cch (Fr wpAnyK wpAnyK_done wp_region_K)
open Jrn (Pv2 Row5 numAt RB fr_two trunkN rootN putN nul)
section
variable {arm:Prop} {room croom K:Nat} {p q:Nat} {R:Nat→Prop} {t:RS} {w:World}
theorem AO.at_{B:Nat}{W0 W:World}{v:Value}{l:List Nat}{Q:Nat→Prop}(h:AO arm room croom K p q Q t B W0 v l W):PrgAt arm room croom K W p q Q t:=h.p.less (fun _ hb=>Or.inl hb)
theorem Take_grow(hb:Nat)(ws:List Nat)(h:PrgAt arm room croom K w p q R t)(hh:HeapAt w hb p)(hR:R hb)(hx:t.now.getD 0 []=rootN 0 0 ws)(hbz:t.busy=true)(hn:0<t.now.length)(hn4:t.now.length<4000)(hK:K+2≤500000) :
  Calls Tryz.prog 52 #[.pointer (some ⟨hb,0,none⟩)] w fun e w'=>e=.returned (.tuple #[.int .i64 ((t.now.length+1:Nat):Int),.int .i64 0])∧PrgAt arm room croom (K+2) w' p q R t.grow∧Rok R w w':=by
 have hpb:t.pages=t.now:=RS.pages_busy hbz
 have CG:=hid (changing_yes hb h hh hbz (by rw [hpb];exact hn) (by omega))
 rw [hpb,hx]at CG
 have CLi:=hid (fun W g cap RR B0 (hP:PrgAt arm room croom (K+1) W p q RR t) (hH:HeapAt W hb p) (h1:RR hb) (h2:Row5 W B0 g cap (rootN 0 0 ws))=>list_any (R:=RR) hb g cap 0 0 B0 ws [] hP hH h1 h2 (by omega) (by omega) rfl rfl (by rw [hpb];exact hn) (by rw [hpb];omega) (by omega) (by simp;omega))
 have CW:=hid (fun W RR (hP:PrgAt arm room croom (K+1) W p q RR t)=>prg_grow_yes (R:=RR) hP hbz hn4 (by omega))
 have HH:=hid hh;have HR:=hid hR;have H:=hid h
 clear h hh hR hx hpb
 unfold Pv2 at *
 go_enter Tryz.func52,Tryz.ntmps52
 go_wp2_with (first
  | (go_at_call 81;refine CG.out.mono ?_;rintro e w1 ⟨g,cap,rfl,hr1,hg1,hP1,hok1⟩;have B1:=hid (show Below w1.heap.size w1 (w1.alloc (.cells #[.int .i64 1,.slice (some ⟨g,0,none⟩) 512 cap] 70)) from Below.alloc (Below.refl _ _) (Nat.le_refl _) _);have R1:=hid (hr1.keep B1.out);have P1:=hid (hP1.new B1.out (Nat.le_refl _) (by simp));have K1:=hid hok1;have H1:=hid ((HH.out.rok hok1 HR.out).keep B1.out);clear hr1 hg1 hP1 hok1)
  | (go_at_call 31;refine (CLi.out _ g cap _ _ P1.out H1.out (Or.inl (Or.inl HR.out)) R1.out).mono ?_;rintro e w2 ⟨ao,cp,rfl,hA⟩;have A2:=hid hA;have H2:=hid (H1.out.rok hA.k (Or.inl (Or.inl HR.out)));have c2:=H2.out.cell;clear hA)
  | (go_at_call 42;refine (CW.out w2 _ A2.out.at_).mono ?_;rintro e w3 ⟨rfl,hP3,hok3⟩;have P3:=hid hP3;have K3:=hid hok3;clear hP3 hok3))
 go_ret2
 refine ⟨rfl,P3.out.less (fun b hb=>Or.inl (Or.inl hb)),?_⟩
 exact ((K1.out.below B1.out).then A2.out.k (fun b hb=>Or.inl (Or.inl hb))).then K3.out (fun b hb=>Or.inl (Or.inl hb))
end
end
section
open Go.RowKit Go.Maps
open Dsk (gt hid undrew keep_old keep_cell lt_cell Rd)
open Cch (Fr wpAnyK wpAnyK_done wp_region_K)
open Jrn (Pv2 Row5 numAt RB fr_two trunkN rootN putN nul)
section
variable {arm:Prop} {room croom K:Nat} {p q:Nat} {R:Nat→Prop} {t:RS} {w:World}
theorem list_lay(hb g cap B0:Nat)(ws:List Nat)(tr:List (Nat×List Nat))(h:PrgAt arm room croom K w p q R t)(hh:HeapAt w hb p)(hR:R hb)(hL:Lay t.now tr ws)(hbz:t.busy=true)(hr:Row5 w B0 g cap (rootN (firstOf tr) (flat tr).length ws))(hn4:t.now.length≤4000)(hK:K+4000≤800000) :
  Calls Tryz.prog 31 #[.pointer (some ⟨hb,0,none⟩),Pv2 1 g 0 cap] w fun e w'=>∃ ao cp,e=.returned (.tuple #[.slice ao (flat tr).length cp,.int .i64 0])∧AO arm room croom (K+tr.length) p q R t w.heap.size w (.slice ao (flat tr).length cp) (flat tr) w':=by
 have hpb:t.pages=t.now:=RS.pages_busy hbz
 have hc:=hL.count
 have hl:=flat_len tr
 have hf:firstOf tr≤4000:=by
  cases tr with
  | nil=>exact Nat.zero_le _
  | cons x r=>have:=(hL.chain.range x.1 (by rw [flat_cons];simp)).2;show x.1≤4000;omega
 exact list_any hb g cap (firstOf tr) (flat tr).length B0 ws tr h hh hR hr (by omega) (by omega) (by rw [hpb];exact hL.chain) rfl (by rw [hpb];omega) (by rw [hpb];exact hn4) (by omega) (by omega)
end
end
section
open Go.RowKit Go.Maps
open Dsk (gt hid undrew keep_old keep_cell lt_cell Rd)
open Cch (Fr)
open Jrn (Pv2 Row5 numAt RB fr_two trunkN rootN putN nul)
section
variable {arm:Prop} {room croom K:Nat} {p q:Nat} {R:Nat→Prop} {t:RS} {w:World}
structure HeapS (arm:Prop) (room croom K:Nat) (w:World) (hb p q:Nat) (R:Nat→Prop) (t:RS) (tr:List (Nat×List Nat)) (ws:List Nat):Prop where
 prg:PrgAt arm room croom K w p q R t
 heap:HeapAt w hb p
 mem:R hb
 lay:Lay t.now tr ws
 busy:t.busy=true
 sur:t.sure = []∧t.n=0
end
end
section
open Go.RowKit Go.Maps
open Dsk (gt hid undrew keep_old keep_cell lt_cell Rd)
open Cch (Fr)
open Jrn (Pv2 Row5 numAt RB fr_two trunkN rootN putN nul)
section
variable {arm:Prop} {room croom K:Nat} {p q:Nat} {R:Nat→Prop} {t:RS} {w:World}
end
end
section
open Go.RowKit Go.Maps Go.Sort Go.Shelf Go.Lib
open Dsk (gt hid undrew keep_old keep_cell lt_cell Rd)
open Cch (Fr wpAnyK wpAnyK_done wp_region_K)
open Jrn (Pv2 Row5 numAt RB fr_two trunkN rootN putN nul)
def riseN(l:List Nat):List Nat:=l.mergeSort (fun x y=>decide (x≤y))
theorem riseN_perm(l:List Nat):(riseN l).Perm l:=List.mergeSort_perm l _
theorem riseN_sorted(l:List Nat):(riseN l).Pairwise (·≤·):=by
 have:=List.pairwise_mergeSort (le:=fun x y:Nat=>decide (x≤y)) (fun a b c h1 h2=>by simp only [decide_eq_true_eq]at *;omega) (fun a b=>by simp only [Bool.or_eq_true,decide_eq_true_eq];omega) l
 exact this.imp (fun h=>by simpa using h)
theorem rise_map(l:List Nat):Cch.rise (l.map fun z:Nat=>(z:Int))=(riseN l).map fun z:Nat=>(z:Int):=by
 have h1:(Cch.rise (l.map fun z:Nat=>(z:Int))).Pairwise (·≤·):=by
  have:=List.pairwise_mergeSort (le:=fun x y:Int=>decide (x≤y)) (fun a b c h1 h2=>by simp only [decide_eq_true_eq]at *;omega) (fun a b=>by simp only [Bool.or_eq_true,decide_eq_true_eq];omega) (l.map fun z:Nat=>(z:Int))
  exact this.imp (fun h=>by simpa using h)
 refine List.Perm.eq_of_pairwise (le:=(·≤·)) (fun a b _ _ h1 h2=>Int.le_antisymm h1 h2) h1 (List.pairwise_map.2 ((riseN_sorted l).imp (fun h=>by omega))) ?_
 exact (List.mergeSort_perm _ _).trans ((riseN_perm l).symm.map _)
theorem sort8_any(B cp:Nat)(ao:Option Addr)(l:List Nat)(w:World)(h:w.ownsRow B 3 1 (.slice ao l.length cp) l.length (zI l))(hn:l.length≤1000000) :
  Calls Tryz.prog 50 #[.slice ao l.length cp] w fun e w'=>e=.returned (.tuple #[])∧w'.ownsRow B 3 1 (.slice ao l.length cp) l.length (zI (riseN l))∧Fr (fun k=>(Value.slice ao l.length cp).ownBlock=some k) w w':=by
 have e1:zI l=Cch.ints (l.map fun z:Nat=>(z:Int)):=by simp [zI,Cch.ints]
 have e2:zI (riseN l)=Cch.ints (Cch.rise (l.map fun z:Nat=>(z:Int))):=by rw [rise_map];simp [zI,Cch.ints]
 rw [e1]at h
 rw [e2]
 refine (Cch.sort_row B l.length cp ao _ w h hn).mono ?_
 rintro e w' ⟨he,ho,hf⟩
 exact ⟨he,ho,fr_imp hf (fun b ⟨a,ha,hb⟩=>by subst ha;subst hb;rfl)⟩
section
variable {arm:Prop} {room croom K:Nat} {p q:Nat} {R:Nat→Prop} {t:RS} {w:World}
end
end
section
open Go.RowKit Go.Maps
open Dsk (gt hid undrew keep_old keep_cell lt_cell Rd)
open Cch (Fr)
open Jrn (Pv2 Row5 numAt RB fr_two trunkN rootN putN nul)
section
variable {arm:Prop} {room croom K:Nat} {p q:Nat} {R:Nat→Prop} {t:RS} {w:World}
variable {ws:List Nat} {hb:Nat}
theorem all_yes{tr:List (Nat×List Nat)}(h:HeapS arm room croom K w hb p q R t tr ws)(hn4:t.now.length≤4000)(hK:K+5000≤500000) :
  Calls Tryz.prog 12 #[.pointer (some ⟨hb,0,none⟩)] w fun e w'=>∃ ao cp,e=.returned (.tuple #[.slice ao (flat tr).length cp,.int .i64 0])∧w'.ownsRow w.heap.size 3 1 (.slice ao (flat tr).length cp) (flat tr).length (zI (flat tr))∧PrgAt arm room croom (K+1+tr.length) w' p q (Own2 R (.slice ao (flat tr).length cp)) t∧Rok R w w':=by
 have hpb:t.pages=t.now:=RS.pages_busy h.busy
 have CG:=hid (root_yes hb h.prg h.heap (by rw [hpb];exact h.lay.ln) (by omega))
 rw [hpb,h.lay.root]at CG
 have CLi:=hid (fun W g cap RR B0 (hP:PrgAt arm room croom (K+1) W p q RR t) (hH:HeapAt W hb p) (h1:RR hb) (h2:Row5 W B0 g cap (rootN (firstOf tr) (flat tr).length ws))=>list_lay (R:=RR) hb g cap B0 ws tr hP hH h1 h.lay h.busy h2 hn4 (by omega))
 have HH:=hid h.heap;have HR:=hid h.mem;have HS:=hid h
 clear h hpb
 generalize hLL:(flat tr).length=LL at *
 have HLL:=hid hLL
 clear hLL
 unfold Pv2 at *
 go_enter Tryz.func12,Tryz.ntmps12
 go_wp2_with (first
  | (go_at_call 30;refine CG.out.mono ?_;rintro e w1 ⟨g,cap,rfl,hr1,hg1,hP1,hok1⟩;have B1:=hid (show Below w1.heap.size w1 (w1.alloc (.cells #[.int .i64 1,.slice (some ⟨g,0,none⟩) 512 cap] 70)) from Below.alloc (Below.refl _ _) (Nat.le_refl _) _);have R1:=hid (hr1.keep B1.out);have P1:=hid (hP1.new B1.out (Nat.le_refl _) (by simp));have K1:=hid hok1;have H1:=hid ((HH.out.rok hok1 HR.out).keep B1.out);clear hr1 hg1 hP1 hok1)
  | (go_at_call 31;refine (CLi.out _ g cap _ _ P1.out H1.out (Or.inl (Or.inl HR.out)) R1.out).mono ?_;rintro e w2 ⟨ao,cp,rfl,hA⟩;have A2:=hid hA;clear hA))
 go_ret2
 refine ⟨ao,cp,rfl,?_,A2.out.p.less (fun b hb=>by rcases hb with hb |hb;exact Or.inl (Or.inl (Or.inl hb));exact Or.inr hb),(K1.out.below B1.out).then A2.out.k (fun b hb=>Or.inl (Or.inl hb))⟩
 have:=A2.out.o
 rw [HLL.out]at this
 exact own_dn this (by have h1:=K1.out.size;have h2:=B1.out.size;omega)
theorem count_yes{tr:List (Nat×List Nat)}(h:HeapS arm room croom K w hb p q R t tr ws)(hn4:t.now.length≤4000)(hK:K+5000≤500000) :
  Calls Tryz.prog 48 #[.pointer (some ⟨hb,0,none⟩)] w fun e w'=>e=.returned (.tuple #[.int .i64 ((flat tr).length:Int),.int .i64 0])∧PrgAt arm room croom (K+1) w' p q R t∧Rok R w w':=by
 have hpb:t.pages=t.now:=RS.pages_busy h.busy
 have hcnt:=h.lay.count
 have CG:=hid (root_yes hb h.prg h.heap (by rw [hpb];exact h.lay.ln) (by omega))
 rw [hpb,h.lay.root]at CG
 have CC:=hid (fun W g cap B (hW:Row5 W B g cap (rootN (firstOf tr) (flat tr).length ws))=>Jrn.count_any 1 g 0 cap _ W hW.rd (Jrn.rootN_bytes _ _ _))
 rw [Jrn.root_count _ _ ws (by omega)]at CC
 clear h hpb
 generalize (flat tr).length=LL at *
 unfold Pv2 at *
 go_enter Tryz.func48,Tryz.ntmps48
 go_wp2_with (first
  | (go_at_call 30;refine CG.out.mono ?_;rintro e w1 ⟨g,cap,rfl,hr1,hg1,hP1,hok1⟩;have B1:=hid (show Below w1.heap.size w1 (w1.alloc (.cells #[.int .i64 1,.slice (some ⟨g,0,none⟩) 512 cap] 70)) from Below.alloc (Below.refl _ _) (Nat.le_refl _) _);have R1:=hid (hr1.keep B1.out);have P1:=hid (hP1.keep B1.out);have K1:=hid hok1;clear hr1 hg1 hP1 hok1)
  | (go_at_call 59;refine (CC.out _ g cap _ R1.out).mono ?_;rintro e w2 ⟨rfl,hb2⟩;have B2:=hid hb2;clear hb2))
 go_ret2
 exact ⟨rfl,(P1.out.keep B2.out).less (fun b hb=>Or.inl hb),(K1.out.below B1.out).below B2.out⟩
end
end
section
open Go.RowKit Go.Maps
open Dsk (gt hid undrew keep_old keep_cell lt_cell Rd)
open Cch (Fr wpAnyK wpAnyK_done wp_region_K)
open Jrn (Pv2 Row5 numAt RB fr_two trunkN rootN putN nul)
section
variable {arm:Prop} {room croom K:Nat} {p q:Nat} {R:Nat→Prop} {t:RS} {w:World}
end
end
section
open Go.RowKit Go.Maps
open Dsk (gt hid undrew keep_old keep_cell lt_cell Rd)
open Cch (Fr)
open Jrn (Pv2 Row5 numAt RB fr_two trunkN rootN putN nul rowV rowC)
section
variable {arm:Prop} {room croom K:Nat} {p q:Nat} {R:Nat→Prop} {t:RS} {w:World}
end
end
section
open Go.RowKit Go.Maps
open Dsk (gt hid undrew keep_old keep_cell lt_cell Rd)
open Cch (Fr wpAnyK wpAnyK_done wp_region_K)
open Jrn (Pv2 Row5 numAt RB fr_two trunkN rootN putN nul rowV rowC)
section
variable {arm:Prop} {room croom K:Nat} {p q:Nat} {R:Nat→Prop} {t:RS} {w:World}
end
end
end Go.Proofs.YtneemfbnjkcflaaGreatDoor
