/- The list of free pages as plain numbers: what is taken, given and trimmed; no statement of the seat is proved here. -/
import Derived.Test.YtfcikkechphmaaaGreatDoorW42
import Derived.Test.YtfcikkechphmaaaGreatDoorW41
import Derived.Test.YtfcikkechphmaaaGreatDoorW27
import Derived.Test.YtfcikkechphmaaaGreatDoorW17
import Derived.Laws.ResultCell
import Derived.Test.YtfcikkechphmaaaGreatDoorW26
import Derived.Lib.AppendZerosOnto
import Derived.Test.YtfcikkechphmaaaGreatDoorW36
import Derived.Test.YtfcikkechphmaaaGreatDoorW30
import Derived.OwnWalk
set_option maxHeartbeats 16000000
set_option maxRecDepth 20000
namespace Go.Proofs.YtfcikkechphmaaaGreatDoor
end Go.Proofs.YtfcikkechphmaaaGreatDoor
namespace Go.Proofs.YtfcikkechphmaaaGreatDoor
section
open Go.RowKit Go.Maps
open Dsk (gt hid undrew keep_old keep_cell lt_cell Rd)
open Cch (Fr wpAnyK wpAnyK_done wp_region_K)
open Jrn (Pv2 Row5 numAt RB fr_two trunkN rootN putN nul)
section
variable {arm:Prop} {room croom K:Nat} {p q:Nat} {R:Nat→Prop} {t:RS} {w:World}
theorem AO.at_{B:Nat}{W0 W:World}{v:Value}{l:List Nat}{Q:Nat→Prop}(h:AO arm room croom K p q Q t B W0 v l W):PrgAt arm room croom K W p q Q t:=h.p.less (fun _ hb=>Or.inl hb)
theorem Take_grow(hb:Nat)(ws:List Nat)(h:PrgAt arm room croom K w p q R t)(hh:HeapAt w hb p)(hR:R hb)(hx:t.now.getD 0 []=rootN 0 0 ws)(hbz:t.busy=true)(hn:0<t.now.length)(hn4:t.now.length<4000)(hK:K+2≤500000) :
  Calls Tryz.prog 55 #[.pointer (some ⟨hb,0,none⟩)] w fun e w'=>e=.returned (.tuple #[.int .i64 ((t.now.length+1:Nat):Int),.int .i64 0])∧PrgAt arm room croom (K+2) w' p q R t.grow∧Rok R w w':=by
 have hpb:t.pages=t.now:=RS.pages_busy hbz
 have CG:=hid (changing_yes hb h hh hbz (by rw [hpb];exact hn) (by omega))
 rw [hpb,hx]at CG
 have CLi:=hid (fun W g cap RR B0 (hP:PrgAt arm room croom (K+1) W p q RR t) (hH:HeapAt W hb p) (h1:RR hb) (h2:Row5 W B0 g cap (rootN 0 0 ws))=>list_any (R:=RR) hb g cap 0 0 B0 ws [] hP hH h1 h2 (by omega) (by omega) rfl rfl (by rw [hpb];exact hn) (by rw [hpb];omega) (by omega) (by simp;omega))
 have CW:=hid (fun W RR (hP:PrgAt arm room croom (K+1) W p q RR t)=>prg_grow_yes (R:=RR) hP hbz hn4 (by omega))
 have HH:=hid hh;have HR:=hid hR;have H:=hid h
 clear h hh hR hx hpb
 unfold Pv2 at *
 go_enter Tryz.func55,Tryz.ntmps55
 go_wp2_with (first
  | (go_at_call 111;refine CG.out.mono ?_;rintro e w1 ⟨g,cap,rfl,hr1,hg1,hP1,hok1⟩;have B1:=hid (show Below w1.heap.size w1 (w1.alloc (.cells #[.int .i64 1,.slice (some ⟨g,0,none⟩) 512 cap] 133)) from Below.alloc (Below.refl _ _) (Nat.le_refl _) _);have R1:=hid (hr1.keep B1.out);have P1:=hid (hP1.new B1.out (Nat.le_refl _) (by simp));have K1:=hid hok1;have H1:=hid ((HH.out.rok hok1 HR.out).keep B1.out);clear hr1 hg1 hP1 hok1)
  | (go_at_call 68;refine (CLi.out _ g cap _ _ P1.out H1.out (Or.inl (Or.inl HR.out)) R1.out).mono ?_;rintro e w2 ⟨ao,cp,rfl,hA⟩;have A2:=hid hA;have H2:=hid (H1.out.rok hA.k (Or.inl (Or.inl HR.out)));have c2:=H2.out.cell;clear hA)
  | (go_at_call 108;refine (CW.out w2 _ A2.out.at_).mono ?_;rintro e w3 ⟨rfl,hP3,hok3⟩;have P3:=hid hP3;have K3:=hid hok3;clear hP3 hok3))
 go_ret2
 refine ⟨rfl,P3.out.less (fun b hb=>Or.inl (Or.inl hb)),?_⟩
 exact ((K1.out.below B1.out).then A2.out.k (fun b hb=>Or.inl (Or.inl hb))).then K3.out (fun b hb=>Or.inl (Or.inl hb))
end
end
section
open Go.RowKit Go.Maps
open Dsk (gt hid undrew keep_old keep_cell lt_cell Rd)
open Cch (Fr wpAnyK wpAnyK_done wp_region_K)
open Jrn (Pv2 Row5 numAt RB fr_two trunkN rootN putN nul)
section
variable {arm:Prop} {room croom K:Nat} {p q:Nat} {R:Nat→Prop} {t:RS} {w:World}
end
end
section
open Go.RowKit Go.Maps
open Dsk (gt hid undrew keep_old keep_cell lt_cell Rd)
open Cch (Fr)
open Jrn (Pv2 Row5 numAt RB fr_two trunkN rootN putN nul)
section
variable {arm:Prop} {room croom K:Nat} {p q:Nat} {R:Nat→Prop} {t:RS} {w:World}
structure HeapS (arm:Prop) (room croom K:Nat) (w:World) (hb p q:Nat) (R:Nat→Prop) (t:RS) (tr:List (Nat×List Nat)) (ws:List Nat):Prop where
 prg:PrgAt arm room croom K w p q R t
 heap:HeapAt w hb p
 mem:R hb
 lay:Lay t.now tr ws
 busy:t.busy=true
 sur:t.sure = []∧t.n=0
end
end
section
open Go.RowKit Go.Maps
open Dsk (gt hid undrew keep_old keep_cell lt_cell Rd)
open Cch (Fr)
open Jrn (Pv2 Row5 numAt RB fr_two trunkN rootN putN nul)
section
variable {arm:Prop} {room croom K:Nat} {p q:Nat} {R:Nat→Prop} {t:RS} {w:World}
end
end
section
open Go.RowKit Go.Maps Go.Sort Go.Shelf Go.Lib
open Dsk (gt hid undrew keep_old keep_cell lt_cell Rd)
open Cch (Fr wpAnyK wpAnyK_done wp_region_K)
open Jrn (Pv2 Row5 numAt RB fr_two trunkN rootN putN nul)
section
variable {arm:Prop} {room croom K:Nat} {p q:Nat} {R:Nat→Prop} {t:RS} {w:World}
end
end
section
open Go.RowKit Go.Maps
open Dsk (gt hid undrew keep_old keep_cell lt_cell Rd)
open Cch (Fr)
open Jrn (Pv2 Row5 numAt RB fr_two trunkN rootN putN nul)
section
variable {arm:Prop} {room croom K:Nat} {p q:Nat} {R:Nat→Prop} {t:RS} {w:World}
end
end
section
open Go.RowKit Go.Maps
open Dsk (gt hid undrew keep_old keep_cell lt_cell Rd)
open Cch (Fr wpAnyK wpAnyK_done wp_region_K)
open Jrn (Pv2 Row5 numAt RB fr_two trunkN rootN putN nul)
def S7(b:Nat)(k:Int)(hb p:Nat)(W:World):Prop:=W.cell? ⟨b,0,none⟩=some (.int .i64 k)∧W.cell? ⟨hb,0,none⟩=some (.pointer (some ⟨p,0,none⟩))
section
variable {arm:Prop} {room croom K:Nat} {p q:Nat} {R:Nat→Prop} {t:RS} {w:World}
end
end
section
open Go.RowKit Go.Maps
open Dsk (gt hid undrew keep_old keep_cell lt_cell Rd)
open Cch (Fr)
open Jrn (Pv2 Row5 numAt RB fr_two trunkN rootN putN nul rowV rowC)
section
variable {arm:Prop} {room croom K:Nat} {p q:Nat} {R:Nat→Prop} {t:RS} {w:World}
end
end
section
open Go.RowKit Go.Maps
open Dsk (gt hid undrew keep_old keep_cell lt_cell Rd)
open Cch (Fr wpAnyK wpAnyK_done wp_region_K)
open Jrn (Pv2 Row5 numAt RB fr_two trunkN rootN putN nul rowV rowC)
section
variable {arm:Prop} {room croom K:Nat} {p q:Nat} {R:Nat→Prop} {t:RS} {w:World}
end
end
namespace Spl
open Go.RowKit Go.Maps
open Dsk (gt hid undrew keep_old keep_cell lt_cell)
open Jrn (Rd bs bs_length bs_one bs_get rd_own Row5 putN numAt numAt_getV numAt_lt wrap_small)
open Cch (Fr hd_cell hd_frozen blk_set)
theorem Pager_yes{w:World}{hb p:Nat}(h:HeapAt w hb p):Calls Tryz.prog 19 #[.pointer (some ⟨hb,0,none⟩)] w fun e w'=>e=.returned (.pointer (some ⟨p,0,none⟩))∧w'=w:=by
 have c:=h.cell
 clear h
 go_enter Tryz.func19,Tryz.ntmps19
 go_wp2
 go_ret
 exact ⟨rfl,rfl⟩
section
variable {arm:Prop} {room croom K:Nat} {p q:Nat} {R:Nat→Prop} {t:RS} {w:World}
end
end Spl
namespace Spl
open Go.RowKit Go.Maps
open Dsk (gt hid undrew keep_old keep_cell lt_cell)
open Cch (Fr TwoKept RPost Rec put_other)
section
variable {n:Nat} {P:Program} {g:Operand} {ps:Array Tmp} {assign body:Code} {Q:Exit→Act→World→Prop} {a:Act} {w:World}
end
attribute [local go_sem] Oper.semAt_some
end Spl
namespace Spl
open Go.RowKit Go.Maps
open Dsk (gt hid undrew keep_old keep_cell lt_cell)
open Jrn (Rd bs bs_length bs_one bs_get rd_own Row5 putN numAt)
open Cch (Fr TwoKept RPost Rec put_other)
section
variable {arm:Prop} {room croom K:Nat} {p q:Nat} {R:Nat→Prop} {t:RS} {w:World} {hb S mb ob:Nat} {T e:TypeId} {Bx:List (Nat×TypeId×Value)} {v:Value} {us:List Value} {W:World}
end
end Spl
namespace Spl
open Go.RowKit Go.Maps
open Dsk (gt hid undrew keep_old keep_cell lt_cell)
open Jrn (Rd bs bs_length bs_one bs_get rd_own Row5 putN numAt)
open Cch (Fr TwoKept RPost Rec put_other)
theorem ret_cells{P:Program}{fn:Func}{a b:Tmp}{s t:TypeId}(h:fn.results = #[.cell a s,.cell b t])(hs:∀ W,(isAgg s).run P W=.ok false W)(ht:∀ W,(isAgg t).run P W=.ok false W){tmps:Array Value}{W:World}{q r:Nat}{x y:Value}
  (ha:tmps.getD a undef=.pointer (some ⟨q,0,none⟩)) (hb:tmps.getD b undef=.pointer (some ⟨r,0,none⟩)) (hx:W.cell? ⟨q,0,none⟩=some x) (hy:W.cell? ⟨r,0,none⟩=some y):(results fn tmps).run P W=.ok (.tuple #[x,y]) W:=by
 have ha':tmps[a]?.getD undef=.pointer (some ⟨q,0,none⟩):=by simpa using ha
 have hb':tmps[b]?.getD undef=.pointer (some ⟨r,0,none⟩):=by simpa using hb
 have l1:(loadVar s ⟨q,0,none⟩).run P W=.ok x W:=by simp [loadVar,hs,hx]
 have l2:(loadVar t ⟨r,0,none⟩).run P W=.ok y W:=by simp [loadVar,ht,hy]
 simp only [results,h]
 simp [Sem.run_bind,Result.andThen,ha',hb',asAddr,l1,l2]
theorem agg31(W:World):(isAgg 29).run Tryz.prog W=.ok false W:=by kernel_rfl
section
variable {arm:Prop} {room croom K:Nat} {p q:Nat} {R:Nat→Prop} {t:RS} {w:World}
attribute [local go_sem] Oper.semAt_some
end
end Spl
namespace Spl
open Go.RowKit Go.Maps
open Dsk (gt hid undrew keep_old keep_cell lt_cell)
open Jrn (Rd bs bs_length bs_one bs_get bs_get' bs_append rd_own Row5 putN numAt)
open Cch (Fr TwoKept RPost Rec put_other)
section
variable {arm:Prop} {room croom K:Nat} {p q:Nat} {R:Nat→Prop} {t:RS} {w:World}
attribute [local go_sem] Oper.semAt_some
end
end Spl
namespace Spl
open Go.RowKit Go.Maps
open Dsk (gt hid undrew keep_old keep_cell lt_cell)
open Jrn (Rd bs bs_length bs_one bs_get bs_get' bs_append rd_own Row5 putN numAt rootN)
open Cch (Fr hd_cell hd_frozen blk_set wpAnyK wpAnyK_done wp_region_K)
section
variable {arm:Prop} {room croom K:Nat} {p q:Nat} {R:Nat→Prop} {t:RS} {w:World}
end
end Spl
namespace Spl
open Go.RowKit Go.Maps
open Dsk (gt hid undrew keep_old keep_cell lt_cell)
open Cch (Fr hd_cell hd_frozen blk_set wpAnyK wpAnyK_done wp_region_K)
section
variable {arm:Prop} {room croom K:Nat} {p q:Nat} {R:Nat→Prop} {t:RS} {w:World}
end
end Spl
namespace Spl
open Go.RowKit Go.Maps
open Dsk (gt hid undrew keep_old keep_cell lt_cell)
open Jrn (Rd bs bs_length bs_one bs_get bs_get' bs_append rd_own Row5 putN numAt rootN Pv2)
open Cch (Fr hd_cell hd_frozen blk_set wpAnyK wpAnyK_done wp_region_K)
section
variable {arm:Prop} {room croom K:Nat} {p q:Nat} {R:Nat→Prop} {t:RS} {w:World}
end
end Spl
namespace Spl
open Go.RowKit Go.Maps
open Dsk (gt hid undrew keep_old keep_cell lt_cell)
open Jrn (Rd bs bs_length bs_one bs_get bs_get' bs_append rd_own Row5 putN numAt rootN Pv2)
open Cch (Fr hd_cell hd_frozen blk_set wpAnyK wpAnyK_done wp_region_K)
section
variable {arm:Prop} {room croom K:Nat} {p q:Nat} {R:Nat→Prop} {t:RS} {w:World}
end
end Spl
section
open Go.RowKit Go.Maps
open Dsk (gt hid undrew keep_old keep_cell lt_cell Rd DS FS Sec DiskP DFrame Grew From lenD readD newD known)
open Cch (CS CP Fr)
structure Clean (d:DS) (l:List Pg):Prop where
 f0:d.f0.now=secsOf l
 f1:d.f1.now = []
 on:d.off=false
theorem hot_nil:Jrn.hotN []=false:=by decide
variable {l:List Pg} {d:DS}
theorem Clean.len(h:Clean d l):lenD d 0=l.length*4∧lenD d 1=0:=by
 constructor
 ·show d.f0.now.length=_
  rw [h.f0,secsOf_length]
 ·show d.f1.now.length=_
  rw [h.f1];rfl
theorem Clean.read(h:Clean d l):readD d 1 0 0=([],0):=by
 have hk:known 1=true:=rfl
 have hf:(d.file 1)=d.f1:=rfl
 unfold readD
 rw [h.on,hk,hf,h.f1]
 simp
theorem Clean.cut(h:Clean d l):firstD [.ct 1 0] d=(0,d):=by
 simp [firstD,Stp.go,h.len.2]
theorem recovered_clean(q:Nat)(P:Dsk.Parts)(d:DS)(l:List Pg)(w:World)(h:DiskP w q P d)(hc:Clean d l)(hl:l.length≤4000)(hT:Jrn.Tab w)(hop:d.ops≤900000000) :
  Calls Tryz.prog 103 #[.pointer (some ⟨q,0,none⟩)] w fun e w'=>e=.returned (.tuple #[.int .i64 0,.int .i64 0])∧DiskTo w w' q P d:=by
 obtain ⟨hl0,hl1⟩:=hc.len
 have cs1:=Dsk.sectors_call q P d 1 w h
 rw [hl1]at cs1
 have cr:=Dsk.read_call q P d 0 0 0 w h (by omega) (by omega)
 have cr1:=Dsk.read_call q P d 1 0 0 w h (by omega) (by omega)
 rw [hc.read]at cr1
 have C1:=hid cs1;have C2:=hid cr1;have H:=hid h;have HT:=hid hT;have HC:=hid hc
 have HC0:Hid (∀ W,DiskP W q P d→Calls Tryz.prog 104 #[.pointer (some ⟨q,0,none⟩),.int .i64 0] W fun e w'=>e=.returned (.int .i64 ((l.length*4:Nat):Int))∧w'=W):=hid (fun W hW=>by have:=Dsk.sectors_call q P d 0 W hW;rw [hl0]at this;exact this)
 obtain ⟨N,hN⟩:∃ N,l.length*4=N:=⟨_,rfl⟩
 rw [hN]at HC0
 have hm:(N:Int) % 4=0:=by omega
 have hq:(N:Int)/4≤4000:=by omega
 have hN0:(0:Int)≤(N:Int):=by omega
 have htm:(N:Int).tmod 4=0:=by rw [Int.tmod_eq_emod_of_nonneg hN0];exact hm
 have htd:(N:Int).tdiv 4≤4000:=by rw [Int.tdiv_eq_ediv_of_nonneg hN0];exact hq
 clear cs1 cr cr1 h hT hc hl0 hl1 hN
 go_enter Tryz.func103,Tryz.ntmps103
 have t1:Hid True:=hid trivial
 go_wp2_with (first
  | (go_at_call 104;clear t1;refine C1.out.mono ?_;rintro e w1 ⟨rfl,hw⟩;obtain rfl:=hw.symm)
  | (go_at_call 159;refine C2.out.mono ?_;rintro e w2 ⟨ro,rc,rfl,hr,_,hb⟩;have R2:Hid (Rd w2 ro 0 rc []):=hid hr;have B2:=hid hb;clear hr hb)
  | (go_at_call 104;refine (HC0.out w2 (H.out.later B2.out)).mono ?_;rintro e w3 ⟨rfl,hw⟩;obtain rfl:=hw.symm)
  | (go_at_call 160;refine (cut_make q 1 0 (DN q P) w2 (fun k hk=>Nat.lt_of_lt_of_le (DN.lt H.out hk) B2.out.size)).mono ?_;rintro e w4 ⟨x4,rfl,s4,hb4⟩;obtain ⟨n4,cs4,rfl⟩:=step_func s4;have hb5:Below w4.heap.size w4 (w4.alloc (.cells #[.func (.func n4) #[] cs4] 244)):=Below.alloc (Below.refl _ _) (Nat.le_refl _) _;have S5:=hid (s4.later hb5);have B4:Hid (w2.heap.size≤w4.heap.size):=hid hb4.size;have B5:=hid (gt (gt B2.out hb4) hb5);have R5:=hid ((R2.out.keep hb4).keep hb5);clear s4 hb4 hb5)
  | (go_at_call 161;refine (Jrn.hot_any ro 0 rc [] _ R5.out (by intro x hx;cases hx) (by omega) (HT.out.keep B5.out)).mono ?_;rw [hot_nil];rintro e w6 ⟨rfl,hb6⟩;have B6:=hid (gt B5.out hb6);have ST6:Hid (StepsAt w6 q (DN q P) (some ⟨w4.heap.size,0,none⟩) [.ct 1 0]):=hid (StepsAt.later (steps_lit (us:=[.func (.func n4) #[] cs4]) 244 (fun k hk=>Nat.lt_of_lt_of_le (DN.lt H.out hk) B2.out.size) B4.out (fun j s hs=>by match j with | 0=>simp at hs;subst hs;exact ⟨_,rfl,S5.out⟩ | j+1=>simp at hs)) hb6);clear hb6)
  | (go_at_call 165;refine (show Calls Tryz.prog 165 #[.slice (some ⟨w4.heap.size,0,none⟩) 1 1] w6 _ from first_call q P d (some ⟨w4.heap.size,0,none⟩) 1 [.ct 1 0] w6 (H.out.later B6.out) (by simp;omega) ST6.out).mono ?_;rw [HC.out.cut];rintro e w7 ⟨rfl,hto⟩;have T7:=hid hto;clear hto))
 go_ret2
 exact ⟨rfl,DiskTo.first B6.out T7.out⟩
theorem end_gen(p:Nat)(T:Int)(w:World)(a4:w.cell? ⟨p,4,none⟩=some (.int .i64 T))(a5:w.cell? ⟨p,5,none⟩=some (.bool false))(a6:w.cell? ⟨p,6,none⟩=some (.int .i64 0))(a7:w.cell? ⟨p,7,none⟩=some (.map none))(a8:w.cell? ⟨p,8,none⟩=some (.slice none 0 0))(a9:w.cell? ⟨p,9,none⟩=some (.int .i64 0))(hf:∀ i,w.frozen? ⟨p,i,none⟩=false) :
  Calls Tryz.prog 105 #[.pointer (some ⟨p,0,none⟩)] w fun e w'=>e=.returned (.tuple #[])∧w'=(((((w.setCell ⟨p,5,none⟩ (.bool false)).setCell ⟨p,6,none⟩ (.int .i64 T)).setCell ⟨p,7,none⟩ (.map (some w.heap.size))).setCell ⟨p,8,none⟩ (.slice none 0 0)).setCell ⟨p,9,none⟩ (.int .i64 0)).alloc (.map #[] 0):=by
 have f5:=hf 5;have f6:=hf 6;have f7:=hf 7;have f8:=hf 8;have f9:=hf 9
 have hp:p<w.heap.size:=lt_cell a4
 have hne:¬p=w.heap.size:=by omega
 have mk:=fun W=>run_makeMap (P:=Tryz.prog) 120 W
 clear hf
 go_enter Tryz.func105,Tryz.ntmps105
 go_wp2
 go_end0
 exact ⟨rfl,rfl⟩
def rawP(q k:Nat)(T:Int)(rep:Int):List Value:=[.bool true,.int .i64 0,.pointer (some ⟨q,0,none⟩),.pointer (some ⟨k,0,none⟩),.int .i64 T,.bool false,.int .i64 0,.map none,.slice none 0 0,.int .i64 0,.int .i64 0,.int .i64 rep]
structure OpenTo (w w':World) (q:Nat) (P:Dsk.Parts) (d:DS) (room:Nat) (l:List Pg) (p:Nat) (x:PC):Prop where
 is:∃ P' C s,Rest w' p x P' C d s l∧s.hit=0∧s.miss=0∧s.room=room∧(∀ b,NC p x P' C b→DN q P b∨w.heap.size≤b)
 xq:x.q=q
 com:x.com=0
 rep:x.rep=0
 busy:x.busy=false
 new:w.heap.size≤p
 mnew:w.heap.size≤x.m
 mks:x.mo=none∧x.ml=0∧x.mc=0∧x.last=0
 fr:Fr (DN q P) w w'
theorem tx_open{w w':World}{p q k T:Nat}{P:Dsk.Parts}{C:Cch.Parts}{s:CS}(hd:w.heap[p]? = some (.cells (rawP q k (T:Int) 0).toArray 128 (0,0)))(dk:DiskP w q P d)(ck:CP w k C s)(dc:∀ b,DN q P b→¬C.S k b)(dp:¬DN q P p)(cp:¬C.S k p)(hf:Fits s l)(hT:T=l.length)(ws:Whole l)(bs:l.length≤4000)(tab:Jrn.Tab w)(t0:0<w.heap.size∧¬DN q P 0∧¬C.S k 0∧0≠p)
  (hw:w'=(((((w.setCell ⟨p,5,none⟩ (.bool false)).setCell ⟨p,6,none⟩ (.int .i64 (T:Int))).setCell ⟨p,7,none⟩ (.map (some w.heap.size))).setCell ⟨p,8,none⟩ (.slice none 0 0)).setCell ⟨p,9,none⟩ (.int .i64 0)).alloc (.map #[] 0)) :
  Rest w' p ⟨q,k,T,false,T,w.heap.size,none,0,0,0,0,0⟩ P C d s l∧Fr (fun b=>b=p) w w':=by
 have hpl:p<w.heap.size:=(Array.getElem?_eq_some_iff.1 hd).1
 obtain ⟨W,hW⟩:∃ W,W=((((w.setCell ⟨p,5,none⟩ (.bool false)).setCell ⟨p,6,none⟩ (.int .i64 (T:Int))).setCell ⟨p,7,none⟩ (.map (some w.heap.size))).setCell ⟨p,8,none⟩ (.slice none 0 0)).setCell ⟨p,9,none⟩ (.int .i64 0):=⟨_,rfl⟩
 have hWs:W.heap.size=w.heap.size:=by rw [hW];simp
 have hWo:∀ b,b≠p→W.heap[b]? = w.heap[b]?:=fun b hb=>by
  rw [hW,heap_setCell_other _ _ _ _ hb,heap_setCell_other _ _ _ _ hb,heap_setCell_other _ _ _ _ hb,heap_setCell_other _ _ _ _ hb,heap_setCell_other _ _ _ _ hb]
 rw [←hW]at hw
 have hs':w'.heap.size=w.heap.size+1:=by rw [hw];simp [hWs]
 have ho:∀ b,b<w.heap.size→b≠p→w'.heap[b]? = w.heap[b]?:=fun b hb hbp=>by
  rw [hw,hao _ _ _ (by rw [hWs];exact hb)];exact hWo b hbp
 have hPg:PgAt w' p ⟨q,k,T,false,T,w.heap.size,none,0,0,0,0,0⟩:=by
  have h1:=Cch.blk_set (Cch.blk_set (Cch.blk_set (Cch.blk_set (Cch.blk_set hd (i:=5) (v:=.bool false)) (i:=6) (v:=.int .i64 (T:Int))) (i:=7) (v:=.map (some w.heap.size))) (i:=8) (v:=.slice none 0 0)) (i:=9) (v:=.int .i64 0)
  rw [←hW]at h1
  unfold PgAt
  rw [hw,hao _ _ _ (by rw [hWs];exact hpl),h1]
  rfl
 have hmap:w'.ownsMap Tryz.prog 3 slR w.heap.size 0 (Dsk.dirtD (false::List.replicate l.length false) (List.replicate (l.length+1) [])):=by
  rw [dirt_none,hw]
  have:=World.ownsMap_made W Tryz.prog 3 slR (H:=Unit)
  rw [hWs]at this;exact this
 have hcore:Core w' p ⟨q,k,T,false,T,w.heap.size,none,0,0,0,0,0⟩ P C d s:=
  ⟨hPg,dk.stay (by omega) (fun b hb hdd=>ho b hb (fun e=>dp (by rcases hdd with h1 |h1;exact Or.inr (e▸h1);exact Or.inl (e▸h1)))),ck.stay (fun b hb hS=>ho b hb (fun e=>cp (e▸hS))),dc,dp,cp⟩
 have hfr:Fr (fun b=>b=p) w w':=by rw [hw,hW];exact alloc_frame (set_frame (set_frame (set_frame (set_frame (set_frame (Fr.refl _ _))))))
 have hcf:∀ i,(List.replicate l.length false).getD i false=false:=fun i=>by
  rw [List.getD,List.getElem?_replicate];split<;>rfl
 have hlt:∀ b,NC p ⟨q,k,T,false,T,w.heap.size,none,0,0,0,0,0⟩ P C b→b<w.heap.size:=fun b hb=>by
  rcases hb with hb |hb |rfl
  ·exact DN.lt dk hb
  ·exact ck.lt hb
  ·exact hpl
 refine ⟨⟨hcore,⟨hmap,by simp,by simp,fun i hi=>?_⟩,⟨by show w.heap.size<_;omega,fun hk=>by have:=hlt _ hk;simp only at this;omega⟩,hf,hT,hT,ws,ws,bs,bs,tab_of tab (ho 0 t0.1 t0.2.2.2),⟨by have:=t0.1;omega,fun hk=>?_⟩,?_,fun i hi _=>⟨hi,rfl⟩⟩,hfr⟩
 ·rw [hcf i]at hi;cases hi
 ·rcases hk with hk |hk |hk
  ·exact t0.2.1 hk
  ·exact t0.2.2.1 hk
  ·exact t0.2.2.2 hk
 ·show w.heap.size≠0
  have:=t0.1;omega
theorem open_clean(q room:Nat)(P:Dsk.Parts)(d:DS)(l:List Pg)(w:World)(h:DiskP w q P d)(hc:Clean d l)(hw:Whole l)(hl:l.length≤4000)(hr1:8≤room)(hr2:room≤4096)(hT:Jrn.Tab w)(h0:Out w (DN q P) 0)(hop:d.ops≤900000000) :
  Calls Tryz.prog 49 #[.pointer (some ⟨q,0,none⟩),.int .i64 (room:Int)] w fun e w'=>∃ p x,e=.returned (.tuple #[.pointer (some ⟨p,0,none⟩),.int .i64 0])∧OpenTo w w' q P d room l p x:=by
 have c41:=hid (Dsk.room_any q P d w h)
 have hrm:¬(d.room:Int)=0:=by have:=h.ok.r1;omega
 have c42:=hid (Cch.new_yes room w (by omega) hr2)
 have HR:=hid (fun W (hb:Below w.heap.size w W)=>recovered_clean q P d l W (h.later hb) hc hl (hT.keep hb) hop)
 have H:=hid h;have HC:=hid hc;have HW:=hid hw;have HT:=hid hT;have H0:=hid h0
 have hl0:=hc.len.1
 have C29:Hid (∀ W P',DiskP W q P' d→Calls Tryz.prog 104 #[.pointer (some ⟨q,0,none⟩),.int .i64 0] W fun e w'=>e=.returned (.int .i64 ((l.length*4:Nat):Int))∧w'=W):=hid (fun W P' hW=>by have:=Dsk.sectors_call q P' d 0 W hW;rw [hl0]at this;exact this)
 obtain ⟨T,hTl⟩:∃ T,T=l.length:=⟨_,rfl⟩
 rw [←hTl]at C29 hl
 have HTL:=hid hTl
 obtain ⟨N,hN⟩:∃ N,T*4=N:=⟨_,rfl⟩
 rw [hN]at C29
 have hdiv:(N:Int).tdiv 4=(T:Int):=by rw [Int.tdiv_eq_ediv_of_nonneg (by omega)];omega
 have hr8:¬(room:Int)<8:=by omega
 clear h hc hw hT h0 hl0 hTl hN
 go_enter Tryz.func49,Tryz.ntmps49
 go_upto_region 10 with (first
  | (go_at_call 101;refine c41.out.mono ?_;rintro e w1 ⟨rfl,hw1⟩;obtain rfl:=hw1.symm)
  | (go_at_call 102;refine c42.out.mono ?_;rintro e w2 ⟨k,rfl,C,hcp,hks,hCS,hb2⟩;have CP2:=hid hcp;have CS2:=hid hCS;have B2:=hid hb2;clear hcp hks hCS hb2)
  | (go_at_call 103;refine (HR.out w2 B2.out).mono ?_;rintro e w3 ⟨rfl,hto⟩;have T3:=hid hto;clear hto))
 obtain ⟨P3,hd3,hg3⟩:=T3.out.is
 obtain ⟨pp,hpp⟩:∃ pp,pp=w3.heap.size:=⟨_,rfl⟩
 obtain ⟨W4,hW4⟩:∃ W4,W4=w3.alloc (.cells (rawP q k 0 0).toArray 128):=⟨_,rfl⟩
 have hb4:Below w3.heap.size w3 W4:=by rw [hW4];exact Below.alloc (Below.refl _ _) (Nat.le_refl _) _
 have hr4:W4.heap[pp]? = some (.cells (rawP q k 0 0).toArray 128 (0,0)):=by rw [hW4,hpp];exact heap_alloc_new w3 _
 obtain ⟨W5,hW5⟩:∃ W5,W5=W4.setCell ⟨pp,4,none⟩ (.int .i64 (T:Int)):=⟨_,rfl⟩
 have hr5:W5.heap[pp]? = some (.cells (rawP q k (T:Int) 0).toArray 128 (0,0)):=by rw [hW5,Cch.blk_set hr4];rfl
 have h5o:∀ b,b≠pp→W5.heap[b]? = W4.heap[b]?:=fun b hb=>by rw [hW5,heap_setCell_other _ _ _ _ hb]
 have h5s:W5.heap.size=W4.heap.size:=by rw [hW5];simp
 have h4s:W4.heap.size=pp+1:=by rw [hW4,hpp];simp
 have h45:∀ b,b<pp→W5.heap[b]? = w3.heap[b]?:=fun b hb=>(h5o b (by omega)).trans (hb4.block b (by omega))
 have hdk5:DiskP W5 q P3 d:=hd3.stay (by omega) (fun b hb _=>h45 b (by omega))
 have hf3:=fr_df T3.out.fr
 have hDN:∀ b,DN q P b→b<w.heap.size:=fun b hb=>DN.lt H.out hb
 have hck5:CP W5 k C ⟨room,[],0,0⟩:=CP2.out.stay (fun b hb hS=>(h45 b (by have:=hf3.size;omega)).trans (hf3.blk b hb (fun hk=>by have h1:=hDN b hk;have h2:=CS2.out b hS;omega)))
 have hDN3:∀ b,DN q P3 b→DN q P b∨w2.heap.size≤b:=fun b hb=>by
  rcases hb with hb |hb
  ·exact Or.inl (Or.inl hb)
  ·rcases hg3 b hb with h1 |h1
   ·exact Or.inl (Or.inr h1)
   ·exact Or.inr h1
 have hdc:∀ b,DN q P3 b→¬C.S k b:=fun b hb hS=>by
  have h1:=CP2.out.lt hS
  rcases hDN3 b hb with h2 |h2
  ·have h3:=hDN b h2;have h4:=CS2.out b hS;omega
  ·omega
 have hdp:¬DN q P3 pp:=fun hk=>by have h1:=DN.lt hd3 hk;omega
 have hcp:¬C.S k pp:=fun hk=>by have h1:=CP2.out.lt hk;have:=hf3.size;omega
 have hsz:w.heap.size≤w3.heap.size:=Nat.le_trans B2.out.size hf3.size
 have h00:=H0.out.1
 have hD0:¬DN q P3 0:=fun hk=>by
  rcases hDN3 0 hk with h1 |h1
  ·exact H0.out.2 h1
  ·have:=B2.out.size;omega
 have hC0:¬C.S k 0:=fun hS=>by have:=CS2.out 0 hS;omega
 have htab:Jrn.Tab W5:=tab_of HT.out ((h45 0 (by omega)).trans ((hf3.blk 0 (by have:=B2.out.size;omega) (fun hk=>H0.out.2 hk)).trans (B2.out.block 0 h00)))
 have hfit:Fits (⟨room,[],0,0⟩:CS) l:=⟨fun r hr=>(by cases hr),Nat.zero_le _,hr1⟩
 have FF:Hid (∀ w',w'=(((((W5.setCell ⟨pp,5,none⟩ (.bool false)).setCell ⟨pp,6,none⟩ (.int .i64 (T:Int))).setCell ⟨pp,7,none⟩ (.map (some W5.heap.size))).setCell ⟨pp,8,none⟩ (.slice none 0 0)).setCell ⟨pp,9,none⟩ (.int .i64 0)).alloc (.map #[] 0)→_):=
  hid (fun w' hw=>tx_open hr5 hdk5 hck5 hdc hdp hcp hfit HTL.out HW.out (by rw [←HTL.out];exact hl) htab ⟨by omega,hD0,hC0,by omega⟩ hw)
 have CE:=hid (end_gen pp (T:Int) W5 ((Cch.hd_cell hr5 4).trans rfl) ((Cch.hd_cell hr5 5).trans rfl) ((Cch.hd_cell hr5 6).trans rfl) ((Cch.hd_cell hr5 7).trans rfl) ((Cch.hd_cell hr5 8).trans rfl) ((Cch.hd_cell hr5 9).trans rfl) (fun i=>Cch.hd_frozen hr5 i))
 have CS4:=hid (C29.out W4 P3 (hd3.later hb4))
 have k4:W4.cell? ⟨pp,4,none⟩=some (.int .i64 0):=(Cch.hd_cell hr4 4).trans rfl
 have f4:W4.frozen? ⟨pp,4,none⟩=false:=Cch.hd_frozen hr4 4
 have HW5:=hid hW5
 have FIN:Hid (Fr (DN q P) w W5∧w.heap.size≤pp∧(∀ b,DN q P3 b∨C.S k b∨b=pp→DN q P b∨w.heap.size≤b)):=hid ⟨⟨by rw [hW5,hW4];exact hf3.os.trans B2.out.os,by rw [hW5,hW4];exact hf3.tape.trans B2.out.tape,by rw [hW5,hW4];exact hf3.output.trans B2.out.output,by omega,fun b hb hn=>(h45 b (by omega)).trans ((hf3.blk b (Nat.lt_of_lt_of_le hb B2.out.size) hn).trans (B2.out.block b hb))⟩,by omega,fun b hb=>by
  rcases hb with hb |hb |hb
  ·rcases hDN3 b hb with h1 |h1
   ·exact Or.inl h1
   ·exact Or.inr (Nat.le_trans B2.out.size h1)
  ·exact Or.inr (CS2.out b hb)
  ·right;omega⟩
 have hw4:w3.alloc (.cells #[.bool true,.int .i64 0,.pointer (some ⟨q,0,none⟩),.pointer (some ⟨k,0,none⟩),.int .i64 0,.bool false,.int .i64 0,.map none,.slice none 0 0,.int .i64 0,.int .i64 0,.int .i64 0] 128)=W4:=by rw [hW4];rfl
 rw [hw4,←hpp]
 clear hw4 hW4 hpp hb4 hr4 hr5 h5o h5s h4s h45 hdk5 hf3 hDN hck5 hDN3 hdc hdp hcp hsz h00 hD0 hC0 htab hfit hW5 hd3 hg3
 go_wp2_with (first
  | (go_at_call 104;refine CS4.out.mono ?_;rintro e w5 ⟨rfl,hw5⟩;obtain rfl:=hw5.symm)
  | (go_at_call 105;rw [←HW5.out];refine CE.out.mono ?_;rintro e w6 ⟨rfl,hw6⟩;have HW6:=hid hw6;clear hw6))
 go_ret2
 obtain ⟨t1,t2⟩:=FF.out w6 HW6.out
 obtain ⟨g1,g2,g3⟩:=FIN.out
 exact ⟨pp,_,rfl,⟨⟨P3,C,_,t1,rfl,rfl,rfl,g3⟩,rfl,rfl,rfl,rfl,g2,g1.size,⟨rfl,rfl,rfl,rfl⟩,fr_trans g1 t2 (fun b hb=>by right;rw [hb];exact g2)⟩⟩
end
section
open Go.RowKit Go.Maps
open Dsk (gt hid undrew keep_old keep_cell lt_cell Rd DS FS Sec DiskP DFrame Grew From lenD readD newD known)
open Cch (CS CP Fr)
end
section
open Go.RowKit Go.Maps
open Dsk (gt hid undrew keep_old keep_cell lt_cell Rd DS FS Sec DiskP newD)
open Cch (CS CP Fr)
open Jrn (Pv2 Row5 numAt RB fr_two trunkN rootN putN nul)
def rt0:RS:=⟨[],[],[],false,[],0,0⟩
def Old(w:World):Nat→Prop:=fun b=>b<w.heap.size∧b≠0
variable {w w':World}
theorem old_below(h:Rok (Old w) w w'):Below w.heap.size w w':=⟨h.os,h.tape,h.output,h.size,fun k hk=>h.blk k hk (fun e=>e.1 ⟨hk,e.2⟩)⟩
theorem clean_new(r:Nat):Clean (newD r) []:=⟨rfl,rfl,rfl⟩
theorem whole_nil:Whole []:=fun i hi=>by cases hi
variable {x:PC} {p room croom:Nat}
theorem opened{arm:Prop}{K:Nat}{q:Nat}{P:Dsk.Parts}{d:DS}{l:List Pg}{R:Nat→Prop}(ho:OpenTo w w' q P d croom l p x)(hs:Sured d l)(he:Env arm room d)(hop:d.ops≤K)(hR:∀ b,R b→b<w.heap.size∧¬DN q P b∧b≠0):PrgAt arm room croom K w' p q R ⟨l,[],[],false,[],0,0⟩:=by
 obtain ⟨P',C,s,hr,e1,e2,e3,hN⟩:=ho.is
 obtain ⟨m1,m2,m3,m4⟩:=ho.mks
 have hL:=hr.live ⟨m1,m2,m3⟩
 refine ⟨x,P',C,d,s,0,_,[],hL,ho.xq,ho.busy,ho.com,(fun e=>by cases e),(fun _=>⟨rfl,m4⟩),fun b hb hRb=>?_,hs,he,hop,by rw [e1,e2];exact Nat.zero_le _,e3,Nat.zero_le _,(fun k hk=>by cases hk),fun b hb=>Nat.lt_of_lt_of_le (hR b hb).1 ho.fr.size⟩
 have h1:=hR b hRb
 rcases hb with hb |hb |hb |hb | ⟨o,l,cc,hb⟩ | ⟨k,hk,_⟩
 ·rcases hN b hb with h2 |h2
  ·exact h1.2.1 h2
  ·omega
 ·have:=ho.mnew;omega
 ·exact h1.2.2 hb
 ·unfold PC.mv at hb;rw [m1]at hb;cases hb
 ·exact enc_nil _ _ o l cc hb
 ·cases hk
theorem prg_new{w1 w2:World}{P:Dsk.Parts}(B1:Below w.heap.size w w1)(hP:∀ k,P.all k→w.heap.size<k)(ho:OpenTo w1 w2 w.heap.size P (newD room) croom [] p x):PrgAt False room croom 0 w2 p w.heap.size (Old w) rt0∧Rok (Old w) w w2:=by
 have hdn:∀ b,b<w.heap.size→¬DN w.heap.size P b:=fun b hb hd=>by
  rcases hd with h1 |h1
  ·omega
  ·have:=hP b h1;omega
 have hs1:=B1.size
 refine ⟨opened ho ⟨rfl,rfl⟩ ⟨rfl,fun _=>rfl,rfl,by show 0≤_;omega⟩ (Nat.zero_le _) (fun b hb=>⟨by have:=hb.1;omega,hdn b hb.1,hb.2⟩),?_⟩
 refine (Fr.of_below B1).trans ho.fr (fun b hb hd=>(hdn b hb hd).elim)
section
variable {arm:Prop} {room croom K:Nat} {p q:Nat} {R:Nat→Prop} {t:RS} {w:World}
theorem field83(n:Int)(g:Nat)(W:World):(Instr.field 133 (.agg #[.int .i64 n,.slice (some ⟨g,0,none⟩) 512 512]) 0).run Tryz.prog W=.ok (.agg #[.int .i64 n,.slice (some ⟨g,0,none⟩) 512 512]) W:=by kernel_rfl
def z60:List Nat:=List.replicate 60 0
theorem make_pgs{W:World}{ab g B:Nat}(y:W.heap[ab]? = some (.cells #[.int .i64 1,.slice (some ⟨g,0,none⟩) 512 512] 131 (0,0)))(r:Row5 W B g 512 (rootN 0 0 z60)):Pgs W ab [⟨1,g,512,rootN 0 0 z60⟩]:=fun i x hx=>by
 match i,hx with
 | 0,hx=>simp at hx;subst hx;exact ⟨by simp [World.cell?,y],by simp [World.cell?,y],r.rd⟩
 | i+1,hx=>simp at hx
theorem Make_yes(h:PrgAt arm room croom K w p q R t)(hbz:t.busy=true)(hn:t.now = [])(hK:K+2≤500000) :
  Calls Tryz.prog 52 #[.pointer (some ⟨p,0,none⟩)] w fun e w'=>∃ hb,e=.returned (.tuple #[.pointer (some ⟨hb,0,none⟩),.int .i64 0])∧HeapAt w' hb p∧w.heap.size≤hb∧PrgAt arm room croom (K+2) w' p q (Plus R hb) (t.grow.put 0 (rootN 0 0 z60))∧Rok R w w':=by
 have hpb:t.pages=t.now:=RS.pages_busy hbz
 have CW:=hid (within_yes h hbz)
 have CPg:=hid (fun W (hW:Below w.heap.size w W)=>prg_pages (h.keep hW))
 rw [hpb,hn]at CPg
 have CGr:=hid (fun W (hW:Below w.heap.size w W)=>prg_grow_yes (h.keep hW) hbz (by rw [hn];decide) (by omega))
 rw [hn]at CGr
 have CNr:=hid (fun W=>Jrn.newRoot_any W)
 have HN:=hid (show t.grow.now.length=1 by show (t.now++[zeros]).length=1;rw [hn];rfl)
 have HBZ:=hid (show t.grow.busy=true from hbz)
 have H:=hid h
 have fl:=fun g W=>field83 1 g W
 clear h hbz hn hpb
 unfold Pv2 at *
 go_enter Tryz.func52,Tryz.ntmps52
 go_wp2_with (first
  | (go_at_call 107;refine CW.out.mono ?_;rintro e w1 ⟨rfl,hb1⟩;have B1:=hid hb1;clear hb1)
  | (go_at_call 20;refine (CPg.out w1 B1.out).mono ?_;rintro e w2 ⟨rfl,hb2⟩;have B2:=hid (gt B1.out hb2);clear hb2)
  | (go_at_call 108;refine (CGr.out w2 B2.out).mono ?_;rintro e w3 ⟨rfl,hP3,hok3⟩;have P3:=hid hP3;have K3:=hid (Rok.after (R:=R) B2.out hok3 (fun _ h=>h));clear hP3 hok3)
  | (go_at_call 110;refine (CNr.out _).mono ?_;rintro e w5 ⟨g,rfl,hg5,hr5,hb5⟩;have R5:=hid hr5;have G5:=hid hg5;have B4:=hid (gt (show Below w3.heap.size w3 (w3.alloc (.cells #[.pointer (some ⟨p,0,none⟩)] 119)) from Below.alloc (Below.refl _ _) (Nat.le_refl _) _) hb5);have H5:=hid (HeapAt.keep (show HeapAt (w3.alloc (.cells #[.pointer (some ⟨p,0,none⟩)] 119)) w3.heap.size p from heap_alloc_new _ _) hb5);clear hr5 hg5 hb5)
  | (go_at_call 109;obtain ⟨W6,hW6⟩:∃ W6,W6=w5.alloc (.cells #[.int .i64 1,.slice (some ⟨g,0,none⟩) 512 512] 131):=⟨_,rfl⟩;rw [←hW6];have B6:=hid (show Below w5.heap.size w5 W6 by rw [hW6];exact Below.alloc (Below.refl _ _) (Nat.le_refl _) _);have Y6:=hid (show W6.heap[w5.heap.size]? = some (.cells #[.int .i64 1,.slice (some ⟨g,0,none⟩) 512 512] 131 (0,0)) by rw [hW6];exact heap_alloc_new _ _);have B7:=hid (gt B4.out B6.out);have P6:=hid (P3.out.work (Fr.of_below B7.out));have hpg:=make_pgs Y6.out (R5.out.keep B6.out);clear hW6;refine (hput_any w3.heap.size w5.heap.size 1 [⟨1,g,512,rootN 0 0 z60⟩] P6.out (H5.out.keep B6.out) (Or.inr ⟨Nat.le_refl _,Nat.lt_of_lt_of_le H5.out.lt B6.out.size⟩) hpg (Or.inr ⟨B4.out.size,(Array.getElem?_eq_some_iff.1 Y6.out).1⟩) (by intro x hx;simp only [List.mem_cons,List.mem_nil_iff,or_false]at hx;subst hx;exact Or.inr ⟨(by have h1:=G5.out;simp at h1;show w3.heap.size≤g;omega),Nat.lt_of_lt_of_le R5.out.lt B6.out.size⟩) HBZ.out (by intro x hx;simp only [List.mem_cons,List.mem_nil_iff,or_false]at hx;subst hx;exact ⟨Nat.le_refl _,by rw [HN.out];exact Nat.le_refl _⟩) (by intro x hx;simp only [List.mem_cons,List.mem_nil_iff,or_false]at hx;subst hx;exact Jrn.rootN_bytes _ _ _) (by show K+1+1≤500000;omega)).mono ?_;rintro e w8 ⟨rfl,hP8,hok8⟩;have P8:=hid hP8;have K8:=hid hok8;have H8:=hid ((H5.out.keep B6.out).rok hok8 (Or.inr ⟨Nat.le_refl _,Nat.lt_of_lt_of_le H5.out.lt B6.out.size⟩));clear hP8 hok8 hpg))
 go_ret2
 refine ⟨w3.heap.size,rfl,H8.out,K3.out.size,?_,?_⟩
 ·exact P8.out.less (fun b hb=>by rcases hb with hb |rfl;exact Or.inl hb;exact Or.inr ⟨Nat.le_refl _,Nat.lt_of_lt_of_le H5.out.lt B6.out.size⟩)
 ·exact (K3.out.below B7.out).then K8.out (fun b hb=>Or.inl hb)
end
end
section
open Go.RowKit Go.Maps
open Dsk (gt hid undrew keep_old keep_cell lt_cell Rd DS FS Sec DiskP newD)
open Cch (CS CP Fr)
open Jrn (Pv2 Row5 numAt RB fr_two trunkN rootN putN nul)
def T1:RS:=rt0.begin.grow.put 0 (rootN 0 0 z60)
def T2:RS:=T1.grow
def T3:RS:=(T2.put 1 (trunkN 0 [])).put 0 (rootN 2 1 z60)
end
namespace Spl
open Go.RowKit Go.Maps
open Dsk (gt hid undrew keep_old keep_cell lt_cell newD)
open Jrn (Rd bs bs_length bs_one bs_get bs_get' bs_append rd_own Row5 putN putN_length numAt rootN Pv2)
open Cch (Fr)
section
variable {P:List Pg} {N c:Nat} {xs:List Nat}
def AllB(P:List Pg):Prop:=∀ i,∀ x∈P.getD i [],x<256
theorem AllB.set(h:AllB P){i:Nat}{b:Pg}(hb:∀ x∈b,x<256):AllB (P.set i b):=by
 intro j x hx
 by_cases hj:i=j
 ·subst hj
  rcases Nat.lt_or_ge i P.length with h1 |h1
  ·rw [set_same h1]at hx;exact hb x hx
  ·rw [List.set_eq_of_length_le h1]at hx;exact h i x hx
 ·rw [set_other hj]at hx;exact h j x hx
theorem AllB.app(h:AllB P){b:Pg}(hb:∀ x∈b,x<256):AllB (P++[b]):=by
 intro j x hx
 rcases Nat.lt_or_ge j P.length with h1 |h1
 ·simp only [List.getD]at hx;rw [List.getElem?_append_left h1]at hx;exact h j x hx
 ·simp only [List.getD]at hx
  rw [List.getElem?_append_right h1]at hx
  rcases Nat.eq_or_lt_of_le h1 with e |e
  ·rw [←e]at hx;simp at hx;exact hb x hx
  ·rw [List.getElem?_eq_none (by simp;omega)]at hx;simp at hx
end
section
variable {arm:Prop} {room croom K:Nat} {p q:Nat} {R:Nat→Prop} {t:RS} {w:World}
end
end Spl
namespace Spl
open Go.RowKit Go.Maps
open Dsk (gt hid undrew keep_old keep_cell lt_cell newD)
open Jrn (Rd bs bs_length bs_one bs_get bs_get' bs_append rd_own Row5 putN putN_length numAt rootN Pv2)
open Cch (Fr)
section
variable {arm:Prop} {room croom K:Nat} {p q:Nat} {R:Nat→Prop} {t:RS} {w:World}
end
end Spl
namespace Spl
open Go.RowKit Go.Maps
open Dsk (gt hid undrew keep_old keep_cell lt_cell newD)
open Jrn (Rd bs bs_length bs_one bs_get bs_get' bs_append rd_own Row5 putN putN_length numAt rootN Pv2)
open Cch (Fr)
section
variable {arm:Prop} {room croom K:Nat} {p q:Nat} {R:Nat→Prop} {t:RS} {w:World}
end
end Spl
namespace Spl
open Go.RowKit Go.Maps
open Dsk (gt hid undrew keep_old keep_cell lt_cell newD)
open Jrn (Rd bs bs_length bs_one bs_get bs_get' bs_append rd_own Row5 putN putN_length numAt rootN trunkN Pv2)
open Cch (Fr hd_cell hd_frozen blk_set wpAnyK wpAnyK_done wp_region_K)
section
variable {arm:Prop} {room croom K:Nat} {p q:Nat} {R:Nat→Prop} {t:RS} {w:World}
end
end Spl
namespace Spl
open Go.RowKit Go.Maps
open Dsk (gt hid undrew keep_old keep_cell lt_cell newD)
open Jrn (Rd bs bs_length bs_one bs_get bs_get' bs_append rd_own Row5 putN putN_length numAt rootN trunkN Pv2)
open Cch (Fr hd_cell hd_frozen blk_set wpAnyK wpAnyK_done wp_region_K)
section
variable {arm:Prop} {room croom K:Nat} {p q:Nat} {R:Nat→Prop} {t:RS} {w:World}
end
end Spl
end Go.Proofs.YtfcikkechphmaaaGreatDoor
namespace Go.Proofs.YtfcikkechphmaaaGreatDoor.Spl
end Go.Proofs.YtfcikkechphmaaaGreatDoor.Spl
namespace Go.Proofs.YtfcikkechphmaaaGreatDoor
namespace Spl
open Go.RowKit Go.Maps
open Dsk (gt hid undrew keep_old keep_cell lt_cell newD)
open Jrn (Rd bs bs_length bs_one bs_get bs_get' bs_append rd_own Row5 putN putN_length numAt rootN trunkN nul Pv2)
open Cch (Fr)
section
variable {arm:Prop} {room croom K:Nat} {p q:Nat} {R:Nat→Prop} {t:RS} {w:World}
def Same(F:List Nat)(P P':List Pg):Prop:=∀ j,j<P.length→j≠0→(j+1)∉F→P'.getD j []=P.getD j []
theorem Same.refl(F:List Nat)(P:List Pg):Same F P P:=fun _ _ _ _=>rfl
variable {F:List Nat}
theorem Same.set{P P':List Pg}(h:Same F P P'){i:Nat}{b:Pg}(hi:i=0∨(i+1)∈F):Same F P (P'.set i b):=fun j a b' c=>by
 rw [set_other (fun e=>by subst e;rcases hi with h1 |h1;exact b' h1;exact c h1)]
 exact h j a b' c
def HKp(arm:Prop)(room croom K:Nat)(w:World)(hb p q:Nat)(R:Nat→Prop)(t:RS)(F:List Nat)(N:Nat)(tr:List (Nat×List Nat))(ws:List Nat)(v:Value)(e:Ending)(w':World):Prop:=
 e=.returned v∧∃ t',HeapS arm room croom K w' hb p q R t' tr ws∧t'.now.length=N∧(AllB t.now→AllB t'.now)∧Same F t.now t'.now∧Rok R w w'
variable {ws:List Nat} {hb:Nat}
theorem _root_.Go.Proofs.YtfcikkechphmaaaGreatDoor.HeapS.kp{w':World}{K' N:Nat}{tr tr':List (Nat×List Nat)}{ws':List Nat}{t':RS}{v:Value}{e:Ending}(h:HeapS arm room croom K w hb p q R t tr ws)(he:e=.returned v)(hP:PrgAt arm room croom K' w' p q R t')(hk:Rok R w w')(hL:Lay t'.now tr' ws')(hb':t'.busy=true)(hsur:t'.sure = []∧t'.n=0)(hN:t'.now.length=N)(hA:AllB t.now→AllB t'.now)(hS:Same F t.now t'.now):HKp arm room croom K' w hb p q R t F N tr' ws' v e w':=
 ⟨he,t',⟨hP,h.heap.rok hk h.mem,h.mem,hL,hb',hsur⟩,hN,hA,hS,hk⟩
theorem nul_bytes:∀ x∈nul,x<256:=by intro x hx;rw [List.eq_of_mem_replicate hx];omega
theorem zeros_bytes:∀ x∈zeros,x<256:=by intro x hx;rw [List.eq_of_mem_replicate hx];omega
theorem kp_none(h:HeapS arm room croom K w hb p q R t [] ws)(hn4:t.now.length<4000)(hK:K+5000≤500000) :
  Calls Tryz.prog 55 #[.pointer (some ⟨hb,0,none⟩)] w (HKp arm room croom (K+2) w hb p q R t [] (t.now.length+1) [] ws (.tuple #[.int .i64 ((t.now.length+1:Nat):Int),.int .i64 0])):=by
 refine (Take_grow hb ws h.prg h.heap h.mem h.lay.root h.busy h.lay.ln hn4 (by omega)).mono ?_
 rintro e w' ⟨he,hP,hk⟩
 refine h.kp he hP hk (h.lay.grow zeros) h.busy h.sur (by show (t.now++[zeros]).length=_;simp) (fun hA=>hA.app zeros_bytes) (fun j hj _ _=>?_)
 show (t.now++[zeros]).getD j []=_
 simp only [List.getD];rw [List.getElem?_append_left hj]
end
end Spl
namespace Spl
open Go.RowKit Go.Maps
open Dsk (gt hid undrew keep_old keep_cell lt_cell newD)
open Jrn (Rd bs bs_length bs_one bs_get bs_get' bs_append rd_own Row5 putN putN_length numAt rootN trunkN nul Pv2)
open Cch (Fr hd_cell hd_frozen blk_set)
section
variable {arm:Prop} {room croom K:Nat} {p q:Nat} {R:Nat→Prop} {t:RS} {w:World}
end
end Spl
namespace Spl
open Go.RowKit Go.Maps
open Dsk (gt hid undrew keep_old keep_cell lt_cell newD)
open Jrn (Rd bs bs_length bs_one bs_get bs_get' bs_append rd_own Row5 putN putN_length numAt rootN trunkN nul Pv2)
open Cch (Fr hd_cell hd_frozen blk_set)
section
variable {arm:Prop} {room croom K:Nat} {p q:Nat} {R:Nat→Prop} {t:RS} {w:World}
end
end Spl
namespace Spl
open Go.RowKit Go.Maps
open Dsk (gt hid undrew keep_old keep_cell lt_cell)
open Jrn (Rd bs bs_length bs_one bs_get bs_get' bs_append rd_own Row5 putN numAt rootN)
open Cch (Fr hd_cell hd_frozen blk_set wpAnyK wpAnyK_done wp_region_K)
section
variable {arm:Prop} {room croom K:Nat} {p q:Nat} {R:Nat→Prop} {t:RS} {w:World}
end
end Spl
namespace Spl
open Go.RowKit Go.Maps
open Dsk (gt hid undrew keep_old keep_cell lt_cell newD)
open Jrn (Rd bs bs_length bs_one bs_get bs_get' bs_append rd_own Row5 putN putN_length numAt rootN trunkN Pv2)
open Cch (Fr)
section
variable {P:List Pg} {ps:List Nat} {c:Nat} {xs:List Nat}
theorem _root_.Go.Proofs.YtfcikkechphmaaaGreatDoor.Lay.other{now now':List Pg}{tr:List (Nat×List Nat)}{ws:List Nat}(h:Lay now tr ws)(hl:now'.length=now.length)(h0:now'.getD 0 []=now.getD 0 [])(hy:∀ y∈flat tr,now'.getD (y - 1) []=now.getD (y - 1) []):Lay now' tr ws:=
 ⟨h0.trans h.root,h.chain.shrunk hl hy,h.nd,h.wl,by rw [hl];exact h.ln⟩
end
end Spl
namespace Spl
open Go.RowKit Go.Maps
open Dsk (gt hid undrew keep_old keep_cell lt_cell)
open Jrn (Rd bs bs_length bs_one bs_get bs_get' bs_append rd_own Row5 putN numAt rootN Pv2)
open Cch (Fr hd_cell hd_frozen blk_set wpAnyK wpAnyK_done wp_region_K)
section
variable {arm:Prop} {room croom K:Nat} {p q:Nat} {R:Nat→Prop} {t:RS} {w:World}
end
end Spl
namespace Spl
open Go.RowKit Go.Maps
open Dsk (gt hid undrew keep_old keep_cell lt_cell)
open Jrn (Rd bs bs_length bs_one bs_get bs_get' bs_append rd_own Row5 putN numAt rootN Pv2)
open Cch (Fr hd_cell hd_frozen blk_set wpAnyK wpAnyK_done wp_region_K)
section
variable {arm:Prop} {room croom K:Nat} {p q:Nat} {R:Nat→Prop} {t:RS} {w:World}
end
end Spl
namespace Spl
open Go.RowKit Go.Maps
open Dsk (gt hid undrew keep_old keep_cell lt_cell)
open Jrn (Rd bs bs_length bs_one bs_get bs_get' bs_append rd_own Row5 putN numAt rootN Pv2)
open Cch (Fr hd_cell hd_frozen blk_set wpAnyK wpAnyK_done wp_region_K)
section
variable {arm:Prop} {room croom K:Nat} {p q:Nat} {R:Nat→Prop} {t:RS} {w:World}
end
end Spl
namespace Spl
open Go.RowKit Go.Maps
open Dsk (gt hid undrew keep_old keep_cell lt_cell newD)
open Jrn (Rd bs bs_length bs_one bs_get bs_get' bs_append rd_own Row5 putN putN_length numAt rootN trunkN Pv2)
open Cch (Fr hd_cell hd_frozen blk_set wpAnyK wpAnyK_done wp_region_K)
section
variable {arm:Prop} {room croom K:Nat} {p q:Nat} {R:Nat→Prop} {t:RS} {w:World}
end
end Spl
namespace Spl
open Go.RowKit Go.Maps
open Dsk (gt hid undrew keep_old keep_cell lt_cell newD)
open Jrn (Rd bs bs_length bs_one bs_get bs_get' bs_append rd_own Row5 putN putN_length numAt rootN trunkN Pv2)
open Cch (Fr)
section
variable {arm:Prop} {room croom K:Nat} {p q:Nat} {R:Nat→Prop} {t:RS} {w:World}
end
end Spl
namespace Spl
open Go.RowKit Go.Maps
open Dsk (gt hid undrew keep_old keep_cell lt_cell newD)
open Jrn (Rd bs bs_length bs_one bs_get bs_get' bs_append rd_own Row5 putN putN_length numAt rootN trunkN Pv2)
open Cch (Fr)
section
variable {arm:Prop} {room croom K:Nat} {p q:Nat} {R:Nat→Prop} {t:RS} {w:World}
variable {ws:List Nat} {hb n:Nat}
theorem put_page{sb so cap:Nat}{b:Pg}{tr:List (Nat×List Nat)}(h:HeapS arm room croom K w hb p q R t tr ws)(h1:2≤n)(h2:n≤t.now.length)(hnf:n∉flat tr)(hK:K≤500000)(hr:Rd w (some ⟨sb,so,none⟩) 512 cap b)(hbb:∀ y∈b,y<256) :
  Calls Tryz.prog 113 #[.pointer (some ⟨p,0,none⟩),.int .i64 (n:Int),.slice (some ⟨sb,so,none⟩) 512 cap] w fun e w'=>e=.returned (.int .i64 0)∧HeapS arm room croom (K+1) w' hb p q R (t.put (n - 1) b) tr ws∧Same [n] t.now (t.put (n - 1) b).now∧(AllB t.now→AllB (t.put (n - 1) b).now)∧(t.put (n - 1) b).now.getD (n - 1) []=b∧Rok R w w':=by
 obtain ⟨i,rfl⟩:∃ i,n=i+1:=⟨n - 1,by omega⟩
 rw [Nat.add_sub_cancel]
 refine (prg_put_yes i sb so cap b h.prg h.busy (by omega) hK hr hbb).mono ?_
 rintro e w' ⟨rfl,hP,hk⟩
 refine ⟨rfl,⟨hP,h.heap.rok hk h.mem,h.mem,?_,h.busy,h.sur⟩,(Same.refl _ t.now).set (Or.inr (List.mem_cons_self ..)),fun hA=>hA.set hbb,set_same (by omega),hk⟩
 refine h.lay.other (List.length_set ..) (set_other (by omega)) (fun y hy=>set_other (fun e=>hnf ?_))
 have h3:=h.lay.chain.range y hy
 rw [show i+1=y by omega];exact hy
theorem get_page{tr:List (Nat×List Nat)}(h:HeapS arm room croom K w hb p q R t tr ws)(h1:1≤n)(h2:n≤t.now.length)(hK:K≤800000) :
  Calls Tryz.prog 115 #[.pointer (some ⟨p,0,none⟩),.int .i64 (n:Int)] w fun e w'=>∃ g cap,e=.returned (.tuple #[.slice (some ⟨g,0,none⟩) 512 cap,.int .i64 0])∧Row5 w' w.heap.size g cap (t.now.getD (n - 1) [])∧w.heap.size≤g∧HeapS arm room croom (K+1) w' hb p q (Plus R g) t tr ws∧Rok R w w':=by
 obtain ⟨i,rfl⟩:∃ i,n=i+1:=⟨n - 1,by omega⟩
 have hpb:t.pages=t.now:=RS.pages_busy h.busy
 refine (prg_get i h.prg (by rw [hpb];omega) hK).mono ?_
 rintro e w' ⟨g,cap,rfl,hr,hg,hP,hk⟩
 rw [hpb]at hr
 exact ⟨g,cap,rfl,hr,hg,⟨hP,h.heap.rok hk h.mem,Or.inl h.mem,h.lay,h.busy,h.sur⟩,hk⟩
end
end Spl
section
open Go.RowKit Go.Maps
open Dsk (gt hid undrew keep_old keep_cell lt_cell Rd DS FS Sec DiskP newD)
open Cch (CS CP Fr)
open Jrn (Pv2 Row5 numAt RB fr_two trunkN rootN putN nul)
def HZ(w:World)(v:Value):Prop:=v=.pointer none∨∃ b,v=.pointer (some ⟨b,0,none⟩)∧w.cell? ⟨b,0,none⟩=some (.pointer none)
section
variable {arm:Prop} {room croom K:Nat} {p q:Nat} {R:Nat→Prop} {t:RS} {w:World}
end
end
end Go.Proofs.YtfcikkechphmaaaGreatDoor
