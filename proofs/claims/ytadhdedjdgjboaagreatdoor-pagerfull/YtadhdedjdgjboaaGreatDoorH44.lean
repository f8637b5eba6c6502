/- What Put and Get make of both pagers; no statement of the seat is proved here. -/
import Derived.Test.YtadhdedjdgjboaaGreatDoorH43
import Derived.Test.YtadhdedjdgjboaaGreatDoorH17
import Derived.Deep.LoopGhost
set_option maxHeartbeats 16000000
set_option maxRecDepth 20000
namespace Go.Proofs.YtadhdedjdgjboaaGreatDoor
section
open Go.RowKit Go.Maps
open Dsk (gt hid undrew keep_old keep_cell lt_cell Rd DS FS Sec DiskP DFrame Grew From op_at idx dirtD was secD sureF sureF_ok crashD)
open Cch (CS CP Fr wpAnyK wpAnyK_take wpAnyK_pure wpAnyK_ready wpAnyK_done wp_region_K AllReadyK.cons AllReadyK.nil AllReadyK.late)
def bl(sh:Bool):Nat:=if sh then 1 else 512
def bb(sd:Nat)(sh:Bool):Pg:=if sh then [sd] else pageS sd
theorem bb_bytes{sd:Nat}(h:sd<256)(sh:Bool):∀ y∈bb sd sh,y<256:=by
 cases sh
 ·exact pageS_bytes sd
 ·intro y hy;rw [List.mem_singleton.1 hy];exact h
theorem cvtP{W:World}{ao:Option Addr}{n cap:Nat}{xs:List Nat}(h:Rd W ao n cap xs):(convert 60 9 (.slice ao n cap)).run Tryz.prog W=.ok (.string (Dsk.str xs)) W:=Dsk.conv_rd h 60 9 5 Tryz.underlying60 Tryz.underlying5 Tryz.underlying9
theorem bytes_full(k n:Int)(s:Nat)(sh:Bool)(w:World):Calls Tryz.prog 36 #[.agg #[.int .i64 k,.int .i64 n,.int .u8 (s:Int),.bool sh]] w fun e w'=>∃ g cap,e=.returned (.slice (some ⟨g,0,none⟩) (bl sh) cap)∧Rd w' (some ⟨g,0,none⟩) (bl sh) cap (bb s sh)∧w.heap.size≤g∧Below w.heap.size w w':=by
 cases sh
 ·go_enter Tryz.func36,Tryz.ntmps36
  go_wp2_with (go_at_call 33;refine (page_any s _).mono ?_;rintro e w1 ⟨g,rfl,hr,hg,_,hb1⟩;have HR:=hid hr;have HG:=hid hg;have HB:=hid hb1;clear hr hg hb1)
  go_ret
  exact ⟨g,_,rfl,HR.out,(by have:=HG.out;simp at this;omega),gt (by repeat (first |with_reducible exact Below.refl _ _ |with_reducible assumption |with_reducible refine Below.drew ?_ |with_reducible refine below_drewN ?_ _ |with_reducible refine Below.alloc ?_ (by simp<;>omega) _ |with_reducible refine Below.setCell ?_ (by simp<;>omega) _)) HB.out⟩
 ·go_enter Tryz.func36,Tryz.ntmps36
  go_wp2
  go_ret
  refine ⟨_,_,rfl,⟨rfl,Nat.le_refl _,(fun e=>by cases e),fun _=>⟨_,_,rfl,fun t ht=>?_⟩⟩,(by simp),(by repeat (first |with_reducible exact Below.refl _ _ |with_reducible assumption |with_reducible refine Below.drew ?_ |with_reducible refine below_drewN ?_ _ |with_reducible refine Below.alloc ?_ (by simp<;>omega) _ |with_reducible refine Below.setCell ?_ (by simp<;>omega) _))⟩
  have ht0:t=0:=Nat.lt_one_iff.1 ht
  subst ht0
  rw [World.cell?_alloc_at _ _ _ _ (by simp)];rfl
variable {t:RS} {O:Nat→Prop} {p q r room croom K:Nat} {w:World} {arm:Prop}
theorem act_put(h:Both arm room croom K w p q r O t)(hK:K≤100)(n:Int)(sd:Nat)(sh:Bool)(hs:sd<256) :
  Calls Tryz.prog 11 #[.pointer (some ⟨p,0,none⟩),.pointer (some ⟨r,0,none⟩),.agg #[.int .i64 1,.int .i64 n,.int .u8 (sd:Int),.bool sh]] w (Acted arm room croom K w p q r O (t.aPut n (bl sh) (bb sd sh)).2):=by
 obtain ⟨S,V,h⟩:=h
 obtain ⟨w1,hw1⟩:∃ w1,w1=w.alloc (.cells #[.int .i64 1,.int .i64 n,.int .u8 (sd:Int),.bool sh] 37):=⟨_,rfl⟩
 obtain ⟨xb,hxb⟩:∃ xb,xb=w.heap.size:=⟨_,rfl⟩
 have h1:AS arm room croom K K w1 p q r S V (fun b=>O b∨b=xb) t t:=by rw [hw1,hxb];exact h.box _
 have hx1:ActAt w1 xb 1 n sd sh:=by rw [hw1,hxb];exact ActAt.new w _ n sd sh
 have hO:∀ b,O b→b<w.heap.size:=fun b hb=>(h.o b hb).2.2
 have hb1:Below w.heap.size w w1:=by rw [hw1];exact (Below.refl _ _).alloc (Nat.le_refl _) _
 have hT:=h1.tb
 have H1:=hid h1;have HX:=hid hx1;have HO:=hid hO;have B1:=hid hb1;have HT:=hid hT;have HW:=hid hw1;have HXB:=hid hxb;have HK:=hid hK
 have h2:AS arm room croom K K w1.drew p q r S V (fun b=>O b∨b=xb) t t:=h1.later (Below.refl _ _).drew
 have CB:=hid (bytes_full 1 n sd sh)
 have hbb:=bb_bytes hs sh
 have hT2:=hT.put n (bl sh) (bb sd sh)
 obtain ⟨L,hL⟩:∃ L,L=bl sh:=⟨_,rfl⟩
 obtain ⟨B,hB⟩:∃ B,B=bb sd sh:=⟨_,rfl⟩
 rw [←hL,←hB]at CB hT2 ⊢
 rw [←hB]at hbb
 have CP:=hid (fun W g cap (hm:AS arm room croom K K W p q r S V (fun b=>O b∨b=xb) t t) (hr:Rd W (some ⟨g,0,none⟩) L cap B)=>prg_put hm.prg hK n g 0 L cap B hr hbb)
 have CD:=hid (fun W g cap (hm:AS arm room croom K (K+1) W p q r S V (fun b=>O b∨b=xb) t (t.aPut n L B).2) (hr:Rd W (some ⟨g,0,none⟩) L cap B)=>doc_put hm.ref hm.tb HK.out n (some ⟨g,0,none⟩) L cap B hr)
 obtain ⟨v,hv⟩:∃ v,v=(t.aPut n L B).1:=⟨_,rfl⟩
 rw [←hv]at CP CD
 have H1:=hid h2;have HT2:=hid hT2
 clear h h1 h2 hx1 hO hb1 hT hK hv hxb hw1 hbb hL hB hT2
 go_enter Tryz.func11,Tryz.ntmps11
 go_upto_region 5 with fail
 rw [←HW.out,←HXB.out]
 refine wp_region_K (S:=fun W=>ActAt W xb 1 n sd sh) (fun _=>false) (by kernel_rfl) (HX.out) (fun hHeld=>?_)
 refine gkp 0 ?_
 refine gkp 1 ?_
 refine gkt 2 ?_ (h:=by intro W hSw;obtain ⟨a0,a1,a2,a3⟩:=(show ActAt W xb 1 n sd sh from hSw);go_simp;first |done |with_reducible rfl)
 refine gkt 3 ?_ (h:=by intro W hSw;obtain ⟨a0,a1,a2,a3⟩:=(show ActAt W xb 1 n sd sh from hSw);go_simp;first |done |with_reducible rfl)
 refine gkp 6 ?_
 refine gkp 7 ?_
 refine gkt 8 ?_ (h:=by intro W hSw;obtain ⟨a0,a1,a2,a3⟩:=(show ActAt W xb 1 n sd sh from hSw);go_simp;first |done |with_reducible rfl)
 refine gkt 9 ?_ (h:=by intro W hSw;obtain ⟨a0,a1,a2,a3⟩:=(show ActAt W xb 1 n sd sh from hSw);go_simp;first |done |with_reducible rfl)
 refine gk1 4 (fun K hK=>?_)
 go_simp
 go_at_call 36;(with_reducible refine (CB.out w1.drew).mono ?_);rintro e w2 ⟨g2,c2,rfl,r2,_,hb2⟩;have H2:=hid (H1.out.later hb2);have R2:=hid r2;have hR:ActAt w2 xb 1 n sd sh:=hHeld.keep hb2;have B2:=hid hb2;clear r2 hb2
 refine hK.out _ _ hR (fun hHeld=>?_)
 clear hK K
 (try simp only [Act.put,sA,sZ,sS])
 refine gk1 5 (fun K hK=>?_)
 go_simp
 go_at_call 32;(with_reducible refine (CP.out w2 g2 c2 H2.out R2.out).mono ?_);rintro e w3 ⟨rfl,hp,hr⟩;have M3:=hid (H2.out.did hp hr);have hR:ActAt w3 xb 1 n sd sh:=hHeld.stay (M3.out.2.at_ (Or.inr rfl) (H2.out.o xb (Or.inr rfl)).2.2);clear hp hr
 refine hK.out _ _ hR (fun hHeld=>?_)
 clear hK K
 (try simp only [Act.put,sA,sZ,sS])
 refine gk1 10 (fun K hK=>?_)
 go_simp
 go_at_call 36;(with_reducible refine (CB.out w3).mono ?_);rintro e w4 ⟨g4,c4,rfl,r4,_,hb4⟩;have M4:=hid (M3.out.1.later hb4);have R4:=hid r4;have hR:ActAt w4 xb 1 n sd sh:=hHeld.keep hb4;have B4:=hid hb4;clear r4 hb4
 refine hK.out _ _ hR (fun hHeld=>?_)
 clear hK K
 (try simp only [Act.put,sA,sZ,sS])
 refine gk1 11 (fun K hK=>?_)
 go_simp
 go_at_call 46;(with_reducible refine (CD.out w4 g4 c4 M4.out R4.out).mono ?_);rintro e w5 ⟨rfl,hd⟩;have D5:=hid hd;have hR:ActAt w5 xb 1 n sd sh:=hHeld.stay (hd.2.blk xb (M4.out.o xb (Or.inr rfl)).2.2 (fun e=>e.elim (M4.out.o xb (Or.inr rfl)).1 (M4.out.o xb (Or.inr rfl)).2.1));clear hd
 refine hK.out _ _ hR (fun hHeld=>?_)
 clear hK K
 (try simp only [Act.put,sA,sZ,sS])
 refine gkp 12 ?_
 refine gkp 13 ?_
 refine wpAnyK_done (by kernel_rfl) ?_ _
 go_wp2
 go_ret
 have s1:Stay (fun b=>O b∨b=xb) w1 w2:=(show Stay (fun b=>O b∨b=xb) w1 w1.drew from fr_below (Below.refl _ _).drew).trans (fr_below B2.out)
 have s2:Stay (fun b=>O b∨b=xb) w3 w4:=Stay.below B4.out (fun b hb=>(M3.out.1.o b hb).2.2)
 exact acted HO.out B1.out ((s1.trans M3.out.2).trans s2) M4.out D5.out HT2.out
theorem act_get_no(h:Both arm room croom K w p q r O t)(hK:K≤100)(n:Int)(sd:Nat)(sh:Bool)(k:Int)(hk:∀ i:Int,0≤i→i≤7→k≠i)(hn:n<1∨(t.pages.length:Int)<n) :
  Calls Tryz.prog 11 #[.pointer (some ⟨p,0,none⟩),.pointer (some ⟨r,0,none⟩),.agg #[.int .i64 k,.int .i64 n,.int .u8 (sd:Int),.bool sh]] w (Acted arm room croom K w p q r O t):=by
 obtain ⟨S,V,h⟩:=h
 obtain ⟨w1,hw1⟩:∃ w1,w1=w.alloc (.cells #[.int .i64 k,.int .i64 n,.int .u8 (sd:Int),.bool sh] 37):=⟨_,rfl⟩
 obtain ⟨xb,hxb⟩:∃ xb,xb=w.heap.size:=⟨_,rfl⟩
 have h1:AS arm room croom K K w1 p q r S V (fun b=>O b∨b=xb) t t:=by rw [hw1,hxb];exact h.box _
 have hx1:ActAt w1 xb k n sd sh:=by rw [hw1,hxb];exact ActAt.new w _ n sd sh
 have hO:∀ b,O b→b<w.heap.size:=fun b hb=>(h.o b hb).2.2
 have hb1:Below w.heap.size w w1:=by rw [hw1];exact (Below.refl _ _).alloc (Nat.le_refl _) _
 have hT:=h1.tb
 have H1:=hid h1;have HX:=hid hx1;have HO:=hid hO;have B1:=hid hb1;have HT:=hid hT;have HW:=hid hw1;have HXB:=hid hxb;have HK:=hid hK
 obtain ⟨k0,k1,k2,k3,k4,k5,k6,k7⟩:¬k=0∧¬k=1∧¬k=2∧¬k=3∧¬k=4∧¬k=5∧¬k=6∧¬k=7:=⟨hk 0 (by decide) (by decide),hk 1 (by decide) (by decide),hk 2 (by decide) (by decide),hk 3 (by decide) (by decide),hk 4 (by decide) (by decide),hk 5 (by decide) (by decide),hk 6 (by decide) (by decide),hk 7 (by decide) (by decide)⟩
 have CP:=hid (prg_get_range n h1.prg (by rcases hn with h |h<;>simp<;>omega))
 have CD:=hid (fun W (hm:AS arm room croom K (K+1) W p q r S V (fun b=>O b∨b=xb) t t)=>rget_no r S V t n W hm.ref hn)
 obtain ⟨sx,hsx⟩:∃ x,x=Dsk.str []:=⟨_,rfl⟩
 have HSX:=hid hsx
 clear h h1 hx1 hO hb1 hT hK hxb hw1 hn hk hsx
 go_enter Tryz.func11,Tryz.ntmps11
 go_wp2_with (first
  | (go_at_call 34;rw [←HW.out];refine CP.out.mono ?_;rintro e w3 ⟨rfl,hp,hr⟩;have M3:=hid (H1.out.did hp hr);have y1:=(HX.out.stay (M3.out.2.at_ (Or.inr rfl) (H1.out.o xb (Or.inr rfl)).2.2)).2.1;rw [HXB.out]at y1;have cx:=cvtP (Dsk.Rd.nil w3);rw [←HSX.out]at cx;clear hp hr)
  | (go_at_call 52;refine (CD.out w3 M3.out.1).mono ?_;rintro e w4 ⟨rfl,hw4⟩;have B4:Hid (Below w3.heap.size w3 w4):=hid (by rw [hw4];exact Below.refl _ _);have cy:(convert 60 9 (.slice none 0 0)).run Tryz.prog w4=.ok (.string sx) w4:=(by rw [hw4];exact cx);clear hw4))
 go_ret
 exact acted HO.out B1.out M3.out.2 M3.out.1 (RTo.below M3.out.1.ref B4.out) HT.out.up
theorem act_get_yes(h:Both arm room croom K w p q r O t)(hK:K≤100)(n:Int)(sd:Nat)(sh:Bool)(k:Int)(hk:∀ i:Int,0≤i→i≤7→k≠i)(i:Nat)(hi:i<t.pages.length)(hn:n=((i+1:Nat):Int)) :
  Calls Tryz.prog 11 #[.pointer (some ⟨p,0,none⟩),.pointer (some ⟨r,0,none⟩),.agg #[.int .i64 k,.int .i64 n,.int .u8 (sd:Int),.bool sh]] w (Acted arm room croom K w p q r O t):=by
 obtain ⟨S,V,h⟩:=h
 obtain ⟨w1,hw1⟩:∃ w1,w1=w.alloc (.cells #[.int .i64 k,.int .i64 n,.int .u8 (sd:Int),.bool sh] 37):=⟨_,rfl⟩
 obtain ⟨xb,hxb⟩:∃ xb,xb=w.heap.size:=⟨_,rfl⟩
 have h1:AS arm room croom K K w1 p q r S V (fun b=>O b∨b=xb) t t:=by rw [hw1,hxb];exact h.box _
 have hx1:ActAt w1 xb k n sd sh:=by rw [hw1,hxb];exact ActAt.new w _ n sd sh
 have hO:∀ b,O b→b<w.heap.size:=fun b hb=>(h.o b hb).2.2
 have hb1:Below w.heap.size w w1:=by rw [hw1];exact (Below.refl _ _).alloc (Nat.le_refl _) _
 have hT:=h1.tb
 have H1:=hid h1;have HX:=hid hx1;have HO:=hid hO;have B1:=hid hb1;have HT:=hid hT;have HW:=hid hw1;have HXB:=hid hxb;have HK:=hid hK
 obtain ⟨k0,k1,k2,k3,k4,k5,k6,k7⟩:¬k=0∧¬k=1∧¬k=2∧¬k=3∧¬k=4∧¬k=5∧¬k=6∧¬k=7:=⟨hk 0 (by decide) (by decide),hk 1 (by decide) (by decide),hk 2 (by decide) (by decide),hk 3 (by decide) (by decide),hk 4 (by decide) (by decide),hk 5 (by decide) (by decide),hk 6 (by decide) (by decide),hk 7 (by decide) (by decide)⟩
 have CP:=hid (prg_get_yes i h1.prg hi (by omega))
 have CD:=hid (fun W (hm:AS arm room croom K (K+1) W p q r S V (fun b=>O b∨b=xb) t t)=>rget_yes r S V t i W hm.ref hi (by have:=HT.out.ls;have:=HT.out.ln;have:=HK.out;unfold RS.pages;split<;>omega))
 rw [←hn]at CP CD
 obtain ⟨B,hB⟩:∃ B,B=t.pages.getD i []:=⟨_,rfl⟩
 rw [←hB]at CP CD
 obtain ⟨sx,hsx⟩:∃ x,x=Dsk.str B:=⟨_,rfl⟩
 have HSX:=hid hsx
 clear h h1 hx1 hO hb1 hT hK hxb hw1 hi hn hB hk hsx
 go_enter Tryz.func11,Tryz.ntmps11
 go_wp2_with (first
  | (go_at_call 34;rw [←HW.out];refine CP.out.mono ?_;rintro e w3 ⟨a,cap,hrd,_,_,rfl,hp,hr⟩;have M3:=hid (H1.out.did hp hr);have R3:=hid hrd;have y1:=(HX.out.stay (M3.out.2.at_ (Or.inr rfl) (H1.out.o xb (Or.inr rfl)).2.2)).2.1;rw [HXB.out]at y1;clear hp hr hrd)
  | (go_at_call 52;refine (CD.out w3 M3.out.1).mono ?_;rintro e w4 ⟨v4,rfl,ho4,hb4⟩;have B4:=hid hb4;have cx:=cvtP (R3.out.keep hb4);obtain ⟨ao4,cap4,rfl,rd4,_⟩:=Dsk.rd_owned ho4;have cy:=cvtP rd4;rw [←HSX.out]at cx cy;clear hb4 ho4 rd4))
 go_ret
 exact acted HO.out B1.out M3.out.2 M3.out.1 (RTo.below M3.out.1.ref B4.out) HT.out.up
end
section
open Go.RowKit Go.Maps
open Dsk (gt hid undrew keep_old keep_cell lt_cell Rd DS FS Sec DiskP DFrame Grew From op_at idx dirtD was secD sureF sureF_ok crashD)
open Cch (CS CP Fr)
def RdI(w:World)(ao:Option Addr)(n:Nat)(l:List Nat):Prop:=
 l.length=n∧(0<n→∃ b off,ao=some ⟨b,off,none⟩∧∀ t,t<n→w.cell? ⟨b,off+t,none⟩=some (.int .i64 ((l.getD t 0:Nat):Int)))
variable {l:List Nat} {n:Nat} {ao:Option Addr} {w w':World}
theorem RdI.keep(h:RdI w ao n l)(hb:Below w.heap.size w w'):RdI w' ao n l:=
 ⟨h.1,fun hn=>by obtain ⟨b,off,e,hc⟩:=h.2 hn;exact ⟨b,off,e,fun t ht=>keep_old hb (hc t ht)⟩⟩
theorem rdI_own{B cap:Nat}(h:w.ownsRow B 3 1 (.slice ao n cap) n (zI l)):RdI w ao n l:=by
 have hl:l.length=n:=by have:=h.1;simpa [zI] using this
 refine ⟨hl,fun hn=>?_⟩
 rcases h.2 with ⟨hv,hz⟩ | ⟨g,cap',cur,hv,_⟩
 ·omega
 ·simp only [Value.slice.injEq]at hv
  obtain ⟨rfl,_,rfl⟩:=hv
  refine ⟨g,0,rfl,fun t ht=>?_⟩
  rw [Nat.zero_add,h.cellAt t (by omega)]
  simp [zI,List.getD,List.getElem?_eq_getElem (show t<l.length by omega)]
theorem ints_same(a1 a2:Option Addr)(n c1 c2:Nat)(l:List Nat)(w:World)(h1:RdI w a1 n l)(h2:RdI w a2 n l)(hn:n≤1000000)(hc1:n≤c1)(hc2:n≤c2) :
  Calls Tryz.prog 16 #[.slice a1 n c1,.slice a2 n c2] w fun e w'=>e=.returned (.bool true)∧Below w.heap.size w w':=by
 have H1:=hid h1;have H2:=hid h2
 clear h1 h2
 go_enter Tryz.func16,Tryz.ntmps16
 go_wp2
 go_loopg [13] n (fun k c W=>∃ i:Nat,i+k=n∧c=.int .i64 (i:Int)∧Hid (Below w.heap.size w W))
 case atStart=>exact ⟨0,by omega,rfl,hid (Below.refl _ _)⟩
 case round=>
  obtain ⟨i,hik,rfl,HB⟩:=hrel
  by_cases hi:i<n
  ·obtain ⟨b1,o1,rfl,x1⟩:=(H1.out.keep HB.out).2 (by omega)
   obtain ⟨b2,o2,rfl,x2⟩:=(H2.out.keep HB.out).2 (by omega)
   have y1:=x1 i hi;have y2:=x2 i hi
   have hi1:(i:Int)<(n:Int):=by omega
   clear x1 x2
   obtain ⟨v,hv⟩:∃ v,v=((l.getD i 0:Nat):Int):=⟨_,rfl⟩
   rw [←hv]at y1 y2
   clear hv
   go_wp2
   go_region
   go_wp2
   go_roundg (gk - 1)
   case measure=>omega
   case rel=>
    exact ⟨i+1,by omega,by simp,hid (gt HB.out ((Below.refl _ _).drew))⟩
  ·obtain rfl:i=n:=by omega
   have hi1:¬(i:Int)<(i:Int):=by omega
   go_wp2
   go_ret
   exact ⟨rfl,HB.out⟩
def RdP(w:World)(ao:Option Addr)(n:Nat)(l:List Pg):Prop:=
 l.length=n∧(0<n→∃ b off,ao=some ⟨b,off,none⟩∧∀ t,t<n→∃ a c,w.cell? ⟨b,off+t,none⟩=some (.slice a 512 c)∧Rd w a 512 c (l.getD t []))
theorem RdP.keep{l:List Pg}(h:RdP w ao n l)(hb:Below w.heap.size w w'):RdP w' ao n l:=
 ⟨h.1,fun hn=>by
  obtain ⟨b,off,e,hc⟩:=h.2 hn
  refine ⟨b,off,e,fun t ht=>?_⟩
  obtain ⟨a,c,h1,h2⟩:=hc t ht
  exact ⟨a,c,keep_old hb h1,h2.keep hb⟩⟩
theorem pages_same(a1 a2:Option Addr)(n c1 c2:Nat)(l:List Pg)(w:World)(h1:RdP w a1 n l)(h2:RdP w a2 n l)(hn:n≤1000000)(hc1:n≤c1)(hc2:n≤c2) :
  Calls Tryz.prog 21 #[.slice a1 n c1,.slice a2 n c2] w fun e w'=>e=.returned (.bool true)∧Below w.heap.size w w':=by
 have H1:=hid h1;have H2:=hid h2
 clear h1 h2
 go_enter Tryz.func21,Tryz.ntmps21
 go_wp2
 go_loopg [13] n (fun k c W=>∃ i:Nat,i+k=n∧c=.int .i64 (i:Int)∧Hid (Below w.heap.size w W))
 case atStart=>exact ⟨0,by omega,rfl,hid (Below.refl _ _)⟩
 case round=>
  obtain ⟨i,hik,rfl,HB⟩:=hrel
  by_cases hi:i<n
  ·obtain ⟨b1,o1,rfl,x1⟩:=(H1.out.keep HB.out).2 (by omega)
   obtain ⟨b2,o2,rfl,x2⟩:=(H2.out.keep HB.out).2 (by omega)
   obtain ⟨u1,d1,y1,r1⟩:=x1 i hi;obtain ⟨u2,d2,y2,r2⟩:=x2 i hi
   have hi1:(i:Int)<(n:Int):=by omega
   have z1:=cvtP r1;have z2:=cvtP r2
   have z3:(convert 60 9 (.slice u1 512 d1)).run Tryz.prog _=.ok (.string (Dsk.str (l.getD i []))) _:=cvtP (r1.keep ((Below.refl _ _).drew))
   have z4:(convert 60 9 (.slice u2 512 d2)).run Tryz.prog _=.ok (.string (Dsk.str (l.getD i []))) _:=cvtP (r2.keep ((Below.refl _ _).drew))
   clear x1 x2 r1 r2
   obtain ⟨v,hv⟩:∃ v,v=Dsk.str (l.getD i []):=⟨_,rfl⟩
   rw [←hv]at z1 z2 z3 z4
   clear hv
   go_wp2
   go_region
   go_wp2
   go_roundg (gk - 1)
   case measure=>omega
   case rel=>
    exact ⟨i+1,by omega,by simp,hid (gt HB.out ((Below.refl _ _).drew))⟩
  ·obtain rfl:i=n:=by omega
   have hi1:¬(i:Int)<(i:Int):=by omega
   go_wp2
   go_ret
   exact ⟨rfl,HB.out⟩
end
section
open Go.RowKit Go.Maps
open Dsk (gt hid undrew keep_old keep_cell lt_cell Rd DS FS Sec DiskP DFrame Grew From op_at idx dirtD was secD sureF sureF_ok crashD)
open Cch (CS CP Fr)
theorem elP:Cch.El 31 60 (.slice none 0 0) 24:=⟨Dsk.el66.ht,Dsk.el66.hi,Dsk.el66.hz,Dsk.el66.hb⟩
section
variable {arm:Prop} {room croom K:Nat} {p q:Nat} {R:Nat→Prop} {t:RS} {w w':World}
theorem PrgAt.turn{R' E:Nat→Prop}(h:PrgAt arm room croom K w p q R t)(hf:Fr E w w')(hE:∀ b,E b→R b)(hR:∀ b,R' b→R b∨(w.heap.size≤b∧b<w'.heap.size)):PrgAt arm room croom K w' p q R' t:=by
 obtain ⟨x,P,C,d,s,n,enc,ms,h⟩:=h
 refine ⟨x,P,C,d,s,n,enc,ms,h.live.off hf (fun b hS he=>h.off b hS (hE b he)),h.q,h.busy,h.com,h.mb,h.mr,fun b hS hb'=>?_,h.sure,h.env,h.ops,h.hm,h.rm,h.nk,h.nm,fun b hb'=>?_⟩
 ·rcases hR b hb' with h1 |h1
  ·exact h.off b hS h1
  ·have:=h.live.lt b hS;omega
 ·rcases hR b hb' with h1 |h1
  ·exact Nat.lt_of_lt_of_le (h.rl b h1) hf.size
  ·exact h1.2
theorem PrgAt.rl(h:PrgAt arm room croom K w p q R t):∀ b,R b→b<w.heap.size:=by
 obtain ⟨x,P,C,d,s,n,enc,ms,h⟩:=h
 exact h.rl
theorem prg_pages(h:PrgAt arm room croom K w p q R t):Calls Tryz.prog 12 #[.pointer (some ⟨p,0,none⟩)] w fun e w'=>e=.returned (.int .i64 (t.pages.length:Int))∧Below w.heap.size w w':=by
 obtain ⟨x,P,C,d,s,n,enc,ms,h⟩:=h
 refine (pages_live p x w h.live.tx.core.hd).mono ?_
 rintro e w' ⟨rfl,hb⟩
 exact ⟨by rw [h.live.tx.np],hb⟩
theorem prg_get_keep(i:Nat)(h:PrgAt arm room croom K w p q R t)(hi:i<t.pages.length)(hK:K≤800):Calls Tryz.prog 34 #[.pointer (some ⟨p,0,none⟩),.int .i64 ((i+1:Nat):Int)] w fun e w'=>∃ a cap,e=.returned (.tuple #[.slice (some a) 512 cap,.int .i64 0])∧Rd w' (some a) 512 cap (t.pages.getD i [])∧w.heap.size≤a.block∧PrgAt arm room croom (K+1) w' p q (fun b=>R b∨b=a.block) t∧Rok R w w':=by
 obtain ⟨x,P,C,d,s,n,enc,ms,h⟩:=h
 refine (get_yes p i x P C d s t.sure n t.pages t.ch enc w h.live.tx hi (by rw [h.sure.f0];rfl) h.env.on (by have:=h.hm;have:K*1000≤800*1000:=Nat.mul_le_mul_right _ hK;omega)).mono ?_
 rintro e w' ⟨a,cap,rfl,hr,ha,⟨C',s',hT,hO,hM,hs,hrm⟩,hf⟩
 refine ⟨a,cap,rfl,hr,ha,?_,(h.to (t':=t) (h.live.moved hT hM hf hs hrm) rfl rfl rfl rfl h.busy h.com h.mb h.mr h.sure h.env (by omega) (by omega) (by have:=h.nk;omega) (fun k hk=>by have:=h.nm k hk;omega)).2⟩
 have ho:∀ b,Out w (NC p x P C) b→Out w' (NC p x P C') b:=fun b hb=>hM.out hf.size hb
 have hL:Live w' p x P C' d s' t.sure n t.pages t.ch enc ms:=⟨hT,h.live.mks.move ⟨rfl,rfl,rfl,rfl⟩ (fun k hk=>(h.live.mks.each k hk).2) ho (fun b hb=>⟨fun o v hc=>fr_cell hf hc hb.2,fun _=>hf.blk b hb.1 hb.2⟩) (mv_ne h.live.mks.row h.live.tx.chg.map),h.live.sep,fun b o l cc hb=>ho b (h.live.eb b o l cc hb),fun k hk b o l cc hb=>ho b (h.live.ek k hk b o l cc hb)⟩
 refine ⟨x,P,C',d,s',n,enc,ms,hL,h.q,h.busy,h.com,h.mb,h.mr,fun b hS hR=>?_,h.sure,h.env,up1000 h.ops (by omega),up1000 h.hm (by omega),hrm.trans h.rm,by have:=h.nk;omega,fun k hk=>by have:=h.nm k hk;omega,fun b hb=>?_⟩
 ·rcases hR with hR |rfl
  ·rcases hS with hS |hS
   ·rcases hM b hS with h1 |h1
    ·exact h.off b (Or.inl h1) hR
    ·have:=h.rl b hR;omega
   ·exact h.off b (Or.inr hS) hR
  ·rcases hS with hS |hS
   ·exact hO.2 hS
   ·have:=h.live.lt a.block (Or.inr hS);omega
 ·rcases hb with hb |rfl
  ·exact Nat.lt_of_lt_of_le (h.rl b hb) hf.size
  ·exact hO.1
end
variable {x:List Nat} {n c:Nat} {a:Addr} {w w':World}
theorem rd_blk(h:Rd w (some a) n c x)(hb:w'.heap[a.block]? = w.heap[a.block]?):Rd w' (some a) n c x:=by
 refine ⟨h.1,h.2.1,h.2.2.1,fun hn=>?_⟩
 obtain ⟨b,o,e,hc⟩:=h.2.2.2 hn
 cases e
 exact ⟨b,o,rfl,fun t ht=>(World.cell?_of_block (a:=⟨b,o+t,none⟩) hb).trans (hc t ht)⟩
structure PR (w0:Nat) (W:World) (Rj:Nat→Prop) (ao:Option Addr) (vs:List Value) (l:List Pg) (j:Nat):Prop where
 at_:∀ k,k<j→∃ a c,vs[k]? = some (.slice (some a) 512 c)∧Rd W (some a) 512 c (l.getD k [])∧Rj a.block∧∀ ad,ao=some ad→a.block≠ad.block
 len:vs.length=j
def RdPR(w:World)(R:Nat→Prop)(ao:Option Addr)(n:Nat)(l:List Pg):Prop:=
 l.length=n∧(0<n→∃ b,ao=some ⟨b,0,none⟩∧R b∧∀ t,t<n→∃ a c,w.cell? ⟨b,t,none⟩=some (.slice (some a) 512 c)∧Rd w (some a) 512 c (l.getD t [])∧R a.block)
variable {l:List Pg} {ao:Option Addr} {R:Nat→Prop}
theorem RdPR.rdP(h:RdPR w R ao n l):RdP w ao n l:=
 ⟨h.1,fun hn=>by
  obtain ⟨b,e,_,h2⟩:=h.2 hn
  refine ⟨b,0,e,fun t ht=>?_⟩
  obtain ⟨a,c,h3,h4,_⟩:=h2 t ht
  exact ⟨some a,c,by rw [Nat.zero_add];exact h3,h4⟩⟩
theorem rd_lt(h:Rd w (some a) n c x)(hn:0<n):a.block<w.heap.size:=by
 obtain ⟨b,o,e,hc⟩:=h.2.2.2 hn
 cases e
 exact lt_cell (hc 0 hn)
theorem RdPR.rok{R':Nat→Prop}(h:RdPR w R ao n l)(hr:Rok R' w w')(hR:∀ b,R b→R' b):RdPR w' R ao n l:=
 ⟨h.1,fun hn=>by
  obtain ⟨b,e,hb,h2⟩:=h.2 hn
  refine ⟨b,e,hb,fun t ht=>?_⟩
  obtain ⟨a,c,h3,h4,h5⟩:=h2 t ht
  exact ⟨a,c,(World.cell?_of_block (a:=⟨b,t,none⟩) (hr.at_ (hR b hb) (lt_cell h3))).trans h3,rd_blk h4 (hr.at_ (hR _ h5) (rd_lt h4 (by omega))),h5⟩⟩
theorem RdPR.keep(h:RdPR w R ao n l)(hb:Below w.heap.size w w'):RdPR w' R ao n l:=h.rok (R':=R) (fr_below hb) (fun _ h=>h)
variable {t:RS} {p q room croom K:Nat} {arm:Prop}
theorem pages_keep(h:PrgAt arm room croom K w p q R t)(hm:t.pages.length≤400)(hK:K≤400) :
  Calls Tryz.prog 20 #[.pointer (some ⟨p,0,none⟩)] w fun e w'=>∃ ao cp R',e=.returned (.tuple #[.slice ao t.pages.length cp,.bool true])∧RdPR w' R' ao t.pages.length t.pages∧t.pages.length≤cp∧PrgAt arm room croom (K+t.pages.length) w' p q R' t∧(∀ b,R b→R' b)∧Rok R w w':=by
 obtain ⟨m,hml⟩:∃ m,m=t.pages.length:=⟨_,rfl⟩
 have CP:Hid (∀ W Rj k,PrgAt arm room croom k W p q Rj t→Calls Tryz.prog 12 #[.pointer (some ⟨p,0,none⟩)] W fun e w'=>e=.returned (.int .i64 (m:Int))∧Below W.heap.size W w'):=hid (fun W Rj k hW=>by rw [hml];exact prg_pages hW)
 have HL:=hid hml
 have H:=hid h
 rw [←hml]at hm ⊢
 clear h hml
 go_enter Tryz.func20,Tryz.ntmps20
 go_wp2
 go_loopw [4,5] (fun v4 v5 W=>∃ (j J:Nat) (ao:Option Addr) (cp:Nat) (vs:List Value) (Rj:Nat→Prop),J=j+1∧j≤m∧v5=.int .i64 (J:Int)∧v4=.slice ao j cp∧Hid (W.ownsRow w.heap.size 60 1 (.slice ao j cp) j vs)∧Hid (PR w.heap.size W Rj ao vs t.pages j)∧Hid (PrgAt arm room croom (K+j) W p q Rj t)∧Hid ((∀ b,R b→Rj b)∧(∀ a,ao=some a→Rj a.block)∧Rok R w W)) (fun _ v5 _=>m+1 - (Lib.intOf v5).toNat)
 case atStart=>exact ⟨0,1,none,0,[],R,rfl,by omega,rfl,rfl,hid ⟨rfl,Or.inl ⟨rfl,rfl⟩⟩,hid ⟨(fun k hk=>by omega),rfl⟩,hid H.out,hid ⟨fun _ h=>h,(fun a ha=>by cases ha),Fr.refl _ _⟩⟩
 case round=>
  obtain ⟨j,J,ao,cp,vs,Rj,hJ,hj,rfl,rfl,O,PP,G,RR⟩:=hrel
  by_cases hjm:j<m
  ·have hJm:(J:Int)≤(m:Int):=by omega
   have hJ5:¬(500:Int)<(J:Int):=by omega
   have e1:IntKind.i64.wrap ((J:Int)+1)=((J+1:Nat):Int):=by rw [IntWalk.i64_in _ ⟨by omega,by omega⟩];omega
   have CG:Hid (∀ W,PrgAt arm room croom (K+j) W p q Rj t→Calls Tryz.prog 34 #[.pointer (some ⟨p,0,none⟩),.int .i64 (J:Int)] W fun e w'=>∃ a cap,e=.returned (.tuple #[.slice (some a) 512 cap,.int .i64 0])∧Rd w' (some a) 512 cap (t.pages.getD j [])∧W.heap.size≤a.block∧PrgAt arm room croom (K+j+1) w' p q (fun b=>Rj b∨b=a.block) t∧Rok Rj W w'):=hid (fun W hW=>by rw [hJ];exact prg_get_keep j hW (by rw [←HL.out];exact hjm) (by omega))
   have HJ:=hid hJ
   clear hJ
   go_wp2_with (first
    | (go_at_call 12;refine (CP.out wr Rj _ G.out).mono ?_;rintro e w1 ⟨rfl,hb1⟩;have B1:=hid hb1;have G1:=hid (G.out.later0 hb1);clear hb1)
    | (go_at_call 34;refine (CG.out w1 G1.out).mono ?_;rintro e w2 ⟨a,cap,rfl,hrd,hab,hg2,hr2⟩;have RD:=hid hrd;have AB:=hid hab;have G2:=hid hg2;have R2:=hid hr2;have SR:=hid (lit_src w2 [.slice (some a) 512 cap] 60 (by intro x hx;simp at hx;subst hx;rfl));have O2:=hid (own_under O.out (fun k hk=>((R2.out.at_ (by cases ao with | none=>cases hk | some ad=>(cases hk;exact RR.out.2.1 ad rfl)) (Nat.lt_of_lt_of_le (own_bound (ownsRow_base_a O.out (Nat.zero_le _)) hk) B1.out.size)).trans (B1.out.block k (own_bound (ownsRow_base_a O.out (Nat.zero_le _)) hk)))));have O3:=hid (own_under O2.out (w':=w2.alloc (.cells #[.slice (some a) 512 cap] 60)) (fun k hk=>hao _ _ _ (own_bound (ownsRow_base_a O2.out (Nat.zero_le _)) hk)));clear hrd hab hg2 hr2)
    | ((with_reducible refine Dsk.here_op 29 ?_);refine Cch.wpList_app rfl (.tmp 26) (.tmp 28) elP rfl (.slice ao j cp) j vs rfl (ownsRow_base_a O3.out (Nat.zero_le _)) (some ⟨w2.heap.size,0,none⟩) 1 1 [.slice (some a) 512 cap] rfl SR.out (by omega) ?_;intro a7 c7 w7 ho7 hg7 ha7;have O7:=hid ho7;have G7:=hid hg7;have A7:=hid ha7;clear ho7 hg7 ha7))
   have hJl:∀ k,(Value.slice ao j cp).ownBlock=some k→w.heap.size≤k∧k<w1.heap.size:=fun k hk=>⟨own_blk O.out hk,Nat.lt_of_lt_of_le (own_bound (ownsRow_base_a O.out (Nat.zero_le _)) hk) B1.out.size⟩
   have hab:a.block<w2.heap.size:=G2.out.rl a.block (Or.inr rfl)
   have b3:Below w2.heap.size w2 (w2.alloc (.cells #[.slice (some a) 512 cap] 60)):=Below.alloc (Below.refl _ _) (Nat.le_refl _) _
   have f7:=fr_grown G7.out
   have G3:=G2.out.later0 b3
   have hE:∀ b,(Value.slice ao j cp).ownBlock=some b→Rj b∨b=a.block:=fun b hb=>by
    cases ao with
    | none=>cases hb
    | some ad=>cases hb;exact Or.inl (RR.out.2.1 ad rfl)
   have ha7:∀ ad,a7=some ad→(Value.slice ao j cp).ownBlock=some ad.block∨ad.block=(w2.alloc (.cells #[.slice (some a) 512 cap] 60)).heap.size:=fun ad e=>A7.out ad e
   have hs3:(w2.alloc (.cells #[.slice (some a) 512 cap] 60)).heap.size=w2.heap.size+1:=by simp
   have h7l:∀ ad,a7=some ad→ad.block<w7.heap.size:=fun ad e=>own_bound O7.out (by rw [e];rfl)
   have G4:PrgAt arm room croom (K+j+1) w7 p q (fun b=>(Rj b∨b=a.block)∨∃ ad,a7=some ad∧b=ad.block) t:=G3.turn f7 hE (fun b hb=>by
    rcases hb with hb | ⟨ad,e1,rfl⟩
    ·exact Or.inl hb
    ·rcases ha7 ad e1 with h1 |h1
     ·exact Or.inl (hE _ h1)
     ·exact Or.inr ⟨by omega,h7l ad e1⟩)
   have hsz12:=R2.out.size
   refine ⟨⟨j+1,J+1,a7,c7,vs++[.slice (some a) 512 cap],_,by have:=HJ.out;omega,by omega,by first |rfl |rw [e1],rfl,hid (own_up O7.out (fun ad e=>?_)),hid ⟨fun k hk=>?_,by rw [List.length_append,PP.out.len];rfl⟩,hid G4,hid ⟨fun b hb=>Or.inl (Or.inl (RR.out.1 b hb)),fun ad e=>Or.inr ⟨ad,e,rfl⟩,?_⟩⟩,by have:=HJ.out;simp [Lib.intOf];omega⟩
   ·have h0:=RR.out.2.2.size
    have h1:=B1.out.size
    rcases ha7 ad e with h2 |h2
    ·exact (hJl _ h2).1
    ·omega
   ·by_cases hkj:k<j
    ·obtain ⟨a',c',h1,h2,h3,h4⟩:=PP.out.at_ k hkj
     have hal:a'.block<wr.heap.size:=G.out.rl a'.block h3
     refine ⟨a',c',by rw [List.getElem?_append_left (by rw [PP.out.len];exact hkj)];exact h1,?_,Or.inl (Or.inl h3),fun ad e e2=>?_⟩
     ·have k1:=h2.keep B1.out
      have k2:Rd w2 (some a') 512 c' (t.pages.getD k []):=rd_blk k1 (R2.out.at_ h3 (Nat.lt_of_lt_of_le hal B1.out.size))
      have k3:=k2.keep b3
      exact rd_fr f7 k3 (fun _ ad e hb=>by
       cases e
       cases ao with
       | none=>cases hb
       | some ad2=>exact h4 ad2 rfl (Option.some.inj (show some ad2.block=some a'.block from hb)).symm)
     ·have h0:=B1.out.size
      rcases ha7 ad e with h5 |h5
      ·cases ao with
       | none=>cases h5
       | some ad2=>exact h4 ad2 rfl (e2.trans (Option.some.inj (show some ad2.block=some ad.block from h5)).symm)
      ·omega
    ·obtain rfl:k=j:=by omega
     refine ⟨a,cap,by rw [List.getElem?_append_right (by rw [PP.out.len];exact Nat.le_refl _),PP.out.len,Nat.sub_self];rfl,rd_fr f7 (RD.out.keep b3) (fun _ ad e hb=>?_),Or.inl (Or.inr rfl),fun ad e e2=>?_⟩
     ·cases e
      have:=(hJl _ hb).2;have:=AB.out;omega
     ·rcases ha7 ad e with h5 |h5
      ·have:=(hJl _ h5).2;have:=AB.out;omega
      ·omega
   ·have h0:=RR.out.2.2.size
    have h1:=B1.out.size
    have s1:Rok R w w1:=fr_trans RR.out.2.2 (fr_below (S:=fun _=>False) B1.out) (fun _ h=>h.elim)
    have s2:Rok R w w2:=fr_trans s1 R2.out (fun b hb=>Or.inl ⟨fun h=>hb.1 (RR.out.1 b h),hb.2⟩)
    have s3:Rok R w _:=fr_trans s2 (fr_below (S:=fun _=>False) b3) (fun _ h=>h.elim)
    exact fr_trans s3 f7 (fun b hb=>Or.inr (hJl b hb).1)
  ·obtain rfl:j=m:=by omega
   have hJm:¬(J:Int)≤(j:Int):=by omega
   have HJ:=hid hJ
   clear hJ
   go_wp2_with (go_at_call 12;refine (CP.out wr Rj _ G.out).mono ?_;rintro e w1 ⟨rfl,hb1⟩;have B1:=hid hb1;clear hb1)
   go_ret2
   refine ⟨ao,cp,Rj,rfl,RdPR.keep ?_ B1.out,?_,G.out.later0 B1.out,RR.out.1,fr_trans RR.out.2.2 (fr_below (S:=fun _=>False) B1.out) (fun _ h=>h.elim)⟩
   ·refine ⟨HL.out.symm,fun hn=>?_⟩
    obtain ⟨g,hg⟩:∃ g,ao=some ⟨g,0,none⟩:=by
     rcases O.out.2 with ⟨hv,hz⟩ | ⟨g,cap',cur,hv,_⟩
     ·omega
     ·simp only [Value.slice.injEq]at hv;exact ⟨g,hv.1⟩
    subst hg
    refine ⟨g,rfl,RR.out.2.1 _ rfl,fun k hk=>?_⟩
    obtain ⟨a,c,h1,h2,h3,_⟩:=PP.out.at_ k hk
    refine ⟨a,c,?_,h2,h3⟩
    have:=O.out.cells (g:=g) rfl k _ h1
    rw [Addr.add_lit]at this;simpa using this
   ·obtain ⟨ao',cap',hv,hno,hso⟩:=Cch.row_form (ownsRow_base_a O.out (Nat.zero_le _))
    simp only [Value.slice.injEq]at hv
    obtain ⟨rfl,-,rfl⟩:=hv
    cases ao with
    | none=>have:=(hno rfl).1;omega
    | some a=>exact (hso a rfl).2.1
theorem pages_any(h:PrgAt arm room croom K w p q R t)(hm:t.pages.length≤400)(hK:K≤400) :
  Calls Tryz.prog 20 #[.pointer (some ⟨p,0,none⟩)] w fun e w'=>∃ ao cp,e=.returned (.tuple #[.slice ao t.pages.length cp,.bool true])∧RdP w' ao t.pages.length t.pages∧t.pages.length≤cp∧Rok R w w':=by
 refine (pages_keep h hm hK).mono ?_
 rintro e w' ⟨ao,cp,R',h1,h2,h3,_,_,h4⟩
 exact ⟨ao,cp,h1,h2.rdP,h3,h4⟩
end
end Go.Proofs.YtadhdedjdgjboaaGreatDoor
