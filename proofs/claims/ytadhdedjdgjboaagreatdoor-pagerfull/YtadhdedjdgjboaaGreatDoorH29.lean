/- Reads of a live pager; no statement of the seat is proved here. -/
import Derived.Test.YtadhdedjdgjboaaGreatDoorH28
import Derived.Test.YtadhdedjdgjboaaGreatDoorH17
set_option maxHeartbeats 16000000
set_option maxRecDepth 20000
namespace Go.Proofs.YtadhdedjdgjboaaGreatDoor
section
open Go.RowKit Go.Maps
open Dsk (gt hid undrew keep_old keep_cell lt_cell DS DiskP)
open Cch (CS CP)
theorem pages_live(p:Nat)(x:PC)(w:World)(h:PgAt w p x):Calls Tryz.prog 12 #[.pointer (some ⟨p,0,none⟩)] w fun e w'=>e=.returned (.int .i64 (x.np:Int))∧Below w.heap.size w w':=by
 have c:=hid (fault_any p true 0 w h.fate)
 have H:=hid h
 clear h
 go_enter Tryz.func12,Tryz.ntmps12
 go_wp2_with (go_at_call 53;refine c.out.mono ?_;rintro e w1 ⟨rfl,hb1⟩;have B1:=hid hb1;obtain ⟨a0,a1,a2,a3,a4,a5,a6,a7,a8,a9,a10,a11⟩:=(H.out.later hb1).cells;clear hb1)
 go_ret
 exact ⟨rfl,B1.out⟩
theorem busy_live(p:Nat)(x:PC)(w:World)(h:PgAt w p x):Calls Tryz.prog 14 #[.pointer (some ⟨p,0,none⟩)] w fun e w'=>e=.returned (.bool x.busy)∧Below w.heap.size w w':=by
 have c:=within_live p x w h
 clear h
 obtain ⟨b,hb⟩:∃ b,x.busy=b:=⟨_,rfl⟩
 rw [hb]at c ⊢
 have C:=hid c
 clear c hb
 cases b
 ·go_enter Tryz.func14,Tryz.ntmps14
  go_wp2_with (go_at_call 55;refine C.out.mono ?_;rintro e w1 ⟨rfl,hb1⟩;have B1:=hid hb1;clear hb1)
  go_ret
  exact ⟨by simp,B1.out⟩
 ·go_enter Tryz.func14,Tryz.ntmps14
  go_wp2_with (go_at_call 55;refine C.out.mono ?_;rintro e w1 ⟨rfl,hb1⟩;have B1:=hid hb1;clear hb1)
  go_ret
  exact ⟨by simp,B1.out⟩
end
section
open Go.RowKit Go.Maps
open Dsk (gt hid undrew keep_old keep_cell lt_cell DS DiskP Sec)
open Cch (CS CP Fr)
theorem rollback_no(p:Nat)(x:PC)(w:World)(h:PgAt w p x)(hb:x.busy=false):Calls Tryz.prog 39 #[.pointer (some ⟨p,0,none⟩)] w fun e w'=>e=.returned (.int .i64 6)∧Below w.heap.size w w':=by
 have cw:=within_live p x w h
 rw [hb]at cw
 have CW:=hid cw
 clear cw h hb
 go_enter Tryz.func39,Tryz.ntmps39
 go_wp2_with (go_at_call 55;refine CW.out.mono ?_;rintro e w1 ⟨rfl,hb1⟩;have B1:=hid hb1;clear hb1)
 go_ret
 exact ⟨rfl,B1.out⟩
theorem rollback_yes(p:Nat)(x:PC)(P:Dsk.Parts)(C:Cch.Parts)(d:DS)(s:CS)(sure:List Pg)(n:Nat)(now:List Pg)(c:List Bool)(enc:List Sec)(w:World)(h:Tx w p x P C d s sure n now c enc)(hb:x.busy=true) :
  Calls Tryz.prog 39 #[.pointer (some ⟨p,0,none⟩)] w fun e w'=>e=.returned (.int .i64 0)∧∃ m,Rest w' p (x.ended m) P C d s sure∧Fr (fun b=>b=p) w w'∧w.heap.size≤m:=by
 have cw:=within_live p x w h.core.hd
 rw [hb]at cw
 have CW:=hid cw;have H:=hid h
 clear cw h hb
 go_enter Tryz.func39,Tryz.ntmps39
 go_wp2_with (first
  | (go_at_call 55;refine CW.out.mono ?_;rintro e w1 ⟨rfl,hb1⟩;have B2:=hid hb1;clear hb1)
  | (go_at_call 44;refine (end_raw p x w1 (H.out.core.hd.later B2.out)).mono ?_;rintro e w3 ⟨rfl,hw3⟩;have H2:=hid (H.out.later B2.out);have T3:=hid (tx_fresh H2.out.core H2.out.fits H2.out.pages H2.out.ws H2.out.bs H2.out.tab H2.out.t0 hw3);clear hw3))
 go_ret
 exact ⟨rfl,w1.heap.size,T3.out.1,fr_trans (fr_below B2.out) T3.out.2 (fun _ hb=>Or.inl hb),B2.out.size⟩
theorem changed_live(p:Nat)(x:PC)(P:Dsk.Parts)(C:Cch.Parts)(d:DS)(s:CS)(sure:List Pg)(n:Nat)(now:List Pg)(c:List Bool)(enc:List Sec)(w:World)(h:Tx w p x P C d s sure n now c enc) :
  Calls Tryz.prog 17 #[.pointer (some ⟨p,0,none⟩)] w fun e w'=>∃ v:Value,e=.returned v∧w'.ownsRow w.heap.size 3 1 v (chL c).length (zI (chL c))∧Below w.heap.size w w':=by
 have c53:=hid (fault_any p true 0 w h.core.hd.fate)
 have hl:(Dsk.idx (false::c)).length≤100000:=by have:=Dsk.idx_le (false::c);have:=h.chg.len;have:=h.bn;simp at *;omega
 have CA:=hid (fun W (hW:Below w.heap.size w W)=>changed_any (x.np:Int) x.m n (false::c) enc W (h.later hW).chg.map hl)
 have H:=hid h
 clear h hl
 go_enter Tryz.func17,Tryz.ntmps17
 go_wp2_with (first
  | (go_at_call 53;refine c53.out.mono ?_;rintro e w1 ⟨rfl,hb1⟩;have B1:=hid hb1;obtain ⟨a0,a1,a2,a3,a4,a5,a6,a7,a8,a9,a10,a11⟩:=(H.out.core.hd.later hb1).cells;clear hb1)
  | (go_at_call 56;refine (CA.out w1 B1.out).mono ?_;rintro e w2 ⟨v,rfl,hv,_,hb2⟩;have V2:=hid hv;have B2:=hid hb2;clear hv hb2))
 go_ret
 exact ⟨v,rfl,ownsRow_base_a V2.out B1.out.size,gt B1.out B2.out⟩
end
section
open Go.RowKit Go.Maps
open Dsk (gt hid undrew keep_old keep_cell lt_cell DS DiskP Sec op_at)
open Cch (CS CP Fr wpAnyK wpAnyK_take wpAnyK_pure wpAnyK_ready wpAnyK_done wp_region_K AllReadyK.cons AllReadyK.nil)
theorem put_state(p:Nat)(x:PC)(z:Int)(v:Value)(w:World)(h:PgAt w p x)(hb:x.busy=false):Calls Tryz.prog 32 #[.pointer (some ⟨p,0,none⟩),.int .i64 z,v] w fun e w'=>e=.returned (.int .i64 6)∧Below w.heap.size w w':=by
 have cw:=within_live p x w h
 rw [hb]at cw
 have CW:=hid cw
 clear cw h hb
 go_enter Tryz.func32,Tryz.ntmps32
 go_wp2_with (go_at_call 55;refine CW.out.mono ?_;rintro e w1 ⟨rfl,hb1⟩;have B1:=hid hb1;clear hb1)
 go_ret
 exact ⟨rfl,B1.out⟩
theorem grow_state(p:Nat)(x:PC)(w:World)(h:PgAt w p x)(hb:x.busy=false):Calls Tryz.prog 31 #[.pointer (some ⟨p,0,none⟩)] w fun e w'=>e=.returned (.tuple #[.int .i64 0,.int .i64 6])∧Below w.heap.size w w':=by
 have cw:=within_live p x w h
 rw [hb]at cw
 have CW:=hid cw
 clear cw h hb
 go_enter Tryz.func31,Tryz.ntmps31
 go_wp2_with (go_at_call 55;refine CW.out.mono ?_;rintro e w1 ⟨rfl,hb1⟩;have B1:=hid hb1;clear hb1)
 go_ret2
 exact ⟨rfl,B1.out⟩
theorem mark_state(p:Nat)(x:PC)(w:World)(h:PgAt w p x)(hb:x.busy=false):Calls Tryz.prog 35 #[.pointer (some ⟨p,0,none⟩)] w fun e w'=>e=.returned (.tuple #[.int .i64 0,.int .i64 6])∧Below w.heap.size w w':=by
 have cw:=within_live p x w h
 rw [hb]at cw
 have CW:=hid cw
 clear cw h hb
 go_enter Tryz.func35,Tryz.ntmps35
 go_wp2_with (go_at_call 55;refine CW.out.mono ?_;rintro e w1 ⟨rfl,hb1⟩;have B1:=hid hb1;clear hb1)
 go_ret2
 exact ⟨rfl,B1.out⟩
theorem undo_state(p:Nat)(x:PC)(z:Int)(w:World)(h:PgAt w p x)(hb:x.busy=false):Calls Tryz.prog 38 #[.pointer (some ⟨p,0,none⟩),.int .i64 z] w fun e w'=>e=.returned (.int .i64 6)∧Below w.heap.size w w':=by
 have cw:=within_live p x w h
 rw [hb]at cw
 have CW:=hid cw
 clear cw h hb
 go_enter Tryz.func38,Tryz.ntmps38
 go_wp2_with (go_at_call 55;refine CW.out.mono ?_;rintro e w1 ⟨rfl,hb1⟩;have B1:=hid hb1;clear hb1)
 go_ret
 exact ⟨rfl,B1.out⟩
theorem commit_state(p:Nat)(x:PC)(w:World)(h:PgAt w p x)(hb:x.busy=false):Calls Tryz.prog 27 #[.pointer (some ⟨p,0,none⟩)] w fun e w'=>e=.returned (.int .i64 6)∧Below w.heap.size w w':=by
 have cw:=within_live p x w h
 rw [hb]at cw
 have CW:=hid cw
 clear cw h hb
 go_enter Tryz.func27,Tryz.ntmps27
 go_wp2_with (go_at_call 55;refine CW.out.mono ?_;rintro e w1 ⟨rfl,hb1⟩;have B1:=hid hb1;clear hb1)
 go_ret
 exact ⟨rfl,B1.out⟩
theorem shrink_state(p:Nat)(x:PC)(z:Int)(w:World)(h:PgAt w p x)(hb:x.busy=false):Calls Tryz.prog 37 #[.pointer (some ⟨p,0,none⟩),.int .i64 z] w fun e w'=>e=.returned (.int .i64 6)∧Below w.heap.size w w':=by
 have A0:Below w.heap.size w (w.alloc (.cells #[.int .i64 z] 3)):=Below.alloc (Below.refl _ _) (Nat.le_refl _) _
 have cw:=within_live p x _ (h.later A0)
 rw [hb]at cw
 have CW:=hid cw;have HA:=hid A0
 clear cw h hb A0
 go_enter Tryz.func37,Tryz.ntmps37
 go_wp2_with (go_at_call 55;refine CW.out.mono ?_;rintro e w1 ⟨rfl,hb1⟩;have B1:=hid hb1;clear hb1)
 go_ret
 exact ⟨rfl,gt HA.out B1.out⟩
theorem shrink_range(p:Nat)(x:PC)(z:Int)(w:World)(h:PgAt w p x)(hb:x.busy=true)(hz:z<0∨(x.np:Int)<z):Calls Tryz.prog 37 #[.pointer (some ⟨p,0,none⟩),.int .i64 z] w fun e w'=>e=.returned (.int .i64 11)∧Below w.heap.size w w':=by
 have A0:Below w.heap.size w (w.alloc (.cells #[.int .i64 z] 3)):=Below.alloc (Below.refl _ _) (Nat.le_refl _) _
 have cw:=within_live p x _ (h.later A0)
 have zc:(w.alloc (.cells #[.int .i64 z] 3)).cell? ⟨w.heap.size,0,none⟩=some (.int .i64 z):=by rw [World.cell?_alloc_at _ _ _ _ rfl];rfl
 rw [hb]at cw
 have CW:=hid cw;have HA:=hid A0;have H:=hid h;have ZC:=hid zc
 clear cw h hb A0 zc
 by_cases h1:z<0
 ·go_enter Tryz.func37,Tryz.ntmps37
  go_wp2_with (go_at_call 55;refine CW.out.mono ?_;rintro e w1 ⟨rfl,hb1⟩;have B1:=hid hb1;clear hb1)
  refine wp_region_K (S:=Gr w1.drew) (fun _=>false) (by kernel_rfl) (Below.refl _ _) (fun hHeld=>?_)
  refine gkt 0 ?_ (h:=by intro W hSw;have z1:=keep_old (undrew hSw) (keep_old B1.out ZC.out);go_simp;first |done |with_reducible rfl)
  refine gkp 1 ?_
  refine gkp 2 ?_ (v:=.bool true) (h:=by intro W hSw;go_simp;first |done |with_reducible rfl |simp [h1])
  refine gku 3 ?_
  refine gku 4 ?_
  refine gku 5 ?_
  refine gku 6 ?_
  refine gku 7 ?_
  refine gku 8 ?_
  refine gku 9 ?_
  refine gkp 10 ?_
  refine wpAnyK_done (by kernel_rfl) ?_ _
  clear hHeld
  go_wp2
  go_ret
  exact ⟨rfl,(gt HA.out B1.out).drew⟩
 ·have h2:(x.np:Int)<z:=by omega
  go_enter Tryz.func37,Tryz.ntmps37
  go_wp2_with (go_at_call 55;refine CW.out.mono ?_;rintro e w1 ⟨rfl,hb1⟩;have B1:=hid hb1;clear hb1)
  refine wp_region_K (S:=Gr w1.drew) (fun _=>false) (by kernel_rfl) (Below.refl _ _) (fun hHeld=>?_)
  refine gkt 0 ?_ (h:=by intro W hSw;have z1:=keep_old (undrew hSw) (keep_old B1.out ZC.out);go_simp;first |done |with_reducible rfl)
  refine gkp 1 ?_
  refine gkp 2 ?_ (v:=.bool false) (h:=by intro W hSw;go_simp;first |done |with_reducible rfl |simp [h1])
  refine gkt 3 ?_ (h:=by intro W hSw;have z1:=keep_old (undrew hSw) (keep_old B1.out ZC.out);go_simp;first |done |with_reducible rfl)
  refine gkp 4 ?_
  refine gkp 5 ?_
  refine gkp 6 ?_
  refine gkp 7 ?_
  refine gkt 8 ?_ (h:=by intro W hSw;obtain ⟨a0,a1,a2,a3,a4,a5,a6,a7,a8,a9,a10,a11⟩:=(H.out.later (gt (gt HA.out B1.out) (undrew hSw))).cells;go_simp;first |done |with_reducible rfl)
  refine gkp 9 ?_
  refine gkp 10 ?_
  refine wpAnyK_done (by kernel_rfl) ?_ _
  clear hHeld
  go_wp2
  go_ret
  exact ⟨rfl,(gt HA.out B1.out).drew⟩
theorem put_range(p:Nat)(x:PC)(z:Int)(v:Value)(w:World)(h:PgAt w p x)(hb:x.busy=true)(hz:(decide (1≤z)&&decide (z≤(x.np:Int)))=false):Calls Tryz.prog 32 #[.pointer (some ⟨p,0,none⟩),.int .i64 z,v] w fun e w'=>e=.returned (.int .i64 11)∧Below w.heap.size w w':=by
 have cw:=within_live p x w h
 rw [hb]at cw
 have CW:=hid cw
 have CH:=hid (fun W (hW:Below w.heap.size w W)=>by have:=has_any p x z W (h.later hW);rw [hz]at this;exact this)
 clear cw h hb hz
 go_enter Tryz.func32,Tryz.ntmps32
 go_wp2_with (first
  | (go_at_call 55;refine CW.out.mono ?_;rintro e w1 ⟨rfl,hb1⟩;have B1:=hid hb1;clear hb1)
  | (go_at_call 68;refine (CH.out w1 B1.out).mono ?_;rintro e w2 ⟨rfl,hb2⟩;have B2:=hid hb2;clear hb2))
 go_ret
 exact ⟨rfl,gt B1.out B2.out⟩
theorem put_arg(p:Nat)(x:PC)(z:Int)(ao:Option Addr)(l cap:Nat)(w:World)(h:PgAt w p x)(hb:x.busy=true)(hz:(decide (1≤z)&&decide (z≤(x.np:Int)))=true)(hl:l≠512):Calls Tryz.prog 32 #[.pointer (some ⟨p,0,none⟩),.int .i64 z,.slice ao l cap] w fun e w'=>e=.returned (.int .i64 2)∧Below w.heap.size w w':=by
 have cw:=within_live p x w h
 rw [hb]at cw
 have CW:=hid cw
 have CH:=hid (fun W (hW:Below w.heap.size w W)=>by have:=has_any p x z W (h.later hW);rw [hz]at this;exact this)
 have hl':¬(l:Int)=512:=by omega
 clear cw h hb hz hl
 go_enter Tryz.func32,Tryz.ntmps32
 go_wp2_with (first
  | (go_at_call 55;refine CW.out.mono ?_;rintro e w1 ⟨rfl,hb1⟩;have B1:=hid hb1;clear hb1)
  | (go_at_call 68;refine (CH.out w1 B1.out).mono ?_;rintro e w2 ⟨rfl,hb2⟩;have B2:=hid hb2;clear hb2))
 go_ret
 exact ⟨rfl,gt B1.out B2.out⟩
theorem get_range(p:Nat)(x:PC)(z:Int)(w:World)(h:PgAt w p x)(hz:(decide (1≤z)&&decide (z≤(x.np:Int)))=false):Calls Tryz.prog 34 #[.pointer (some ⟨p,0,none⟩),.int .i64 z] w fun e w'=>e=.returned (.tuple #[.slice none 0 0,.int .i64 11])∧Below w.heap.size w w':=by
 have CW:=hid (fault_any p true 0 w h.fate)
 have CH:=hid (fun W (hW:Below w.heap.size w W)=>by have:=has_any p x z W (h.later hW);rw [hz]at this;exact this)
 clear h hz
 go_enter Tryz.func34,Tryz.ntmps34
 go_wp2_with (first
  | (go_at_call 53;refine CW.out.mono ?_;rintro e w1 ⟨rfl,hb1⟩;have B1:=hid hb1;clear hb1)
  | (go_at_call 68;refine (CH.out w1 B1.out).mono ?_;rintro e w2 ⟨rfl,hb2⟩;have B2:=hid hb2;clear hb2))
 go_ret2
 exact ⟨rfl,gt B1.out B2.out⟩
theorem begin_state(p:Nat)(x:PC)(w:World)(h:PgAt w p x)(hb:x.busy=true):Calls Tryz.prog 30 #[.pointer (some ⟨p,0,none⟩)] w fun e w'=>e=.returned (.int .i64 6)∧Below w.heap.size w w':=by
 have CW:=hid (fault_any p true 0 w h.fate)
 have H:=hid h;have HB:=hid hb
 clear h hb
 go_enter Tryz.func30,Tryz.ntmps30
 go_wp2_with (go_at_call 53;refine CW.out.mono ?_;rintro e w1 ⟨rfl,hb1⟩;have B1:=hid hb1;obtain ⟨a0,a1,a2,a3,a4,a5,a6,a7,a8,a9,a10,a11⟩:=(H.out.later hb1).cells;rw [HB.out]at a5;clear hb1)
 go_ret
 exact ⟨rfl,B1.out⟩
end
end Go.Proofs.YtadhdedjdgjboaaGreatDoor
