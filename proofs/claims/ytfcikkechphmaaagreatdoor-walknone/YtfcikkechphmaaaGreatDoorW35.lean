/- Reads of a live pager; no statement of the seat is proved here. -/
import Derived.Test.YtfcikkechphmaaaGreatDoorW34
import Derived.Test.YtfcikkechphmaaaGreatDoorW30
import Derived.Test.YtfcikkechphmaaaGreatDoorW13
set_option maxHeartbeats 16000000
set_option maxRecDepth 20000
namespace Go.Proofs.YtfcikkechphmaaaGreatDoor
section
open Go.RowKit Go.Maps
open Dsk (gt hid undrew keep_old keep_cell lt_cell DS DiskP)
open Cch (CS CP)
theorem pages_live(p:Nat)(x:PC)(w:World)(h:PgAt w p x):Calls Tryz.prog 20 #[.pointer (some ⟨p,0,none⟩)] w fun e w'=>e=.returned (.int .i64 (x.np:Int))∧Below w.heap.size w w':=by
 have c:=hid (fault_any p true 0 w h.fate)
 have H:=hid h
 clear h
 go_enter Tryz.func20,Tryz.ntmps20
 go_wp2_with (go_at_call 65;refine c.out.mono ?_;rintro e w1 ⟨rfl,hb1⟩;have B1:=hid hb1;obtain ⟨a0,a1,a2,a3,a4,a5,a6,a7,a8,a9,a10,a11⟩:=(H.out.later hb1).cells;clear hb1)
 go_ret
 exact ⟨rfl,B1.out⟩
theorem busy_live(p:Nat)(x:PC)(w:World)(h:PgAt w p x):Calls Tryz.prog 167 #[.pointer (some ⟨p,0,none⟩)] w fun e w'=>e=.returned (.bool x.busy)∧Below w.heap.size w w':=by
 have c:=within_live p x w h
 clear h
 obtain ⟨b,hb⟩:∃ b,x.busy=b:=⟨_,rfl⟩
 rw [hb]at c ⊢
 have C:=hid c
 clear c hb
 cases b
 ·go_enter Tryz.func167,Tryz.ntmps167
  go_wp2_with (go_at_call 86;refine C.out.mono ?_;rintro e w1 ⟨rfl,hb1⟩;have B1:=hid hb1;clear hb1)
  go_ret
  exact ⟨by simp,B1.out⟩
 ·go_enter Tryz.func167,Tryz.ntmps167
  go_wp2_with (go_at_call 86;refine C.out.mono ?_;rintro e w1 ⟨rfl,hb1⟩;have B1:=hid hb1;clear hb1)
  go_ret
  exact ⟨by simp,B1.out⟩
end
section
open Go.RowKit Go.Maps
open Dsk (gt hid undrew keep_old keep_cell lt_cell DS DiskP Sec)
open Cch (CS CP Fr)
end
section
open Go.RowKit Go.Maps
open Dsk (gt hid undrew keep_old keep_cell lt_cell DS DiskP Sec op_at)
open Cch (CS CP Fr wpAnyK wpAnyK_take wpAnyK_pure wpAnyK_ready wpAnyK_done wp_region_K AllReadyK.cons AllReadyK.nil)
theorem put_range(p:Nat)(x:PC)(z:Int)(v:Value)(w:World)(h:PgAt w p x)(hb:x.busy=true)(hz:(decide (1≤z)&&decide (z≤(x.np:Int)))=false):Calls Tryz.prog 113 #[.pointer (some ⟨p,0,none⟩),.int .i64 z,v] w fun e w'=>e=.returned (.int .i64 11)∧Below w.heap.size w w':=by
 have cw:=within_live p x w h
 rw [hb]at cw
 have CW:=hid cw
 have CH:=hid (fun W (hW:Below w.heap.size w W)=>by have:=has_any p x z W (h.later hW);rw [hz]at this;exact this)
 clear cw h hb hz
 go_enter Tryz.func113,Tryz.ntmps113
 go_wp2_with (first
  | (go_at_call 86;refine CW.out.mono ?_;rintro e w1 ⟨rfl,hb1⟩;have B1:=hid hb1;clear hb1)
  | (go_at_call 172;refine (CH.out w1 B1.out).mono ?_;rintro e w2 ⟨rfl,hb2⟩;have B2:=hid hb2;clear hb2))
 go_ret
 exact ⟨rfl,gt B1.out B2.out⟩
theorem begin_state(p:Nat)(x:PC)(w:World)(h:PgAt w p x)(hb:x.busy=true):Calls Tryz.prog 51 #[.pointer (some ⟨p,0,none⟩)] w fun e w'=>e=.returned (.int .i64 6)∧Below w.heap.size w w':=by
 have CW:=hid (fault_any p true 0 w h.fate)
 have H:=hid h;have HB:=hid hb
 clear h hb
 go_enter Tryz.func51,Tryz.ntmps51
 go_wp2_with (go_at_call 65;refine CW.out.mono ?_;rintro e w1 ⟨rfl,hb1⟩;have B1:=hid hb1;obtain ⟨a0,a1,a2,a3,a4,a5,a6,a7,a8,a9,a10,a11⟩:=(H.out.later hb1).cells;rw [HB.out]at a5;clear hb1)
 go_ret
 exact ⟨rfl,B1.out⟩
end
end Go.Proofs.YtfcikkechphmaaaGreatDoor
