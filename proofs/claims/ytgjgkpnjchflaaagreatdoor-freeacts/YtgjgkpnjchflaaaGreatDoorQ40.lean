/- What is done to both heaps: Take; no statement of the seat is proved here. -/
import Derived.Test.YtgjgkpnjchflaaaGreatDoorQ39
set_option maxHeartbeats 16000000
set_option maxRecDepth 20000
namespace Go.Proofs.YtgjgkpnjchflaaaGreatDoor
section
open Go.RowKit Go.Maps
open Dsk (gt hid undrew keep_old keep_cell lt_cell Rd op_at)
open Cch (Fr)
def AR(K:Nat)(O:Nat→Prop)(w:World)(hb p q hm M:Nat)(e:Ending)(W':World):Prop:=∃ (ao:Option Addr) (n c:Nat) (l:List Nat) (tr:List (Nat×List Nat)) (N:Nat) (wd:List Int),e=.returned (.tuple #[.slice ao n c,.bool true])∧FA K O w hb p q hm ao n c l tr N (wsOf wd) tr N wd W'∧Parted l tr N∧N+(flat tr).length≤M∧∀ z∈wd,-9223372036854775808≤z∧z≤9223372036854775807
def boxA(k I x:Int):Obj:=.cells #[.int .i64 k,.int .i64 I,.int .i64 x] 35
theorem boxA_cells{W:World}{k I x:Int}:(W.alloc (boxA k I x)).cell? ⟨W.heap.size,0,none⟩=some (.int .i64 k)∧(W.alloc (boxA k I x)).cell? ⟨W.heap.size,1,none⟩=some (.int .i64 I)∧(W.alloc (boxA k I x)).cell? ⟨W.heap.size,2,none⟩=some (.int .i64 x):=by
 have e:(W.alloc (boxA k I x)).heap[W.heap.size]? = some (.cells #[.int .i64 k,.int .i64 I,.int .i64 x] 35 (0,0)):=heap_alloc_new _ _
 exact ⟨(cell_of e).trans rfl,(cell_of e).trans rfl,(cell_of e).trans rfl⟩
theorem took_le(N:Nat)(tr:List (Nat×List Nat)):takeN N tr+(flat (takeT tr)).length≤N+(flat tr).length+1:=by
 match tr with
 | []=>simp [takeN,takeT,flat]
 | x::r=>
  have:=(takeT_perm N x r).length_eq
  simp only [List.length_cons]at this
  show N+_≤_
  omega
section
variable {K:Nat} {O:Nat→Prop} {w W W':World} {hb p q hm:Nat} {ao:Option Addr} {n c N:Nat} {l ws:List Nat} {tr:List (Nat×List Nat)} {wd:List Int}
theorem act_take(I x:Int)(h:FA K O w hb p q hm ao n c l tr N (wsOf wd) tr N wd W)(hP:Parted l tr N)(hN:N≤1000)(hK:K+20000≤490000)(hwd:∀ z∈wd,-9223372036854775808≤z∧z≤9223372036854775807) :
  Calls Tryz.prog 9 #[.pointer (some ⟨hb,0,none⟩),.pointer (some ⟨hm,0,none⟩),.slice ao n c,.agg #[.int .i64 0,.int .i64 I,.int .i64 x]] W (AR (K+3+4*(flat tr).length+3) O w hb p q hm (N+(flat tr).length+1)):=by
 obtain ⟨W0,hW0⟩:∃ W0,W0=W.alloc (boxA 0 I x):=⟨_,rfl⟩
 have B0:=hid (show Below W.heap.size W W0 by rw [hW0];exact Below.alloc (Below.refl _ _) (Nat.le_refl _) _)
 have hcl:=boxA_cells (W:=W) (k:=0) (I:=I) (x:=x)
 rw [←hW0]at hcl
 have CL:=hid hcl
 have A0:=hid (h.enter (g:=W.heap.size) B0.out (Nat.le_refl _) (lt_cell hcl.1))
 have hcnt:=hP.cnt
 have hln:=h.len
 have hfl:=flat_len tr
 have CT:=hid (A0.out.prg (f:=15) (args:=#[.pointer (some ⟨hb,0,none⟩)]) (K':=K+6+(flat tr).length) (N':=takeN N tr) (tr':=takeT tr) (ws':=wsOf wd) (v:=.tuple #[.int .i64 ((takeV N tr:Nat):Int),.int .i64 0]) (fun R t hs hl=>by have:=take_any hs (by omega) (by omega);rw [hl]at this;exact this))
 have LV:=hid h.leaves
 have hn1:n≤1000:=by omega
 obtain ⟨V,hV⟩:∃ V,V=takeV N tr:=⟨_,rfl⟩
 rw [←hV]at CT
 have HV:=hid hV;have HP:=hid hP;have HW0:=hid hW0;have HK:=hid h.k;have HR:=hid h.range;have HWD:=hid hwd;have HLN:=hid hln
 clear hP hV hW0 hcl h hwd hln
 unfold boxA at HW0
 go_enter Tryz.func9,Tryz.ntmps9
 go_wp2_with (first
  | (go_at_call 15;rw [←HW0.out];refine CT.out.mono ?_;rintro e w1 ⟨rfl,hA1⟩;have A1:=hid hA1;have R1:=hid (show (w1.alloc (.cells #[] 3)).ownsRow 0 3 1 (.slice (some ⟨w1.heap.size,0,none⟩) 0 0) 0 [] from rr_base (World.ownsRow_made w1 #[] 0 (Nat.le_refl _) (by decide) rfl) (Nat.zero_le _));have B1:=hid (show Below w1.heap.size w1 (w1.alloc (.cells #[] 3)) from Below.alloc (Below.refl _ _) (Nat.le_refl _) _);clear hA1)
  | ((with_reducible refine Dsk.here_op 29 ?_);refine Cch.wpList_app rfl (.tmp 27) (.tmp 28) el41 rfl (.slice (some ⟨w1.heap.size,0,none⟩) 0 0) 0 [] rfl R1.out ao n c (zI l) rfl (src_below A1.out.row B1.out) (by omega) ?_;simp only [Nat.zero_add,List.nil_append];intro a2 c2 w2 ho2 hg2 ha2;have B2:=hid (blw_grown B1.out hg2 (Nat.le_refl _));have N2:=hid (new_blk (n:=n) (c:=c2) (v:=.slice (some ⟨w1.heap.size,0,none⟩) 0 0) B1.out (fun k e=>by cases e;exact Nat.le_refl _) ha2);have BA:=hid (show Below w2.heap.size w2 (w2.alloc (.cells #[.int .i64 (V:Int)] 3)) from Below.alloc (Below.refl _ _) (Nat.le_refl _) _);have R2:=hid (rr_fr ho2 (Fr.of_below (S:=fun _=>False) BA.out) (fun _ _ h=>h));have SR:=hid (lit_src w2 [.int .i64 (V:Int)] 3 (by intro y hy;simp at hy;subst hy;rfl));clear ho2 hg2 ha2)
  | ((with_reducible refine Dsk.here_op 32 ?_);refine Cch.wpList_app rfl (.tmp 29) (.tmp 31) el41 rfl (.slice a2 n c2) n _ rfl R2.out (some ⟨w2.heap.size,0,none⟩) 1 1 [.int .i64 (V:Int)] rfl SR.out (by omega) ?_;intro a3 c3 w3 ho3 hg3 ha3;have B3:=hid (blw_grown2 (gt B2.out BA.out) hg3 N2.out);have A3:=hid (A1.out.other (l':=l++[V]) B3.out (by rw [zI_append];exact ho3) (new_blk (gt B2.out BA.out) N2.out ha3));have CR:=hid (A3.out.ref (f:=27) (fun S hs=>mtake_any hs (by omega) (by omega) (fun y hy=>Nat.le_trans (LV.out y hy) (by omega))));rw [←HV.out]at CR;clear ho3 hg3 ha3)
  | (go_at_call 27;refine CR.out.mono ?_;rintro e w4 ⟨rfl,hA4⟩;have A4:=hid hA4;clear hA4))
 go_ret2
 refine ⟨a3,n+1,c3,l++[V],takeT tr,takeN N tr,wd,rfl,(A4.out.leave (HK.out.below B0.out)).up (by omega),?_,took_le N tr,HWD.out⟩
 rw [HV.out]
 exact HP.out.took HR.out
end
end
end Go.Proofs.YtgjgkpnjchflaaaGreatDoor
