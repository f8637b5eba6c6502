/- A loop over a function that tells two values a round; cursors; no statement of the seat is proved here. -/
import Derived.Test.YtfcikkechphmaaaGreatDoorW45
import Derived.Test.YtfcikkechphmaaaGreatDoorW43
set_option maxHeartbeats 16000000
set_option maxRecDepth 20000
namespace Go.Proofs.YtfcikkechphmaaaGreatDoor
namespace Wlk
open Go.RowKit Go.Maps
open Dsk (gt hid undrew keep_old keep_cell lt_cell)
open Cch (Fr TwoKept RPost Rec put_other)
open Cel (ext1)
open Tre (TZ Bd)
section
variable {n:Nat} {P:Program} {g:Operand} {ps:Array Tmp} {assign body:Code} {Q:Exit→Act→World→Prop} {a:Act} {w:World}
theorem range_pair{α:Type}(enc:α→Array Value)(henc:∀ x,(enc x).size=2){gf:Nat}{lb:Array Value}(hg:a.eval g=.func (.func gf) #[] lb)(eg:∀ args w,(callFunc gf args).run P w=.ok (.enter gf args) w)
  (hps:ps.size=2) (I:Nat→World→Prop) (M:Nat→α→World→Prop) (Dn:Nat→Prop) (X:Code→World→Prop)
  (hI:∀ k W l o o',w.heap.size≤l→l≤w.heap.size+1→W.heap[l]? = some o→o.isCells=false→I k W→I k (W.putObj l o'))
  (hM:∀ k v W l o o',w.heap.size≤l→l≤w.heap.size+1→W.heap[l]? = some o→o.isCells=false→M k v W→M k v (W.putObj l o'))
  (hX:∀ c W l o o',w.heap.size≤l→l≤w.heap.size+1→W.heap[l]? = some o→o.isCells=false→X c W→X c (W.putObj l o'))
  (h0:∀ W,Below w.heap.size w W→w.heap.size+2≤W.heap.size→I 0 W)
  (hseq:∀ (l:Nat) (J:Nat→World→Prop) (L:Nat→α→World→Prop) (Jx:World→Prop) (W:World),w.heap.size≤l→(∀ k W,J k W→I k W)→(∀ k W W',J k W→I k W'→TwoKept w.heap.size W W'→J k W') →
   (∀ k W W' v,J k W→M k v W'→TwoKept w.heap.size W W'→L k v W') →
   (∀ k v W,L k v W→YieldAt Fence.wide (n - 1 - 1) P l (enc v) W fun e W'=>(e=.returned (.bool true)∧J (k+1) W')∨(e=.returned (.bool false)∧Jx W'))→J 0 W →
   CallsIn Fence.wide (n - 1) P gf (#[.func (.yield l) #[] #[]]++lb) W fun e W'=>(∃ v,e=.returned v)∧((∃ k,Dn k∧J k W')∨Jx W'))
  (a₁:α→Act)
  (hassign:∀ (l:Nat) (v:α) (W:World) (K:Act→World→Prop),K (a₁ v) W →
   assign.wpIn (Fence.wide.inRound l) (n - 1 - 1) P (Exit.then K (fun _ _ _=>False)) { tmps:=(ps.zip (enc v)).foldl (fun t (p,v)=>t.setIfInBounds p v) a.tmps,defers:=[] } W)
  (hbody:∀ (l k:Nat) (v:α) (W:World),M k v W→Cch.Mark w.heap.size W→Rec w.heap.size W→body.wpIn (Fence.wide.inRound l) (n - 1 - 1) P (RPost w.heap.size (I (k+1)) X W) (a₁ v) W)
  (hdone:∀ k W,Dn k→I k W→Cch.Mark w.heap.size W→Q .normal { a with defers:={ target:=.collected w.heap.size,args:=#[] }::a.defers } W)
  (hstop:∀ c W,X c W→Cch.Mark w.heap.size W→c.wpIn Fence.wide n P Q { a with defers:={ target:=.collected w.heap.size,args:=#[] }::a.defers } W) :
  (Code.rangeFunc g ps assign body).wpIn Fence.wide n P Q a w:=by
 refine wpIn_rangeFunc fun fn hfn=>?_
 rw [show Fence.wide.round=none from rfl]
 obtain ⟨rc,hrc⟩:∃ rc:LoopState→Option Code→Loop,∀ st pe,rc st pe = { state:=st,pending:=pe,fn:=fn,tmps:=a.tmps,params:=ps,assign:=assign,body:=body,defers:=w.heap.size }:=⟨_,fun _ _=>rfl⟩
 have hst:∀ st pe,(rc st pe).state=st:=fun st pe=>by rw [hrc]
 have hpe:∀ st pe,(rc st pe).pending=pe:=fun st pe=>by rw [hrc]
 have hpa:∀ st pe,(rc st pe).params=ps:=fun st pe=>by rw [hrc]
 have hbusy:∀ st pe st',({ rc st pe with state:=st' }:Loop)=rc st' pe:=fun st pe st'=>by rw [hrc,hrc]
 have hboth:∀ st pe st' pe',({ rc st pe with state:=st',pending:=pe' }:Loop)=rc st' pe':=fun st pe st' pe'=>by rw [hrc,hrc]
 have hyield:∀ (W:World) (v:α),W.heap[w.heap.size+1]? = some (.loop (rc .ready none))→(Instr.yield (w.heap.size+1) (enc v)).run P W=.ok (.round (w.heap.size+1) fn ((ps.zip (enc v)).foldl (fun t (p,v)=>t.setIfInBounds p v) a.tmps) assign body) W:=fun W v h=>by
  have:=run_yield (P:=P) (args:=enc v) h (by rw [hpa,hps,henc])
  rw [hrc]at this;exact this
 obtain ⟨W1,hW1⟩:∃ W1,W1=(w.alloc (.deferred (some []))).alloc (.loop (rc .ready none)):=⟨_,rfl⟩
 have hrec1:W1.heap[w.heap.size+1]? = some (.loop (rc .ready none)):=by
  have:=World.alloc_heap_new (w.alloc (.deferred (some []))) (.loop (rc .ready none))
  rw [World.size_alloc]at this;rw [hW1];exact this
 have hmark1:Cch.Mark w.heap.size W1:=by
  show W1.heap[w.heap.size]? = _
  rw [hW1];exact (Below.heap_alloc _ _ _ (by simp)).trans (World.alloc_heap_new w _)
 have hI1:I 0 W1:=h0 W1 (by rw [hW1];exact ((Below.refl _ w).alloc (Nat.le_refl _) _).alloc (by simp) _) (by rw [hW1];simp)
 have hcall:=hseq (w.heap.size+1) (fun k W=>I k W∧W.heap[w.heap.size+1]? = some (.loop (rc .ready none))∧Cch.Mark w.heap.size W)
  (fun k v W=>M k v W∧W.heap[w.heap.size+1]? = some (.loop (rc .ready none))∧Cch.Mark w.heap.size W)
  (fun W=>∃ c,X c W∧W.heap[w.heap.size+1]? = some (.loop (rc .done (some c)))∧Cch.Mark w.heap.size W) W1 (by omega) (fun k W h=>h.1) (fun k W W' hj hi ht=>⟨hi,ht.l.trans hj.2.1,ht.d.trans hj.2.2⟩) (fun k W W' v hj hm ht=>⟨hm,ht.l.trans hj.2.1,ht.d.trans hj.2.2⟩) ?_ ⟨hI1,hrec1,hmark1⟩
 ·refine ⟨w.heap.size+1,[{ target:=.collected w.heap.size,args:=#[] }],W1,{ target:=.fn (.func gf) lb,args:=#[.func (.yield (w.heap.size+1)) #[] #[]] },W1,gf,
   #[.func (.yield (w.heap.size+1)) #[] #[]]++lb,W1,by rw [hW1,hrc];exact run_enterLoop_outer _ _ _ _ _,?_,?_,?_,?_,?_⟩
  ·simp only [resolve,hg];simp [go_sem]
  ·exact fun _ _=>trivial
  ·simp [invoke,go_sem,eg]
  ·intro h;cases h
  ·refine hcall.mono ?_
   rintro e W2 ⟨⟨v,rfl⟩,⟨k,hd,hi,hl,hm⟩ | ⟨c,hx,hl,hm⟩⟩
   ·refine ⟨none,_,by have:=run_endLoop (P:=P) hl (by rw [hst];simp);rw [hpe]at this;exact this,hdone k _ hd (hI _ _ _ _ _ (by omega) (Nat.le_refl _) hl rfl hi) ((put_other (by omega)).trans hm)⟩
   ·exact ⟨some c,_,by have:=run_endLoop (P:=P) hl (by rw [hst];simp);rw [hpe]at this;exact this,hstop _ _ (hX _ _ _ _ _ (by omega) (Nat.le_refl _) hl rfl hx) ((put_other (by omega)).trans hm)⟩
 ·rintro k v W ⟨hi,hl,hm⟩
  have hlt:w.heap.size+1<W.heap.size:=(Array.getElem?_eq_some_iff.1 hl).1
  refine ⟨fn,_,assign,body,hyield W v hl,roundIn_of_wpIn hfn (hassign _ v W _ ?_)⟩
  refine ⟨_,run_beginRound hl (hst _ _),?_⟩
  rw [hbusy]
  have hl2:=World.putObj_heap_same (w:=W) (h:=hlt) (o:=.loop (rc .busy none))
  obtain ⟨V,hV⟩:∃ V,V=W.putObj (w.heap.size+1) (.loop (rc .busy none)):=⟨_,rfl⟩
  rw [←hV]at hl2 ⊢
  have hiV:M k v V:=hV▸hM _ _ _ _ _ _ (by omega) (Nat.le_refl _) hl rfl hi
  have hmV:Cch.Mark w.heap.size V:=by show V.heap[w.heap.size]? = _;rw [hV];exact (put_other (by omega)).trans hm
  refine wpIn_mono (hbody _ k v V hiV hmV ⟨_,hl2⟩) ?_
  have key:∀ (jump:Option Code) (V':World),TwoKept w.heap.size V V'→V'.heap[w.heap.size+1]? = some (.loop (rc .busy none))∧Cch.Mark w.heap.size V':=fun jump V' hk2=>⟨hk2.l.trans hl2,hk2.d.trans hmV⟩
  have hsame:∀ {V':World} {o o':Obj},V'.heap[w.heap.size+1]? = some o→(V'.putObj (w.heap.size+1) o').heap[w.heap.size+1]? = some o':=fun h=>World.putObj_heap_same (Array.getElem?_eq_some_iff.1 h).1
  intro e a3 V' hp
  cases e with
  | normal=>
   obtain ⟨h1,h2⟩:=key none V' hp.1
   exact ⟨_,_,by have:=run_endRound (P:=P) none h1;rw [hboth]at this;exact this,Or.inl ⟨rfl,hI _ _ _ _ _ (by omega) (Nat.le_refl _) h1 rfl hp.2,hsame h1,(put_other (by omega)).trans h2⟩⟩
  | ret=>
   obtain ⟨h1,h2⟩:=key none V' hp.1
   exact ⟨_,_,by have:=run_endRound (P:=P) (some .ret) h1;rw [hboth]at this;exact this,Or.inr ⟨rfl,_,hX _ _ _ _ _ (by omega) (Nat.le_refl _) h1 rfl hp.2,hsame h1,(put_other (by omega)).trans h2⟩⟩
  | exit id=>
   obtain ⟨h1,h2⟩:=key none V' hp.1
   exact ⟨_,_,by have:=run_endRound (P:=P) (some (.exit id)) h1;rw [hboth]at this;exact this,Or.inr ⟨rfl,_,hX _ _ _ _ _ (by omega) (Nat.le_refl _) h1 rfl hp.2,hsame h1,(put_other (by omega)).trans h2⟩⟩
  | goto t=>
   obtain ⟨h1,h2⟩:=key none V' hp.1
   exact ⟨_,_,by have:=run_endRound (P:=P) (some (.goto t)) h1;rw [hboth]at this;exact this,Or.inr ⟨rfl,_,hX _ _ _ _ _ (by omega) (Nat.le_refl _) h1 rfl hp.2,hsame h1,(put_other (by omega)).trans h2⟩⟩
  | panic ch=>exact hp.elim
  | outgrown=>exact hp.elim
end
def CurAt(w:World)(c:Nat)(t:Value)(k:Int)(at_:Bool):Prop:=w.heap[c]? = some (.cells #[t,.int .i64 k,.bool at_] 92 (0,0))
variable {b:Bool} {k:Int} {t:Value} {c:Nat} {w:World}
theorem CurAt.cells(h:CurAt w c t k b):w.cell? ⟨c,0,none⟩=some t∧w.cell? ⟨c,1,none⟩=some (.int .i64 k)∧w.cell? ⟨c,2,none⟩=some (.bool b):=by unfold CurAt at h;simp [World.cell?,h]
theorem CurAt.fz(h:CurAt w c t k b)(i:Nat):w.frozen? ⟨c,i,none⟩=false:=by unfold CurAt at h;simp [World.frozen?,h]
theorem CurAt.lt(h:CurAt w c t k b):c<w.heap.size:=(Array.getElem?_eq_some_iff.1 h).1
theorem CurAt.keep{w':World}(h:CurAt w c t k b)(hb:Below w.heap.size w w'):CurAt w' c t k b:=(hb.block c h.lt).trans h
theorem CurAt.new(w:World)(t:Value)(k:Int)(b:Bool):CurAt (w.alloc (.cells #[t,.int .i64 k,.bool b] 92)) w.heap.size t k b:=heap_alloc_new w _
def moved(w:World)(c:Nat)(k:Int)(b:Bool):World:=(w.setCell ⟨c,1,none⟩ (.int .i64 k)).setCell ⟨c,2,none⟩ (.bool b)
theorem CurAt.moved(h:CurAt w c t k b)(k':Int)(b':Bool):CurAt (moved w c k' b') c t k' b':=by
 have h1:=heap_setCell_same w c 1 #[t,.int .i64 k,.bool b] 92 (.int .i64 k') h
 have h2:=heap_setCell_same _ c 2 _ 92 (.bool b') h1
 unfold CurAt Wlk.moved;rw [h2];rfl
theorem moved_fr(w:World)(c:Nat)(k:Int)(b:Bool):Fr (fun i=>i=c) w (moved w c k b):=⟨rfl,rfl,rfl,by simp [moved],fun i _ hi=>(heap_setCell_other _ _ _ _ hi).trans (heap_setCell_other _ _ _ _ hi)⟩
theorem move_nil(k:Int)(fv:Value)(w:World):Calls Tryz.prog 100 #[.pointer none,.int .i64 k,fv] w fun e w'=>e=.returned (.tuple #[.bool false,.int .i64 1])∧w'=w:=by
 go_enter Tryz.func100,Tryz.ntmps100
 go_wp2
 go_ret2
 exact ⟨rfl,rfl⟩
theorem fault_nil(w:World):Calls Tryz.prog 90 #[.pointer none] w fun e w'=>e=.returned (.int .i64 1)∧w'=w:=by
 go_enter Tryz.func90,Tryz.ntmps90
 go_wp2
 go_ret
 exact ⟨rfl,rfl⟩
theorem Key_nil(w:World):Calls Tryz.prog 43 #[.pointer none] w fun e w'=>e=.returned (.tuple #[.int .i64 0,.bool false])∧w'=w:=by
 go_enter Tryz.func43,Tryz.ntmps43
 go_wp2
 go_ret2
 exact ⟨rfl,rfl⟩
theorem outmost_nil(k j:Int)(fv gv:Value)(w:World):Calls Tryz.prog 96 #[.pointer none,.int .i64 k,fv,.int .i64 j,gv] w fun e w'=>e=.returned (.tuple #[.bool false,.int .i64 1])∧w'=w:=by
 go_enter Tryz.func96,Tryz.ntmps96
 go_wp2_with (go_at_call 100;refine (move_nil _ _ _).mono ?_;rintro e w1 ⟨rfl,h1⟩;obtain rfl:=h1.symm;clear h1)
 go_ret2
 exact ⟨rfl,rfl⟩
theorem First_nil(w:World):Calls Tryz.prog 41 #[.pointer none] w fun e w'=>e=.returned (.tuple #[.bool false,.int .i64 1])∧w'=w:=by
 go_enter Tryz.func41,Tryz.ntmps41
 go_wp2_with (go_at_call 96;refine (outmost_nil _ _ _ _ _).mono ?_;rintro e w1 ⟨rfl,h1⟩;obtain rfl:=h1.symm;clear h1)
 go_ret2
 exact ⟨rfl,rfl⟩
theorem Last_nil(w:World):Calls Tryz.prog 45 #[.pointer none] w fun e w'=>e=.returned (.tuple #[.bool false,.int .i64 1])∧w'=w:=by
 go_enter Tryz.func45,Tryz.ntmps45
 go_wp2_with (go_at_call 96;refine (outmost_nil _ _ _ _ _).mono ?_;rintro e w1 ⟨rfl,h1⟩;obtain rfl:=h1.symm;clear h1)
 go_ret2
 exact ⟨rfl,rfl⟩
theorem Seek_nil(k:Int)(w:World):Calls Tryz.prog 47 #[.pointer none,.int .i64 k] w fun e w'=>e=.returned (.tuple #[.bool false,.int .i64 1])∧w'=w:=by
 by_cases hk:k = -9223372036854775808
 ·have n1:(k == -9223372036854775808)=true:=by simp [hk]
  clear hk
  go_enter Tryz.func47,Tryz.ntmps47
  go_wp2_with (go_at_call 41;refine (First_nil _).mono ?_;rintro e w1 ⟨rfl,h1⟩;obtain rfl:=h1.symm;clear h1)
  go_ret2
  exact ⟨rfl,rfl⟩
 ·have n1:(k == -9223372036854775808)=false:=by simp [hk]
  clear hk
  go_enter Tryz.func47,Tryz.ntmps47
  go_wp2_with (go_at_call 100;refine (move_nil _ _ _).mono ?_;rintro e w1 ⟨rfl,h1⟩;obtain rfl:=h1.symm;clear h1)
  go_ret2
  exact ⟨rfl,rfl⟩
theorem goOn_nil(fv:Value)(w:World):Calls Tryz.prog 97 #[.pointer none,fv] w fun e w'=>e=.returned (.tuple #[.bool false,.int .i64 1])∧w'=w:=by
 go_enter Tryz.func97,Tryz.ntmps97
 go_wp2_with (first
  | (go_at_call 43;refine (Key_nil _).mono ?_;rintro e w1 ⟨rfl,h1⟩;obtain rfl:=h1.symm;clear h1)
  | (go_at_call 90;refine (fault_nil _).mono ?_;rintro e w1 ⟨rfl,h1⟩;obtain rfl:=h1.symm;clear h1))
 go_ret2
 exact ⟨rfl,rfl⟩
theorem Next_nil(w:World):Calls Tryz.prog 42 #[.pointer none] w fun e w'=>e=.returned (.tuple #[.bool false,.int .i64 1])∧w'=w:=by
 go_enter Tryz.func42,Tryz.ntmps42
 go_wp2_with (go_at_call 97;refine (goOn_nil _ _).mono ?_;rintro e w1 ⟨rfl,h1⟩;obtain rfl:=h1.symm;clear h1)
 go_ret2
 exact ⟨rfl,rfl⟩
theorem Prev_nil(w:World):Calls Tryz.prog 46 #[.pointer none] w fun e w'=>e=.returned (.tuple #[.bool false,.int .i64 1])∧w'=w:=by
 go_enter Tryz.func46,Tryz.ntmps46
 go_wp2_with (go_at_call 97;refine (goOn_nil _ _).mono ?_;rintro e w1 ⟨rfl,h1⟩;obtain rfl:=h1.symm;clear h1)
 go_ret2
 exact ⟨rfl,rfl⟩
theorem lost_nil(w:World):Calls Tryz.prog 98 #[.pointer none] w fun e w'=>e=.returned (.int .i64 1)∧w'=w:=by
 go_enter Tryz.func98,Tryz.ntmps98
 go_wp2_with (go_at_call 90;refine (fault_nil _).mono ?_;rintro e w1 ⟨rfl,h1⟩;obtain rfl:=h1.symm;clear h1)
 go_ret
 exact ⟨rfl,rfl⟩
end Wlk
namespace Wlk
open Go.RowKit Go.Maps
open Dsk (gt hid undrew keep_old keep_cell lt_cell)
open Cch (Fr)
open Cel (ext1)
open Tre (TZ Bd)
def Mv(Q:World→Prop)(c:Nat)(k:Int)(b:Bool)(w':World):Prop:=∃ w1,Q w1∧w'=moved w1 c k b
variable {b0:Bool} {k0:Int} {t:Value} {c:Nat}
theorem move_28(j:Int){k:Int}{b:Bool}{e:Int}{Q:World→Prop}(w:World)(hC:CurAt w c t k0 b0)(hQ:∀ W,Q W→CurAt W c t k0 b0)
  (hc:Calls Tryz.prog 28 #[t,.int .i64 j] w fun x w'=>x=.returned (.tuple #[.int .i64 k,.bool b,.int .i64 e])∧Q w') :
  Calls Tryz.prog 100 #[.pointer (some ⟨c,0,none⟩),.int .i64 j,.func (.func 28) #[] #[]] w fun x w'=>x=.returned (.tuple #[.bool b,.int .i64 e])∧Mv Q c k b w':=by
 obtain ⟨z0,z1,z2⟩:=hC.cells
 have HC:=hid hc;have HQ:=hid hQ
 clear hc hQ hC
 go_enter Tryz.func100,Tryz.ntmps100
 go_upto_region 4 with (go_at_call 28;refine HC.out.mono ?_;rintro x w1 ⟨rfl,hq⟩;have Q1:=hid hq;clear z0 z1 z2;obtain ⟨z0,z1,z2⟩:=(HQ.out w1 hq).cells;have f1:=(HQ.out w1 hq).fz 1;have f2:=(HQ.out w1 hq).fz 2;clear hq)
 go_wp2
 go_ret2
 exact ⟨rfl,w1,Q1.out,rfl⟩
theorem move_29(j:Int){k:Int}{b:Bool}{e:Int}{Q:World→Prop}(w:World)(hC:CurAt w c t k0 b0)(hQ:∀ W,Q W→CurAt W c t k0 b0)
  (hc:Calls Tryz.prog 29 #[t,.int .i64 j] w fun x w'=>x=.returned (.tuple #[.int .i64 k,.bool b,.int .i64 e])∧Q w') :
  Calls Tryz.prog 100 #[.pointer (some ⟨c,0,none⟩),.int .i64 j,.func (.func 29) #[] #[]] w fun x w'=>x=.returned (.tuple #[.bool b,.int .i64 e])∧Mv Q c k b w':=by
 obtain ⟨z0,z1,z2⟩:=hC.cells
 have HC:=hid hc;have HQ:=hid hQ
 clear hc hQ hC
 go_enter Tryz.func100,Tryz.ntmps100
 go_upto_region 4 with (go_at_call 29;refine HC.out.mono ?_;rintro x w1 ⟨rfl,hq⟩;have Q1:=hid hq;clear z0 z1 z2;obtain ⟨z0,z1,z2⟩:=(HQ.out w1 hq).cells;have f1:=(HQ.out w1 hq).fz 1;have f2:=(HQ.out w1 hq).fz 2;clear hq)
 go_wp2
 go_ret2
 exact ⟨rfl,w1,Q1.out,rfl⟩
theorem Key_at(w:World)(hC:CurAt w c t k0 true):Calls Tryz.prog 43 #[.pointer (some ⟨c,0,none⟩)] w fun x w'=>x=.returned (.tuple #[.int .i64 k0,.bool true])∧w'=w:=by
 obtain ⟨z0,z1,z2⟩:=hC.cells
 clear hC
 go_enter Tryz.func43,Tryz.ntmps43
 go_wp2
 go_ret2
 exact ⟨rfl,rfl⟩
theorem Key_off(w:World)(hC:CurAt w c t k0 false):Calls Tryz.prog 43 #[.pointer (some ⟨c,0,none⟩)] w fun x w'=>x=.returned (.tuple #[.int .i64 0,.bool false])∧w'=w:=by
 obtain ⟨z0,z1,z2⟩:=hC.cells
 clear hC
 go_enter Tryz.func43,Tryz.ntmps43
 go_wp2
 go_ret2
 exact ⟨rfl,rfl⟩
theorem fault_at(r:Int)(w:World)(hC:CurAt w c t k0 b0)(hr:Calls Tryz.prog 15 #[t] w fun x w'=>x=.returned (.int .i64 r)∧w'=w) :
  Calls Tryz.prog 90 #[.pointer (some ⟨c,0,none⟩)] w fun x w'=>x=.returned (.int .i64 (if r=0 then 1 else 0))∧w'=w:=by
 obtain ⟨z0,z1,z2⟩:=hC.cells
 have HR:=hid hr
 clear hr hC
 by_cases h0:r=0
 ·subst h0
  go_enter Tryz.func90,Tryz.ntmps90
  go_wp2_with (go_at_call 15;refine HR.out.mono ?_;rintro x w1 ⟨rfl,h1⟩;obtain rfl:=h1.symm;clear h1)
  go_ret
  exact ⟨rfl,rfl⟩
 ·rw [if_neg h0]
  have n1:(r == 0)=false:=by simp [h0]
  clear h0
  go_enter Tryz.func90,Tryz.ntmps90
  go_wp2_with (go_at_call 15;refine HR.out.mono ?_;rintro x w1 ⟨rfl,h1⟩;obtain rfl:=h1.symm;clear h1)
  go_ret
  exact ⟨rfl,rfl⟩
theorem goOn_off_28(r:Int)(w:World)(hC:CurAt w c t k0 false)(hr:Calls Tryz.prog 15 #[t] w fun x w'=>x=.returned (.int .i64 r)∧w'=w) :
  Calls Tryz.prog 97 #[.pointer (some ⟨c,0,none⟩),.func (.func 28) #[] #[]] w fun x w'=>x=.returned (.tuple #[.bool false,.int .i64 (if r=0 then 1 else 0)])∧w'=w:=by
 have cm:=hid (fault_at r w hC hr);have ck:=hid (Key_off w hC)
 generalize (if r=0 then (1:Int) else 0)=e at cm ⊢
 clear hr hC
 go_enter Tryz.func97,Tryz.ntmps97
 go_wp2_with (first
  | (go_at_call 43;refine ck.out.mono ?_;rintro x w1 ⟨rfl,h1⟩;obtain rfl:=h1.symm;clear h1)
  | (go_at_call 90;refine cm.out.mono ?_;rintro x w1 ⟨rfl,h1⟩;obtain rfl:=h1.symm;clear h1))
 go_ret2
 exact ⟨rfl,rfl⟩
theorem Next_off(r:Int)(w:World)(hC:CurAt w c t k0 false)(hr:Calls Tryz.prog 15 #[t] w fun x w'=>x=.returned (.int .i64 r)∧w'=w) :
  Calls Tryz.prog 42 #[.pointer (some ⟨c,0,none⟩)] w fun x w'=>x=.returned (.tuple #[.bool false,.int .i64 (if r=0 then 1 else 0)])∧w'=w:=by
 have cm:=hid (goOn_off_28 r w hC hr)
 generalize (if r=0 then (1:Int) else 0)=e at cm ⊢
 clear hr hC
 go_enter Tryz.func42,Tryz.ntmps42
 go_wp2_with (go_at_call 97;refine cm.out.mono ?_;rintro x w1 ⟨rfl,h1⟩;obtain rfl:=h1.symm;clear h1)
 go_ret2
 exact ⟨rfl,rfl⟩
variable {Q:World→Prop} {e k:Int} {b:Bool}
theorem goOn_29(w:World)(hC:CurAt w c t k0 true)(hQ:∀ W,Q W→CurAt W c t k0 true)
  (hc:Calls Tryz.prog 29 #[t,.int .i64 k0] w fun x w'=>x=.returned (.tuple #[.int .i64 k,.bool b,.int .i64 e])∧Q w') :
  Calls Tryz.prog 97 #[.pointer (some ⟨c,0,none⟩),.func (.func 29) #[] #[]] w fun x w'=>x=.returned (.tuple #[.bool b,.int .i64 e])∧Mv Q c k b w':=by
 have cm:=hid (move_29 k0 w hC hQ hc);have ck:=hid (Key_at w hC)
 clear hc hQ hC
 go_enter Tryz.func97,Tryz.ntmps97
 go_wp2_with (first
  | (go_at_call 43;refine ck.out.mono ?_;rintro x w1 ⟨rfl,h1⟩;obtain rfl:=h1.symm;clear h1)
  | (go_at_call 100;refine cm.out.mono ?_;rintro x w1 ⟨rfl,hq⟩;have Q1:=hid hq;clear hq))
 go_ret2
 exact ⟨rfl,Q1.out⟩
theorem Prev_at(w:World)(hC:CurAt w c t k0 true)(hQ:∀ W,Q W→CurAt W c t k0 true)
  (hc:Calls Tryz.prog 29 #[t,.int .i64 k0] w fun x w'=>x=.returned (.tuple #[.int .i64 k,.bool b,.int .i64 e])∧Q w') :
  Calls Tryz.prog 46 #[.pointer (some ⟨c,0,none⟩)] w fun x w'=>x=.returned (.tuple #[.bool b,.int .i64 e])∧Mv Q c k b w':=by
 have cm:=hid (goOn_29 w hC hQ hc)
 clear hc hQ hC
 go_enter Tryz.func46,Tryz.ntmps46
 go_wp2_with (go_at_call 97;refine cm.out.mono ?_;rintro x w1 ⟨rfl,hq⟩;have Q1:=hid hq;clear hq)
 go_ret2
 exact ⟨rfl,Q1.out⟩
theorem goOn_off_29(r:Int)(w:World)(hC:CurAt w c t k0 false)(hr:Calls Tryz.prog 15 #[t] w fun x w'=>x=.returned (.int .i64 r)∧w'=w) :
  Calls Tryz.prog 97 #[.pointer (some ⟨c,0,none⟩),.func (.func 29) #[] #[]] w fun x w'=>x=.returned (.tuple #[.bool false,.int .i64 (if r=0 then 1 else 0)])∧w'=w:=by
 have cm:=hid (fault_at r w hC hr);have ck:=hid (Key_off w hC)
 generalize (if r=0 then (1:Int) else 0)=e at cm ⊢
 clear hr hC
 go_enter Tryz.func97,Tryz.ntmps97
 go_wp2_with (first
  | (go_at_call 43;refine ck.out.mono ?_;rintro x w1 ⟨rfl,h1⟩;obtain rfl:=h1.symm;clear h1)
  | (go_at_call 90;refine cm.out.mono ?_;rintro x w1 ⟨rfl,h1⟩;obtain rfl:=h1.symm;clear h1))
 go_ret2
 exact ⟨rfl,rfl⟩
theorem Prev_off(r:Int)(w:World)(hC:CurAt w c t k0 false)(hr:Calls Tryz.prog 15 #[t] w fun x w'=>x=.returned (.int .i64 r)∧w'=w) :
  Calls Tryz.prog 46 #[.pointer (some ⟨c,0,none⟩)] w fun x w'=>x=.returned (.tuple #[.bool false,.int .i64 (if r=0 then 1 else 0)])∧w'=w:=by
 have cm:=hid (goOn_off_29 r w hC hr)
 generalize (if r=0 then (1:Int) else 0)=e at cm ⊢
 clear hr hC
 go_enter Tryz.func46,Tryz.ntmps46
 go_wp2_with (go_at_call 97;refine cm.out.mono ?_;rintro x w1 ⟨rfl,h1⟩;obtain rfl:=h1.symm;clear h1)
 go_ret2
 exact ⟨rfl,rfl⟩
theorem lost_at(r:Int)(w:World)(hC:CurAt w c t k0 b0)(hr:Calls Tryz.prog 15 #[t] w fun x w'=>x=.returned (.int .i64 r)∧w'=w) :
  Calls Tryz.prog 98 #[.pointer (some ⟨c,0,none⟩)] w fun x w'=>x=.returned (.int .i64 (if r=0 then 1 else if b0 then 0 else 6))∧w'=w:=by
 have cm:=hid (fault_at r w hC hr)
 obtain ⟨z0,z1,z2⟩:=hC.cells
 clear hr hC
 by_cases h0:r=0
 ·rw [if_pos h0]at cm ⊢
  clear h0
  go_enter Tryz.func98,Tryz.ntmps98
  go_wp2_with (go_at_call 90;refine cm.out.mono ?_;rintro x w1 ⟨rfl,h1⟩;obtain rfl:=h1.symm;clear h1)
  go_ret
  exact ⟨rfl,rfl⟩
 ·rw [if_neg h0]at cm ⊢
  clear h0
  cases b0
  ·go_enter Tryz.func98,Tryz.ntmps98
   go_wp2_with (go_at_call 90;refine cm.out.mono ?_;rintro x w1 ⟨rfl,h1⟩;obtain rfl:=h1.symm;clear h1)
   go_ret
   exact ⟨rfl,rfl⟩
  ·go_enter Tryz.func98,Tryz.ntmps98
   go_wp2_with (go_at_call 90;refine cm.out.mono ?_;rintro x w1 ⟨rfl,h1⟩;obtain rfl:=h1.symm;clear h1)
   go_ret
   exact ⟨rfl,rfl⟩
theorem Seek_at(j:Int)(hj:j≠-9223372036854775808)(hj2:Cel.I64 j){k:Int}{b:Bool}{e:Int}{Q:World→Prop}(w:World)(hC:CurAt w c t k0 b0)(hQ:∀ W,Q W→CurAt W c t k0 b0)
  (hc:Calls Tryz.prog 28 #[t,.int .i64 (j - 1)] w fun x w'=>x=.returned (.tuple #[.int .i64 k,.bool b,.int .i64 e])∧Q w') :
  Calls Tryz.prog 47 #[.pointer (some ⟨c,0,none⟩),.int .i64 j] w fun x w'=>x=.returned (.tuple #[.bool b,.int .i64 e])∧Mv Q c k b w':=by
 have cm:=hid (move_28 (j - 1) w hC hQ hc)
 have n1:(j == -9223372036854775808)=false:=by simp [hj]
 have n2:IntKind.i64.wrap (j - 1)=j - 1:=by rw [IntKind.wrap_i64];unfold Cel.I64 at hj2;omega
 clear hc hQ hC hj hj2
 go_enter Tryz.func47,Tryz.ntmps47
 go_wp2_with (go_at_call 100;refine cm.out.mono ?_;rintro x w1 ⟨rfl,hq⟩;have Q1:=hid hq;clear hq)
 go_ret2
 exact ⟨rfl,Q1.out⟩
theorem outmost_28_end(j i:Int){k:Int}{b:Bool}{e:Int}{Q:World→Prop}(w:World)(hC:CurAt w c t k0 b0)(hQ:∀ W,Q W→CurAt W c t k0 b0)
  (hc:Calls Tryz.prog 29 #[t,.int .i64 i] w fun x w'=>x=.returned (.tuple #[.int .i64 k,.bool b,.int .i64 e])∧Q w') (hbe:b=true∨e≠0) :
  Calls Tryz.prog 96 #[.pointer (some ⟨c,0,none⟩),.int .i64 j,.func (.func 28) #[] #[],.int .i64 i,.func (.func 29) #[] #[]] w fun x w'=>x=.returned (.tuple #[.bool b,.int .i64 e])∧Mv Q c k b w':=by
 have cm:=hid (move_29 i w hC hQ hc)
 clear hc hQ hC
 rcases hbe with rfl |hbe
 ·go_enter Tryz.func96,Tryz.ntmps96
  go_wp2_with (go_at_call 100;refine cm.out.mono ?_;rintro x w1 ⟨rfl,hq⟩;have Q1:=hid hq;clear hq)
  go_ret2
  exact ⟨rfl,Q1.out⟩
 ·have n1:(e == 0)=false:=by simp [hbe]
  clear hbe
  cases b
  ·go_enter Tryz.func96,Tryz.ntmps96
   go_wp2_with (go_at_call 100;refine cm.out.mono ?_;rintro x w1 ⟨rfl,hq⟩;have Q1:=hid hq;clear hq)
   go_ret2
   exact ⟨rfl,Q1.out⟩
  ·go_enter Tryz.func96,Tryz.ntmps96
   go_wp2_with (go_at_call 100;refine cm.out.mono ?_;rintro x w1 ⟨rfl,hq⟩;have Q1:=hid hq;clear hq)
   go_ret2
   exact ⟨rfl,Q1.out⟩
theorem First_end(w:World)(hC:CurAt w c t k0 b0)(hQ:∀ W,Q W→CurAt W c t k0 b0)
  (hc:Calls Tryz.prog 29 #[t,.int .i64 (-9223372036854775807)] w fun x w'=>x=.returned (.tuple #[.int .i64 k,.bool b,.int .i64 e])∧Q w') (hbe:b=true∨e≠0) :
  Calls Tryz.prog 41 #[.pointer (some ⟨c,0,none⟩)] w fun x w'=>x=.returned (.tuple #[.bool b,.int .i64 e])∧Mv Q c k b w':=by
 have cm:=hid (outmost_28_end (-9223372036854775808) (-9223372036854775807) w hC hQ hc hbe)
 clear hc hQ hC hbe
 go_enter Tryz.func41,Tryz.ntmps41
 go_wp2_with (go_at_call 96;refine cm.out.mono ?_;rintro x w1 ⟨rfl,hq⟩;have Q1:=hid hq;clear hq)
 go_ret2
 exact ⟨rfl,Q1.out⟩
theorem outmost_29_end(j i:Int){k:Int}{b:Bool}{e:Int}{Q:World→Prop}(w:World)(hC:CurAt w c t k0 b0)(hQ:∀ W,Q W→CurAt W c t k0 b0)
  (hc:Calls Tryz.prog 28 #[t,.int .i64 i] w fun x w'=>x=.returned (.tuple #[.int .i64 k,.bool b,.int .i64 e])∧Q w') (hbe:b=true∨e≠0) :
  Calls Tryz.prog 96 #[.pointer (some ⟨c,0,none⟩),.int .i64 j,.func (.func 29) #[] #[],.int .i64 i,.func (.func 28) #[] #[]] w fun x w'=>x=.returned (.tuple #[.bool b,.int .i64 e])∧Mv Q c k b w':=by
 have cm:=hid (move_28 i w hC hQ hc)
 clear hc hQ hC
 rcases hbe with rfl |hbe
 ·go_enter Tryz.func96,Tryz.ntmps96
  go_wp2_with (go_at_call 100;refine cm.out.mono ?_;rintro x w1 ⟨rfl,hq⟩;have Q1:=hid hq;clear hq)
  go_ret2
  exact ⟨rfl,Q1.out⟩
 ·have n1:(e == 0)=false:=by simp [hbe]
  clear hbe
  cases b
  ·go_enter Tryz.func96,Tryz.ntmps96
   go_wp2_with (go_at_call 100;refine cm.out.mono ?_;rintro x w1 ⟨rfl,hq⟩;have Q1:=hid hq;clear hq)
   go_ret2
   exact ⟨rfl,Q1.out⟩
  ·go_enter Tryz.func96,Tryz.ntmps96
   go_wp2_with (go_at_call 100;refine cm.out.mono ?_;rintro x w1 ⟨rfl,hq⟩;have Q1:=hid hq;clear hq)
   go_ret2
   exact ⟨rfl,Q1.out⟩
theorem Last_end(w:World)(hC:CurAt w c t k0 b0)(hQ:∀ W,Q W→CurAt W c t k0 b0)
  (hc:Calls Tryz.prog 28 #[t,.int .i64 (9223372036854775806)] w fun x w'=>x=.returned (.tuple #[.int .i64 k,.bool b,.int .i64 e])∧Q w') (hbe:b=true∨e≠0) :
  Calls Tryz.prog 45 #[.pointer (some ⟨c,0,none⟩)] w fun x w'=>x=.returned (.tuple #[.bool b,.int .i64 e])∧Mv Q c k b w':=by
 have cm:=hid (outmost_29_end (9223372036854775807) (9223372036854775806) w hC hQ hc hbe)
 clear hc hQ hC hbe
 go_enter Tryz.func45,Tryz.ntmps45
 go_wp2_with (go_at_call 96;refine cm.out.mono ?_;rintro x w1 ⟨rfl,hq⟩;have Q1:=hid hq;clear hq)
 go_ret2
 exact ⟨rfl,Q1.out⟩
end Wlk
namespace Wlk
open Go.RowKit Go.Maps
open Dsk (gt hid undrew keep_old keep_cell lt_cell)
open Cch (Fr TwoKept RPost Rec put_other)
open Cel (ext1)
open Tre (TZ Bd)
theorem Seek_min(c:Value){b:Bool}{e:Int}{Q:World→Prop}(w:World)(hc:Calls Tryz.prog 41 #[c] w fun x w'=>x=.returned (.tuple #[.bool b,.int .i64 e])∧Q w') :
  Calls Tryz.prog 47 #[c,.int .i64 (-9223372036854775808)] w fun x w'=>x=.returned (.tuple #[.bool b,.int .i64 e])∧Q w':=by
 have HC:=hid hc
 clear hc
 go_enter Tryz.func47,Tryz.ntmps47
 go_wp2_with (go_at_call 41;refine HC.out.mono ?_;rintro x w1 ⟨rfl,hq⟩;have Q1:=hid hq;clear hq)
 go_ret2
 exact ⟨rfl,Q1.out⟩
theorem Value_lost(c:Value)(e:Int)(he:e≠0)(w:World)(hc:Calls Tryz.prog 98 #[c] w fun x w'=>x=.returned (.int .i64 e)∧w'=w) :
  Calls Tryz.prog 48 #[c] w fun x w'=>x=.returned (.tuple #[.slice none 0 0,.int .i64 e])∧w'=w:=by
 have HC:=hid hc
 have n1:(e == 0)=false:=by simp [he]
 clear hc he
 go_enter Tryz.func48,Tryz.ntmps48
 go_wp2_with (go_at_call 98;refine HC.out.mono ?_;rintro x w1 ⟨rfl,h1⟩;obtain rfl:=h1.symm;clear h1)
 go_ret2
 exact ⟨rfl,rfl⟩
theorem Delete_lost(c:Value)(e:Int)(he:e≠0)(w:World)(hc:Calls Tryz.prog 98 #[c] w fun x w'=>x=.returned (.int .i64 e)∧w'=w) :
  Calls Tryz.prog 44 #[c] w fun x w'=>x=.returned (.int .i64 e)∧w'=w:=by
 have HC:=hid hc
 have n1:(e == 0)=false:=by simp [he]
 clear hc he
 go_enter Tryz.func44,Tryz.ntmps44
 go_wp2_with (go_at_call 98;refine HC.out.mono ?_;rintro x w1 ⟨rfl,h1⟩;obtain rfl:=h1.symm;clear h1)
 go_ret
 exact ⟨rfl,rfl⟩
def CZ(c:Nat)(w:World)(v:Value):Prop:=(v=.pointer none∨v=.pointer (some ⟨c,0,none⟩))∧CurAt w c (.pointer none) 0 false
def Cd(c f:Nat)(args:Array Value)(v x:Value)(w:World):Prop:=Calls Tryz.prog f args w fun e w'=>e=.returned x∧CZ c w' v∧Fr (fun k=>k=c) w w'
variable {c:Nat} {w:World}
theorem cz_mv{W:World}(hC:CurAt w c (.pointer none) 0 false)(h:Mv (fun W=>Below w.heap.size w W) c 0 false W):CZ c W (.pointer (some ⟨c,0,none⟩))∧Fr (fun k=>k=c) w W:=by
 obtain ⟨w1,h1,rfl⟩:=h
 exact ⟨⟨Or.inr rfl,(hC.keep h1).moved 0 false⟩,(Fr.of_below h1).trans (moved_fr w1 c 0 false) (fun _ _ h=>h)⟩
variable {x:Value} {args:Array Value} {f:Nat}
theorem nil_cd(hC:CurAt w c (.pointer none) 0 false)(h:Calls Tryz.prog f args w fun e w'=>e=.returned x∧w'=w):Cd c f args (.pointer none) x w:=
 h.mono (by rintro e w' ⟨rfl,rfl⟩;exact ⟨rfl,⟨Or.inl rfl,hC⟩,Fr.refl _ _⟩)
theorem same_cd{v:Value}(hC:CZ c w v)(h:Calls Tryz.prog f args w fun e w'=>e=.returned x∧w'=w):Cd c f args v x w:=
 h.mono (by rintro e w' ⟨rfl,rfl⟩;exact ⟨rfl,hC,Fr.refl _ _⟩)
theorem First_bad(c:Nat)(v:Value)(w:World)(h:CZ c w v):Cd c 41 #[v] v (.tuple #[.bool false,.int .i64 1]) w:=by
 obtain ⟨rfl |rfl,hC⟩:=h
 ·exact nil_cd hC (First_nil w)
 ·refine (First_end w hC (fun W hW=>hC.keep hW) (Tre.Prev_bad (.pointer none) _ w (Or.inl rfl)) (Or.inr (by omega))).mono ?_
  rintro e w' ⟨rfl,h⟩
  exact ⟨rfl,cz_mv hC h⟩
theorem Last_bad(c:Nat)(v:Value)(w:World)(h:CZ c w v):Cd c 45 #[v] v (.tuple #[.bool false,.int .i64 1]) w:=by
 obtain ⟨rfl |rfl,hC⟩:=h
 ·exact nil_cd hC (Last_nil w)
 ·refine (Last_end w hC (fun W hW=>hC.keep hW) (Tre.Next_bad (.pointer none) _ w (Or.inl rfl)) (Or.inr (by omega))).mono ?_
  rintro e w' ⟨rfl,h⟩
  exact ⟨rfl,cz_mv hC h⟩
theorem Seek_bad(c:Nat)(v:Value)(k:Int)(hk:Cel.I64 k)(w:World)(h:CZ c w v):Cd c 47 #[v,.int .i64 k] v (.tuple #[.bool false,.int .i64 1]) w:=by
 by_cases hm:k = -9223372036854775808
 ·subst hm;exact Seek_min v w (First_bad c v w h)
 obtain ⟨rfl |rfl,hC⟩:=h
 ·exact nil_cd hC (Seek_nil k w)
 ·refine (Seek_at k hm hk w hC (fun W hW=>hC.keep hW) (Tre.Next_bad (.pointer none) _ w (Or.inl rfl))).mono ?_
  rintro e w' ⟨rfl,h⟩
  exact ⟨rfl,cz_mv hC h⟩
theorem Next_none(c:Nat)(v:Value)(w:World)(h:CZ c w v):Cd c 42 #[v] v (.tuple #[.bool false,.int .i64 1]) w:=by
 refine same_cd h ?_
 obtain ⟨rfl |rfl,hC⟩:=h
 ·exact Next_nil w
 ·exact Next_off 0 w hC (Tre.Root_no (Or.inl rfl))
theorem Prev_none(c:Nat)(v:Value)(w:World)(h:CZ c w v):Cd c 46 #[v] v (.tuple #[.bool false,.int .i64 1]) w:=by
 refine same_cd h ?_
 obtain ⟨rfl |rfl,hC⟩:=h
 ·exact Prev_nil w
 ·exact Prev_off 0 w hC (Tre.Root_no (Or.inl rfl))
theorem Key_none(c:Nat)(v:Value)(w:World)(h:CZ c w v):Cd c 43 #[v] v (.tuple #[.int .i64 0,.bool false]) w:=by
 refine same_cd h ?_
 obtain ⟨rfl |rfl,hC⟩:=h
 ·exact Key_nil w
 ·exact Key_off w hC
theorem lost_none(c:Nat)(v:Value)(w:World)(h:CZ c w v):Calls Tryz.prog 98 #[v] w fun x w'=>x=.returned (.int .i64 1)∧w'=w:=by
 obtain ⟨rfl |rfl,hC⟩:=h
 ·exact lost_nil w
 ·exact lost_at 0 w hC (Tre.Root_no (Or.inl rfl))
theorem Value_none(c:Nat)(v:Value)(w:World)(h:CZ c w v):Cd c 48 #[v] v (.tuple #[.slice none 0 0,.int .i64 1]) w:=same_cd h (Value_lost v 1 (by omega) w (lost_none c v w h))
theorem Delete_none(c:Nat)(v:Value)(w:World)(h:CZ c w v):Cd c 44 #[v] v (.int .i64 1) w:=same_cd h (Delete_lost v 1 (by omega) w (lost_none c v w h))
theorem New_bad(v:Value)(w:World)(h:TZ w v):Calls Tryz.prog 33 #[v] w fun x w'=>x=.returned (.pointer none)∧Below w.heap.size w w':=by
 have cf:=hid (fault_at 0 (w.alloc (.cells #[v,.int .i64 0,.bool false] 92)) (CurAt.new w v 0 false) (Tre.Root_no (h.keep (ext1 _))))
 rw [if_pos rfl]at cf
 rcases h with rfl | ⟨b,rfl,_⟩
 ·go_enter Tryz.func33,Tryz.ntmps33
  go_wp2_with (go_at_call 90;refine cf.out.mono ?_;rintro x w1 ⟨rfl,h1⟩;have B1:=hid (show Below w.heap.size w w1 by rw [h1];exact ext1 _);clear h1)
  go_ret
  exact ⟨rfl,B1.out⟩
 ·go_enter Tryz.func33,Tryz.ntmps33
  go_wp2_with (go_at_call 90;refine cf.out.mono ?_;rintro x w1 ⟨rfl,h1⟩;have B1:=hid (show Below w.heap.size w w1 by rw [h1];exact ext1 _);clear h1)
  go_ret
  exact ⟨rfl,B1.out⟩
theorem Fill_bad(v:Value)(w:World)(h:TZ w v):Calls Tryz.prog 36 #[v,.slice none 0 0] w fun x w'=>x=.returned (.int .i64 1)∧Below w.heap.size w w':=by
 have cn:=hid (New_bad v w h)
 clear h
 go_enter Tryz.func36,Tryz.ntmps36
 go_wp2_with (first
  | (go_at_call 33;refine cn.out.mono ?_;rintro x w1 ⟨rfl,hb1⟩;have B1:=hid hb1;clear hb1)
  | (go_at_call 90;refine (fault_nil _).mono ?_;rintro x w2 ⟨rfl,h1⟩;obtain rfl:=h1.symm;clear h1))
 go_ret
 exact ⟨rfl,B1.out⟩
end Wlk
namespace Wlk
open Go.RowKit Go.Maps
open Dsk (gt hid undrew keep_old keep_cell lt_cell)
open Cch (Fr TwoKept RPost Rec put_other)
open Cel (ext1)
open Tre (TZ Bd)
attribute [local go_sem] Oper.semAt_some
variable {l B:Nat} {w W:World}
theorem below_put(o:Obj)(h:Below B w W)(hB:B≤w.heap.size)(hl:B≤l):Below B w (W.putObj l o):=h.trans ((Below.refl B W).grown (grownBy_putObj' W l o) (Nat.le_trans hB h.size) (fun k e=>by cases e;exact hl))
variable {W':World}
theorem two_below(h:Below W.heap.size W W')(hs:B+2≤W.heap.size):TwoKept B W W':=⟨h.block _ (by omega),h.block _ (by omega)⟩
theorem stops_nil(k:Int)(w:World):Calls Tryz.prog 93 #[.pointer none,.int .i64 k] w fun e w'=>e=.returned (.func (.func 152) #[] #[.pointer (some ⟨w.heap.size,0,none⟩),.pointer (some ⟨w.heap.size+1,0,none⟩)])∧w'=(w.alloc (.cells #[.pointer none] 67)).alloc (.cells #[.int .i64 k] 3):=by
 go_enter Tryz.func93,Tryz.ntmps93
 go_wp2
 go_ret
 exact ⟨rfl,rfl⟩
theorem gen_bad(m l b1 b2:Nat)(k:Int){Jx:World→Prop}(W:World)(c1:W.cell? ⟨b1,0,none⟩=some (.pointer none))(c2:W.cell? ⟨b2,0,none⟩=some (.int .i64 k))
  (hY:YieldAt Fence.wide (m - 1) Tryz.prog l #[.int .i64 0,.int .i64 1] W fun e W'=>e=.returned (.bool false)∧Jx W') :
  CallsIn Fence.wide m Tryz.prog 152 #[.func (.yield l) #[] #[],.pointer (some ⟨b1,0,none⟩),.pointer (some ⟨b2,0,none⟩)] W fun e W'=>(∃ v,e=.returned v)∧Jx W':=by
 obtain ⟨fn,tms,asg,bdy,hy,hYR⟩:=hY
 have HYR:=hid hYR
 clear hYR
 refine callsIn_of_wp Tryz.func152 rfl trivial ?_ rfl
 simp only [Tryz.ntmps152,List.size_toArray,List.length_cons,List.length_nil,Nat.reduceAdd,Nat.reduceSub,Array.replicate_succ,Array.replicate_zero,List.push_toArray,List.append_toArray,List.nil_append,List.cons_append]
 gi_wp2_with (refine ⟨trivial,fun h=>(by cases h),?_⟩;refine (callsIn_wide.2 (Seek_nil k W)).mono ?_;rintro e w1 ⟨rfl,h1⟩;obtain rfl:=h1.symm;clear h1)
 gi_loopw [4,5] (fun a b wr=>a=.bool false∧b=.int .i64 1∧Hid (wr=W)) (fun _ _ _=>0)
 case atStart=>exact ⟨rfl,rfl,hid rfl⟩
 case round=>
  obtain ⟨rfl,rfl,hw⟩:=hrel
  obtain rfl:=hw.out.symm
  clear hw
  gi_wp2
  refine ⟨fun h=>(by cases h),HYR.out.mono ?_⟩
  rintro e W3 ⟨rfl,hJ⟩
  have J3:=hid hJ
  clear hJ hy
  gi_wp2
  go_end0
  exact ⟨⟨_,rfl⟩,J3.out⟩
def GI(w:World)(W:World):Prop:=Below w.heap.size w W∧w.heap.size+2≤W.heap.size
theorem GI.put(o:Obj)(h:GI w W)(hl:w.heap.size≤l):GI w (W.putObj l o):=⟨below_put o h.1 (Nat.le_refl _) hl,Nat.le_trans h.2 (by simp [World.putObj])⟩
theorem agg33(W:World):(isAgg 33).run Tryz.prog W=.ok false W:=by kernel_rfl
theorem range_nil(l b1 b2 b3:Nat)(k:Int)(w:World)(c1:w.cell? ⟨b1,0,none⟩=some (.pointer none))(c2:w.cell? ⟨b2,0,none⟩=some (.int .i64 k)) :
  Calls Tryz.prog 92 #[.func (.yield l) #[] #[],.pointer (some ⟨b1,0,none⟩),.pointer (some ⟨b2,0,none⟩),.pointer (some ⟨b3,0,none⟩)] w fun e w'=>(∃ v,e=.returned v)∧Below w.heap.size w w':=by
 have CN:=hid (fun W=>New_bad (.pointer none) W (Or.inl rfl))
 have C2:=hid c2
 have d0:=keep_old (ext1 (.cells #[.func (.yield l) #[] #[]] 168)) c1
 clear c1 c2
 refine (callsIn_wide (n:=3)).1 ?_
 refine callsIn_of_wp_marks Tryz.func92 rfl trivial ?_ rfl
 simp only [Tryz.ntmps92,List.size_toArray,List.length_cons,List.length_nil,Nat.reduceAdd,Nat.reduceSub,Array.replicate_succ,Array.replicate_zero,List.push_toArray,List.append_toArray,List.nil_append,List.cons_append]
 gi_wp2_with (first
  | (refine ⟨trivial,?_⟩;gi_at_call 33;refine (callsIn_wide.2 (CN.out _)).mono ?_;rintro e w1 ⟨rfl,hb1⟩;have B1:=hid (gt (ext1 (.cells #[.func (.yield l) #[] #[]] 168)) hb1);have c3:=keep_old (gt B1.out (ext1 (.cells #[.pointer none] 67))) C2.out;clear hb1)
  | (refine ⟨trivial,?_⟩;gi_at_call 93;refine (callsIn_wide.2 (stops_nil _ _)).mono ?_;rintro e w2 ⟨rfl,h2⟩;have H2:=hid h2;clear h2))
 have B2:=hid (show Below w.heap.size w w2 by rw [H2.out];exact gt (gt (gt B1.out (ext1 _)) (ext1 _)) (ext1 _))
 have d1:Hid (w2.cell? ⟨w1.heap.size+1,0,none⟩=some (.pointer none)∧w2.cell? ⟨w1.heap.size+1+1,0,none⟩=some (.int .i64 k)):=hid (by
  have e1:=(Boxed.new (w1.alloc (.cells #[.pointer none] 67)) 67 (.pointer none)).alloc (.cells #[.int .i64 k] 3)
  have e2:=Boxed.new ((w1.alloc (.cells #[.pointer none] 67)).alloc (.cells #[.pointer none] 67)) 3 (.int .i64 k)
  simp only [World.size_alloc]at e1 e2
  rw [H2.out];exact ⟨e1.cell,e2.cell⟩)
 clear H2 c3
 refine range_pair (fun _:Unit=>#[.int .i64 0,.int .i64 1]) (fun _=>rfl) (gf:=152) (lb:=#[.pointer (some ⟨w1.heap.size+1,0,none⟩),.pointer (some ⟨w1.heap.size+1+1,0,none⟩)]) rfl (enters_of Tryz.func152 (by kernel_rfl) rfl) rfl
  (fun k W=>k=0∧GI w2 W) (fun _ _ W=>GI w2 W) (fun _=>False) (fun c W=>c=.ret∧GI w2 W) ?hI ?hM ?hX ?h0 ?hseq ?a1 ?assign ?body ?done ?stop
 case assign=>
  intro l v W K hK
  gi_wp2
  exact hK
 case hI=>rintro _ W l o o' h1 _ _ _ ⟨rfl,h⟩;exact ⟨rfl,h.put o' h1⟩
 case hM=>intro _ _ W l o o' h1 _ _ _ h;exact h.put o' h1
 case hX=>rintro c W l o o' h1 _ _ _ ⟨rfl,h⟩;exact ⟨rfl,h.put o' h1⟩
 case h0=>intro W h1 h2;exact ⟨rfl,h1,h2⟩
 case hseq=>
  intro l J L Jx W hl hJI hJs hJL hY hJ0
  have hi:=(hJI 0 W hJ0).2
  refine (gen_bad 2 l (w1.heap.size+1) (w1.heap.size+1+1) k (Jx:=fun W'=>(∃ k,False∧J k W')∨Jx W') W (keep_old hi.1 d1.out.1) (keep_old hi.1 d1.out.2) ?_)
  obtain ⟨fn,tms,asg,bdy,hy,hYR⟩:=hY 0 () W (hJL 0 W W () hJ0 hi ⟨rfl,rfl⟩)
  refine ⟨fn,tms,asg,bdy,hy,hYR.mono ?_⟩
  rintro e W' (⟨rfl,h⟩ | ⟨rfl,h⟩)
  ·exact absurd (hJI 1 W' h).1 (by omega)
  ·exact ⟨rfl,Or.inr h⟩
 case body=>
  rintro l k v W hg hM hR
  gi_wp2
  exact ⟨⟨rfl,rfl⟩,rfl,hg⟩
 case done=>rintro k W h;exact h.elim
 case stop=>
  rintro c W ⟨rfl,hg⟩ hM
  have HG:=hid hg;have HM:=hid hM
  clear hg hM
  gi_wp2
  refine ⟨by simp,.inl ⟨_,_,rfl,run_takeDeferred HM.out,?_⟩⟩
  exact ⟨_,results_none rfl _ _ _,⟨_,rfl⟩,gt B2.out (HG.out.put _ (Nat.le_refl _)).1⟩
structure PI (w:World) (e:Int) (W:World):Prop where
 b:Below w.heap.size w W
 r1:Boxed W (w.heap.size+1) 33 (.slice none 0 0)
 r2:Boxed W (w.heap.size+1+1) 29 (.int .i64 e)
variable {e:Int}
theorem PI.put(o:Obj)(h:PI w e W)(hl:w.heap.size+3≤l):PI w e (W.putObj l o):=⟨below_put o h.b (Nat.le_refl _) (by omega),(put_other (by omega)).trans h.r1,(put_other (by omega)).trans h.r2⟩
theorem PI.keep(h:PI w e W)(hb:Below W.heap.size W W'):PI w e W':=⟨gt h.b hb,(hb.block _ h.r1.lt).trans h.r1,(hb.block _ h.r2.lt).trans h.r2⟩
theorem PI.err(h:PI w 0 W):PI w 1 ((W.setCell ⟨w.heap.size+1,0,none⟩ (.slice none 0 0)).setCell ⟨w.heap.size+1+1,0,none⟩ (.int .i64 1)):=by
 have e1:=h.r1.set (.slice none 0 0)
 have e2:Boxed (W.setCell ⟨w.heap.size+1,0,none⟩ (.slice none 0 0)) (w.heap.size+1+1) 29 (.int .i64 0):=(heap_setCell_other _ _ _ _ (show w.heap.size+1+1≠w.heap.size+1 by omega)).trans h.r2
 exact ⟨Cel.below_set (Cel.below_set h.b (show w.heap.size≤w.heap.size+1 by omega) _) (show w.heap.size≤w.heap.size+1+1 by omega) _,(heap_setCell_other _ _ _ _ (show w.heap.size+1≠w.heap.size+1+1 by omega)).trans e1,e2.set _⟩
theorem two_set{a b:Nat}{x y:Value}(ha:a<B)(hb:b<B):TwoKept B W ((W.setCell ⟨a,0,none⟩ x).setCell ⟨b,0,none⟩ y):=
 ⟨(heap_setCell_other _ _ _ _ (show B≠b by omega)).trans (heap_setCell_other _ _ _ _ (show B≠a by omega)),(heap_setCell_other _ _ _ _ (show B+1≠b by omega)).trans (heap_setCell_other _ _ _ _ (show B+1≠a by omega))⟩
theorem Pairs_nil(w:World):Calls Tryz.prog 38 #[.pointer none,.int .i64 5] w fun e w'=>e=.returned (.tuple #[.slice none 0 0,.int .i64 1])∧Below w.heap.size w w':=by
 have CN:=hid (fun W=>New_bad (.pointer none) W (Or.inl rfl))
 obtain ⟨W0,hW0⟩:∃ W0,W0=((w.alloc (.cells #[.int .i64 5] 3)).alloc (.cells #[.slice none 0 0] 33)).alloc (.cells #[.int .i64 0] 29):=⟨_,rfl⟩
 have p0:PI w 0 W0:=by
  have e1:=(Boxed.new (w.alloc (.cells #[.int .i64 5] 3)) 33 (.slice none 0 0)).alloc (.cells #[.int .i64 0] 29)
  have e2:=Boxed.new ((w.alloc (.cells #[.int .i64 5] 3)).alloc (.cells #[.slice none 0 0] 33)) 29 (.int .i64 0)
  simp only [World.size_alloc]at e1 e2
  rw [hW0];exact ⟨gt (gt (ext1 _) (ext1 _)) (ext1 _),e1,e2⟩
 have q0:W0.cell? ⟨w.heap.size,0,none⟩=some (.int .i64 5):=by
  have e1:=((Boxed.new w 3 (.int .i64 5)).alloc (.cells #[.slice none 0 0] 33)).alloc (.cells #[.int .i64 0] 29)
  rw [hW0];exact e1.cell
 have P0:=hid p0;have Q0:=hid q0;have HW:=hid hW0
 clear p0 q0 hW0
 refine (callsIn_wide (n:=3)).1 ?_
 refine callsIn_of_wp_marks Tryz.func38 rfl trivial ?_ rfl
 simp only [Tryz.ntmps38,List.size_toArray,List.length_cons,List.length_nil,Nat.reduceAdd,Nat.reduceSub,Array.replicate_succ,Array.replicate_zero,List.push_toArray,List.append_toArray,List.nil_append,List.cons_append]
 gi_wp2_with (first
  | (refine ⟨trivial,?_⟩;gi_at_call 33;rw [←HW.out];refine (callsIn_wide.2 (CN.out W0)).mono ?_;rintro e w1 ⟨rfl,hb1⟩;have B1:=hid hb1;have c3:=keep_old (gt hb1 (ext1 (.cells #[.pointer none] 67))) Q0.out;clear hb1)
  | (refine ⟨trivial,?_⟩;gi_at_call 93;refine (callsIn_wide.2 (stops_nil _ _)).mono ?_;rintro e w2 ⟨rfl,h2⟩;have H2:=hid h2;clear h2))
 have B2:=hid (show Below W0.heap.size W0 w2 by rw [H2.out];exact gt (gt (gt (gt B1.out (ext1 _)) (ext1 _)) (ext1 _)) (ext1 _))
 have d1:Hid (w2.cell? ⟨w1.heap.size+1+1,0,none⟩=some (.pointer none)∧w2.cell? ⟨w1.heap.size+1+1+1,0,none⟩=some (.int .i64 (-9223372036854775808))):=hid (by
  have e1:=(Boxed.new ((w1.alloc (.cells #[.pointer none] 67)).alloc (.cells #[.slice none 0 0] 33)) 67 (.pointer none)).alloc (.cells #[.int .i64 (-9223372036854775808)] 3)
  have e2:=Boxed.new (((w1.alloc (.cells #[.pointer none] 67)).alloc (.cells #[.slice none 0 0] 33)).alloc (.cells #[.pointer none] 67)) 3 (.int .i64 (-9223372036854775808))
  simp only [World.size_alloc]at e1 e2
  rw [H2.out];exact ⟨e1.cell,e2.cell⟩)
 have S2:=hid (show w.heap.size+3≤w2.heap.size by have h1:=P0.out.r2.lt;have h2:=B2.out.size;omega)
 have P2:=hid (P0.out.keep B2.out)
 clear H2 c3
 refine range_pair (fun _:Unit=>#[.int .i64 0,.int .i64 1]) (fun _=>rfl) (gf:=152) (lb:=#[.pointer (some ⟨w1.heap.size+1+1,0,none⟩),.pointer (some ⟨w1.heap.size+1+1+1,0,none⟩)]) rfl (enters_of Tryz.func152 (by kernel_rfl) rfl) rfl
  (fun k W=>k=0∧GI w2 W∧PI w 0 W) (fun _ _ W=>PI w 0 W) (fun _=>False) (fun c W=>c=.ret∧PI w 1 W) ?hI ?hM ?hX ?h0 ?hseq ?a1 ?assign ?body ?done ?stop
 case assign=>
  intro l v W K hK
  gi_wp2
  exact hK
 case hI=>rintro _ W l o o' h1 _ _ _ ⟨rfl,h,h'⟩;have:=S2.out;exact ⟨rfl,h.put o' h1,h'.put o' (by omega)⟩
 case hM=>intro _ _ W l o o' h1 _ _ _ h;have:=S2.out;exact h.put o' (by omega)
 case hX=>rintro c W l o o' h1 _ _ _ ⟨rfl,h⟩;have:=S2.out;exact ⟨rfl,h.put o' (by omega)⟩
 case h0=>intro W h1 h2;exact ⟨rfl,⟨h1,h2⟩,P2.out.keep h1⟩
 case hseq=>
  intro l J L Jx W hl hJI hJs hJL hY hJ0
  obtain ⟨_,hi,hp⟩:=hJI 0 W hJ0
  refine (gen_bad 2 l (w1.heap.size+1+1) (w1.heap.size+1+1+1) (-9223372036854775808) (Jx:=fun W'=>(∃ k,False∧J k W')∨Jx W') W (keep_old hi.1 d1.out.1) (keep_old hi.1 d1.out.2) ?_)
  obtain ⟨fn,tms,asg,bdy,hy,hYR⟩:=hY 0 () W (hJL 0 W W () hJ0 hp ⟨rfl,rfl⟩)
  refine ⟨fn,tms,asg,bdy,hy,hYR.mono ?_⟩
  rintro e W' (⟨rfl,h⟩ | ⟨rfl,h⟩)
  ·exact absurd (hJI 1 W' h).1 (by omega)
  ·exact ⟨rfl,Or.inr h⟩
 case body=>
  rintro l k v W hp hM hR
  have y0:=hp.r1.cell;have y1:=hp.r2.cell;have f0:=hp.r1.frozen;have f1:=hp.r2.frozen
  have HP:=hid hp
  clear hp
  gi_wp2
  have:=S2.out
  exact ⟨two_set (by omega) (by omega),rfl,HP.out.err⟩
 case done=>rintro k W h;exact h.elim
 case stop=>
  rintro c W ⟨rfl,hp⟩ hM
  have HP:=hid hp;have HM:=hid hM
  clear hp hM
  gi_wp2
  refine ⟨by simp,.inl ⟨_,_,rfl,run_takeDeferred HM.out,?_⟩⟩
  have f:=HP.out.put (l:=w2.heap.size) (.deferred none) S2.out
  exact ⟨_,Spl.ret_cells rfl agg33 Spl.agg31 rfl rfl f.r1.cell f.r2.cell,rfl,f.b⟩
end Wlk
namespace Tre
open Go.RowKit Go.Maps
open Dsk (gt hid undrew keep_old keep_cell lt_cell newD)
open Jrn (Row5)
open Cch (Fr wpAnyK wpAnyK_done wp_region_K hd_cell hd_frozen blk_set)
open Cel (C Cs Cok NB At5 ext1 below_set I64 nrm hasN pageN)
open Spl (Same AllB)
theorem T1_len:T1.now.length=1:=by simp [T1,rt0,RS.begin,RS.grow,RS.put]
theorem T1_all:AllB T1.now:=by
 have:T1.now = [Jrn.rootN 0 0 z60]:=by simp [T1,rt0,RS.begin,RS.grow,RS.put]
 rw [this]
 intro i x hx
 match i with
 | 0=>simp at hx;exact Jrn.rootN_bytes _ _ _ x hx
 | i+1=>simp at hx
end Tre
end Go.Proofs.YtfcikkechphmaaaGreatDoor
