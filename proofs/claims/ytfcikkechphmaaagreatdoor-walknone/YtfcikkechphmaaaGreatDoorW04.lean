/- Regions that draw their order: what is held may grow as the walk goes. Laws of my own after the kit's. No statement of the seat is proved here. -/
import Derived.Test.YtfcikkechphmaaaGreatDoorW03
import Derived.Deep.RegionHeld3
import Derived.Test.YtfcikkechphmaaaGreatDoorProg
import Derived.WalkKit
import Derived.WalkSpells
import Derived.BigRegion
import Derived.Deep.RegionWith
set_option maxHeartbeats 16000000
set_option maxRecDepth 20000
namespace Go.Proofs.YtfcikkechphmaaaGreatDoor
namespace Cel
open Go.RowKit Go.Maps
section
variable {P:Program} {ops:Array Oper} {Q:Exit→Act→World→Prop} {md:Region.Mode} {S:World→Prop} {E:Nat→Bool}
def waits(md:Region.Mode)(ops:Array Oper)(E:Nat→Bool)(i:Nat):Bool:=(List.range ops.size).all fun j=>!E j||(match ops[j]? with |some o=>o.after.any (fun e=>Region.binds md e&&e.on == i) |none=>true)
variable {i:Nat}
theorem waits_spec(h:waits md ops E i=true){j:Nat}{oj:Oper}(hj:ops[j]? = some oj)(hE:E j=true):∃ e∈oj.after,Region.binds md e=true∧e.on=i:=by
 have hl:j<ops.size:=(Array.getElem?_eq_some_iff.1 hj).1
 have:=List.all_eq_true.1 h j (by simpa using hl)
 simp only [hE,hj,Bool.not_true,Bool.false_or]at this
 obtain ⟨k,hk,hp⟩:=Array.any_eq_true.1 this
 simp only [Bool.and_eq_true,beq_iff_eq]at hp
 exact ⟨_,Array.getElem_mem hk,hp.1,hp.2⟩
def came(E:Nat→Bool)(listed:Array Bool):Bool:=(List.range listed.size).any fun j=>E j&&listed.getD j false
variable {j:Nat} {listed:Array Bool}
theorem came_set(h:came E listed=false)(hj:E j=false):came E (listed.setIfInBounds j true)=false:=by
 simp only [came,List.any_eq_false,List.mem_range,Array.size_setIfInBounds,Bool.and_eq_true,not_and,Bool.not_eq_true]at h ⊢
 intro k hk hE
 by_cases hjk:j=k
 ·subst hjk;rw [hj]at hE;cases hE
 ·rw [getD_set_ne _ hjk];exact h k hk hE
theorem came_mono(h:came E (listed.setIfInBounds j true)=false):came E listed=false:=by
 simp only [came,List.any_eq_false,List.mem_range,Array.size_setIfInBounds,Bool.and_eq_true,not_and,Bool.not_eq_true]at h ⊢
 intro k hk hE
 have:=h k hk hE
 by_cases hjk:j=k
 ·subst hjk;simp [hk]at this
 ·rw [getD_set_ne _ hjk]at this;exact this
def wpAnyK(P:Program)(md:Region.Mode)(ops:Array Oper)(Q:Exit→Act→World→Prop)(S:World→Prop)(E:Nat→Bool):Nat→Array Bool→Act→World→Prop
 | 0,listed,a,w=>Region.ready md ops listed = []∧Q .normal a w
 | fuel+1,listed,a,w=>
  (Region.ready md ops listed = []→Q .normal a w) ∧
  ∀ i∈Region.ready md ops listed,wpOp P ops Q i (fun a' w'=>(came E (listed.setIfInBounds i true)=false→S w')∧wpAnyK P md ops Q S E fuel (listed.setIfInBounds i true) a' w') a w
theorem wpAny_of_K:∀ (fuel:Nat) (listed:Array Bool) (a:Act) (w:World),wpAnyK P md ops Q S E fuel listed a w→wpAny P md ops Q fuel listed a w
 | 0,_,_,_,h=>h
 | fuel+1,_,_,_,h=>⟨h.1,fun i hi=>wpOp_mono (fun a' w' h'=>wpAny_of_K fuel _ a' w' h'.2) (h.2 i hi)⟩
variable {v:Value} {oi:Oper}
theorem wpAnyK_first{T:World→Prop}(hi:ops[i]? = some oi)(hsel:∀ (j:Nat) (o:Oper) cs b,ops[j]? = some o→o.op≠.select cs b)
  (hQ:∀ c a w,Q (.panic c) (a.put oi.dst v) w→Q (.panic c) a w) (hEi:E i=false) (hT:(∀ w,T w)∨(T=S∧waits md ops E i=true)) :
  ∀ (fuel:Nat) (listed:Array Bool) (a:Act) (w:World),
   (∀ j oj,ops[j]? = some oj→j≠i→listed.getD j true=false→(∀ e∈oj.after,Region.binds md e=true→e.on≠i)→oi.apart ops oj=true) →
   i∈Region.ready md ops listed→YieldsIf P ops T oi v a→T w→(came E (listed.setIfInBounds i true)=false→S w)→((∀ w,T w)∨came E listed=false) →
   wpAnyK P md ops Q S E fuel (listed.setIfInBounds i true) (a.put oi.dst v) w→wpAnyK P md ops Q S E (fuel+1) listed a w:=by
 intro fuel
 induction fuel with
 | zero=>
  intro listed a w _ hr hy hTw hS hc H
  refine ⟨fun h=>(by rw [h]at hr;cases hr),fun j hj=>?_⟩
  by_cases hji:j=i
  ·subst hji;exact hy.wpOp hi hTw ⟨hS,H⟩
  ·have:=ready_mono hj hji
   rw [H.1]at this
   cases this
 | succ fuel ih=>
  intro listed a w hfree hr hy hTw hS hc H
  refine ⟨fun h=>(by rw [h]at hr;cases hr),fun j hj=>?_⟩
  by_cases hji:j=i
  ·subst hji;exact hy.wpOp hi hTw ⟨hS,H⟩
  ·have h1:=H.2 j (ready_mono hj hji)
   obtain ⟨hjun,oj,hoj,hall⟩:=mem_ready.1 hj
   have hnot:∀ e∈oj.after,Region.binds md e=true→e.on≠i:=fun e he hb heq=>by
    have h1:=hall e he hb
    have h0:=(mem_ready.1 hr).1
    rw [heq]at h1
    rcases Nat.lt_or_ge i listed.size with h' |h'
    ·simp [h']at h0 h1;rw [h0]at h1;cases h1
    ·simp [Array.getElem?_eq_none h']at h1
   have h2:=wpOp_putIf hoj (hfree j oj hoj hji hjun hnot) (fun cs b=>hsel i oi cs b hi) (fun cs b=>hsel j oj cs b hoj) hQ hy h1
   have hfree':∀ k ok,ops[k]? = some ok→k≠i→(listed.setIfInBounds j true).getD k true=false →
     (∀ e∈ok.after,Region.binds md e=true→e.on≠i)→oi.apart ops ok=true:=fun k ok hk hki hun hno=>by
    refine hfree k ok hk hki ?_ hno
    by_cases hjk:j=k
    ·subst hjk;exact hjun
    ·rw [getD_set_ne true hjk]at hun;exact hun
   have hjE:waits md ops E i=true→E j=false:=fun hw=>by
    cases hcj:E j
    ·rfl
    ·obtain ⟨e,he,hb,heq⟩:=waits_spec hw hoj hcj
     exact absurd heq (hnot e he hb)
   refine wpOp_mono (fun a' w' h3=>?_) h2
   have e:=Array.setIfInBounds_comm (xs:=listed) true true hji
   have hS':came E ((listed.setIfInBounds j true).setIfInBounds i true)=false→S w':=fun hcc=>h3.2.1 (by rw [e]at hcc;exact hcc)
   have hTc:T w'∧((∀ w,T w)∨came E (listed.setIfInBounds j true)=false):=by
    rcases hT with h | ⟨h,hw⟩
    ·exact ⟨h w',Or.inl h⟩
    ·rcases hc with h' |h'
     ·exact ⟨h' w',Or.inl h'⟩
     ·have hcj:=came_set h' (hjE hw)
      refine ⟨?_,Or.inr hcj⟩
      rw [h]
      exact hS' (came_set hcj hEi)
   refine ⟨fun hcc=>hS' ?_,ih (listed.setIfInBounds j true) a' w' hfree' (ready_mono hr (Ne.symm hji)) h3.1 hTc.1 hS' hTc.2 ?_⟩
   ·exact came_set hcc hEi
   ·rw [e];exact h3.2.2
variable {w:World} {a:Act} {fuel:Nat}
theorem wpAnyK_take(hi:ops[i]? = some oi)
  (hs:Region.noSelect ops=true) (hf:Region.free md ops listed i=true) (hr:(Region.ready md ops listed).contains i=true) (hE:(!E i&&waits md ops E i&&!came E listed)=true)
  (hQ:∀ c a w,Q (.panic c) (a.put oi.dst v) w→Q (.panic c) a w) (hy:YieldsIf P ops S oi v a) (hS:S w)
  (h:wpAnyK P md ops Q S E fuel (listed.setIfInBounds i true) (a.put oi.dst v) w):wpAnyK P md ops Q S E (fuel+1) listed a w:=by
 simp only [Bool.and_eq_true,Bool.not_eq_true']at hE
 exact wpAnyK_first hi (Region.noSelect_spec hs) hQ hE.1.1 (Or.inr ⟨rfl,hE.1.2⟩) fuel listed a w (Region.free_spec hi hf) (by simpa using hr) hy hS (fun _=>hS) (Or.inr hE.2) h
theorem wpAnyK_pure(hi:ops[i]? = some oi)
  (hs:Region.noSelect ops=true) (hf:Region.free md ops listed i=true) (hr:(Region.ready md ops listed).contains i=true) (hE:E i=false)
  (hQ:∀ c a w,Q (.panic c) (a.put oi.dst v) w→Q (.panic c) a w) (hy:YieldsIf P ops (fun _=>True) oi v a) (hS:S w∨came E listed=true)
  (h:wpAnyK P md ops Q S E fuel (listed.setIfInBounds i true) (a.put oi.dst v) w):wpAnyK P md ops Q S E (fuel+1) listed a w:=
 wpAnyK_first (T:=fun _=>True) hi (Region.noSelect_spec hs) hQ hE (Or.inl fun _=>trivial) fuel listed a w (Region.free_spec hi hf) (by simpa using hr) hy trivial (fun hc=>by
  rcases hS with h |h
  ·exact h
  ·rw [came_mono hc]at h;cases h) (Or.inl fun _=>trivial) h
def AllReadyK(P:Program)(md:Region.Mode)(ops:Array Oper)(Q:Exit→Act→World→Prop)(S:World→Prop)(E:Nat→Bool)(fuel:Nat)(listed:Array Bool)(a:Act)(w:World)(rs:List Nat):Prop:=
 ∀ i∈rs,wpOp P ops Q i (fun a' w'=>(came E (listed.setIfInBounds i true)=false→S w')∧wpAnyK P md ops Q S E fuel (listed.setIfInBounds i true) a' w') a w
theorem AllReadyK.nil:AllReadyK P md ops Q S E fuel listed a w []:=fun _ h=>by cases h
variable {rs:List Nat} {o:Oper}
theorem AllReadyK.cons(ho:ops[i]? = some o)
  (h:∀ K':Act→World→Prop,Shut (∀ a w,S w→(S w→wpAnyK P md ops Q S E fuel (listed.setIfInBounds i true) a w)→K' a w)→if Region.wanted o (yielded ops a.tmps)=true then Oper.wp P o a w K' Q else K' (a.put o.dst undef) w)
  (hs:AllReadyK P md ops Q S E fuel listed a w rs):AllReadyK P md ops Q S E fuel listed a w (i::rs):=fun j hj=>by
 rcases List.mem_cons.1 hj with rfl |hj
 ·exact wpOp_step ho (fun K' hK=>h K' (fun a w hS hW=>hK a w ⟨fun _=>hS,hW hS⟩))
 ·exact hs j hj
theorem AllReadyK.late(ho:ops[i]? = some o)(hE:came E (listed.setIfInBounds i true)=true)
  (h:∀ K':Act→World→Prop,Shut (∀ a w,wpAnyK P md ops Q S E fuel (listed.setIfInBounds i true) a w→K' a w)→if Region.wanted o (yielded ops a.tmps)=true then Oper.wp P o a w K' Q else K' (a.put o.dst undef) w)
  (hs:AllReadyK P md ops Q S E fuel listed a w rs):AllReadyK P md ops Q S E fuel listed a w (i::rs):=fun j hj=>by
 rcases List.mem_cons.1 hj with rfl |hj
 ·exact wpOp_step ho (fun K' hK=>h K' (fun a w hW=>hK a w ⟨fun hc=>(by rw [hE]at hc;cases hc),hW⟩))
 ·exact hs j hj
theorem wpAnyK_ready(hr:Region.ready md ops listed=rs)(hne:rs≠[])
  (h:AllReadyK P md ops Q S E fuel listed a w rs):wpAnyK P md ops Q S E (fuel+1) listed a w:=⟨fun h0=>absurd (hr▸h0) hne,hr▸h⟩
theorem wpAnyK_done(hr:Region.ready md ops listed = [])(h:Q .normal a w) :
  ∀ fuel,wpAnyK P md ops Q S E fuel listed a w
 | 0=>⟨hr,h⟩
 | _+1=>⟨fun _=>h,by rw [hr];simp⟩
theorem wp_region_K{id:Nat}(E:Nat→Bool)(hm:P.follows .mixedOrders=true)(hS:S w.drew)
  (h:S w.drew→wpAnyK P .any ops Q S E ops.size (Array.replicate ops.size false) a w.drew):(Code.region id ops true).wp P Q a w:=
 wp_region_any hm (wpAny_of_K _ _ _ _ (h hS))
end
abbrev Gr(w W:World):Prop:=Below w.heap.size w W
end Cel
namespace Cel
open Go.RowKit
theorem sA{α:Type _}(l:List α)(i:Nat)(a:α):l.toArray.setIfInBounds i a=(l.set i a).toArray:=List.setIfInBounds_toArray ..
theorem sZ{α:Type _}{x:α}{xs:List α}{a:α}:(x::xs).set 0 a=a::xs:=List.set_cons_zero
theorem sS{α:Type _}{x:α}{xs:List α}{n:Nat}{a:α}:(x::xs).set (n+1) a=x::xs.set n a:=List.set_cons_succ
theorem at_op(l:List Oper)(i:Nat)(o:Oper)(h:l[i]? = some o):l.toArray[i]? = some o:=by simpa using h
section
variable {P:Program} {l:List Oper} {Q:Exit→Act→World→Prop} {md:Region.Mode} {S:World→Prop} {oi:Oper} {v:Value} {fuel:Nat} {listed:Array Bool} {a a':Act} {w:World}
end
end Cel
namespace Cel
open Go.RowKit
section
variable {P:Program} {l:List Oper} {Q:Exit→Act→World→Prop} {md:Region.Mode} {S:World→Prop} {E:Nat→Bool} {oi:Oper} {v:Value} {fuel:Nat} {listed:Array Bool} {a a':Act} {w:World}
theorem gkt(i:Nat)(k:wpAnyK P md l.toArray Q S E fuel (listed.setIfInBounds i true) a' w)
  (hi:l[i]? = some oi:=by exact rfl) (hs:Region.noSelect l.toArray=true:=by kernel_rfl) (hf:Region.free md l.toArray listed i=true:=by kernel_rfl) (hr:(Region.ready md l.toArray listed).contains i=true:=by kernel_rfl)
  (hE:(!E i&&waits md l.toArray E i&&!came E listed)=true:=by kernel_rfl)
  (hQ:∀ c a w,Q (.panic c) (a.put oi.dst v) w→Q (.panic c) a w:=by exact fun _ _ _ h=>h) (hw:Region.wanted oi (yielded l.toArray a.tmps)=true:=by rfl)
  (h:∀ w,S w→(execOp a.eval oi).run P w=.ok (.value v) w:=by intro W hSw;go_simp;first |done |with_reducible rfl) (hS:S w:=by assumption)
  (hA:a.put oi.dst v=a':=by (try simp only [Act.put,sA,sZ,sS]);rfl):wpAnyK P md l.toArray Q S E (fuel+1) listed a w:=
 wpAnyK_take (at_op _ _ _ hi) hs hf hr hE hQ (Or.inl ⟨hw,h⟩) hS (hA▸k)
theorem gkp(i:Nat)(k:wpAnyK P md l.toArray Q S E fuel (listed.setIfInBounds i true) a' w)
  (hi:l[i]? = some oi:=by exact rfl) (hs:Region.noSelect l.toArray=true:=by kernel_rfl) (hf:Region.free md l.toArray listed i=true:=by kernel_rfl) (hr:(Region.ready md l.toArray listed).contains i=true:=by kernel_rfl)
  (hE:E i=false:=by kernel_rfl)
  (hQ:∀ c a w,Q (.panic c) (a.put oi.dst v) w→Q (.panic c) a w:=by exact fun _ _ _ h=>h) (hw:Region.wanted oi (yielded l.toArray a.tmps)=true:=by rfl)
  (h:∀ w,True→(execOp a.eval oi).run P w=.ok (.value v) w:=by intro W hSw;go_simp;first |done |with_reducible rfl) (hS:S w∨came E listed=true:=by first |exact Or.inl (by assumption) |exact Or.inr (by kernel_rfl))
  (hA:a.put oi.dst v=a':=by (try simp only [Act.put,sA,sZ,sS]);rfl):wpAnyK P md l.toArray Q S E (fuel+1) listed a w:=
 wpAnyK_pure (at_op _ _ _ hi) hs hf hr hE hQ (Or.inl ⟨hw,h⟩) hS (hA▸k)
theorem gku(i:Nat)(k:wpAnyK P md l.toArray Q S E fuel (listed.setIfInBounds i true) a' w)
  (hi:l[i]? = some oi:=by exact rfl) (hs:Region.noSelect l.toArray=true:=by kernel_rfl) (hf:Region.free md l.toArray listed i=true:=by kernel_rfl) (hr:(Region.ready md l.toArray listed).contains i=true:=by kernel_rfl)
  (hE:E i=false:=by kernel_rfl)
  (hQ:∀ c a w,Q (.panic c) (a.put oi.dst undef) w→Q (.panic c) a w:=by exact fun _ _ _ h=>h) (hw:Region.wanted oi (yielded l.toArray a.tmps)=false:=by kernel_rfl)
  (hS:S w∨came E listed=true:=by first |exact Or.inl (by assumption) |exact Or.inr (by kernel_rfl))
  (hA:a.put oi.dst undef=a':=by (try simp only [Act.put,sA,sZ,sS]);rfl):wpAnyK P md l.toArray Q S E (fuel+1) listed a w:=
 wpAnyK_pure (at_op _ _ _ hi) hs hf hr hE hQ (Or.inr ⟨hw,rfl⟩) hS (hA▸k)
theorem gk1(i:Nat)(h:∀ K':Act→World→Prop,Shut (∀ a w,S w→(S w→wpAnyK P md l.toArray Q S E fuel (listed.setIfInBounds i true) a w)→K' a w)→if Region.wanted oi (yielded l.toArray a.tmps)=true then Oper.wp P oi a w K' Q else K' (a.put oi.dst undef) w)
  (hi:l[i]? = some oi:=by exact rfl) (hr:Region.ready md l.toArray listed = [i]:=by kernel_rfl):wpAnyK P md l.toArray Q S E (fuel+1) listed a w:=
 wpAnyK_ready (rs:=[i]) hr (by simp) (AllReadyK.cons (at_op _ _ _ hi) h AllReadyK.nil)
theorem gkl(i:Nat)(h:∀ K':Act→World→Prop,Shut (∀ a w,wpAnyK P md l.toArray Q S E fuel (listed.setIfInBounds i true) a w→K' a w)→if Region.wanted oi (yielded l.toArray a.tmps)=true then Oper.wp P oi a w K' Q else K' (a.put oi.dst undef) w)
  (hi:l[i]? = some oi:=by exact rfl) (hr:Region.ready md l.toArray listed = [i]:=by kernel_rfl) (hE:came E (listed.setIfInBounds i true)=true:=by kernel_rfl):wpAnyK P md l.toArray Q S E (fuel+1) listed a w:=
 wpAnyK_ready (rs:=[i]) hr (by simp) (AllReadyK.late (at_op _ _ _ hi) hE h AllReadyK.nil)
end
end Cel
namespace Cel
open Go.RowKit
def pagedB(p:Int):Bool:=decide (1≤p)&&decide (p≤4000)
def payB(l:Int):Bool:=decide (0≤l)&&decide (l≤20000)
def leafB(a:C):Bool:=a.c == 0&&(payB a.l&&((a.b.length:Int) == (locN a.l:Int)&&(if spillB a then pagedB a.x else a.x == 0)))
def aboveB(a:C):Bool:=pagedB a.c&&(a.l == 0&&((a.b.length:Int) == 0&&a.x == 0))
def cellB(leaf:Bool)(a:C):Bool:=if leaf then leafB a else aboveB a
theorem above_any(a:C)(w:World)(hn:a.b.length=a.n):Calls Tryz.prog 283 #[.agg #[.int .i64 (a).k,.int .i64 (a).c,.int .i64 (a).l,.slice (a).o (a).n (a).m,.int .i64 (a).x]] w fun e w'=>e=.returned (.bool (aboveB a))∧Below w.heap.size w w':=by
 have cp:=hid (paged_any a.c)
 change Hid (∀ w,Calls Tryz.prog 282 #[.int .i64 a.c] w fun e w'=>e=.returned (.bool (pagedB a.c))∧w'=w) at cp
 unfold aboveB
 rw [hn]
 clear hn
 generalize pagedB a.c=P at *
 cases P<;>cases h1:(a.l == 0)<;>cases h2:((a.n:Int) == 0)<;>cases h3:(a.x == 0)
 all_goals
  go_enter Tryz.func283,Tryz.ntmps283
  go_wp2_with (go_at_call 282;refine (cp.out _).mono ?_;rintro e w1 ⟨rfl,hw⟩;obtain rfl:=hw.symm)
  go_ret
  exact ⟨rfl,ext1 _⟩
theorem inleaf_any(a:C)(w:World)(hn:a.b.length=a.n):Calls Tryz.prog 281 #[.agg #[.int .i64 (a).k,.int .i64 (a).c,.int .i64 (a).l,.slice (a).o (a).n (a).m,.int .i64 (a).x]] w fun e w'=>e=.returned (.bool (leafB a))∧Below w.heap.size w w':=by
 have cp:=hid (paged_any a.x)
 change Hid (∀ w,Calls Tryz.prog 282 #[.int .i64 a.x] w fun e w'=>e=.returned (.bool (pagedB a.x))∧w'=w) at cp
 have cy:=hid (payable_any a.l)
 change Hid (∀ w,Calls Tryz.prog 197 #[.int .i64 a.l] w fun e w'=>e=.returned (.bool (payB a.l))∧w'=w) at cy
 have cl:=hid (local_any a.l)
 have cs:=hid (fun w=>spills_any a w hn)
 unfold leafB
 rw [hn]
 clear hn
 have g1:S5 w.heap.size a (w.alloc (.cells #[.int .i64 a.k,.int .i64 a.c,.int .i64 a.l,.slice a.o a.n a.m,.int .i64 a.x] 144)).drew:=(S5.new 144 w a).keep (Below.refl _ _).drew
 have B0:Hid (Below w.heap.size w (w.alloc (.cells #[.int .i64 a.k,.int .i64 a.c,.int .i64 a.l,.slice a.o a.n a.m,.int .i64 a.x] 144)).drew):=hid (ext1 _).drew
 generalize pagedB a.x=P at *
 generalize payB a.l=Y at *
 generalize ((locN a.l:Nat):Int)=L at *
 obtain ⟨V,hV⟩:∃ V,V=(a.c == 0&&(Y&&((a.n:Int) == L&&(if spillB a then P else a.x == 0)))):=⟨_,rfl⟩
 rw [←hV]
 cases h1:(a.c == 0)
 ·have h1x:Hid (¬a.c=0):=hid (by simpa using h1)
  obtain rfl:V=false:=by rw [hV,h1];rfl
  clear h1 hV
  go_enter Tryz.func281,Tryz.ntmps281
  go_upto_region 1 with fail
  refine wp_region_K (S:=S5 w.heap.size a) (fun _=>false) (by kernel_rfl) (g1) (fun hHeld=>?_)
  refine gkp 0 ?_
  refine gkt 1 ?_ (h:=by intro W hSw;obtain ⟨y0,y1,y2,y3,y4⟩:=hSw;go_simp;first |done |with_reducible rfl)
  refine gkp 2 ?_ (v:=.bool true) (h:=by intro W hSw;go_simp<;>simp [h1x.out])
  refine gkp 3 ?_
  refine gku 4 ?_
  refine gku 5 ?_
  refine gku 6 ?_
  refine gku 7 ?_
  refine gkp 8 ?_
  refine gkp 9 ?_
  refine gku 10 ?_
  refine gku 11 ?_
  refine gku 12 ?_
  refine gku 13 ?_
  refine gku 14 ?_
  refine gku 15 ?_
  refine gku 16 ?_
  refine gkp 17 ?_
  refine wpAnyK_done (by kernel_rfl) ?_ _
  go_wp2
  go_ret
  exact ⟨rfl,B0.out⟩
 ·have h1x:Hid (a.c=0):=hid (by simpa using h1)
  rw [h1]at hV
  clear h1
  cases Y
  ·obtain rfl:V=false:=hV
   go_enter Tryz.func281,Tryz.ntmps281
   go_upto_region 1 with fail
   refine wp_region_K (S:=S5 w.heap.size a) (fun _=>false) (by kernel_rfl) (g1) (fun hHeld=>?_)
   refine gkp 0 ?_
   refine gkt 1 ?_ (h:=by intro W hSw;obtain ⟨y0,y1,y2,y3,y4⟩:=hSw;go_simp;first |done |with_reducible rfl)
   refine gkp 2 ?_ (v:=.bool false) (h:=by intro W hSw;go_simp<;>simp [h1x.out])
   refine gkp 3 ?_
   refine gkp 4 ?_
   refine gkt 5 ?_ (h:=by intro W hSw;obtain ⟨y0,y1,y2,y3,y4⟩:=hSw;go_simp;first |done |with_reducible rfl)
   refine gk1 6 (fun K hK=>?_)
   go_simp
   go_at_call 197;refine (cy.out _).mono ?_;rintro e w1 ⟨rfl,hw⟩;obtain rfl:=hw.symm;have hR:=hHeld
   refine hK.out _ _ hR (fun hHeld=>?_)
   clear hK K
   (try simp only [Act.put,sA,sZ,sS])
   refine gkp 7 ?_
   refine gkp 8 ?_
   refine gkp 9 ?_
   refine gku 10 ?_
   refine gku 11 ?_
   refine gku 12 ?_
   refine gku 13 ?_
   refine gku 14 ?_
   refine gku 15 ?_
   refine gku 16 ?_
   refine gkp 17 ?_
   refine wpAnyK_done (by kernel_rfl) ?_ _
   go_wp2
   go_ret
   exact ⟨rfl,B0.out⟩
  ·cases h2:((a.n:Int) == L)
   ·have h2x:Hid (¬(a.n:Int)=L):=hid (by simpa using h2)
    obtain rfl:V=false:=by rw [hV,h2];rfl
    clear h2 hV
    go_enter Tryz.func281,Tryz.ntmps281
    go_upto_region 1 with fail
    refine wp_region_K (S:=S5 w.heap.size a) (fun _=>false) (by kernel_rfl) (g1) (fun hHeld=>?_)
    refine gkp 0 ?_
    refine gkt 1 ?_ (h:=by intro W hSw;obtain ⟨y0,y1,y2,y3,y4⟩:=hSw;go_simp;first |done |with_reducible rfl)
    refine gkp 2 ?_ (v:=.bool false) (h:=by intro W hSw;go_simp<;>simp [h1x.out])
    refine gkp 3 ?_
    refine gkp 4 ?_
    refine gkt 5 ?_ (h:=by intro W hSw;obtain ⟨y0,y1,y2,y3,y4⟩:=hSw;go_simp;first |done |with_reducible rfl)
    refine gk1 6 (fun K hK=>?_)
    go_simp
    go_at_call 197;refine (cy.out _).mono ?_;rintro e w1 ⟨rfl,hw⟩;obtain rfl:=hw.symm;have hR:=hHeld
    refine hK.out _ _ hR (fun hHeld=>?_)
    clear hK K
    (try simp only [Act.put,sA,sZ,sS])
    refine gkp 7 ?_
    refine gkp 8 ?_
    refine gkp 9 ?_
    refine gkp 10 ?_
    refine gkt 11 ?_ (h:=by intro W hSw;obtain ⟨y0,y1,y2,y3,y4⟩:=hSw;go_simp;first |done |with_reducible rfl)
    refine gkp 12 ?_
    refine gkp 13 ?_
    refine gkt 14 ?_ (h:=by intro W hSw;obtain ⟨y0,y1,y2,y3,y4⟩:=hSw;go_simp;first |done |with_reducible rfl)
    refine gk1 15 (fun K hK=>?_)
    go_simp
    go_at_call 138;refine (cl.out _).mono ?_;rintro e w1 ⟨rfl,hw⟩;obtain rfl:=hw.symm;have hR:=hHeld
    refine hK.out _ _ hR (fun hHeld=>?_)
    clear hK K
    (try simp only [Act.put,sA,sZ,sS])
    refine gkp 16 ?_ (v:=.bool true) (h:=by intro W hSw;go_simp<;>simp [h2x.out])
    refine gkp 17 ?_
    refine wpAnyK_done (by kernel_rfl) ?_ _
    go_wp2
    go_ret
    exact ⟨rfl,B0.out⟩
   ·have h2x:Hid ((a.n:Int)=L):=hid (by simpa using h2)
    rw [h2]at hV
    clear h2
    generalize spillB a=Sp at *
    replace hV:=hid hV
    go_enter Tryz.func281,Tryz.ntmps281
    go_upto_region 1 with fail
    refine wp_region_K (S:=S5 w.heap.size a) (fun _=>false) (by kernel_rfl) (g1) (fun hHeld=>?_)
    refine gkp 0 ?_
    refine gkt 1 ?_ (h:=by intro W hSw;obtain ⟨y0,y1,y2,y3,y4⟩:=hSw;go_simp;first |done |with_reducible rfl)
    refine gkp 2 ?_ (v:=.bool false) (h:=by intro W hSw;go_simp<;>simp [h1x.out])
    refine gkp 3 ?_
    refine gkp 4 ?_
    refine gkt 5 ?_ (h:=by intro W hSw;obtain ⟨y0,y1,y2,y3,y4⟩:=hSw;go_simp;first |done |with_reducible rfl)
    refine gk1 6 (fun K hK=>?_)
    go_simp
    go_at_call 197;refine (cy.out _).mono ?_;rintro e w1 ⟨rfl,hw⟩;obtain rfl:=hw.symm;have hR:=hHeld
    refine hK.out _ _ hR (fun hHeld=>?_)
    clear hK K
    (try simp only [Act.put,sA,sZ,sS])
    refine gkp 7 ?_
    refine gkp 8 ?_
    refine gkp 9 ?_
    refine gkp 10 ?_
    refine gkt 11 ?_ (h:=by intro W hSw;obtain ⟨y0,y1,y2,y3,y4⟩:=hSw;go_simp;first |done |with_reducible rfl)
    refine gkp 12 ?_
    refine gkp 13 ?_
    refine gkt 14 ?_ (h:=by intro W hSw;obtain ⟨y0,y1,y2,y3,y4⟩:=hSw;go_simp;first |done |with_reducible rfl)
    refine gk1 15 (fun K hK=>?_)
    go_simp
    go_at_call 138;refine (cl.out _).mono ?_;rintro e w1 ⟨rfl,hw⟩;obtain rfl:=hw.symm;have hR:=hHeld
    refine hK.out _ _ hR (fun hHeld=>?_)
    clear hK K
    (try simp only [Act.put,sA,sZ,sS])
    refine gkp 16 ?_ (v:=.bool false) (h:=by intro W hSw;go_simp<;>simp [h2x.out])
    refine gkp 17 ?_
    refine wpAnyK_done (by kernel_rfl) ?_ _
    cases Sp<;>cases h3:(a.x == 0)
    all_goals
     rw [h3]at hV
     go_wp2_with (first |(go_at_call 265;refine (cs.out _).mono ?_;rintro e w1 ⟨rfl,hb⟩;have H1:=hid hb;have x4:=keep_old hb g1.2.2.2.2;clear hb) |(go_at_call 282;refine (cp.out _).mono ?_;rintro e w1 ⟨rfl,hw⟩;obtain rfl:=hw.symm))
     go_ret
     exact ⟨by rw [hV.out];rfl,gt B0.out H1.out⟩
end Cel
namespace Cel
open Go.RowKit
def riseB:List C→Bool
 | []=>true
 | [_]=>true
 | a::b::r=>decide (a.k<b.k)&&riseB (b::r)
theorem rise_cons(a b:C)(r:List C):riseB (a::b::r)=(decide (a.k<b.k)&&riseB (b::r)):=rfl
theorem dropC2(cs:List C)(i:Nat)(h:i+1<cs.length):cs.drop i=cs.getD i default::cs.getD (i+1) default::cs.drop (i+2):=by
 rw [dropC cs i (by omega),dropC cs (i+1) h]
theorem rise_end(cs:List C)(i:Nat)(h:cs.length≤i+1):riseB (cs.drop i)=true:=by
 rcases Nat.lt_or_ge i cs.length with h1 |h1
 ·rw [dropC cs i h1,List.drop_of_length_le (by omega)];rfl
 ·rw [List.drop_of_length_le h1];rfl
abbrev S2(q:Nat)(b o:Nat)(n m:Nat)(o1 o2:Nat)(k1 k2:Int)(W:World):Prop:=
 W.cell? ⟨q,2,none⟩=some (.slice (some ⟨b,o,none⟩) n m)∧W.cell? ⟨b,o1,none⟩=some (.int .i64 k1)∧W.cell? ⟨b,o2,none⟩=some (.int .i64 k2)
theorem rises_any(leaf:Bool)(r:Int)(co:Option Addr)(cn cc:Nat)(cs:List C)(w:World)(h:Cs w co cn cc cs)(hcn:cn≤100000) :
  Calls Tryz.prog 279 #[.agg #[.bool leaf,.int .i64 r,.slice co cn cc]] w fun e w'=>e=.returned (.bool (riseB cs))∧Below w.heap.size w w':=by
 have h':=hid h
 have hl':=hid h.len
 obtain ⟨V,hV⟩:∃ V,V=riseB cs:=⟨_,rfl⟩
 have hV':=hid hV
 rw [←hV]
 clear h hV
 have q0:=hid (NB.new 111 w leaf r co cn cc)
 have b0:Hid (Below w.heap.size w (w.alloc (.cells #[.bool leaf,.int .i64 r,.slice co cn cc] 111))):=hid (ext1 _)
 go_enter Tryz.func279,Tryz.ntmps279
 go_wp2
 generalize w.alloc (.cells #[.bool leaf,.int .i64 r,.slice co cn cc] 111)=w0 at *
 go_loopw [3] (fun c W=>∃ (i:Nat),i≤cn∧c=.int .i64 ((i+1:Nat):Int)∧riseB (cs.drop i)=V∧NB 111 W w.heap.size leaf r co cn cc∧Below w.heap.size w W) (fun c _=>cn+1 - (intOf c).toNat)
 case atStart=>exact ⟨0,by omega,rfl,hV'.out.symm,q0.out,b0.out⟩
 case round=>
  obtain ⟨i,hi,rfl,he,hq,hb⟩:=hrel
  have he':=hid he
  have hq':=hid hq
  have hb':=hid hb
  obtain ⟨u0,u1,u2⟩:=hq.cells
  have hlt:=hq.lt
  clear he hq hb
  by_cases hik:i+1<cn
  ·obtain ⟨b,off,rfl,hc⟩:=h'.out.at_ (by omega)
   have x0:=((hc i (by omega)).keep hb'.out).1
   have x1:=((hc (i+1) hik).keep hb'.out).1
   have hd:=dropC2 cs i (by have:=hl'.out;omega)
   have hd1:=dropC cs (i+1) (by have:=hl'.out;omega)
   have e1:((i+1:Nat):Int) - 1=(i:Int):=by omega
   generalize cs.getD i default=a1 at *
   generalize cs.getD (i+1) default=a2 at *
   have hE:=he'.out
   rw [hd,rise_cons,←hd1]at hE
   clear hd hd1 he' hc
   have g1:S2 w.heap.size b off cn cc (off+(i+1)*5) (off+i*5) a2.k a1.k wr.drew:=⟨u2,x1,x0⟩
   obtain ⟨I,hI⟩:∃ I,I=i+1:=⟨_,rfl⟩
   rw [←hI]at g1 e1 ⊢
   have e2:Hid (I=i+1):=hid hI
   have e3:IntKind.i64.wrap ((I:Int) - 1)=(i:Int):=by rw [IntKind.wrap_i64];omega
   have hI2:I<cn:=by omega
   have hI3:i<cn:=by omega
   clear u0 u1 x0 x1 hI
   by_cases hk:a1.k<a2.k
   ·rw [show decide (a1.k<a2.k)=true by simpa using hk,Bool.true_and]at hE
    have hE':=hid hE
    have hk':Hid (a1.k<a2.k):=hid (by omega)
    clear hE hk
    go_upto_region 4 with fail
    refine wp_region_K (S:=S2 w.heap.size b off cn cc (off+I*5) (off+i*5) a2.k a1.k) (fun _=>false) (by kernel_rfl) (g1) (fun hHeld=>?_)
    refine gkp 0 ?_
    refine gkt 1 ?_ (h:=by intro W hSw;obtain ⟨y0,y1,y2⟩:=hSw;go_simp;first |done |with_reducible rfl)
    refine gkp 2 ?_
    refine gkp 3 ?_
    refine gkp 4 ?_
    refine gkt 5 ?_ (h:=by intro W hSw;obtain ⟨y0,y1,y2⟩:=hSw;go_simp;first |done |with_reducible rfl)
    refine gkp 6 ?_
    refine gkt 7 ?_ (h:=by intro W hSw;obtain ⟨y0,y1,y2⟩:=hSw;go_simp;first |done |with_reducible rfl)
    refine gkp 8 ?_
    refine gkp 9 ?_ (v:=.int .i64 (i:Int)) (h:=by intro W hSw;go_simp<;>(rw [IntKind.wrap_i64];omega))
    refine gkp 10 ?_
    refine gkp 11 ?_
    refine gkt 12 ?_ (h:=by intro W hSw;obtain ⟨y0,y1,y2⟩:=hSw;go_simp;first |done |with_reducible rfl)
    refine gkp 13 ?_ (v:=.bool false) (h:=by intro W hSw;go_simp<;>simp [hk'.out])
    refine wpAnyK_done (by kernel_rfl) ?_ _
    go_wp2
    refine ⟨⟨i+1,by omega,by have:=e2.out;subst this;go_num,hE'.out,?_,?_⟩,by have:=e2.out;simp [intOf];omega⟩
    ·exact hq'.out.keep (Below.refl _ _).drew
    ·exact hb'.out.drew
   ·rw [show decide (a1.k<a2.k)=false by simpa using hk,Bool.false_and]at hE
    subst hE
    have hk':Hid (a2.k≤a1.k):=hid (by omega)
    clear hk
    go_upto_region 4 with fail
    refine wp_region_K (S:=S2 w.heap.size b off cn cc (off+I*5) (off+i*5) a2.k a1.k) (fun _=>false) (by kernel_rfl) (g1) (fun hHeld=>?_)
    refine gkp 0 ?_
    refine gkt 1 ?_ (h:=by intro W hSw;obtain ⟨y0,y1,y2⟩:=hSw;go_simp;first |done |with_reducible rfl)
    refine gkp 2 ?_
    refine gkp 3 ?_
    refine gkp 4 ?_
    refine gkt 5 ?_ (h:=by intro W hSw;obtain ⟨y0,y1,y2⟩:=hSw;go_simp;first |done |with_reducible rfl)
    refine gkp 6 ?_
    refine gkt 7 ?_ (h:=by intro W hSw;obtain ⟨y0,y1,y2⟩:=hSw;go_simp;first |done |with_reducible rfl)
    refine gkp 8 ?_
    refine gkp 9 ?_ (v:=.int .i64 (i:Int)) (h:=by intro W hSw;go_simp<;>(rw [IntKind.wrap_i64];omega))
    refine gkp 10 ?_
    refine gkp 11 ?_
    refine gkt 12 ?_ (h:=by intro W hSw;obtain ⟨y0,y1,y2⟩:=hSw;go_simp;first |done |with_reducible rfl)
    refine gkp 13 ?_ (v:=.bool true) (h:=by intro W hSw;go_simp<;>simp [hk'.out])
    refine wpAnyK_done (by kernel_rfl) ?_ _
    go_wp2
    go_ret
    exact ⟨rfl,hb'.out.drew⟩
  ·have hE:=he'.out
   rw [rise_end cs i (by have:=hl'.out;omega)]at hE
   subst hE
   clear he'
   go_wp2
   go_ret
   exact ⟨rfl,hb'.out⟩
end Cel
namespace Cel
open Go.RowKit
def firstN(p:C→Bool):List C→Nat
 | []=>0
 | a::r=>if p a then 0 else firstN p r+1
def ixN(p:C→Bool)(cs:List C):Int:=if firstN p cs<cs.length then (firstN p cs:Int) else -1
theorem firstN_le(p:C→Bool)(cs:List C):firstN p cs≤cs.length:=by
 induction cs with
 | nil=>simp [firstN]
 | cons a r ih=>simp only [firstN,List.length_cons];split<;>omega
theorem first_any(p:C→Bool)(cs:List C):decide (firstN p cs<cs.length)=cs.any p:=by
 induction cs with
 | nil=>rfl
 | cons a r ih=>
  simp only [firstN,List.length_cons,List.any_cons]
  by_cases h:p a=true
  ·simp [h]
  ·simp only [Bool.not_eq_true]at h
   simp only [h,Bool.false_or,←ih]
   simp
theorem index_48(p:C→Bool)(q:Nat)(co:Option Addr)(cn cc:Nat)(cs:List C)(w:World)(h:Cs w co cn cc cs)(hcn:cn≤100000)
  (hp:∀ W a,Below w.heap.size w W→Cok W a→Calls Tryz.prog 210 #[.agg #[.int .i64 (a).k,.int .i64 (a).c,.int .i64 (a).l,.slice (a).o (a).n (a).m,.int .i64 (a).x],.pointer (some ⟨q,0,none⟩)] W fun e w'=>e=.returned (.bool (p a))∧Below W.heap.size W w') :
  Calls Tryz.prog 209 #[.slice co cn cc,.func (.func 210) #[] #[.pointer (some ⟨q,0,none⟩)]] w fun e w'=>e=.returned (.int .i64 (ixN p cs))∧Below w.heap.size w w':=by
 have h':=hid h
 have hl':=hid h.len
 have hp':=hid hp
 obtain ⟨V,hV⟩:∃ V,V=ixN p cs:=⟨_,rfl⟩
 have hV':=hid hV
 rw [←hV]
 clear h hV hp
 go_enter Tryz.func209,Tryz.ntmps209
 go_wp2
 go_loopw [8] (fun c W=>∃ (i:Nat),i≤cn∧c=.int .i64 (i:Int)∧i+firstN p (cs.drop i)=firstN p cs∧Below w.heap.size w W) (fun c _=>cn - (intOf c).toNat)
 case atStart=>exact ⟨0,by omega,rfl,by simp,Below.refl _ _⟩
 case round=>
  obtain ⟨i,hi,rfl,he,hb⟩:=hrel
  have he':=hid he
  have hb':=hid hb
  clear he hb
  by_cases hik:i<cn
  ·obtain ⟨b,off,rfl,hc⟩:=h'.out.at_ (by omega)
   have ha:=hid ((h'.out.keep hb'.out).ok_at hik)
   obtain ⟨x0,x1,x2,x3,x4⟩:=(hc i hik).keep hb'.out
   have hd:=dropC cs i (by have:=hl'.out;omega)
   generalize cs.getD i default=a at *
   rw [hd]at he'
   have ca:=hid (hp'.out wr a hb'.out ha.out)
   have hE:=he'.out
   simp only [firstN]at hE
   clear hd he' hc
   cases hpa:p a with
   | true=>
    rw [hpa]at ca hE
    simp only [if_true,Nat.add_zero]at hE
    have hVi:V=(i:Int):=by
     have h1:=hV'.out
     have h2:=hl'.out
     unfold ixN at h1
     rw [if_pos (by omega)]at h1
     omega
    clear hpa hE hV'
    subst hVi
    go_wp2_with (go_at_call 210;refine ca.out.mono ?_;rintro e w1 ⟨rfl,hb1⟩;have H1:=hid hb1;clear hb1)
    go_ret
    exact ⟨rfl,gt hb'.out H1.out⟩
   | false=>
    rw [hpa]at ca hE
    simp only [Bool.false_eq_true,if_false]at hE
    have hE':=hid hE
    clear hpa hE
    go_wp2_with (go_at_call 210;refine ca.out.mono ?_;rintro e w1 ⟨rfl,hb1⟩;have H1:=hid hb1;clear hb1)
    exact ⟨⟨i+1,by omega,by go_num,by have:=hE'.out;omega,gt hb'.out H1.out⟩,by simp [intOf];omega⟩
  ·obtain rfl:i=cn:=by omega
   have hVi:V = -1:=by
    have h1:=hV'.out
    have h2:=hl'.out
    have h3:=he'.out
    rw [List.drop_of_length_le (by omega)]at h3
    simp only [firstN,Nat.add_zero]at h3
    unfold ixN at h1
    rw [if_neg (by omega)]at h1
    exact h1
   clear hV'
   subst hVi
   go_wp2
   go_ret
   exact ⟨rfl,hb'.out⟩
theorem index_66(p:C→Bool)(q:Nat)(co:Option Addr)(cn cc:Nat)(cs:List C)(w:World)(h:Cs w co cn cc cs)(hcn:cn≤100000)
  (hp:∀ W a,Below w.heap.size w W→Cok W a→Calls Tryz.prog 320 #[.agg #[.int .i64 (a).k,.int .i64 (a).c,.int .i64 (a).l,.slice (a).o (a).n (a).m,.int .i64 (a).x],.pointer (some ⟨q,0,none⟩)] W fun e w'=>e=.returned (.bool (p a))∧Below W.heap.size W w') :
  Calls Tryz.prog 209 #[.slice co cn cc,.func (.func 320) #[] #[.pointer (some ⟨q,0,none⟩)]] w fun e w'=>e=.returned (.int .i64 (ixN p cs))∧Below w.heap.size w w':=by
 have h':=hid h
 have hl':=hid h.len
 have hp':=hid hp
 obtain ⟨V,hV⟩:∃ V,V=ixN p cs:=⟨_,rfl⟩
 have hV':=hid hV
 rw [←hV]
 clear h hV hp
 go_enter Tryz.func209,Tryz.ntmps209
 go_wp2
 go_loopw [8] (fun c W=>∃ (i:Nat),i≤cn∧c=.int .i64 (i:Int)∧i+firstN p (cs.drop i)=firstN p cs∧Below w.heap.size w W) (fun c _=>cn - (intOf c).toNat)
 case atStart=>exact ⟨0,by omega,rfl,by simp,Below.refl _ _⟩
 case round=>
  obtain ⟨i,hi,rfl,he,hb⟩:=hrel
  have he':=hid he
  have hb':=hid hb
  clear he hb
  by_cases hik:i<cn
  ·obtain ⟨b,off,rfl,hc⟩:=h'.out.at_ (by omega)
   have ha:=hid ((h'.out.keep hb'.out).ok_at hik)
   obtain ⟨x0,x1,x2,x3,x4⟩:=(hc i hik).keep hb'.out
   have hd:=dropC cs i (by have:=hl'.out;omega)
   generalize cs.getD i default=a at *
   rw [hd]at he'
   have ca:=hid (hp'.out wr a hb'.out ha.out)
   have hE:=he'.out
   simp only [firstN]at hE
   clear hd he' hc
   cases hpa:p a with
   | true=>
    rw [hpa]at ca hE
    simp only [if_true,Nat.add_zero]at hE
    have hVi:V=(i:Int):=by
     have h1:=hV'.out
     have h2:=hl'.out
     unfold ixN at h1
     rw [if_pos (by omega)]at h1
     omega
    clear hpa hE hV'
    subst hVi
    go_wp2_with (go_at_call 320;refine ca.out.mono ?_;rintro e w1 ⟨rfl,hb1⟩;have H1:=hid hb1;clear hb1)
    go_ret
    exact ⟨rfl,gt hb'.out H1.out⟩
   | false=>
    rw [hpa]at ca hE
    simp only [Bool.false_eq_true,if_false]at hE
    have hE':=hid hE
    clear hpa hE
    go_wp2_with (go_at_call 320;refine ca.out.mono ?_;rintro e w1 ⟨rfl,hb1⟩;have H1:=hid hb1;clear hb1)
    exact ⟨⟨i+1,by omega,by go_num,by have:=hE'.out;omega,gt hb'.out H1.out⟩,by simp [intOf];omega⟩
  ·obtain rfl:i=cn:=by omega
   have hVi:V = -1:=by
    have h1:=hV'.out
    have h2:=hl'.out
    have h3:=he'.out
    rw [List.drop_of_length_le (by omega)]at h3
    simp only [firstN,Nat.add_zero]at h3
    unfold ixN at h1
    rw [if_neg (by omega)]at h1
    exact h1
   clear hV'
   subst hVi
   go_wp2
   go_ret
   exact ⟨rfl,hb'.out⟩
theorem box1(t:TypeId)(w:World)(v:Value):(w.alloc (.cells #[v] t)).cell? ⟨w.heap.size,0,none⟩=some v:=by
 have h:=heap_alloc_new w (.cells #[v] t)
 unfold World.cell?
 rw [h];rfl
theorem contains_any(p:C→Bool)(q:Nat)(co:Option Addr)(cn cc:Nat)(cs:List C)(w:World)(h:Cs w co cn cc cs)(hcn:cn≤100000)
  (hp:∀ W a,Below w.heap.size w W→Cok W a→Calls Tryz.prog 320 #[.agg #[.int .i64 (a).k,.int .i64 (a).c,.int .i64 (a).l,.slice (a).o (a).n (a).m,.int .i64 (a).x],.pointer (some ⟨q,0,none⟩)] W fun e w'=>e=.returned (.bool (p a))∧Below W.heap.size W w') :
  Calls Tryz.prog 319 #[.slice co cn cc,.func (.func 320) #[] #[.pointer (some ⟨q,0,none⟩)]] w fun e w'=>e=.returned (.bool (cs.any p))∧Below w.heap.size w w':=by
 have c:=hid (index_66 p q co cn cc cs w h hcn hp)
 have hx:(0≤ixN p cs∧cs.any p=true)∨(ixN p cs<0∧cs.any p=false):=by
  rw [←first_any]
  unfold ixN
  split<;>rename_i h1
  ·left;exact ⟨by omega,by simpa using h1⟩
  ·right;exact ⟨by omega,by simpa using h1⟩
 generalize ixN p cs=I at *
 generalize cs.any p=V at *
 clear h hp
 rcases hx with ⟨h1,rfl⟩ | ⟨h1,rfl⟩
 ·go_enter Tryz.func319,Tryz.ntmps319
  go_wp2_with (go_at_call 209;refine c.out.mono ?_;rintro e w1 ⟨rfl,hb1⟩;have H1:=hid hb1;clear hb1)
  go_ret
  exact ⟨rfl,H1.out⟩
 ·have h2:¬0≤I:=by omega
  go_enter Tryz.func319,Tryz.ntmps319
  go_wp2_with (go_at_call 209;refine c.out.mono ?_;rintro e w1 ⟨rfl,hb1⟩;have H1:=hid hb1;clear hb1)
  go_ret
  exact ⟨by simp<;>omega,H1.out⟩
theorem all1_39(q:Nat)(a:C)(W:World)(hn:a.b.length=a.n)(hq:W.cell? ⟨q,0,none⟩=some (.func (.func 281) #[] #[])) :
  Calls Tryz.prog 320 #[.agg #[.int .i64 (a).k,.int .i64 (a).c,.int .i64 (a).l,.slice (a).o (a).n (a).m,.int .i64 (a).x],.pointer (some ⟨q,0,none⟩)] W fun e w'=>e=.returned (.bool (!leafB a))∧Below W.heap.size W w':=by
 have c:=hid (fun W=>inleaf_any a W hn)
 have hlt:=lt_cell hq
 simp only at hlt
 generalize leafB a=V at *
 clear hn
 go_enter Tryz.func320,Tryz.ntmps320
 go_wp2_with (go_at_call 281;refine (c.out _).mono ?_;rintro e w1 ⟨rfl,hb1⟩;have H1:=hid hb1;clear hb1)
 go_ret
 exact ⟨rfl,gt (ext1 _) H1.out⟩
theorem all_39(leaf:Bool)(r:Int)(co:Option Addr)(cn cc:Nat)(cs:List C)(w:World)(h:Cs w co cn cc cs)(hcn:cn≤100000) :
  Calls Tryz.prog 280 #[.agg #[.bool leaf,.int .i64 r,.slice co cn cc],.func (.func 281) #[] #[]] w fun e w'=>e=.returned (.bool (cs.all leafB))∧Below w.heap.size w w':=by
 have B0:Hid (Below w.heap.size w ((w.alloc (.cells #[.bool leaf,.int .i64 r,.slice co cn cc] 111)).alloc (.cells #[.func (.func 281) #[] #[]] 300))):=hid (gt (ext1 _) (ext1 _))
 have x0:=box1 300 (w.alloc (.cells #[.bool leaf,.int .i64 r,.slice co cn cc] 111)) (.func (.func 281) #[] #[])
 have c:=hid (contains_any (fun a=>!leafB a) (w.alloc (.cells #[.bool leaf,.int .i64 r,.slice co cn cc] 111)).heap.size co cn cc cs _ (h.keep B0.out) hcn (fun W a hb ha=>all1_39 _ a W ha.rd.1 (keep_old hb x0)))
 have e1:cs.all leafB = !(cs.any fun a=>!leafB a):=List.all_eq_not_any_not
 rw [e1]
 generalize (cs.any fun a=>!leafB a)=V at *
 clear h e1 x0
 rw [show (w.alloc (.cells #[.bool leaf,.int .i64 r,.slice co cn cc] 111)).heap.size=w.heap.size+1 by simp]at c
 go_enter Tryz.func280,Tryz.ntmps280
 go_wp2_with (go_at_call 319;refine c.out.mono ?_;rintro e w1 ⟨rfl,hb1⟩;have H1:=hid hb1;clear hb1)
 go_ret
 exact ⟨rfl,gt B0.out H1.out⟩
theorem all1_41(q:Nat)(a:C)(W:World)(hn:a.b.length=a.n)(hq:W.cell? ⟨q,0,none⟩=some (.func (.func 283) #[] #[])) :
  Calls Tryz.prog 320 #[.agg #[.int .i64 (a).k,.int .i64 (a).c,.int .i64 (a).l,.slice (a).o (a).n (a).m,.int .i64 (a).x],.pointer (some ⟨q,0,none⟩)] W fun e w'=>e=.returned (.bool (!aboveB a))∧Below W.heap.size W w':=by
 have c:=hid (fun W=>above_any a W hn)
 have hlt:=lt_cell hq
 simp only at hlt
 generalize aboveB a=V at *
 clear hn
 go_enter Tryz.func320,Tryz.ntmps320
 go_wp2_with (go_at_call 283;refine (c.out _).mono ?_;rintro e w1 ⟨rfl,hb1⟩;have H1:=hid hb1;clear hb1)
 go_ret
 exact ⟨rfl,gt (ext1 _) H1.out⟩
theorem all_41(leaf:Bool)(r:Int)(co:Option Addr)(cn cc:Nat)(cs:List C)(w:World)(h:Cs w co cn cc cs)(hcn:cn≤100000) :
  Calls Tryz.prog 280 #[.agg #[.bool leaf,.int .i64 r,.slice co cn cc],.func (.func 283) #[] #[]] w fun e w'=>e=.returned (.bool (cs.all aboveB))∧Below w.heap.size w w':=by
 have B0:Hid (Below w.heap.size w ((w.alloc (.cells #[.bool leaf,.int .i64 r,.slice co cn cc] 111)).alloc (.cells #[.func (.func 283) #[] #[]] 300))):=hid (gt (ext1 _) (ext1 _))
 have x0:=box1 300 (w.alloc (.cells #[.bool leaf,.int .i64 r,.slice co cn cc] 111)) (.func (.func 283) #[] #[])
 have c:=hid (contains_any (fun a=>!aboveB a) (w.alloc (.cells #[.bool leaf,.int .i64 r,.slice co cn cc] 111)).heap.size co cn cc cs _ (h.keep B0.out) hcn (fun W a hb ha=>all1_41 _ a W ha.rd.1 (keep_old hb x0)))
 have e1:cs.all aboveB = !(cs.any fun a=>!aboveB a):=List.all_eq_not_any_not
 rw [e1]
 generalize (cs.any fun a=>!aboveB a)=V at *
 clear h e1 x0
 rw [show (w.alloc (.cells #[.bool leaf,.int .i64 r,.slice co cn cc] 111)).heap.size=w.heap.size+1 by simp]at c
 go_enter Tryz.func280,Tryz.ntmps280
 go_wp2_with (go_at_call 319;refine c.out.mono ?_;rintro e w1 ⟨rfl,hb1⟩;have H1:=hid hb1;clear hb1)
 go_ret
 exact ⟨rfl,gt B0.out H1.out⟩
end Cel
namespace Cel
open Go.RowKit
def goodN(leaf:Bool)(r:Int)(cs:List C):Bool:=riseB cs&&(if leaf then r == 0&&cs.all leafB else pagedB r&&cs.all aboveB)
theorem good_any(leaf:Bool)(r:Int)(co:Option Addr)(cn cc:Nat)(cs:List C)(w:World)(h:Cs w co cn cc cs)(hcn:cn≤100000) :
  Calls Tryz.prog 228 #[.agg #[.bool leaf,.int .i64 r,.slice co cn cc]] w fun e w'=>e=.returned (.bool (goodN leaf r cs))∧Below w.heap.size w w':=by
 have q0:=NB.new 111 w leaf r co cn cc
 have b0:Hid (Below w.heap.size w (w.alloc (.cells #[.bool leaf,.int .i64 r,.slice co cn cc] 111))):=hid (ext1 _)
 have hlt:=q0.lt
 generalize hw0:w.alloc (.cells #[.bool leaf,.int .i64 r,.slice co cn cc] 111)=w0 at q0 b0 hlt
 have hr:=hid (rises_any leaf r co cn cc cs w0 (h.keep b0.out) hcn)
 have h39:=hid (fun W (hb:Below w0.heap.size w0 W)=>all_39 leaf r co cn cc cs W ((h.keep b0.out).keep hb) hcn)
 have h41:=hid (fun W (hb:Below w0.heap.size w0 W)=>all_41 leaf r co cn cc cs W ((h.keep b0.out).keep hb) hcn)
 have hp:=hid (paged_any r)
 change Hid (∀ w,Calls Tryz.prog 282 #[.int .i64 r] w fun e w'=>e=.returned (.bool (pagedB r))∧w'=w) at hp
 have q0':=hid q0
 obtain ⟨V,hV⟩:∃ V,V=goodN leaf r cs:=⟨_,rfl⟩
 rw [←hV]
 unfold goodN at hV
 generalize riseB cs=R at *
 generalize cs.all leafB=A1 at *
 generalize cs.all aboveB=A2 at *
 generalize pagedB r=P at *
 replace hV:=hid hV
 replace hw0:=hid hw0
 clear h q0
 cases R with
 | false=>
  obtain rfl:V=false:=hV.out
  clear hV
  go_enter Tryz.func228,Tryz.ntmps228
  go_wp2_with (go_at_call 279;rw [hw0.out];refine hr.out.mono ?_;rintro e w1 ⟨rfl,hb1⟩;have H1:=hid hb1;clear hb1)
  go_ret
  exact ⟨rfl,gt b0.out H1.out⟩
 | true=>
  cases leaf with
  | true=>
   cases hr0:(r == 0)
   all_goals
    go_enter Tryz.func228,Tryz.ntmps228
    go_wp2_with (first
     | (go_at_call 279;rw [hw0.out];refine hr.out.mono ?_;rintro e w1 ⟨rfl,hb1⟩;have H1:=hid hb1;obtain ⟨u0,u1,u2⟩:=(q0'.out.keep hb1).cells;clear hb1)
     | (go_at_call 280;refine (h39.out _ H1.out).mono ?_;rintro e w2 ⟨rfl,hb2⟩;have H2:=hid hb2;clear hb2))
    go_ret
    have hV2:=hV.out
    simp [hr0]at hV2
    subst hV2
    first |exact ⟨rfl,gt b0.out H1.out⟩ |exact ⟨rfl,gt b0.out (gt H1.out H2.out)⟩
  | false=>
   cases P
   all_goals
    go_enter Tryz.func228,Tryz.ntmps228
    go_wp2_with (first
     | (go_at_call 279;rw [hw0.out];refine hr.out.mono ?_;rintro e w1 ⟨rfl,hb1⟩;have H1:=hid hb1;obtain ⟨u0,u1,u2⟩:=(q0'.out.keep hb1).cells;clear hb1)
     | (go_at_call 282;refine (hp.out _).mono ?_;rintro e w2 ⟨rfl,hw⟩;obtain rfl:=hw.symm)
     | (go_at_call 280;refine (h41.out _ H1.out).mono ?_;rintro e w2 ⟨rfl,hb2⟩;have H2:=hid hb2;clear hb2))
    go_ret
    have hV2:=hV.out
    simp at hV2
    subst hV2
    first |exact ⟨rfl,gt b0.out H1.out⟩ |exact ⟨rfl,gt b0.out (gt H1.out H2.out)⟩
end Cel
namespace Cel
open Go.RowKit
def zs(n:Nat):List Nat:=List.replicate n 0
theorem zs_length(n:Nat):(zs n).length=n:=by simp [zs]
def padN(ys:List Nat):List Nat:=ys++zs (512 - ys.length)
theorem padN_length(ys:List Nat)(h:ys.length≤512):(padN ys).length=512:=by simp [padN,zs_length];omega
def wrow(ys:List Nat)(at_:Nat):List Value:=bs (padN ys)++[.int .i64 (at_:Int)]
theorem wrow_length(ys:List Nat)(k:Nat)(h:ys.length≤512):(wrow ys k).length=513:=by simp [wrow,bs_length,padN_length ys h]
def WB(W:World)(q:Nat)(ys:List Nat):Prop:=ys.length≤512∧W.heap[q]? = some (.cells (wrow ys ys.length).toArray 320 (0,0))
variable {ys:List Nat} {q:Nat} {W:World}
theorem WB.keep{W':World}(h:WB W q ys)(hb:Below W.heap.size W W'):WB W' q ys:=⟨h.1,by rw [hb.block q (lt_of_block h.2)];exact h.2⟩
variable {k:Nat}
theorem wb_at(hl:ys.length≤512)(h:W.heap[q]? = some (.cells (wrow ys k).toArray 320 (0,0))):W.cell? ⟨q,512,none⟩=some (.int .i64 (k:Int))∧W.frozen? ⟨q,512,none⟩=false:=by
 constructor
 ·unfold World.cell?
  rw [h]
  simp only
  rw [List.getElem?_toArray,wrow,List.getElem?_append_right (by rw [bs_length,padN_length ys hl];exact Nat.le_refl _),bs_length,padN_length ys hl]
  rfl
 ·simp [World.frozen?,h]
theorem splice_pad(ys xs:List Nat)(h:ys.length+xs.length≤512)(k:Nat):splice (wrow ys k) ys.length (bs xs)=wrow (ys++xs) k:=by
 unfold splice wrow padN
 rw [bs_length]
 have h1:(bs (ys++zs (512 - ys.length))++[Value.int .i64 (k:Int)]).take ys.length=bs ys:=by
  rw [bs_append,List.append_assoc,List.take_append_of_le_length (by rw [bs_length];exact Nat.le_refl _),List.take_of_length_le (by rw [bs_length];exact Nat.le_refl _)]
 have h2:(bs (ys++zs (512 - ys.length))++[Value.int .i64 (k:Int)]).drop (ys.length+xs.length)=bs (zs (512 - (ys.length+xs.length)))++[Value.int .i64 (k:Int)]:=by
  rw [List.drop_append_of_le_length (by rw [bs_length];simp [zs_length];omega)]
  congr 1
  unfold bs
  rw [←List.map_drop,List.drop_append,List.drop_of_length_le (by omega),List.nil_append]
  unfold zs
  rw [List.drop_replicate]
  congr 2
  omega
 rw [h1,h2]
 simp [bs_append,List.append_assoc]
theorem set_at(ys:List Nat)(k m:Nat)(hl:ys.length≤512):(wrow ys k).set 512 (.int .i64 (m:Int))=wrow ys m:=by
 unfold wrow
 rw [List.set_append_right _ _ (by rw [bs_length,padN_length ys hl];exact Nat.le_refl _),bs_length,padN_length ys hl]
 rfl
theorem wb_set{z:Int}(hl:ys.length≤512)(h:W.heap[q]? = some (.cells (wrow ys k).toArray 320 (0,0)))(hz:z=(ys.length:Int)):WB (W.setCell ⟨q,512,none⟩ (.int .i64 z)) q ys:=by
 subst hz
 refine ⟨hl,?_⟩
 rw [heap_setCell_same W q 512 _ 320 _ h,List.setIfInBounds_toArray,set_at ys k ys.length hl]
theorem step_copy_page{P:Program}{ops:Array Oper}{o:Oper}{a:Act}{w:World}{K:Act→World→Prop}{Q:Exit→Act→World→Prop}{E:Prop}(hgd:o.guard=none)(d s:Operand)(dT sT:TypeId)
  (ho:o.op=.call { callee:=.builtin .copy,args:=#[d,s],argTypes:=#[dT,sT] }) (elem:TypeId) (hu:P.underlying dT=some (.slice elem)) (hsz:(P.info? elem).map (·.size)=some 1)
  (dp sp:Option Addr) (dLen dCap sLen sCap:Nat) (hd:a.eval d=.slice dp dLen dCap) (hs:a.eval s=.slice sp sLen sCap)
  (g off:Nat) (cur:List Value) (t:TypeId) (hg:w.heap[g]? = some (.cells cur.toArray t (0,0))) (cs:List Value) (hn:cs.length=Nat.min sLen dLen)
  (hpos:0<cs.length→dp=some ⟨g,off,none⟩∧∃ ad,sp=some ad∧∀ j v,cs[j]? = some v→w.cell? (ad.add j)=some v)
  (hfit:off+cs.length≤cur.length) (h1:∀ v∈cs,v.oneCell'=true)
  (h:∀ w',Hid (w'.heap[g]? = some (.cells (splice cur off cs).toArray t (0,0)))→w.grownBy w' (some g)→w'.heap.size=w.heap.size→K (a.put o.dst (goInt cs.length)) w') :
  if Region.wanted o (yielded ops a.tmps)=true then Oper.wp P o a w K Q else E:=by
 have hw:Region.wanted o (yielded ops a.tmps)=true:=by simp [Region.wanted,hgd]
 rw [if_pos hw]
 by_cases h0:cs.length=0
 ·obtain rfl:cs = []:=List.eq_nil_of_length_eq_zero h0
  have hrun:=run_copy_none (P:=P) w dT sT o.type elem dp sp dLen dCap sLen sCap hu hsz (by simpa using hn.symm)
  unfold Oper.wp
  simp [execOp,ho,resolve,invoke,builtin,hd,hs,hrun,Result.andThen]
  exact h w (show _=_ by simpa [splice] using hg) (World.grownBy.refl _ _) rfl
 ·obtain ⟨rfl,ad,rfl,hsrc⟩:=hpos (by omega)
  have hrun:=run_copy_row (P:=P) w dT sT o.type elem g off dLen dCap ad sLen sCap cur.toArray t cs hu hsz hg hn hsrc (by simpa using hfit) h1
  unfold Oper.wp
  simp [execOp,ho,resolve,invoke,builtin,hd,hs,hrun,Result.andThen]
  exact h _ (show _=_ by simpa [splice] using setRow_heap w g _ _ t _ hg) ⟨rfl,rfl,rfl,by simp [World.setRow],fun k _ hk=>setRow_other w g k _ (fun e=>hk (by rw [e]))⟩ (by simp [World.setRow])
abbrev SW(q k:Nat)(W:World):Prop:=W.cell? ⟨q,512,none⟩=some (.int .i64 (k:Int))
theorem Tryz.u60:Tryz.prog.underlying 263=some (.array 512 5):=by kernel_rfl
variable {a b:World} {p:Nat}
theorem grown_drew(h:a.drew.grownBy b (some p)):a.grownBy b (some p):=⟨h.os,h.tape,h.output,h.size,h.block⟩
theorem len60:Tryz.prog.arrayLen 263=512:=by kernel_rfl
theorem elem60:Tryz.prog.elem 263=5:=by kernel_rfl
theorem cut60(q k:Nat)(h:k≤512)(W:World):(Instr.sliceAt 263 (.pointer (some ⟨q,0,none⟩)) (some (.int .i64 (k:Int))) none none).run Tryz.prog W =
  .ok (.slice (some (if k=512 then ⟨q,0,none⟩ else ⟨q,k,none⟩)) (512 - k) (512 - k)) W:=by
 have h1:(sizeOf 5).run Tryz.prog W=.ok 1 W:=by kernel_rfl
 rw [run_sliceAt_array_l W 263 _ (by kernel_rfl) .i64 (k:Int) (by omega) (by rw [len60];omega),len60,elem60,h1]
 simp only [Result.andThen,slicedAt,Int.toNat_natCast,Nat.mul_one]
 by_cases hk:k=512
 ·rw [if_pos hk,if_pos hk.symm]
 ·rw [if_neg hk,if_neg (fun e=>hk e.symm),Addr.add_lit,Nat.zero_add]
theorem wbytes_any(q:Nat)(ys:List Nat)(so:Option Addr)(n c:Nat)(xs:List Nat)(W:World)(h:WB W q ys)(hr:Rd W so n c xs)(hn:ys.length+n≤512) :
  Calls Tryz.prog 285 #[.pointer (some ⟨q,0,none⟩),.slice so n c] W fun e w'=>e=.returned (.tuple #[])∧WB w' q (ys++xs)∧W.grownBy w' (some q):=by
 obtain ⟨k,hk⟩:∃ k,k=ys.length:=⟨_,rfl⟩
 have hlx:=hid hr.1
 have hl0:=h.1
 have hg:=h.2
 rw [←hk]at hg
 have g1:SW q k W.drew:=(wb_at h.1 hg).1
 have hg':Hid (W.drew.heap[q]? = some (.cells (wrow ys k).toArray 320 (0,0))):=hid hg
 have h':Hid (Rd W.drew so n c xs):=hid (hr.keep (Below.refl _ _).drew)
 have hwl:=hid (wrow_length ys k h.1)
 have hxy:Hid ((ys++xs).length≤512):=hid (by have:=hr.1;simp;omega)
 have hsp:Hid (splice (wrow ys k) k (bs xs)=wrow (ys++xs) k):=hid (by have:=splice_pad ys xs (by have:=hr.1;omega) k;rw [←hk]at this;exact this)
 have hbl:Hid ((bs xs).length=n):=hid (by rw [bs_length,hr.1])
 have hkn:k+n≤512:=by omega
 have hk':=hid hk
 clear h hr hg hk hn
 by_cases hkf:k=512
 ·subst hkf
  obtain rfl:n=0:=by omega
  have hcut:=fun W=>cut60 q 512 (Nat.le_refl _) W
  rw [if_pos rfl]at hcut
  go_enter Tryz.func285,Tryz.ntmps285
  go_upto_region 0 with fail
  refine wp_region_K (S:=SW q 512) (fun i=>i == 17) (by kernel_rfl) (g1) (fun hHeld=>?_)
  refine gkp 0 ?_
  refine gkp 1 ?_
  refine gkp 2 ?_
  refine gkt 3 ?_ (h:=by intro W hSw;go_simp;first |done |with_reducible rfl)
  refine gkp 4 ?_
  refine gkp 5 ?_
  refine gkp 6 ?_
  refine gkp 7 ?_
  refine gkp 8 ?_
  refine gkp 9 ?_
  refine gkt 10 ?_ (h:=by intro W hSw;go_simp;first |done |with_reducible rfl)
  refine gkp 11 ?_
  refine gkp 12 ?_
  refine gk1 13 (fun K hK=>?_)
  refine step_copy_page rfl (.tmp 15) (.tmp 16) 48 48 rfl 5 Tryz.underlying48 (by kernel_rfl) (some ⟨q,0,none⟩) so 0 0 0 c rfl rfl q 512 (wrow ys 512) 320 (by exact hg'.out) (bs xs) (by have:=hlx.out;rw [bs_length];show _=min _ _;omega) (fun hp=>by exfalso;rw [bs_length,hlx.out]at hp;omega) (by rw [bs_length,hwl.out];have:=hlx.out;omega) (bs_one xs) ?_;intro w2 hg2 hgr2 hsz2;have hR:SW q 512 w2:=(wb_at hxy.out (hsp.out▸hg2.out)).1;have G2:=hid (grown_drew hgr2);have Z2:=hid hsz2;obtain ⟨hat,hfz⟩:=wb_at hxy.out (hsp.out▸hg2.out);clear hgr2 hsz2;rw [hbl.out]
  refine hK.out _ _ hR (fun hHeld=>?_)
  clear hK K
  (try simp only [Act.put,sA,sZ,sS])
  refine gkp 14 ?_
  refine gkp 15 ?_
  refine gkp 16 ?_
  refine gkl 17 (fun K hK=>?_)
  go_simp
  refine hK.out _ _ ?_
  clear hK K
  (try simp only [Act.put,sA,sZ,sS])
  refine wpAnyK_done (by kernel_rfl) ?_ _
  go_wp2
  go_end0
  refine ⟨rfl,wb_set hxy.out (hsp.out▸hg2.out) ?_,grow_trans G2.out (grow_set _ _ _ _)⟩
  have h1:=hk'.out
  have h2:=hlx.out
  simp
  rw [IntKind.wrap_i64]
  omega
 ·have hk5:k<512:=by omega
  have hcut:=fun W=>cut60 q k (by omega) W
  rw [if_neg hkf]at hcut
  replace hkf:=hid hkf
  go_enter Tryz.func285,Tryz.ntmps285
  go_upto_region 0 with fail
  refine wp_region_K (S:=SW q k) (fun i=>i == 17) (by kernel_rfl) (g1) (fun hHeld=>?_)
  refine gkp 0 ?_
  refine gkp 1 ?_
  refine gkp 2 ?_
  refine gkt 3 ?_ (h:=by intro W hSw;go_simp;first |done |with_reducible rfl)
  refine gkp 4 ?_
  refine gkp 5 ?_
  refine gkp 6 ?_
  refine gkp 7 ?_
  refine gkp 8 ?_
  refine gkp 9 ?_
  refine gkt 10 ?_ (h:=by intro W hSw;go_simp;first |done |with_reducible rfl)
  refine gkp 11 ?_
  refine gkp 12 ?_
  refine gk1 13 (fun K hK=>?_)
  refine step_copy_page rfl (.tmp 15) (.tmp 16) 48 48 rfl 5 Tryz.underlying48 (by kernel_rfl) (some ⟨q,k,none⟩) so (512 - k) (512 - k) n c rfl rfl q k (wrow ys k) 320 (by exact hg'.out) (bs xs) (by have:=hlx.out;rw [bs_length];show _=min _ _;omega) (fun hp=>⟨rfl,(by obtain ⟨b2,o2,e2,hc2⟩:=h'.out.2.2.2 (by have:=hlx.out;rw [bs_length]at hp;omega);exact ⟨_,e2,fun j v hv=>by obtain ⟨hj,rfl⟩:=bs_get' xs j v hv;rw [Addr.add_lit];exact hc2 j (by have:=hlx.out;omega)⟩)⟩) (by rw [bs_length,hwl.out];have:=hlx.out;omega) (bs_one xs) ?_;intro w2 hg2 hgr2 hsz2;have hR:SW q k w2:=(wb_at hxy.out (hsp.out▸hg2.out)).1;have G2:=hid (grown_drew hgr2);have Z2:=hid hsz2;obtain ⟨hat,hfz⟩:=wb_at hxy.out (hsp.out▸hg2.out);clear hgr2 hsz2;rw [hbl.out]
  refine hK.out _ _ hR (fun hHeld=>?_)
  clear hK K
  (try simp only [Act.put,sA,sZ,sS])
  refine gkp 14 ?_
  refine gkp 15 ?_
  refine gkp 16 ?_
  refine gkl 17 (fun K hK=>?_)
  go_simp
  refine hK.out _ _ ?_
  clear hK K
  (try simp only [Act.put,sA,sZ,sS])
  refine wpAnyK_done (by kernel_rfl) ?_ _
  go_wp2
  go_end0
  refine ⟨rfl,wb_set hxy.out (hsp.out▸hg2.out) ?_,grow_trans G2.out (grow_set _ _ _ _)⟩
  have h1:=hk'.out
  have h2:=hlx.out
  simp
  rw [IntKind.wrap_i64]
  omega
theorem Rd.grown{ao:Option Addr}{n cap:Nat}{xs:List Nat}(h:Rd a ao n cap xs)(hg:a.grownBy b (some p))(hne:0<n→∀ g o,ao=some ⟨g,o,none⟩→g≠p):Rd b ao n cap xs:=by
 refine ⟨h.1,h.2.1,h.2.2.1,fun hp=>?_⟩
 obtain ⟨g,off,e,hc⟩:=h.2.2.2 hp
 exact ⟨g,off,e,fun t ht=>grow_cell hg (hc t ht) (hne hp g off e)⟩
theorem wnum_any(q:Nat)(ys:List Nat)(v:Int)(s:Nat)(W:World)(h:WB W q ys)(hs:s≤8)(hn:ys.length+s≤512) :
  Calls Tryz.prog 231 #[.pointer (some ⟨q,0,none⟩),.int .i64 v,.int .i64 (s:Int)] W fun e w'=>e=.returned (.tuple #[])∧WB w' q (ys++putN (uN v) s false)∧W.grownBy w' (some q):=by
 have cp:=hid (put_any none 0 0 [] (uN v) (s:Int) s false W (Rd.nil W) (by omega) hs (by omega))
 simp only [Nat.zero_add,List.nil_append]at cp
 have hu:=uN_wrap v
 have h':=hid h
 have hl:=putN_length (uN v) s false
 generalize uN v=u at *
 clear h
 go_enter Tryz.func231,Tryz.ntmps231
 go_wp2_with (first
  | (go_at_call 255;refine cp.out.mono ?_;rintro e w1 ⟨rfl,ho,hb⟩;have O1:=hid ho;have B1:=hid hb;clear ho hb)
  | (go_at_call 285;refine (wbytes_any q ys _ s s _ _ (h'.out.keep B1.out) (rd_own O1.out) hn).mono ?_;rintro e w2 ⟨rfl,hw,hg⟩;have W2:=hid hw;have G2:=hid hg;clear hw hg))
 go_end0
 exact ⟨rfl,W2.out,grow_trans (grow_below B1.out) G2.out⟩
theorem wvar_any(q:Nat)(ys:List Nat)(u:Nat)(W:World)(h:WB W q ys)(hu:u<18446744073709551616)(hn:ys.length+szN u≤512) :
  Calls Tryz.prog 284 #[.pointer (some ⟨q,0,none⟩),.int .u64 (u:Int)] W fun e w'=>e=.returned (.tuple #[])∧WB w' q (ys++varN u)∧W.grownBy w' (some q):=by
 have cp:=hid (var_any none 0 0 [] u W (Rd.nil W) hu (by omega))
 simp only [Nat.zero_add,List.nil_append]at cp
 have h':=hid h
 have hl:=varN_length u
 generalize szN u=s at *
 clear h
 go_enter Tryz.func284,Tryz.ntmps284
 go_wp2_with (first
  | (go_at_call 321;refine cp.out.mono ?_;rintro e w1 ⟨rfl,ho,hb⟩;have O1:=hid ho;have B1:=hid hb;clear ho hb)
  | (go_at_call 285;refine (wbytes_any q ys _ s s _ _ (h'.out.keep B1.out) (rd_own O1.out) hn).mono ?_;rintro e w2 ⟨rfl,hw,hg⟩;have W2:=hid hw;have G2:=hid hg;clear hw hg))
 go_end0
 exact ⟨rfl,W2.out,grow_trans (grow_below B1.out) G2.out⟩
end Cel
end Go.Proofs.YtfcikkechphmaaaGreatDoor
