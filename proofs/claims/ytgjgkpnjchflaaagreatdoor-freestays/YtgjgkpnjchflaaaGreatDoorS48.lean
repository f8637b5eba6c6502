/- The law FreeStays of package hachurelaw08 returns true for every slice of acts and every row of words, and leaves its arguments as they were; the condition: the package-level variable sum.carried holds, when the call begins, what the program's own text lays in it (the card ties it to that text). -/
import Derived.Test.YtgjgkpnjchflaaaGreatDoorRows
import Derived.Test.YtgjgkpnjchflaaaGreatDoorTie
import Derived.Test.YtgjgkpnjchflaaaGreatDoorCards
import Derived.Test.YtgjgkpnjchflaaaGreatDoorS46
import Derived.Test.YtgjgkpnjchflaaaGreatDoorS47
import Derived.SevenTiedAt
set_option maxHeartbeats 16000000
set_option maxRecDepth 20000
namespace Go.Proofs.YtgjgkpnjchflaaaGreatDoor
section
open Go.ChangeShapes Go.WideShapes Go.ChangeAt Go.RowKit
namespace FreeStaysRow
theorem own:ownKnob Tryz.prog.godebug=none:=by kernel_rfl
theorem laidOut:laidOutB Tryz.prog=true:=by kernel_rfl
theorem lifted(os:Os)(started:os.Started)(H:Type)(enc:TypeId×Value→H) :
  ReturnsInHanded {} Tryz.checked os 5 .any (fun w args=>(Rows.freeStaysSpec.pre enc Tryz.prog Tryz.f5 [] false w args∧laidMetH Tryz.prog laid1 w)∧sizedMet enc Tryz.prog Tryz.f5 (OpenSpec.ofChange Rows.freeStaysSpec) false w args)
   (Rows.freeStaysSpec.post enc Tryz.prog Tryz.f5 false true false false):=by
 refine returnsInHanded_of_change_and (C:=Tryz.checked) (X:=fun w _=>laidMetH Tryz.prog laid1 w) (fun _ _ _ hh h=>h.of_heap hh) own started (by kernel_rfl) Tryz.func5
  (ChangeSpec.witness_shaped (enc:=enc) (C:=Tryz.checked) (os:=os) (X:=fun w _=>laidMetH Tryz.prog laid1 w) false (World.doorLaid Tryz.prog 14 os) #[.slice none 0 0,.slice none 0 0] 8 rfl (World.shaped_of_RefB (by kernel_rfl) (by kernel_rfl)) (by kernel_rfl) (by kernel_rfl) (by kernel_rfl) (door_met os _)) ?_
 intro W base args ds gs before hval0 hW _ _ hL _
 have hval:∀ (j:Nat) t v,Tryz.f5.params[j]? = some t→args[j]? = some v→Value.okWide Tryz.prog W .any base t v:=hval0
 have hW':=hW
 obtain ⟨p,q,hA0,hV,rfl,hfz,hnd⟩:=hW
 have hA:DataW.TrodAll enc Tryz.prog W 0 (fun _=>true) true Tryz.f5.params.toList args.toList ds p:=hA0
 rw [Tryz.params5]at hA hval
 obtain ⟨v0,v1,d0,d1,p0,p1,rfl,rfl,rfl,h0,h1⟩:=trodAll_two hA
 obtain ⟨rfl,rfl⟩:=trodVars_none hV
 have k0:=h0
 have k1:=h1
 have lt0:∀ x∈p0,x.block<W.heap.size:=by obtain ⟨m,hm⟩:=k0;exact DataW.trod_lt m _ _ _ hm
 have lt1:∀ x∈p1,x.block<W.heap.size:=by obtain ⟨m,hm⟩:=k1;exact DataW.trod_lt m _ _ _ hm
 obtain ⟨lo,L,C,A,B,D,rfl,hX⟩:=acts_v8 (open_acts8 (show Tryz.prog.underlying 22=some (.slice 35) by kernel_rfl) (hval 0 22 v0 rfl rfl) h0)
 obtain ⟨lo2,L2,C2,G,rfl,hr⟩:=open_i64s (show Tryz.prog.underlying 33=some (.slice 3) by kernel_rfl) (by kernel_rfl) (by kernel_rfl) (hval 1 33 v1 rfl rfl) h1
 have hT:=tab_of_laid hL
 clear hA0 hval0
 have law:Calls Tryz.prog 5 #[.slice lo L C,.slice lo2 L2 C2] W fun e w'=>e=.returned (.bool true)∧Below W.heap.size W w':=by
  by_cases hlong:100<L∨60<L2
  ·exact stays_long lo L C lo2 L2 C2 W hT hT.pos hlong
  ·exact stays_yes lo L C A B D lo2 L2 C2 G W hT hT.pos hX hr (by omega) (by omega)
 refine law.mono fun e W' ⟨he,bel⟩=>?_
 subst he
 exact ⟨_,rfl,_,_,_,[],_,[],hW',trodAll_mk1 (shut_bool Tryz.underlying4 _),trodAll_mk2 (Below.trod laidOut (by kernel_rfl) (of_decide_eq_true (by kernel_rfl)) k0 bel lt0) (Below.trod laidOut (by kernel_rfl) (of_decide_eq_true (by kernel_rfl)) k1 bel lt1),rfl,bel.frame _,fun h=>by cases h⟩
end FreeStaysRow
theorem freeStays_said:Rows.FreeStaysSaid:=
 OpenClaim.holds_of_wide 5 Tryz.f5 rfl rfl rfl rfl rfl rfl rfl ⟨rfl,rfl,rfl,rfl,rfl⟩ rfl rfl rfl rfl rfl (by kernel_rfl) Tryz.func5 (by kernel_rfl)
  (of_decide_eq_true (by kernel_rfl)) (by unfold Func.isWrapper;first |(rw [if_pos (by decide +kernel)];kernel_rfl) |(rw [if_neg (by decide +kernel)];exact ⟨rfl,rfl⟩))
  (fun os started H enc _=>FreeStaysRow.lifted os started H enc)
theorem freeStays_holds:Rows.FreeStaysCardSaid:=
 Claim7.holds_tied_plain_at .later [] [.data] true (true, "e49f1dc562a7f7a39f48bc0ea9a597aaba871aa32ddd37839231fc270ebcc88d") false
  freeStays_said (fun _ h=>by cases h) (by kernel_rfl) (fun _ h=>by cases h) freeStays_row_tie rfl ⟨rfl,rfl⟩ (by kernel_rfl) rfl
  (fun f fn hf hfn=>by
   obtain rfl : f = 5 := Option.some.inj ((show Tryz.prog.funcNamed "hachure/hachurelaw08.FreeStays" = some 5 by kernel_rfl).symm.trans hf) |>.symm
   obtain rfl:fn=Tryz.f5:=(Option.some.inj (Tryz.func5.symm.trans hfn)).symm
   exact ⟨by kernel_rfl,fun j t ht=>by
    rw [Tryz.params5]at ht
    have hm:t∈[22,33]:=by simpa using Array.mem_of_getElem? ht
    have hall:([22,33].all fun u=>!Tryz.prog.wantsStandIn u)=true:=by kernel_rfl
    exact (show Tryz.prog.wantsStandIn t=false by simpa using List.all_eq_true.1 hall t hm)⟩)
  (by kernel_rfl)
#print axioms freeStays_holds
end
end Go.Proofs.YtgjgkpnjchflaaaGreatDoor
