/- A part of the proof that the law WalkNone of package hachurelaw12 returns true for every act and leaves its argument as it was; the condition: the package-level variable sum.carried holds, when the call begins, what the program's own text lays in it (the card ties it to that text). -/
import Derived.Test.YtfcikkechphmaaaGreatDoorRows
import Derived.Test.YtfcikkechphmaaaGreatDoorTie
import Derived.Test.YtfcikkechphmaaaGreatDoorCards
import Derived.Test.YtfcikkechphmaaaGreatDoorW48
import Derived.Test.YtfcikkechphmaaaGreatDoorW49
import Derived.SevenTiedAt
set_option maxHeartbeats 16000000
set_option maxRecDepth 20000
namespace Go.Proofs.YtfcikkechphmaaaGreatDoor
section
open Go.ChangeShapes Go.WideShapes Go.ChangeAt Go.RowKit
namespace WalkNoneRow
theorem own:ownKnob Tryz.prog.godebug=none:=by kernel_rfl
theorem laidOut:laidOutB Tryz.prog=true:=by kernel_rfl
theorem lifted(os:Os)(started:os.Started)(H:Type)(enc:TypeId×Value→H) :
  ReturnsInHanded {} Tryz.checked os 10 .any (fun w args=>(Rows.walkNoneSpec.pre enc Tryz.prog Tryz.f10 [] false w args∧laidMetH Tryz.prog laid1 w)∧sizedMet enc Tryz.prog Tryz.f10 (OpenSpec.ofChange Rows.walkNoneSpec) false w args)
   (Rows.walkNoneSpec.post enc Tryz.prog Tryz.f10 false true false false):=by
 refine returnsInHanded_of_change_and (C:=Tryz.checked) (X:=fun w _=>laidMetH Tryz.prog laid1 w) (fun _ _ _ hh h=>h.of_heap hh) own started (by kernel_rfl) Tryz.func10
  (ChangeSpec.witness_shaped (enc:=enc) (C:=Tryz.checked) (os:=os) (X:=fun w _=>laidMetH Tryz.prog laid1 w) false (World.doorLaid Tryz.prog 14 os) #[.agg #[.int .i64 0,.int .i64 0]] 8 rfl (World.shaped_of_RefB (by kernel_rfl) (by kernel_rfl)) (by kernel_rfl) (by kernel_rfl) (by kernel_rfl) (door_met os _)) ?_
 intro W base args ds gs before hval0 hW _ _ hL _
 have hval:∀ (j:Nat) t v,Tryz.f10.params[j]? = some t→args[j]? = some v→Value.okWide Tryz.prog W .any base t v:=hval0
 have hW':=hW
 obtain ⟨p,q,hA0,hV,rfl,hfz,hnd⟩:=hW
 have hA:DataW.TrodAll enc Tryz.prog W 0 (fun _=>true) true Tryz.f10.params.toList args.toList ds p:=hA0
 rw [Tryz.params10]at hA hval
 obtain ⟨v0,d0,rfl,rfl,h0⟩:=trodAll_one hA
 obtain ⟨rfl,rfl⟩:=trodVars_none hV
 have k0:=h0
 have lt0:∀ x∈p,x.block<W.heap.size:=by obtain ⟨m,hm⟩:=k0;exact DataW.trod_lt m _ _ _ hm
 obtain ⟨k,i,rfl,_,hi⟩:=open_act (hval 0 73 v0 rfl rfl) h0
 have hT:=tab_of_laid hL
 clear hA0 hval0
 refine (Wlk.none_any k i hi W hT hT.pos).mono fun e W' ⟨he,bel⟩=>?_
 subst he
 exact ⟨_,rfl,_,_,_,[],_,[],hW',trodAll_mk1 (shut_bool Tryz.underlying4 _),trodAll_mk1 (Below.trod laidOut (by kernel_rfl) (of_decide_eq_true (by kernel_rfl)) k0 bel lt0),rfl,bel.frame _,fun h=>by cases h⟩
end WalkNoneRow
theorem walkNone_c1:(Rows.walkNoneRow.inPlace == Tryz.prog.inPlace 10)=true:=by kernel_rfl
theorem walkNone_c2:(Rows.walkNoneRow.unfollowed == Tryz.prog.unfollowed 10)=true:=by kernel_rfl
theorem walkNone_c3:(Rows.walkNoneRow.recurses == Tryz.prog.recurses 10)=true:=by kernel_rfl
theorem walkNone_c4:(Rows.walkNoneRow.named == Tryz.prog.varsNamed 10)=true:=by kernel_rfl
theorem walkNone_c5:laidOutB Tryz.prog=true:=by kernel_rfl
theorem walkNone_c6:mapsRowed Tryz.prog=true:=by kernel_rfl
theorem walkNone_closed:joinedFacts Tryz.prog 10 Tryz.f10 Rows.walkNoneSpec Rows.walkNoneRow=true:=by
 unfold joinedFacts
 rw [walkNone_c1,walkNone_c2,walkNone_c3,walkNone_c4,walkNone_c5,walkNone_c6]
 kernel_rfl
theorem walkNone_said:Rows.WalkNoneSaid:=
 OpenClaim.holds_of_wide 10 Tryz.f10 rfl rfl rfl rfl rfl rfl rfl ⟨rfl,rfl,rfl,rfl,rfl⟩ rfl rfl rfl rfl rfl (by as_aux_lemma=>kernel_rfl) Tryz.func10 walkNone_closed
  (of_decide_eq_true (by as_aux_lemma=>kernel_rfl)) (by as_aux_lemma=>unfold Func.isWrapper;first |(rw [if_pos (by decide +kernel)];kernel_rfl) |(rw [if_neg (by decide +kernel)];exact ⟨rfl,rfl⟩))
  (fun os started H enc _=>WalkNoneRow.lifted os started H enc)
end
end Go.Proofs.YtfcikkechphmaaaGreatDoor
