/- The law TreeNone of package hachurelaw11 returns true for every act and leaves its argument as it was; the condition: the package-level variable sum.carried holds, when the call begins, what the program's own text lays in it (the card ties it to that text). -/
import Derived.Test.YtenajbfeojljdaaGreatDoorRows
import Derived.Test.YtenajbfeojljdaaGreatDoorTie
import Derived.Test.YtenajbfeojljdaaGreatDoorCards
import Derived.Test.YtenajbfeojljdaaGreatDoorV48
import Derived.Test.YtenajbfeojljdaaGreatDoorV49
import Derived.SevenTiedAt
set_option maxHeartbeats 16000000
set_option maxRecDepth 20000
namespace Go.Proofs.YtenajbfeojljdaaGreatDoor
section
open Go.ChangeShapes Go.WideShapes Go.ChangeAt Go.RowKit
namespace TreeNoneRow
theorem own:ownKnob Tryz.prog.godebug=none:=by kernel_rfl
theorem laidOut:laidOutB Tryz.prog=true:=by kernel_rfl
theorem lifted(os:Os)(started:os.Started)(H:Type)(enc:TypeId×Value→H) :
  ReturnsInHanded {} Tryz.checked os 7 .any (fun w args=>(Rows.treeNoneSpec.pre enc Tryz.prog Tryz.f7 [] false w args∧laidMetH Tryz.prog laid1 w)∧sizedMet enc Tryz.prog Tryz.f7 (OpenSpec.ofChange Rows.treeNoneSpec) false w args)
   (Rows.treeNoneSpec.post enc Tryz.prog Tryz.f7 false true false false):=by
 refine returnsInHanded_of_change_and (C:=Tryz.checked) (X:=fun w _=>laidMetH Tryz.prog laid1 w) (fun _ _ _ hh h=>h.of_heap hh) own started (by kernel_rfl) Tryz.func7
  (ChangeSpec.witness_shaped (enc:=enc) (C:=Tryz.checked) (os:=os) (X:=fun w _=>laidMetH Tryz.prog laid1 w) false (World.doorLaid Tryz.prog 14 os) #[.agg #[.int .i64 0,.int .i64 0,.int .i64 0,.int .i64 0,.int .i64 0]] 8 rfl (World.shaped_of_RefB (by kernel_rfl) (by kernel_rfl)) (by kernel_rfl) (by kernel_rfl) (by kernel_rfl) (door_met os _)) ?_
 intro W base args ds gs before hval0 hW _ _ hL _
 have hval:∀ (j:Nat) t v,Tryz.f7.params[j]? = some t→args[j]? = some v→Value.okWide Tryz.prog W .any base t v:=hval0
 have hW':=hW
 obtain ⟨p,q,hA0,hV,rfl,hfz,hnd⟩:=hW
 have hA:DataW.TrodAll enc Tryz.prog W 0 (fun _=>true) true Tryz.f7.params.toList args.toList ds p:=hA0
 rw [Tryz.params7]at hA hval
 obtain ⟨v0,d0,rfl,rfl,h0⟩:=trodAll_one hA
 obtain ⟨rfl,rfl⟩:=trodVars_none hV
 have k0:=h0
 have lt0:∀ x∈p,x.block<W.heap.size:=by obtain ⟨m,hm⟩:=k0;exact DataW.trod_lt m _ _ _ hm
 obtain ⟨k,i,n,r,s,rfl,_⟩:=open_act (hval 0 38 v0 rfl rfl) h0
 have hT:=tab_of_laid hL
 clear hA0 hval0
 refine (Tre.none_any k i n r s W hT hT.pos).mono fun e W' ⟨he,bel⟩=>?_
 subst he
 exact ⟨_,rfl,_,_,_,[],_,[],hW',trodAll_mk1 (shut_bool Tryz.underlying4 _),trodAll_mk1 (Below.trod laidOut (by kernel_rfl) (of_decide_eq_true (by kernel_rfl)) k0 bel lt0),rfl,bel.frame _,fun h=>by cases h⟩
end TreeNoneRow
theorem treeNone_c1:(Rows.treeNoneRow.inPlace == Tryz.prog.inPlace 7)=true:=by kernel_rfl
theorem treeNone_c2:(Rows.treeNoneRow.unfollowed == Tryz.prog.unfollowed 7)=true:=by kernel_rfl
theorem treeNone_c3:(Rows.treeNoneRow.recurses == Tryz.prog.recurses 7)=true:=by kernel_rfl
theorem treeNone_c4:(Rows.treeNoneRow.named == Tryz.prog.varsNamed 7)=true:=by kernel_rfl
theorem treeNone_c5:laidOutB Tryz.prog=true:=by kernel_rfl
theorem treeNone_c6:mapsRowed Tryz.prog=true:=by kernel_rfl
theorem treeNone_closed:joinedFacts Tryz.prog 7 Tryz.f7 Rows.treeNoneSpec Rows.treeNoneRow=true:=by
 unfold joinedFacts
 rw [treeNone_c1,treeNone_c2,treeNone_c3,treeNone_c4,treeNone_c5,treeNone_c6]
 kernel_rfl
theorem treeNone_said:Rows.TreeNoneSaid:=
 OpenClaim.holds_of_wide 7 Tryz.f7 rfl rfl rfl rfl rfl rfl rfl ⟨rfl,rfl,rfl,rfl,rfl⟩ rfl rfl rfl rfl rfl (by as_aux_lemma=>kernel_rfl) Tryz.func7 treeNone_closed
  (of_decide_eq_true (by as_aux_lemma=>kernel_rfl)) (by as_aux_lemma=>unfold Func.isWrapper;first |(rw [if_pos (by decide +kernel)];kernel_rfl) |(rw [if_neg (by decide +kernel)];exact ⟨rfl,rfl⟩))
  (fun os started H enc _=>TreeNoneRow.lifted os started H enc)
theorem treeNone_holds:Rows.TreeNoneCardSaid:=
 Claim7.holds_tied_plain_at .later [] [.data] true (true, "0581d562d741c43e98a6b2ffe1b75fff5ceff24ad6fec215c9472aa78b13dd3c") true
  treeNone_said (fun _ h=>by cases h) (by kernel_rfl) (fun _ h=>by cases h) treeNone_row_tie rfl ⟨rfl,rfl⟩ (by kernel_rfl) rfl
  (fun f fn hf hfn=>by
   obtain rfl : f = 7 := Option.some.inj ((show Tryz.prog.funcNamed "hachure/hachurelaw11.TreeNone" = some 7 by kernel_rfl).symm.trans hf) |>.symm
   obtain rfl:fn=Tryz.f7:=(Option.some.inj (Tryz.func7.symm.trans hfn)).symm
   exact ⟨by kernel_rfl,fun j t ht=>by
    rw [Tryz.params7]at ht
    have hm:t∈[38]:=by simpa using Array.mem_of_getElem? ht
    have hall:([38].all fun u=>!Tryz.prog.wantsStandIn u)=true:=by kernel_rfl
    exact (show Tryz.prog.wantsStandIn t=false by simpa using List.all_eq_true.1 hall t hm)⟩)
  (by kernel_rfl)
#print axioms treeNone_holds
end
end Go.Proofs.YtenajbfeojljdaaGreatDoor
