/- The law FreeOnce of package hachurelaw08 returns true for every number and every row of numbers, and leaves its arguments as they were; the condition: the package-level variable sum.carried holds, when the call begins, what the program's own text lays in it (the card ties it to that text). -/
import Derived.Test.YtgjgkpnjchflaaaGreatDoorRows
import Derived.Test.YtgjgkpnjchflaaaGreatDoorTie
import Derived.Test.YtgjgkpnjchflaaaGreatDoorCards
import Derived.Test.YtgjgkpnjchflaaaGreatDoorH43
import Derived.Test.YtgjgkpnjchflaaaGreatDoorH44
import Derived.SevenTiedAt
set_option maxHeartbeats 16000000
set_option maxRecDepth 20000
namespace Go.Proofs.YtgjgkpnjchflaaaGreatDoor
section
open Go.ChangeShapes Go.WideShapes Go.ChangeAt Go.RowKit
namespace FreeOnceRow
theorem own:ownKnob Tryz.prog.godebug=none:=by kernel_rfl
theorem laidOut:laidOutB Tryz.prog=true:=by kernel_rfl
theorem lifted(os:Os)(started:os.Started)(H:Type)(enc:TypeId×Value→H) :
  ReturnsInHanded {} Tryz.checked os 4 .any (fun w args=>(Rows.freeOnceSpec.pre enc Tryz.prog Tryz.f4 [] false w args∧laidMetH Tryz.prog laid1 w)∧sizedMet enc Tryz.prog Tryz.f4 (OpenSpec.ofChange Rows.freeOnceSpec) false w args)
   (Rows.freeOnceSpec.post enc Tryz.prog Tryz.f4 false true false false):=by
 refine returnsInHanded_of_change_and (C:=Tryz.checked) (X:=fun w _=>laidMetH Tryz.prog laid1 w) (fun _ _ _ hh h=>h.of_heap hh) own started (by kernel_rfl) Tryz.func4
  (ChangeSpec.witness_shaped (enc:=enc) (C:=Tryz.checked) (os:=os) (X:=fun w _=>laidMetH Tryz.prog laid1 w) false (World.doorLaid Tryz.prog 14 os) #[.int .u16 0,.slice none 0 0] 8 rfl (World.shaped_of_RefB (by kernel_rfl) (by kernel_rfl)) (by kernel_rfl) (by kernel_rfl) (by kernel_rfl) (door_met os _)) ?_
 intro W base args ds gs before hval0 hW _ _ hL _
 have hval:∀ (j:Nat) t v,Tryz.f4.params[j]? = some t→args[j]? = some v→Value.okWide Tryz.prog W .any base t v:=hval0
 have hW':=hW
 obtain ⟨p,q,hA0,hV,rfl,hfz,hnd⟩:=hW
 have hA:DataW.TrodAll enc Tryz.prog W 0 (fun _=>true) true Tryz.f4.params.toList args.toList ds p:=hA0
 rw [Tryz.params4]at hA hval
 obtain ⟨v0,v1,d0,d1,p0,p1,rfl,rfl,rfl,h0,h1⟩:=trodAll_two hA
 obtain ⟨rfl,rfl⟩:=trodVars_none hV
 have k0:=h0
 have k1:=h1
 have lt0:∀ x∈p0,x.block<W.heap.size:=by obtain ⟨m,hm⟩:=k0;exact DataW.trod_lt m _ _ _ hm
 have lt1:∀ x∈p1,x.block<W.heap.size:=by obtain ⟨m,hm⟩:=k1;exact DataW.trod_lt m _ _ _ hm
 obtain ⟨r,rfl,rfl,rfl,wr⟩:=open_int (show Tryz.prog.underlying 47=some (.int .u16) by kernel_rfl) (hval 0 47 v0 rfl rfl) h0
 obtain ⟨ao,n,cap,G,rfl,hr⟩:=open_u16 (show Tryz.prog.underlying 48=some (.slice 47) by kernel_rfl) (by kernel_rfl) (by kernel_rfl) (hval 1 48 v1 rfl rfl) h1
 obtain ⟨r',rfl⟩:=Int.eq_ofNat_of_zero_le (bounds_u16' wr).1
 have hT:=tab_of_laid hL
 clear hA0 hval0
 have law:Calls Tryz.prog 4 #[.int .u16 (r':Int),.slice ao n cap] W fun e w'=>e=.returned (.bool true)∧Below W.heap.size W w':=by
  by_cases h300:300<n
  ·exact once_long r' ao n cap W hT hT.pos h300
  ·exact once_yes r' ao n cap G W hT hT.pos hr (by omega)
 refine law.mono fun e W' ⟨he,bel⟩=>?_
 subst he
 exact ⟨_,rfl,_,_,_,[],_,[],hW',trodAll_mk1 (shut_bool Tryz.underlying4 _),trodAll_mk2 (Below.trod laidOut (by kernel_rfl) (of_decide_eq_true (by kernel_rfl)) k0 bel lt0) (Below.trod laidOut (by kernel_rfl) (of_decide_eq_true (by kernel_rfl)) k1 bel lt1),rfl,bel.frame _,fun h=>by cases h⟩
end FreeOnceRow
theorem freeOnce_said:Rows.FreeOnceSaid:=
 OpenClaim.holds_of_wide 4 Tryz.f4 rfl rfl rfl rfl rfl rfl rfl ⟨rfl,rfl,rfl,rfl,rfl⟩ rfl rfl rfl rfl rfl (by kernel_rfl) Tryz.func4 (by kernel_rfl)
  (of_decide_eq_true (by kernel_rfl)) (by unfold Func.isWrapper;first |(rw [if_pos (by decide +kernel)];kernel_rfl) |(rw [if_neg (by decide +kernel)];exact ⟨rfl,rfl⟩))
  (fun os started H enc _=>FreeOnceRow.lifted os started H enc)
theorem freeOnce_holds:Rows.FreeOnceCardSaid:=
 Claim7.holds_tied_plain_at .later [] [.data] true (true, "e49f1dc562a7f7a39f48bc0ea9a597aaba871aa32ddd37839231fc270ebcc88d") false
  freeOnce_said (fun _ h=>by cases h) (by kernel_rfl) (fun _ h=>by cases h) freeOnce_row_tie rfl ⟨rfl,rfl⟩ (by kernel_rfl) rfl
  (fun f fn hf hfn=>by
   obtain rfl : f = 4 := Option.some.inj ((show Tryz.prog.funcNamed "hachure/hachurelaw08.FreeOnce" = some 4 by kernel_rfl).symm.trans hf) |>.symm
   obtain rfl:fn=Tryz.f4:=(Option.some.inj (Tryz.func4.symm.trans hfn)).symm
   exact ⟨by kernel_rfl,fun j t ht=>by
    rw [Tryz.params4]at ht
    have hm:t∈[47,48]:=by simpa using Array.mem_of_getElem? ht
    have hall:([47,48].all fun u=>!Tryz.prog.wantsStandIn u)=true:=by kernel_rfl
    exact (show Tryz.prog.wantsStandIn t=false by simpa using List.all_eq_true.1 hall t hm)⟩)
  (by kernel_rfl)
#print axioms freeOnce_holds
end
end Go.Proofs.YtgjgkpnjchflaaaGreatDoor
