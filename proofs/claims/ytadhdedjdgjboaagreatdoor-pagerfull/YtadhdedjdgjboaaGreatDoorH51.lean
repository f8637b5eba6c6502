/- The law PagerFull of package hachurelaw07 returns true for every room and every two slices of acts and leaves its arguments as they were; the condition: the package-level variable sum.carried holds, when the call begins, what the program's own text lays in it (the card ties it to that text). -/
import Derived.Test.YtadhdedjdgjboaaGreatDoorRows
import Derived.Test.YtadhdedjdgjboaaGreatDoorTie
import Derived.Test.YtadhdedjdgjboaaGreatDoorCards
import Derived.Test.YtadhdedjdgjboaaGreatDoorH49
import Derived.Test.YtadhdedjdgjboaaGreatDoorH50
import Derived.SevenTiedAt
set_option maxHeartbeats 16000000
set_option maxRecDepth 20000
namespace Go.Proofs.YtadhdedjdgjboaaGreatDoor
section
open Go.ChangeShapes Go.WideShapes Go.ChangeAt Go.RowKit
namespace PagerFullRow
theorem own:ownKnob Tryz.prog.godebug=none:=by kernel_rfl
theorem laidOut:laidOutB Tryz.prog=true:=by kernel_rfl
theorem lifted(os:Os)(started:os.Started)(H:Type)(enc:TypeId×Value→H) :
  ReturnsInHanded {} Tryz.checked os 5 .any (fun w args=>(Rows.pagerFullSpec.pre enc Tryz.prog Tryz.f5 [] false w args∧laidMetH Tryz.prog laid1 w)∧sizedMet enc Tryz.prog Tryz.f5 (OpenSpec.ofChange Rows.pagerFullSpec) false w args)
   (Rows.pagerFullSpec.post enc Tryz.prog Tryz.f5 false true false false):=by
 refine returnsInHanded_of_change_and (C:=Tryz.checked) (X:=fun w _=>laidMetH Tryz.prog laid1 w) (fun _ _ _ hh h=>h.of_heap hh) own started (by kernel_rfl) Tryz.func5
  (ChangeSpec.witness_shaped (enc:=enc) (C:=Tryz.checked) (os:=os) (X:=fun w _=>laidMetH Tryz.prog laid1 w) false (World.doorLaid Tryz.prog 14 os) #[.int .u8 0,.slice none 0 0,.slice none 0 0] 8 rfl (World.shaped_of_RefB (by kernel_rfl) (by kernel_rfl)) (by kernel_rfl) (by kernel_rfl) (by kernel_rfl) (door_met os _)) ?_
 intro W base args ds gs before hval0 hW _ _ hL _
 have hval:∀ (j:Nat) t v,Tryz.f5.params[j]? = some t→args[j]? = some v→Value.okWide Tryz.prog W .any base t v:=hval0
 have hW':=hW
 obtain ⟨p,q,hA0,hV,rfl,hfz,hnd⟩:=hW
 have hA:DataW.TrodAll enc Tryz.prog W 0 (fun _=>true) true Tryz.f5.params.toList args.toList ds p:=hA0
 rw [Tryz.params5]at hA hval
 obtain ⟨v0,v1,v2,d0,d1,d2,p0,p1,p2,rfl,rfl,rfl,h0,h1,h2⟩:=trodAll_three hA
 obtain ⟨rfl,rfl⟩:=trodVars_none hV
 have k0:=h0
 have lt0:∀ x∈p0,x.block<W.heap.size:=by obtain ⟨m,hm⟩:=k0;exact DataW.trod_lt m _ _ _ hm
 have k1:=h1
 have lt1:∀ x∈p1,x.block<W.heap.size:=by obtain ⟨m,hm⟩:=k1;exact DataW.trod_lt m _ _ _ hm
 have k2:=h2
 have lt2:∀ x∈p2,x.block<W.heap.size:=by obtain ⟨m,hm⟩:=k2;exact DataW.trod_lt m _ _ _ hm
 obtain ⟨z,rfl,rfl,rfl,wz⟩:=open_int Tryz.underlying5 (hval 0 5 v0 rfl rfl) h0
 have hz:=bounds_u8' wz
 obtain ⟨rm,rfl⟩:=Int.eq_ofNat_of_zero_le hz.1
 have ht:Tryz.prog.underlying 22=some (.slice 37):=by kernel_rfl
 obtain ⟨lo1,L1,C1,X1,rfl,hX1⟩:=acts_v (open_acts ht (hval 1 22 v1 rfl rfl) h1)
 obtain ⟨lo2,L2,C2,X2,rfl,hX2⟩:=acts_v (open_acts ht (hval 2 22 v2 rfl rfl) h2)
 have n1:=none_acts ht h1
 have n2:=none_acts ht h2
 have hT:=tab_of_laid hL
 clear hA0 hval0
 have law:Calls Tryz.prog 5 #[.int .u8 (rm:Int),.slice lo1 L1 C1,.slice lo2 L2 C2] W fun e w'=>e=.returned (.bool true)∧Below W.heap.size W w':=by
  by_cases hlong:60<L2∨40<L1
  ·exact full_long rm lo1 L1 C1 lo2 L2 C2 W hT hT.pos hlong
  ·exact full_yes rm (by omega) lo1 L1 C1 X1 lo2 L2 C2 X2 W hT hT.pos hX1 hX2 n1 n2 (by omega) (by omega)
 refine law.mono fun e W' ⟨he,bel⟩=>?_
 subst he
 exact ⟨_,rfl,_,_,_,[],_,[],hW',trodAll_mk1 (shut_bool Tryz.underlying4 _),trodAll_mk3 (Below.trod laidOut (by kernel_rfl) (of_decide_eq_true (by kernel_rfl)) k0 bel lt0) (Below.trod laidOut (by kernel_rfl) (of_decide_eq_true (by kernel_rfl)) k1 bel lt1) (Below.trod laidOut (by kernel_rfl) (of_decide_eq_true (by kernel_rfl)) k2 bel lt2),rfl,bel.frame _,fun h=>by cases h⟩
end PagerFullRow
theorem pagerFull_said:Rows.PagerFullSaid:=
 OpenClaim.holds_of_wide 5 Tryz.f5 rfl rfl rfl rfl rfl rfl rfl ⟨rfl,rfl,rfl,rfl,rfl⟩ rfl rfl rfl rfl rfl (by kernel_rfl) Tryz.func5 (by kernel_rfl)
  (of_decide_eq_true (by kernel_rfl)) (by unfold Func.isWrapper;first |(rw [if_pos (by decide +kernel)];kernel_rfl) |(rw [if_neg (by decide +kernel)];exact ⟨rfl,rfl⟩))
  (fun os started H enc _=>PagerFullRow.lifted os started H enc)
theorem pagerFull_holds:Rows.PagerFullCardSaid:=
 Claim7.holds_tied_plain_at .later [] [.data] true (true, "258c75378f02fec4e3fc8005d03fdb3fdbd2b06631f8ae13877c85adf14578e2") true
  pagerFull_said (fun _ h=>by cases h) (by kernel_rfl) (fun _ h=>by cases h) pagerFull_row_tie rfl ⟨rfl,rfl⟩ (by kernel_rfl) rfl
  (fun f fn hf hfn=>by
   obtain rfl : f = 5 := Option.some.inj ((show Tryz.prog.funcNamed "hachure/hachurelaw07.PagerFull" = some 5 by kernel_rfl).symm.trans hf) |>.symm
   obtain rfl:fn=Tryz.f5:=(Option.some.inj (Tryz.func5.symm.trans hfn)).symm
   exact ⟨by kernel_rfl,fun j t ht=>by
    rw [Tryz.params5]at ht
    have hm:t∈[5,22]:=by simpa using Array.mem_of_getElem? ht
    have hall:([5,22].all fun u=>!Tryz.prog.wantsStandIn u)=true:=by kernel_rfl
    exact (show Tryz.prog.wantsStandIn t=false by simpa using List.all_eq_true.1 hall t hm)⟩)
  (by kernel_rfl)
#print axioms pagerFull_holds
end
end Go.Proofs.YtadhdedjdgjboaaGreatDoor
