/- The law SpillWrong of package hachurelaw10 returns true for every three numbers and leaves its arguments as they were; the condition: the package-level variable sum.carried holds, when the call begins, what the program's own text lays in it (the card ties it to that text). -/
import Derived.Test.YtneemfbnjkcflaaGreatDoorRows
import Derived.Test.YtneemfbnjkcflaaGreatDoorTie
import Derived.Test.YtneemfbnjkcflaaGreatDoorCards
import Derived.Test.YtneemfbnjkcflaaGreatDoorW46
import Derived.Test.YtneemfbnjkcflaaGreatDoorW47
import Derived.Test.YtneemfbnjkcflaaGreatDoorW48
import Derived.Test.YtneemfbnjkcflaaGreatDoorW49
import Derived.SevenTiedAt
set_option maxHeartbeats 16000000
set_option maxRecDepth 20000
namespace Go.Proofs.YtneemfbnjkcflaaGreatDoor
section
open Go.ChangeShapes Go.WideShapes Go.ChangeAt Go.RowKit
theorem Spl.wrong_law(nn:Nat)(ask page:Int)(w:World)(hT:Jrn.Tab w)(h0:0<w.heap.size)(hnn:nn<65536)(ha1 : -9223372036854775808≤ask)(ha2:ask≤9223372036854775807) :
  Calls Tryz.prog 4 #[.int .u16 (nn:Int),.int .i64 ask,.int .i64 page] w fun e w'=>e=.returned (.bool true)∧Below w.heap.size w w':=by
 by_cases h1:ask<1
 ·exact Spl.wrong_a nn ask page w hT h0 hnn ha1 ha2 h1
 ·by_cases h2:20000<ask
  ·exact Spl.wrong_b nn ask page w hT h0 hnn ha1 ha2 h1 h2
  ·by_cases h3:Spl.countI ask=Spl.countI ((1+nn % 3000:Nat):Int)
   ·by_cases h4:((1+nn % 3000:Nat):Int)≤ask
    ·exact Spl.wrong_d nn ask page w hT h0 hnn ha1 ha2 h1 h2 h3 h4
    ·exact Spl.wrong_e nn ask page w hT h0 hnn ha1 ha2 h1 h2 h3 (by omega)
   ·exact Spl.wrong_c nn ask page w hT h0 hnn ha1 ha2 h1 h2 h3
namespace SpillWrongRow
theorem own:ownKnob Tryz.prog.godebug=none:=by kernel_rfl
theorem laidOut:laidOutB Tryz.prog=true:=by kernel_rfl
theorem lifted(os:Os)(started:os.Started)(H:Type)(enc:TypeId×Value→H) :
  ReturnsInHanded {} Tryz.checked os 4 .any (fun w args=>(Rows.spillWrongSpec.pre enc Tryz.prog Tryz.f4 [] false w args∧laidMetH Tryz.prog laid1 w)∧sizedMet enc Tryz.prog Tryz.f4 (OpenSpec.ofChange Rows.spillWrongSpec) false w args)
   (Rows.spillWrongSpec.post enc Tryz.prog Tryz.f4 false true false false):=by
 refine returnsInHanded_of_change_and (C:=Tryz.checked) (X:=fun w _=>laidMetH Tryz.prog laid1 w) (fun _ _ _ hh h=>h.of_heap hh) own started (by kernel_rfl) Tryz.func4
  (ChangeSpec.witness_shaped (enc:=enc) (C:=Tryz.checked) (os:=os) (X:=fun w _=>laidMetH Tryz.prog laid1 w) false (World.doorLaid Tryz.prog 14 os) #[.int .u16 0,.int .i64 0,.int .i64 0] 8 rfl (World.shaped_of_RefB (by kernel_rfl) (by kernel_rfl)) (by kernel_rfl) (by kernel_rfl) (by kernel_rfl) (door_met os _)) ?_
 intro W base args ds gs before hval0 hW _ _ hL _
 have hval:∀ (j:Nat) t v,Tryz.f4.params[j]? = some t→args[j]? = some v→Value.okWide Tryz.prog W .any base t v:=hval0
 have hW':=hW
 obtain ⟨p,q,hA0,hV,rfl,hfz,hnd⟩:=hW
 have hA:DataW.TrodAll enc Tryz.prog W 0 (fun _=>true) true Tryz.f4.params.toList args.toList ds p:=hA0
 rw [Tryz.params4]at hA hval
 obtain ⟨v0,v1,v2,d0,d1,d2,p0,p1,p2,rfl,rfl,rfl,h0,h1,h2⟩:=trodAll_three hA
 obtain ⟨rfl,rfl⟩:=trodVars_none hV
 have k0:=h0
 have k1:=h1
 have k2:=h2
 have lt0:∀ x∈p0,x.block<W.heap.size:=by obtain ⟨m,hm⟩:=k0;exact DataW.trod_lt m _ _ _ hm
 have lt1:∀ x∈p1,x.block<W.heap.size:=by obtain ⟨m,hm⟩:=k1;exact DataW.trod_lt m _ _ _ hm
 have lt2:∀ x∈p2,x.block<W.heap.size:=by obtain ⟨m,hm⟩:=k2;exact DataW.trod_lt m _ _ _ hm
 obtain ⟨r,rfl,rfl,rfl,wr⟩:=open_int (show Tryz.prog.underlying 30=some (.int .u16) by kernel_rfl) (hval 0 30 v0 rfl rfl) h0
 obtain ⟨a1,rfl,rfl,rfl,w1⟩:=open_int Tryz.underlying3 (hval 1 3 v1 rfl rfl) h1
 obtain ⟨a2,rfl,rfl,rfl,w2⟩:=open_int Tryz.underlying3 (hval 2 3 v2 rfl rfl) h2
 have hr:=bounds_u16' wr
 have hb:=bounds_i64' w1
 obtain ⟨r',rfl⟩:=Int.eq_ofNat_of_zero_le hr.1
 have hT:=tab_of_laid hL
 clear hA0 hval0
 refine (Spl.wrong_law r' a1 a2 W hT hT.pos (by omega) hb.1 hb.2).mono fun e W' ⟨he,bel⟩=>?_
 subst he
 exact ⟨_,rfl,_,_,_,[],_,[],hW',trodAll_mk1 (shut_bool Tryz.underlying4 _),trodAll_mk3 (Below.trod laidOut (by kernel_rfl) (of_decide_eq_true (by kernel_rfl)) k0 bel lt0) (Below.trod laidOut (by kernel_rfl) (of_decide_eq_true (by kernel_rfl)) k1 bel lt1) (Below.trod laidOut (by kernel_rfl) (of_decide_eq_true (by kernel_rfl)) k2 bel lt2),rfl,bel.frame _,fun h=>by cases h⟩
end SpillWrongRow
theorem spillWrong_said:Rows.SpillWrongSaid:=
 OpenClaim.holds_of_wide 4 Tryz.f4 rfl rfl rfl rfl rfl rfl rfl ⟨rfl,rfl,rfl,rfl,rfl⟩ rfl rfl rfl rfl rfl (by kernel_rfl) Tryz.func4 (by kernel_rfl)
  (of_decide_eq_true (by kernel_rfl)) (by unfold Func.isWrapper;first |(rw [if_pos (by decide +kernel)];kernel_rfl) |(rw [if_neg (by decide +kernel)];exact ⟨rfl,rfl⟩))
  (fun os started H enc _=>SpillWrongRow.lifted os started H enc)
theorem spillWrong_holds:Rows.SpillWrongCardSaid:=
 Claim7.holds_tied_plain_at .later [] [.data] true (true, "bfaa9726fa74056fa2e0bad05c2b245bf8acb6cb55daf16115498384fc3a5794") true
  spillWrong_said (fun _ h=>by cases h) (by kernel_rfl) (fun _ h=>by cases h) spillWrong_row_tie rfl ⟨rfl,rfl⟩ (by kernel_rfl) rfl
  (fun f fn hf hfn=>by
   obtain rfl : f = 4 := Option.some.inj ((show Tryz.prog.funcNamed "hachure/hachurelaw10.SpillWrong" = some 4 by kernel_rfl).symm.trans hf) |>.symm
   obtain rfl:fn=Tryz.f4:=(Option.some.inj (Tryz.func4.symm.trans hfn)).symm
   exact ⟨by kernel_rfl,fun j t ht=>by
    rw [Tryz.params4]at ht
    have hm:t∈[30,3,3]:=by simpa using Array.mem_of_getElem? ht
    have hall:([30,3,3].all fun u=>!Tryz.prog.wantsStandIn u)=true:=by kernel_rfl
    exact (show Tryz.prog.wantsStandIn t=false by simpa using List.all_eq_true.1 hall t hm)⟩)
  (by kernel_rfl)
#print axioms spillWrong_holds
end
end Go.Proofs.YtneemfbnjkcflaaGreatDoor
