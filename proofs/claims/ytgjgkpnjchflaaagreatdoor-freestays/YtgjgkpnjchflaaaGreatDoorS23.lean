/- What ReadHead returns of few bytes, Hot, and HeadBytes in one form; no statement of the seat is proved here. -/
import Derived.Test.YtgjgkpnjchflaaaGreatDoorS20
import Derived.Test.YtgjgkpnjchflaaaGreatDoorS17
set_option maxHeartbeats 16000000
set_option maxRecDepth 20000
namespace Go.Proofs.YtgjgkpnjchflaaaGreatDoor
namespace Jrn
open Go.RowKit
theorem rhead_short(ao:Option Addr)(n cap:Nat)(w:World)(hn:n<128) :
  Calls Tryz.prog 105 #[.slice ao n cap] w fun e w'=>e=.returned (.tuple #[.agg #[.int .i64 0,.int .i64 0,.int .u64 0],.int .i64 8])∧Below w.heap.size w w':=by
 have hge:(n:Int)<128:=by omega
 go_enter Tryz.func105,Tryz.ntmps105
 go_wp2
 (try simp only [Exit.inBlock,Exit.then])
 refine bodyPost_ret (ret_head rfl agg24 size24 rfl (HB.new 140 w 0 0 0)) rfl ?_
 exact ⟨rfl,Below.alloc (Below.refl _ _) (Nat.le_refl _) _⟩
def hotN(xs:List Nat):Bool:=decide (128≤xs.length)&&isHead xs
def rdH(xs:List Nat):(Nat×Nat×Nat)×Int:=if xs.length<128 then ((0,0,0),8) else if isHead xs then ((hC xs,hP xs,hN xs),0) else ((0,0,0),9)
theorem rdH_err(xs:List Nat):(rdH xs).2=0↔hotN xs=true:=by
 unfold rdH hotN
 split
 ·simp;omega
 ·split<;>simp [*]<;>omega
theorem rhead_all(ao:Option Addr)(n cap:Nat)(xs:List Nat)(w:World)(h:Rd w ao n cap xs)(hx:∀ x∈xs,x<256)(hn2:n≤140737488355328)(hT:Tab w) :
  Calls Tryz.prog 105 #[.slice ao n cap] w fun e w'=>e=.returned (.tuple #[.agg #[.int .i64 ((rdH xs).1.1:Int),.int .i64 ((rdH xs).1.2.1:Int),.int .u64 ((rdH xs).1.2.2:Int)],.int .i64 (rdH xs).2])∧Below w.heap.size w w':=by
 have hl:=h.1
 by_cases hn:n<128
 ·have e:rdH xs=((0,0,0),8):=by unfold rdH;rw [if_pos (by omega)]
  rw [e]
  exact rhead_short ao n cap w hn
 ·refine (rhead_any ao n cap xs w h hx (by omega) hn2 hT).mono fun e w' ⟨c,p,m,er,he,hh,hb⟩=>⟨?_,hb⟩
  rw [he]
  rcases hh.out with ⟨h1,rfl,rfl,rfl,rfl⟩ | ⟨h1,rfl,rfl,rfl,rfl⟩
  ·have e:rdH xs=((hC xs,hP xs,hN xs),0):=by unfold rdH;rw [if_neg (by omega),if_pos h1]
   rw [e]
  ·have e:rdH xs=((0,0,0),9):=by unfold rdH;rw [if_neg (by omega),if_neg (by rw [h1];simp)]
   rw [e]
theorem hot_any(ao:Option Addr)(n cap:Nat)(xs:List Nat)(w:World)(h:Rd w ao n cap xs)(hx:∀ x∈xs,x<256)(hn2:n≤140737488355328)(hT:Tab w) :
  Calls Tryz.prog 79 #[.slice ao n cap] w fun e w'=>e=.returned (.bool (hotN xs))∧Below w.heap.size w w':=by
 have c:=hid (rhead_all ao n cap xs w h hx hn2 hT)
 have he:=rdH_err xs
 generalize rdH xs=r at *
 obtain ⟨⟨c1,p1,n1⟩,er⟩:=r
 simp only at c he
 have hb:(er == 0)=hotN xs:=by rw [Bool.eq_iff_iff,beq_iff_eq];exact he
 generalize hotN xs=b at *
 clear he h hx hT
 go_enter Tryz.func79,Tryz.ntmps79
 go_wp2_with (go_at_call 105;refine c.out.mono ?_;rintro e w1 ⟨rfl,hb1⟩)
 go_ret
 exact ⟨rfl,Below.alloc hb1 hb1.size _⟩
theorem head_last(c p n:Nat)(wh:Bool):(headN c p n wh).getD 127 0=if wh then 165 else 0:=by
 unfold headN
 simp [List.getD,hd26_length]
theorem not_hot(xs:List Nat)(h:xs.getD 127 0=0):hotN xs=false:=by
 rw [Bool.eq_false_iff]
 intro hh
 unfold hotN isHead at hh
 simp only [Bool.and_eq_true,decide_eq_true_eq]at hh
 have h2:=congrArg (fun l:List Nat=>l.getD 127 0) hh.2.1.1
 simp only [head_last,if_true]at h2
 simp [List.getD]at h2 h
 omega
end Jrn
end Go.Proofs.YtgjgkpnjchflaaaGreatDoor
