/- The bytes of heads and records, as numbers; and what HeadBytes returns; no statement of the seat is proved here. -/
import Derived.Test.YtgjgkpnjchflaaaGreatDoorH00
import Derived.Lib.SlBytesConst
set_option maxHeartbeats 16000000
set_option maxRecDepth 20000
namespace Go.Proofs.YtgjgkpnjchflaaaGreatDoor
namespace Jrn
open Go.RowKit
def mag:List Nat:=[104,97,99,104,117,114]
def hd22(c p n:Nat):List Nat:=mag++putN c 4 false++putN p 4 false++putN n 8 false
def hd26(c p n:Nat):List Nat:=hd22 c p n++putN (addN 0 (hd22 c p n)) 4 false
def headN(c p n:Nat)(wh:Bool):List Nat:=hd26 c p n++List.replicate 101 0++[if wh then 165 else 0]
theorem putN_length(v s:Nat)(l:Bool):(putN v s l).length=s:=up_length _ _ _
theorem up_bytes(F:Nat→Nat)(hF:∀ i,F i<256)(i k:Nat):∀ x∈up F i k,x<256:=by
 induction k generalizing i with
 | zero=>intro x h;cases h
 | succ k ih=>
  intro x h
  simp only [up,List.mem_cons]at h
  rcases h with rfl |h
  ·exact hF i
  ·exact ih _ x h
theorem putN_bytes(v s:Nat)(l:Bool):∀ x∈putN v s l,x<256:=up_bytes _ (fun _=>by omega) _ _
theorem app_bytes{a b:List Nat}(ha:∀ x∈a,x<256)(hb:∀ x∈b,x<256):∀ x∈a++b,x<256:=by
 intro x h
 rcases List.mem_append.1 h with h |h
 ·exact ha x h
 ·exact hb x h
theorem zero_bytes(k:Nat):∀ x∈List.replicate k 0,x<256:=by
 intro x h
 have:=List.eq_of_mem_replicate h
 omega
theorem mag_bytes:∀ x∈mag,x<256:=by decide
theorem hd22_length(c p n:Nat):(hd22 c p n).length=22:=by simp [hd22,putN_length,mag]
theorem hd22_bytes(c p n:Nat):∀ x∈hd22 c p n,x<256:=app_bytes (app_bytes (app_bytes mag_bytes (putN_bytes _ _ _)) (putN_bytes _ _ _)) (putN_bytes _ _ _)
def HB(t:TypeId)(W:World)(q:Nat)(c p:Int)(n:Nat):Prop:=W.heap[q]? = some (.cells #[.int .i64 c,.int .i64 p,.int .u64 (n:Int)] t (0,0))
variable {n q:Nat} {c p:Int} {W:World} {t:TypeId}
theorem HB.cells(h:HB t W q c p n) :
  W.cell? ⟨q,0,none⟩=some (.int .i64 c)∧W.cell? ⟨q,1,none⟩=some (.int .i64 p)∧W.cell? ⟨q,2,none⟩=some (.int .u64 (n:Int))∧W.frozen? ⟨q,0,none⟩=false∧W.frozen? ⟨q,1,none⟩=false∧W.frozen? ⟨q,2,none⟩=false:=by
 unfold HB at h
 simp [World.cell?,World.frozen?,h]
theorem HB.lt(h:HB t W q c p n):q<W.heap.size:=lt_of_block h
theorem HB.keep{W':World}(h:HB t W q c p n)(hb:Below W.heap.size W W'):HB t W' q c p n:=by
 unfold HB;rw [hb.block q h.lt];exact h
theorem HB.new(t:TypeId)(w:World)(c p:Int)(n:Nat):HB t (w.alloc (.cells #[.int .i64 c,.int .i64 p,.int .u64 (n:Int)] t)) w.heap.size c p n:=heap_alloc_new w _
theorem make_lit(z:Int)(K:Nat)(hz:z=(K:Int))(hK:K≤1000)(w:World) :
  (Instr.makeSlice 79 (.int .i64 z) (.int .i64 z)).run Tryz.prog w=.ok (.slice (some ⟨w.heap.size,0,none⟩) K K) (w.alloc (.cells (Array.replicate K (.int .u8 0)) 5)):=by
 subst hz
 exact make_any K K (Nat.le_refl _) (by omega) w
end Jrn
namespace Jrn
open Go.RowKit
theorem own_zeros(w:World)(K:Nat)(hK:K≤1000):(w.alloc (.cells (Array.replicate K (.int .u8 0)) 5)).ownsRow w.heap.size 5 1 (.slice (some ⟨w.heap.size,0,none⟩) K K) K (bs (List.replicate K 0)):=by
 refine own_of_row (cur:=List.replicate K (.int .u8 0)) (Nat.le_refl _) (copy_hg w K) (by simp) (by omega) ?_ (by simp) (Nat.le_refl _)
 simp [bs]
theorem own_base{w:World}{B B' n:Nat}{v:Value}{xs:List Value}(h:w.ownsRow B' 5 1 v n xs)(hB:B≤B'):w.ownsRow B 5 1 v n xs:=by
 refine ⟨h.1,?_⟩
 rcases h.2 with h1 | ⟨g,cap,cur,e,hb,h2⟩
 ·exact Or.inl h1
 ·exact Or.inr ⟨g,cap,cur,e,by omega,h2⟩
end Jrn
end Go.Proofs.YtgjgkpnjchflaaaGreatDoor
