/- Remainders by the polynomial of CRC-32C, as numbers below 2^32: what a step, a byte, a product are, and how they hang together; no statement of the seat is proved here. -/
import Derived.Test.YtgjgkpnjchflaaaGreatDoorRows
import Derived.WalkKit
import Derived.WalkSpells
import Derived.WalkLawsBesides
import Derived.Laws.CopyOwn
import Derived.Laws.BytesArg
import Derived.Laws.AppendOwnNone
import Derived.Deep.OwnRows
import Derived.BigRegion
import Derived.Deep.RegionWith
import Derived.Deep.RegionHeld3
import Derived.Lib.OthersKept
import Derived.Lib.Walk
import Derived.Lib.AppendZerosOnto
import Derived.WalkMore
import Derived.Laws.BitsAllLaws
import Derived.Deep.LoopGhost
import Derived.Lib.SlBytesConst
import Derived.Deep.RegionLaw
import Derived.Deep.DeepCutAuto
set_option maxHeartbeats 16000000
set_option maxRecDepth 20000
namespace Go.Proofs.YtgjgkpnjchflaaaGreatDoor
namespace Jrn
def tx(a:Nat):Nat:=if a % 2=0 then a/2 else (a/2) ^^^ 2197175160
theorem xor4(a b c d:Nat):(a ^^^ b) ^^^ (c ^^^ d)=(a ^^^ c) ^^^ (b ^^^ d):=by
 rw [Nat.xor_assoc,Nat.xor_assoc,←Nat.xor_assoc b c d,←Nat.xor_assoc c b d,Nat.xor_comm b c]
variable {a:Nat}
theorem xor_lt{b:Nat}(ha:a<4294967296)(hb:b<4294967296):a ^^^ b<4294967296:=Nat.xor_lt_two_pow (n:=32) ha hb
theorem tx_xor(a b:Nat):tx (a ^^^ b)=tx a ^^^ tx b:=by
 have h2:(a ^^^ b)/2=a/2 ^^^ b/2:=Nat.xor_div_two
 have hm:(a ^^^ b) % 2=(a+b) % 2:=by
  have h1:(a ^^^ b) % 2=1↔¬(a % 2=1↔b % 2=1):=Nat.xor_mod_two_eq_one
  rcases Nat.mod_two_eq_zero_or_one (a ^^^ b) with h |h<;>rw [h]at h1<;>omega
 unfold tx
 rw [h2,hm]
 rcases Nat.mod_two_eq_zero_or_one a with ha |ha<;>rcases Nat.mod_two_eq_zero_or_one b with hb |hb
 ·rw [if_pos (by omega),if_pos ha,if_pos hb]
 ·rw [if_neg (by omega),if_pos ha,if_neg (by omega),Nat.xor_assoc]
 ·rw [if_neg (by omega),if_neg (by omega),if_pos hb,Nat.xor_assoc,Nat.xor_assoc,Nat.xor_comm (b/2)]
 ·rw [if_pos (by omega),if_neg (by omega),if_neg (by omega),xor4,Nat.xor_self,Nat.xor_zero]
theorem tx_lt(h:a<4294967296):tx a<4294967296:=by
 unfold tx
 split
 ·omega
 ·exact xor_lt (by omega) (by decide)
theorem tx_two(b:Nat):tx (2*b)=b:=by
 unfold tx
 rw [if_pos (by omega)];omega
def txn:Nat→Nat→Nat
 | 0,a=>a
 | k+1,a=>txn k (tx a)
theorem txn_xor(k a b:Nat):txn k (a ^^^ b)=txn k a ^^^ txn k b:=by
 induction k generalizing a b with
 | zero=>rfl
 | succ k ih=>simp only [txn];rw [tx_xor,ih]
theorem txn_lt(k:Nat){a:Nat}(h:a<4294967296):txn k a<4294967296:=by
 induction k generalizing a with
 | zero=>exact h
 | succ k ih=>exact ih (tx_lt h)
theorem txn_add(j k a:Nat):txn (j+k) a=txn j (txn k a):=by
 induction k generalizing a with
 | zero=>rfl
 | succ k ih=>rw [←Nat.add_assoc];simp only [txn];exact ih (tx a)
theorem txn_shift(k b:Nat):txn k (2 ^ k*b)=b:=by
 induction k with
 | zero=>simp [txn]
 | succ k ih=>rw [Nat.pow_succ,Nat.mul_comm _ 2,Nat.mul_assoc];simp only [txn];rw [tx_two,ih]
theorem txn_four(r:Nat):txn 4 r=r/16 ^^^ txn 4 (r % 16):=by
 have e:r=(2 ^ 4*(r/16)) ^^^ (r % 16):=by
  have h1:r % 16<2 ^ 4:=by omega
  have h2:=Nat.two_pow_add_eq_or_of_lt h1 (r/16)
  have h3:2 ^ 4*(r/16) &&& r % 16=0:=by
   apply Nat.eq_of_testBit_eq
   intro i
   rw [Nat.testBit_and,Nat.testBit_two_pow_mul,Nat.zero_testBit]
   by_cases hi:4≤i
   ·rw [Nat.testBit_lt_two_pow (Nat.lt_of_lt_of_le h1 (Nat.pow_le_pow_right (by omega) hi))];simp
   ·simp [hi]
  have h4:2 ^ 4*(r/16) ^^^ r % 16=2 ^ 4*(r/16) |||r % 16:=by
   apply Nat.eq_of_testBit_eq
   intro i
   have:=congrArg (fun n=>n.testBit i) h3
   simp only [Nat.testBit_and,Nat.zero_testBit]at this
   rw [Nat.testBit_xor,Nat.testBit_or]
   revert this
   cases (2 ^ 4*(r/16)).testBit i<;>cases (r % 16).testBit i<;>simp
  rw [h4,←h2];omega
 conv=>lhs;rw [e,txn_xor,txn_shift]
def byte(r c:Nat):Nat:=txn 8 (r ^^^ c)
def fold:Nat→List Nat→Nat
 | r,[]=>r
 | r,c::cs=>fold (byte r c) cs
theorem fold_cons(r c:Nat)(cs:List Nat):fold r (c::cs)=fold (byte r c) cs:=rfl
variable {r:Nat}
theorem byte_lt{c:Nat}(h:r<4294967296)(hc:c<256):byte r c<4294967296:=txn_lt 8 (xor_lt h (by omega))
theorem fold_append(r:Nat)(xs ys:List Nat):fold r (xs++ys)=fold (fold r xs) ys:=by
 induction xs generalizing r with
 | nil=>rfl
 | cons c cs ih=>exact ih _
theorem fold_lt(h:r<4294967296){xs:List Nat}(hx:∀ x∈xs,x<256):fold r xs<4294967296:=by
 induction xs generalizing r with
 | nil=>exact h
 | cons c cs ih=>exact ih (byte_lt h (hx c (by simp))) fun x hx'=>hx x (by simp [hx'])
def addN(s:Nat)(xs:List Nat):Nat:=fold (s ^^^ 4294967295) xs ^^^ 4294967295
theorem addN_lt{s:Nat}(h:s<4294967296){xs:List Nat}(hx:∀ x∈xs,x<256):addN s xs<4294967296:=xor_lt (fold_lt (xor_lt h (by decide)) hx) (by decide)
theorem addN_append(s:Nat)(xs ys:List Nat):addN s (xs++ys)=addN (addN s xs) ys:=by
 unfold addN
 rw [fold_append,Nat.xor_assoc _ 4294967295,Nat.xor_self,Nat.xor_zero]
def tm:Nat→Nat→Nat→Nat
 | 0,_,_=>0
 | k+1,a,b=>(if 2147483648≤b then a else 0) ^^^ tm k (tx a) (2*b % 4294967296)
end Jrn
namespace Jrn
open Go.RowKit
variable {w:World}
theorem gt{a b:World}(h:Below w.heap.size w a)(k:Below a.heap.size a b):Below w.heap.size w b:=h.trans (k.mono h.size)
theorem hid{p:Prop}(h:p):Hid p:=h
variable {w':World}
theorem undrew(h:Below w.drew.heap.size w.drew w'):Below w.heap.size w w':=⟨h.os,h.tape,h.output,h.size,h.block⟩
variable {v:Value}
theorem lt_cell{a:Addr}(h:w.cell? a=some v):a.block<w.heap.size:=by
 rcases Nat.lt_or_ge a.block w.heap.size with h1 |h1
 ·exact h1
 ·exfalso
  have h2:w.heap[a.block]? = none:=Array.getElem?_eq_none h1
  simp [World.cell?,h2]at h
variable {B:Nat}
theorem keep_cell(h:Below B w w'){a:Addr}{v:Value}(hc:w.cell? a=some v)(hB:a.block<B):w'.cell? a=some v:=by
 rw [World.cell?_of_block (h.block a.block hB)];exact hc
theorem keep_old(h:Below w.heap.size w w'){a:Addr}{v:Value}(hc:w.cell? a=some v):w'.cell? a=some v:=keep_cell h hc (lt_cell hc)
theorem keep_frozen(h:Below B w w'){a:Addr}(hB:a.block<B):w'.frozen? a=w.frozen? a:=World.frozen?_of_block (h.block a.block hB)
def bs(xs:List Nat):List Value:=xs.map fun x:Nat=>Value.int .u8 (x:Int)
def str(xs:List Nat):ByteArray:=⟨(xs.map UInt8.ofNat).toArray⟩
theorem bs_length(xs:List Nat):(bs xs).length=xs.length:=by simp [bs]
theorem bs_append(xs ys:List Nat):bs (xs++ys)=bs xs++bs ys:=by simp [bs]
theorem bs_one(xs:List Nat):∀ u∈bs xs,u.oneCell'=true:=by
 intro u hu
 obtain ⟨x,_,rfl⟩:=List.mem_map.1 hu
 rfl
theorem bs_get(xs:List Nat)(t:Nat)(h:t<xs.length):(bs xs)[t]? = some (.int .u8 ((xs.getD t 0:Nat):Int)):=by
 simp [bs,List.getElem?_map,List.getElem?_eq_getElem h,List.getD]
theorem bs_get'(xs:List Nat)(t:Nat)(u:Value)(h:(bs xs)[t]? = some u):t<xs.length∧u=.int .u8 ((xs.getD t 0:Nat):Int):=by
 have hl:t<xs.length:=by
  have:=(List.getElem?_eq_some_iff.1 h).1
  simpa [bs] using this
 rw [bs_get xs t hl]at h
 exact ⟨hl,(Option.some.inj h).symm⟩
def Rd(w:World)(ao:Option Addr)(n cap:Nat)(xs:List Nat):Prop:=
 xs.length=n∧n≤cap∧(ao=none→n=0∧cap=0) ∧
  (0<n→∃ b off,ao=some ⟨b,off,none⟩∧∀ t,t<n→w.cell? ⟨b,off+t,none⟩=some (.int .u8 ((xs.getD t 0:Nat):Int)))
variable {xs:List Nat} {n cap:Nat} {ao:Option Addr}
theorem Rd.keep(h:Rd w ao n cap xs)(hb:Below w.heap.size w w'):Rd w' ao n cap xs:=by
 refine ⟨h.1,h.2.1,h.2.2.1,fun hn=>?_⟩
 obtain ⟨b,off,e,hc⟩:=h.2.2.2 hn
 exact ⟨b,off,e,fun t ht=>keep_old hb (hc t ht)⟩
theorem Rd.nil(w:World):Rd w none 0 0 []:=⟨rfl,Nat.le_refl _,fun _=>⟨rfl,rfl⟩,fun h=>by omega⟩
variable {g:Nat}
theorem rd_own(h:w.ownsRow B 5 1 (.slice (some ⟨g,0,none⟩) n cap) n (bs xs)):Rd w (some ⟨g,0,none⟩) n cap xs:=by
 have hl:xs.length=n:=by simpa [bs] using h.1
 refine ⟨hl,?_,fun h=>(by cases h),fun _=>⟨g,0,rfl,fun t ht=>?_⟩⟩
 ·rcases h.2 with ⟨h',_⟩ | ⟨g',cap',cur,h',_,_,hnc,_⟩
  ·simp at h'
  ·simp only [Value.slice.injEq,Option.some.injEq,Addr.mk.injEq,and_true,true_and]at h'
   rw [h'.2];exact hnc
 ·rw [Nat.zero_add,h.cellAt t (by omega),bs_get xs t (by omega)]
theorem conv_rd{P:Program}(h:Rd w ao n cap xs)(src dst e:TypeId)(hs:P.underlying src=some (.slice e))(he:P.underlying e=some (.int .u8))(hd:P.underlying dst=some .string) :
  (convert src dst (.slice ao n cap)).run P w=.ok (.string (str xs)) w:=by
 obtain ⟨hl,hc,hno,hat⟩:=h
 rcases Nat.eq_zero_or_pos n with h0 |hp
 ·subst h0
  obtain rfl:xs = []:=List.eq_nil_of_length_eq_zero hl
  cases ao with
  | none=>rw [run_convert_bytes_nil w src e hs he 0 cap dst hd];rfl
  | some a=>
   rw [run_convert_bytes_string w src dst e (some a) 0 cap hs he hd,run_bytesToString w a 0 cap [] (run_loadCells_list (P:=P) w a [] (fun j v hj=>by simp at hj))]
   rfl
 ·obtain ⟨b,off,rfl,hcell⟩:=hat hp
  rw [run_convert_bytes_arg w src e hs he b off n cap (xs.map fun x:Nat=>(x:Int)) (by simpa using hl) (fun i hi=>by
   rw [hcell i hi]
   simp [List.getD,List.getElem?_map,List.getElem?_eq_getElem (show i<xs.length by omega)]) dst hd]
  simp [strOfNums,str,Function.comp_def]
theorem Tryz.info5:(Tryz.prog.info? 5).map (fun i=>(i.zero,i.size,i.bytes))=some (some (.int .u8 0),1,1):=by kernel_rfl
theorem make_any(n cap:Nat)(h:n≤cap)(hc:cap≤281474976710656)(w:World) :
  (Instr.makeSlice 79 (.int .i64 (n:Int)) (.int .i64 (cap:Int))).run Tryz.prog w=.ok (.slice (some ⟨w.heap.size,0,none⟩) n cap) (w.alloc (.cells (Array.replicate cap (.int .u8 0)) 5)):=by
 obtain ⟨i,hi,hz0,hz1,hz2⟩:=info_parts Tryz.info5
 have hr:=run_make (P:=Tryz.prog) w 79 5 i (.int .u8 0) Tryz.underlying79 hi hz0 .i64 .i64 n cap (by omega) (by omega) (by rw [hz2];omega) (by omega)
 simp only [Int.toNat_natCast,hz1,Nat.mul_one]at hr
 rw [hr,show Array.replicate cap (Value.int .u8 0)=(List.replicate cap (Value.int .u8 0)).toArray by simp,←toList_madeCells_one,Array.toArray_toList]
 rfl
theorem own_of_row{cur:List Value}(hB:B≤g)(hg:w.heap[g]? = some (.cells cur.toArray 5 (0,0)))(hcap:cur.length=cap)(hm:cap≤9223372036854775807)
  (hx:cur.take n=bs xs) (hn:xs.length=n) (hnc:n≤cap):w.ownsRow B 5 1 (.slice (some ⟨g,0,none⟩) n cap) n (bs xs):=
 ⟨by simp [bs,hn],.inr ⟨g,cap,cur.toArray,rfl,hB,hg,hnc,hm,by simp [hcap],by simpa using hx⟩⟩
theorem splice_zero(n m:Nat)(xs:List Nat)(h:xs.length=n):(splice (List.replicate (n+m) (Value.int .u8 0)) 0 (bs xs)).take n=bs xs:=by
 have hl:(bs xs).length=n:=by simp [bs,h]
 simp [splice,List.take_append_of_le_length (Nat.le_of_eq hl.symm),List.take_of_length_le (Nat.le_of_eq hl)]
theorem here_op(k:Nat){P:Program}{ops:Array Oper}{Q:Exit→Act→World→Prop}{a:Act}{w:World}{rest:List Oper}{op:Op}{t:TypeId}{pos:String}{after:Array Edge}{gd:Option (Nat×Bool)}
  (h:wpList P ops Q (⟨some k,op,t,pos,after,gd⟩::rest) a w):wpList P ops Q (⟨some k,op,t,pos,after,gd⟩::rest) a w:=h
theorem copy_hg(w:World)(k:Nat):(w.alloc (.cells (Array.replicate k (.int .u8 0)) 5)).heap[w.heap.size]? = some (.cells (List.replicate k (Value.int .u8 0)).toArray 5 (0,0)):=by
 rw [heap_alloc_new];simp
theorem copy_hn(h:Rd w ao n cap xs):(bs xs).length=Nat.min n n:=by
 rw [bs_length,h.1];exact (Nat.min_self n).symm
theorem copy_hpos(h:Rd w ao n cap xs){o:Obj}:0<(bs xs).length→some (⟨w.heap.size,0,none⟩:Addr)=some ⟨w.heap.size,0,none⟩∧∃ ad,ao=some ad∧∀ j v,(bs xs)[j]? = some v→(w.alloc o).cell? (ad.add j)=some v:=by
 intro hp
 rw [bs_length,h.1]at hp
 obtain ⟨b,off,rfl,hc⟩:=h.2.2.2 hp
 refine ⟨rfl,_,rfl,fun j v hv=>?_⟩
 obtain ⟨hj,rfl⟩:=bs_get' xs j v hv
 rw [Addr.add_lit]
 exact keep_old (Below.alloc (Below.refl _ _) (Nat.le_refl _) o) (hc j (by have:=h.1;omega))
theorem widened_any(ao:Option Addr)(n cap m:Nat)(xs:List Nat)(w:World)(h:Rd w ao n cap xs)(hm:n+m≤281474976710656) :
  Calls Tryz.prog 159 #[.slice ao n cap,.int .i64 (m:Int)] w fun e w'=>e=.returned (.slice (some ⟨w.heap.size,0,none⟩) n (n+m)) ∧
   w'.ownsRow w.heap.size 5 1 (.slice (some ⟨w.heap.size,0,none⟩) n (n+m)) n (bs xs)∧Below w.heap.size w w':=by
 have hmk:=make_any n (n+m) (by omega) hm
 have e1:((n+m:Nat):Int)=(n:Int)+(m:Int):=by omega
 rw [e1]at hmk
 have hr:=hid h
 clear e1 h
 go_enter Tryz.func159,Tryz.ntmps159
 go_wp2_with ((with_reducible refine here_op 15 ?_);refine wpList_copy_splice rfl (.tmp 13) (.tmp 14) 79 79 rfl 5 Tryz.underlying79 (by kernel_rfl) _ _ _ _ _ _ rfl rfl w.heap.size 0 (List.replicate (n+m) (.int .u8 0)) 5 (copy_hg w (n+m)) (bs xs) (copy_hn hr.out) (copy_hpos hr.out) (by simp [bs,hr.out.1]) (bs_one xs) w.heap.size w (Below.alloc (Below.refl _ _) (Nat.le_refl _) _) (Nat.le_refl _) ?_;intro w2 hg2 hb2)
 go_ret
 exact ⟨rfl,own_of_row (Nat.le_refl _) hg2.out (by rw [length_splice _ _ _ (by simp [bs,hr.out.1])];simp) (by omega) (splice_zero n m xs hr.out.1) hr.out.1 (by omega),hb2⟩
theorem wpList_append_rd{ops:Array Oper}{rest:List Oper}{o:Oper}{a:Act}{Q:Exit→Act→World→Prop}(hgd:o.guard=none)(s x:Operand)
  (ho:o.op=.call { callee:=.builtin .append,args:=#[s,x],argTypes:=#[79,79] }) (B:Nat) (v:Value) (n:Nat) (xs:List Nat) (hs:a.eval s=v) (hown:w.ownsRow B 5 1 v n (bs xs))
  (ao:Option Addr) (m c:Nat) (ys:List Nat) (hx:a.eval x=.slice ao m c) (hr:Rd w ao m c ys) (hb:n+m≤140737488355328) (hB:B≤w.heap.size)
  (h:∀ v' w',w'.ownsRow B 5 1 v' (n+m) (bs (xs++ys))→Below B w w'→wpList Tryz.prog ops Q rest (a.put o.dst v') w'):wpList Tryz.prog ops Q (o::rest) a w:=by
 obtain ⟨i5,hi5,hz0,hz1,hz2⟩:=info_parts Tryz.info5
 obtain ⟨hl,hc,hno,hat⟩:=hr
 cases ao with
 | none=>
  obtain ⟨rfl,rfl⟩:=hno rfl
  obtain rfl:ys = []:=List.eq_nil_of_length_eq_zero hl
  refine wpList_append_own_none hgd s x 79 ho B 5 i5 1 Tryz.underlying79 hi5 v n (bs xs) hs hown hx ?_
  exact h v w (by simpa using hown) (Below.refl _ _)
 | some ad=>
  refine wpList_append_own w hgd s x 79 ho B 5 i5 (.int .u8 0) 1 1 Tryz.underlying79 hi5 hz0 hz1 hz2 rfl (by decide) v n (bs xs) hs hown ad m c (bs ys) hx (by simp [bs,hl]) ?_ (bs_one ys) (by unfold maxLen;omega) (by omega) hB ?_
  ·intro j u hu
   obtain ⟨hj,rfl⟩:=bs_get' ys j u hu
   obtain ⟨b,off,e,hcell⟩:=hat (by omega)
   simp only [Option.some.injEq]at e
   subst e
   rw [Addr.add_lit]
   exact hcell j (by omega)
  ·intro v' w' h1 h2 _
   refine h v' w' (by rw [bs_append];exact h1) ((Below.refl B w).grown h2 hB fun k hk=>(hown.lt k hk).1)
theorem rd_owned(h:w.ownsRow B 5 1 v n (bs xs)):∃ ao cap,v=.slice ao n cap∧Rd w ao n cap xs:=by
 rcases h.2 with ⟨rfl,rfl⟩ | ⟨g,cap,cur,rfl,_⟩
 ·obtain rfl:xs = []:=by have:=h.1;simp [bs]at this;exact this
  exact ⟨none,0,rfl,Rd.nil w⟩
 ·exact ⟨_,_,rfl,rd_own h⟩
def Tab(w:World):Prop:=∀ k:Nat,k<16→w.cell? ⟨0,k,none⟩=some (.int .u32 ((txn 4 k:Nat):Int))
theorem Tab.keep(h:Tab w)(hb:Below w.heap.size w w'):Tab w':=fun k hk=>keep_old hb (h k hk)
end Jrn
namespace Jrn
open Go.RowKit
theorem sized_any(s:Int)(w:World):Calls Tryz.prog 140 #[.int .i64 s] w fun e w'=>e=.returned (.bool (decide (1≤s)&&decide (s≤8)))∧w'=w:=by
 by_cases h:1≤s<;>by_cases h':s≤8
 all_goals
  go_enter Tryz.func140,Tryz.ntmps140
  go_wp2
  go_ret
  simp [h,h']
theorem shift_little(i s:Nat)(w:World)(h:i<8) :
  Calls Tryz.prog 160 #[.int .i64 i,.int .i64 s,.bool true] w fun e w'=>e=.returned (.int .i64 (8*(i:Int)))∧w'=w:=by
 go_enter Tryz.func160,Tryz.ntmps160
 go_wp2
 go_ret
 exact ⟨rfl,rfl⟩
theorem shift_big(i s:Nat)(w:World)(h:i<s)(h':s≤8) :
  Calls Tryz.prog 160 #[.int .i64 i,.int .i64 s,.bool false] w fun e w'=>e=.returned (.int .i64 (8*((s - 1 - i:Nat):Int)))∧w'=w:=by
 obtain ⟨j,hj⟩:∃ j:Nat,s=i+1+j:=⟨s - 1 - i,by omega⟩
 subst hj
 rw [show i+1+j - 1 - i=j by omega]
 go_enter Tryz.func160,Tryz.ntmps160
 go_wp2
 go_ret
 refine ⟨?_,rfl⟩
 simp
 omega
def up(F:Nat→Nat)(i:Nat):Nat→List Nat
 | 0=>[]
 | k+1=>F i::up F (i+1) k
def place(l:Bool)(s i:Nat):Nat:=if l then i else s - 1 - i
def putN(v s:Nat)(l:Bool):List Nat:=up (fun i=>v/2 ^ (8*place l s i) % 256) 0 s
theorem up_length(F:Nat→Nat)(i k:Nat):(up F i k).length=k:=by
 induction k generalizing i with
 | zero=>rfl
 | succ k ih=>simp [up,ih]
theorem up_step(F:Nat→Nat)(i k:Nat)(h:i<k)(ys T:List Nat)(e:ys++up F i (k - i)=T):(ys++[F i])++up F (i+1) (k - (i+1))=T:=by
 rw [←e,show k - i=(k - (i+1))+1 by omega]
 simp [up]
theorem shift_any(i s:Nat)(l:Bool)(w:World)(h:i<s)(h':s≤8) :
  Calls Tryz.prog 160 #[.int .i64 i,.int .i64 s,.bool l] w fun e w'=>e=.returned (.int .i64 ((8*place l s i:Nat):Int))∧w'=w:=by
 cases l with
 | true=>simpa [place] using shift_little i s w (by omega)
 | false=>simpa [place] using shift_big i s w h h'
theorem shr_nat(v c:Nat)(yk:IntKind)(h:c≤64):Op.shift .shr .u64 (v:Int) yk (c:Int)=pure (.int .u64 ((v/2 ^ c:Nat):Int)):=by
 rw [shift_shr_any _ _ _ _ (by omega)]
 simp [IntKind.bits,Nat.min_eq_left h]
theorem shl_nat(v c:Nat)(yk:IntKind)(h:c≤64):Op.shift .shl .u64 (v:Int) yk (c:Int)=pure (.int .u64 (IntKind.u64.wrap ((v*2 ^ c:Nat):Int))):=by
 rw [shift_shl_any _ _ _ _ (by omega)]
 simp [IntKind.bits,Nat.min_eq_left h]
theorem shift_named(v i s:Nat)(l:Bool)(h:i<s)(h':s≤8):∃ (sh:Int) (q:Nat),(∀ w,Calls Tryz.prog 160 #[.int .i64 i,.int .i64 s,.bool l] w fun e w'=>e=.returned (.int .i64 sh)∧w'=w) ∧
  Op.shift .shr .u64 (v:Int) .i64 sh=pure (.int .u64 (q:Int))∧Op.shift .shl .u64 (v:Int) .i64 sh=pure (.int .u64 (IntKind.u64.wrap ((v*2 ^ (8*place l s i):Nat):Int)))∧q=v/2 ^ (8*place l s i):=by
 refine ⟨((8*place l s i:Nat):Int),v/2 ^ (8*place l s i),fun w=>shift_any i s l w h h',?_,?_,rfl⟩
 ·exact shr_nat v _ _ (by unfold place;split<;>omega)
 ·exact shl_nat v _ _ (by unfold place;split<;>omega)
theorem one_cell(w:World)(x:Nat):∀ j u,(bs [x])[j]? = some u→(w.alloc (.cells #[.int .u8 (x:Int)] 5)).cell? ((⟨w.heap.size,0,none⟩:Addr).add j)=some u:=by
 intro j u hu
 obtain ⟨hj,rfl⟩:=bs_get' [x] j u hu
 have:j=0:=by simpa using hj
 subst this
 rw [Addr.add_lit]
 simp
theorem put_any(ao:Option Addr)(n cap:Nat)(xs:List Nat)(v:Nat)(s:Int)(k:Nat)(l:Bool)(w:World)(h:Rd w ao n cap xs)(hn:n≤140737488355328)(hk:k≤8)(hs:min (max s 0) 8=(k:Int)) :
  Calls Tryz.prog 114 #[.slice ao n cap,.int .u64 v,.int .i64 s,.bool l] w fun e w'=>e=.returned (.slice (some ⟨w.heap.size,0,none⟩) (n+k) (n+k)) ∧
   w'.ownsRow w.heap.size 5 1 (.slice (some ⟨w.heap.size,0,none⟩) (n+k) (n+k)) (n+k) (bs (xs++putN v k l))∧Below w.heap.size w w':=by
 have cw:=hid (widened_any ao n cap k xs w h (by omega))
 have hs':=hid hs
 go_enter Tryz.func114,Tryz.ntmps114
 go_wp2_with (go_at_call 159;refine cw.out.mono ?_;rintro e w1 ⟨rfl,ho1,hb1⟩)
 go_loopw [9,18] (fun o c W=>∃ (i:Nat) (ys:List Nat),i≤k∧c=.int .i64 i∧o=.slice (some ⟨w.heap.size,0,none⟩) (n+i) (n+k)∧ys++up (fun j=>v/2 ^ (8*place l k j) % 256) i (k - i)=xs++putN v k l ∧
   W.ownsRow w.heap.size 5 1 (.slice (some ⟨w.heap.size,0,none⟩) (n+i) (n+k)) (n+i) (bs ys)∧Below w.heap.size w W) (fun _ c _=>k - (intOf c).toNat)
 case atStart=>exact ⟨0,xs,by omega,rfl,rfl,rfl,ho1,hb1⟩
 case round=>
  obtain ⟨i,ys,hi,rfl,rfl,he,ho,hb⟩:=hrel
  have he':=hid he
  clear he hs h cw ho1 hb1
  by_cases hik:i<k
  ·obtain ⟨sh,q,c,hsh,_,hq⟩:=shift_named v i k l hik hk
   have c':=hid c
   obtain ⟨i5,hi5,hz0,hz1,hz2⟩:=info_parts Tryz.info5
   have hq':=hid hq
   clear c hq
   go_wp2_with (first |(go_at_call 160;refine (c'.out _).mono ?_;rintro e w2 ⟨rfl,rfl⟩) |(at_builtin;refine wpList_append_fits _ rfl (.tmp 21) (.tmp 29) 79 rfl w.heap.size 5 i5 1 Tryz.underlying79 hi5 hz1 w.heap.size (n+i) (n+k) (bs ys) rfl (ho.alloc _) ⟨w2.heap.size,0,none⟩ 1 1 (bs [q % 256]) rfl rfl (one_cell w2 (q % 256)) (bs_one _) (by omega) ?_;intro w3 ho3 hg3))
   refine ⟨⟨i+1,ys++[q % 256],by omega,by go_num,by rw [Nat.add_assoc],?_,?_,?_⟩,by simp [intOf];omega⟩
   ·rw [hq'.out]
    exact up_step (fun j=>v/2 ^ (8*place l k j) % 256) i k hik ys _ he'.out
   ·rw [bs_append,←Nat.add_assoc];exact ho3
   ·exact (Below.alloc hb hb.size _).grown hg3 (by have:=hb.size;simp;omega) (fun j hj=>by cases hj;exact Nat.le_refl _)
  ·obtain rfl:i=k:=by omega
   go_wp2
   go_ret
   rw [Nat.sub_self]at he'
   simp only [up,List.append_nil]at he'
   rw [←he'.out]
   exact ⟨rfl,ho,hb⟩
end Jrn
namespace Jrn
open Go.RowKit
def ctd(n:Int):Bool:=decide (0≤n)&&decide (n≤4000)
theorem ctd_iff(n:Int):ctd n=true↔0≤n∧n≤4000:=by simp [ctd]
theorem counted_any(n:Int)(w:World):Calls Tryz.prog 183 #[.int .i64 n] w fun e w'=>e=.returned (.bool (ctd n))∧w'=w:=by
 unfold ctd
 by_cases h:0≤n<;>by_cases h':n≤4000
 all_goals
  go_enter Tryz.func183,Tryz.ntmps183
  go_wp2
  go_ret
  simp [h,h']
def hgood(c p:Int):Bool:=ctd c&&ctd p
theorem hgood_iff(c p:Int):hgood c p=true↔(0≤c∧c≤4000)∧0≤p∧p≤4000:=by simp [hgood,ctd_iff]
theorem hgood_any(c p:Int)(n:Nat)(w:World):Calls Tryz.prog 152 #[.agg #[.int .i64 c,.int .i64 p,.int .u64 (n:Int)]] w fun e w'=>e=.returned (.bool (hgood c p))∧Below w.heap.size w w':=by
 have c1:=hid (counted_any c)
 have c2:=hid (counted_any p)
 unfold hgood
 generalize ctd c=b1 at *
 generalize ctd p=b2 at *
 cases b1 with
 | true=>
  go_enter Tryz.func152,Tryz.ntmps152
  go_wp2_with (first |(go_at_call 183;refine (c1.out _).mono ?_;rintro e w1 ⟨rfl,hw1⟩;obtain rfl:=hw1.symm;clear c1) |(go_at_call 183;refine (c2.out _).mono ?_;rintro e w1 ⟨rfl,hw1⟩;obtain rfl:=hw1.symm))
  go_ret
  exact ⟨by simp,Below.alloc (Below.refl _ _) (Nat.le_refl _) _⟩
 | false=>
  go_enter Tryz.func152,Tryz.ntmps152
  go_wp2_with (go_at_call 183;refine (c1.out _).mono ?_;rintro e w1 ⟨rfl,hw1⟩;obtain rfl:=hw1.symm)
  go_ret
  exact ⟨by simp,Below.alloc (Below.refl _ _) (Nat.le_refl _) _⟩
def rgood(p:Int)(n:Nat):Bool:=decide (1≤p)&&decide (p≤4000)&&decide (n=512)
theorem rgood_iff(p:Int)(n:Nat):rgood p n=true↔(1≤p∧p≤4000)∧n=512:=by simp [rgood]
theorem rgood_any(p:Int)(ao:Option Addr)(n cap:Nat)(w:World):Calls Tryz.prog 153 #[.agg #[.int .i64 p,.slice ao n cap]] w fun e w'=>e=.returned (.bool (rgood p n))∧Below w.heap.size w w':=by
 by_cases h2:n=512
 ·subst h2
  by_cases h:1≤p
  ·by_cases h':p≤4000
   ·skip
    rw [show rgood p 512=true by exact (rgood_iff _ _).2 ⟨⟨by omega,by omega⟩,rfl⟩]
    go_enter Tryz.func153,Tryz.ntmps153
    go_wp2
    go_ret
    exact ⟨rfl,Below.alloc (Below.refl _ _) (Nat.le_refl _) _⟩
   ·skip
    rw [show rgood p 512=false by rw [Bool.eq_false_iff,Ne,rgood_iff];omega]
    go_enter Tryz.func153,Tryz.ntmps153
    go_wp2
    go_ret
    exact ⟨rfl,Below.alloc (Below.refl _ _) (Nat.le_refl _) _⟩
  ·skip
   rw [show rgood p 512=false by rw [Bool.eq_false_iff,Ne,rgood_iff];omega]
   go_enter Tryz.func153,Tryz.ntmps153
   go_wp2
   go_ret
   exact ⟨rfl,Below.alloc (Below.refl _ _) (Nat.le_refl _) _⟩
 ·have h3:((n:Int) == 512)=false:=by simp;omega
  by_cases h:1≤p
  ·by_cases h':p≤4000
   ·skip
    rw [show rgood p n=false by rw [Bool.eq_false_iff,Ne,rgood_iff];omega]
    go_enter Tryz.func153,Tryz.ntmps153
    go_wp2
    go_ret
    exact ⟨rfl,Below.alloc (Below.refl _ _) (Nat.le_refl _) _⟩
   ·skip
    rw [show rgood p n=false by rw [Bool.eq_false_iff,Ne,rgood_iff];omega]
    go_enter Tryz.func153,Tryz.ntmps153
    go_wp2
    go_ret
    exact ⟨rfl,Below.alloc (Below.refl _ _) (Nat.le_refl _) _⟩
  ·skip
   rw [show rgood p n=false by rw [Bool.eq_false_iff,Ne,rgood_iff];omega]
   go_enter Tryz.func153,Tryz.ntmps153
   go_wp2
   go_ret
   exact ⟨rfl,Below.alloc (Below.refl _ _) (Nat.le_refl _) _⟩
end Jrn
namespace Jrn
open Go.RowKit
theorem zero_cells(k:Nat):Builtin.zeroCells (Value.int .u8 0).cells k=(bs (List.replicate k 0)).toArray:=by
 apply Array.ext'
 simp [Builtin.zeroCells,bs,Value.cells]
 apply List.ext_getElem
 ·simp
 ·intro i h1 h2
  simp [Nat.mod_one]
theorem run_append_zeros(B:Nat)(ty:TypeId)(v:Value)(n:Nat)(xs:List Nat)(w:World)(hown:w.ownsRow B 5 1 v n (bs xs))(k:Nat)(hk:0<k)(hb:n+k≤140737488355328)(hB:B≤w.heap.size) :
  ∃ v' w',(Builtin.append_ #[79,3] ty #[v,.int .i64 (k:Int)]).run Tryz.prog w=.ok v' w'∧w'.ownsRow B 5 1 v' (n+k) (bs (xs++List.replicate k 0))∧w.grownBy w' v.ownBlock:=by
 obtain ⟨i5,hi5,hz0,hz1,hz2⟩:=info_parts Tryz.info5
 have hlx:xs.length=n:=by simpa [bs] using hown.1
 have hlen:(bs (xs++List.replicate k 0)).length=(n+k)*1:=by simp [bs,hlx]
 have t30:=Tryz.underlying79
 have t3:=Tryz.underlying3
 have hw:IntKind.i64.wrap (k:Int)=k:=by rw [IntKind.wrap_i64];omega
 have hneg:¬((k:Int)<0):=by omega
 have h48i:¬(281474976710656<(k:Int)*(i5.bytes:Int)):=by rw [hz2];omega
 have grown:∀ (old:Nat),old<n+k→∀ (row:Option Nat) (C:Array Value),C=(bs (xs++List.replicate k 0)).toArray++Builtin.zeroCells (Value.int .u8 0).cells (grownCap w (n+k) old 5 - (n+k)) →
   (w.drew.alloc (.cells C 5)).ownsRow B 5 1 (.slice (some ⟨w.heap.size,0,none⟩) (n+k) (grownCap w (n+k) old 5)) (n+k) (bs (xs++List.replicate k 0))∧w.grownBy (w.drew.alloc (.cells C 5)) row:=by
  intro old ho row C hC
  subst hC
  have hge:=grownCap_ge w (n+k) old 5
  have hcm:=grownCap_le_maxLen w (n+k) old 5 (by unfold maxLen;omega)
  refine ⟨⟨hlen,.inr ⟨w.heap.size,_,_,rfl,hB,heap_alloc_new w.drew _,hge,hcm,?_,?_⟩⟩,⟨rfl,rfl,rfl,by simp,fun j hj _=>Below.heap_alloc w.drew _ j hj⟩⟩
  ·rw [zero_cells];simp [bs];omega
  ·rw [←hlen];simp
 rcases hown.2 with ⟨rfl,rfl⟩ | ⟨g,cap,cur,rfl,hbg,hg,hnc,hcm,hcs,htake⟩
 ·obtain rfl:xs = []:=List.eq_nil_of_length_eq_zero hlx
  have hr:=Lib.run_append_nil_zeros (P:=Tryz.prog) w 79 3 ty 5 i5 (.int .u8 0) .i64 .i64 t30 t3 hi5 hz0 k (by omega) (by rw [hz1];omega) (by omega) (by rw [hz2];omega)
  have hgr:=grown 0 (by omega) (Value.ownBlock (.slice none 0 0)) _ rfl
  simp only [Nat.zero_add,List.nil_append]at hgr ⊢
  refine ⟨_,_,hr,?_⟩
  rw [zero_cells k]
  exact hgr
 ·by_cases hroom:n+k≤cap
  ·have hst:=run_storeCells_at Tryz.prog g n 5 (bs (List.replicate k 0)) 0 cur w hg (by simp [bs,hcs];omega) (bs_one _)
   simp only [Nat.add_zero]at hst
   have hr:(Builtin.append_ #[79,3] ty #[.slice (some ⟨g,0,none⟩) n cap,.int .i64 (k:Int)]).run Tryz.prog w=.ok (.slice (some ⟨g,0,none⟩) (n+k) cap) (w.setRow g (cur.toList.take n++bs (List.replicate k 0)++cur.toList.drop (n+(bs (List.replicate k 0)).length)).toArray):=by
    simp [Builtin.append_,run_underlying t30,run_underlying t3,sizeOf,typeInfo,zeroValue,hi5,hz0,asInt,asIntOf,hw,hneg,h48i,hroom,Addr.add_lit,hz1,zero_cells,hst]
    intro h0
    omega
   refine ⟨_,_,hr,⟨hlen,.inr ⟨g,cap,_,rfl,hbg,setRow_heap w g cur _ 5 _ hg,hroom,hcm,?_,?_⟩⟩,⟨rfl,rfl,rfl,by simp,fun j _ hj=>setRow_other w g j _ (fun e=>hj (by simp [Value.ownBlock,e]))⟩⟩
   ·simp [bs,hcs];omega
   ·rw [←hlen]
    have:cur.toList.take n=bs xs:=by simpa using htake
    rw [this,bs_append]
    exact List.take_left
  ·have holds:∀ j u,(bs xs)[j]? = some u→w.cell? ((⟨g,0,none⟩:Addr).add j)=some u:=hown.cells (g:=g) rfl
   have hold:(Builtin.firstCells i5.size n (.slice (some ⟨g,0,none⟩) n cap)).run Tryz.prog w.drew=.ok (bs xs).toArray w.drew:=run_firstCells_some w.drew i5.size n ⟨g,0,none⟩ n cap (bs xs) (by simp [bs,hz1,hlx]) (by simpa using holds)
   have hr:=Lib.run_append_grow_zeros (P:=Tryz.prog) w 79 3 ty 5 i5 (.int .u8 0) .i64 .i64 t30 t3 hi5 hz0 (some ⟨g,0,none⟩) n cap (bs xs) hold k (by omega) (by omega) (by omega) (by omega) (by rw [hz2];omega) (by rw [hz2];exact growslice_fits (by omega) (by omega))
   have hgr:=grown cap (by omega) (Value.ownBlock (.slice (some ⟨g,0,none⟩) n cap)) _ rfl
   refine ⟨_,_,hr,?_⟩
   rw [zero_cells k]
   simpa [bs_append] using hgr
variable {w:World}
theorem wpList_append_zeros{ops:Array Oper}{rest:List Oper}{o:Oper}{a:Act}{Q:Exit→Act→World→Prop}(hgd:o.guard=none)(s x:Operand)
  (ho:o.op=.call { callee:=.builtin .append,args:=#[s,x],argTypes:=#[79,3] }) (B:Nat) (v:Value) (n:Nat) (xs:List Nat) (hs:a.eval s=v) (hown:w.ownsRow B 5 1 v n (bs xs))
  (k:Nat) (hx:a.eval x=.int .i64 (k:Int)) (hk:0<k) (hb:n+k≤140737488355328) (hB:B≤w.heap.size)
  (h:∀ v' w',w'.ownsRow B 5 1 v' (n+k) (bs (xs++List.replicate k 0))→Below B w w'→wpList Tryz.prog ops Q rest (a.put o.dst v') w'):wpList Tryz.prog ops Q (o::rest) a w:=by
 obtain ⟨v',w',hr,h1,h2⟩:=run_append_zeros B o.type v n xs w hown k hk hb hB
 exact Lib.wpList_append_run w hgd s x 79 3 ho v _ hs hx v' w' hr (h v' w' h1 ((Below.refl B w).grown h2 hB fun j hj=>(hown.lt j hj).1))
theorem own_cut{B n m:Nat}{g cap:Nat}{xs ys:List Nat}(h:w.ownsRow B 5 1 (.slice (some ⟨g,0,none⟩) (n+m) cap) (n+m) (bs (xs++ys)))(hl:xs.length=n):w.ownsRow B 5 1 (.slice (some ⟨g,0,none⟩) n cap) n (bs xs):=by
 rcases h.2 with ⟨h',_⟩ | ⟨g',cap',cur,h',hb,hg,hnc,hm,hs,ht⟩
 ·cases h'
 ·simp only [Value.slice.injEq,Option.some.injEq,Addr.mk.injEq,and_true,true_and]at h'
  obtain ⟨rfl,rfl⟩:=h'
  refine ⟨by simp [bs,hl],.inr ⟨g,cap,cur,rfl,hb,hg,by omega,hm,hs,?_⟩⟩
  have:=congrArg (List.take n) ht
  rw [List.take_take,bs_append,List.take_append_of_le_length (by simp [bs,hl])]at this
  rw [show min n ((n+m)*1)=n*1 by omega]at this
  rw [this]
  exact List.take_of_length_le (by simp [bs,hl])
theorem grow_any(B g n k:Nat)(xs:List Nat)(w:World)(hown:w.ownsRow B 5 1 (.slice (some ⟨g,0,none⟩) n n) n (bs xs))(hb:n+k≤140737488355328)(hB:B≤w.heap.size) :
  Calls Tryz.prog 162 #[.slice (some ⟨g,0,none⟩) n n,.int .i64 (k:Int)] w fun e w'=>∃ v,e=.returned v∧w'.ownsRow B 5 1 v n (bs xs)∧Below B w w':=by
 have hown':=hid hown
 have hlx:xs.length=n:=by simpa [bs] using hown.1
 by_cases hk:k=0
 ·subst hk
  have h0:¬(0:Int)<0:=by omega
  go_enter Tryz.func162,Tryz.ntmps162
  go_wp2
  go_ret
  exact ⟨_,rfl,hown'.out,Below.refl _ _⟩
 ·have hk':0<(k:Int):=by omega
  have hlx':=hid hlx
  clear hown hlx
  go_enter Tryz.func162,Tryz.ntmps162
  go_wp2_with (at_builtin;refine wpList_append_zeros rfl (.tmp 20) (.tmp 21) rfl B _ n xs rfl hown'.out k rfl (by omega) hb hB ?_;intro v1 w1 ho1 hb1;obtain ⟨g1,cap1,hv1,hc1⟩:∃ g1 cap1,v1=.slice (some ⟨g1,0,none⟩) (n+k) cap1∧n+k≤cap1∧cap1≤9223372036854775807:=(by rcases ho1.2 with ⟨_,h'⟩ | ⟨g',cap',cur,h',_,_,hnc,hm,_⟩;(exfalso;omega);exact ⟨g',cap',h',hnc,by unfold maxLen at hm;omega⟩);subst hv1;replace ho1:=hid ho1)
  go_ret
  exact ⟨_,rfl,own_cut ho1.out hlx'.out,hb1⟩
end Jrn
namespace Jrn
open Go.RowKit
theorem xor_nat(a b:Nat)(z:Int)(hz:z=(b:Int))(ha:a<4294967296)(hb:b<4294967296):bits .xor .u32 (a:Int) z=((a ^^^ b:Nat):Int):=by
 subst hz
 exact u32_xor_nat a b ha hb
theorem not_u32(s:Nat)(h:s<4294967296):bits .xor .u32 IntKind.u32.max (s:Int)=((s ^^^ 4294967295:Nat):Int):=by
 rw [show IntKind.u32.max=((4294967295:Nat):Int) from rfl,u32_xor_nat 4294967295 s (by decide) h,Nat.xor_comm]
theorem drop_step(xs:List Nat)(i:Nat)(h:i<xs.length):xs.drop i=xs.getD i 0::xs.drop (i+1):=by
 rw [List.drop_eq_getElem_cons h]
 simp [List.getD,List.getElem?_eq_getElem h]
theorem get_lt{xs:List Nat}(hx:∀ x∈xs,x<256){i:Nat}(h:i<xs.length):xs.getD i 0<256:=by
 rw [List.getD_eq_getElem?_getD,List.getElem?_eq_getElem h]
 exact hx _ (List.getElem_mem h)
theorem and_15(a:Nat)(h:a<4294967296):bits .and .u32 (a:Int) 15=((a % 16:Nat):Int):=by
 rw [show (15:Int)=((15:Nat):Int) from rfl,u32_and_nat a 15 h (by decide),nat_mask4]
theorem four_ex(R:Nat)(h:R<4294967296)(w:World)(hT:Tab w):∃ (k:Nat) (t q:Int),k<16∧bits .and .u32 (R:Int) 15=(k:Int)∧w.cell? ⟨0,k,none⟩=some (.int .u32 t)∧(R:Int)/16=q∧bits .xor .u32 q t=((txn 4 R:Nat):Int):=by
 refine ⟨R % 16,((txn 4 (R % 16):Nat):Int),((R/16:Nat):Int),by omega,and_15 R h,hT _ (by omega),by omega,?_⟩
 rw [u32_xor_nat _ _ (by omega) (txn_lt 4 (by omega)),←txn_four]
theorem byte_two(r c:Nat):byte r c=txn 4 (txn 4 (r ^^^ c)):=by unfold byte;rw [←txn_add]
theorem add_any(s:Nat)(ao:Option Addr)(n cap:Nat)(xs:List Nat)(w:World)(hs:s<4294967296)(h:Rd w ao n cap xs)(hx:∀ x∈xs,x<256)(hn:n≤9223372036854775807)(hT:Tab w) :
  Calls Tryz.prog 182 #[.int .u32 (s:Int),.slice ao n cap] w fun e w'=>e=.returned (.int .u32 ((addN s xs:Nat):Int))∧w'=w:=by
 have hT':=hid hT
 have hr:=hid h
 have hx':=hid hx
 have sg:IntKind.u32.signed=false:=rfl
 have e1:=not_u32 s hs
 have hS:=xor_lt hs (show 4294967295<4294967296 by decide)
 obtain ⟨S,hSe⟩:∃ S,S=s ^^^ 4294967295:=⟨_,rfl⟩
 have hA:addN s xs=fold S xs ^^^ 4294967295:=by rw [hSe];rfl
 rw [hA]
 rw [←hSe]at e1 hS
 clear hT h hx hSe hA
 go_enter Tryz.func182,Tryz.ntmps182
 go_wp2
 go_loopw [5,12] (fun r c W=>∃ (i R:Nat),i≤n∧c=.int .i64 (i:Int)∧r=.int .u32 (R:Int)∧R<4294967296∧fold R (xs.drop i)=fold S xs∧W=w) (fun _ c _=>n - (intOf c).toNat)
 case atStart=>exact ⟨0,S,by omega,rfl,rfl,hS,by simp,rfl⟩
 case round=>
  obtain ⟨i,R,hi,rfl,rfl,hR,he,rfl⟩:=hrel
  have he':=hid he
  clear he e1
  by_cases hin:i<n
  ·obtain ⟨b,off,rfl,hc⟩:=hr.out.2.2.2 (by omega)
   have hci:=hc i hin
   have hl:=hr.out.1
   have hc8:=get_lt hx'.out (i:=i) (by omega)
   have hd:=hid (drop_step xs i (by omega))
   generalize xs.getD i 0=c at *
   have hx1:=xor_nat R c c rfl hR (by omega)
   have hR1:=xor_lt hR (show c<4294967296 by omega)
   have hby:=hid (byte_two R c)
   generalize R ^^^ c=R1 at *
   obtain ⟨k1,t1,q1,hk1,ha1,hl1,hq1,hx2⟩:=four_ex R1 hR1 wr hT'.out
   have hR2:=txn_lt 4 hR1
   generalize txn 4 R1=R2 at *
   obtain ⟨k2,t2,q2,hk2,ha2,hl2,hq2,hx3⟩:=four_ex R2 hR2 wr hT'.out
   have hR3:=txn_lt 4 hR2
   generalize txn 4 R2=R3 at *
   clear hc
   go_wp2
   refine ⟨⟨i+1,R3,by omega,by go_num,rfl,hR3,?_,trivial⟩,by simp [intOf];omega⟩
   rw [←he'.out,hd.out,fold_cons,hby.out]
  ·obtain rfl:i=n:=by omega
   have e2:=not_u32 R hR
   go_wp2
   go_ret
   have:=he'.out
   rw [List.drop_eq_nil_of_le (by have:=hr.out.1;omega)]at this
   rw [←this]
   exact ⟨rfl,rfl⟩
theorem of_any(ao:Option Addr)(n cap:Nat)(xs:List Nat)(w:World)(h:Rd w ao n cap xs)(hx:∀ x∈xs,x<256)(hn:n≤9223372036854775807)(hT:Tab w) :
  Calls Tryz.prog 149 #[.slice ao n cap] w fun e w'=>e=.returned (.int .u32 ((addN 0 xs:Nat):Int))∧w'=w:=by
 have c:=hid (add_any 0 ao n cap xs w (by decide) h hx hn hT)
 clear h hx hT
 go_enter Tryz.func149,Tryz.ntmps149
 go_wp2_with (go_at_call 182;refine c.out.mono ?_;rintro e w1 ⟨rfl,hw1⟩;obtain rfl:=hw1.symm)
 go_ret
 exact ⟨rfl,rfl⟩
end Jrn
namespace Jrn
open Go.RowKit
def mag:List Nat:=[104,97,99,104,117,114]
def hd22(c p n:Nat):List Nat:=mag++putN c 4 false++putN p 4 false++putN n 8 false
def hd26(c p n:Nat):List Nat:=hd22 c p n++putN (addN 0 (hd22 c p n)) 4 false
def headN(c p n:Nat)(wh:Bool):List Nat:=hd26 c p n++List.replicate 101 0++[if wh then 165 else 0]
def rec12(p n:Nat):List Nat:=putN p 4 false++putN n 8 false
def chkN(p n:Nat)(d:List Nat):Nat:=addN 0 (rec12 p n++d)
def recN(p n:Nat)(d:List Nat):List Nat:=putN p 4 false++putN (chkN p n d) 4 false++List.replicate 120 0++d
theorem putN_length(v s:Nat)(l:Bool):(putN v s l).length=s:=up_length _ _ _
theorem up_bytes(F:Nat→Nat)(hF:∀ i,F i<256)(i k:Nat):∀ x∈up F i k,x<256:=by
 induction k generalizing i with
 | zero=>intro x h;cases h
 | succ k ih=>
  intro x h
  simp only [up,List.mem_cons]at h
  rcases h with rfl |h
  ·exact hF i
  ·exact ih _ x h
theorem putN_bytes(v s:Nat)(l:Bool):∀ x∈putN v s l,x<256:=up_bytes _ (fun _=>by omega) _ _
theorem app_bytes{a b:List Nat}(ha:∀ x∈a,x<256)(hb:∀ x∈b,x<256):∀ x∈a++b,x<256:=by
 intro x h
 rcases List.mem_append.1 h with h |h
 ·exact ha x h
 ·exact hb x h
theorem zero_bytes(k:Nat):∀ x∈List.replicate k 0,x<256:=by
 intro x h
 have:=List.eq_of_mem_replicate h
 omega
theorem mag_bytes:∀ x∈mag,x<256:=by decide
theorem hd22_length(c p n:Nat):(hd22 c p n).length=22:=by simp [hd22,putN_length,mag]
theorem hd22_bytes(c p n:Nat):∀ x∈hd22 c p n,x<256:=app_bytes (app_bytes (app_bytes mag_bytes (putN_bytes _ _ _)) (putN_bytes _ _ _)) (putN_bytes _ _ _)
theorem hd26_length(c p n:Nat):(hd26 c p n).length=26:=by simp [hd26,putN_length,hd22_length]
theorem hd26_bytes(c p n:Nat):∀ x∈hd26 c p n,x<256:=app_bytes (hd22_bytes _ _ _) (putN_bytes _ _ _)
theorem headN_length(c p n:Nat)(wh:Bool):(headN c p n wh).length=128:=by simp [headN,hd26_length]
theorem headN_bytes(c p n:Nat)(wh:Bool):∀ x∈headN c p n wh,x<256:=app_bytes (app_bytes (hd26_bytes _ _ _) (zero_bytes _)) (by intro x h;cases wh<;>simp at h<;>omega)
theorem rec12_bytes(p n:Nat):∀ x∈rec12 p n,x<256:=app_bytes (putN_bytes _ _ _) (putN_bytes _ _ _)
theorem chkN_lt(p n:Nat){d:List Nat}(hd:∀ x∈d,x<256):chkN p n d<4294967296:=addN_lt (by decide) (app_bytes (rec12_bytes _ _) hd)
theorem recN_length(p n:Nat)(d:List Nat):(recN p n d).length=128+d.length:=by simp [recN,putN_length];omega
theorem recN_bytes(p n:Nat){d:List Nat}(hd:∀ x∈d,x<256):∀ x∈recN p n d,x<256:=app_bytes (app_bytes (app_bytes (putN_bytes _ _ _) (putN_bytes _ _ _)) (zero_bytes _)) hd
def HB(t:TypeId)(W:World)(q:Nat)(c p:Int)(n:Nat):Prop:=W.heap[q]? = some (.cells #[.int .i64 c,.int .i64 p,.int .u64 (n:Int)] t (0,0))
variable {n q:Nat} {c p:Int} {W:World} {t:TypeId}
theorem HB.cells(h:HB t W q c p n) :
  W.cell? ⟨q,0,none⟩=some (.int .i64 c)∧W.cell? ⟨q,1,none⟩=some (.int .i64 p)∧W.cell? ⟨q,2,none⟩=some (.int .u64 (n:Int))∧W.frozen? ⟨q,0,none⟩=false∧W.frozen? ⟨q,1,none⟩=false∧W.frozen? ⟨q,2,none⟩=false:=by
 unfold HB at h
 simp [World.cell?,World.frozen?,h]
theorem HB.lt(h:HB t W q c p n):q<W.heap.size:=lt_of_block h
variable {W':World}
theorem HB.keep(h:HB t W q c p n)(hb:Below W.heap.size W W'):HB t W' q c p n:=by
 unfold HB;rw [hb.block q h.lt];exact h
theorem HB.new(t:TypeId)(w:World)(c p:Int)(n:Nat):HB t (w.alloc (.cells #[.int .i64 c,.int .i64 p,.int .u64 (n:Int)] t)) w.heap.size c p n:=heap_alloc_new w _
theorem HB.under{B:Nat}(h:HB t W q c p n)(hb:Below B W W')(hq:q<B):HB t W' q c p n:=by
 unfold HB;rw [hb.block q hq];exact h
theorem rd_lit(w:World)(xs:List Nat)(n:Nat)(C:Array Value)(m:Nat×Nat)(hC:C=(bs xs).toArray)(hn:xs.length=n):Rd (w.alloc (.cells C 5 m)) (some ⟨w.heap.size,0,none⟩) n n xs:=by
 subst hC
 refine ⟨hn,Nat.le_refl _,fun h=>(by cases h),fun _=>⟨_,_,rfl,fun t ht=>?_⟩⟩
 rw [Nat.zero_add,World.cell?_alloc_mark]
 have:=bs_get xs t (by omega)
 simpa using this
theorem make_lit(z:Int)(K:Nat)(hz:z=(K:Int))(hK:K≤1000)(w:World) :
  (Instr.makeSlice 79 (.int .i64 z) (.int .i64 z)).run Tryz.prog w=.ok (.slice (some ⟨w.heap.size,0,none⟩) K K) (w.alloc (.cells (Array.replicate K (.int .u8 0)) 5)):=by
 subst hz
 exact make_any K K (Nat.le_refl _) (by omega) w
end Jrn
namespace Jrn
open Go.RowKit
variable {w:World}
theorem wpList_copy_in{ops:Array Oper}{rest:List Oper}{o:Oper}{a:Act}{Q:Exit→Act→World→Prop}(hgd:o.guard=none)(d s:Operand)
  (ho:o.op=.call { callee:=.builtin .copy,args:=#[d,s],argTypes:=#[79,79] }) (B g N off:Nat) (ys:List Nat) (hown:w.ownsRow B 5 1 (.slice (some ⟨g,0,none⟩) N N) N (bs ys))
  (dLen dCap:Nat) (hd:a.eval d=.slice (some ⟨g,off,none⟩) dLen dCap) (hdl:off+dLen=N) (so:Option Addr) (n c:Nat) (xs:List Nat) (hs:a.eval s=.slice so n c) (hr:Rd w so n c xs) (hn:n≤dLen)
  (h:∀ w',w'.ownsRow B 5 1 (.slice (some ⟨g,0,none⟩) N N) N (bs (ys.take off++xs++ys.drop (off+n)))→Below B w w'→wpList Tryz.prog ops Q rest (a.put o.dst (goInt n)) w'):wpList Tryz.prog ops Q (o::rest) a w:=by
 have hly:ys.length=N:=by simpa [bs] using hown.1
 have hlx:=hr.1
 rcases hown.2 with ⟨h',_⟩ | ⟨g',cap',cur,h',hb,hg,hnc,hm,hsz,ht⟩
 ·cases h'
 simp only [Value.slice.injEq,Option.some.injEq,Addr.mk.injEq,and_true,true_and]at h'
 obtain ⟨rfl,rfl⟩:=h'
 have hcur:cur.toList=bs ys:=by
  rw [←ht]
  exact (List.take_of_length_le (by simp [hsz])).symm
 have hg':w.heap[g]? = some (.cells (bs ys).toArray 5 (0,0)):=by rw [hg,←hcur]
 have hbl:(bs xs).length=n:=by simp [bs,hlx]
 refine wpList_copy_splice hgd d s 79 79 ho 5 Tryz.underlying79 (by kernel_rfl) _ _ _ _ _ _ hd hs g off (bs ys) 5 hg' (bs xs) (by rw [hbl];exact (Nat.min_eq_left hn).symm) (fun hp=>?_) (by rw [hbl];simp [bs,hly];omega) (bs_one xs) B w (Below.refl _ _) hb ?_
 ·rw [hbl]at hp
  obtain ⟨b,o2,e,hc⟩:=hr.2.2.2 hp
  refine ⟨rfl,_,e,fun j v hv=>?_⟩
  obtain ⟨hj,rfl⟩:=bs_get' xs j v hv
  rw [Addr.add_lit]
  exact hc j (by omega)
 ·intro w' hg2 hb2
  rw [hbl]
  refine h w' ?_ hb2
  have hsp:splice (bs ys) off (bs xs)=bs (ys.take off++xs++ys.drop (off+n)):=by
   unfold splice
   rw [hbl,bs_append,bs_append]
   simp [bs]
  refine own_of_row hb (hsp▸hg2.out) ?_ (by unfold maxLen at hm;omega) ?_ ?_ (Nat.le_refl _)
  ·simp [bs];omega
  ·exact List.take_of_length_le (by simp [bs];omega)
  ·simp;omega
theorem put4(ao:Option Addr)(n cap m:Nat)(xs:List Nat)(v:Nat)(w:World)(h:Rd w ao n cap xs)(hn:n≤100000)(hm:m=n+4) :
  Calls Tryz.prog 114 #[.slice ao n cap,.int .u64 (v:Int),.int .i64 4,.bool false] w fun e w'=>∃ g,e=.returned (.slice (some ⟨g,0,none⟩) m m)∧w.heap.size≤g∧Rd w' (some ⟨g,0,none⟩) m m (xs++putN v 4 false)∧Below w.heap.size w w':=by
 subst hm
 exact (put_any ao n cap xs v 4 4 false w h (by omega) (by omega) (by decide)).mono fun e w' ⟨he,ho,hb⟩=>⟨_,he,Nat.le_refl _,rd_own ho,hb⟩
theorem put8(ao:Option Addr)(n cap m:Nat)(xs:List Nat)(v:Nat)(w:World)(h:Rd w ao n cap xs)(hn:n≤100000)(hm:m=n+8) :
  Calls Tryz.prog 114 #[.slice ao n cap,.int .u64 (v:Int),.int .i64 8,.bool false] w fun e w'=>∃ g,e=.returned (.slice (some ⟨g,0,none⟩) m m)∧w.heap.size≤g∧Rd w' (some ⟨g,0,none⟩) m m (xs++putN v 8 false)∧Below w.heap.size w w':=by
 subst hm
 exact (put_any ao n cap xs v 8 8 false w h (by omega) (by omega) (by decide)).mono fun e w' ⟨he,ho,hb⟩=>⟨_,he,Nat.le_refl _,rd_own ho,hb⟩
theorem own_zeros(w:World)(K:Nat)(hK:K≤1000):(w.alloc (.cells (Array.replicate K (.int .u8 0)) 5)).ownsRow w.heap.size 5 1 (.slice (some ⟨w.heap.size,0,none⟩) K K) K (bs (List.replicate K 0)):=by
 refine own_of_row (cur:=List.replicate K (.int .u8 0)) (Nat.le_refl _) (copy_hg w K) (by simp) (by omega) ?_ (by simp) (Nat.le_refl _)
 simp [bs]
variable {B n:Nat}
theorem own_base{B':Nat}{v:Value}{xs:List Value}(h:w.ownsRow B' 5 1 v n xs)(hB:B≤B'):w.ownsRow B 5 1 v n xs:=by
 refine ⟨h.1,?_⟩
 rcases h.2 with h1 | ⟨g,cap,cur,e,hb,h2⟩
 ·exact Or.inl h1
 ·exact Or.inr ⟨g,cap,cur,e,by omega,h2⟩
variable {o:Obj}
theorem HB.keep2{t:TypeId}{W W':World}{q:Nat}{c p:Int}(h:HB t W q c p n)(hb:Below (W.alloc o).heap.size (W.alloc o) W'):HB t W' q c p n:=(h.keep (Below.alloc (Below.refl _ _) (Nat.le_refl _) o)).keep hb
theorem gt2{a b:World}(h:Below w.heap.size w a)(k:Below (a.alloc o).heap.size (a.alloc o) b):Below w.heap.size w b:=gt (Below.alloc h h.size o) k
theorem own_store{g cap:Nat}{xs:List Nat}(h:w.ownsRow B 5 1 (.slice (some ⟨g,0,none⟩) n cap) n (bs xs))(i v:Nat) :
  (w.setCell ⟨g,i,none⟩ (.int .u8 (v:Int))).ownsRow B 5 1 (.slice (some ⟨g,0,none⟩) n cap) n (bs (xs.set i v)):=by
 have:=(h.stored i (.int .u8 (v:Int))).1
 rwa [show (bs xs).set i (.int .u8 (v:Int))=bs (xs.set i v) by simp [bs,List.map_set]]at this
end Jrn
namespace Jrn
open Go.RowKit
def RB(t:TypeId)(W:World)(q:Nat)(p:Int)(ao:Option Addr)(n cap:Nat):Prop:=W.heap[q]? = some (.cells #[.int .i64 p,.slice ao n cap] t (0,0))
variable {n cap q:Nat} {ao:Option Addr} {p:Int} {W:World} {t:TypeId}
theorem RB.cells(h:RB t W q p ao n cap) :
  W.cell? ⟨q,0,none⟩=some (.int .i64 p)∧W.cell? ⟨q,1,none⟩=some (.slice ao n cap)∧W.frozen? ⟨q,0,none⟩=false∧W.frozen? ⟨q,1,none⟩=false:=by
 unfold RB at h
 simp [World.cell?,World.frozen?,h]
theorem RB.lt(h:RB t W q p ao n cap):q<W.heap.size:=lt_of_block h
theorem RB.keep{W':World}(h:RB t W q p ao n cap)(hb:Below W.heap.size W W'):RB t W' q p ao n cap:=by
 unfold RB;rw [hb.block q h.lt];exact h
theorem RB.new(t:TypeId)(w:World)(p:Int)(ao:Option Addr)(n cap:Nat):RB t (w.alloc (.cells #[.int .i64 p,.slice ao n cap] t)) w.heap.size p ao n cap:=heap_alloc_new w _
theorem put4'(m:Nat)(v:Nat)(w:World)(hm:m=4) :
  Calls Tryz.prog 114 #[.slice none 0 0,.int .u64 (v:Int),.int .i64 4,.bool false] w fun e w'=>∃ g,e=.returned (.slice (some ⟨g,0,none⟩) m m)∧w.heap.size≤g∧Rd w' (some ⟨g,0,none⟩) m m (putN v 4 false)∧Below w.heap.size w w':=by
 have:=put4 none 0 0 m [] v w (Rd.nil w) (by omega) (by omega)
 simpa using this
theorem check_any(p n:Nat)(ao:Option Addr)(k cap:Nat)(d:List Nat)(w:World)(hT:Tab w)(h:Rd w ao k cap d)(hd:∀ x∈d,x<256)(hk:k≤100000)(hp:p≤4000) :
  Calls Tryz.prog 154 #[.agg #[.int .i64 (p:Int),.slice ao k cap],.int .u64 (n:Int)] w fun e w'=>e=.returned (.int .u32 ((chkN p n d:Nat):Int))∧Below w.heap.size w w':=by
 have hT':=hid hT
 have h':=hid h
 have hd':=hid hd
 have q0:=hid (RB.new 168 w (p:Int) ao k cap)
 obtain ⟨S,hS⟩:∃ S,S=addN 0 (rec12 p n):=⟨_,rfl⟩
 have hSl:S<4294967296:=by rw [hS];exact addN_lt (by decide) (rec12_bytes _ _)
 obtain ⟨R,hR⟩:∃ R,R=chkN p n d:=⟨_,rfl⟩
 have hRS:Hid (addN S d=R):=hid (by rw [hR,hS];unfold chkN;rw [addN_append])
 rw [←hR]
 have hS':=hid hS
 have t1:Hid True:=hid trivial
 clear hT h hd hS hR
 go_enter Tryz.func154,Tryz.ntmps154
 go_upto_region 3 with (first
  | (go_at_call 114;clear t1;refine (put4' 4 p _ rfl).mono ?_;rintro e w1 ⟨g1,rfl,hg1,r1,hb1⟩;have Q1:=hid (q0.out.keep hb1);have B1:=hid (gt (Below.alloc (Below.refl _ _) (Nat.le_refl _) _) hb1);have R1:=hid r1;clear hb1 r1)
  | (go_at_call 114;refine (put8 _ 4 4 12 _ n _ R1.out (by omega) (by omega)).mono ?_;rintro e w2 ⟨g2,rfl,hg2,r2,hb2⟩;have Q2:=hid (Q1.out.keep hb2);have B2:=hid (gt B1.out hb2);have R2:Hid (Rd w2 (some ⟨g2,0,none⟩) 12 12 (rec12 p n)):=hid r2;clear hb2 r2;obtain ⟨a0,a1,_,_⟩:=Q2.out.cells))
 go_region_with (first
  | (go_at_call 149;refine (of_any _ 12 12 _ _ (R2.out.keep (Below.refl _ _).drew) (rec12_bytes _ _) (by omega) (hT'.out.keep B2.out.drew)).mono ?_;rw [←hS'.out];rintro e w3 ⟨rfl,hw3⟩;obtain rfl:=hw3.symm)
  | (go_at_call 182;refine (add_any S ao k cap d _ hSl (h'.out.keep B2.out.drew) hd'.out (by omega) (hT'.out.keep B2.out.drew)).mono ?_;rw [hRS.out];rintro e w4 ⟨rfl,hw4⟩;obtain rfl:=hw4.symm))
 all_goals
  go_wp2
  go_ret
  exact ⟨rfl,B2.out.drew⟩
theorem step_copy_in{ops:Array Oper}{o:Oper}{a:Act}{w:World}{K:Act→World→Prop}{Q:Exit→Act→World→Prop}{E:Prop}(hgd:o.guard=none)(d s:Operand)
  (ho:o.op=.call { callee:=.builtin .copy,args:=#[d,s],argTypes:=#[79,79] }) (B g N off:Nat) (ys:List Nat) (hown:w.ownsRow B 5 1 (.slice (some ⟨g,0,none⟩) N N) N (bs ys))
  (dLen dCap:Nat) (hd:a.eval d=.slice (some ⟨g,off,none⟩) dLen dCap) (hdl:off+dLen=N) (so:Option Addr) (n c:Nat) (xs:List Nat) (hs:a.eval s=.slice so n c) (hr:Rd w so n c xs) (hn:n≤dLen) (h0:0<n)
  (h:∀ w',w'.ownsRow B 5 1 (.slice (some ⟨g,0,none⟩) N N) N (bs (ys.take off++xs++ys.drop (off+n)))→Below B w w'→K (a.put o.dst (goInt n)) w'):if Region.wanted o (yielded ops a.tmps)=true then Oper.wp Tryz.prog o a w K Q else E:=by
 have hw:Region.wanted o (yielded ops a.tmps)=true:=by simp [Region.wanted,hgd]
 rw [if_pos hw]
 have hly:ys.length=N:=by simpa [bs] using hown.1
 have hlx:=hr.1
 rcases hown.2 with ⟨h',_⟩ | ⟨g',cap',cur,h',hb,hg,hnc,hm,hsz,ht⟩
 ·cases h'
 simp only [Value.slice.injEq,Option.some.injEq,Addr.mk.injEq,and_true,true_and]at h'
 obtain ⟨rfl,rfl⟩:=h'
 have hcur:cur.toList=bs ys:=by
  rw [←ht]
  exact (List.take_of_length_le (by simp [hsz])).symm
 have hbl:(bs xs).length=n:=by simp [bs,hlx]
 obtain ⟨b,o2,rfl,hc⟩:=hr.2.2.2 h0
 have hrun:=run_copy_row (P:=Tryz.prog) w 79 79 o.type 5 g off dLen dCap ⟨b,o2,none⟩ n c cur 5 (bs xs) Tryz.underlying79 (by kernel_rfl) hg (by rw [hbl];exact (Nat.min_eq_left hn).symm)
  (fun j v hv=>by obtain ⟨hj,rfl⟩:=bs_get' xs j v hv;rw [Addr.add_lit];exact hc j (by omega)) (by rw [hbl,hsz];omega) (bs_one xs)
 have hsp:cur.toList.take off++bs xs++cur.toList.drop (off+(bs xs).length)=bs (ys.take off++xs++ys.drop (off+n)):=by
  rw [hcur,hbl,bs_append,bs_append]
  simp [bs]
 rw [hsp,hbl]at hrun
 have hZl:(ys.take off++xs++ys.drop (off+n)).length=N:=by simp;omega
 generalize ys.take off++xs++ys.drop (off+n)=Z at *
 have h1:=h (w.setRow g (bs Z).toArray) ?_ ⟨rfl,rfl,rfl,by simp,fun k hk=>setRow_other w g k _ (by omega)⟩
 ·unfold Oper.wp
  simp [execOp,ho,resolve,invoke,builtin,hd,hs,hrun,Result.andThen]
  exact h1
 ·refine own_of_row hb (setRow_heap w g cur _ 5 _ hg) ?_ (by unfold maxLen at hm;omega) ?_ ?_ (Nat.le_refl _)
  ·simp [bs,hZl]
  ·exact List.take_of_length_le (by simp [bs,hZl])
  ·exact hZl
theorem rec_rows(p n:Nat)(d:List Nat)(K:Nat)(hK:K=640) :
  ((List.replicate K 0).take 0++(putN p 4 false++putN (chkN p n d) 4 false)++(List.replicate K 0).drop (0+8)).take 128++d++((List.replicate K 0).take 0++(putN p 4 false++putN (chkN p n d) 4 false)++(List.replicate K 0).drop (0+8)).drop (128+512)=recN p n d:=by
 obtain ⟨A,hA⟩:∃ A,A=putN p 4 false++putN (chkN p n d) 4 false:=⟨_,rfl⟩
 have h8:A.length=8:=by rw [hA];simp [putN_length]
 unfold recN
 rw [←hA,List.take_zero,List.nil_append,List.drop_replicate]
 have e:(A++List.replicate (K - (0+8)) 0).drop (128+512) = []:=List.drop_eq_nil_of_le (by simp [h8];omega)
 rw [e,List.append_nil,List.take_append,h8,List.take_of_length_le (by omega),List.take_replicate,hK]
 rfl
theorem rec_yes(p n:Nat)(ao:Option Addr)(cap:Nat)(d:List Nat)(w:World)(hT:Tab w)(h:Rd w ao 512 cap d)(hd:∀ x∈d,x<256)(hp:1≤p)(hp2:p≤4000) :
  Calls Tryz.prog 163 #[.agg #[.int .i64 (p:Int),.slice ao 512 cap],.int .u64 (n:Int)] w fun e w'=>∃ g,e=.returned (.slice (some ⟨g,0,none⟩) 640 640)∧w'.ownsRow w.heap.size 5 1 (.slice (some ⟨g,0,none⟩) 640 640) 640 (bs (recN p n d))∧Below w.heap.size w w':=by
 have cg:=hid (rgood_any (p:Int) ao 512 cap)
 rw [(rgood_iff (p:Int) 512).2 (by omega)]at cg
 have hT':=hid hT
 have h':=hid h
 have hd':=hid hd
 have q0:=hid (RB.new 168 w (p:Int) ao 512 cap)
 obtain ⟨K,hK⟩:∃ K:Nat,K=640:=⟨_,rfl⟩
 have hmk:=make_lit 640 K (by omega) (by omega)
 have hK':=hid hK
 obtain ⟨S,hS⟩:∃ S,S=chkN p n d:=⟨_,rfl⟩
 have hSl:S<4294967296:=by rw [hS];exact chkN_lt p n hd
 have hS':=hid hS
 have t1:Hid True:=hid trivial
 clear hT h hd hK hS
 go_enter Tryz.func163,Tryz.ntmps163
 go_upto_region 7 with (first
  | (go_at_call 153;refine (cg.out _).mono ?_;rintro e w1 ⟨rfl,hb1⟩;have Q1:=hid (q0.out.keep hb1);have B1:=hid (gt (Below.alloc (Below.refl _ _) (Nat.le_refl _) _) hb1);clear hb1;obtain ⟨a0,a1,_,_⟩:=Q1.out.cells)
  | (go_at_call 114;clear t1;refine (put4' 4 p _ rfl).mono ?_;rintro e w2 ⟨g2,rfl,hg2,r2,hb2⟩;have Q2:=hid (Q1.out.keep hb2);have B2:=hid (gt B1.out hb2);have R2:=hid r2;clear hb2 r2 a0 a1;obtain ⟨a0,a1,_,_⟩:=Q2.out.cells)
  | (go_at_call 154;refine (check_any p n ao 512 cap d _ (hT'.out.keep B2.out) (h'.out.keep B2.out) hd'.out (by omega) hp2).mono ?_;rw [←hS'.out];rintro e w3 ⟨rfl,hb3⟩;have Q3:=hid (Q2.out.keep hb3);have B3:=hid (gt B2.out hb3);have R3:=hid (R2.out.keep hb3);clear hb3 a0 a1)
  | (go_at_call 114;refine (put4 _ 4 4 8 _ S _ R3.out (by omega) (by omega)).mono ?_;rintro e w4 ⟨g4,rfl,hg4,r4,hb4⟩;have Q4:=hid (Q3.out.keep hb4);have B4:=hid (gt B3.out hb4);have R4:=hid r4;clear hb4 r4)
  | ((with_reducible refine here_op 23 ?_);refine wpList_copy_in rfl (.tmp 21) (.tmp 22) rfl w4.heap.size w4.heap.size K 0 (List.replicate K 0) (own_zeros w4 K (by have:=hK'.out;omega)) K K rfl (by omega) (some ⟨g4,0,none⟩) 8 8 _ rfl (R4.out.keep (Below.alloc (Below.refl _ _) (Nat.le_refl _) _)) (by have:=hK'.out;omega) ?_;intro w5 ho5 hb5;have H5:=hid ((Below.alloc (Below.refl _ _) (Nat.le_refl _) _).trans hb5);have Q5:=hid (Q4.out.keep H5.out);have B5:=hid (gt B4.out H5.out);have O5:=hid ho5;have hg5:=B4.out.size;clear ho5 hb5 hmk))
 obtain ⟨a0,a1,_,_⟩:=Q5.out.cells
 have hK1:(128:Int)≤(K:Int):=by have:=hK'.out;omega
 have hK2:¬K=128:=by have:=hK'.out;omega
 have hlt5:w4.heap.size<w5.heap.size:=by
  have:=(O5.out.lt w4.heap.size rfl).2
  exact this
 go_region_law (refine step_copy_in rfl (.tmp 25) (.tmp 27) rfl w4.heap.size w4.heap.size K 128 _ O5.out.drew (K - 128) (K - 128) (by simp [Act.eval]) (by have:=hK'.out;omega) ao 512 cap d (by simp [Act.eval]) (h'.out.keep B5.out.drew) (by have:=hK'.out;omega) (by omega) ?_;intro w6 ho6 hb6)
 rw [hS'.out,rec_rows p n d K hK'.out]at ho6
 have hK3:=hK'.out
 subst hK3
 have O6:=hid (own_base ho6 hg5)
 have B6:=hid (B5.out.drew.trans (hb6.mono hg5))
 clear ho6 hb6
 go_wp2
 go_ret
 exact ⟨_,rfl,O6.out,B6.out⟩
end Jrn
end Go.Proofs.YtgjgkpnjchflaaaGreatDoor
