/- Remainders by the polynomial of CRC-32C, as numbers below 2^32: what a step, a byte, a product are, and how they hang together; no statement of the seat is proved here. -/
import Derived.Test.YtgjgkpnjchflaaaGreatDoorRows
import Derived.WalkKit
import Derived.WalkSpells
import Derived.WalkLawsBesides
import Derived.Laws.CopyOwn
import Derived.Laws.BytesArg
import Derived.Laws.AppendOwnNone
import Derived.Deep.OwnRows
import Derived.BigRegion
import Derived.Deep.RegionWith
import Derived.Deep.RegionHeld3
import Derived.Lib.OthersKept
import Derived.Lib.Walk
import Derived.OneCell
import Derived.Lib.AppendZerosOnto
import Derived.WalkMore
import Derived.Laws.BitsAllLaws
import Derived.Deep.LoopGhost
import Derived.Lib.SlBytesConst
set_option maxHeartbeats 16000000
set_option maxRecDepth 20000
namespace Go.Proofs.YtgjgkpnjchflaaaGreatDoor
namespace Jrn
def tx(a:Nat):Nat:=if a % 2=0 then a/2 else (a/2) ^^^ 2197175160
theorem xor4(a b c d:Nat):(a ^^^ b) ^^^ (c ^^^ d)=(a ^^^ c) ^^^ (b ^^^ d):=by
 rw [Nat.xor_assoc,Nat.xor_assoc,←Nat.xor_assoc b c d,←Nat.xor_assoc c b d,Nat.xor_comm b c]
variable {a:Nat}
theorem xor_lt{b:Nat}(ha:a<4294967296)(hb:b<4294967296):a ^^^ b<4294967296:=Nat.xor_lt_two_pow (n:=32) ha hb
theorem tx_xor(a b:Nat):tx (a ^^^ b)=tx a ^^^ tx b:=by
 have h2:(a ^^^ b)/2=a/2 ^^^ b/2:=Nat.xor_div_two
 have hm:(a ^^^ b) % 2=(a+b) % 2:=by
  have h1:(a ^^^ b) % 2=1↔¬(a % 2=1↔b % 2=1):=Nat.xor_mod_two_eq_one
  rcases Nat.mod_two_eq_zero_or_one (a ^^^ b) with h |h<;>rw [h]at h1<;>omega
 unfold tx
 rw [h2,hm]
 rcases Nat.mod_two_eq_zero_or_one a with ha |ha<;>rcases Nat.mod_two_eq_zero_or_one b with hb |hb
 ·rw [if_pos (by omega),if_pos ha,if_pos hb]
 ·rw [if_neg (by omega),if_pos ha,if_neg (by omega),Nat.xor_assoc]
 ·rw [if_neg (by omega),if_neg (by omega),if_pos hb,Nat.xor_assoc,Nat.xor_assoc,Nat.xor_comm (b/2)]
 ·rw [if_pos (by omega),if_neg (by omega),if_neg (by omega),xor4,Nat.xor_self,Nat.xor_zero]
theorem tx_lt(h:a<4294967296):tx a<4294967296:=by
 unfold tx
 split
 ·omega
 ·exact xor_lt (by omega) (by decide)
theorem tx_two(b:Nat):tx (2*b)=b:=by
 unfold tx
 rw [if_pos (by omega)];omega
def txn:Nat→Nat→Nat
 | 0,a=>a
 | k+1,a=>txn k (tx a)
theorem txn_xor(k a b:Nat):txn k (a ^^^ b)=txn k a ^^^ txn k b:=by
 induction k generalizing a b with
 | zero=>rfl
 | succ k ih=>simp only [txn];rw [tx_xor,ih]
theorem txn_lt(k:Nat){a:Nat}(h:a<4294967296):txn k a<4294967296:=by
 induction k generalizing a with
 | zero=>exact h
 | succ k ih=>exact ih (tx_lt h)
theorem txn_add(j k a:Nat):txn (j+k) a=txn j (txn k a):=by
 induction k generalizing a with
 | zero=>rfl
 | succ k ih=>rw [←Nat.add_assoc];simp only [txn];exact ih (tx a)
theorem txn_shift(k b:Nat):txn k (2 ^ k*b)=b:=by
 induction k with
 | zero=>simp [txn]
 | succ k ih=>rw [Nat.pow_succ,Nat.mul_comm _ 2,Nat.mul_assoc];simp only [txn];rw [tx_two,ih]
theorem txn_four(r:Nat):txn 4 r=r/16 ^^^ txn 4 (r % 16):=by
 have e:r=(2 ^ 4*(r/16)) ^^^ (r % 16):=by
  have h1:r % 16<2 ^ 4:=by omega
  have h2:=Nat.two_pow_add_eq_or_of_lt h1 (r/16)
  have h3:2 ^ 4*(r/16) &&& r % 16=0:=by
   apply Nat.eq_of_testBit_eq
   intro i
   rw [Nat.testBit_and,Nat.testBit_two_pow_mul,Nat.zero_testBit]
   by_cases hi:4≤i
   ·rw [Nat.testBit_lt_two_pow (Nat.lt_of_lt_of_le h1 (Nat.pow_le_pow_right (by omega) hi))];simp
   ·simp [hi]
  have h4:2 ^ 4*(r/16) ^^^ r % 16=2 ^ 4*(r/16) |||r % 16:=by
   apply Nat.eq_of_testBit_eq
   intro i
   have:=congrArg (fun n=>n.testBit i) h3
   simp only [Nat.testBit_and,Nat.zero_testBit]at this
   rw [Nat.testBit_xor,Nat.testBit_or]
   revert this
   cases (2 ^ 4*(r/16)).testBit i<;>cases (r % 16).testBit i<;>simp
  rw [h4,←h2];omega
 conv=>lhs;rw [e,txn_xor,txn_shift]
def byte(r c:Nat):Nat:=txn 8 (r ^^^ c)
def fold:Nat→List Nat→Nat
 | r,[]=>r
 | r,c::cs=>fold (byte r c) cs
theorem fold_cons(r c:Nat)(cs:List Nat):fold r (c::cs)=fold (byte r c) cs:=rfl
variable {r:Nat}
theorem byte_lt{c:Nat}(h:r<4294967296)(hc:c<256):byte r c<4294967296:=txn_lt 8 (xor_lt h (by omega))
theorem fold_lt(h:r<4294967296){xs:List Nat}(hx:∀ x∈xs,x<256):fold r xs<4294967296:=by
 induction xs generalizing r with
 | nil=>exact h
 | cons c cs ih=>exact ih (byte_lt h (hx c (by simp))) fun x hx'=>hx x (by simp [hx'])
def addN(s:Nat)(xs:List Nat):Nat:=fold (s ^^^ 4294967295) xs ^^^ 4294967295
theorem addN_lt{s:Nat}(h:s<4294967296){xs:List Nat}(hx:∀ x∈xs,x<256):addN s xs<4294967296:=xor_lt (fold_lt (xor_lt h (by decide)) hx) (by decide)
def tm:Nat→Nat→Nat→Nat
 | 0,_,_=>0
 | k+1,a,b=>(if 2147483648≤b then a else 0) ^^^ tm k (tx a) (2*b % 4294967296)
end Jrn
namespace Jrn
open Go.RowKit
variable {w:World}
theorem gt{a b:World}(h:Below w.heap.size w a)(k:Below a.heap.size a b):Below w.heap.size w b:=h.trans (k.mono h.size)
theorem hid{p:Prop}(h:p):Hid p:=h
variable {w':World}
theorem undrew(h:Below w.drew.heap.size w.drew w'):Below w.heap.size w w':=⟨h.os,h.tape,h.output,h.size,h.block⟩
variable {v:Value}
theorem lt_cell{a:Addr}(h:w.cell? a=some v):a.block<w.heap.size:=by
 rcases Nat.lt_or_ge a.block w.heap.size with h1 |h1
 ·exact h1
 ·exfalso
  have h2:w.heap[a.block]? = none:=Array.getElem?_eq_none h1
  simp [World.cell?,h2]at h
variable {B:Nat}
theorem keep_cell(h:Below B w w'){a:Addr}{v:Value}(hc:w.cell? a=some v)(hB:a.block<B):w'.cell? a=some v:=by
 rw [World.cell?_of_block (h.block a.block hB)];exact hc
theorem keep_old(h:Below w.heap.size w w'){a:Addr}{v:Value}(hc:w.cell? a=some v):w'.cell? a=some v:=keep_cell h hc (lt_cell hc)
theorem keep_frozen(h:Below B w w'){a:Addr}(hB:a.block<B):w'.frozen? a=w.frozen? a:=World.frozen?_of_block (h.block a.block hB)
def bs(xs:List Nat):List Value:=xs.map fun x:Nat=>Value.int .u8 (x:Int)
def str(xs:List Nat):ByteArray:=⟨(xs.map UInt8.ofNat).toArray⟩
theorem bs_length(xs:List Nat):(bs xs).length=xs.length:=by simp [bs]
theorem bs_append(xs ys:List Nat):bs (xs++ys)=bs xs++bs ys:=by simp [bs]
theorem bs_one(xs:List Nat):∀ u∈bs xs,u.oneCell'=true:=by
 intro u hu
 obtain ⟨x,_,rfl⟩:=List.mem_map.1 hu
 rfl
theorem bs_get(xs:List Nat)(t:Nat)(h:t<xs.length):(bs xs)[t]? = some (.int .u8 ((xs.getD t 0:Nat):Int)):=by
 simp [bs,List.getElem?_map,List.getElem?_eq_getElem h,List.getD]
theorem bs_get'(xs:List Nat)(t:Nat)(u:Value)(h:(bs xs)[t]? = some u):t<xs.length∧u=.int .u8 ((xs.getD t 0:Nat):Int):=by
 have hl:t<xs.length:=by
  have:=(List.getElem?_eq_some_iff.1 h).1
  simpa [bs] using this
 rw [bs_get xs t hl]at h
 exact ⟨hl,(Option.some.inj h).symm⟩
def Rd(w:World)(ao:Option Addr)(n cap:Nat)(xs:List Nat):Prop:=
 xs.length=n∧n≤cap∧(ao=none→n=0∧cap=0) ∧
  (0<n→∃ b off,ao=some ⟨b,off,none⟩∧∀ t,t<n→w.cell? ⟨b,off+t,none⟩=some (.int .u8 ((xs.getD t 0:Nat):Int)))
variable {xs:List Nat} {n cap:Nat} {ao:Option Addr}
theorem Rd.keep(h:Rd w ao n cap xs)(hb:Below w.heap.size w w'):Rd w' ao n cap xs:=by
 refine ⟨h.1,h.2.1,h.2.2.1,fun hn=>?_⟩
 obtain ⟨b,off,e,hc⟩:=h.2.2.2 hn
 exact ⟨b,off,e,fun t ht=>keep_old hb (hc t ht)⟩
theorem Rd.nil(w:World):Rd w none 0 0 []:=⟨rfl,Nat.le_refl _,fun _=>⟨rfl,rfl⟩,fun h=>by omega⟩
variable {g:Nat}
theorem rd_own(h:w.ownsRow B 5 1 (.slice (some ⟨g,0,none⟩) n cap) n (bs xs)):Rd w (some ⟨g,0,none⟩) n cap xs:=by
 have hl:xs.length=n:=by simpa [bs] using h.1
 refine ⟨hl,?_,fun h=>(by cases h),fun _=>⟨g,0,rfl,fun t ht=>?_⟩⟩
 ·rcases h.2 with ⟨h',_⟩ | ⟨g',cap',cur,h',_,_,hnc,_⟩
  ·simp at h'
  ·simp only [Value.slice.injEq,Option.some.injEq,Addr.mk.injEq,and_true,true_and]at h'
   rw [h'.2];exact hnc
 ·rw [Nat.zero_add,h.cellAt t (by omega),bs_get xs t (by omega)]
theorem conv_rd{P:Program}(h:Rd w ao n cap xs)(src dst e:TypeId)(hs:P.underlying src=some (.slice e))(he:P.underlying e=some (.int .u8))(hd:P.underlying dst=some .string) :
  (convert src dst (.slice ao n cap)).run P w=.ok (.string (str xs)) w:=by
 obtain ⟨hl,hc,hno,hat⟩:=h
 rcases Nat.eq_zero_or_pos n with h0 |hp
 ·subst h0
  obtain rfl:xs = []:=List.eq_nil_of_length_eq_zero hl
  cases ao with
  | none=>rw [run_convert_bytes_nil w src e hs he 0 cap dst hd];rfl
  | some a=>
   rw [run_convert_bytes_string w src dst e (some a) 0 cap hs he hd,run_bytesToString w a 0 cap [] (run_loadCells_list (P:=P) w a [] (fun j v hj=>by simp at hj))]
   rfl
 ·obtain ⟨b,off,rfl,hcell⟩:=hat hp
  rw [run_convert_bytes_arg w src e hs he b off n cap (xs.map fun x:Nat=>(x:Int)) (by simpa using hl) (fun i hi=>by
   rw [hcell i hi]
   simp [List.getD,List.getElem?_map,List.getElem?_eq_getElem (show i<xs.length by omega)]) dst hd]
  simp [strOfNums,str,Function.comp_def]
theorem Tryz.info5:(Tryz.prog.info? 5).map (fun i=>(i.zero,i.size,i.bytes))=some (some (.int .u8 0),1,1):=by kernel_rfl
theorem make_any(n cap:Nat)(h:n≤cap)(hc:cap≤281474976710656)(w:World) :
  (Instr.makeSlice 79 (.int .i64 (n:Int)) (.int .i64 (cap:Int))).run Tryz.prog w=.ok (.slice (some ⟨w.heap.size,0,none⟩) n cap) (w.alloc (.cells (Array.replicate cap (.int .u8 0)) 5)):=by
 obtain ⟨i,hi,hz0,hz1,hz2⟩:=info_parts Tryz.info5
 have hr:=run_make (P:=Tryz.prog) w 79 5 i (.int .u8 0) Tryz.underlying79 hi hz0 .i64 .i64 n cap (by omega) (by omega) (by rw [hz2];omega) (by omega)
 simp only [Int.toNat_natCast,hz1,Nat.mul_one]at hr
 rw [hr,show Array.replicate cap (Value.int .u8 0)=(List.replicate cap (Value.int .u8 0)).toArray by simp,←toList_madeCells_one,Array.toArray_toList]
 rfl
theorem own_of_row{cur:List Value}(hB:B≤g)(hg:w.heap[g]? = some (.cells cur.toArray 5 (0,0)))(hcap:cur.length=cap)(hm:cap≤9223372036854775807)
  (hx:cur.take n=bs xs) (hn:xs.length=n) (hnc:n≤cap):w.ownsRow B 5 1 (.slice (some ⟨g,0,none⟩) n cap) n (bs xs):=
 ⟨by simp [bs,hn],.inr ⟨g,cap,cur.toArray,rfl,hB,hg,hnc,hm,by simp [hcap],by simpa using hx⟩⟩
theorem splice_zero(n m:Nat)(xs:List Nat)(h:xs.length=n):(splice (List.replicate (n+m) (Value.int .u8 0)) 0 (bs xs)).take n=bs xs:=by
 have hl:(bs xs).length=n:=by simp [bs,h]
 simp [splice,List.take_append_of_le_length (Nat.le_of_eq hl.symm),List.take_of_length_le (Nat.le_of_eq hl)]
theorem here_op(k:Nat){P:Program}{ops:Array Oper}{Q:Exit→Act→World→Prop}{a:Act}{w:World}{rest:List Oper}{op:Op}{t:TypeId}{pos:String}{after:Array Edge}{gd:Option (Nat×Bool)}
  (h:wpList P ops Q (⟨some k,op,t,pos,after,gd⟩::rest) a w):wpList P ops Q (⟨some k,op,t,pos,after,gd⟩::rest) a w:=h
theorem copy_hg(w:World)(k:Nat):(w.alloc (.cells (Array.replicate k (.int .u8 0)) 5)).heap[w.heap.size]? = some (.cells (List.replicate k (Value.int .u8 0)).toArray 5 (0,0)):=by
 rw [heap_alloc_new];simp
theorem copy_hn(h:Rd w ao n cap xs):(bs xs).length=Nat.min n n:=by
 rw [bs_length,h.1];exact (Nat.min_self n).symm
theorem copy_hpos(h:Rd w ao n cap xs){o:Obj}:0<(bs xs).length→some (⟨w.heap.size,0,none⟩:Addr)=some ⟨w.heap.size,0,none⟩∧∃ ad,ao=some ad∧∀ j v,(bs xs)[j]? = some v→(w.alloc o).cell? (ad.add j)=some v:=by
 intro hp
 rw [bs_length,h.1]at hp
 obtain ⟨b,off,rfl,hc⟩:=h.2.2.2 hp
 refine ⟨rfl,_,rfl,fun j v hv=>?_⟩
 obtain ⟨hj,rfl⟩:=bs_get' xs j v hv
 rw [Addr.add_lit]
 exact keep_old (Below.alloc (Below.refl _ _) (Nat.le_refl _) o) (hc j (by have:=h.1;omega))
theorem widened_any(ao:Option Addr)(n cap m:Nat)(xs:List Nat)(w:World)(h:Rd w ao n cap xs)(hm:n+m≤281474976710656) :
  Calls Tryz.prog 159 #[.slice ao n cap,.int .i64 (m:Int)] w fun e w'=>e=.returned (.slice (some ⟨w.heap.size,0,none⟩) n (n+m)) ∧
   w'.ownsRow w.heap.size 5 1 (.slice (some ⟨w.heap.size,0,none⟩) n (n+m)) n (bs xs)∧Below w.heap.size w w':=by
 have hmk:=make_any n (n+m) (by omega) hm
 have e1:((n+m:Nat):Int)=(n:Int)+(m:Int):=by omega
 rw [e1]at hmk
 have hr:=hid h
 clear e1 h
 go_enter Tryz.func159,Tryz.ntmps159
 go_wp2_with ((with_reducible refine here_op 15 ?_);refine wpList_copy_splice rfl (.tmp 13) (.tmp 14) 79 79 rfl 5 Tryz.underlying79 (by kernel_rfl) _ _ _ _ _ _ rfl rfl w.heap.size 0 (List.replicate (n+m) (.int .u8 0)) 5 (copy_hg w (n+m)) (bs xs) (copy_hn hr.out) (copy_hpos hr.out) (by simp [bs,hr.out.1]) (bs_one xs) w.heap.size w (Below.alloc (Below.refl _ _) (Nat.le_refl _) _) (Nat.le_refl _) ?_;intro w2 hg2 hb2)
 go_ret
 exact ⟨rfl,own_of_row (Nat.le_refl _) hg2.out (by rw [length_splice _ _ _ (by simp [bs,hr.out.1])];simp) (by omega) (splice_zero n m xs hr.out.1) hr.out.1 (by omega),hb2⟩
theorem wpList_append_rd{ops:Array Oper}{rest:List Oper}{o:Oper}{a:Act}{Q:Exit→Act→World→Prop}(hgd:o.guard=none)(s x:Operand)
  (ho:o.op=.call { callee:=.builtin .append,args:=#[s,x],argTypes:=#[79,79] }) (B:Nat) (v:Value) (n:Nat) (xs:List Nat) (hs:a.eval s=v) (hown:w.ownsRow B 5 1 v n (bs xs))
  (ao:Option Addr) (m c:Nat) (ys:List Nat) (hx:a.eval x=.slice ao m c) (hr:Rd w ao m c ys) (hb:n+m≤140737488355328) (hB:B≤w.heap.size)
  (h:∀ v' w',w'.ownsRow B 5 1 v' (n+m) (bs (xs++ys))→Below B w w'→wpList Tryz.prog ops Q rest (a.put o.dst v') w'):wpList Tryz.prog ops Q (o::rest) a w:=by
 obtain ⟨i5,hi5,hz0,hz1,hz2⟩:=info_parts Tryz.info5
 obtain ⟨hl,hc,hno,hat⟩:=hr
 cases ao with
 | none=>
  obtain ⟨rfl,rfl⟩:=hno rfl
  obtain rfl:ys = []:=List.eq_nil_of_length_eq_zero hl
  refine wpList_append_own_none hgd s x 79 ho B 5 i5 1 Tryz.underlying79 hi5 v n (bs xs) hs hown hx ?_
  exact h v w (by simpa using hown) (Below.refl _ _)
 | some ad=>
  refine wpList_append_own w hgd s x 79 ho B 5 i5 (.int .u8 0) 1 1 Tryz.underlying79 hi5 hz0 hz1 hz2 rfl (by decide) v n (bs xs) hs hown ad m c (bs ys) hx (by simp [bs,hl]) ?_ (bs_one ys) (by unfold maxLen;omega) (by omega) hB ?_
  ·intro j u hu
   obtain ⟨hj,rfl⟩:=bs_get' ys j u hu
   obtain ⟨b,off,e,hcell⟩:=hat (by omega)
   simp only [Option.some.injEq]at e
   subst e
   rw [Addr.add_lit]
   exact hcell j (by omega)
  ·intro v' w' h1 h2 _
   refine h v' w' (by rw [bs_append];exact h1) ((Below.refl B w).grown h2 hB fun k hk=>(hown.lt k hk).1)
theorem rd_owned(h:w.ownsRow B 5 1 v n (bs xs)):∃ ao cap,v=.slice ao n cap∧Rd w ao n cap xs:=by
 rcases h.2 with ⟨rfl,rfl⟩ | ⟨g,cap,cur,rfl,_⟩
 ·obtain rfl:xs = []:=by have:=h.1;simp [bs]at this;exact this
  exact ⟨none,0,rfl,Rd.nil w⟩
 ·exact ⟨_,_,rfl,rd_own h⟩
def Tab(w:World):Prop:=∀ k:Nat,k<16→w.cell? ⟨0,k,none⟩=some (.int .u32 ((txn 4 k:Nat):Int))
theorem Tab.keep(h:Tab w)(hb:Below w.heap.size w w'):Tab w':=fun k hk=>keep_old hb (h k hk)
end Jrn
namespace Jrn
open Go.RowKit
theorem sized_any(s:Int)(w:World):Calls Tryz.prog 140 #[.int .i64 s] w fun e w'=>e=.returned (.bool (decide (1≤s)&&decide (s≤8)))∧w'=w:=by
 by_cases h:1≤s<;>by_cases h':s≤8
 all_goals
  go_enter Tryz.func140,Tryz.ntmps140
  go_wp2
  go_ret
  simp [h,h']
theorem shift_little(i s:Nat)(w:World)(h:i<8) :
  Calls Tryz.prog 160 #[.int .i64 i,.int .i64 s,.bool true] w fun e w'=>e=.returned (.int .i64 (8*(i:Int)))∧w'=w:=by
 go_enter Tryz.func160,Tryz.ntmps160
 go_wp2
 go_ret
 exact ⟨rfl,rfl⟩
theorem shift_big(i s:Nat)(w:World)(h:i<s)(h':s≤8) :
  Calls Tryz.prog 160 #[.int .i64 i,.int .i64 s,.bool false] w fun e w'=>e=.returned (.int .i64 (8*((s - 1 - i:Nat):Int)))∧w'=w:=by
 obtain ⟨j,hj⟩:∃ j:Nat,s=i+1+j:=⟨s - 1 - i,by omega⟩
 subst hj
 rw [show i+1+j - 1 - i=j by omega]
 go_enter Tryz.func160,Tryz.ntmps160
 go_wp2
 go_ret
 refine ⟨?_,rfl⟩
 simp
 omega
def up(F:Nat→Nat)(i:Nat):Nat→List Nat
 | 0=>[]
 | k+1=>F i::up F (i+1) k
def place(l:Bool)(s i:Nat):Nat:=if l then i else s - 1 - i
def putN(v s:Nat)(l:Bool):List Nat:=up (fun i=>v/2 ^ (8*place l s i) % 256) 0 s
theorem up_length(F:Nat→Nat)(i k:Nat):(up F i k).length=k:=by
 induction k generalizing i with
 | zero=>rfl
 | succ k ih=>simp [up,ih]
theorem up_step(F:Nat→Nat)(i k:Nat)(h:i<k)(ys T:List Nat)(e:ys++up F i (k - i)=T):(ys++[F i])++up F (i+1) (k - (i+1))=T:=by
 rw [←e,show k - i=(k - (i+1))+1 by omega]
 simp [up]
theorem shift_any(i s:Nat)(l:Bool)(w:World)(h:i<s)(h':s≤8) :
  Calls Tryz.prog 160 #[.int .i64 i,.int .i64 s,.bool l] w fun e w'=>e=.returned (.int .i64 ((8*place l s i:Nat):Int))∧w'=w:=by
 cases l with
 | true=>simpa [place] using shift_little i s w (by omega)
 | false=>simpa [place] using shift_big i s w h h'
theorem shr_nat(v c:Nat)(yk:IntKind)(h:c≤64):Op.shift .shr .u64 (v:Int) yk (c:Int)=pure (.int .u64 ((v/2 ^ c:Nat):Int)):=by
 rw [shift_shr_any _ _ _ _ (by omega)]
 simp [IntKind.bits,Nat.min_eq_left h]
theorem shl_nat(v c:Nat)(yk:IntKind)(h:c≤64):Op.shift .shl .u64 (v:Int) yk (c:Int)=pure (.int .u64 (IntKind.u64.wrap ((v*2 ^ c:Nat):Int))):=by
 rw [shift_shl_any _ _ _ _ (by omega)]
 simp [IntKind.bits,Nat.min_eq_left h]
theorem shift_named(v i s:Nat)(l:Bool)(h:i<s)(h':s≤8):∃ (sh:Int) (q:Nat),(∀ w,Calls Tryz.prog 160 #[.int .i64 i,.int .i64 s,.bool l] w fun e w'=>e=.returned (.int .i64 sh)∧w'=w) ∧
  Op.shift .shr .u64 (v:Int) .i64 sh=pure (.int .u64 (q:Int))∧Op.shift .shl .u64 (v:Int) .i64 sh=pure (.int .u64 (IntKind.u64.wrap ((v*2 ^ (8*place l s i):Nat):Int)))∧q=v/2 ^ (8*place l s i):=by
 refine ⟨((8*place l s i:Nat):Int),v/2 ^ (8*place l s i),fun w=>shift_any i s l w h h',?_,?_,rfl⟩
 ·exact shr_nat v _ _ (by unfold place;split<;>omega)
 ·exact shl_nat v _ _ (by unfold place;split<;>omega)
theorem one_cell(w:World)(x:Nat):∀ j u,(bs [x])[j]? = some u→(w.alloc (.cells #[.int .u8 (x:Int)] 5)).cell? ((⟨w.heap.size,0,none⟩:Addr).add j)=some u:=by
 intro j u hu
 obtain ⟨hj,rfl⟩:=bs_get' [x] j u hu
 have:j=0:=by simpa using hj
 subst this
 rw [Addr.add_lit]
 simp
theorem put_any(ao:Option Addr)(n cap:Nat)(xs:List Nat)(v:Nat)(s:Int)(k:Nat)(l:Bool)(w:World)(h:Rd w ao n cap xs)(hn:n≤140737488355328)(hk:k≤8)(hs:min (max s 0) 8=(k:Int)) :
  Calls Tryz.prog 114 #[.slice ao n cap,.int .u64 v,.int .i64 s,.bool l] w fun e w'=>e=.returned (.slice (some ⟨w.heap.size,0,none⟩) (n+k) (n+k)) ∧
   w'.ownsRow w.heap.size 5 1 (.slice (some ⟨w.heap.size,0,none⟩) (n+k) (n+k)) (n+k) (bs (xs++putN v k l))∧Below w.heap.size w w':=by
 have cw:=hid (widened_any ao n cap k xs w h (by omega))
 have hs':=hid hs
 go_enter Tryz.func114,Tryz.ntmps114
 go_wp2_with (go_at_call 159;refine cw.out.mono ?_;rintro e w1 ⟨rfl,ho1,hb1⟩)
 go_loopw [9,18] (fun o c W=>∃ (i:Nat) (ys:List Nat),i≤k∧c=.int .i64 i∧o=.slice (some ⟨w.heap.size,0,none⟩) (n+i) (n+k)∧ys++up (fun j=>v/2 ^ (8*place l k j) % 256) i (k - i)=xs++putN v k l ∧
   W.ownsRow w.heap.size 5 1 (.slice (some ⟨w.heap.size,0,none⟩) (n+i) (n+k)) (n+i) (bs ys)∧Below w.heap.size w W) (fun _ c _=>k - (intOf c).toNat)
 case atStart=>exact ⟨0,xs,by omega,rfl,rfl,rfl,ho1,hb1⟩
 case round=>
  obtain ⟨i,ys,hi,rfl,rfl,he,ho,hb⟩:=hrel
  have he':=hid he
  clear he hs h cw ho1 hb1
  by_cases hik:i<k
  ·obtain ⟨sh,q,c,hsh,_,hq⟩:=shift_named v i k l hik hk
   have c':=hid c
   obtain ⟨i5,hi5,hz0,hz1,hz2⟩:=info_parts Tryz.info5
   have hq':=hid hq
   clear c hq
   go_wp2_with (first |(go_at_call 160;refine (c'.out _).mono ?_;rintro e w2 ⟨rfl,rfl⟩) |(at_builtin;refine wpList_append_fits _ rfl (.tmp 21) (.tmp 29) 79 rfl w.heap.size 5 i5 1 Tryz.underlying79 hi5 hz1 w.heap.size (n+i) (n+k) (bs ys) rfl (ho.alloc _) ⟨w2.heap.size,0,none⟩ 1 1 (bs [q % 256]) rfl rfl (one_cell w2 (q % 256)) (bs_one _) (by omega) ?_;intro w3 ho3 hg3))
   refine ⟨⟨i+1,ys++[q % 256],by omega,by go_num,by rw [Nat.add_assoc],?_,?_,?_⟩,by simp [intOf];omega⟩
   ·rw [hq'.out]
    exact up_step (fun j=>v/2 ^ (8*place l k j) % 256) i k hik ys _ he'.out
   ·rw [bs_append,←Nat.add_assoc];exact ho3
   ·exact (Below.alloc hb hb.size _).grown hg3 (by have:=hb.size;simp;omega) (fun j hj=>by cases hj;exact Nat.le_refl _)
  ·obtain rfl:i=k:=by omega
   go_wp2
   go_ret
   rw [Nat.sub_self]at he'
   simp only [up,List.append_nil]at he'
   rw [←he'.out]
   exact ⟨rfl,ho,hb⟩
end Jrn
namespace Jrn
open Go.RowKit
theorem getD_lt{xs:List Nat}(h:∀ x∈xs,x<256)(i:Nat)(hi:i<xs.length):xs.getD i 0<256:=by
 rw [List.getD_eq_getElem?_getD,List.getElem?_eq_getElem hi]
 exact h _ (List.getElem_mem hi)
theorem drop_getD(xs:List Nat)(i:Nat)(hi:i<xs.length):xs.drop i=xs.getD i 0::xs.drop (i+1):=by
 rw [List.drop_eq_getElem_cons hi,List.getD_eq_getElem?_getD,List.getElem?_eq_getElem hi]
 rfl
def psum(xs:List Nat)(s:Nat)(l:Bool):Nat→Nat
 | 0=>0
 | i+1=>psum xs s l i+xs.getD i 0*2 ^ (8*place l s i)
theorem psum_big(xs:List Nat)(s:Nat)(hx:∀ x∈xs,x<256)(hs:s≤xs.length):∀ i,i≤s→∃ q,q<2 ^ (8*i)∧psum xs s false i=q*2 ^ (8*(s - i)):=by
 intro i
 induction i with
 | zero=>intro _;exact ⟨0,by simp,by simp [psum]⟩
 | succ i ih=>
  intro hi
  obtain ⟨q,hq,e⟩:=ih (by omega)
  have hc:=getD_lt hx i (by omega)
  refine ⟨q*256+xs.getD i 0,?_,?_⟩
  ·rw [show 8*(i+1)=8*i+8 by omega,Nat.pow_add];omega
  ·simp only [psum,e,place]
   rw [show 8*(s - i)=8+8*(s - (i+1)) by omega,Nat.pow_add,show s - 1 - i=s - (i+1) by omega,Nat.add_mul,Nat.mul_assoc]
   rfl
theorem psum_little(xs:List Nat)(s:Nat)(hx:∀ x∈xs,x<256)(hs:s≤xs.length):∀ i,i≤s→psum xs s true i<2 ^ (8*i):=by
 intro i
 induction i with
 | zero=>intro _;simp [psum]
 | succ i ih=>
  intro hi
  have h:=ih (by omega)
  have hc:=getD_lt hx i (by omega)
  simp only [psum,place,if_true]
  rw [show 8*(i+1)=8*i+8 by omega,Nat.pow_add]
  have h2:xs.getD i 0*2 ^ (8*i)≤255*2 ^ (8*i):=Nat.mul_le_mul_right _ (by omega)
  omega
theorem psum_lt(xs:List Nat)(s:Nat)(l:Bool)(hx:∀ x∈xs,x<256)(hs:s≤xs.length)(h8:s≤8)(i:Nat)(hi:i≤s):psum xs s l i<18446744073709551616:=by
 cases l with
 | true=>
  have h:=psum_little xs s hx hs i hi
  have hp:2 ^ (8*i)≤2 ^ 64:=Nat.pow_le_pow_right (by omega) (by omega)
  omega
 | false=>
  obtain ⟨q,hq,e⟩:=psum_big xs s hx hs i hi
  have h1:q*2 ^ (8*(s - i))<2 ^ (8*i)*2 ^ (8*(s - i)):=Nat.mul_lt_mul_of_pos_right hq (Nat.pow_pos (by omega))
  rw [←Nat.pow_add,show 8*i+8*(s - i)=8*s by omega]at h1
  have hp:2 ^ (8*s)≤2 ^ 64:=Nat.pow_le_pow_right (by omega) (by omega)
  omega
theorem psum_or(xs:List Nat)(s:Nat)(l:Bool)(hx:∀ x∈xs,x<256)(hs:s≤xs.length)(i:Nat)(hi:i<s) :
  psum xs s l i |||xs.getD i 0*2 ^ (8*place l s i)=psum xs s l (i+1):=by
 have hc:=getD_lt hx i (by omega)
 cases l with
 | true=>
  have h:=psum_little xs s hx hs i (by omega)
  simp only [psum,place,if_true]
  rw [Nat.or_comm,Nat.mul_comm,←Nat.two_pow_add_eq_or_of_lt h,Nat.add_comm]
 | false=>
  obtain ⟨q,hq,e⟩:=psum_big xs s hx hs i (by omega)
  simp only [psum,e,place]
  have hlt:xs.getD i 0*2 ^ (8*(s - 1 - i))<2 ^ (8*(s - i)):=by
   rw [show 8*(s - i)=8+8*(s - 1 - i) by omega,Nat.pow_add]
   exact Nat.mul_lt_mul_of_pos_right (by omega) (Nat.pow_pos (by omega))
  rw [if_neg (by simp),Nat.mul_comm q,←Nat.two_pow_add_eq_or_of_lt hlt]
theorem getD_term_lt(xs:List Nat)(s:Nat)(l:Bool)(hx:∀ x∈xs,x<256)(hs:s≤xs.length)(h8:s≤8)(i:Nat)(hi:i<s):xs.getD i 0*2 ^ (8*place l s i)<18446744073709551616:=by
 have:=psum_lt xs s l hx hs h8 (i+1) (by omega)
 simp only [psum]at this
 omega
def getV(xs:List Nat)(s:Int)(l:Bool):Nat×Bool:=if 1≤s∧s≤8∧s≤(xs.length:Int) then (psum xs s.toNat l s.toNat,true) else (0,false)
def hsum(xs:List Nat)(s:Nat)(l:Bool):Nat→Nat
 | 0=>0
 | i+1=>hsum xs s l i*256+xs.getD (if l then s - 1 - i else i) 0
end Jrn
namespace Jrn
open Go.RowKit
def Tell(w:World)(pa pb:Nat)(ao:Option Addr)(n cap k:Nat)(W:World):Prop:=
 W.heap[pa]? = some (.cells #[.int .i64 (k:Int)] 3 (0,0))∧W.heap[pb]? = some (.cells #[.slice ao n cap] 79 (0,0))∧w.heap.size≤pa∧Below w.heap.size w W
theorem teller_any(ao:Option Addr)(n cap:Nat)(w:World):Calls Tryz.prog 142 #[.slice ao n cap] w fun e w'=>e=.returned (.func (.func 175) #[] #[.pointer (some ⟨w.heap.size+1,0,none⟩),.pointer (some ⟨w.heap.size,0,none⟩)])∧Tell w (w.heap.size+1) w.heap.size ao n cap 0 w':=by
 go_enter Tryz.func142,Tryz.ntmps142
 go_wp2
 go_ret
 refine ⟨rfl,?_,?_,by omega,Below.alloc (Below.alloc (Below.refl _ _) (Nat.le_refl _) _) (by simp) _⟩
 ·have:=heap_alloc_new (w.alloc (Obj.cells #[Value.slice ao n cap] 79)) (Obj.cells #[Value.int IntKind.i64 0] 3)
  simpa using this
 ·rw [Below.heap_alloc _ _ _ (by simp)]
  exact heap_alloc_new w _
theorem tell_more(w:World)(pa pb:Nat)(ao:Option Addr)(n cap:Nat)(xs:List Nat)(h:Rd w ao n cap xs)(hn:n≤9223372036854775807)(k:Nat)(W:World)(hT:Tell w pa pb ao n cap k W)(hk:k<n) :
  Calls Tryz.prog 175 #[.pointer (some ⟨pa,0,none⟩),.pointer (some ⟨pb,0,none⟩)] W fun e w'=>e=.returned (.tuple #[.int .u8 ((xs.getD k 0:Nat):Int),.bool true])∧Tell w pa pb ao n cap (k+1) w':=by
 obtain ⟨b,off,rfl,hc⟩:=h.2.2.2 (by omega)
 have hck:=hc k hk
 have hbl:b<w.heap.size:=lt_cell (w:=w) hck
 obtain ⟨ha,hb,hp,hB⟩:=hT
 have ca:=cell_of_one ha
 have cb:=cell_of_one hb
 have fa:=free_of_one ha
 have hne:¬b=pa:=by omega
 have hne2:¬pb=pa:=by rintro rfl;rw [ha]at hb;simp at hb
 have hcW:=keep_old hB hck
 generalize ((xs.getD k 0:Nat):Int)=X at *
 have hk':((k:Int) == (n:Int))=false:=by simp;omega
 have ha':=hid ha
 have hb':=hid hb
 have hB':=hid hB
 clear hc h hck ha hb hB
 go_enter Tryz.func175,Tryz.ntmps175
 go_wp2
 go_ret2
 refine ⟨rfl,?_,?_,hp,Below.setCell hB'.out hp _⟩
 ·rw [one_setCell ha'.out];simp
 ·rw [heap_setCell_other W ⟨pa,0,none⟩ pb _ (by simpa using hne2)]
  exact hb'.out
theorem gather_tell(pa pb:Nat)(xs:List Nat)(hx:∀ x∈xs,x<256)(s:Nat)(l:Bool)(hs:s≤xs.length)(h8:s≤8)(St:Nat→World→Prop)
  (hmore:∀ k W,St k W→k<xs.length→Calls Tryz.prog 175 #[.pointer (some ⟨pa,0,none⟩),.pointer (some ⟨pb,0,none⟩)] W fun e w'=>e=.returned (.tuple #[.int .u8 ((xs.getD k 0:Nat):Int),.bool true])∧St (k+1) w')
  (w:World) (h0:St 0 w) :
  Calls Tryz.prog 141 #[.func (.func 175) #[] #[.pointer (some ⟨pa,0,none⟩),.pointer (some ⟨pb,0,none⟩)],.int .i64 s,.bool l] w fun e w'=>
   e=.returned (.int .u64 (psum xs s l s:Nat))∧St s w':=by
 have hmore':=hid hmore
 have hx':=hid hx
 have h0':=hid h0
 clear hmore hx h0
 go_enter Tryz.func141,Tryz.ntmps141
 go_wp2
 go_loopw [7,12] (fun a c W=>∃ (i:Nat),i≤s∧a=.int .u64 (psum xs s l i:Nat)∧c=.int .i64 (i:Int)∧St i W) (fun _ c _=>s - (intOf c).toNat)
 case atStart=>exact ⟨0,by omega,rfl,rfl,h0'.out⟩
 case round=>
  obtain ⟨i,hi,rfl,rfl,hS⟩:=hrel
  have hS':=hid hS
  clear hS
  by_cases his:i<s
  ·have c:=hid (hmore'.out i wr hS'.out (by omega))
   obtain ⟨sh,q,csh,_,hshl,_⟩:=shift_named (xs.getD i 0) i s l his h8
   have hor:=bits_or_u64_nat (psum xs s l i) (xs.getD i 0*2 ^ (8*place l s i)) (psum_lt xs s l hx'.out hs h8 i (by omega)) (getD_term_lt xs s l hx'.out hs h8 i his)
   rw [psum_or xs s l hx'.out hs i his]at hor
   have hw:IntKind.u64.wrap ((xs.getD i 0*2 ^ (8*place l s i):Nat):Int)=((xs.getD i 0*2 ^ (8*place l s i):Nat):Int):=by
    rw [IntKind.wrap_u64];have:=getD_term_lt xs s l hx'.out hs h8 i his;omega
   rw [hw]at hshl
   have hX2:=getD_lt hx'.out i (by omega)
   have csh':=hid csh
   clear hw csh
   generalize xs.getD i 0*2 ^ (8*place l s i)=t at *
   obtain ⟨P1,hP1⟩:∃ P,P=psum xs s l (i+1):=⟨_,rfl⟩
   rw [←hP1]at hor
   generalize psum xs s l i=P0 at *
   generalize xs.getD i 0=X at *
   have hP1':=hid hP1
   clear hP1
   go_wp2_with (first |(go_at_call 175;refine c.out.mono ?_;rintro e w1 ⟨rfl,hS1⟩) |(go_at_call 160;refine (csh'.out _).mono ?_;rintro e w2 ⟨rfl,hw2⟩;obtain rfl:=hw2.symm))
   exact ⟨⟨i+1,by omega,by rw [hP1'.out],by go_num,hS1⟩,by simp [intOf];omega⟩
  ·obtain rfl:i=s:=by omega
   go_wp2
   go_ret
   exact ⟨rfl,hS'.out⟩
theorem get_any(ao:Option Addr)(n cap:Nat)(xs:List Nat)(s:Int)(l:Bool)(w:World)(h:Rd w ao n cap xs)(hx:∀ x∈xs,x<256)(hn:n≤9223372036854775807) :
  Calls Tryz.prog 101 #[.slice ao n cap,.int .i64 s,.bool l] w fun e w'=>e=.returned (.tuple #[.int .u64 ((getV xs s l).1:Nat),.bool (getV xs s l).2])∧Below w.heap.size w w':=by
 have hl:=h.1
 subst hl
 have c27:=hid (sized_any s)
 have ct:=hid (teller_any ao xs.length cap w)
 by_cases hs:1≤s∧s≤8∧s≤(xs.length:Int)
 ·obtain ⟨k,rfl⟩:∃ k:Nat,s=(k:Int):=⟨s.toNat,by omega⟩
  have ca:=hid fun w1 h0=>gather_tell (w.heap.size+1) w.heap.size xs hx k l (by omega) (by omega) (fun k W=>Tell w (w.heap.size+1) w.heap.size ao xs.length cap k W)
   (fun k W hT hk=>tell_more w _ _ ao xs.length cap xs h hn k W hT hk) w1 h0
  rw [show (decide ((1:Int)≤(k:Int))&&decide ((k:Int)≤8))=true by simp;omega]at c27
  unfold getV
  rw [if_pos hs,Int.toNat_natCast]
  simp only
  generalize psum xs k l k=R at *
  generalize w.heap.size+1=p1 at *
  have hle:¬(xs.length:Int)<(k:Int):=by omega
  clear hx h hn hs
  go_enter Tryz.func101,Tryz.ntmps101
  go_wp2_with (first |(go_at_call 140;refine (c27.out _).mono ?_;rintro e w3 ⟨rfl,hw3⟩;obtain rfl:=hw3.symm) |(go_at_call 142;refine ct.out.mono ?_;rintro e w1 ⟨rfl,hT⟩;replace hT:=hid hT) |(go_at_call 141;refine (ca.out _ hT.out).mono ?_;rintro e w2 ⟨rfl,hT2⟩;replace hT2:=hid hT2))
  go_ret2
  exact ⟨rfl,hT2.out.2.2.2⟩
 ·unfold getV
  rw [if_neg hs]
  simp only
  by_cases hz:1≤s∧s≤8
  ·rw [show (decide (1≤s)&&decide (s≤8))=true by simp;omega]at c27
   have hle:(xs.length:Int)<s:=by omega
   clear hx h hn hs
   go_enter Tryz.func101,Tryz.ntmps101
   go_wp2_with (go_at_call 140;refine (c27.out _).mono ?_;rintro e w3 ⟨rfl,hw3⟩;obtain rfl:=hw3.symm)
   go_ret2
   exact ⟨rfl,Below.refl _ _⟩
  ·rw [show (decide (1≤s)&&decide (s≤8))=false by simp;omega]at c27
   clear hx h hn hs
   go_enter Tryz.func101,Tryz.ntmps101
   go_wp2_with (go_at_call 140;refine (c27.out _).mono ?_;rintro e w3 ⟨rfl,hw3⟩;obtain rfl:=hw3.symm)
   go_ret2
   exact ⟨rfl,Below.refl _ _⟩
end Jrn
namespace Jrn
open Go.RowKit
def Pv2(n:Int)(b o cap:Nat):Value:=.agg #[.int .i64 n,.slice (some ⟨b,o,none⟩) 512 cap]
theorem Rd.from{w:World}{b o n cap:Nat}{xs:List Nat}(h:Rd w (some ⟨b,o,none⟩) n cap xs){i:Nat}(hi:i<n):Rd w (some ⟨b,o+i,none⟩) (n - i) (cap - i) (xs.drop i):=by
 obtain ⟨hl,hc,hno,hat⟩:=h
 refine ⟨by rw [List.length_drop,hl],by omega,fun h=>(by cases h),fun hp=>⟨b,o+i,rfl,fun t ht=>?_⟩⟩
 obtain ⟨b',off',e,hcell⟩:=hat (by omega)
 simp only [Option.some.injEq,Addr.mk.injEq,and_true]at e
 obtain ⟨rfl,rfl⟩:=e
 have:=hcell (i+t) (by omega)
 rw [show o+i+t=o+(i+t) by omega,this]
 simp [List.getD,List.getElem?_drop]
def numAt(xs:List Nat)(i s:Nat):Nat:=psum (xs.drop i) s false s
theorem numAt_getV(xs:List Nat)(i s:Nat)(h1:1≤s)(h8:s≤8)(hs:i+s≤xs.length):getV (xs.drop i) (s:Int) false=(numAt xs i s,true):=by
 unfold getV numAt
 rw [if_pos ⟨by omega,by omega,by rw [List.length_drop];omega⟩,Int.toNat_natCast]
theorem tell_any(num:Int)(b o cap:Nat)(xs:List Nat)(i s:Nat)(w:World)(h:Rd w (some ⟨b,o,none⟩) 512 cap xs)(hx:∀ x∈xs,x<256)(h1:1≤s)(h8:s≤8)(hs:i+s≤512) :
  Calls Tryz.prog 69 #[Pv2 num b o cap,.int .i64 (i:Int),.int .i64 (s:Int)] w fun e w'=>e=.returned (.int .i64 (wrap64 (numAt xs i s:Int)))∧Below w.heap.size w w':=by
 have hl:=h.1
 have hcp:=h.2.1
 have hb2:Below w.heap.size w (w.alloc (.cells #[.int .i64 num,.slice (some ⟨b,o,none⟩) 512 cap] 81)):=Below.alloc (Below.refl _ _) (Nat.le_refl _) _
 have cg:=hid (fun w1 (hb1:Below w.heap.size w w1)=>get_any (some ⟨b,o+i,none⟩) (512 - i) (cap - i) (xs.drop i) (s:Int) false w1 ((h.from (by omega)).keep hb1) (fun x hx'=>hx x (List.mem_of_mem_drop hx')) (by omega))
 rw [numAt_getV xs i s h1 h8 (by omega)]at cg
 have k1:¬(512:Int)<(i:Int):=by omega
 have k2:((512:Int) - (i:Int))=((512 - i:Nat):Int):=by omega
 have k3:((cap:Int) - (i:Int))=((cap - i:Nat):Int):=by omega
 have HB2:=hid hb2
 clear h hx hb2
 generalize numAt xs i s=R at *
 unfold Pv2
 go_enter Tryz.func69,Tryz.ntmps69
 go_wp2_with (go_at_call 101;refine (cg.out _ HB2.out).mono ?_;rintro e w2 ⟨rfl,hT2⟩;replace hT2:=hid hT2)
 go_ret
 exact ⟨rfl,gt HB2.out hT2.out⟩
theorem numAt_lt(xs:List Nat)(i s:Nat)(hx:∀ x∈xs,x<256)(hs:i+s≤xs.length):numAt xs i s<2 ^ (8*s):=by
 unfold numAt
 obtain ⟨q,hq,e⟩:=psum_big (xs.drop i) s (fun x h=>hx x (List.mem_of_mem_drop h)) (by rw [List.length_drop];omega) s (Nat.le_refl _)
 rw [e];simpa using hq
theorem wrap_small(n:Nat)(h:n<9223372036854775808):wrap64 (n:Int)=(n:Int):=by
 unfold wrap64;omega
theorem tell4(num:Int)(b o cap:Nat)(xs:List Nat)(i:Nat)(w:World)(h:Rd w (some ⟨b,o,none⟩) 512 cap xs)(hx:∀ x∈xs,x<256)(hs:i+4≤512) :
  Calls Tryz.prog 69 #[Pv2 num b o cap,.int .i64 (i:Int),.int .i64 4] w fun e w'=>e=.returned (.int .i64 (numAt xs i 4:Int))∧Below w.heap.size w w':=by
 have:=tell_any num b o cap xs i 4 w h hx (by omega) (by omega) hs
 rw [wrap_small _ (Nat.lt_of_lt_of_le (numAt_lt xs i 4 hx (by rw [h.1];omega)) (by decide))]at this
 exact this
theorem first_any(num:Int)(b o cap:Nat)(xs:List Nat)(w:World)(h:Rd w (some ⟨b,o,none⟩) 512 cap xs)(hx:∀ x∈xs,x<256) :
  Calls Tryz.prog 64 #[Pv2 num b o cap] w fun e w'=>e=.returned (.int .i64 (numAt xs 8 4:Int))∧Below w.heap.size w w':=by
 have HB:=hid (show Below w.heap.size w (w.alloc (.cells #[.int .i64 num,.slice (some ⟨b,o,none⟩) 512 cap] 83)) from Below.alloc (Below.refl _ _) (Nat.le_refl _) _)
 have c:=hid (tell4 num b o cap xs 8 _ (h.keep HB.out) hx (by omega))
 clear h hx
 generalize numAt xs 8 4=R at *
 unfold Pv2 at *
 go_enter Tryz.func64,Tryz.ntmps64
 go_wp2_with (go_at_call 69;refine c.out.mono ?_;rintro e w2 ⟨rfl,hT2⟩;replace hT2:=hid hT2)
 go_ret
 exact ⟨rfl,gt HB.out hT2.out⟩
theorem count_any(num:Int)(b o cap:Nat)(xs:List Nat)(w:World)(h:Rd w (some ⟨b,o,none⟩) 512 cap xs)(hx:∀ x∈xs,x<256) :
  Calls Tryz.prog 33 #[Pv2 num b o cap] w fun e w'=>e=.returned (.int .i64 (numAt xs 12 4:Int))∧Below w.heap.size w w':=by
 have HB:=hid (show Below w.heap.size w (w.alloc (.cells #[.int .i64 num,.slice (some ⟨b,o,none⟩) 512 cap] 83)) from Below.alloc (Below.refl _ _) (Nat.le_refl _) _)
 have c:=hid (tell4 num b o cap xs 12 _ (h.keep HB.out) hx (by omega))
 clear h hx
 generalize numAt xs 12 4=R at *
 unfold Pv2 at *
 go_enter Tryz.func33,Tryz.ntmps33
 go_wp2_with (go_at_call 69;refine c.out.mono ?_;rintro e w2 ⟨rfl,hT2⟩;replace hT2:=hid hT2)
 go_ret
 exact ⟨rfl,gt HB.out hT2.out⟩
theorem size_any(num:Int)(b o cap:Nat)(xs:List Nat)(w:World)(h:Rd w (some ⟨b,o,none⟩) 512 cap xs)(hx:∀ x∈xs,x<256) :
  Calls Tryz.prog 67 #[Pv2 num b o cap] w fun e w'=>e=.returned (.int .i64 (numAt xs 4 4:Int))∧Below w.heap.size w w':=by
 have HB:=hid (show Below w.heap.size w (w.alloc (.cells #[.int .i64 num,.slice (some ⟨b,o,none⟩) 512 cap] 118)) from Below.alloc (Below.refl _ _) (Nat.le_refl _) _)
 have c:=hid (tell4 num b o cap xs 4 _ (h.keep HB.out) hx (by omega))
 clear h hx
 generalize numAt xs 4 4=R at *
 unfold Pv2 at *
 go_enter Tryz.func67,Tryz.ntmps67
 go_wp2_with (go_at_call 69;refine c.out.mono ?_;rintro e w2 ⟨rfl,hT2⟩;replace hT2:=hid hT2)
 go_ret
 exact ⟨rfl,gt HB.out hT2.out⟩
theorem next_any(num:Int)(b o cap:Nat)(xs:List Nat)(w:World)(h:Rd w (some ⟨b,o,none⟩) 512 cap xs)(hx:∀ x∈xs,x<256) :
  Calls Tryz.prog 68 #[Pv2 num b o cap] w fun e w'=>e=.returned (.int .i64 (numAt xs 0 4:Int))∧Below w.heap.size w w':=by
 have HB:=hid (show Below w.heap.size w (w.alloc (.cells #[.int .i64 num,.slice (some ⟨b,o,none⟩) 512 cap] 118)) from Below.alloc (Below.refl _ _) (Nat.le_refl _) _)
 have c:=hid (tell4 num b o cap xs 0 _ (h.keep HB.out) hx (by omega))
 clear h hx
 generalize numAt xs 0 4=R at *
 unfold Pv2 at *
 go_enter Tryz.func68,Tryz.ntmps68
 go_wp2_with (go_at_call 69;refine c.out.mono ?_;rintro e w2 ⟨rfl,hT2⟩;replace hT2:=hid hT2)
 go_ret
 exact ⟨rfl,gt HB.out hT2.out⟩
end Jrn
namespace Jrn
open Go.RowKit
def ctd(n:Int):Bool:=decide (0≤n)&&decide (n≤4000)
theorem ctd_iff(n:Int):ctd n=true↔0≤n∧n≤4000:=by simp [ctd]
theorem counted_any(n:Int)(w:World):Calls Tryz.prog 183 #[.int .i64 n] w fun e w'=>e=.returned (.bool (ctd n))∧w'=w:=by
 unfold ctd
 by_cases h:0≤n<;>by_cases h':n≤4000
 all_goals
  go_enter Tryz.func183,Tryz.ntmps183
  go_wp2
  go_ret
  simp [h,h']
def hgood(c p:Int):Bool:=ctd c&&ctd p
theorem hgood_iff(c p:Int):hgood c p=true↔(0≤c∧c≤4000)∧0≤p∧p≤4000:=by simp [hgood,ctd_iff]
theorem hgood_any(c p:Int)(n:Nat)(w:World):Calls Tryz.prog 152 #[.agg #[.int .i64 c,.int .i64 p,.int .u64 (n:Int)]] w fun e w'=>e=.returned (.bool (hgood c p))∧Below w.heap.size w w':=by
 have c1:=hid (counted_any c)
 have c2:=hid (counted_any p)
 unfold hgood
 generalize ctd c=b1 at *
 generalize ctd p=b2 at *
 cases b1 with
 | true=>
  go_enter Tryz.func152,Tryz.ntmps152
  go_wp2_with (first |(go_at_call 183;refine (c1.out _).mono ?_;rintro e w1 ⟨rfl,hw1⟩;obtain rfl:=hw1.symm;clear c1) |(go_at_call 183;refine (c2.out _).mono ?_;rintro e w1 ⟨rfl,hw1⟩;obtain rfl:=hw1.symm))
  go_ret
  exact ⟨by simp,Below.alloc (Below.refl _ _) (Nat.le_refl _) _⟩
 | false=>
  go_enter Tryz.func152,Tryz.ntmps152
  go_wp2_with (go_at_call 183;refine (c1.out _).mono ?_;rintro e w1 ⟨rfl,hw1⟩;obtain rfl:=hw1.symm)
  go_ret
  exact ⟨by simp,Below.alloc (Below.refl _ _) (Nat.le_refl _) _⟩
end Jrn
namespace Jrn
open Go.RowKit
end Jrn
namespace Jrn
open Go.RowKit
theorem xor_nat(a b:Nat)(z:Int)(hz:z=(b:Int))(ha:a<4294967296)(hb:b<4294967296):bits .xor .u32 (a:Int) z=((a ^^^ b:Nat):Int):=by
 subst hz
 exact u32_xor_nat a b ha hb
theorem not_u32(s:Nat)(h:s<4294967296):bits .xor .u32 IntKind.u32.max (s:Int)=((s ^^^ 4294967295:Nat):Int):=by
 rw [show IntKind.u32.max=((4294967295:Nat):Int) from rfl,u32_xor_nat 4294967295 s (by decide) h,Nat.xor_comm]
theorem drop_step(xs:List Nat)(i:Nat)(h:i<xs.length):xs.drop i=xs.getD i 0::xs.drop (i+1):=by
 rw [List.drop_eq_getElem_cons h]
 simp [List.getD,List.getElem?_eq_getElem h]
theorem get_lt{xs:List Nat}(hx:∀ x∈xs,x<256){i:Nat}(h:i<xs.length):xs.getD i 0<256:=by
 rw [List.getD_eq_getElem?_getD,List.getElem?_eq_getElem h]
 exact hx _ (List.getElem_mem h)
theorem and_15(a:Nat)(h:a<4294967296):bits .and .u32 (a:Int) 15=((a % 16:Nat):Int):=by
 rw [show (15:Int)=((15:Nat):Int) from rfl,u32_and_nat a 15 h (by decide),nat_mask4]
theorem four_ex(R:Nat)(h:R<4294967296)(w:World)(hT:Tab w):∃ (k:Nat) (t q:Int),k<16∧bits .and .u32 (R:Int) 15=(k:Int)∧w.cell? ⟨0,k,none⟩=some (.int .u32 t)∧(R:Int)/16=q∧bits .xor .u32 q t=((txn 4 R:Nat):Int):=by
 refine ⟨R % 16,((txn 4 (R % 16):Nat):Int),((R/16:Nat):Int),by omega,and_15 R h,hT _ (by omega),by omega,?_⟩
 rw [u32_xor_nat _ _ (by omega) (txn_lt 4 (by omega)),←txn_four]
theorem byte_two(r c:Nat):byte r c=txn 4 (txn 4 (r ^^^ c)):=by unfold byte;rw [←txn_add]
theorem add_any(s:Nat)(ao:Option Addr)(n cap:Nat)(xs:List Nat)(w:World)(hs:s<4294967296)(h:Rd w ao n cap xs)(hx:∀ x∈xs,x<256)(hn:n≤9223372036854775807)(hT:Tab w) :
  Calls Tryz.prog 182 #[.int .u32 (s:Int),.slice ao n cap] w fun e w'=>e=.returned (.int .u32 ((addN s xs:Nat):Int))∧w'=w:=by
 have hT':=hid hT
 have hr:=hid h
 have hx':=hid hx
 have sg:IntKind.u32.signed=false:=rfl
 have e1:=not_u32 s hs
 have hS:=xor_lt hs (show 4294967295<4294967296 by decide)
 obtain ⟨S,hSe⟩:∃ S,S=s ^^^ 4294967295:=⟨_,rfl⟩
 have hA:addN s xs=fold S xs ^^^ 4294967295:=by rw [hSe];rfl
 rw [hA]
 rw [←hSe]at e1 hS
 clear hT h hx hSe hA
 go_enter Tryz.func182,Tryz.ntmps182
 go_wp2
 go_loopw [5,12] (fun r c W=>∃ (i R:Nat),i≤n∧c=.int .i64 (i:Int)∧r=.int .u32 (R:Int)∧R<4294967296∧fold R (xs.drop i)=fold S xs∧W=w) (fun _ c _=>n - (intOf c).toNat)
 case atStart=>exact ⟨0,S,by omega,rfl,rfl,hS,by simp,rfl⟩
 case round=>
  obtain ⟨i,R,hi,rfl,rfl,hR,he,rfl⟩:=hrel
  have he':=hid he
  clear he e1
  by_cases hin:i<n
  ·obtain ⟨b,off,rfl,hc⟩:=hr.out.2.2.2 (by omega)
   have hci:=hc i hin
   have hl:=hr.out.1
   have hc8:=get_lt hx'.out (i:=i) (by omega)
   have hd:=hid (drop_step xs i (by omega))
   generalize xs.getD i 0=c at *
   have hx1:=xor_nat R c c rfl hR (by omega)
   have hR1:=xor_lt hR (show c<4294967296 by omega)
   have hby:=hid (byte_two R c)
   generalize R ^^^ c=R1 at *
   obtain ⟨k1,t1,q1,hk1,ha1,hl1,hq1,hx2⟩:=four_ex R1 hR1 wr hT'.out
   have hR2:=txn_lt 4 hR1
   generalize txn 4 R1=R2 at *
   obtain ⟨k2,t2,q2,hk2,ha2,hl2,hq2,hx3⟩:=four_ex R2 hR2 wr hT'.out
   have hR3:=txn_lt 4 hR2
   generalize txn 4 R2=R3 at *
   clear hc
   go_wp2
   refine ⟨⟨i+1,R3,by omega,by go_num,rfl,hR3,?_,trivial⟩,by simp [intOf];omega⟩
   rw [←he'.out,hd.out,fold_cons,hby.out]
  ·obtain rfl:i=n:=by omega
   have e2:=not_u32 R hR
   go_wp2
   go_ret
   have:=he'.out
   rw [List.drop_eq_nil_of_le (by have:=hr.out.1;omega)]at this
   rw [←this]
   exact ⟨rfl,rfl⟩
theorem of_any(ao:Option Addr)(n cap:Nat)(xs:List Nat)(w:World)(h:Rd w ao n cap xs)(hx:∀ x∈xs,x<256)(hn:n≤9223372036854775807)(hT:Tab w) :
  Calls Tryz.prog 149 #[.slice ao n cap] w fun e w'=>e=.returned (.int .u32 ((addN 0 xs:Nat):Int))∧w'=w:=by
 have c:=hid (add_any 0 ao n cap xs w (by decide) h hx hn hT)
 clear h hx hT
 go_enter Tryz.func149,Tryz.ntmps149
 go_wp2_with (go_at_call 182;refine c.out.mono ?_;rintro e w1 ⟨rfl,hw1⟩;obtain rfl:=hw1.symm)
 go_ret
 exact ⟨rfl,rfl⟩
end Jrn
namespace Jrn
open Go.RowKit
def mag:List Nat:=[104,97,99,104,117,114]
def hd22(c p n:Nat):List Nat:=mag++putN c 4 false++putN p 4 false++putN n 8 false
def hd26(c p n:Nat):List Nat:=hd22 c p n++putN (addN 0 (hd22 c p n)) 4 false
def headN(c p n:Nat)(wh:Bool):List Nat:=hd26 c p n++List.replicate 101 0++[if wh then 165 else 0]
theorem putN_length(v s:Nat)(l:Bool):(putN v s l).length=s:=up_length _ _ _
theorem up_bytes(F:Nat→Nat)(hF:∀ i,F i<256)(i k:Nat):∀ x∈up F i k,x<256:=by
 induction k generalizing i with
 | zero=>intro x h;cases h
 | succ k ih=>
  intro x h
  simp only [up,List.mem_cons]at h
  rcases h with rfl |h
  ·exact hF i
  ·exact ih _ x h
theorem putN_bytes(v s:Nat)(l:Bool):∀ x∈putN v s l,x<256:=up_bytes _ (fun _=>by omega) _ _
theorem app_bytes{a b:List Nat}(ha:∀ x∈a,x<256)(hb:∀ x∈b,x<256):∀ x∈a++b,x<256:=by
 intro x h
 rcases List.mem_append.1 h with h |h
 ·exact ha x h
 ·exact hb x h
theorem zero_bytes(k:Nat):∀ x∈List.replicate k 0,x<256:=by
 intro x h
 have:=List.eq_of_mem_replicate h
 omega
theorem mag_bytes:∀ x∈mag,x<256:=by decide
theorem hd22_length(c p n:Nat):(hd22 c p n).length=22:=by simp [hd22,putN_length,mag]
theorem hd22_bytes(c p n:Nat):∀ x∈hd22 c p n,x<256:=app_bytes (app_bytes (app_bytes mag_bytes (putN_bytes _ _ _)) (putN_bytes _ _ _)) (putN_bytes _ _ _)
def HB(t:TypeId)(W:World)(q:Nat)(c p:Int)(n:Nat):Prop:=W.heap[q]? = some (.cells #[.int .i64 c,.int .i64 p,.int .u64 (n:Int)] t (0,0))
variable {n q:Nat} {c p:Int} {W:World} {t:TypeId}
theorem HB.cells(h:HB t W q c p n) :
  W.cell? ⟨q,0,none⟩=some (.int .i64 c)∧W.cell? ⟨q,1,none⟩=some (.int .i64 p)∧W.cell? ⟨q,2,none⟩=some (.int .u64 (n:Int))∧W.frozen? ⟨q,0,none⟩=false∧W.frozen? ⟨q,1,none⟩=false∧W.frozen? ⟨q,2,none⟩=false:=by
 unfold HB at h
 simp [World.cell?,World.frozen?,h]
theorem HB.lt(h:HB t W q c p n):q<W.heap.size:=lt_of_block h
theorem HB.keep{W':World}(h:HB t W q c p n)(hb:Below W.heap.size W W'):HB t W' q c p n:=by
 unfold HB;rw [hb.block q h.lt];exact h
theorem HB.new(t:TypeId)(w:World)(c p:Int)(n:Nat):HB t (w.alloc (.cells #[.int .i64 c,.int .i64 p,.int .u64 (n:Int)] t)) w.heap.size c p n:=heap_alloc_new w _
theorem make_lit(z:Int)(K:Nat)(hz:z=(K:Int))(hK:K≤1000)(w:World) :
  (Instr.makeSlice 79 (.int .i64 z) (.int .i64 z)).run Tryz.prog w=.ok (.slice (some ⟨w.heap.size,0,none⟩) K K) (w.alloc (.cells (Array.replicate K (.int .u8 0)) 5)):=by
 subst hz
 exact make_any K K (Nat.le_refl _) (by omega) w
end Jrn
namespace Jrn
open Go.RowKit
theorem own_zeros(w:World)(K:Nat)(hK:K≤1000):(w.alloc (.cells (Array.replicate K (.int .u8 0)) 5)).ownsRow w.heap.size 5 1 (.slice (some ⟨w.heap.size,0,none⟩) K K) K (bs (List.replicate K 0)):=by
 refine own_of_row (cur:=List.replicate K (.int .u8 0)) (Nat.le_refl _) (copy_hg w K) (by simp) (by omega) ?_ (by simp) (Nat.le_refl _)
 simp [bs]
theorem own_base{w:World}{B B' n:Nat}{v:Value}{xs:List Value}(h:w.ownsRow B' 5 1 v n xs)(hB:B≤B'):w.ownsRow B 5 1 v n xs:=by
 refine ⟨h.1,?_⟩
 rcases h.2 with h1 | ⟨g,cap,cur,e,hb,h2⟩
 ·exact Or.inl h1
 ·exact Or.inr ⟨g,cap,cur,e,by omega,h2⟩
end Jrn
end Go.Proofs.YtgjgkpnjchflaaaGreatDoor
