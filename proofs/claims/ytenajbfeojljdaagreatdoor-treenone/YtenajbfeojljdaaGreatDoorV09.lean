/- Remainders by the polynomial of CRC-32C, as numbers below 2^32: what a step, a byte, a product are, and how they hang together; no statement of the seat is proved here. -/
import Derived.Test.YtenajbfeojljdaaGreatDoorRows
import Derived.WalkKit
import Derived.WalkSpells
import Derived.WalkLawsBesides
import Derived.Laws.CopyOwn
import Derived.Laws.BytesArg
import Derived.Laws.AppendOwnNone
import Derived.Deep.OwnRows
import Derived.BigRegion
import Derived.Deep.RegionWith
import Derived.Deep.RegionHeld3
import Derived.Lib.OthersKept
import Derived.Lib.Walk
set_option maxHeartbeats 16000000
set_option maxRecDepth 20000
namespace Go.Proofs.YtenajbfeojljdaaGreatDoor
namespace Jrn
def tx(a:Nat):Nat:=if a % 2=0 then a/2 else (a/2) ^^^ 2197175160
theorem xor4(a b c d:Nat):(a ^^^ b) ^^^ (c ^^^ d)=(a ^^^ c) ^^^ (b ^^^ d):=by
 rw [Nat.xor_assoc,Nat.xor_assoc,←Nat.xor_assoc b c d,←Nat.xor_assoc c b d,Nat.xor_comm b c]
variable {a:Nat}
theorem xor_lt{b:Nat}(ha:a<4294967296)(hb:b<4294967296):a ^^^ b<4294967296:=Nat.xor_lt_two_pow (n:=32) ha hb
theorem tx_xor(a b:Nat):tx (a ^^^ b)=tx a ^^^ tx b:=by
 have h2:(a ^^^ b)/2=a/2 ^^^ b/2:=Nat.xor_div_two
 have hm:(a ^^^ b) % 2=(a+b) % 2:=by
  have h1:(a ^^^ b) % 2=1↔¬(a % 2=1↔b % 2=1):=Nat.xor_mod_two_eq_one
  rcases Nat.mod_two_eq_zero_or_one (a ^^^ b) with h |h<;>rw [h]at h1<;>omega
 unfold tx
 rw [h2,hm]
 rcases Nat.mod_two_eq_zero_or_one a with ha |ha<;>rcases Nat.mod_two_eq_zero_or_one b with hb |hb
 ·rw [if_pos (by omega),if_pos ha,if_pos hb]
 ·rw [if_neg (by omega),if_pos ha,if_neg (by omega),Nat.xor_assoc]
 ·rw [if_neg (by omega),if_neg (by omega),if_pos hb,Nat.xor_assoc,Nat.xor_assoc,Nat.xor_comm (b/2)]
 ·rw [if_pos (by omega),if_neg (by omega),if_neg (by omega),xor4,Nat.xor_self,Nat.xor_zero]
theorem tx_lt(h:a<4294967296):tx a<4294967296:=by
 unfold tx
 split
 ·omega
 ·exact xor_lt (by omega) (by decide)
theorem tx_two(b:Nat):tx (2*b)=b:=by
 unfold tx
 rw [if_pos (by omega)];omega
def txn:Nat→Nat→Nat
 | 0,a=>a
 | k+1,a=>txn k (tx a)
theorem txn_xor(k a b:Nat):txn k (a ^^^ b)=txn k a ^^^ txn k b:=by
 induction k generalizing a b with
 | zero=>rfl
 | succ k ih=>simp only [txn];rw [tx_xor,ih]
theorem txn_lt(k:Nat){a:Nat}(h:a<4294967296):txn k a<4294967296:=by
 induction k generalizing a with
 | zero=>exact h
 | succ k ih=>exact ih (tx_lt h)
theorem txn_add(j k a:Nat):txn (j+k) a=txn j (txn k a):=by
 induction k generalizing a with
 | zero=>rfl
 | succ k ih=>rw [←Nat.add_assoc];simp only [txn];exact ih (tx a)
theorem txn_shift(k b:Nat):txn k (2 ^ k*b)=b:=by
 induction k with
 | zero=>simp [txn]
 | succ k ih=>rw [Nat.pow_succ,Nat.mul_comm _ 2,Nat.mul_assoc];simp only [txn];rw [tx_two,ih]
theorem txn_four(r:Nat):txn 4 r=r/16 ^^^ txn 4 (r % 16):=by
 have e:r=(2 ^ 4*(r/16)) ^^^ (r % 16):=by
  have h1:r % 16<2 ^ 4:=by omega
  have h2:=Nat.two_pow_add_eq_or_of_lt h1 (r/16)
  have h3:2 ^ 4*(r/16) &&& r % 16=0:=by
   apply Nat.eq_of_testBit_eq
   intro i
   rw [Nat.testBit_and,Nat.testBit_two_pow_mul,Nat.zero_testBit]
   by_cases hi:4≤i
   ·rw [Nat.testBit_lt_two_pow (Nat.lt_of_lt_of_le h1 (Nat.pow_le_pow_right (by omega) hi))];simp
   ·simp [hi]
  have h4:2 ^ 4*(r/16) ^^^ r % 16=2 ^ 4*(r/16) |||r % 16:=by
   apply Nat.eq_of_testBit_eq
   intro i
   have:=congrArg (fun n=>n.testBit i) h3
   simp only [Nat.testBit_and,Nat.zero_testBit]at this
   rw [Nat.testBit_xor,Nat.testBit_or]
   revert this
   cases (2 ^ 4*(r/16)).testBit i<;>cases (r % 16).testBit i<;>simp
  rw [h4,←h2];omega
 conv=>lhs;rw [e,txn_xor,txn_shift]
def byte(r c:Nat):Nat:=txn 8 (r ^^^ c)
def fold:Nat→List Nat→Nat
 | r,[]=>r
 | r,c::cs=>fold (byte r c) cs
theorem fold_cons(r c:Nat)(cs:List Nat):fold r (c::cs)=fold (byte r c) cs:=rfl
variable {r:Nat}
theorem byte_lt{c:Nat}(h:r<4294967296)(hc:c<256):byte r c<4294967296:=txn_lt 8 (xor_lt h (by omega))
theorem fold_lt(h:r<4294967296){xs:List Nat}(hx:∀ x∈xs,x<256):fold r xs<4294967296:=by
 induction xs generalizing r with
 | nil=>exact h
 | cons c cs ih=>exact ih (byte_lt h (hx c (by simp))) fun x hx'=>hx x (by simp [hx'])
def addN(s:Nat)(xs:List Nat):Nat:=fold (s ^^^ 4294967295) xs ^^^ 4294967295
theorem addN_lt{s:Nat}(h:s<4294967296){xs:List Nat}(hx:∀ x∈xs,x<256):addN s xs<4294967296:=xor_lt (fold_lt (xor_lt h (by decide)) hx) (by decide)
def tm:Nat→Nat→Nat→Nat
 | 0,_,_=>0
 | k+1,a,b=>(if 2147483648≤b then a else 0) ^^^ tm k (tx a) (2*b % 4294967296)
end Jrn
namespace Jrn
open Go.RowKit
variable {w:World}
theorem gt{a b:World}(h:Below w.heap.size w a)(k:Below a.heap.size a b):Below w.heap.size w b:=h.trans (k.mono h.size)
theorem hid{p:Prop}(h:p):Hid p:=h
variable {w':World}
theorem undrew(h:Below w.drew.heap.size w.drew w'):Below w.heap.size w w':=⟨h.os,h.tape,h.output,h.size,h.block⟩
variable {v:Value}
theorem lt_cell{a:Addr}(h:w.cell? a=some v):a.block<w.heap.size:=by
 rcases Nat.lt_or_ge a.block w.heap.size with h1 |h1
 ·exact h1
 ·exfalso
  have h2:w.heap[a.block]? = none:=Array.getElem?_eq_none h1
  simp [World.cell?,h2]at h
variable {B:Nat}
theorem keep_cell(h:Below B w w'){a:Addr}{v:Value}(hc:w.cell? a=some v)(hB:a.block<B):w'.cell? a=some v:=by
 rw [World.cell?_of_block (h.block a.block hB)];exact hc
theorem keep_old(h:Below w.heap.size w w'){a:Addr}{v:Value}(hc:w.cell? a=some v):w'.cell? a=some v:=keep_cell h hc (lt_cell hc)
theorem keep_frozen(h:Below B w w'){a:Addr}(hB:a.block<B):w'.frozen? a=w.frozen? a:=World.frozen?_of_block (h.block a.block hB)
def bs(xs:List Nat):List Value:=xs.map fun x:Nat=>Value.int .u8 (x:Int)
def str(xs:List Nat):ByteArray:=⟨(xs.map UInt8.ofNat).toArray⟩
theorem bs_length(xs:List Nat):(bs xs).length=xs.length:=by simp [bs]
theorem bs_append(xs ys:List Nat):bs (xs++ys)=bs xs++bs ys:=by simp [bs]
theorem bs_one(xs:List Nat):∀ u∈bs xs,u.oneCell'=true:=by
 intro u hu
 obtain ⟨x,_,rfl⟩:=List.mem_map.1 hu
 rfl
theorem bs_get(xs:List Nat)(t:Nat)(h:t<xs.length):(bs xs)[t]? = some (.int .u8 ((xs.getD t 0:Nat):Int)):=by
 simp [bs,List.getElem?_map,List.getElem?_eq_getElem h,List.getD]
theorem bs_get'(xs:List Nat)(t:Nat)(u:Value)(h:(bs xs)[t]? = some u):t<xs.length∧u=.int .u8 ((xs.getD t 0:Nat):Int):=by
 have hl:t<xs.length:=by
  have:=(List.getElem?_eq_some_iff.1 h).1
  simpa [bs] using this
 rw [bs_get xs t hl]at h
 exact ⟨hl,(Option.some.inj h).symm⟩
def Rd(w:World)(ao:Option Addr)(n cap:Nat)(xs:List Nat):Prop:=
 xs.length=n∧n≤cap∧(ao=none→n=0∧cap=0) ∧
  (0<n→∃ b off,ao=some ⟨b,off,none⟩∧∀ t,t<n→w.cell? ⟨b,off+t,none⟩=some (.int .u8 ((xs.getD t 0:Nat):Int)))
variable {xs:List Nat} {n cap:Nat} {ao:Option Addr}
theorem Rd.keep(h:Rd w ao n cap xs)(hb:Below w.heap.size w w'):Rd w' ao n cap xs:=by
 refine ⟨h.1,h.2.1,h.2.2.1,fun hn=>?_⟩
 obtain ⟨b,off,e,hc⟩:=h.2.2.2 hn
 exact ⟨b,off,e,fun t ht=>keep_old hb (hc t ht)⟩
theorem Rd.nil(w:World):Rd w none 0 0 []:=⟨rfl,Nat.le_refl _,fun _=>⟨rfl,rfl⟩,fun h=>by omega⟩
variable {g:Nat}
theorem rd_own(h:w.ownsRow B 5 1 (.slice (some ⟨g,0,none⟩) n cap) n (bs xs)):Rd w (some ⟨g,0,none⟩) n cap xs:=by
 have hl:xs.length=n:=by simpa [bs] using h.1
 refine ⟨hl,?_,fun h=>(by cases h),fun _=>⟨g,0,rfl,fun t ht=>?_⟩⟩
 ·rcases h.2 with ⟨h',_⟩ | ⟨g',cap',cur,h',_,_,hnc,_⟩
  ·simp at h'
  ·simp only [Value.slice.injEq,Option.some.injEq,Addr.mk.injEq,and_true,true_and]at h'
   rw [h'.2];exact hnc
 ·rw [Nat.zero_add,h.cellAt t (by omega),bs_get xs t (by omega)]
theorem conv_rd{P:Program}(h:Rd w ao n cap xs)(src dst e:TypeId)(hs:P.underlying src=some (.slice e))(he:P.underlying e=some (.int .u8))(hd:P.underlying dst=some .string) :
  (convert src dst (.slice ao n cap)).run P w=.ok (.string (str xs)) w:=by
 obtain ⟨hl,hc,hno,hat⟩:=h
 rcases Nat.eq_zero_or_pos n with h0 |hp
 ·subst h0
  obtain rfl:xs = []:=List.eq_nil_of_length_eq_zero hl
  cases ao with
  | none=>rw [run_convert_bytes_nil w src e hs he 0 cap dst hd];rfl
  | some a=>
   rw [run_convert_bytes_string w src dst e (some a) 0 cap hs he hd,run_bytesToString w a 0 cap [] (run_loadCells_list (P:=P) w a [] (fun j v hj=>by simp at hj))]
   rfl
 ·obtain ⟨b,off,rfl,hcell⟩:=hat hp
  rw [run_convert_bytes_arg w src e hs he b off n cap (xs.map fun x:Nat=>(x:Int)) (by simpa using hl) (fun i hi=>by
   rw [hcell i hi]
   simp [List.getD,List.getElem?_map,List.getElem?_eq_getElem (show i<xs.length by omega)]) dst hd]
  simp [strOfNums,str,Function.comp_def]
theorem Tryz.info5:(Tryz.prog.info? 5).map (fun i=>(i.zero,i.size,i.bytes))=some (some (.int .u8 0),1,1):=by kernel_rfl
theorem make_any(n cap:Nat)(h:n≤cap)(hc:cap≤281474976710656)(w:World) :
  (Instr.makeSlice 48 (.int .i64 (n:Int)) (.int .i64 (cap:Int))).run Tryz.prog w=.ok (.slice (some ⟨w.heap.size,0,none⟩) n cap) (w.alloc (.cells (Array.replicate cap (.int .u8 0)) 5)):=by
 obtain ⟨i,hi,hz0,hz1,hz2⟩:=info_parts Tryz.info5
 have hr:=run_make (P:=Tryz.prog) w 48 5 i (.int .u8 0) Tryz.underlying48 hi hz0 .i64 .i64 n cap (by omega) (by omega) (by rw [hz2];omega) (by omega)
 simp only [Int.toNat_natCast,hz1,Nat.mul_one]at hr
 rw [hr,show Array.replicate cap (Value.int .u8 0)=(List.replicate cap (Value.int .u8 0)).toArray by simp,←toList_madeCells_one,Array.toArray_toList]
 rfl
theorem own_of_row{cur:List Value}(hB:B≤g)(hg:w.heap[g]? = some (.cells cur.toArray 5 (0,0)))(hcap:cur.length=cap)(hm:cap≤9223372036854775807)
  (hx:cur.take n=bs xs) (hn:xs.length=n) (hnc:n≤cap):w.ownsRow B 5 1 (.slice (some ⟨g,0,none⟩) n cap) n (bs xs):=
 ⟨by simp [bs,hn],.inr ⟨g,cap,cur.toArray,rfl,hB,hg,hnc,hm,by simp [hcap],by simpa using hx⟩⟩
theorem splice_zero(n m:Nat)(xs:List Nat)(h:xs.length=n):(splice (List.replicate (n+m) (Value.int .u8 0)) 0 (bs xs)).take n=bs xs:=by
 have hl:(bs xs).length=n:=by simp [bs,h]
 simp [splice,List.take_append_of_le_length (Nat.le_of_eq hl.symm),List.take_of_length_le (Nat.le_of_eq hl)]
theorem here_op(k:Nat){P:Program}{ops:Array Oper}{Q:Exit→Act→World→Prop}{a:Act}{w:World}{rest:List Oper}{op:Op}{t:TypeId}{pos:String}{after:Array Edge}{gd:Option (Nat×Bool)}
  (h:wpList P ops Q (⟨some k,op,t,pos,after,gd⟩::rest) a w):wpList P ops Q (⟨some k,op,t,pos,after,gd⟩::rest) a w:=h
theorem copy_hg(w:World)(k:Nat):(w.alloc (.cells (Array.replicate k (.int .u8 0)) 5)).heap[w.heap.size]? = some (.cells (List.replicate k (Value.int .u8 0)).toArray 5 (0,0)):=by
 rw [heap_alloc_new];simp
theorem copy_hn(h:Rd w ao n cap xs):(bs xs).length=Nat.min n n:=by
 rw [bs_length,h.1];exact (Nat.min_self n).symm
theorem copy_hpos(h:Rd w ao n cap xs){o:Obj}:0<(bs xs).length→some (⟨w.heap.size,0,none⟩:Addr)=some ⟨w.heap.size,0,none⟩∧∃ ad,ao=some ad∧∀ j v,(bs xs)[j]? = some v→(w.alloc o).cell? (ad.add j)=some v:=by
 intro hp
 rw [bs_length,h.1]at hp
 obtain ⟨b,off,rfl,hc⟩:=h.2.2.2 hp
 refine ⟨rfl,_,rfl,fun j v hv=>?_⟩
 obtain ⟨hj,rfl⟩:=bs_get' xs j v hv
 rw [Addr.add_lit]
 exact keep_old (Below.alloc (Below.refl _ _) (Nat.le_refl _) o) (hc j (by have:=h.1;omega))
theorem widened_any(ao:Option Addr)(n cap m:Nat)(xs:List Nat)(w:World)(h:Rd w ao n cap xs)(hm:n+m≤281474976710656) :
  Calls Tryz.prog 262 #[.slice ao n cap,.int .i64 (m:Int)] w fun e w'=>e=.returned (.slice (some ⟨w.heap.size,0,none⟩) n (n+m)) ∧
   w'.ownsRow w.heap.size 5 1 (.slice (some ⟨w.heap.size,0,none⟩) n (n+m)) n (bs xs)∧Below w.heap.size w w':=by
 have hmk:=make_any n (n+m) (by omega) hm
 have e1:((n+m:Nat):Int)=(n:Int)+(m:Int):=by omega
 rw [e1]at hmk
 have hr:=hid h
 clear e1 h
 go_enter Tryz.func262,Tryz.ntmps262
 go_wp2_with ((with_reducible refine here_op 15 ?_);refine wpList_copy_splice rfl (.tmp 13) (.tmp 14) 48 48 rfl 5 Tryz.underlying48 (by kernel_rfl) _ _ _ _ _ _ rfl rfl w.heap.size 0 (List.replicate (n+m) (.int .u8 0)) 5 (copy_hg w (n+m)) (bs xs) (copy_hn hr.out) (copy_hpos hr.out) (by simp [bs,hr.out.1]) (bs_one xs) w.heap.size w (Below.alloc (Below.refl _ _) (Nat.le_refl _) _) (Nat.le_refl _) ?_;intro w2 hg2 hb2)
 go_ret
 exact ⟨rfl,own_of_row (Nat.le_refl _) hg2.out (by rw [length_splice _ _ _ (by simp [bs,hr.out.1])];simp) (by omega) (splice_zero n m xs hr.out.1) hr.out.1 (by omega),hb2⟩
theorem wpList_append_rd{ops:Array Oper}{rest:List Oper}{o:Oper}{a:Act}{Q:Exit→Act→World→Prop}(hgd:o.guard=none)(s x:Operand)
  (ho:o.op=.call { callee:=.builtin .append,args:=#[s,x],argTypes:=#[48,48] }) (B:Nat) (v:Value) (n:Nat) (xs:List Nat) (hs:a.eval s=v) (hown:w.ownsRow B 5 1 v n (bs xs))
  (ao:Option Addr) (m c:Nat) (ys:List Nat) (hx:a.eval x=.slice ao m c) (hr:Rd w ao m c ys) (hb:n+m≤140737488355328) (hB:B≤w.heap.size)
  (h:∀ v' w',w'.ownsRow B 5 1 v' (n+m) (bs (xs++ys))→Below B w w'→wpList Tryz.prog ops Q rest (a.put o.dst v') w'):wpList Tryz.prog ops Q (o::rest) a w:=by
 obtain ⟨i5,hi5,hz0,hz1,hz2⟩:=info_parts Tryz.info5
 obtain ⟨hl,hc,hno,hat⟩:=hr
 cases ao with
 | none=>
  obtain ⟨rfl,rfl⟩:=hno rfl
  obtain rfl:ys = []:=List.eq_nil_of_length_eq_zero hl
  refine wpList_append_own_none hgd s x 48 ho B 5 i5 1 Tryz.underlying48 hi5 v n (bs xs) hs hown hx ?_
  exact h v w (by simpa using hown) (Below.refl _ _)
 | some ad=>
  refine wpList_append_own w hgd s x 48 ho B 5 i5 (.int .u8 0) 1 1 Tryz.underlying48 hi5 hz0 hz1 hz2 rfl (by decide) v n (bs xs) hs hown ad m c (bs ys) hx (by simp [bs,hl]) ?_ (bs_one ys) (by unfold maxLen;omega) (by omega) hB ?_
  ·intro j u hu
   obtain ⟨hj,rfl⟩:=bs_get' ys j u hu
   obtain ⟨b,off,e,hcell⟩:=hat (by omega)
   simp only [Option.some.injEq]at e
   subst e
   rw [Addr.add_lit]
   exact hcell j (by omega)
  ·intro v' w' h1 h2 _
   refine h v' w' (by rw [bs_append];exact h1) ((Below.refl B w).grown h2 hB fun k hk=>(hown.lt k hk).1)
theorem rd_owned(h:w.ownsRow B 5 1 v n (bs xs)):∃ ao cap,v=.slice ao n cap∧Rd w ao n cap xs:=by
 rcases h.2 with ⟨rfl,rfl⟩ | ⟨g,cap,cur,rfl,_⟩
 ·obtain rfl:xs = []:=by have:=h.1;simp [bs]at this;exact this
  exact ⟨none,0,rfl,Rd.nil w⟩
 ·exact ⟨_,_,rfl,rd_own h⟩
def Tab(w:World):Prop:=∀ k:Nat,k<16→w.cell? ⟨0,k,none⟩=some (.int .u32 ((txn 4 k:Nat):Int))
theorem Tab.keep(h:Tab w)(hb:Below w.heap.size w w'):Tab w':=fun k hk=>keep_old hb (h k hk)
end Jrn
namespace Jrn
open Go.RowKit
theorem sized_any(s:Int)(w:World):Calls Tryz.prog 264 #[.int .i64 s] w fun e w'=>e=.returned (.bool (decide (1≤s)&&decide (s≤8)))∧w'=w:=by
 by_cases h:1≤s<;>by_cases h':s≤8
 all_goals
  go_enter Tryz.func264,Tryz.ntmps264
  go_wp2
  go_ret
  simp [h,h']
theorem shift_little(i s:Nat)(w:World)(h:i<8) :
  Calls Tryz.prog 275 #[.int .i64 i,.int .i64 s,.bool true] w fun e w'=>e=.returned (.int .i64 (8*(i:Int)))∧w'=w:=by
 go_enter Tryz.func275,Tryz.ntmps275
 go_wp2
 go_ret
 exact ⟨rfl,rfl⟩
theorem shift_big(i s:Nat)(w:World)(h:i<s)(h':s≤8) :
  Calls Tryz.prog 275 #[.int .i64 i,.int .i64 s,.bool false] w fun e w'=>e=.returned (.int .i64 (8*((s - 1 - i:Nat):Int)))∧w'=w:=by
 obtain ⟨j,hj⟩:∃ j:Nat,s=i+1+j:=⟨s - 1 - i,by omega⟩
 subst hj
 rw [show i+1+j - 1 - i=j by omega]
 go_enter Tryz.func275,Tryz.ntmps275
 go_wp2
 go_ret
 refine ⟨?_,rfl⟩
 simp
 omega
def up(F:Nat→Nat)(i:Nat):Nat→List Nat
 | 0=>[]
 | k+1=>F i::up F (i+1) k
def place(l:Bool)(s i:Nat):Nat:=if l then i else s - 1 - i
def putN(v s:Nat)(l:Bool):List Nat:=up (fun i=>v/2 ^ (8*place l s i) % 256) 0 s
theorem up_length(F:Nat→Nat)(i k:Nat):(up F i k).length=k:=by
 induction k generalizing i with
 | zero=>rfl
 | succ k ih=>simp [up,ih]
theorem up_step(F:Nat→Nat)(i k:Nat)(h:i<k)(ys T:List Nat)(e:ys++up F i (k - i)=T):(ys++[F i])++up F (i+1) (k - (i+1))=T:=by
 rw [←e,show k - i=(k - (i+1))+1 by omega]
 simp [up]
theorem shift_any(i s:Nat)(l:Bool)(w:World)(h:i<s)(h':s≤8) :
  Calls Tryz.prog 275 #[.int .i64 i,.int .i64 s,.bool l] w fun e w'=>e=.returned (.int .i64 ((8*place l s i:Nat):Int))∧w'=w:=by
 cases l with
 | true=>simpa [place] using shift_little i s w (by omega)
 | false=>simpa [place] using shift_big i s w h h'
theorem shr_nat(v c:Nat)(yk:IntKind)(h:c≤64):Op.shift .shr .u64 (v:Int) yk (c:Int)=pure (.int .u64 ((v/2 ^ c:Nat):Int)):=by
 rw [shift_shr_any _ _ _ _ (by omega)]
 simp [IntKind.bits,Nat.min_eq_left h]
theorem shl_nat(v c:Nat)(yk:IntKind)(h:c≤64):Op.shift .shl .u64 (v:Int) yk (c:Int)=pure (.int .u64 (IntKind.u64.wrap ((v*2 ^ c:Nat):Int))):=by
 rw [shift_shl_any _ _ _ _ (by omega)]
 simp [IntKind.bits,Nat.min_eq_left h]
theorem shift_named(v i s:Nat)(l:Bool)(h:i<s)(h':s≤8):∃ (sh:Int) (q:Nat),(∀ w,Calls Tryz.prog 275 #[.int .i64 i,.int .i64 s,.bool l] w fun e w'=>e=.returned (.int .i64 sh)∧w'=w) ∧
  Op.shift .shr .u64 (v:Int) .i64 sh=pure (.int .u64 (q:Int))∧Op.shift .shl .u64 (v:Int) .i64 sh=pure (.int .u64 (IntKind.u64.wrap ((v*2 ^ (8*place l s i):Nat):Int)))∧q=v/2 ^ (8*place l s i):=by
 refine ⟨((8*place l s i:Nat):Int),v/2 ^ (8*place l s i),fun w=>shift_any i s l w h h',?_,?_,rfl⟩
 ·exact shr_nat v _ _ (by unfold place;split<;>omega)
 ·exact shl_nat v _ _ (by unfold place;split<;>omega)
theorem one_cell(w:World)(x:Nat):∀ j u,(bs [x])[j]? = some u→(w.alloc (.cells #[.int .u8 (x:Int)] 5)).cell? ((⟨w.heap.size,0,none⟩:Addr).add j)=some u:=by
 intro j u hu
 obtain ⟨hj,rfl⟩:=bs_get' [x] j u hu
 have:j=0:=by simpa using hj
 subst this
 rw [Addr.add_lit]
 simp
theorem put_any(ao:Option Addr)(n cap:Nat)(xs:List Nat)(v:Nat)(s:Int)(k:Nat)(l:Bool)(w:World)(h:Rd w ao n cap xs)(hn:n≤140737488355328)(hk:k≤8)(hs:min (max s 0) 8=(k:Int)) :
  Calls Tryz.prog 226 #[.slice ao n cap,.int .u64 v,.int .i64 s,.bool l] w fun e w'=>e=.returned (.slice (some ⟨w.heap.size,0,none⟩) (n+k) (n+k)) ∧
   w'.ownsRow w.heap.size 5 1 (.slice (some ⟨w.heap.size,0,none⟩) (n+k) (n+k)) (n+k) (bs (xs++putN v k l))∧Below w.heap.size w w':=by
 have cw:=hid (widened_any ao n cap k xs w h (by omega))
 have hs':=hid hs
 go_enter Tryz.func226,Tryz.ntmps226
 go_wp2_with (go_at_call 262;refine cw.out.mono ?_;rintro e w1 ⟨rfl,ho1,hb1⟩)
 go_loopw [9,18] (fun o c W=>∃ (i:Nat) (ys:List Nat),i≤k∧c=.int .i64 i∧o=.slice (some ⟨w.heap.size,0,none⟩) (n+i) (n+k)∧ys++up (fun j=>v/2 ^ (8*place l k j) % 256) i (k - i)=xs++putN v k l ∧
   W.ownsRow w.heap.size 5 1 (.slice (some ⟨w.heap.size,0,none⟩) (n+i) (n+k)) (n+i) (bs ys)∧Below w.heap.size w W) (fun _ c _=>k - (intOf c).toNat)
 case atStart=>exact ⟨0,xs,by omega,rfl,rfl,rfl,ho1,hb1⟩
 case round=>
  obtain ⟨i,ys,hi,rfl,rfl,he,ho,hb⟩:=hrel
  have he':=hid he
  clear he hs h cw ho1 hb1
  by_cases hik:i<k
  ·obtain ⟨sh,q,c,hsh,_,hq⟩:=shift_named v i k l hik hk
   have c':=hid c
   obtain ⟨i5,hi5,hz0,hz1,hz2⟩:=info_parts Tryz.info5
   have hq':=hid hq
   clear c hq
   go_wp2_with (first |(go_at_call 275;refine (c'.out _).mono ?_;rintro e w2 ⟨rfl,rfl⟩) |(at_builtin;refine wpList_append_fits _ rfl (.tmp 21) (.tmp 29) 48 rfl w.heap.size 5 i5 1 Tryz.underlying48 hi5 hz1 w.heap.size (n+i) (n+k) (bs ys) rfl (ho.alloc _) ⟨w2.heap.size,0,none⟩ 1 1 (bs [q % 256]) rfl rfl (one_cell w2 (q % 256)) (bs_one _) (by omega) ?_;intro w3 ho3 hg3))
   refine ⟨⟨i+1,ys++[q % 256],by omega,by go_num,by rw [Nat.add_assoc],?_,?_,?_⟩,by simp [intOf];omega⟩
   ·rw [hq'.out]
    exact up_step (fun j=>v/2 ^ (8*place l k j) % 256) i k hik ys _ he'.out
   ·rw [bs_append,←Nat.add_assoc];exact ho3
   ·exact (Below.alloc hb hb.size _).grown hg3 (by have:=hb.size;simp;omega) (fun j hj=>by cases hj;exact Nat.le_refl _)
  ·obtain rfl:i=k:=by omega
   go_wp2
   go_ret
   rw [Nat.sub_self]at he'
   simp only [up,List.append_nil]at he'
   rw [←he'.out]
   exact ⟨rfl,ho,hb⟩
end Jrn
end Go.Proofs.YtenajbfeojljdaaGreatDoor
