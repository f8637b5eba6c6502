/- How a cache lies in memory, and the small calls; no statement of the seat is proved here. -/
import Derived.Test.YtenajbfeojljdaaGreatDoorV13
import Derived.Test.YtenajbfeojljdaaGreatDoorV18
import Derived.Deep.DeepCutAuto
import Derived.Laws.EntriesVeiled
import Derived.Test.YtenajbfeojljdaaGreatDoorV15
import Derived.Test.YtenajbfeojljdaaGreatDoorV16
import Derived.Lib.BufferWrite
set_option maxHeartbeats 16000000
set_option maxRecDepth 20000
namespace Go.Proofs.YtenajbfeojljdaaGreatDoor
namespace Cch
open Go.RowKit Go.Maps
structure CS where
 room:Nat
 l:List Row
 hit:Nat
 miss:Nat
structure Parts where
 m:Nat
 h:Nat
 ks:List Nat
 E:Nat→Ent
def hdC(m h room hit miss:Nat):List Value:=[.int .i64 (room:Int),.map (some m),.pointer (some ⟨h,0,none⟩),.int .i64 (hit:Int),.int .i64 (miss:Int)]
def lk(ks:List Nat)(E:Nat→Ent)(k:Int):Option Nat:=ks.find? (fun b=>(E b).row.page == k)
structure CP (w:World) (c:Nat) (C:Parts) (s:CS):Prop where
 hd:w.heap[c]? = some (.cells (hdC C.m C.h s.room s.hit s.miss).toArray 208 (0,0))
 mp:MapAt w C.m (lk C.ks C.E) C.ks.length
 rg:RingAt w C.h C.ks C.E
 ls:s.l=C.ks.map (fun b=>(C.E b).row)
 pg:(s.l.map Row.page).Nodup
 wf:∀ r∈s.l,(Lit.int .i64 r.page).wf=true∧1≤r.page
 rm:1≤s.room∧s.room≤4096
def Parts.S(C:Parts)(c:Nat):Nat→Prop:=fun k=>k=c∨k=C.m∨k∈C.h::C.ks
variable {s:CS} {C:Parts} {c:Nat} {w:World}
theorem CP.clt(h:CP w c C s):c<w.heap.size:=(Array.getElem?_eq_some_iff.1 h.hd).1
theorem CP.lt(h:CP w c C s){k:Nat}(hk:C.S c k):k<w.heap.size:=by
 rcases hk with rfl |rfl |hk
 ·exact h.clt
 ·exact h.mp.lt
 ·exact (h.rg.en k hk).lt
theorem CP.nc(h:CP w c C s):c∉C.h::C.ks:=fun hm=>by
 have:=(h.rg.en c hm).blk
 rw [h.hd]at this
 simp at this
theorem CP.mc(h:CP w c C s):C.m≠c:=fun hm=>by
 obtain ⟨es,cl,ho⟩:=h.mp.obj
 rw [hm,h.hd]at ho
 simp at ho
theorem CP.nm(h:CP w c C s):C.m∉C.h::C.ks:=fun hm=>by
 obtain ⟨es,cl,ho⟩:=h.mp.obj
 rw [(h.rg.en _ hm).blk]at ho
 simp at ho
variable {w':World}
theorem CP.stay(h:CP w c C s)(hb:∀ k,k<w.heap.size→C.S c k→w'.heap[k]? = w.heap[k]?):CP w' c C s:=
 ⟨(hb c h.clt (Or.inl rfl)).trans h.hd,h.mp.stay (hb _ h.mp.lt (Or.inr (Or.inl rfl))),h.rg.stay (fun b hm=>hb b (h.rg.en b hm).lt (Or.inr (Or.inr hm))),h.ls,h.pg,h.wf,h.rm⟩
theorem CP.later(h:CP w c C s)(hb:Below w.heap.size w w'):CP w' c C s:=h.stay (fun k hk _=>hb.block k hk)
variable {t:TypeId} {cs:List Value}
theorem hd_cell(h:w.heap[c]? = some (.cells cs.toArray t (0,0)))(i:Nat):w.cell? ⟨c,i,none⟩=cs[i]?:=by simp [World.cell?,h]
theorem hd_frozen(h:w.heap[c]? = some (.cells cs.toArray t (0,0)))(i:Nat):w.frozen? ⟨c,i,none⟩=false:=by simp [World.frozen?,h]
theorem CP.c0(h:CP w c C s):w.cell? ⟨c,0,none⟩=some (.int .i64 (s.room:Int)):=hd_cell h.hd 0
theorem CP.c1(h:CP w c C s):w.cell? ⟨c,1,none⟩=some (.map (some C.m)):=hd_cell h.hd 1
theorem CP.c2(h:CP w c C s):w.cell? ⟨c,2,none⟩=some (.pointer (some ⟨C.h,0,none⟩)):=hd_cell h.hd 2
theorem CP.c3(h:CP w c C s):w.cell? ⟨c,3,none⟩=some (.int .i64 (s.hit:Int)):=hd_cell h.hd 3
theorem CP.c4(h:CP w c C s):w.cell? ⟨c,4,none⟩=some (.int .i64 (s.miss:Int)):=hd_cell h.hd 4
theorem CP.idx(h:CP w c C s){k:Int}{b:Nat}(hb:lk C.ks C.E k=some b):∃ xs ys,C.ks=xs++b::ys∧(C.E b).row.page=k∧(∀ x∈xs,(C.E x).row.page≠k)∧(∀ x∈ys,(C.E x).row.page≠k):=by
 obtain ⟨h1,xs,ys,e,h2⟩:=List.find?_eq_some_iff_append.1 hb
 refine ⟨xs,ys,e,by simpa using h1,fun x hx=>by simpa using h2 x hx,fun x hx hxk=>?_⟩
 have h3:=h.pg
 rw [h.ls,e]at h3
 simp only [List.map_append,List.map_cons,List.map_map]at h3
 have h4:=(List.nodup_cons.1 (List.nodup_append.1 h3).2.1).1
 refine h4 (List.mem_map.2 ⟨x,hx,?_⟩)
 simp at h1
 simp [hxk,h1]
theorem lk_none{ks:List Nat}{E:Nat→Ent}{k:Int}(hb:lk ks E k=none):∀ x∈ks,(E x).row.page≠k:=fun x hx=>by
 have:=List.find?_eq_none.1 hb x hx
 simpa using this
theorem made_yes(c:Nat)(r:Nat)(w:World)(c0:w.cell? ⟨c,0,none⟩=some (.int .i64 (r:Int)))(hr:1≤r) :
  Calls Tryz.prog 257 #[.pointer (some ⟨c,0,none⟩)] w fun e w'=>e=.returned (.bool true)∧w'=w:=by
 have hr':0<r:=hr
 go_enter Tryz.func257,Tryz.ntmps257
 go_wp2
 go_ret
 exact ⟨rfl,rfl⟩
variable {m:Nat}
theorem turned_cell(h:w.mapTurned w' m){b:Nat}(hb:b≠m)(hl:b<w.heap.size):w'.heap[b]? = w.heap[b]?:=h.grown.block b hl (by intro e;cases e;exact hb rfl)
theorem mapped_drew{n:Nat}{f:Int→Option Nat}(h:MapAt w m f n):MapAt w.drew m f n:=h.stay rfl
theorem add_raw(c m e:Nat)(k:Int)(w w1:World)(R:World→Prop)(c1:w.cell? ⟨c,1,none⟩=some (.map (some m)))(ce:w.cell? ⟨e,0,none⟩=some (.int .i64 k))
  (hput:(Instr.mapUpdate 204 (.map (some m)) (.int .i64 k) (.pointer (some ⟨e,0,none⟩))).run Tryz.prog w.drew=.ok () w1)
  (hl:Calls Tryz.prog 294 #[.pointer (some ⟨c,0,none⟩),.pointer (some ⟨e,0,none⟩)] w1 fun r w'=>r=.returned (.tuple #[])∧R w') :
  Calls Tryz.prog 259 #[.pointer (some ⟨c,0,none⟩),.pointer (some ⟨e,0,none⟩)] w fun r w'=>r=.returned (.tuple #[])∧R w':=by
 have k1:=hid hl
 clear hl
 go_enter Tryz.func259,Tryz.ntmps259
 go_wp2_with fail
 go_region
 go_wp2_with (go_at_call 294;refine k1.out.mono ?_;rintro e w2 ⟨rfl,hR⟩;replace hR:=hid hR)
 go_end0
 exact ⟨rfl,hR.out⟩
theorem remove_raw(c m e:Nat)(k:Int)(w w1:World)(R:World→Prop)(c1:w.cell? ⟨c,1,none⟩=some (.map (some m)))(ce:w.cell? ⟨e,0,none⟩=some (.int .i64 k))
  (hdel:∀ ty,(Builtin.delete_ #[204,3] ty #[.map (some m),.int .i64 k]).run Tryz.prog w.drew=.ok (.tuple #[]) w1)
  (hl:Calls Tryz.prog 293 #[.pointer (some ⟨e,0,none⟩)] w1 fun r w'=>r=.returned (.tuple #[])∧R w') :
  Calls Tryz.prog 296 #[.pointer (some ⟨c,0,none⟩),.pointer (some ⟨e,0,none⟩)] w fun r w'=>r=.returned (.tuple #[])∧R w':=by
 have k1:=hid hl
 clear hl
 go_enter Tryz.func296,Tryz.ntmps296
 go_wp2_with fail
 go_region
 go_wp2_with (go_at_call 293;refine k1.out.mono ?_;rintro e w2 ⟨rfl,hR⟩;replace hR:=hid hR)
 go_end0
 exact ⟨rfl,hR.out⟩
end Cch
namespace Spl
open Go.RowKit
open Jrn (gt hid undrew keep_old keep_cell lt_cell Rd bs bs_length bs_one bs_get bs_get' rd_own make_any Row5 putAt putN putN_length)
open Cch (Fr wpAnyK wpAnyK_done wp_region_K step_copy_row hd_cell hd_frozen blk_set)
def countI(n:Int):Int:=if n<1 then 0 else (n - 1)/508+1
theorem count_any(n:Int)(h : -9223372036854775808≤n∧n≤9223372036854775807)(w:World):Calls Tryz.prog 159 #[.int .i64 n] w fun e w'=>e=.returned (.int .i64 (countI n))∧w'=w:=by
 obtain ⟨h1,h2⟩:=h
 unfold countI
 by_cases hk:n<1
 ·rw [if_pos hk]
  go_enter Tryz.func159,Tryz.ntmps159
  go_wp2
  go_ret
  exact ⟨rfl,rfl⟩
 ·rw [if_neg hk]
  have e1:(n - 1).tdiv 508=(n - 1)/508:=Int.tdiv_eq_ediv_of_nonneg (by omega)
  go_enter Tryz.func159,Tryz.ntmps159
  go_wp2
  go_ret
  first |exact ⟨rfl,rfl⟩ |simp [e1]
theorem cut_less(g o n cap s:Nat)(hn:n≤cap)(hs:s<n)(_hcap:cap≤9223372036854775807)(w:World) :
  Calls Tryz.prog 160 #[.slice (some ⟨g,o,none⟩) n cap,.int .i64 (s:Int)] w fun e w'=>e=.returned (.tuple #[.slice (some ⟨g,o,none⟩) s s,.slice (some ⟨g,o+s,none⟩) (n - s) (n - s)])∧Below w.heap.size w w':=by
 have k1:min (s:Int) (n:Int)=(s:Int):=by omega
 have k2:(s:Int)≤(n:Int):=by omega
 have k3:((n:Int) - (s:Int))=((n - s:Nat):Int):=by omega
 have k4:¬n - s=0:=by omega
 have k5:¬n=s:=by omega
 go_enter Tryz.func160,Tryz.ntmps160
 go_wp2
 go_region
 go_wp2
 go_ret2
 exact ⟨rfl,Below.drew (Below.refl _ _)⟩
theorem cut_all(g o n cap s:Nat)(hn:n≤cap)(hs:n≤s)(_h8:s≤1000000)(_hcap:cap≤9223372036854775807)(w:World) :
  Calls Tryz.prog 160 #[.slice (some ⟨g,o,none⟩) n cap,.int .i64 (s:Int)] w fun e w'=>e=.returned (.tuple #[.slice (some ⟨g,o,none⟩) n n,.slice (some ⟨g,o,none⟩) 0 0])∧Below w.heap.size w w':=by
 have k1:min (s:Int) (n:Int)=(n:Int):=by omega
 have k3:((n:Int) - (n:Int))=((0:Nat):Int):=by omega
 go_enter Tryz.func160,Tryz.ntmps160
 go_wp2
 go_region
 go_wp2
 go_ret2
 exact ⟨rfl,Below.drew (Below.refl _ _)⟩
def allNought(xs:List Nat):Bool:=xs.all (fun x=>x == 0)
theorem noughts_any(ao:Option Addr)(n cap:Nat)(xs:List Nat)(w:World)(h:Rd w ao n cap xs)(hcap:n≤1000000) :
  Calls Tryz.prog 161 #[.slice ao n cap] w fun e w'=>e=.returned (.bool (allNought xs))∧Below w.heap.size w w':=by
 obtain ⟨hl,hc,hno,hat⟩:=h
 have HA:=hid hat;have HL:=hid hl
 obtain ⟨R,hR⟩:∃ R,R=allNought xs:=⟨_,rfl⟩
 have HR:=hid hR
 rw [←hR]
 clear hat hl hno hR
 go_enter Tryz.func161,Tryz.ntmps161
 go_wp2
 go_loopw [7] (fun c W=>∃ i:Nat,i≤n∧c=.int .i64 (i:Int)∧Hid ((∀ k,k<i→xs.getD k 0=0)∧W=w)) (fun c _=>n - (Lib.intOf c).toNat)
 case atStart=>exact ⟨0,by omega,rfl,hid ⟨fun k hk=>by omega,rfl⟩⟩
 case round=>
  obtain ⟨i,hi,rfl,HE⟩:=hrel
  obtain rfl:=HE.out.2
  by_cases hin:i<n
  ·obtain ⟨b,off,rfl,hcell⟩:=HA.out (by omega)
   have c0:=hcell i hin
   have hi1:(i:Int)<(n:Int):=by omega
   have HC:=hid hcell
   clear hcell
   by_cases hz:xs.getD i 0=0
   ·rw [hz]at c0
    have HZ:=hid hz
    clear hz
    go_wp2
    refine ⟨⟨i+1,by omega,by go_num,hid ⟨fun k hk=>?_,by first |rfl |trivial⟩⟩,by simp [Lib.intOf];omega⟩
    rcases Nat.lt_or_ge k i with h1 |h1
    ·exact HE.out.1 k h1
    ·obtain rfl:k=i:=by omega
     exact HZ.out
   ·have hz':¬((xs.getD i 0:Nat):Int)=0:=by omega
    have hr:allNought xs=false:=by
     unfold allNought
     rw [List.all_eq_false]
     refine ⟨xs.getD i 0,?_,by simpa using hz⟩
     rw [List.getD,List.getElem?_eq_getElem (by rw [HL.out];exact hin)]
     exact List.getElem_mem _
    rw [←HR.out]at hr
    subst hr
    clear HR
    generalize xs.getD i 0=Z at *
    clear hz
    go_wp2
    go_ret
    exact ⟨rfl,Below.refl _ _⟩
  ·obtain rfl:i=n:=by omega
   have hr:allNought xs=true:=by
    unfold allNought
    rw [List.all_eq_true]
    intro x hxm
    obtain ⟨k,hk,rfl⟩:=List.getElem_of_mem hxm
    have:=HE.out.1 k (by rw [←HL.out];exact hk)
    rw [List.getD,List.getElem?_eq_getElem hk]at this
    simpa using this
   rw [←HR.out]at hr
   subst hr
   clear HR
   go_wp2
   go_ret
   exact ⟨rfl,Below.refl _ _⟩
def RowB(W:World)(g:Nat)(xs:List Nat):Prop:=W.heap[g]? = some (.cells (bs xs).toArray 5 (0,0))
end Spl
namespace Spl
open Go.RowKit
open Jrn (gt hid undrew keep_old keep_cell lt_cell Rd bs bs_length bs_one bs_get bs_get' bs_append rd_own make_any Row5 putAt putN putN_length own_of_row put4 own_zeros nul make512)
open Cch (Fr wpAnyK wpAnyK_done wp_region_K step_copy_row hd_cell hd_frozen blk_set)
theorem copy_in{w:World}{ops:Array Oper}{rest:List Oper}{o:Oper}{a:Act}{Q:Exit→Act→World→Prop}(hgd:o.guard=none)(d s:Operand)
  (ho:o.op=.call { callee:=.builtin .copy,args:=#[d,s],argTypes:=#[48,48] }) (B g N off:Nat) (ys:List Nat) (hown:w.ownsRow B 5 1 (.slice (some ⟨g,0,none⟩) N N) N (bs ys))
  (dLen dCap:Nat) (hd:a.eval d=.slice (some ⟨g,off,none⟩) dLen dCap) (hdl:off+dLen≤N) (so:Option Addr) (n c:Nat) (xs:List Nat) (hs:a.eval s=.slice so n c) (hr:Rd w so n c xs) (hn:n≤dLen)
  (h:∀ w',w'.ownsRow B 5 1 (.slice (some ⟨g,0,none⟩) N N) N (bs (ys.take off++xs++ys.drop (off+n)))→Below B w w'→wpList Tryz.prog ops Q rest (a.put o.dst (goInt n)) w'):wpList Tryz.prog ops Q (o::rest) a w:=by
 have hly:ys.length=N:=by simpa [bs] using hown.1
 have hlx:=hr.1
 rcases hown.2 with ⟨h',_⟩ | ⟨g',cap',cur,h',hb,hg,hnc,hm,hsz,ht⟩
 ·cases h'
 simp only [Value.slice.injEq,Option.some.injEq,Addr.mk.injEq,and_true,true_and]at h'
 obtain ⟨rfl,rfl⟩:=h'
 have hcur:cur.toList=bs ys:=by
  rw [←ht]
  exact (List.take_of_length_le (by simp [hsz])).symm
 have hg':w.heap[g]? = some (.cells (bs ys).toArray 5 (0,0)):=by rw [hg,←hcur]
 have hbl:(bs xs).length=n:=by simp [bs,hlx]
 refine wpList_copy_splice hgd d s 48 48 ho 5 Tryz.underlying48 (by kernel_rfl) _ _ _ _ _ _ hd hs g off (bs ys) 5 hg' (bs xs) (by rw [hbl];exact (Nat.min_eq_left hn).symm) (fun hp=>?_) (by rw [hbl];simp [bs,hly];omega) (bs_one xs) B w (Below.refl _ _) hb ?_
 ·rw [hbl]at hp
  obtain ⟨b,o2,e,hc⟩:=hr.2.2.2 hp
  refine ⟨rfl,_,e,fun j v hv=>?_⟩
  obtain ⟨hj,rfl⟩:=bs_get' xs j v hv
  rw [Addr.add_lit]
  exact hc j (by omega)
 ·intro w' hg2 hb2
  rw [hbl]
  refine h w' ?_ hb2
  have hsp:splice (bs ys) off (bs xs)=bs (ys.take off++xs++ys.drop (off+n)):=by
   unfold splice
   rw [hbl,bs_append,bs_append]
   simp [bs]
  refine own_of_row hb (hsp▸hg2.out) ?_ (by unfold maxLen at hm;omega) ?_ ?_ (Nat.le_refl _)
  ·simp [bs];omega
  ·exact List.take_of_length_le (by simp [bs];omega)
  ·simp;omega
def linkB(nx:Nat)(xs:List Nat):List Nat:=putN nx 4 false++xs++List.replicate (508 - xs.length) 0
theorem putN4_bytes(nx:Nat):∀ x∈putN nx 4 false,x<256:=Jrn.putN_bytes nx 4 false
theorem linkB_bytes(nx:Nat)(xs:List Nat)(hx:∀ x∈xs,x<256):∀ x∈linkB nx xs,x<256:=by
 intro x h
 simp only [linkB,List.mem_append]at h
 rcases h with (h |h) |h
 ·exact putN4_bytes nx x h
 ·exact hx x h
 ·rw [(List.mem_replicate.1 h).2];omega
theorem copy_two(nx:Nat)(xs:List Nat)(h:xs.length≤508) :
  (((List.replicate 512 0).take 0++putN nx 4 false++(List.replicate 512 0).drop (0+4)).take 4++xs++((List.replicate 512 0).take 0++putN nx 4 false++(List.replicate 512 0).drop (0+4)).drop (4+xs.length))=linkB nx xs:=by
 have hp:(putN nx 4 false).length=4:=putN_length nx 4 false
 have e1:((List.replicate 512 0).take 0++putN nx 4 false++(List.replicate 512 0).drop (0+4))=putN nx 4 false++List.replicate 508 0:=by rw [List.take_zero,List.nil_append,Nat.zero_add,List.drop_replicate]
 rw [e1,List.take_left' hp,List.drop_append,hp,show 4+xs.length - 4=xs.length by omega,List.drop_eq_nil_of_le (by omega),List.nil_append,List.drop_replicate]
 rfl
theorem pageBytes_any(pg:Int)(nx b o m mc:Nat)(xs:List Nat)(w:World)(h:Rd w (some ⟨b,o,none⟩) m mc xs)(hm:m≤508)(hnx:nx<4294967296) :
  Calls Tryz.prog 231 #[.agg #[.int .i64 pg,.int .i64 (nx:Int),.slice (some ⟨b,o,none⟩) m mc]] w fun e w'=>∃ g,e=.returned (.slice (some ⟨g,0,none⟩) 512 512)∧Row5 w' w.heap.size g 512 (linkB nx xs)∧Below w.heap.size w w':=by
 obtain ⟨NN,hNN⟩:∃ NN,NN=Array.replicate 512 (Value.int .u8 0):=⟨_,rfl⟩
 have mk:∀ W,(Instr.makeSlice 48 (.int .i64 512) (.int .i64 512)).run Tryz.prog W=.ok (.slice (some ⟨W.heap.size,0,none⟩) 512 512) (W.alloc (.cells NN 5)):=fun W=>by rw [hNN];exact make512 W
 obtain ⟨w0,hw0⟩:∃ w0,w0=w.alloc (.cells #[.int .i64 pg,.int .i64 (nx:Int),.slice (some ⟨b,o,none⟩) m mc] 244):=⟨_,rfl⟩
 obtain ⟨w1,hw1⟩:∃ w1,w1=w0.alloc (.cells NN 5):=⟨_,rfl⟩
 have c1:w0.cell? ⟨w.heap.size,1,none⟩=some (.int .i64 (nx:Int)):=by rw [hw0,World.cell?_alloc_new];rfl
 have c2:w0.cell? ⟨w.heap.size,2,none⟩=some (.slice (some ⟨b,o,none⟩) m mc):=by rw [hw0,World.cell?_alloc_new];rfl
 have B0:Below w.heap.size w w0:=by rw [hw0];exact Below.alloc (Below.refl _ _) (Nat.le_refl _) _
 have B1:Below w0.heap.size w0 w1:=by rw [hw1];exact Below.alloc (Below.refl _ _) (Nat.le_refl _) _
 have R1:w1.ownsRow w0.heap.size 5 1 (.slice (some ⟨w0.heap.size,0,none⟩) 512 512) 512 (bs (List.replicate 512 0)):=by rw [hw1,hNN];exact own_zeros w0 512 (by omega)
 have D1:=hid (keep_old B1 c1);have D2:=hid (keep_old B1 c2);have BB:=hid (gt B0 B1);have HR:=hid R1;have H:=hid h
 have HW0:=hid hw0;have HW1:=hid hw1
 have HS:=hid (show w.heap.size<w0.heap.size by rw [hw0];simp)
 have hl:=h.1
 have HL:=hid hl
 clear c1 c2 B0 B1 R1 hNN hw0 hw1 h
 have hsz:w0.heap.size=w.heap.size+1:=by rw [HW0.out];simp
 have k1:=hid (fun W=>cut_less w0.heap.size 0 512 512 4 (by omega) (by omega) (by omega) W)
 rw [show ((4:Nat):Int)=4 from rfl]at k1
 simp only [Nat.zero_add,Nat.reduceSub]at k1
 have hwr:IntKind.u64.wrap (nx:Int)=(nx:Int):=by rw [IntKind.wrap_u64];omega
 go_enter Tryz.func231,Tryz.ntmps231
 go_upto_region 2 with fail
 rw [←HW0.out,←HW1.out]
 clear HW0 HW1 mk
 rw [←hsz]
 clear hsz
 generalize w0.heap.size=g at *
 have d1:=D1.out;have d2:=D2.out
 go_wp2_with (first
  | (go_at_call 160;refine (k1.out _).mono ?_;rintro e w2 ⟨rfl,hb2⟩;have B2:=hid hb2;have d12:=keep_old hb2 d1;have d22:=keep_old hb2 d2;clear hb2 d1 d2)
  | (go_at_call 226;refine (put4 none 0 0 4 [] nx _ (Jrn.Rd.nil _) (by omega) rfl).mono ?_;rintro e w3 ⟨g3,rfl,hg3,hr3,hb3⟩;have B3:=hid hb3;have R3:=hid hr3;have d23:=keep_old hb3 d22;clear hb3 hr3 d12 d22)
  | ((with_reducible refine Cch.here_op 17 ?_);refine copy_in rfl (.tmp 12) (.tmp 16) rfl g g 512 0 (List.replicate 512 0) (Row5.fr (E:=fun _=>False) HR.out (Fr.of_below (gt B2.out B3.out)) (fun h=>h)) 4 4 rfl (by omega) _ 4 4 _ rfl R3.out (by omega) ?_;intro w4 ho4 hb4;have O4:=hid ho4;have B4:=hid (show Below w.heap.size w w4 from (gt (gt BB.out B2.out) B3.out).trans (hb4.mono (by have:=HS.out;omega)));have d24:=keep_cell hb4 d23 HS.out;clear ho4 hb4 d23)
  | ((with_reducible refine Cch.here_op 21 ?_);refine copy_in rfl (.tmp 18) (.tmp 20) rfl g g 512 4 _ O4.out 508 508 rfl (by omega) _ m mc xs rfl (H.out.keep B4.out) hm ?_;intro w5 ho5 hb5;have O5:=hid ho5;have B5:=hid (show Below w.heap.size w w5 from B4.out.trans (hb5.mono (by have:=HS.out;omega)));clear ho5 hb5))
 go_ret
 refine ⟨g,rfl,?_,B5.out⟩
 have h5:=O5.out
 rw [List.nil_append,←HL.out,copy_two nx xs (by rw [HL.out];exact hm)]at h5
 exact Row5.base h5 (by have:=HS.out;omega)
end Spl
namespace Jrn
open Go.RowKit
open Cch (Fr)
def rowC(P:Value)(f s c:Int):List Value:=[.func (.func 153) #[P] #[],.func (.func 154) #[P] #[],.int .i64 f,.int .i64 s,.int .i64 c]
def rowV(P:Value)(f s c:Int):Value:=.agg (rowC P f s c).toArray
def RowB(W:World)(q:Nat)(P:Value)(f s c:Int):Prop:=W.heap[q]? = some (.cells (rowC P f s c).toArray 176 (0,0))
variable {f s c:Int} {P:Value} {q:Nat} {W:World}
theorem RowB.cells(h:RowB W q P f s c):W.cell? ⟨q,0,none⟩=some (.func (.func 153) #[P] #[])∧W.cell? ⟨q,1,none⟩=some (.func (.func 154) #[P] #[])∧W.cell? ⟨q,2,none⟩=some (.int .i64 f)∧W.cell? ⟨q,3,none⟩=some (.int .i64 s)∧W.cell? ⟨q,4,none⟩=some (.int .i64 c):=by
 unfold RowB rowC at h
 simp [World.cell?,h]
theorem load_row(h:RowB W q P f s c) :
  (loadVar 176 ⟨q,0,none⟩).run Tryz.prog W=.ok (rowV P f s c) W:=by
 have hs:∀ W,(Go.sizeOf 176).run Tryz.prog W=.ok 5 W:=fun W=>by kernel_rfl
 have ha:∀ W,(isAgg 176).run Tryz.prog W=.ok true W:=fun W=>by kernel_rfl
 have hl:=run_loadCells_list (P:=Tryz.prog) W ⟨q,0,none⟩ (rowC P f s c) (by
  intro j v hj
  obtain ⟨h0,h1,h2,h3,h4⟩:=h.cells
  unfold rowC at hj
  match j,hj with
  | 0,hj=>simp at hj;subst hj;simpa [Addr.add] using h0
  | 1,hj=>simp at hj;subst hj;simpa [Addr.add] using h1
  | 2,hj=>simp at hj;subst hj;simpa [Addr.add] using h2
  | 3,hj=>simp at hj;subst hj;simpa [Addr.add] using h3
  | 4,hj=>simp at hj;subst hj;simpa [Addr.add] using h4
  | j+5,hj=>simp at hj)
 have e:(rowC P f s c).length=5:=rfl
 rw [e]at hl
 simp [loadVar,ha,hs,hl,rowV]
theorem ret_row{fn:Func}{a:Tmp}(h:fn.results = #[.cell a 176]){tmps:Array Value}{W:World}{q:Nat}{P:Value}{f s c:Int}
  (hp:tmps.getD a undef=.pointer (some ⟨q,0,none⟩)) (hb:RowB W q P f s c):(results fn tmps).run Tryz.prog W=.ok (rowV P f s c) W:=by
 rw [results_cell1 h,hp]
 simp [asAddr,load_row hb]
theorem leaves_any(num:Int)(g cap:Nat)(w:World) :
  Calls Tryz.prog 99 #[Pv2 num g 0 cap] w fun e w'=>e=.returned (rowV (Pv2 num g 0 cap) 8 4 126)∧Below w.heap.size w w':=by
 have t:True:=trivial
 obtain ⟨V,hV⟩:∃ V,V=rowV (Pv2 num g 0 cap) 8 4 126:=⟨_,rfl⟩
 rw [←hV]
 unfold Pv2
 go_enter Tryz.func99,Tryz.ntmps99
 go_wp2
 refine bodyPost_ret (ret_row rfl rfl (P:=Pv2 num g 0 cap) (f:=8) (s:=4) (c:=126) (q:=w.heap.size+1) (by have:=heap_alloc_new (w.alloc (.cells #[.int .i64 num,.slice (some ⟨g,0,none⟩) 512 cap] 170)) (.cells (rowC (Pv2 num g 0 cap) 8 4 126).toArray 176);have e:(w.alloc (.cells #[.int .i64 num,.slice (some ⟨g,0,none⟩) 512 cap] 170)).heap.size=w.heap.size+1:=(by simp);rw [e]at this;exact this)) rfl ?_
 exact ⟨by rw [hV],Below.alloc (Below.alloc (Below.refl _ _) (Nat.le_refl _) _) (by simp) _⟩
theorem rget_yes(num:Int)(g cap:Nat)(xs:List Nat)(f s c i:Nat)(w:World)(h:Rd w (some ⟨g,0,none⟩) 512 cap xs)(hx:∀ x∈xs,x<256)(h1:1≤s)(h8:s≤8)(hi:i<c)(hc:f+c*s≤512) :
  Calls Tryz.prog 101 #[rowV (Pv2 num g 0 cap) f s c,.int .i64 (i:Int)] w fun e w'=>e=.returned (.tuple #[.int .i64 (wrap64 (numAt xs (f+i*s) s:Int)),.int .i64 0])∧Below w.heap.size w w':=by
 have hm:(i+1)*s≤c*s:=Nat.mul_le_mul_right s hi
 have hm2:(i+1)*s=i*s+s:=by rw [Nat.add_mul,Nat.one_mul]
 have hm3:((i*s:Nat):Int)=(i:Int)*(s:Int):=by simp
 have HB:=hid (show Below w.heap.size w (w.alloc (.cells (rowC (Pv2 num g 0 cap) f s c).toArray 176)) from Below.alloc (Below.refl _ _) (Nat.le_refl _) _)
 have C:=hid (tell_any num g 0 cap xs (f+i*s) s _ (h.keep HB.out) hx h1 h8 (by omega))
 obtain ⟨A,hA⟩:∃ A,A=f+i*s:=⟨_,rfl⟩
 have e1:(f:Int)+(i:Int)*(s:Int)=(A:Int):=by rw [←hm3];omega
 have e2:IntKind.i64.wrap ((i:Int)*(s:Int))=(i:Int)*(s:Int):=IntWalk.i64_in _ ⟨by omega,by omega⟩
 have e3:IntKind.i64.wrap (A:Int)=(A:Int):=IntWalk.i64_in _ ⟨by omega,by omega⟩
 rw [←hA]at C ⊢
 clear hA
 have i0:¬(i:Int)<0:=by omega
 have i1:¬(c:Int)≤(i:Int):=by omega
 generalize Pv2 num g 0 cap=P at *
 generalize wrap64 (numAt xs A s:Int)=R at *
 clear h hx hm hm2 hm3 hc
 unfold rowV rowC
 unfold rowC at C HB
 go_enter Tryz.func101,Tryz.ntmps101
 go_wp2_with (go_at_call 153;refine C.out.mono ?_;rintro e w1 ⟨rfl,hb1⟩;have B1:=hid hb1;clear hb1)
 go_ret2
 exact ⟨rfl,gt HB.out B1.out⟩
end Jrn
namespace Jrn
open Go.RowKit
open Cch (Fr)
theorem rset_yes(num:Int)(B g cap:Nat)(xs:List Nat)(f s c i v:Nat)(n:Int)(w:World)(h:Row5 w B g cap xs)(h1:1≤s)(h8:s≤8)(hi:i<c)(hc:f+c*s≤512)(hn:IntKind.u64.wrap n=(v:Int)) :
  Calls Tryz.prog 198 #[rowV (Pv2 num g 0 cap) f s c,.int .i64 (i:Int),.int .i64 n] w fun e w'=>e=.returned (.int .i64 0)∧Row5 w' B g cap (putAt xs (f+i*s) (putN v s false))∧Fr (fun k=>k=g) w w':=by
 have hm:(i+1)*s≤c*s:=Nat.mul_le_mul_right s hi
 have hm2:(i+1)*s=i*s+s:=by rw [Nat.add_mul,Nat.one_mul]
 have hm3:((i*s:Nat):Int)=(i:Int)*(s:Int):=by simp
 have HB:=hid (show Below w.heap.size w (w.alloc (.cells (rowC (Pv2 num g 0 cap) f s c).toArray 176)) from Below.alloc (Below.refl _ _) (Nat.le_refl _) _)
 have C:=hid (write_any num B g cap xs (f+i*s) s v n _ (h.fr (E:=fun _=>False) (Fr.of_below HB.out) (fun h=>h)) h1 h8 (by omega) hn)
 obtain ⟨A,hA⟩:∃ A,A=f+i*s:=⟨_,rfl⟩
 have e1:(f:Int)+(i:Int)*(s:Int)=(A:Int):=by rw [←hm3];omega
 have e2:IntKind.i64.wrap ((i:Int)*(s:Int))=(i:Int)*(s:Int):=IntWalk.i64_in _ ⟨by omega,by omega⟩
 have e3:IntKind.i64.wrap (A:Int)=(A:Int):=IntWalk.i64_in _ ⟨by omega,by omega⟩
 rw [←hA]at C ⊢
 clear hA
 have i0:¬(i:Int)<0:=by omega
 have i1:¬(c:Int)≤(i:Int):=by omega
 generalize Pv2 num g 0 cap=P at *
 clear h hm hm2 hm3 hc hn
 unfold rowV rowC
 unfold rowC at C HB
 go_enter Tryz.func198,Tryz.ntmps198
 go_wp2_with (go_at_call 154;refine C.out.mono ?_;rintro e w1 ⟨rfl,hr1,hf1⟩;have R1:=hid hr1;have F1:=hid hf1;clear hr1 hf1)
 go_ret
 exact ⟨rfl,R1.out,fr_row HB.out F1.out⟩
theorem below_fr{w w':World}(h:Fr (fun k=>w.heap.size≤k) w w'):Below w.heap.size w w':=⟨h.os,h.tape,h.output,h.size,fun k hk=>h.blk k hk (by omega)⟩
theorem fr_two(W:World)(q:Nat)(a b:Value):Fr (fun k=>k=q) W ((W.setCell ⟨q,0,none⟩ a).setCell ⟨q,1,none⟩ b):=⟨rfl,rfl,rfl,by simp,fun k _ hk=>(heap_setCell_other _ _ _ _ hk).trans (heap_setCell_other _ _ _ _ hk)⟩
theorem RB.fr{E:Nat→Prop}{t:TypeId}{W W':World}{q:Nat}{p:Int}{ao:Option Addr}{n cap:Nat}(h:RB t W q p ao n cap)(hf:Fr E W W')(hE:¬E q):RB t W' q p ao n cap:=(hf.blk q h.lt hE).trans h
theorem newTrunk_any(n:Int)(x:Nat)(w:World)(hx:x≤9223372036854775807) :
  Calls Tryz.prog 155 #[.int .i64 n,.int .i64 (x:Int)] w fun e w'=>∃ g,e=.returned (Pv2 n g 0 512)∧w.heap.size≤g∧Row5 w' w.heap.size g 512 (putAt nul 0 (putN x 4 false))∧Below w.heap.size w w':=by
 have HB:=hid (show Below w.heap.size w (w.alloc (.cells #[.int .i64 0,.slice none 0 0] 170)) from Below.alloc (Below.refl _ _) (Nat.le_refl _) _)
 have C1:=hid (blank_any n (w.alloc (.cells #[.int .i64 0,.slice none 0 0] 170)))
 have C2:=hid (fun w1 g B (h1:Row5 w1 B g 512 nul)=>write_any n B g 512 nul 0 4 x (x:Int) w1 h1 (by omega) (by omega) (by omega) (by rw [IntKind.wrap_u64];omega))
 have HX:=hid (RB.new 170 w 0 none 0 0)
 clear hx
 unfold Pv2 at *
 go_enter Tryz.func155,Tryz.ntmps155
 go_wp2_with (first
  | (go_at_call 142;refine C1.out.mono ?_;rintro e w1 ⟨g,rfl,hg,hr1,hb1⟩;have R1:=hid hr1;have B1:=hid hb1;have HG:=hid hg;have HX1:=hid (HX.out.keep hb1);clear hr1 hb1 hg)
  | (go_at_call 154;refine (C2.out _ g _ (R1.out.fr (E:=fun _=>False) (Fr.of_below (Below.alloc (Below.refl _ _) (Nat.le_refl _) _)) (fun h=>h))).mono ?_;rintro e w2 ⟨rfl,hr2,hf2⟩;have R2:=hid hr2;have F2:=hid hf2;have HL:=hid R1.out.lt;have Y5:=hid ((RB.new 170 w1 n (some ⟨g,0,none⟩) 512 512).fr hf2 (fun e=>by have:=HL.out;omega));have Y4:=hid ((HX1.out.keep (Below.alloc (Below.refl _ _) (Nat.le_refl _) _)).fr hf2 (fun e=>by have:=HG.out;simp at this;omega));obtain ⟨y0,y1,y2,y3⟩:=Y5.out.cells;obtain ⟨z0,z1,z2,z3⟩:=Y4.out.cells;have HLL:=hid Y5.out.lt;have hne:¬w1.heap.size=w.heap.size:=(by have h:=B1.out.size;simp at h;omega);clear hr2 hf2))
 refine bodyPost_ret (ret_pg rfl (by intro W;kernel_rfl) (by intro W;kernel_rfl) rfl (RB.set Y4.out _ _ _ _)) rfl ?_
 have hz:w.heap.size+1≤g:=by have:=HG.out;simpa using this
 refine ⟨g,rfl,by omega,?_,below_fr ?_⟩
 ·exact (R2.out.fr (fr_two _ _ _ _) (by omega)).base (by simp)
 ·refine (Fr.of_below (gt HB.out B1.out)).trans ?_ (T:=fun k=>w.heap.size≤k) (fun j hj hk=>hk)
  refine (Fr.of_below (Below.alloc (Below.refl _ _) (Nat.le_refl _) (.cells #[.int .i64 n,.slice (some ⟨g,0,none⟩) 512 512] 170))).trans ?_ (T:=fun k=>w.heap.size≤k) (fun j hj hk=>hk)
  exact (⟨F2.out.os,F2.out.tape,F2.out.output,F2.out.size,fun k hk hn=>F2.out.blk k hk (by omega)⟩:Fr (fun k=>w.heap.size≤k) _ w2).trans (fr_two w2 w.heap.size _ _) (fun j hj hk=>by omega)
end Jrn
namespace Jrn
open Go.RowKit
def wsN(s:Nat)(l:List Nat):List Nat:=l.flatMap fun v=>putN v s false
theorem wsN_length(s:Nat)(l:List Nat):(wsN s l).length=l.length*s:=by
 induction l with
 | nil=>simp [wsN]
 | cons a l ih=>simp only [wsN,List.flatMap_cons,List.length_append,putN_length,List.length_cons]at ih ⊢;rw [ih,Nat.add_mul];omega
theorem wsN_append(s:Nat)(l m:List Nat):wsN s (l++m)=wsN s l++wsN s m:=by simp [wsN]
theorem wsN_one(s v:Nat):wsN s [v]=putN v s false:=by simp [wsN]
theorem wsN_bytes(s:Nat)(l:List Nat):∀ x∈wsN s l,x<256:=by
 intro x h
 simp only [wsN,List.mem_flatMap]at h
 obtain ⟨v,_,h⟩:=h
 exact putN_bytes v s false x h
theorem numAt_app4(a b:List Nat)(v i:Nat)(hi:a.length=i)(hv:v<4294967296):numAt (a++(putN v 4 false++b)) i 4=v:=by
 unfold numAt
 rw [List.drop_left' hi,psum_put4 v hv b]
theorem putAt_app(a m b y:List Nat)(i:Nat)(hi:a.length=i)(hm:m.length=y.length):putAt (a++(m++b)) i y=a++(y++b):=by
 unfold putAt
 rw [List.take_left' hi,List.append_assoc,←List.drop_drop,List.drop_left' hi,List.drop_left' hm]
variable {i:Nat} {l:List Nat}
theorem split_at(hi:i<l.length):l=l.take i++(l.getD i 0::l.drop (i+1)):=by
 conv=>lhs;rw [←List.take_append_drop i l]
 congr 1
 rw [drop_getD l i hi]
theorem wsN_split(s:Nat)(hi:i<l.length):wsN s l=wsN s (l.take i)++(putN (l.getD i 0) s false++wsN s (l.drop (i+1))):=by
 conv=>lhs;rw [split_at hi]
 rw [wsN_append]
 simp [wsN]
def trunkN(nx:Nat)(ls:List Nat):List Nat:=putN nx 4 false++(putN ls.length 4 false++(wsN 4 ls++List.replicate (504 - ls.length*4) 0))
def nameN:List Nat:=[104,97,99,104,117,114,101,49]
def rootN(f c:Nat)(ws:List Nat):List Nat:=nameN++(putN f 4 false++(putN c 4 false++(wsN 8 ws++List.replicate 16 0)))
theorem rootN_length(f c:Nat)(ws:List Nat)(h:ws.length=60):(rootN f c ws).length=512:=by
 simp [rootN,putN_length,wsN_length,nameN,h]
theorem trunkN_bytes(nx:Nat)(ls:List Nat):∀ x∈trunkN nx ls,x<256:=app_bytes (putN_bytes _ _ _) (app_bytes (putN_bytes _ _ _) (app_bytes (wsN_bytes _ _) (zero_bytes _)))
theorem rootN_bytes(f c:Nat)(ws:List Nat):∀ x∈rootN f c ws,x<256:=app_bytes (by decide) (app_bytes (putN_bytes _ _ _) (app_bytes (putN_bytes _ _ _) (app_bytes (wsN_bytes _ _) (zero_bytes _))))
theorem trunk_next(nx:Nat)(ls:List Nat)(h:nx<4294967296):numAt (trunkN nx ls) 0 4=nx:=numAt_app4 [] _ nx 0 rfl h
theorem trunk_size(nx:Nat)(ls:List Nat)(h:ls.length<4294967296):numAt (trunkN nx ls) 4 4=ls.length:=numAt_app4 (putN nx 4 false) _ _ 4 (putN_length _ _ _) h
theorem trunk_leaf(nx:Nat)(ls:List Nat)(i:Nat)(hi:i<ls.length)(h:ls.getD i 0<4294967296):numAt (trunkN nx ls) (8+i*4) 4=ls.getD i 0:=by
 have e:trunkN nx ls=(putN nx 4 false++(putN ls.length 4 false++wsN 4 (ls.take i)))++(putN (ls.getD i 0) 4 false++(wsN 4 (ls.drop (i+1))++List.replicate (504 - ls.length*4) 0)):=by
  rw [trunkN,wsN_split 4 hi];simp only [List.append_assoc]
 rw [e]
 exact numAt_app4 _ _ _ _ (by simp [putN_length,wsN_length];omega) h
theorem root_first(f c:Nat)(ws:List Nat)(h:f<4294967296):numAt (rootN f c ws) 8 4=f:=numAt_app4 nameN _ f 8 rfl h
theorem root_count(f c:Nat)(ws:List Nat)(h:c<4294967296):numAt (rootN f c ws) 12 4=c:=by
 have e:rootN f c ws=(nameN++putN f 4 false)++(putN c 4 false++(wsN 8 ws++List.replicate 16 0)):=by rw [rootN,List.append_assoc]
 rw [e]
 exact numAt_app4 _ _ _ _ (by simp [putN_length,nameN]) h
theorem root_lead(f c f' c':Nat)(ws:List Nat):putAt (putAt (rootN f c ws) 8 (putN f' 4 false)) 12 (putN c' 4 false)=rootN f' c' ws:=by
 rw [rootN,putAt_app nameN _ _ _ 8 rfl (by simp [putN_length]),←List.append_assoc nameN,putAt_app _ _ _ _ 12 (by simp [putN_length,nameN]) (by simp [putN_length]),List.append_assoc]
 rfl
theorem trunk_put0(x:Nat):putAt (List.replicate 512 0) 0 (putN x 4 false)=trunkN x []:=by
 have e:List.replicate 512 0=([]:List Nat)++(List.replicate 4 0++List.replicate 508 0):=by rw [List.replicate_append_replicate];rfl
 rw [e,putAt_app [] _ _ _ 0 rfl (by simp [putN_length])]
 rfl
theorem trunk_add(nx:Nat)(ls:List Nat)(v:Nat)(h:ls.length<126):putAt (putAt (trunkN nx ls) (8+ls.length*4) (putN v 4 false)) 4 (putN (ls.length+1) 4 false)=trunkN nx (ls++[v]):=by
 have e0:List.replicate (504 - ls.length*4) 0=List.replicate 4 0++List.replicate (504 - (ls++[v]).length*4) 0:=by
  rw [List.replicate_append_replicate];congr 1;simp;omega
 have e:trunkN nx ls=(putN nx 4 false++(putN ls.length 4 false++wsN 4 ls))++(List.replicate 4 0++List.replicate (504 - (ls++[v]).length*4) 0):=by
  rw [trunkN,e0];simp only [List.append_assoc]
 rw [e,putAt_app _ _ _ _ _ (by simp [putN_length,wsN_length];omega) (by simp [putN_length])]
 simp only [List.append_assoc]
 rw [putAt_app (putN nx 4 false) _ _ _ 4 (putN_length _ _ _) (by simp [putN_length]),trunkN,wsN_append,wsN_one]
 simp only [List.append_assoc,List.length_append,List.length_cons,List.length_nil]
theorem trunk_drop(nx:Nat)(ls:List Nat)(v:Nat)(h:ls.length<126):putAt (putAt (trunkN nx (ls++[v])) (8+ls.length*4) (putN 0 4 false)) 4 (putN ls.length 4 false)=trunkN nx ls:=by
 have e0:List.replicate (504 - ls.length*4) 0=putN 0 4 false++List.replicate (504 - (ls++[v]).length*4) 0:=by
  rw [show putN 0 4 false=List.replicate 4 0 by decide,List.replicate_append_replicate];congr 1;simp;omega
 have e:trunkN nx (ls++[v])=(putN nx 4 false++(putN (ls++[v]).length 4 false++wsN 4 ls))++(putN v 4 false++List.replicate (504 - (ls++[v]).length*4) 0):=by
  rw [trunkN,wsN_append,wsN_one];simp only [List.append_assoc]
 rw [e,putAt_app _ _ _ _ _ (by simp [putN_length,wsN_length];omega) (by simp [putN_length])]
 simp only [List.append_assoc]
 rw [putAt_app (putN nx 4 false) _ _ _ 4 (putN_length _ _ _) (by simp [putN_length]),trunkN,e0]
end Jrn
namespace Jrn
open Go.RowKit
open Cch (Fr)
theorem Row5.keep{w w':World}{B g cap:Nat}{xs:List Nat}(h:Row5 w B g cap xs)(hb:Below w.heap.size w w'):Row5 w' B g cap xs:=h.fr (E:=fun _=>False) (Fr.of_below hb) (fun h=>h)
theorem tadd_any(num:Int)(B g cap nx v:Nat)(ls:List Nat)(w:World)(h:Row5 w B g cap (trunkN nx ls))(hl:ls.length<126)(hv:v≤9223372036854775807) :
  Calls Tryz.prog 156 #[Pv2 num g 0 cap,.int .i64 (v:Int)] w fun e w'=>e=.returned (.tuple #[])∧Row5 w' B g cap (trunkN nx (ls++[v]))∧Fr (fun k=>k=g) w w':=by
 have HB:=hid (show Below w.heap.size w (w.alloc (.cells #[.int .i64 num,.slice (some ⟨g,0,none⟩) 512 cap] 170)) from Below.alloc (Below.refl _ _) (Nat.le_refl _) _)
 have H0:=hid (h.keep HB.out)
 have HX:=hid (RB.new 170 w num (some ⟨g,0,none⟩) 512 cap)
 have CS:=hid (size_any num g 0 cap (trunkN nx ls) _ H0.out.rd (trunkN_bytes _ _))
 rw [trunk_size nx ls (by omega)]at CS
 have CL:=hid (fun W=>leaves_any num g cap W)
 have CT:=hid (fun W (hW:Row5 W B g cap (trunkN nx ls))=>rset_yes num B g cap (trunkN nx ls) 8 4 126 ls.length v (v:Int) W hW (by omega) (by omega) hl (by omega) (by rw [IntKind.wrap_u64];omega))
 have CW:=hid (fun W (hW:Row5 W B g cap (putAt (trunkN nx ls) (8+ls.length*4) (putN v 4 false)))=>write_any num B g cap _ 4 4 (ls.length+1) ((ls.length+1:Nat):Int) W hW (by omega) (by omega) (by omega) (by rw [IntKind.wrap_u64];omega))
 have hT:=trunk_add nx ls v hl
 have HT:=hid hT
 have HG:=hid h.lt
 have e1:(ls.length:Int)+1=((ls.length+1:Nat):Int):=by omega
 have e2:IntKind.i64.wrap (((ls.length+1:Nat):Int))=((ls.length+1:Nat):Int):=IntWalk.i64_in _ ⟨by omega,by omega⟩
 obtain ⟨V,hV⟩:∃ V,V=rowV (Pv2 num g 0 cap) 8 4 126:=⟨_,rfl⟩
 obtain ⟨V2,hV2⟩:∃ V2,V2=rowV (Pv2 num g 0 cap) ((8:Nat):Int) ((4:Nat):Int) ((126:Nat):Int):=⟨_,rfl⟩
 have hVV:V2=V:=by rw [hV,hV2];rfl
 rw [←hV]at CL;rw [←hV2,hVV]at CT
 clear h hT hV hV2 hVV
 generalize ls.length+1=M at *
 generalize ls.length=L at *
 unfold Pv2 at *
 go_enter Tryz.func156,Tryz.ntmps156
 go_wp2_with (first
  | (go_at_call 100;refine CS.out.mono ?_;rintro e w1 ⟨rfl,hb1⟩;have B1:=hid (gt HB.out hb1);have R1:=hid (H0.out.keep hb1);obtain ⟨x0,x1,x2,x3⟩:=(HX.out.keep hb1).cells;have X1:=hid (HX.out.keep hb1);clear hb1)
  | (go_at_call 99;refine (CL.out w1).mono ?_;rintro e w2 ⟨rfl,hb2⟩;have B2:=hid (gt B1.out hb2);have R2:=hid (R1.out.keep hb2);have X2:=hid (X1.out.keep hb2);clear hb2 x0 x1 x2 x3)
  | (go_at_call 198;refine (CT.out w2 R2.out).mono ?_;rintro e w3 ⟨rfl,hr3,hf3⟩;have R3:=hid hr3;have F3:=hid hf3;obtain ⟨x0,x1,x2,x3⟩:=(X2.out.fr hf3 (fun e=>by have:=HG.out;omega)).cells;clear hr3 hf3)
  | (go_at_call 154;refine (CW.out w3 R3.out).mono ?_;rintro e w4 ⟨rfl,hr4,hf4⟩;have R4:=hid hr4;have F4:=hid hf4;clear hr4 hf4))
 go_end0
 exact ⟨rfl,by rw [←HT.out];exact R4.out,fr_row B2.out (F3.out.trans F4.out (fun _ _ h=>h))⟩
end Jrn
namespace Jrn
open Go.RowKit
open Cch (Fr step_copy_row)
theorem tdrop_any(num:Int)(B g cap nx v:Nat)(ls:List Nat)(w:World)(h:Row5 w B g cap (trunkN nx (ls++[v])))(hl:ls.length<126)(hv:v<4294967296) :
  Calls Tryz.prog 143 #[Pv2 num g 0 cap] w fun e w'=>e=.returned (.int .i64 (v:Int))∧Row5 w' B g cap (trunkN nx ls)∧Fr (fun k=>k=g) w w':=by
 have HB:=hid (show Below w.heap.size w (w.alloc (.cells #[.int .i64 num,.slice (some ⟨g,0,none⟩) 512 cap] 170)) from Below.alloc (Below.refl _ _) (Nat.le_refl _) _)
 have H0:=hid (h.keep HB.out)
 have HX:=hid (RB.new 170 w num (some ⟨g,0,none⟩) 512 cap)
 have CS:=hid (size_any num g 0 cap _ _ H0.out.rd (trunkN_bytes _ _))
 rw [trunk_size nx _ (by simp;omega),show (ls++[v]).length=ls.length+1 by simp]at CS
 have CL:=hid (fun W=>leaves_any num g cap W)
 have hgv:numAt (trunkN nx (ls++[v])) (8+ls.length*4) 4=v:=by
  have:=trunk_leaf nx (ls++[v]) ls.length (by simp) (by simpa [List.getD] using hv)
  rw [this];simp [List.getD]
 have CG:=hid (fun W (hW:Row5 W B g cap (trunkN nx (ls++[v])))=>rget_yes num g cap _ 8 4 126 ls.length W hW.rd (trunkN_bytes _ _) (by omega) (by omega) hl (by omega))
 rw [hgv,wrap_small v (by omega)]at CG
 have CT:=hid (fun W (hW:Row5 W B g cap (trunkN nx (ls++[v])))=>rset_yes num B g cap _ 8 4 126 ls.length 0 0 W hW (by omega) (by omega) hl (by omega) (by rw [IntKind.wrap_u64];rfl))
 have CW:=hid (fun W (hW:Row5 W B g cap (putAt (trunkN nx (ls++[v])) (8+ls.length*4) (putN 0 4 false)))=>write_any num B g cap _ 4 4 ls.length (ls.length:Int) W hW (by omega) (by omega) (by omega) (by rw [IntKind.wrap_u64];omega))
 have HT:=hid (trunk_drop nx ls v hl)
 have HG:=hid h.lt
 have e1:((ls.length+1:Nat):Int) - 1=(ls.length:Int):=by omega
 have e2:IntKind.i64.wrap (ls.length:Int)=(ls.length:Int):=IntWalk.i64_in _ ⟨by omega,by omega⟩
 obtain ⟨V,hV⟩:∃ V,V=rowV (Pv2 num g 0 cap) 8 4 126:=⟨_,rfl⟩
 obtain ⟨V2,hV2⟩:∃ V2,V2=rowV (Pv2 num g 0 cap) ((8:Nat):Int) ((4:Nat):Int) ((126:Nat):Int):=⟨_,rfl⟩
 have hVV:V2=V:=by rw [hV,hV2];rfl
 rw [←hV]at CL;rw [←hV2,hVV]at CT CG
 clear h hV hV2 hVV hgv hv
 generalize ls.length+1=M at *
 generalize ls.length=L at *
 unfold Pv2 at *
 have t0:Hid True:=hid trivial
 go_enter Tryz.func143,Tryz.ntmps143
 go_wp2_with (first
  | (go_at_call 100;refine CS.out.mono ?_;rintro e w1 ⟨rfl,hb1⟩;have B1:=hid (gt HB.out hb1);have R1:=hid (H0.out.keep hb1);obtain ⟨x0,x1,x2,x3⟩:=(HX.out.keep hb1).cells;have X1:=hid (HX.out.keep hb1);clear hb1)
  | (go_at_call 99;clear t0;refine (CL.out w1).mono ?_;rintro e w2 ⟨rfl,hb2⟩;have B2:=hid (gt B1.out hb2);have R2:=hid (R1.out.keep hb2);have X2:=hid (X1.out.keep hb2);clear hb2 x0 x1 x2 x3)
  | (go_at_call 101;refine (CG.out w2 R2.out).mono ?_;rintro e w3 ⟨rfl,hb3⟩;have B3:=hid (gt B2.out hb3);have R3:=hid (R2.out.keep hb3);obtain ⟨x0,x1,x2,x3⟩:=(X2.out.keep hb3).cells;have X3:=hid (X2.out.keep hb3);clear hb3)
  | (go_at_call 99;refine (CL.out w3).mono ?_;rintro e w4 ⟨rfl,hb4⟩;have B4:=hid (gt B3.out hb4);have R4:=hid (R3.out.keep hb4);have X4:=hid (X3.out.keep hb4);clear hb4 x0 x1 x2 x3)
  | (go_at_call 198;refine (CT.out w4 R4.out).mono ?_;rintro e w5 ⟨rfl,hr3,hf3⟩;have R5:=hid hr3;have F5:=hid hf3;obtain ⟨x0,x1,x2,x3⟩:=(X4.out.fr hf3 (fun e=>by have:=HG.out;omega)).cells;clear hr3 hf3)
  | (go_at_call 154;refine (CW.out w5 R5.out).mono ?_;rintro e w6 ⟨rfl,hr4,hf4⟩;have R6:=hid hr4;have F6:=hid hf4;clear hr4 hf4))
 go_ret
 exact ⟨rfl,by rw [←HT.out];exact R6.out,fr_row B4.out (F5.out.trans F6.out (fun _ _ h=>h))⟩
end Jrn
namespace Jrn
open Go.RowKit
open Cch (Fr)
theorem wpList_copy_str{w:World}{ops:Array Oper}{rest:List Oper}{o:Oper}{a:Act}{Q:Exit→Act→World→Prop}(hgd:o.guard=none)(d:Operand)(s:ByteArray)
  (ho:o.op=.call { callee:=.builtin .copy,args:=#[d,.const (.string s)],argTypes:=#[48,9] }) (g dLen dCap:Nat) (hd:a.eval d=.slice (some ⟨g,0,none⟩) dLen dCap)
  (cur:Array Value) (hg:w.heap[g]? = some (.cells cur 5 (0,0))) (hle:s.size≤dLen) (hfit:0+s.size≤cur.size)
  (h:wpList Tryz.prog ops Q rest (a.put o.dst (goInt s.size)) (w.setRow g (cur.toList.take 0++Go.Lib.byteCells s.data.toList++cur.toList.drop (0+s.size)).toArray)):wpList Tryz.prog ops Q (o::rest) a w:=by
 refine wpList_plain hgd fun K hK=>?_
 have hrun:=Go.Lib.run_copy_row_string (P:=Tryz.prog) w 48 9 o.type 5 g 0 dLen dCap s cur 5 Tryz.underlying48 (by kernel_rfl) hg hle hfit
 have he:a.eval (.const (.string s))=.string s:=rfl
 unfold Oper.wp execOp
 simp only [ho,resolve,invoke,builtin,Sem.run_bind,Sem.run_pure,Result.andThen_ok,List.map_toArray,List.map_cons,List.map_nil,hd,he,hrun]
 exact hK _ _ h
theorem root_new:(nameN++List.replicate 504 0)=rootN 0 0 (List.replicate 60 0):=by
 have e1:∀ k,wsN 8 (List.replicate k 0)=List.replicate (k*8) 0:=fun k=>by
  induction k with
  | zero=>rfl
  | succ k ih=>rw [List.replicate_succ,←List.singleton_append,wsN_append,ih,wsN_one,show putN 0 8 false=List.replicate 8 0 by decide,List.replicate_append_replicate];congr 1;omega
 rw [rootN,e1]
 have e2:putN 0 4 false=List.replicate 4 0:=by decide
 rw [e2]
 simp only [List.replicate_append_replicate]
theorem copy_name{W:World}{B g:Nat}(h:Row5 W B g 512 nul):∃ cur:Array Value,W.heap[g]? = some (.cells cur 5 (0,0))∧cur.size=512∧∃ w2,w2=W.setRow g (cur.toList.take 0++Go.Lib.byteCells (ByteArray.mk #[104,97,99,104,117,114,101,49]).data.toList++cur.toList.drop (0+(ByteArray.mk #[104,97,99,104,117,114,101,49]).size)).toArray ∧
  Row5 w2 B g 512 (rootN 0 0 (List.replicate 60 0))∧Fr (fun k=>k=g) W w2:=by
 obtain ⟨hB,cur,hcur,hcs,hcm,hct⟩:=h.parts
 have hlc:cur.toList=bs nul:=by rw [←hct];exact (List.take_of_length_le (by simp [hcs])).symm
 refine ⟨cur,hcur,hcs,_,rfl,?_,⟨rfl,rfl,rfl,by simp,fun k _ hk=>setRow_other _ _ _ _ hk⟩⟩
 have e:(cur.toList.take 0++Go.Lib.byteCells (ByteArray.mk #[104,97,99,104,117,114,101,49]).data.toList++cur.toList.drop (0+(ByteArray.mk #[104,97,99,104,117,114,101,49]).size))=bs (rootN 0 0 (List.replicate 60 0)):=by
  rw [hlc,←root_new,bs_append]
  have e1:Go.Lib.byteCells (ByteArray.mk #[104,97,99,104,117,114,101,49]).data.toList=bs nameN:=rfl
  have e2:(0+(ByteArray.mk #[104,97,99,104,117,114,101,49]).size)=8:=rfl
  rw [e1,e2,List.take_zero,List.nil_append]
  congr 1
 refine Row5.of (cur:=bs (rootN 0 0 (List.replicate 60 0))) hB ?_ (by rw [bs_length,rootN_length _ _ _ (by simp)]) hcm (List.take_of_length_le (by rw [bs_length,rootN_length _ _ _ (by simp)];omega)) (rootN_length _ _ _ (by simp)) (by omega)
 rw [←e]
 exact setRow_heap _ _ _ _ _ _ hcur
theorem newRoot_any(w:World):Calls Tryz.prog 84 #[] w fun e w'=>∃ g,e=.returned (Pv2 1 g 0 512)∧w.heap.size≤g∧Row5 w' w.heap.size g 512 (rootN 0 0 (List.replicate 60 0))∧Below w.heap.size w w':=by
 have HB:=hid (show Below w.heap.size w (w.alloc (.cells #[.int .i64 0,.slice none 0 0] 105)) from Below.alloc (Below.refl _ _) (Nat.le_refl _) _)
 have C1:=hid (blank_any 1 (w.alloc (.cells #[.int .i64 0,.slice none 0 0] 105)))
 have HX:=hid (RB.new 105 w 0 none 0 0)
 unfold Pv2 at *
 go_enter Tryz.func84,Tryz.ntmps84
 go_wp2_with (first
  | (go_at_call 142;refine C1.out.mono ?_;rintro e w1 ⟨g,rfl,hg,hr1,hb1⟩;have R1:=hid hr1;have B1:=hid (gt HB.out hb1);have HG:=hid hg;have HX1:=hid (HX.out.keep hb1);clear hr1 hb1 hg)
  | ((with_reducible refine Cch.here_op 5 ?_);obtain ⟨cur,hcur,hcs,w2,hw2,hr2,hf2⟩:=copy_name (R1.out.keep (Below.alloc (Below.refl _ _) (Nat.le_refl _) (.cells #[.int .i64 1,.slice (some ⟨g,0,none⟩) 512 512] 103)));refine wpList_copy_str rfl (.tmp 4) _ rfl g 512 512 rfl cur hcur (by decide) (by rw [hcs];decide) ?_;rw [←hw2];clear hw2 hcur hcs;have R2:=hid hr2;have F2:=hid hf2;have HL:=hid R1.out.lt;have Y5:=hid ((RB.new 103 w1 1 (some ⟨g,0,none⟩) 512 512).fr hf2 (fun e=>by have:=HL.out;omega));have Y4:=hid ((HX1.out.keep (Below.alloc (Below.refl _ _) (Nat.le_refl _) _)).fr hf2 (fun e=>by have:=HG.out;simp at this;omega));obtain ⟨y0,y1,y2,y3⟩:=Y5.out.cells;obtain ⟨z0,z1,z2,z3⟩:=Y4.out.cells;clear hr2 hf2))
 refine bodyPost_ret (ret_pg rfl (by intro W;kernel_rfl) (by intro W;kernel_rfl) rfl (RB.set Y4.out _ _ _ _)) rfl ?_
 have hz:w.heap.size+1≤g:=by have:=HG.out;simpa using this
 refine ⟨g,rfl,by omega,?_,below_fr ?_⟩
 ·exact (R2.out.fr (fr_two _ _ _ _) (by omega)).base (by simp)
 ·refine (Fr.of_below B1.out).trans ?_ (T:=fun k=>w.heap.size≤k) (fun j hj hk=>hk)
  refine (Fr.of_below (Below.alloc (Below.refl _ _) (Nat.le_refl _) (.cells #[.int .i64 1,.slice (some ⟨g,0,none⟩) 512 512] 103))).trans ?_ (T:=fun k=>w.heap.size≤k) (fun j hj hk=>hk)
  exact (⟨F2.out.os,F2.out.tape,F2.out.output,F2.out.size,fun k hk hn=>F2.out.blk k hk (by omega)⟩:Fr (fun k=>w.heap.size≤k) _ w2).trans (fr_two w2 w.heap.size _ _) (fun j hj hk=>by omega)
end Jrn
end Go.Proofs.YtenajbfeojljdaaGreatDoor
