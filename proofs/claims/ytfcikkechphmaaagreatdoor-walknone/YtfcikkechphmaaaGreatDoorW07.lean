/- What read returns; no statement of the seat is proved here. -/
import Derived.Test.YtfcikkechphmaaaGreatDoorW06
import Derived.Test.YtfcikkechphmaaaGreatDoorW04
set_option maxHeartbeats 16000000
set_option maxRecDepth 20000
namespace Go.Proofs.YtfcikkechphmaaaGreatDoor
namespace Cel
open Go.RowKit
def nrm(a:C):C:=⟨a.k,a.c,a.l,none,0,0,a.x,a.b⟩
def rdC(leaf:Bool)(o:Option (List Nat)):C×Option (List Nat):=if leaf then rdL o else rdA o
def rdCs(leaf:Bool):Nat→Option (List Nat)→List C
 | 0,_=>[]
 | k+1,o=>if (rdC leaf o).2.isSome then (rdC leaf o).1::rdCs leaf k (rdC leaf o).2 else []
def r1(xs:List Nat):Nat×Option (List Nat):=numO 1 (some xs)
def r2(xs:List Nat):Nat×Option (List Nat):=numO 2 (r1 xs).2
def r3(xs:List Nat):Nat×Option (List Nat):=numO 4 (r2 xs).2
def rnL(xs:List Nat):Bool:=(((r1 xs).1 % 256:Nat):Int) == 1
def rnC(xs:List Nat):List C:=rdCs (rnL xs) (r2 xs).1 (r3 xs).2
structure Ck5 (B:Nat) (W:World) (a:C):Prop where
 ok:Cok W a
 t5:0<a.n→∀ b o,a.o=some ⟨b,o,none⟩→T5 W b
 nw:0<a.n→∀ b o,a.o=some ⟨b,o,none⟩→B≤b
variable {a:C} {W:World} {B B':Nat}
theorem Ck5.low(h:Ck5 B W a)(hb:B'≤B):Ck5 B' W a:=⟨h.ok,h.t5,fun hn b o e=>Nat.le_trans hb (h.nw hn b o e)⟩
variable {W':World}
theorem Ck5.five(h:Ck5 B W a)(k:Five W W'):Ck5 B W' a:=⟨{ h.ok with rd:=h.ok.rd.five h.t5 k },fun hn b o e=>(h.t5 hn b o e).five k,h.nw⟩
variable {xs:List Value} {v:Value} {p n:Nat}
theorem own_grown{C:Array Value}{m:Nat×Nat}(h:W.ownsRow B 144 5 v n xs)(hp:W.heap[p]? = some (.cells C 366 m))(hg:W.grownBy W' (some p)):W'.ownsRow B 144 5 v n xs:=by
 refine ⟨h.1,?_⟩
 rcases h.2 with h1 | ⟨g,cap,cur,e,hb,hgg,h2⟩
 ·exact Or.inl h1
 ·refine Or.inr ⟨g,cap,cur,e,hb,?_,h2⟩
  rw [hg.block g (lt_of_block hgg) (by intro e;cases e;rw [hp]at hgg;simp only [Option.some.injEq,Obj.cells.injEq]at hgg;exact absurd hgg.2.1 (by decide))]
  exact hgg
theorem five_own(h:W.ownsRow B 144 5 v n xs)(hg:W.grownBy W' v.ownBlock):Five W W':=by
 intro b C m hx
 rw [hg.block b (lt_of_block hx) ?_]
 ·exact hx
 ·intro hv
  obtain ⟨hl,⟨rfl,rfl⟩ | ⟨g',cap,cur,rfl,hb',hg',rest⟩⟩:=h
  ·simp [Value.ownBlock]at hv
  ·simp [Value.ownBlock]at hv
   subst hv
   rw [hx]at hg'
   simp only [Option.some.injEq,Obj.cells.injEq]at hg'
   exact absurd hg'.2.1 (by decide)
variable {cn cc q:Nat} {co:Option Addr} {r:Int} {leaf:Bool} {t:TypeId}
theorem NB.grown(h:NB t W q leaf r co cn cc)(hg:W.grownBy W' (some p))(hne:q≠p):NB t W' q leaf r co cn cc:=by
 unfold NB;rw [hg.block q h.lt (by simpa using hne)];exact h
theorem NB.set1(h:NB t W q leaf r co cn cc)(r':Int):NB t (W.setCell ⟨q,1,none⟩ (.int .i64 r')) q leaf r' co cn cc:=by
 have h1:=heap_setCell_same W q 1 _ t (.int .i64 r') h
 unfold NB
 rw [h1];simp
theorem Tryz.info144:(Tryz.prog.info? 144).map (fun i=>(i.zero,i.size,i.bytes))=some (some (.agg #[.int .i64 0,.int .i64 0,.int .i64 0,.slice none 0 0,.int .i64 0]),5,56):=by kernel_rfl
def IsCell(leaf:Bool)(p:Nat)(o:Option (List Nat))(W:World)(e:Ending)(w':World):Prop:=
 ∃ a:C,e=.returned (.agg #[.int .i64 (a).k,.int .i64 (a).c,.int .i64 (a).l,.slice (a).o (a).n (a).m,.int .i64 (a).x])∧nrm a=(rdC leaf o).1∧Ck5 W.heap.size w' a∧Src w' p (rdC leaf o).2∧W.grownBy w' (some p)
variable {o:Option (List Nat)}
theorem by_num(h:∀ xs,o=some xs→∀ x∈xs,x<256)(s:Nat):∀ xs,(numO s o).2=some xs→∀ x∈xs,x<256:=by
 intro ys hy
 cases o with
 | none=>simp [numO]at hy
 | some xs=>
  simp only [numO]at hy
  split at hy
  ·simp only [Option.some.injEq]at hy;subst hy;exact drop_by (h xs rfl) s
  ·simp at hy
theorem var_lt'(h:∀ xs,o=some xs→∀ x∈xs,x<256)(most:Nat):(varO most o).1<18446744073709551616:=by
 cases o with
 | none=>simp [varO]
 | some xs=>
  have hb:=(asm_bound 8 0 xs (h xs rfl) (by omega) (by simp)).1
  simp only [varO]
  split
  ·simp
  ·exact hb
theorem src_by(h:Src W p o):∀ xs,o=some xs→∀ x∈xs,x<256:=by
 intro xs e
 subst e
 exact h.2
theorem cell_above(p:Nat)(o:Option (List Nat))(W:World)(h:Src W p o):Calls Tryz.prog 239 #[.agg #[.func (.func 235) #[.pointer (some ⟨p,0,none⟩)] #[],.func (.func 236) #[.pointer (some ⟨p,0,none⟩)] #[],.func (.func 237) #[.pointer (some ⟨p,0,none⟩)] #[]]] W (IsCell false p o W):=by
 refine (above_src p o W h).mono fun e w' ⟨he,hs,hg⟩=>⟨(rdA o).1,he,rfl,?_,hs,hg⟩
 have h1:=numO_lt h 4
 have h2:=var_lt' (by_num (src_by h) 4) 18446744073709551615
 exact ⟨{ rd:=Rd.nil _,by8:=by simp [rdA],kI:=zag_in _ h2,cI:=⟨by simp only [rdA];omega,by simp only [rdA];simp at h1;omega⟩,lI:=⟨by simp [rdA],by simp [rdA]⟩,xI:=⟨by simp [rdA],by simp [rdA]⟩,nB:=by simp [rdA,big] },fun hn=>by simp [rdA]at hn,fun hn=>by simp [rdA]at hn⟩
theorem cell_leaf(p:Nat)(o:Option (List Nat))(W:World)(h:Src W p o):Calls Tryz.prog 240 #[.agg #[.func (.func 235) #[.pointer (some ⟨p,0,none⟩)] #[],.func (.func 236) #[.pointer (some ⟨p,0,none⟩)] #[],.func (.func 237) #[.pointer (some ⟨p,0,none⟩)] #[]]] W (IsCell true p o W):=by
 refine (inleaf_src p o W h).mono fun e w' ⟨ao,n,m,he,hr,h8,h5,hs,hg,hnw⟩=>?_
 have h1:=(varO_lt h 18446744073709551615).1
 have h2:(rl2 o).1≤20000:=by
  unfold rl2
  cases h2:(rl1 o).2 with
  | none=>simp [varO]
  | some ys=>
   simp only [varO]
   split
   ·simp
   ·simp only;omega
 have h3:(rl4 o).1≤4294967296:=by
  unfold rl4
  split
  ·have hby:∀ xs,(rl3 o).2=some xs→∀ x∈xs,x<256:=by
    intro xs e
    unfold rl3 at e
    have hv:∀ ys,(rl2 o).2=some ys→∀ x∈ys,x<256:=by
     intro ys e2
     unfold rl2 at e2
     have hv1:∀ zs,(rl1 o).2=some zs→∀ x∈zs,x<256:=by
      intro zs e3
      unfold rl1 at e3
      cases o with
      | none=>simp [varO]at e3
      | some us=>
       simp only [varO]at e3
       split at e3
       ·simp at e3
       ·simp only [Option.some.injEq]at e3;subst e3;exact drop_by h.2 _
     cases h4:(rl1 o).2 with
     | none=>rw [h4]at e2;simp [varO]at e2
     | some us=>
      rw [h4]at e2
      simp only [varO]at e2
      split at e2
      ·simp at e2
      ·simp only [Option.some.injEq]at e2;subst e2;exact drop_by (hv1 us h4) _
    cases h4:(rl2 o).2 with
    | none=>rw [h4]at e;simp [bytesO]at e
    | some us=>
     rw [h4]at e
     simp only [bytesO]at e
     split at e
     ·simp only [Option.some.injEq]at e;subst e;exact drop_by (hv us h4) _
     ·simp at e
   cases h4:(rl3 o).2 with
   | none=>simp [numO]
   | some us=>
    simp only [numO]
    split
    ·rename_i hl
     have:=psum_bound us 4 (hby us h4) hl
     simp at this ⊢
     omega
    ·simp
  ·simp
 have h4:(rdL o).1.b.length≤96:=by
  simp only [rdL,rl3]
  have:=locN_le ((rl2 o).1:Nat)
  cases (rl2 o).2 with
  | none=>simp [bytesO]
  | some us=>
   simp only [bytesO]
   split
   ·simp;omega
   ·simp
 refine ⟨⟨(rdL o).1.k,0,(rdL o).1.l,ao,n,m,(rdL o).1.x,(rdL o).1.b⟩,he,rfl,⟨{ rd:=hr,by8:=h8,kI:=zag_in _ h1,cI:=⟨by simp,by simp⟩,lI:=⟨by simp only [rdL];omega,by simp only [rdL];omega⟩,xI:=⟨by simp only [rdL];omega,by simp only [rdL];omega⟩,nB:=?_ },h5,hnw⟩,hs,hg⟩
 have:=hr.1
 simp only [big]
 omega
theorem own_low{k:Nat}(h:W.ownsRow B t k v n xs)(hb:B'≤B):W.ownsRow B' t k v n xs:=by
 obtain ⟨h1,h2 | ⟨g,cap,cur,e,hB,h3⟩⟩:=h
 ·exact ⟨h1,Or.inl h2⟩
 ·exact ⟨h1,Or.inr ⟨g,cap,cur,e,Nat.le_trans hb hB,h3⟩⟩
structure Pn5 (B:Nat) (W:World) (co:Option Addr) (cn cc:Nat) (cs:List C):Prop where
 own:W.ownsRow B 144 5 (.slice co cn cc) cn (cv cs)
 ck:∀ a∈cs,Ck5 B W a
 len:cs.length=cn
theorem Pn5.cs{cs:List C}(h:Pn5 B W co cn cc cs):Cs W co cn cc cs:=cs_own (B:=B) (t:=144) h.len h.own (fun a ha=>(h.ck a ha).ok)
theorem Pn5.low{cs:List C}(h:Pn5 B W co cn cc cs)(hb:B'≤B):Pn5 B' W co cn cc cs:=⟨own_low h.own hb,fun a ha=>(h.ck a ha).low hb,h.len⟩
theorem Rd.same{ao:Option Addr}{cap:Nat}{xs:List Nat}(h:Rd W ao n cap xs)(hf:0<n→∀ b o,ao=some ⟨b,o,none⟩→b<W.heap.size→W'.heap[b]? = W.heap[b]?):Rd W' ao n cap xs:=by
 refine ⟨h.1,h.2.1,h.2.2.1,fun hp=>?_⟩
 obtain ⟨b,off,e,hc⟩:=h.2.2.2 hp
 refine ⟨b,off,e,fun t ht=>?_⟩
 rw [World.cell?_of_block (hf hp b off e (lt_cell (hc t ht)))]
 exact hc t ht
theorem Pn5.frame{cs:List C}(h:Pn5 B W co cn cc cs)(hf:∀ k,B≤k→k<W.heap.size→W'.heap[k]? = W.heap[k]?):Pn5 B W' co cn cc cs:=by
 refine ⟨⟨h.own.1,?_⟩,fun a ha=>?_,h.len⟩
 ·rcases h.own.2 with h1 | ⟨g,cap,cur,e,hb,hgg,h2⟩
  ·exact Or.inl h1
  ·exact Or.inr ⟨g,cap,cur,e,hb,by rw [hf g hb (lt_of_block hgg)];exact hgg,h2⟩
 ·have k:=h.ck a ha
  refine ⟨{ k.ok with rd:=k.ok.rd.same (fun hp b o e hl=>hf b (k.nw hp b o e) hl) },fun hp b o e=>?_,k.nw⟩
  obtain ⟨C,m,hx⟩:=k.t5 hp b o e
  exact ⟨C,m,by rw [hf b (k.nw hp b o e) (lt_of_block hx)];exact hx⟩
theorem read_true(ao:Option Addr)(cap:Nat)(xs:List Nat)(w:World)(h:Rd w ao 512 cap xs)(hx:∀ x∈xs,x<256)(hL:rnL xs=true) :
  Calls Tryz.prog 176 #[.slice ao 512 cap] w fun e w'=>∃ co cn cc cs,e=.returned (.agg #[.bool true,.int .i64 ((r3 xs).1:Nat),.slice co cn cc])∧Pn5 w.heap.size w' co cn cc cs∧cs.map nrm=rnC xs∧Below w.heap.size w w':=by
 have q2n:=hid (NB.new 111 w false 0 none 0 0)
 have B0:Hid (Below w.heap.size w (w.alloc (.cells #[.bool false,.int .i64 0,.slice none 0 0] 111))):=hid (ext1 _)
 have c50:=hid (read_ok ao 512 cap xs _ (h.keep B0.out) (by omega))
 have cb:=hid (fun p W (hs:Src W p (some xs))=>byte_src p (some xs) W hs)
 have c2:=hid (fun p W (hs:Src W p (r1 xs).2)=>num_src p 2 (r1 xs).2 W hs (by omega) (by omega))
 have c3:=hid (fun p W (hs:Src W p (r2 xs).2)=>link_src p (r2 xs).2 W hs)
 have cn:=hid (fun p o W hs=>cell_leaf p o W hs)
 have ce:=hid (fun p o W hs=>err_src p o W hs)
 have hx':=hid hx
 change Hid (∀ p W,Src W p (some xs)→Calls Tryz.prog 238 #[.pointer (some ⟨p,0,none⟩)] W fun e w'=>e=.returned (.int .u8 ((((r1 xs).1 % 256:Nat)):Int))∧Src w' p (r1 xs).2∧W.grownBy w' (some p)) at cb
 change Hid (∀ p W,Src W p (r1 xs).2→Calls Tryz.prog 235 #[.pointer (some ⟨p,0,none⟩),.int .i64 ((2:Nat):Int),.bool false] W fun e w'=>e=.returned (.int .u64 ((r2 xs).1:Nat))∧Src w' p (r2 xs).2∧W.grownBy w' (some p)) at c2
 change Hid (∀ p W,Src W p (r2 xs).2→Calls Tryz.prog 241 #[.agg #[.func (.func 235) #[.pointer (some ⟨p,0,none⟩)] #[],.func (.func 236) #[.pointer (some ⟨p,0,none⟩)] #[],.func (.func 237) #[.pointer (some ⟨p,0,none⟩)] #[]]] W fun e w'=>e=.returned (.int .i64 ((r3 xs).1:Nat))∧Src w' p (r3 xs).2∧W.grownBy w' (some p)) at c3
 have hK:(r2 xs).1≤65535:=by
  unfold r2
  have hby:∀ ys,(r1 xs).2=some ys→∀ x∈ys,x<256:=by_num (o:=some xs) (fun ys e=>by simp only [Option.some.injEq]at e;subst e;exact hx) 1
  cases h4:(r1 xs).2 with
  | none=>simp [numO]
  | some us=>
   simp only [numO]
   split
   ·rename_i hl
    have:=psum_bound us 2 (hby us h4) hl
    simp at this ⊢
    omega
   ·simp
 have hC:Hid (rnC xs=rdCs true (r2 xs).1 (r3 xs).2):=hid (by unfold rnC;rw [hL])
 unfold rnL at hL
 generalize (r1 xs).1 % 256=LB at *
 generalize r1 xs=R1 at *
 obtain ⟨v1,o1⟩:=R1
 generalize r3 xs=R3 at *
 obtain ⟨v3,o3⟩:=R3
 generalize r2 xs=R2 at *
 obtain ⟨K,o2⟩:=R2
 generalize rnC xs=RC at *
 simp only at *
 obtain ⟨i57,hi57,hz0,hz1,hz2⟩:=info_parts Tryz.info144
 have HI:=hid hi57;have HZ0:=hid hz0;have HZ1:=hid hz1;have HZ2:=hid hz2
 clear h hi57 hz0 hz1 hz2 hx
 go_enter Tryz.func176,Tryz.ntmps176
 go_wp2_with (first
  | (go_at_call 234;refine c50.out.mono ?_;rintro e w1 ⟨p,rfl,hp,hs,hb⟩;have S1:=hid (show Src w1 p (some xs) from ⟨hs,hx'.out⟩);have B1:=hid (gt B0.out hb);have Q1:=hid (q2n.out.keep hb);have hp':=hid (show w.heap.size<p from (by simp at hp;omega));have hpl:=hid (S1.out.lt);clear hs hb hp)
  | (go_at_call 238;refine (cb.out p _ (S1.out.keep (ext1 _))).mono ?_;rintro e w2 ⟨rfl,hs,hg⟩;have S2:=hid hs;have G2:=hid (grow_trans (grow_below (show Below w1.heap.size w1 _ from ext1 (.cells #[.func (.func 235) #[.pointer (some ⟨p,0,none⟩)] #[],.func (.func 236) #[.pointer (some ⟨p,0,none⟩)] #[],.func (.func 237) #[.pointer (some ⟨p,0,none⟩)] #[]] 328))) hg);have X2:=hid ((RX.new w1 p).grown hg (by have:=hpl.out;omega));have Q2:=hid ((Q1.out.keep (ext1 (.cells #[.func (.func 235) #[.pointer (some ⟨p,0,none⟩)] #[],.func (.func 236) #[.pointer (some ⟨p,0,none⟩)] #[],.func (.func 237) #[.pointer (some ⟨p,0,none⟩)] #[]] 328))).grown hg (by have:=hp'.out;omega));clear hs hg;obtain ⟨q4,hq4⟩:∃ q4,q4=w1.heap.size:=⟨_,rfl⟩;rw [←hq4]at X2 ⊢;replace hq4:=hid hq4;obtain ⟨k0,k1,k2⟩:=X2.out.cells;have k5:=X2.out.lt;obtain ⟨q5,hq5⟩:∃ q5,q5=w2.heap.size:=⟨_,rfl⟩)
  | (go_at_call 235;rw [←hq5];have E5:Below w2.heap.size w2 (w2.alloc (.cells #[.bool true,.int .i64 0,.slice none 0 0] 111)):=ext1 _;have N5:=hid (NB.new 111 w2 true 0 none 0 0);rw [←hq5]at N5;refine (c2.out p _ (S2.out.keep E5)).mono ?_;rintro e w3 ⟨rfl,hs,hg⟩;have S3:=hid hs;have X3:=hid ((X2.out.keep E5).grown hg (by have:=hq4.out;have:=hpl.out;omega));have Q3:=hid ((Q2.out.keep E5).grown hg (by have:=hp'.out;omega));have N3:=hid (N5.out.grown hg (by have h1:=S2.out.lt;omega));have G3:=hid (grow_trans (grow_trans G2.out (grow_below E5)) hg);have h5p:=hid (show p<q5 from (by have h1:=S2.out.lt;omega));have h54:=hid (show q4<q5 from (by omega));clear hs hg E5 N5 k0 k1 k2 k5;obtain ⟨k0,k1,k2⟩:=X3.out.cells;replace hq5:=hid hq5)
  | (go_at_call 241;refine (c3.out p _ S3.out).mono ?_;rintro e w4 ⟨rfl,hs,hg⟩;have S4:=hid hs;have X4:=hid (X3.out.grown hg (by have:=hq4.out;have:=hpl.out;omega));have Q4:=hid (Q3.out.grown hg (by have:=hp'.out;omega));have N4:=hid (N3.out.grown hg (by have:=h5p.out;omega));have G4:=hid (grow_trans G3.out hg);clear hs hg k0 k1 k2;obtain ⟨n0,n1,n2⟩:=N4.out.cells;have nf:=N4.out.fz 1))
 obtain ⟨w5,hw5⟩:∃ w5,w5=w4.setCell ⟨q5,1,none⟩ (.int .i64 (v3:Int)):=⟨_,rfl⟩
 rw [←hw5]
 obtain ⟨B,hB⟩:∃ B,B=w5.heap.size:=⟨_,rfl⟩
 have hqB:Hid (q5<B):=hid (by rw [hB,hw5];simpa using N4.out.lt)
 have N5:=hid (show NB 111 w5 q5 true (v3:Int) none 0 0 by rw [hw5];exact N4.out.set1 _)
 have Q5:=hid (show NB 111 w5 w.heap.size false 0 none 0 0 by rw [hw5];unfold NB;rw [heap_setCell_other _ _ _ _ (by have:=h5p.out;have:=hp'.out;simp;omega)];exact Q4.out)
 have S5':=hid (show Src w5 p o3 by rw [hw5];exact S4.out.five (five_set N4.out (by decide)) (heap_setCell_other _ _ _ _ (by have:=h5p.out;simp;omega)))
 have W5:=hid (show Below w.heap.size w w5 by rw [hw5];exact below_set (below_grown B1.out G4.out (by have:=hp'.out;omega) (Nat.le_refl _)) (by have:=h5p.out;have:=hp'.out;simp;omega) _)
 replace hB:=hid hB
 clear hw5 n0 n1 n2 nf cb c2 c3 c50 S1 S2 S3 S4 X2 X3 X4 Q1 Q2 Q3 Q4 N3 N4 G2 G3 G4 B1 B0 q2n
 go_loopw [35] (fun c W=>∃ (i:Nat) (l:List C) (o:Option (List Nat)) (co:Option Addr) (cc:Nat),i≤K∧c=.int .u64 (i:Int)∧l.length=i∧Hid (l.map nrm++rdCs true (K - i) o=RC∧(∀ a∈l,Ck5 w.heap.size W a)∧Src W p o∧NB 111 W q5 true (v3:Int) co i cc∧NB 111 W w.heap.size false 0 none 0 0∧W.ownsRow B 144 5 (.slice co i cc) i (cv l)∧Below w.heap.size w W∧B≤W.heap.size)) (fun c _=>K - (intOf c).toNat)
 case atStart=>exact ⟨0,[],o3,none,0,by omega,rfl,rfl,hid ⟨by rw [hC.out];simp,by simp,S5'.out,N5.out,Q5.out,World.ownsRow_nil _ _ _ _,W5.out,by rw [hB.out];exact Nat.le_refl _⟩⟩
 case round=>
  obtain ⟨i,l,o,co,cc,hi,rfl,hll,HH⟩:=hrel
  obtain ⟨hE,hA,hS,hN,hQ,hO,hW,hBW⟩:=HH.out
  have A:=hid hA;have S:=hid hS;have N:=hid hN;have Q:=hid hQ;have O:=hid hO;have BW:=hid hW
  replace hE:=hid hE
  replace hBW:=hid hBW
  clear hA hS hN hQ hO hW HH S5' N5 Q5 W5
  by_cases hik:i<K
  ·obtain ⟨CB',hcb⟩:=S.out.block
   have hcb':=hid hcb
   have cN:=hid (cn.out p o wr S.out)
   have hEs:=hE.out
   rw [show K - i=(K - (i+1))+1 by omega]at hEs
   simp only [rdCs]at hEs
   obtain ⟨oc,hoc⟩:∃ oc,oc=(rdC true o).2:=⟨_,rfl⟩
   rw [←hoc]at hEs
   clear hcb
   cases hso:oc.isSome with
   | false=>
    rw [hso]at hEs
    simp only [Bool.false_eq_true,if_false,List.append_nil]at hEs
    have hEs':=hid hEs
    have hso':=hid hso
    have hoc':=hid hoc
    clear hEs hso hoc hE
    go_wp2_with (first
     | (go_at_call 240;refine cN.out.mono ?_;rintro e y1 ⟨a,rfl,hna,hka,hs,hg⟩;have K5:=hid hka;have F1:=hid (S.out.grown5 hg);have S1:=hid hs;have G1:=hid hg;have NA:=hid hna;clear hka hs hg hna)
     | (go_at_call 242;refine (ce.out p _ _ (S1.out.keep (ext1 _))).mono ?_;rintro e y2 ⟨⟨z,hz,rfl⟩,hw2⟩;obtain rfl:=hw2;have hz0:z≠0:=(fun e=>by have h1:=hz.1 e;rw [←hoc'.out,hso'.out]at h1;cases h1);have hz2:(z == 0)=false:=(by simpa using hz0);have hz3:(z != 0)=true:=(by simpa using hz0);clear hz hz0;have NE:=hid ((N.out.grown G1.out (by have:=h5p.out;omega)).keep (ext1 (.cells #[.int .i64 a.k,.int .i64 a.c,.int .i64 a.l,.slice a.o a.n a.m,.int .i64 a.x] 144)));have QE:=hid ((Q.out.grown G1.out (by have:=hp'.out;omega)).keep (ext1 (.cells #[.int .i64 a.k,.int .i64 a.c,.int .i64 a.l,.slice a.o a.n a.m,.int .i64 a.x] 144)));obtain ⟨u0,u1,u2⟩:=NE.out.cells;obtain ⟨v0,v1',v2⟩:=QE.out.cells;have f0:=QE.out.fz 0;have f1:=QE.out.fz 1;have f2:=QE.out.fz 2))
    (try simp only [Exit.inBlock,Exit.then])
    refine bodyPost_ret (ret_node1 (a:=2) (t:=111) (by kernel_rfl) (by kernel_rfl) (by kernel_rfl) rfl (QE.out.set3 true (v3:Int) co i cc)) rfl ?_
    have eb:Below w.heap.size w (y1.alloc (.cells #[.int .i64 a.k,.int .i64 a.c,.int .i64 a.l,.slice a.o a.n a.m,.int .i64 a.x] 144)):=Below.alloc (below_grown BW.out G1.out (by have:=hp'.out;omega) (Nat.le_refl _)) (by have h1:=BW.out.size;have h2:=G1.out.size;omega) _
    have F2:Five wr (((( y1.alloc (.cells #[.int .i64 a.k,.int .i64 a.c,.int .i64 a.l,.slice a.o a.n a.m,.int .i64 a.x] 144)).setCell ⟨w.heap.size,0,none⟩ (.bool true)).setCell ⟨w.heap.size,1,none⟩ (.int .i64 (v3:Int))).setCell ⟨w.heap.size,2,none⟩ (.slice co i cc)):=by
     refine F1.out.trans ((five_below (ext1 (.cells #[.int .i64 a.k,.int .i64 a.c,.int .i64 a.l,.slice a.o a.n a.m,.int .i64 a.x] 144))).trans ?_)
     have n1:=QE.out
     have n2:=heap_setCell_same _ w.heap.size 0 _ 111 (.bool true) n1
     have n3:=heap_setCell_same _ w.heap.size 1 _ 111 (.int .i64 (v3:Int)) n2
     exact ((five_set n1 (by decide)).trans (five_set n2 (by decide))).trans (five_set n3 (by decide))
    refine ⟨co,i,cc,l,rfl,⟨own_low (B:=B) ?_ (by have h1:=hqB.out;have h2:=h5p.out;have h3:=hp'.out;omega),fun a ha=>(A.out a ha).five F2,hll⟩,hEs'.out,below_set (below_set (below_set eb (by simp) _) (by simp) _) (by simp) _⟩
    have hwB:w.heap.size<B:=by have h1:=hqB.out;have h2:=h5p.out;have h3:=hp'.out;omega
    exact ownsRow_setCell_below (ownsRow_setCell_below (ownsRow_setCell_below ((own_grown O.out hcb'.out G1.out).alloc _) (by simpa using hwB) _) (by simpa using hwB) _) (by simpa using hwB) _
   | true=>
    rw [hso]at hEs
    simp only [if_true]at hEs
    have hEs':=hid hEs
    have hso':=hid hso
    have hoc':=hid hoc
    have hcl:(cv l).length=i*5:=by rw [cv_length,hll]
    clear hEs hso hoc hE
    go_wp2_with (first
     | (go_at_call 240;refine cN.out.mono ?_;rintro e y1 ⟨a,rfl,hna,hka,hs,hg⟩;have K5:=hid hka;have F1:=hid (S.out.grown5 hg);have S1:=hid hs;have G1:=hid hg;have NA:=hid hna;have O1:=hid (own_grown O.out hcb'.out hg);have N1:=hid (N.out.grown hg (by have:=h5p.out;omega));have Q1:=hid (Q.out.grown hg (by have:=hp'.out;omega));have hy1:=hid hg.size;clear hka hs hg hna)
     | (go_at_call 242;refine (ce.out p _ _ (S1.out.keep (ext1 _))).mono ?_;rintro e y2 ⟨⟨z,hz,rfl⟩,hw2⟩;obtain rfl:=hw2;obtain rfl:z=0:=hz.2 (by rw [←hoc'.out];exact hso'.out);clear hz;obtain ⟨u0,u1,u2⟩:=N1.out.cells;have hlt5:=N1.out.lt)
     | ((with_reducible refine here_op 46 ?_);refine wpList_append_own _ rfl (.tmp 43) (.tmp 45) 109 rfl B 144 i57 (.agg #[.int .i64 0,.int .i64 0,.int .i64 0,.slice none 0 0,.int .i64 0]) 5 56 Tryz.underlying109 HI.out HZ0.out HZ1.out HZ2.out rfl (by decide) (.slice co i cc) i (cv l) rfl ((O1.out.alloc _).alloc _) ⟨y1.heap.size+1,0,none⟩ 1 1 (cv [a]) rfl rfl (five_cells2 y1 _ a 144) (cv_one a) (by unfold maxLen;omega) (by omega) (by have h1:=hBW.out;have h2:=hy1.out;simp;omega) ?_;intro v6 w6 ho6 hg6 hnil6;obtain ⟨ao6,cap6,rfl⟩:=row_form ho6;have O6:=hid ho6;have F6:=hid (five_own ((O1.out.alloc _).alloc _) hg6);have G6:=hid (below_own ((O1.out.alloc _).alloc _) hg6 (Nat.le_refl _) (by have h1:=hBW.out;have h2:=hy1.out;simp;omega));have N6:=hid (show NB 111 w6 q5 true (v3:Int) co i cc from (by unfold NB;rw [G6.out.block q5 hqB.out];exact (N1.out.keep (ext1 _)).keep (ext1 _)));have c6:=N6.out.cells.2.2;have f6:=N6.out.fz 2;clear ho6 hg6 hnil6))
    have hEA:Below y1.heap.size y1 ((y1.alloc (.cells #[.int .i64 a.k,.int .i64 a.c,.int .i64 a.l,.slice a.o a.n a.m,.int .i64 a.x] 144)).alloc (.cells #[.int .i64 a.k,.int .i64 a.c,.int .i64 a.l,.slice a.o a.n a.m,.int .i64 a.x] 144)):=gt (ext1 _) (ext1 _)
    have F7:Five y1 (w6.setCell ⟨q5,2,none⟩ (.slice ao6 (i+1) cap6)):=((five_below hEA).trans F6.out).trans (five_set N6.out (by decide))
    have hwB:w.heap.size<B:=by have h1:=hqB.out;have h2:=h5p.out;have h3:=hp'.out;omega
    have hq5w:w.heap.size<q5:=by have h2:=h5p.out;have h3:=hp'.out;omega
    refine ⟨⟨i+1,l++[a],oc,ao6,cap6,by omega,by go_num,by simp [hll],hid ⟨?_,?_,?_,N6.out.set ao6 (i+1) cap6,?_,?_,?_,?_⟩⟩,by simp [intOf];omega⟩
    ·rw [List.map_append,List.append_assoc]
     rw [show [a].map nrm = [nrm a] from rfl,NA.out]
     exact hEs'.out
    ·intro b hb
     rcases List.mem_append.1 hb with hb |hb
     ·exact (A.out b hb).five (F1.out.trans F7)
     ·simp at hb;subst hb;exact (K5.out.low BW.out.size).five F7
    ·rw [hoc'.out]
     refine S1.out.five F7 ?_
     rw [heap_setCell_other _ _ _ _ (by have:=h5p.out;simp;omega),G6.out.block p (by have:=h5p.out;have:=hqB.out;omega),hEA.block p S1.out.lt]
    ·unfold NB
     rw [heap_setCell_other _ _ _ _ (by simp;omega),G6.out.block _ hwB]
     exact (Q1.out.keep (ext1 _)).keep (ext1 _)
    ·rw [cv_append]
     exact ownsRow_setCell_below O6.out (by simpa using hqB.out) _
    ·refine below_set (Below.trans (Below.trans (below_grown BW.out G1.out (by have:=hp'.out;omega) (Nat.le_refl _)) (hEA.mono (by have h1:=BW.out.size;have h2:=hy1.out;omega))) (G6.out.mono (by omega))) (by simp;omega) _
    ·have h1:=G6.out.size
     have h2:=hBW.out
     have h3:=hy1.out
     simp at h1 ⊢
     omega
  ·obtain rfl:i=K:=by omega
   have hEs:=hE.out
   rw [Nat.sub_self]at hEs
   simp only [rdCs,List.append_nil]at hEs
   have hEs':=hid hEs
   clear hEs hE
   obtain ⟨u0,u1,u2⟩:=N.out.cells
   obtain ⟨v0,v1',v2⟩:=Q.out.cells
   have f0:=Q.out.fz 0;have f1:=Q.out.fz 1;have f2:=Q.out.fz 2
   go_wp2
   (try simp only [Exit.inBlock,Exit.then])
   refine bodyPost_ret (ret_node1 (a:=2) (t:=111) (by kernel_rfl) (by kernel_rfl) (by kernel_rfl) rfl (Q.out.set3 true (v3:Int) co i cc)) rfl ?_
   have F2:Five wr (((wr.setCell ⟨w.heap.size,0,none⟩ (.bool true)).setCell ⟨w.heap.size,1,none⟩ (.int .i64 (v3:Int))).setCell ⟨w.heap.size,2,none⟩ (.slice co i cc)):=by
    have n1:=Q.out
    have n2:=heap_setCell_same _ w.heap.size 0 _ 111 (.bool true) n1
    have n3:=heap_setCell_same _ w.heap.size 1 _ 111 (.int .i64 (v3:Int)) n2
    exact ((five_set n1 (by decide)).trans (five_set n2 (by decide))).trans (five_set n3 (by decide))
   refine ⟨co,i,cc,l,rfl,⟨own_low (B:=B) ?_ (by have h1:=hqB.out;have h2:=h5p.out;have h3:=hp'.out;omega),fun a ha=>(A.out a ha).five F2,hll⟩,hEs'.out,below_set (below_set (below_set BW.out (by simp) _) (by simp) _) (by simp) _⟩
   have hwB:w.heap.size<B:=by have h1:=hqB.out;have h2:=h5p.out;have h3:=hp'.out;omega
   exact ownsRow_setCell_below (ownsRow_setCell_below (ownsRow_setCell_below O.out (by simpa using hwB) _) (by simpa using hwB) _) (by simpa using hwB) _
theorem read_false(ao:Option Addr)(cap:Nat)(xs:List Nat)(w:World)(h:Rd w ao 512 cap xs)(hx:∀ x∈xs,x<256)(hL:rnL xs=false) :
  Calls Tryz.prog 176 #[.slice ao 512 cap] w fun e w'=>∃ co cn cc cs,e=.returned (.agg #[.bool false,.int .i64 ((r3 xs).1:Nat),.slice co cn cc])∧Pn5 w.heap.size w' co cn cc cs∧cs.map nrm=rnC xs∧Below w.heap.size w w':=by
 have q2n:=hid (NB.new 111 w false 0 none 0 0)
 have B0:Hid (Below w.heap.size w (w.alloc (.cells #[.bool false,.int .i64 0,.slice none 0 0] 111))):=hid (ext1 _)
 have c50:=hid (read_ok ao 512 cap xs _ (h.keep B0.out) (by omega))
 have cb:=hid (fun p W (hs:Src W p (some xs))=>byte_src p (some xs) W hs)
 have c2:=hid (fun p W (hs:Src W p (r1 xs).2)=>num_src p 2 (r1 xs).2 W hs (by omega) (by omega))
 have c3:=hid (fun p W (hs:Src W p (r2 xs).2)=>link_src p (r2 xs).2 W hs)
 have cn:=hid (fun p o W hs=>cell_above p o W hs)
 have ce:=hid (fun p o W hs=>err_src p o W hs)
 have hx':=hid hx
 change Hid (∀ p W,Src W p (some xs)→Calls Tryz.prog 238 #[.pointer (some ⟨p,0,none⟩)] W fun e w'=>e=.returned (.int .u8 ((((r1 xs).1 % 256:Nat)):Int))∧Src w' p (r1 xs).2∧W.grownBy w' (some p)) at cb
 change Hid (∀ p W,Src W p (r1 xs).2→Calls Tryz.prog 235 #[.pointer (some ⟨p,0,none⟩),.int .i64 ((2:Nat):Int),.bool false] W fun e w'=>e=.returned (.int .u64 ((r2 xs).1:Nat))∧Src w' p (r2 xs).2∧W.grownBy w' (some p)) at c2
 change Hid (∀ p W,Src W p (r2 xs).2→Calls Tryz.prog 241 #[.agg #[.func (.func 235) #[.pointer (some ⟨p,0,none⟩)] #[],.func (.func 236) #[.pointer (some ⟨p,0,none⟩)] #[],.func (.func 237) #[.pointer (some ⟨p,0,none⟩)] #[]]] W fun e w'=>e=.returned (.int .i64 ((r3 xs).1:Nat))∧Src w' p (r3 xs).2∧W.grownBy w' (some p)) at c3
 have hK:(r2 xs).1≤65535:=by
  unfold r2
  have hby:∀ ys,(r1 xs).2=some ys→∀ x∈ys,x<256:=by_num (o:=some xs) (fun ys e=>by simp only [Option.some.injEq]at e;subst e;exact hx) 1
  cases h4:(r1 xs).2 with
  | none=>simp [numO]
  | some us=>
   simp only [numO]
   split
   ·rename_i hl
    have:=psum_bound us 2 (hby us h4) hl
    simp at this ⊢
    omega
   ·simp
 have hC:Hid (rnC xs=rdCs false (r2 xs).1 (r3 xs).2):=hid (by unfold rnC;rw [hL])
 unfold rnL at hL
 generalize (r1 xs).1 % 256=LB at *
 generalize r1 xs=R1 at *
 obtain ⟨v1,o1⟩:=R1
 generalize r3 xs=R3 at *
 obtain ⟨v3,o3⟩:=R3
 generalize r2 xs=R2 at *
 obtain ⟨K,o2⟩:=R2
 generalize rnC xs=RC at *
 simp only at *
 obtain ⟨i57,hi57,hz0,hz1,hz2⟩:=info_parts Tryz.info144
 have HI:=hid hi57;have HZ0:=hid hz0;have HZ1:=hid hz1;have HZ2:=hid hz2
 clear h hi57 hz0 hz1 hz2 hx
 go_enter Tryz.func176,Tryz.ntmps176
 go_wp2_with (first
  | (go_at_call 234;refine c50.out.mono ?_;rintro e w1 ⟨p,rfl,hp,hs,hb⟩;have S1:=hid (show Src w1 p (some xs) from ⟨hs,hx'.out⟩);have B1:=hid (gt B0.out hb);have Q1:=hid (q2n.out.keep hb);have hp':=hid (show w.heap.size<p from (by simp at hp;omega));have hpl:=hid (S1.out.lt);clear hs hb hp)
  | (go_at_call 238;refine (cb.out p _ (S1.out.keep (ext1 _))).mono ?_;rintro e w2 ⟨rfl,hs,hg⟩;have S2:=hid hs;have G2:=hid (grow_trans (grow_below (show Below w1.heap.size w1 _ from ext1 (.cells #[.func (.func 235) #[.pointer (some ⟨p,0,none⟩)] #[],.func (.func 236) #[.pointer (some ⟨p,0,none⟩)] #[],.func (.func 237) #[.pointer (some ⟨p,0,none⟩)] #[]] 328))) hg);have X2:=hid ((RX.new w1 p).grown hg (by have:=hpl.out;omega));have Q2:=hid ((Q1.out.keep (ext1 (.cells #[.func (.func 235) #[.pointer (some ⟨p,0,none⟩)] #[],.func (.func 236) #[.pointer (some ⟨p,0,none⟩)] #[],.func (.func 237) #[.pointer (some ⟨p,0,none⟩)] #[]] 328))).grown hg (by have:=hp'.out;omega));clear hs hg;obtain ⟨q4,hq4⟩:∃ q4,q4=w1.heap.size:=⟨_,rfl⟩;rw [←hq4]at X2 ⊢;replace hq4:=hid hq4;obtain ⟨k0,k1,k2⟩:=X2.out.cells;have k5:=X2.out.lt;obtain ⟨q5,hq5⟩:∃ q5,q5=w2.heap.size:=⟨_,rfl⟩)
  | (go_at_call 235;rw [←hq5];have E5:Below w2.heap.size w2 (w2.alloc (.cells #[.bool false,.int .i64 0,.slice none 0 0] 111)):=ext1 _;have N5:=hid (NB.new 111 w2 false 0 none 0 0);rw [←hq5]at N5;refine (c2.out p _ (S2.out.keep E5)).mono ?_;rintro e w3 ⟨rfl,hs,hg⟩;have S3:=hid hs;have X3:=hid ((X2.out.keep E5).grown hg (by have:=hq4.out;have:=hpl.out;omega));have Q3:=hid ((Q2.out.keep E5).grown hg (by have:=hp'.out;omega));have N3:=hid (N5.out.grown hg (by have h1:=S2.out.lt;omega));have G3:=hid (grow_trans (grow_trans G2.out (grow_below E5)) hg);have h5p:=hid (show p<q5 from (by have h1:=S2.out.lt;omega));have h54:=hid (show q4<q5 from (by omega));clear hs hg E5 N5 k0 k1 k2 k5;obtain ⟨k0,k1,k2⟩:=X3.out.cells;replace hq5:=hid hq5)
  | (go_at_call 241;refine (c3.out p _ S3.out).mono ?_;rintro e w4 ⟨rfl,hs,hg⟩;have S4:=hid hs;have X4:=hid (X3.out.grown hg (by have:=hq4.out;have:=hpl.out;omega));have Q4:=hid (Q3.out.grown hg (by have:=hp'.out;omega));have N4:=hid (N3.out.grown hg (by have:=h5p.out;omega));have G4:=hid (grow_trans G3.out hg);clear hs hg k0 k1 k2;obtain ⟨n0,n1,n2⟩:=N4.out.cells;have nf:=N4.out.fz 1))
 obtain ⟨w5,hw5⟩:∃ w5,w5=w4.setCell ⟨q5,1,none⟩ (.int .i64 (v3:Int)):=⟨_,rfl⟩
 rw [←hw5]
 obtain ⟨B,hB⟩:∃ B,B=w5.heap.size:=⟨_,rfl⟩
 have hqB:Hid (q5<B):=hid (by rw [hB,hw5];simpa using N4.out.lt)
 have N5:=hid (show NB 111 w5 q5 false (v3:Int) none 0 0 by rw [hw5];exact N4.out.set1 _)
 have Q5:=hid (show NB 111 w5 w.heap.size false 0 none 0 0 by rw [hw5];unfold NB;rw [heap_setCell_other _ _ _ _ (by have:=h5p.out;have:=hp'.out;simp;omega)];exact Q4.out)
 have S5':=hid (show Src w5 p o3 by rw [hw5];exact S4.out.five (five_set N4.out (by decide)) (heap_setCell_other _ _ _ _ (by have:=h5p.out;simp;omega)))
 have W5:=hid (show Below w.heap.size w w5 by rw [hw5];exact below_set (below_grown B1.out G4.out (by have:=hp'.out;omega) (Nat.le_refl _)) (by have:=h5p.out;have:=hp'.out;simp;omega) _)
 replace hB:=hid hB
 clear hw5 n0 n1 n2 nf cb c2 c3 c50 S1 S2 S3 S4 X2 X3 X4 Q1 Q2 Q3 Q4 N3 N4 G2 G3 G4 B1 B0 q2n
 go_loopw [35] (fun c W=>∃ (i:Nat) (l:List C) (o:Option (List Nat)) (co:Option Addr) (cc:Nat),i≤K∧c=.int .u64 (i:Int)∧l.length=i∧Hid (l.map nrm++rdCs false (K - i) o=RC∧(∀ a∈l,Ck5 w.heap.size W a)∧Src W p o∧NB 111 W q5 false (v3:Int) co i cc∧NB 111 W w.heap.size false 0 none 0 0∧W.ownsRow B 144 5 (.slice co i cc) i (cv l)∧Below w.heap.size w W∧B≤W.heap.size)) (fun c _=>K - (intOf c).toNat)
 case atStart=>exact ⟨0,[],o3,none,0,by omega,rfl,rfl,hid ⟨by rw [hC.out];simp,by simp,S5'.out,N5.out,Q5.out,World.ownsRow_nil _ _ _ _,W5.out,by rw [hB.out];exact Nat.le_refl _⟩⟩
 case round=>
  obtain ⟨i,l,o,co,cc,hi,rfl,hll,HH⟩:=hrel
  obtain ⟨hE,hA,hS,hN,hQ,hO,hW,hBW⟩:=HH.out
  have A:=hid hA;have S:=hid hS;have N:=hid hN;have Q:=hid hQ;have O:=hid hO;have BW:=hid hW
  replace hE:=hid hE
  replace hBW:=hid hBW
  clear hA hS hN hQ hO hW HH S5' N5 Q5 W5
  by_cases hik:i<K
  ·obtain ⟨CB',hcb⟩:=S.out.block
   have hcb':=hid hcb
   have cN:=hid (cn.out p o wr S.out)
   have hEs:=hE.out
   rw [show K - i=(K - (i+1))+1 by omega]at hEs
   simp only [rdCs]at hEs
   obtain ⟨oc,hoc⟩:∃ oc,oc=(rdC false o).2:=⟨_,rfl⟩
   rw [←hoc]at hEs
   clear hcb
   cases hso:oc.isSome with
   | false=>
    rw [hso]at hEs
    simp only [Bool.false_eq_true,if_false,List.append_nil]at hEs
    have hEs':=hid hEs
    have hso':=hid hso
    have hoc':=hid hoc
    clear hEs hso hoc hE
    go_wp2_with (first
     | (go_at_call 239;refine cN.out.mono ?_;rintro e y1 ⟨a,rfl,hna,hka,hs,hg⟩;have K5:=hid hka;have F1:=hid (S.out.grown5 hg);have S1:=hid hs;have G1:=hid hg;have NA:=hid hna;clear hka hs hg hna)
     | (go_at_call 242;refine (ce.out p _ _ (S1.out.keep (ext1 _))).mono ?_;rintro e y2 ⟨⟨z,hz,rfl⟩,hw2⟩;obtain rfl:=hw2;have hz0:z≠0:=(fun e=>by have h1:=hz.1 e;rw [←hoc'.out,hso'.out]at h1;cases h1);have hz2:(z == 0)=false:=(by simpa using hz0);have hz3:(z != 0)=true:=(by simpa using hz0);clear hz hz0;have NE:=hid ((N.out.grown G1.out (by have:=h5p.out;omega)).keep (ext1 (.cells #[.int .i64 a.k,.int .i64 a.c,.int .i64 a.l,.slice a.o a.n a.m,.int .i64 a.x] 144)));have QE:=hid ((Q.out.grown G1.out (by have:=hp'.out;omega)).keep (ext1 (.cells #[.int .i64 a.k,.int .i64 a.c,.int .i64 a.l,.slice a.o a.n a.m,.int .i64 a.x] 144)));obtain ⟨u0,u1,u2⟩:=NE.out.cells;obtain ⟨v0,v1',v2⟩:=QE.out.cells;have f0:=QE.out.fz 0;have f1:=QE.out.fz 1;have f2:=QE.out.fz 2))
    (try simp only [Exit.inBlock,Exit.then])
    refine bodyPost_ret (ret_node1 (a:=2) (t:=111) (by kernel_rfl) (by kernel_rfl) (by kernel_rfl) rfl (QE.out.set3 false (v3:Int) co i cc)) rfl ?_
    have eb:Below w.heap.size w (y1.alloc (.cells #[.int .i64 a.k,.int .i64 a.c,.int .i64 a.l,.slice a.o a.n a.m,.int .i64 a.x] 144)):=Below.alloc (below_grown BW.out G1.out (by have:=hp'.out;omega) (Nat.le_refl _)) (by have h1:=BW.out.size;have h2:=G1.out.size;omega) _
    have F2:Five wr (((( y1.alloc (.cells #[.int .i64 a.k,.int .i64 a.c,.int .i64 a.l,.slice a.o a.n a.m,.int .i64 a.x] 144)).setCell ⟨w.heap.size,0,none⟩ (.bool false)).setCell ⟨w.heap.size,1,none⟩ (.int .i64 (v3:Int))).setCell ⟨w.heap.size,2,none⟩ (.slice co i cc)):=by
     refine F1.out.trans ((five_below (ext1 (.cells #[.int .i64 a.k,.int .i64 a.c,.int .i64 a.l,.slice a.o a.n a.m,.int .i64 a.x] 144))).trans ?_)
     have n1:=QE.out
     have n2:=heap_setCell_same _ w.heap.size 0 _ 111 (.bool false) n1
     have n3:=heap_setCell_same _ w.heap.size 1 _ 111 (.int .i64 (v3:Int)) n2
     exact ((five_set n1 (by decide)).trans (five_set n2 (by decide))).trans (five_set n3 (by decide))
    refine ⟨co,i,cc,l,rfl,⟨own_low (B:=B) ?_ (by have h1:=hqB.out;have h2:=h5p.out;have h3:=hp'.out;omega),fun a ha=>(A.out a ha).five F2,hll⟩,hEs'.out,below_set (below_set (below_set eb (by simp) _) (by simp) _) (by simp) _⟩
    have hwB:w.heap.size<B:=by have h1:=hqB.out;have h2:=h5p.out;have h3:=hp'.out;omega
    exact ownsRow_setCell_below (ownsRow_setCell_below (ownsRow_setCell_below ((own_grown O.out hcb'.out G1.out).alloc _) (by simpa using hwB) _) (by simpa using hwB) _) (by simpa using hwB) _
   | true=>
    rw [hso]at hEs
    simp only [if_true]at hEs
    have hEs':=hid hEs
    have hso':=hid hso
    have hoc':=hid hoc
    have hcl:(cv l).length=i*5:=by rw [cv_length,hll]
    clear hEs hso hoc hE
    go_wp2_with (first
     | (go_at_call 239;refine cN.out.mono ?_;rintro e y1 ⟨a,rfl,hna,hka,hs,hg⟩;have K5:=hid hka;have F1:=hid (S.out.grown5 hg);have S1:=hid hs;have G1:=hid hg;have NA:=hid hna;have O1:=hid (own_grown O.out hcb'.out hg);have N1:=hid (N.out.grown hg (by have:=h5p.out;omega));have Q1:=hid (Q.out.grown hg (by have:=hp'.out;omega));have hy1:=hid hg.size;clear hka hs hg hna)
     | (go_at_call 242;refine (ce.out p _ _ (S1.out.keep (ext1 _))).mono ?_;rintro e y2 ⟨⟨z,hz,rfl⟩,hw2⟩;obtain rfl:=hw2;obtain rfl:z=0:=hz.2 (by rw [←hoc'.out];exact hso'.out);clear hz;obtain ⟨u0,u1,u2⟩:=N1.out.cells;have hlt5:=N1.out.lt)
     | ((with_reducible refine here_op 46 ?_);refine wpList_append_own _ rfl (.tmp 43) (.tmp 45) 109 rfl B 144 i57 (.agg #[.int .i64 0,.int .i64 0,.int .i64 0,.slice none 0 0,.int .i64 0]) 5 56 Tryz.underlying109 HI.out HZ0.out HZ1.out HZ2.out rfl (by decide) (.slice co i cc) i (cv l) rfl ((O1.out.alloc _).alloc _) ⟨y1.heap.size+1,0,none⟩ 1 1 (cv [a]) rfl rfl (five_cells2 y1 _ a 144) (cv_one a) (by unfold maxLen;omega) (by omega) (by have h1:=hBW.out;have h2:=hy1.out;simp;omega) ?_;intro v6 w6 ho6 hg6 hnil6;obtain ⟨ao6,cap6,rfl⟩:=row_form ho6;have O6:=hid ho6;have F6:=hid (five_own ((O1.out.alloc _).alloc _) hg6);have G6:=hid (below_own ((O1.out.alloc _).alloc _) hg6 (Nat.le_refl _) (by have h1:=hBW.out;have h2:=hy1.out;simp;omega));have N6:=hid (show NB 111 w6 q5 false (v3:Int) co i cc from (by unfold NB;rw [G6.out.block q5 hqB.out];exact (N1.out.keep (ext1 _)).keep (ext1 _)));have c6:=N6.out.cells.2.2;have f6:=N6.out.fz 2;clear ho6 hg6 hnil6))
    have hEA:Below y1.heap.size y1 ((y1.alloc (.cells #[.int .i64 a.k,.int .i64 a.c,.int .i64 a.l,.slice a.o a.n a.m,.int .i64 a.x] 144)).alloc (.cells #[.int .i64 a.k,.int .i64 a.c,.int .i64 a.l,.slice a.o a.n a.m,.int .i64 a.x] 144)):=gt (ext1 _) (ext1 _)
    have F7:Five y1 (w6.setCell ⟨q5,2,none⟩ (.slice ao6 (i+1) cap6)):=((five_below hEA).trans F6.out).trans (five_set N6.out (by decide))
    have hwB:w.heap.size<B:=by have h1:=hqB.out;have h2:=h5p.out;have h3:=hp'.out;omega
    have hq5w:w.heap.size<q5:=by have h2:=h5p.out;have h3:=hp'.out;omega
    refine ⟨⟨i+1,l++[a],oc,ao6,cap6,by omega,by go_num,by simp [hll],hid ⟨?_,?_,?_,N6.out.set ao6 (i+1) cap6,?_,?_,?_,?_⟩⟩,by simp [intOf];omega⟩
    ·rw [List.map_append,List.append_assoc]
     rw [show [a].map nrm = [nrm a] from rfl,NA.out]
     exact hEs'.out
    ·intro b hb
     rcases List.mem_append.1 hb with hb |hb
     ·exact (A.out b hb).five (F1.out.trans F7)
     ·simp at hb;subst hb;exact (K5.out.low BW.out.size).five F7
    ·rw [hoc'.out]
     refine S1.out.five F7 ?_
     rw [heap_setCell_other _ _ _ _ (by have:=h5p.out;simp;omega),G6.out.block p (by have:=h5p.out;have:=hqB.out;omega),hEA.block p S1.out.lt]
    ·unfold NB
     rw [heap_setCell_other _ _ _ _ (by simp;omega),G6.out.block _ hwB]
     exact (Q1.out.keep (ext1 _)).keep (ext1 _)
    ·rw [cv_append]
     exact ownsRow_setCell_below O6.out (by simpa using hqB.out) _
    ·refine below_set (Below.trans (Below.trans (below_grown BW.out G1.out (by have:=hp'.out;omega) (Nat.le_refl _)) (hEA.mono (by have h1:=BW.out.size;have h2:=hy1.out;omega))) (G6.out.mono (by omega))) (by simp;omega) _
    ·have h1:=G6.out.size
     have h2:=hBW.out
     have h3:=hy1.out
     simp at h1 ⊢
     omega
  ·obtain rfl:i=K:=by omega
   have hEs:=hE.out
   rw [Nat.sub_self]at hEs
   simp only [rdCs,List.append_nil]at hEs
   have hEs':=hid hEs
   clear hEs hE
   obtain ⟨u0,u1,u2⟩:=N.out.cells
   obtain ⟨v0,v1',v2⟩:=Q.out.cells
   have f0:=Q.out.fz 0;have f1:=Q.out.fz 1;have f2:=Q.out.fz 2
   go_wp2
   (try simp only [Exit.inBlock,Exit.then])
   refine bodyPost_ret (ret_node1 (a:=2) (t:=111) (by kernel_rfl) (by kernel_rfl) (by kernel_rfl) rfl (Q.out.set3 false (v3:Int) co i cc)) rfl ?_
   have F2:Five wr (((wr.setCell ⟨w.heap.size,0,none⟩ (.bool false)).setCell ⟨w.heap.size,1,none⟩ (.int .i64 (v3:Int))).setCell ⟨w.heap.size,2,none⟩ (.slice co i cc)):=by
    have n1:=Q.out
    have n2:=heap_setCell_same _ w.heap.size 0 _ 111 (.bool false) n1
    have n3:=heap_setCell_same _ w.heap.size 1 _ 111 (.int .i64 (v3:Int)) n2
    exact ((five_set n1 (by decide)).trans (five_set n2 (by decide))).trans (five_set n3 (by decide))
   refine ⟨co,i,cc,l,rfl,⟨own_low (B:=B) ?_ (by have h1:=hqB.out;have h2:=h5p.out;have h3:=hp'.out;omega),fun a ha=>(A.out a ha).five F2,hll⟩,hEs'.out,below_set (below_set (below_set BW.out (by simp) _) (by simp) _) (by simp) _⟩
   have hwB:w.heap.size<B:=by have h1:=hqB.out;have h2:=h5p.out;have h3:=hp'.out;omega
   exact ownsRow_setCell_below (ownsRow_setCell_below (ownsRow_setCell_below O.out (by simpa using hwB) _) (by simpa using hwB) _) (by simpa using hwB) _
end Cel
namespace Cel
open Go.RowKit
theorem rise_nrm:∀ cs:List C,riseB (cs.map nrm)=riseB cs
 | []=>rfl
 | [_]=>rfl
 | a::b::r=>by
  have:=rise_nrm (b::r)
  simp only [List.map_cons]at this ⊢
  rw [rise_cons,rise_cons,this]
  rfl
theorem all_nrm(leaf:Bool)(cs:List C):(cs.map nrm).all (cellB leaf)=cs.all (cellB leaf):=by
 rw [List.all_map];rfl
theorem good_nrm(leaf:Bool)(r:Int)(cs:List C):goodN leaf r (cs.map nrm)=goodN leaf r cs:=by
 unfold goodN
 rw [rise_nrm]
 cases leaf
 ·have:=all_nrm false cs;simp only [Bool.false_eq_true,if_false];rw [show (cs.map nrm).all aboveB=cs.all aboveB from this]
 ·have:=all_nrm true cs;simp only [if_true];rw [show (cs.map nrm).all leafB=cs.all leafB from this]
theorem allN_nrm(leaf:Bool)(cs:List C):allN leaf (cs.map nrm)=allN leaf cs:=by
 induction cs with
 | nil=>rfl
 | cons a l ih=>
  simp only [allN,List.map_cons,List.flatMap_cons]at ih ⊢
  rw [ih];rfl
theorem size_nrm(leaf:Bool)(cs:List C):sizeN leaf (cs.map nrm)=sizeN leaf cs:=by
 unfold sizeN
 rw [←sumN_all,←sumN_all,allN_nrm]
theorem has_nrm(leaf:Bool)(r:Int)(cs:List C):hasN leaf r (cs.map nrm)=hasN leaf r cs:=by unfold hasN;rw [good_nrm,size_nrm]
theorem page_nrm(leaf:Bool)(r:Int)(cs:List C):pageN leaf r (cs.map nrm)=pageN leaf r cs:=by unfold pageN;rw [allN_nrm,List.length_map]
theorem wr_nrm(leaf:Bool)(r:Int)(cs:List C):wrN leaf r (cs.map nrm)=wrN leaf r cs:=by unfold wrN;rw [has_nrm,page_nrm]
theorem rdCs_len(leaf:Bool):∀ (k:Nat) (o:Option (List Nat)),(rdCs leaf k o).length≤k
 | 0,_=>by simp [rdCs]
 | k+1,o=>by
  simp only [rdCs]
  split
  ·have:=rdCs_len leaf k (rdC leaf o).2;simp;omega
  ·simp
theorem rdC_b(leaf:Bool)(o:Option (List Nat)):(rdC leaf o).1.b.length≤96:=by
 unfold rdC
 cases leaf
 ·simp [rdA]
 ·simp only [if_true,rdL,rl3]
  have:=locN_le ((rl2 o).1:Nat)
  cases (rl2 o).2 with
  | none=>simp [bytesO]
  | some us=>
   simp only [bytesO]
   split
   ·simp;omega
   ·simp
theorem rdCs_b(leaf:Bool):∀ (k:Nat) (o:Option (List Nat)),∀ a∈rdCs leaf k o,a.b.length≤96
 | 0,_=>by simp [rdCs]
 | k+1,o=>by
  intro a ha
  simp only [rdCs]at ha
  split at ha
  ·rcases List.mem_cons.1 ha with rfl |h
   ·exact rdC_b leaf o
   ·exact rdCs_b leaf k _ a h
  ·cases ha
theorem rK_le(xs:List Nat)(hx:∀ x∈xs,x<256):(r2 xs).1≤65535:=by
 unfold r2
 have hby:∀ ys,(r1 xs).2=some ys→∀ x∈ys,x<256:=by_num (o:=some xs) (fun ys e=>by simp only [Option.some.injEq]at e;subst e;exact hx) 1
 cases h4:(r1 xs).2 with
 | none=>simp [numO]
 | some us=>
  simp only [numO]
  split
  ·rename_i hl
   have:=psum_bound us 2 (hby us h4) hl
   simp at this ⊢
   omega
  ·simp
variable {xs:List Nat} {W:World}
theorem read_few{co:Option Addr}{cn cc:Nat}{cs:List C}(h:Cs W co cn cc cs)(hx:∀ x∈xs,x<256)(he:cs.map nrm=rnC xs):Few cs:=by
 constructor
 ·have h1:=rdCs_len (rnL xs) (r2 xs).1 (r3 xs).2
  have h2:=rK_le xs hx
  have h3:=congrArg List.length he
  simp only [List.length_map,rnC]at h3
  omega
 ·intro a ha
  have h1:nrm a∈rnC xs:=by rw [←he];exact List.mem_map.2 ⟨a,ha,rfl⟩
  have h2:=rdCs_b _ _ _ (nrm a) h1
  have h3:=(h.ok a ha).rd.1
  have h4:(nrm a).b=a.b:=rfl
  rw [h4]at h2
  omega
theorem cells5:Tryz.prog.cellsOf 5=1:=by kernel_rfl
theorem part5(xs:List Nat)(i:Nat)(h:i<xs.length)(w:World):(part 5 (bs xs).toArray i).run Tryz.prog w=.ok (.int .u8 ((xs.getD i 0:Nat):Int)) w:=by
 have hb:=bs_get xs i h
 simp [part,hb]
theorem items5(xs ys:List Nat)(w:World):∀ is:List Nat,(∀ i∈is,i<xs.length∧i<ys.length) →
  (Op.eqItems 9999 5 1 (bs xs).toArray (bs ys).toArray is).run Tryz.prog w=.ok (is.all fun i=>xs.getD i 0 == ys.getD i 0) w
 | [],_=>by simp [Op.eqItems]
 | i::is,h=>by
  have h1:=h i (by simp)
  have ih:=items5 xs ys w is (fun j hj=>h j (by simp [hj]))
  have pe:(Op.equalIn 9999 5 (.int .u8 ((xs.getD i 0:Nat):Int)) (.int .u8 ((ys.getD i 0:Nat):Int))).run Tryz.prog w=.ok (((xs.getD i 0:Nat):Int) == ((ys.getD i 0:Nat):Int)) w:=run_equalIn_int w 9998 5 .u8 .u8 _ _ Tryz.underlying5
  have e:(((xs.getD i 0:Nat):Int) == ((ys.getD i 0:Nat):Int))=(xs.getD i 0 == ys.getD i 0):=by
   rw [Bool.eq_iff_iff,beq_iff_eq,beq_iff_eq];omega
  rw [e]at pe
  simp only [Op.eqItems,Sem.run_bind,Nat.mul_one,part5 xs i h1.1,part5 ys i h1.2,Result.andThen_ok,pe,List.all_cons]
  cases hb:(xs.getD i 0 == ys.getD i 0)
  ·simp
  ·simpa using ih
theorem all_eq(xs ys:List Nat)(n:Nat)(hx:xs.length=n)(hy:ys.length=n):((List.range n).all fun i=>xs.getD i 0 == ys.getD i 0)=decide (xs=ys):=by
 rw [Bool.eq_iff_iff]
 simp only [List.all_eq_true,List.mem_range,beq_iff_eq,decide_eq_true_eq]
 constructor
 ·intro h
  apply List.ext_getElem (by omega)
  intro i h1 h2
  have:=h i (by omega)
  simpa [List.getD,List.getElem?_eq_getElem h1,List.getElem?_eq_getElem h2] using this
 ·rintro rfl i _
  rfl
theorem eq60(xs ys:List Nat)(hx:xs.length=512)(hy:ys.length=512)(w:World):(Op.equalIn 10000 263 (.agg (bs xs).toArray) (.agg (bs ys).toArray)).run Tryz.prog w=.ok (decide (xs=ys)) w:=by
 obtain ⟨i5,hi5,_⟩:=info_parts Tryz.info5
 rw [run_equalIn_array w 9999 _ _ Tryz.u60 hi5,cells5,items5 xs ys w (List.range 512) (fun i hi=>by simp at hi;omega),all_eq xs ys 512 hx hy]
theorem ret_node2{fn:Func}{a u:Tmp}(h:fn.results = #[.cell a 111,.tmp u]){tmps:Array Value}{W:World}{q:Nat}{leaf:Bool}{r:Int}{co:Option Addr}{cn cc:Nat}
  (hp:tmps.getD a undef=.pointer (some ⟨q,0,none⟩)) (hb:NB 111 W q leaf r co cn cc):(results fn tmps).run Tryz.prog W=.ok (.tuple #[.agg #[.bool leaf,.int .i64 r,.slice co cn cc],tmps.getD u undef]) W:=by
 have hu:∃ fs,Tryz.prog.underlying 111=some (.struct fs):=by
  have:(match Tryz.prog.underlying 111 with |some (.struct _)=>true |_=>false)=true:=by kernel_rfl
  cases hd:Tryz.prog.underlying 111 with
  | none=>rw [hd]at this;cases this
  | some d=>rw [hd]at this;cases d<;>simp at this ⊢
 obtain ⟨fs,hu⟩:=hu
 have hl:=run_loadVar_row (P:=Tryz.prog) W q 111 111 _ (0,0) _ hb hu rfl (by kernel_rfl)
 rw [results_cell_tmp h,hp]
 simp [asAddr,hl]
def isP(xs:List Nat):Bool:=hasN (rnL xs) ((r3 xs).1:Nat) (rnC xs)&&decide (pageN (rnL xs) ((r3 xs).1:Nat) (rnC xs)=xs)
theorem parse_len(ao:Option Addr)(n cap:Nat)(w:World)(hn:n≠512) :
  Calls Tryz.prog 116 #[.slice ao n cap] w fun e w'=>e=.returned (.tuple #[.agg #[.bool false,.int .i64 0,.slice none 0 0],.int .i64 9])∧Below w.heap.size w w':=by
 have q0:=hid (NB.new 111 w false 0 none 0 0)
 have b0:Hid (Below w.heap.size w (w.alloc (.cells #[.bool false,.int .i64 0,.slice none 0 0] 111))):=hid (ext1 _)
 have h1:((n:Int) == 512)=false:=by simp;omega
 have h2:((n:Int) != 512)=true:=by simp;omega
 clear hn
 go_enter Tryz.func116,Tryz.ntmps116
 go_wp2
 (try simp only [Exit.inBlock,Exit.then])
 refine bodyPost_ret (ret_node2 (a:=2) (u:=3) (by kernel_rfl) rfl q0.out) rfl ?_
 exact ⟨rfl,b0.out⟩
abbrev SP60(t b off:Nat)(M1 M2:List Value)(W:World):Prop:=(loadVar 263 ⟨t,0,none⟩).run Tryz.prog W=.ok (.agg M1.toArray) W∧(loadVar 263 ⟨b,off,none⟩).run Tryz.prog W=.ok (.agg M2.toArray) W
theorem rd_load{b off cap:Nat}(h:Rd W (some ⟨b,off,none⟩) 512 cap xs):(loadVar 263 ⟨b,off,none⟩).run Tryz.prog W=.ok (.agg (bs xs).toArray) W:=by
 refine load60 h.1 fun j v hj=>?_
 obtain ⟨hj2,rfl⟩:=bs_get' xs j v hj
 obtain ⟨b',o',e,hc⟩:=h.2.2.2 (by omega)
 simp only [Option.some.injEq,Addr.mk.injEq,and_true]at e
 obtain ⟨rfl,rfl⟩:=e
 rw [Addr.add_lit]
 exact hc j (by have:=h.1;omega)
theorem parse_page(ao:Option Addr)(cap:Nat)(xs:List Nat)(w:World)(h:Rd w ao 512 cap xs)(hx:∀ x∈xs,x<256) :
  Calls Tryz.prog 116 #[.slice ao 512 cap] w fun e w'=>Below w.heap.size w w'∧((isP xs=false∧e=.returned (.tuple #[.agg #[.bool false,.int .i64 0,.slice none 0 0],.int .i64 9])) ∨
   (isP xs=true∧∃ co cn cc cs,e=.returned (.tuple #[.agg #[.bool (rnL xs),.int .i64 ((r3 xs).1:Nat),.slice co cn cc],.int .i64 0])∧Pn5 w.heap.size w' co cn cc cs∧cs.map nrm=rnC xs)):=by
 obtain ⟨b,off,rfl,hc⟩:=h.2.2.2 (by omega)
 clear hc
 have q0:=hid (NB.new 111 w false 0 none 0 0)
 have b0:Hid (Below w.heap.size w (w.alloc (.cells #[.bool false,.int .i64 0,.slice none 0 0] 111))):=hid (ext1 _)
 have h':=hid h
 have cr:Hid (Calls Tryz.prog 176 #[.slice (some ⟨b,off,none⟩) 512 cap] (w.alloc (.cells #[.bool false,.int .i64 0,.slice none 0 0] 111)) fun e w'=>∃ co cn cc cs,e=.returned (.agg #[.bool (rnL xs),.int .i64 ((r3 xs).1:Nat),.slice co cn cc])∧Pn5 (w.alloc (.cells #[.bool false,.int .i64 0,.slice none 0 0] 111)).heap.size w' co cn cc cs∧cs.map nrm=rnC xs∧Below (w.alloc (.cells #[.bool false,.int .i64 0,.slice none 0 0] 111)).heap.size (w.alloc (.cells #[.bool false,.int .i64 0,.slice none 0 0] 111)) w'):=hid (by
  cases hL:rnL xs with
  | true=>exact read_true _ cap xs _ (h.keep b0.out) hx hL
  | false=>exact read_false _ cap xs _ (h.keep b0.out) hx hL)
 have cw:=hid (fun W co cn cc cs (hC:Cs W co cn cc cs) (he:cs.map nrm=rnC xs)=>(show Calls Tryz.prog 174 #[.agg #[.bool (rnL xs),.int .i64 ((r3 xs).1:Nat),.slice co cn cc]] W fun e w'=>e=.returned (.tuple #[pgV (wrN (rnL xs) ((r3 xs).1:Nat) (rnC xs)),.bool (hasN (rnL xs) ((r3 xs).1:Nat) (rnC xs))])∧Below W.heap.size W w' by
  have:=written_any (rnL xs) ((r3 xs).1:Nat) co cn cc cs W hC (read_few hC hx he)
  rw [←he,wr_nrm,has_nrm];exact this))
 have hX:(wrN (rnL xs) ((r3 xs).1:Nat) (rnC xs)).length=512:=wrN_length _ _ _
 have EQ:=fun W=>eq60 (wrN (rnL xs) ((r3 xs).1:Nat) (rnC xs)) xs hX h.1 W
 have hP:Hid (isP xs=(hasN (rnL xs) ((r3 xs).1:Nat) (rnC xs)&&decide (wrN (rnL xs) ((r3 xs).1:Nat) (rnC xs)=xs))):=hid (by
  unfold isP wrN
  cases hasN (rnL xs) ((r3 xs).1:Nat) (rnC xs)<;>simp)
 have al:=hid alloc60
 have st:Hid (∀ W:World,(storeVar 263 ⟨W.heap.size,0,none⟩ (pgV (wrN (rnL xs) ((r3 xs).1:Nat) (rnC xs)))).run Tryz.prog (W.alloc (.cells (bs (zs 512)).toArray 263))=.ok () ((W.alloc (.cells (bs (zs 512)).toArray 263)).setRow W.heap.size (bs (wrN (rnL xs) ((r3 xs).1:Nat) (rnC xs))).toArray)∧PB ((W.alloc (.cells (bs (zs 512)).toArray 263)).setRow W.heap.size (bs (wrN (rnL xs) ((r3 xs).1:Nat) (rnC xs))).toArray) W.heap.size (wrN (rnL xs) ((r3 xs).1:Nat) (rnC xs))):=hid (fun W=>(PB.new W).store hX)
 have hpv:∀ x,pgV x=.agg (bs x).toArray:=fun _=>rfl
 generalize isP xs=IP at *
 generalize hasN (rnL xs) ((r3 xs).1:Nat) (rnC xs)=HS at *
 generalize wrN (rnL xs) ((r3 xs).1:Nat) (rnC xs)=X at *
 generalize decide (X=xs)=DX at *
 generalize rnL xs=LF at *
 generalize (((r3 xs).1:Nat):Int)=RR at *
 generalize rnC xs=RC at *
 rw [hpv X]at cw st
 obtain ⟨M1,hM1⟩:∃ M1,M1=bs X:=⟨_,rfl⟩
 obtain ⟨M2,hM2⟩:∃ M2,M2=bs xs:=⟨_,rfl⟩
 obtain ⟨Z,hZ⟩:∃ Z,Z=zs 512:=⟨_,rfl⟩
 rw [←hM1]at cw st EQ
 rw [←hM2]at EQ
 rw [←hZ]at st al
 have hld:Hid (∀ W,Rd W (some ⟨b,off,none⟩) 512 cap xs→(loadVar 263 ⟨b,off,none⟩).run Tryz.prog W=.ok (.agg M2.toArray) W):=hid (fun W hr=>by rw [hM2];exact rd_load hr)
 have hlp:Hid (∀ W t,PB W t X→(loadVar 263 ⟨t,0,none⟩).run Tryz.prog W=.ok (.agg M1.toArray) W):=hid (fun W t hr=>by rw [hM1];exact hr.load)
 have EQ':=hid EQ
 have hat:∀ W,(Instr.arrayAt 263 (.slice (some ⟨b,off,none⟩) 512 cap)).run Tryz.prog W=.ok (.pointer (some ⟨b,off,none⟩)) W:=fun W=>by simp [Instr.arrayAt,run_underlying Tryz.u60]
 clear h hx hX hpv hZ hM1 hM2 EQ
 go_enter Tryz.func116,Tryz.ntmps116
 go_upto_region 5 with (first
  | (go_at_call 176;refine cr.out.mono ?_;rintro e w1 ⟨co,cn,cc,cs,rfl,hC,he,hb⟩;have C1:=hid hC;have E1:=hid he;have B1:=hid hb;clear hC he hb)
  | (go_at_call 174;refine (cw.out _ co cn cc cs (C1.out.cs.keep (ext1 _)) E1.out).mono ?_;rintro e w2 ⟨rfl,hb⟩;have B2:=hid (gt (ext1 (.cells #[.bool LF,.int .i64 RR,.slice co cn cc] 111)) hb);have N2:=hid ((NB.new 111 w1 LF RR co cn cc).keep hb);clear hb)
  | ((with_reducible refine here_op 5 ?_);refine wpList_alloc_run rfl 263 rfl _ _ (al.out _) ?_)
  | ((with_reducible refine here_store 263 ?_);refine wpList_store_run rfl 263 (.tmp 5) (.tmp 16) rfl ⟨w2.heap.size,0,none⟩ rfl _ rfl _ (st.out _).1 ?_))
 obtain ⟨w3,hw3⟩:∃ w3,w3=(w2.alloc (.cells (bs Z).toArray 263)).setRow w2.heap.size M1.toArray:=⟨_,rfl⟩
 rw [←hw3]
 have B3:Below w2.heap.size w2 w3:=by rw [hw3];exact below_row (ext1 _) (Nat.le_refl _) _
 have P3:=hid (show PB w3 w2.heap.size X by rw [hw3];exact (st.out w2).2)
 have BB:=hid (show Below w1.heap.size w1 w3 from gt B2.out B3)
 have BA:=hid (show Below w.heap.size w w3 from gt (gt b0.out B1.out) BB.out)
 have N3:=hid (N2.out.keep B3)
 have Q3:=hid ((q0.out.keep B1.out).keep BB.out)
 obtain ⟨t5,ht5⟩:∃ t5,t5=w2.heap.size:=⟨_,rfl⟩
 rw [←ht5]at P3 ⊢
 have g1:SP60 t5 b off M1 M2 w3.drew:=⟨hlp.out _ _ (P3.out.keep (Below.refl _ _).drew),hld.out _ (h'.out.keep BA.out.drew)⟩
 obtain ⟨n0,n1,n2⟩:=N3.out.cells
 obtain ⟨v0,v1,v2⟩:=Q3.out.cells
 have f0:=Q3.out.fz 0;have f1:=Q3.out.fz 1;have f2:=Q3.out.fz 2
 clear hw3 B3 ht5 cr cw al st
 cases HS with
 | false=>
  have hIP:IP=false:=hP.out
  refine wp_region_K (S:=SP60 t5 b off M1 M2) (fun _=>false) (by kernel_rfl) (g1) (fun hHeld=>?_)
  refine gkp 0 ?_
  refine gkp 1 ?_
  refine gkp 2 ?_
  refine gku 3 ?_
  refine gku 4 ?_
  refine gku 5 ?_
  refine gku 6 ?_
  refine gku 7 ?_
  refine gkp 8 ?_
  refine wpAnyK_done (by kernel_rfl) ?_ _
  go_wp2
  (try simp only [Exit.inBlock,Exit.then])
  refine bodyPost_ret (ret_node2 (a:=2) (u:=3) (by kernel_rfl) rfl ((Q3.out.keep (Below.refl _ _).drew).set3 false 0 none 0 0)) rfl ?_
  exact ⟨below_set (below_set (below_set BA.out.drew (by simp) _) (by simp) _) (by simp) _,Or.inl ⟨hIP,rfl⟩⟩
 | true=>
  have EQ:=EQ'.out
  cases DX with
  | false=>
   have hIP:IP=false:=hP.out
   refine wp_region_K (S:=SP60 t5 b off M1 M2) (fun _=>false) (by kernel_rfl) (g1) (fun hHeld=>?_)
   refine gkp 0 ?_
   refine gkp 1 ?_
   refine gkp 2 ?_
   refine gkt 3 ?_ (v:=.agg M1.toArray) (h:=by intro W hSw;obtain ⟨y0,y1⟩:=hSw;simp [execOp,Act.eval,Instr.loadAt,Instr.sureAddr,y0,Result.andThen])
   refine gkp 4 ?_
   refine gkp 5 ?_
   refine gkt 6 ?_ (v:=.agg M2.toArray) (h:=by intro W hSw;obtain ⟨y0,y1⟩:=hSw;simp [execOp,Act.eval,Instr.loadAt,Instr.sureAddr,y1,Result.andThen])
   refine gkp 7 ?_
   refine gkp 8 ?_
   refine wpAnyK_done (by kernel_rfl) ?_ _
   clear EQ
   go_wp2
   (try simp only [Exit.inBlock,Exit.then])
   refine bodyPost_ret (ret_node2 (a:=2) (u:=3) (by kernel_rfl) rfl ((Q3.out.keep (Below.refl _ _).drew).set3 false 0 none 0 0)) rfl ?_
   exact ⟨below_set (below_set (below_set BA.out.drew (by simp) _) (by simp) _) (by simp) _,Or.inl ⟨hIP,rfl⟩⟩
  | true=>
   have hIP:IP=true:=hP.out
   refine wp_region_K (S:=SP60 t5 b off M1 M2) (fun _=>false) (by kernel_rfl) (g1) (fun hHeld=>?_)
   refine gkp 0 ?_
   refine gkp 1 ?_
   refine gkp 2 ?_
   refine gkt 3 ?_ (v:=.agg M1.toArray) (h:=by intro W hSw;obtain ⟨y0,y1⟩:=hSw;simp [execOp,Act.eval,Instr.loadAt,Instr.sureAddr,y0,Result.andThen])
   refine gkp 4 ?_
   refine gkp 5 ?_
   refine gkt 6 ?_ (v:=.agg M2.toArray) (h:=by intro W hSw;obtain ⟨y0,y1⟩:=hSw;simp [execOp,Act.eval,Instr.loadAt,Instr.sureAddr,y1,Result.andThen])
   refine gkp 7 ?_
   refine gkp 8 ?_
   refine wpAnyK_done (by kernel_rfl) ?_ _
   clear EQ
   go_wp2
   (try simp only [Exit.inBlock,Exit.then])
   refine bodyPost_ret (ret_node2 (a:=2) (u:=3) (by kernel_rfl) rfl ((Q3.out.keep (Below.refl _ _).drew).set3 LF RR co cn cc)) rfl ?_
   refine ⟨below_set (below_set (below_set BA.out.drew (by simp) _) (by simp) _) (by simp) _,Or.inr ⟨hIP,co,cn,cc,cs,rfl,?_,E1.out⟩⟩
   refine (C1.out.frame (fun k h1 h2=>?_)).low (by simp)
   have hk:k≠w.heap.size:=(by simp at h1;omega)
   show (((w3.setCell ⟨w.heap.size,0,none⟩ (.bool LF)).setCell ⟨w.heap.size,1,none⟩ (.int .i64 RR)).setCell ⟨w.heap.size,2,none⟩ (.slice co cn cc)).heap[k]? = w1.heap[k]?
   rw [heap_setCell_other _ _ k _ (by simpa using hk),heap_setCell_other _ _ k _ (by simpa using hk),heap_setCell_other _ _ k _ (by simpa using hk)]
   exact BB.out.block k h2
end Cel
namespace Cel
open Go.RowKit
end Cel
namespace Cel
open Go.RowKit
def above(p:Option Int)(k:Int):Bool:=match p with |none=>true |some z=>decide (z<k)
def okFrom(leaf:Bool):Option Int→List C→Bool
 | _,[]=>true
 | p,a::l=>cellB leaf a&&(above p a.k&&okFrom leaf (some a.k) l)
theorem ok_rise(leaf:Bool)(a:C)(l:List C):okFrom leaf (some a.k) l=(riseB (a::l)&&l.all (cellB leaf)):=by
 induction l generalizing a with
 | nil=>rfl
 | cons b r ih=>
  simp only [okFrom,ih,above,rise_cons,List.all_cons]
  cases cellB leaf b<;>cases decide (a.k<b.k)<;>simp
theorem ok_none(leaf:Bool)(cs:List C):okFrom leaf none cs=(riseB cs&&cs.all (cellB leaf)):=by
 cases cs with
 | nil=>rfl
 | cons a l=>
  simp only [okFrom,ok_rise,above,List.all_cons]
  cases cellB leaf a<;>simp
def headB(leaf:Bool)(r:Int):Bool:=if leaf then r == 0 else pagedB r
theorem good_ok(leaf:Bool)(r:Int)(cs:List C):goodN leaf r cs=(headB leaf r&&okFrom leaf none cs):=by
 rw [ok_none]
 unfold goodN headB
 cases leaf
 ·have:cs.all (cellB false)=cs.all aboveB:=rfl
  rw [this]
  simp only [Bool.false_eq_true,if_false]
  cases riseB cs<;>cases pagedB r<;>simp
 ·have:cs.all (cellB true)=cs.all leafB:=rfl
  rw [this]
  simp only [if_true]
  cases riseB cs<;>cases (r == 0)<;>simp
abbrev SG(qb q b o n m op:Nat)(leaf:Bool)(pk:Int)(a:C)(W:World):Prop:=
 S5 qb a W∧W.cell? ⟨q,0,none⟩=some (.bool leaf)∧W.cell? ⟨q,2,none⟩=some (.slice (some ⟨b,o,none⟩) n m)∧W.cell? ⟨b,op,none⟩=some (.int .i64 pk)
end Cel
end Go.Proofs.YtfcikkechphmaaaGreatDoor
