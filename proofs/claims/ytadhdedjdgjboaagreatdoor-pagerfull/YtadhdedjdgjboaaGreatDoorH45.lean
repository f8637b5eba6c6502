/- The document's example; no statement of the seat is proved here. -/
import Derived.Test.YtadhdedjdgjboaaGreatDoorH43
set_option maxHeartbeats 16000000
set_option maxRecDepth 20000
namespace Go.Proofs.YtadhdedjdgjboaaGreatDoor
section
open Go.RowKit Go.Maps
open Dsk (gt hid undrew keep_old keep_cell lt_cell Rd DS FS Sec DiskP DFrame Grew From lenD readD newD known)
open Cch (CS CP Fr)
variable {w:World}
theorem below_fr{B:Nat}{W W':World}{S:Nat→Prop}(hb:Below B w W)(hf:Fr S W W')(hS:∀ b,S b→B≤b)(hB:B≤W.heap.size):Below B w W':=
 ⟨hf.os.trans hb.os,hf.tape.trans hb.tape,hf.output.trans hb.output,Nat.le_trans hb.size hf.size,fun k hk=>(hf.blk k (Nat.lt_of_lt_of_le hk hB) (fun h=>by have:=hS k h;omega)).trans (hb.block k hk)⟩
theorem tx_begin{w':World}{p:Nat}{x:PC}{P:Dsk.Parts}{C:Cch.Parts}{d:DS}{s:CS}{sure:List Pg}{n:Nat}{now:List Pg}{c:List Bool}{enc:List Sec}(h:Tx w p x P C d s sure n now c enc)(hp:PgAt w' p { x with busy:=true })(hf:Fr (fun b=>b=p) w w'):Tx w' p { x with busy:=true } P C d s sure n now c enc:=by
 have ho:∀ b,Out w (NC p x P C) b→w'.heap[b]? = w.heap[b]?:=fun b hb=>hf.blk b hb.1 (fun e=>hb.2 (Or.inr (Or.inr e)))
 exact ⟨⟨hp,h.core.dk.stay hf.size (fun b hb hd=>hf.blk b hb (fun e=>h.core.dp (by rcases hd with h1 |h1;exact Or.inr (e▸h1);exact Or.inl (e▸h1)))),h.core.ck.stay (fun b hb hS=>hf.blk b hb (fun e=>h.core.cp (e▸hS))),h.core.dc,h.core.dp,h.core.cp⟩,
  h.chg.turn (ho _ h.mo) (fun _ hb=>hb.later hf.size) (fun _ _ _ hb hc=>(World.cell?_of_block (ho _ hb)).trans hc),h.mo.later hf.size,h.fits,h.pages,h.np,h.ws,h.wn,h.bs,h.bn,tab_of h.tab (ho _ h.t0),h.t0.later hf.size,h.tm,h.sm⟩
theorem ex_store(b:Pg):(storeD (newD 99) [] [b] [true] 1).1=0∧lenD (storeD (newD 99) [] [b] [true] 1).2 0=4∧lenD (storeD (newD 99) [] [b] [true] 1).2 1=0:=⟨by kernel_rfl,by kernel_rfl,by kernel_rfl⟩
theorem ex_past:pastL [true] 1 0 = []:=by kernel_rfl
theorem ex_idle(b:Pg):idle [] [b] [true]=false:=by kernel_rfl
theorem clean_new(r:Nat):Clean (newD r) []:=⟨rfl,rfl,rfl⟩
theorem whole_nil:Whole []:=fun i hi=>by cases hi
theorem lives_any(w:World)(hT:Jrn.Tab w)(h0:0<w.heap.size):Calls Tryz.prog 8 #[] w fun e w'=>e=.returned (.bool true)∧Below w.heap.size w w':=by
 have c9:=hid (Dsk.new_yes 99 w (by omega) (by omega))
 have HT:=hid hT
 clear hT
 go_enter Tryz.func8,Tryz.ntmps8
 have t1:Hid True:=hid trivial
 go_wp2_with (first
  | (go_at_call 9;refine c9.out.mono ?_;rintro e w1 ⟨rfl,⟨P1,hd1,hk1⟩,hb1⟩;have D1:=hid hd1;have K1:=hid hk1;have B1:=hid hb1;obtain ⟨q,hq⟩:∃ q,w.heap.size=q:=⟨_,rfl⟩;rw [hq]at D1 K1 ⊢;have HQ:=hid hq;clear hd1 hk1 hb1 hq)
  | (go_at_call 10;refine (open_clean q 8 P1 (newD 99) [] w1 D1.out (clean_new 99) whole_nil (by simp) (by omega) (by omega) (HT.out.keep B1.out) ⟨by have:=B1.out.size;omega,fun hk=>(by rcases hk with hk | hk;(have:=HQ.out;omega);(have:=K1.out _ hk;omega))⟩ (by simp [newD])).mono ?_;rintro e w2 ⟨p,x,rfl,ho⟩;obtain ⟨P2,C2,s2,r2,eh,em,er,hnc⟩:=ho.is;have R2:Hid (Tx w2 p x P2 C2 (newD 99) s2 [] 0 [] [] [[]]):=hid r2;have XB:=hid ho.busy;have XQ:=hid ho.xq;have XC:=hid ho.com;have XM0:Hid (w.heap.size≤x.m):=hid (Nat.le_trans B1.out.size ho.mnew);have SC:Hid (s2.hit=0∧s2.miss=0):=hid ⟨eh,em⟩;have HNC:Hid (∀ b,NC p x P2 C2 b→w.heap.size≤b):=hid (fun b hb=>(by rcases hnc b hb with h1 | h1;(rcases h1 with h2 | h2;(have:=HQ.out;omega);(have:=K1.out _ h2;have:=HQ.out;omega));(have:=B1.out.size;omega)));have B2:Hid (Below w.heap.size w w2):=hid (below_fr B1.out ho.fr (fun b hb=>(by rcases hb with h2 | h2;(have:=HQ.out;omega);(have:=K1.out _ h2;have:=HQ.out;omega))) B1.out.size);clear ho r2 eh em er hnc)
  | (go_at_call 30;refine (begin_call p x w2 R2.out.core.hd XB.out).mono ?_;rintro e w3 ⟨rfl,hp3,hf3⟩;have T3:=hid (tx_begin R2.out hp3 hf3);have B3:Hid (Below w.heap.size w w3):=hid (below_fr B2.out hf3 (fun b hb=>HNC.out b (Or.inr (Or.inr hb))) B2.out.size);clear hp3 hf3;obtain ⟨x1,hx1⟩:∃ x1:PC,x1 = { x with busy:=true }:=⟨_,rfl⟩;rw [←hx1]at T3;have XM:Hid (w.heap.size≤x1.m):=hid (by rw [hx1];exact XM0.out);have X1:Hid (x1.q=q∧x1.com=0∧x1.busy=true∧∀ b,NC p x1 P2 C2 b→w.heap.size≤b):=hid (by rw [hx1];exact ⟨XQ.out,XC.out,rfl,HNC.out⟩);clear hx1 HNC)
  | (go_at_call 31;refine (grow_call p x1 P2 C2 (newD 99) s2 [] 0 [] [] [[]] w3 T3.out X1.out.2.2.1 (by simp) (by omega)).mono ?_;rintro e w4 ⟨rfl,⟨enc4,ht4⟩,hf4⟩;obtain ⟨x2,hx2⟩:∃ x2:PC,x2 = { x1 with np:=([]:List Pg).length+1 }:=⟨_,rfl⟩;rw [←hx2]at ht4;have T4:Hid (Tx w4 p x2 P2 C2 (newD 99) s2 [] 1 [zeros] [true] enc4):=hid ht4;have B4:Hid (Below w.heap.size w w4):=hid (below_fr B3.out hf4 (fun b hb=>(by rcases hb with h1 | h1;exact X1.out.2.2.2 b (Or.inr (Or.inr h1));(rw [h1];exact XM.out))) B3.out.size);have X2:Hid (x2.q=q∧x2.com=0∧x2.busy=true∧(∀ b,NC p x2 P2 C2 b→w.heap.size≤b)∧x2.m=x1.m):=hid (by rw [hx2];exact ⟨X1.out.1,X1.out.2.1,X1.out.2.2.1,X1.out.2.2.2,rfl⟩);clear ht4 hf4 hx2)
  | (go_at_call 33;refine (show Calls Tryz.prog 33 #[.int .u8 7] w4 _ from page_any 7 w4).mono ?_;rintro e w5 ⟨g5,rfl,r5,_,_,hb5⟩;have R5:=hid r5;have T5:=hid (T4.out.later hb5);have B5:=hid (gt B4.out hb5);clear r5 hb5)
  | (go_at_call 32;refine (show Calls Tryz.prog 32 #[.pointer (some ⟨p,0,none⟩),.int .i64 1,.slice (some ⟨g5,0,none⟩) 512 512] w5 _ from put_page p 1 g5 0 512 (pageS 7) x2 P2 C2 (newD 99) s2 [] 1 [zeros] [true] enc4 w5 T5.out X2.out.2.2.1 (by omega) (by simp) (by omega) R5.out (pageS_bytes 7)).mono ?_;rintro e w6 ⟨rfl,⟨enc6,ht6⟩,hf6⟩;have T6:Hid (Tx w6 p x2 P2 C2 (newD 99) s2 [] 2 [pageS 7] [true] enc6):=hid ht6;have B6:Hid (Below w.heap.size w w6):=hid (below_fr B5.out hf6 (fun b hb=>(by rcases hb with h1 | h1;exact X2.out.2.2.2.1 b (Or.inr (Or.inr h1));(rw [h1,X2.out.2.2.2.2];exact XM.out))) B5.out.size);clear ht6 hf6)
  | (go_at_call 27;refine (commit_ok p x2 P2 C2 (newD 99) _ s2 [] 2 [pageS 7] [true] enc6 w6 T6.out X2.out.2.2.1 (ex_idle _) rfl (Or.inl rfl) (by have:=SC.out;omega) (by rw [jL,show ([]:List Pg).length=0 from rfl,show [pageS 7].length=1 from rfl,ex_past];simp) (by simp [newD]) (by have:=X2.out.2.1;omega) (show storeD (newD 99) [] [pageS 7] [true] 1=(0,(storeD (newD 99) [] [pageS 7] [true] 1).2) from Prod.ext (ex_store _).1 rfl)).mono ?_;rintro e w7 ⟨rfl,P7,C7,s7,m7,ht7,_,hf7,_,_⟩;have B7:Hid (Below w.heap.size w w7):=hid (below_fr B6.out hf7 (fun b hb=>X2.out.2.2.2.1 b hb) B6.out.size);have D7:Hid (DiskP w7 q P7 (storeD (newD 99) [] [pageS 7] [true] 1).2):=hid (by have h1:=ht7.core.dk;rw [show (PC.ended { x2 with pages:=[pageS 7].length,com:=x2.com+1 } m7).q=x2.q from rfl,X2.out.1]at h1;exact h1);clear ht7 hf7)
  | (go_at_call 29;clear t1;refine (Dsk.sectors_call q P7 _ 0 w7 D7.out).mono ?_;rw [(ex_store (pageS 7)).2.1];rintro e w8 ⟨rfl,hw8⟩;obtain rfl:=hw8.symm)
  | (go_at_call 29;refine (Dsk.sectors_call q P7 _ 1 w7 D7.out).mono ?_;rw [(ex_store (pageS 7)).2.2];rintro e w8 ⟨rfl,hw8⟩;obtain rfl:=hw8.symm))
 go_ret
 exact ⟨rfl,B7.out⟩
end
end Go.Proofs.YtadhdedjdgjboaaGreatDoor
