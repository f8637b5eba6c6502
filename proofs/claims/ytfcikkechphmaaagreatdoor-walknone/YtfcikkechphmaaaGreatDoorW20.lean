/- What a file's write does; no statement of the seat is proved here. -/
import Derived.Test.YtfcikkechphmaaaGreatDoorW19
import Derived.Test.YtfcikkechphmaaaGreatDoorW12
set_option maxHeartbeats 16000000
set_option maxRecDepth 20000
namespace Go.Proofs.YtfcikkechphmaaaGreatDoor
namespace Dsk
open Go.RowKit Go.Maps
def Reads6(p o g j L cap m:Nat)(X:Sec)(W:World):Prop:=
 W.cell? ⟨p,o,none⟩=some (.slice (some ⟨g,0,none⟩) L cap)∧W.cell? ⟨p,o+2,none⟩=some (.map (some m))∧(loadVar 306 ⟨g,j*128,none⟩).run Tryz.prog W=.ok (secV X) W
variable {F:FS} {g cap m i p o:Nat} {S:Nat→Prop} {w:World}
theorem load_sec(HF:FileAt w p o S (some ⟨g,0,none⟩) cap m F)(sn:∀ x∈F.now,x.length=128)(hi:i<F.now.length) :
  (loadVar 306 ⟨g,i*128,none⟩).run Tryz.prog w=.ok (secV (F.now.getD i [])) w:=by
 have hl:(F.now.getD i []).length=128:=by rw [List.getD,List.getElem?_eq_getElem hi];exact sn _ (List.getElem_mem hi)
 refine load80 hl fun j v hv=>?_
 have hj:j<128:=by
  have:=(List.getElem?_eq_some_iff.1 hv).1
  rw [bs_length,hl]at this;exact this
 rw [Addr.add_lit,HF.row.cellAt (i*128+j) (by have:(i+1)*128≤F.now.length*128:=Nat.mul_le_mul_right _ (by omega);omega),secs_get sn i j hi hj]
 exact hv
theorem reads6(HF:FileAt w p o S (some ⟨g,0,none⟩) cap m F)(sn:∀ x∈F.now,x.length=128)(hi:i<F.now.length):Reads6 p o g i F.now.length cap m (F.now.getD i []) w:=
 ⟨HF.c0,HF.c2,load_sec HF sn hi⟩
variable {r:List Sec} {s:Sec} {n bc:Nat} {W:World}
theorem rest_rd{b off:Nat}(hs:s.length=128)(h:Rd W (some ⟨b,off,none⟩) n bc (s::r).flatten)(hn:128≤n):Rd W (if bc=128 then some ⟨b,off,none⟩ else some ⟨b,off+128,none⟩) (n - 128) (bc - 128) r.flatten:=by
 obtain ⟨hl,hc,hno,hat⟩:=h
 obtain ⟨b',off',hbo,hcell⟩:=hat (by omega)
 cases hbo
 simp only [List.flatten_cons,List.length_append,hs]at hl
 refine ⟨by omega,by omega,fun h=>?_,fun hp=>?_⟩
 ·split at h<;>cases h
 ·rw [if_neg (by omega)]
  refine ⟨b,off+128,rfl,fun t ht=>?_⟩
  rw [Nat.add_assoc,hcell (128+t) (by omega)]
  simp [List.getD,List.getElem?_append,hs,show ¬128+t<128 by omega]
theorem head_rd{bo:Option Addr}(hs:s.length=128)(h:Rd W bo n bc (s::r).flatten)(hn:128≤n):∃ b off,bo=some ⟨b,off,none⟩∧∀ j v,(bs s)[j]? = some v→W.cell? ((⟨b,off,none⟩:Addr).add j)=some v:=by
 obtain ⟨hl,hc,hno,hat⟩:=h
 obtain ⟨b,off,rfl,hcell⟩:=hat (by omega)
 refine ⟨_,_,rfl,fun j v hv=>?_⟩
 obtain ⟨hj,rfl⟩:=bs_get' s j v hv
 rw [Addr.add_lit,hcell j (by omega)]
 simp [List.getD,List.getElem?_append,hj]
theorem idx_le(d:List Bool):(idx d).length≤d.length:=by
 have:=List.length_filter_le (fun i=>d.getD i false) (List.range d.length)
 rw [List.length_range]at this;exact this
theorem op_at(l:List Oper)(i:Nat)(o:Oper)(h:l[i]? = some o):l.toArray[i]? = some o:=by simpa using h
theorem wf_i64(j:Nat)(h:j≤1000000000):(Lit.int .i64 (j:Int)).wf=true:=by
 simp [Lit.wf,IntKind.min,IntKind.max,IntKind.bits,IntKind.signed];omega
theorem write_any(p o:Nat)(S:Nat→Prop)(ao:Option Addr)(cap m:Nat)(F:FS)(at_:Nat)(bo:Option Addr)(bn bc:Nat)(ss:List Sec)(w:World)
  (hF:FileAt w p o S ao cap m F) (ok:F.Ok) (hat:at_≤F.now.length) (hss:∀ x∈ss,x.length=128) (hbd:at_+ss.length≤100000) (hbn:F.now.length≤100000) (hn:bn=ss.length*128)
  (hb:∀ w',FFrame w w' p o S→Rd w' bo bn bc ss.flatten) :
  Calls Tryz.prog 317 #[.pointer (some ⟨p,o,none⟩),.int .i64 (at_:Int),.slice bo bn bc] w fun e w'=>e=.returned (.tuple #[]) ∧
   ∃ ao' cap' m',FileAt w' p o (From S w) ao' cap' m' (wrN F at_ ss)∧FFrame w w' p o S:=by
 have HSS:=hid hss;have HF0:=hid hF;have HK0:=hid ok;have HB:=hid hb
 clear hss hF ok hb
 have Hn:=hid hn
 have hn2:bn≤12800000:=by omega
 clear hn
 go_enter Tryz.func317,Tryz.ntmps317
 go_wp2
 go_loopw [1,2] (fun a s W=>∃ (j n:Nat) (F':FS) (r:List Sec) (ao' bo':Option Addr) (cap' m' bc':Nat),a=.int .i64 (j:Int)∧s=.slice bo' n bc'∧Hid (n=r.length*128)∧F'.Ok∧j≤F'.now.length∧(∀ x∈r,x.length=128)∧Hid (j+r.length≤100000)∧Hid (F'.now.length≤100000) ∧
   (∀ w',FFrame w w' p o S→Rd w' bo' n bc' r.flatten)∧wrN F' j r=wrN F at_ ss∧FileAt W p o (From S w) ao' cap' m' F'∧FFrame w W p o S) (fun _ s _=>match s with | .slice _ n _=>n |_=>0)
 case atStart=>exact ⟨at_,bn,F,ss,ao,bo,cap,m,bc,rfl,rfl,Hn,HK0.out,hat,HSS.out,hbd,hbn,HB.out,rfl,HF0.out.up,FFrame.refl _ _ _ _⟩
 case round=>
  obtain ⟨j,n,F',r,ao',bo',cap',m',bc',rfl,rfl,hn',ok',hj,hr,hjr,hfn,hrd,hw,hF',hfr⟩:=hrel
  have HF:=hid hF';have HR:=hid hrd;have HW:=hid hw;have HK:=hid ok';have HFR:=hid hfr;have HX:=hid hr
  clear hF' hrd hw ok' hfr hr HSS HB HF0 HK0 Hn hbd hbn hat hn2
  cases r with
  | nil=>
   have h0:n=0:=by have:=hn'.out;simpa using this
   subst h0
   go_wp2
   go_end0
   refine ⟨rfl,ao',cap',m',?_,HFR.out⟩
   rw [←HW.out];exact HF.out
  | cons s r=>
   have hn3:128≤n:=by have:=hn'.out;simp only [List.length_cons]at this;omega
   have hs:=hid (HX.out s List.mem_cons_self)
   obtain ⟨bb,bf,rfl,_⟩:=head_rd hs.out (HR.out wr HFR.out) hn3
   have hn4:(0:Int)<(n:Int):=by omega
   have hwf:(Lit.int .i64 (j:Int)).wf=true:=wf_i64 j (by have:=hjr.out;omega)
   have HWF:=hid hwf
   clear hwf
   have hjb:j≤100000:=by have:=hjr.out;omega
   obtain ⟨L,hL⟩:∃ L,L=F'.now.length:=⟨_,rfl⟩
   rw [←hL]at hj
   have hLb:L≤100000:=by rw [hL];exact hfn.out
   have c0:=HF.out.c0;have c2:=HF.out.c2;have f0:=HF.out.f0;have hrow:=HF.out.row
   rw [←hL]at c0 hrow
   have HL:=hid hL
   have HROW:=hid hrow
   clear hL hrow
   have hp:p<wr.heap.size:=lt_cell c0
   have hp':¬p=wr.heap.size:=by omega
   obtain ⟨N,hN⟩:∃ N,N=(bs noughts).toArray:=⟨_,rfl⟩
   have al:=alloc80;have sl:=slice80
   rw [←hN]at al sl
   have AL:=hid al;have SL:=hid sl;have HN:=hid hN
   clear al sl hN
   by_cases hjn:j<L
   ·obtain ⟨g,cap2,hv,_,_⟩:=HROW.out.form (by omega)
    simp only [Value.slice.injEq,true_and]at hv
    obtain ⟨rfl,rfl⟩:=hv
    have HF2:=HF;have HFR2:=HFR
    have HL2:Hid (F'.now.length=L):=hid HL.out.symm
    have HSN:=hid HK.out.sn
    have HLT:Hid (j<F'.now.length):=hid (by rw [HL2.out];exact hjn)
    have hjne:((j:Int) == (L:Int))=false:=by simp;omega
    cases hd:F'.dirt.getD j false
    ·have HD:=hid hd
     clear hd
     have HNOW:=hid (HK.out.cl j HLT.out HD.out).2
     have HM:Hid ((idx F'.dirt).length<maxLen):=hid (by have:=idx_le F'.dirt;rw [HK.out.ld,HL2.out]at this;unfold maxLen;omega)
     go_wp2_with (first
      | ((with_reducible refine here_op 36 ?_);refine wpList_lookup_sec rfl (.tmp 34) (.tmp 35) 185 rfl 3 306 (int_keyed Tryz.underlying3) Tryz.underlying185 (zero80 _) m' _ (dirtD (F').dirt (F').old) rfl HF2.out.map _ (.int .i64 (j:Int)) rfl (keyOf_int_mk Tryz.underlying3 HWF.out) noughts false (atKey_of_not_has (by rw [has_dirt];exact HD.out) _) ((has_dirt _ _ _).trans HD.out) ?_)
      | ((with_reducible refine here_op 6 ?_);refine wpList_alloc_run rfl 306 rfl _ _ (AL.out _) ?_)
      | ((with_reducible refine here_store 306 ?_);refine wpList_store_run rfl 306 (.tmp 6) (.tmp 37) rfl ⟨wr.heap.size,0,none⟩ rfl (secV noughts) rfl _ (store80 (cur:=N.toList) noughts_length (by rw [HN.out];simp [bs_length,noughts_length]) (by rw [heap_alloc_new])) ?_;obtain ⟨W3,hW3⟩:∃ W3,W3=(wr.alloc (.cells N 306)).setRow wr.heap.size (bs noughts).toArray:=⟨_,rfl⟩;rw [←hW3];have hB3:Below wr.heap.size wr W3:=(by rw [hW3];exact below_setRow ((Below.refl _ _).alloc (Nat.le_refl _) _) (Nat.le_refl _) _);clear hW3;have HF3:=hid (HF2.out.later hB3);have HFR3:=hid (HFR2.out.later HF2.out.plt hB3);clear hB3;have c30:=HF3.out.c0;have c32:=HF3.out.c2;rw [HL2.out]at c30))
     -- what was sure is noted
     have HF3d:=HF3.out.stay (w':=W3.drew) (fun _ _ _=>rfl) (fun _ _ _=>rfl) (fun _=>rfl)
     have hR6:=reads6 HF3d HSN.out HLT.out
     rw [HL2.out,HNOW.out]at hR6
     refine wp_region_held_drew (S:=Reads6 p o g j L cap' m' (was (F').old j)) (by kernel_rfl) hR6 (fun hHeld=>?_)
     refine ght 0 ?_ (h:=by intro W hSw;obtain ⟨q0,q2,q8⟩:=hSw;go_simp;first |done |with_reducible rfl)
     refine ght 1 ?_ (h:=by intro W hSw;obtain ⟨q0,q2,q8⟩:=hSw;go_simp;first |done |with_reducible rfl)
     refine ght 2 ?_ (h:=by intro W hSw;obtain ⟨q0,q2,q8⟩:=hSw;go_simp;first |done |with_reducible rfl)
     refine ght 3 ?_ (h:=by intro W hSw;obtain ⟨q0,q2,q8⟩:=hSw;go_simp;first |done |with_reducible rfl)
     refine ght 4 ?_ (h:=by intro W hSw;obtain ⟨q0,q2,q8⟩:=hSw;go_simp;first |done |with_reducible rfl)
     refine ght 5 ?_ (h:=by intro W hSw;obtain ⟨q0,q2,q8⟩:=hSw;go_simp;first |done |with_reducible rfl)
     refine ght 6 ?_ (h:=by intro W hSw;obtain ⟨q0,q2,q8⟩:=hSw;go_simp;first |done |with_reducible rfl)
     refine ght 7 ?_ (h:=by intro W hSw;obtain ⟨q0,q2,q8⟩:=hSw;go_simp;first |done |with_reducible rfl)
     refine ght 8 ?_ (h:=by intro W hSw;obtain ⟨q0,q2,q8⟩:=hSw;go_simp;first |done |with_reducible rfl)
     refine ght 9 ?_ (h:=by intro W hSw;obtain ⟨q0,q2,q8⟩:=hSw;go_simp;first |done |with_reducible rfl)
     refine ght 10 ?_ (h:=by intro W hSw;obtain ⟨q0,q2,q8⟩:=hSw;go_simp;first |done |with_reducible rfl)
     refine wpAnyH_take (i:=11) (v:=secV (was (F').old j)) (op_at _ 11 _ rfl) (by kernel_rfl) (by kernel_rfl) (by kernel_rfl) (fun _ _ _ h=>h) (Or.inl ⟨by rfl,fun W hSw=>exec_load rfl rfl hSw.2.2⟩) (by assumption) ?_
     (try simp only [Act.put,sA,sZ,sS])
     refine gh1 12 (fun K hK=>?_)
     refine step_mapUpdate rfl (.tmp 44) (.tmp 45) (.tmp 52) 185 rfl 3 306 (int_keyed Tryz.underlying3) Tryz.underlying185 secR m' _ (dirtD (F').dirt (F').old) rfl HF3d.map HM.out _ _ (.int .i64 (j:Int)) rfl rfl (keyOf_int_mk Tryz.underlying3 HWF.out) _ [] (secR_mk _) ?_
     intro W4 hown4 hg4
     have hst:=step_put (dirt':=(F'.dirt.set j true)) HF3d HD.out (set_dirt (by rw [HK.out.ld];exact HLT.out)) hown4 hg4
     have HF4:=hid hst.1;have HFR4:=hid (HFR3.out.trans ((FFrame.refl W3 p o (From S w)).trans ⟨hst.2.os,hst.2.tape,hst.2.output,hst.2.size,fun k hk hp hS=>hst.2.block k hk hp (fun h=>hS (Or.inl h)),hst.2.cell,hst.2.fz⟩))
     clear hst hown4 hg4 HF3d
     have hR7:=reads6 HF4.out HSN.out HLT.out
     rw [HL2.out,HNOW.out]at hR7
     refine hK.out _ _ hR7 (fun hHeld=>?_)
     clear hK K hHeld hR7 hR6
     refine wpAnyH_done (by kernel_rfl) ?_ _
     (try simp only [Act.put])
     have c40:=HF4.out.c0
     rw [HL2.out]at c40
     clear c30 c32 c0 c2 f0 hHeld
     go_wp2_with (((with_reducible refine here_op 61 ?_);obtain ⟨_,_,had,hsrc⟩:=head_rd hs.out (HR.out W4 HFR4.out) hn3;cases had;obtain ⟨cur,hg,hle,_,hcp⟩:=step_copy HF4.out (x:=s) HSN.out HLT.out hs.out;have hcc:=hcp 0 s (by have:=hs.out;omega) (by simp);clear hcp;refine wpList_copy_own rfl (.tmp 59) (.tmp 60) 48 48 rfl 5 Tryz.underlying48 (by kernel_rfl) g (j*128) 128 128 ⟨bb,bf,none⟩ n bc' rfl rfl cur 306 hg (bs s) (by rw [bs_length,hs.out];exact (Nat.min_eq_right hn3).symm) hsrc (by rw [bs_length,hs.out];exact hle) (bs_one s) ?_;rw [Nat.add_zero]at hcc;have hl:(bs s).length=128:=(by rw [bs_length,hs.out]);rw [hl]at hcc ⊢;obtain ⟨W5,hW5⟩:∃ W5,W5=W4.setRow g (cur.toList.take (j*128)++(bs s++cur.toList.drop (j*128+128))).toArray:=⟨_,rfl⟩;rw [←hW5]at hcc ⊢;clear hW5 hg hle hsrc hl;have HF5:=hid hcc.1;have HFR5:=hid (HFR4.out.trans hcc.2);clear hcc))
     have hnr:n - 128=r.length*128:=by have:=hn'.out;simp only [List.length_cons]at this;omega
     have hjr':j+1+r.length≤100000:=by have:=hjr.out;simp only [List.length_cons]at this;omega
     have hlen:=wr1_len F' j s (by have:=HL.out;omega)
     refine ⟨⟨j+1,n - 128,wr1 F' j s,r,some ⟨g,0,none⟩,_,cap',m',_,by simp,rfl,hid hnr,wr1_ok HK.out (by have:=HL.out;omega) hs.out,hlen.2,fun x hx=>HX.out x (List.mem_cons_of_mem _ hx),hid hjr',hid (by have:=hfn.out;have:=hlen.1;omega),fun w' hw'=>rest_rd hs.out (HR.out w' hw') hn3,HW.out,?_,HFR5.out⟩,by simp only [];omega⟩
     rw [wr1_in HLT.out];exact HF5.out
    ·have HD:=hid hd
     clear hd
     go_wp2_with (first
      | ((with_reducible refine here_op 36 ?_);refine wpList_lookup_sec rfl (.tmp 34) (.tmp 35) 185 rfl 3 306 (int_keyed Tryz.underlying3) Tryz.underlying185 (zero80 _) m' _ (dirtD (F').dirt (F').old) rfl HF2.out.map _ (.int .i64 (j:Int)) rfl (keyOf_int_mk Tryz.underlying3 HWF.out) (was (F').old j) true (at_dirt _ _ _ HD.out _) ((has_dirt _ _ _).trans HD.out) ?_)
      | ((with_reducible refine here_op 6 ?_);refine wpList_alloc_run rfl 306 rfl _ _ (AL.out _) ?_)
      | ((with_reducible refine here_store 306 ?_);refine wpList_store_run rfl 306 (.tmp 6) (.tmp 37) rfl ⟨wr.heap.size,0,none⟩ rfl (secV (was (F').old j)) rfl _ (store80 (cur:=N.toList) (was_len HK.out j) (by rw [HN.out];simp [bs_length,noughts_length]) (by rw [heap_alloc_new])) ?_;obtain ⟨W3,hW3⟩:∃ W3,W3=(wr.alloc (.cells N 306)).setRow wr.heap.size (bs (was (F').old j)).toArray:=⟨_,rfl⟩;rw [←hW3];have hB3:Below wr.heap.size wr W3:=(by rw [hW3];exact below_setRow ((Below.refl _ _).alloc (Nat.le_refl _) _) (Nat.le_refl _) _);clear hW3;have HF3:=hid (HF2.out.later hB3);have HFR3:=hid (HFR2.out.later HF2.out.plt hB3);clear hB3;have c30:=HF3.out.c0;have c32:=HF3.out.c2;rw [HL2.out]at c30;obtain ⟨W4,hW4⟩:∃ W4,W4=W3:=⟨_,rfl⟩;subst hW4;have HF4:=HF3;have HFR4:=HFR3)
      | ((with_reducible refine here_op 61 ?_);obtain ⟨_,_,had,hsrc⟩:=head_rd hs.out (HR.out W4 HFR4.out) hn3;cases had;obtain ⟨cur,hg,hle,_,hcp⟩:=step_copy HF4.out (x:=s) HSN.out HLT.out hs.out;have hcc:=hcp 0 s (by have:=hs.out;omega) (by simp);clear hcp;refine wpList_copy_own rfl (.tmp 59) (.tmp 60) 48 48 rfl 5 Tryz.underlying48 (by kernel_rfl) g (j*128) 128 128 ⟨bb,bf,none⟩ n bc' rfl rfl cur 306 hg (bs s) (by rw [bs_length,hs.out];exact (Nat.min_eq_right hn3).symm) hsrc (by rw [bs_length,hs.out];exact hle) (bs_one s) ?_;rw [Nat.add_zero]at hcc;have hl:(bs s).length=128:=(by rw [bs_length,hs.out]);rw [hl]at hcc ⊢;obtain ⟨W5,hW5⟩:∃ W5,W5=W4.setRow g (cur.toList.take (j*128)++(bs s++cur.toList.drop (j*128+128))).toArray:=⟨_,rfl⟩;rw [←hW5]at hcc ⊢;clear hW5 hg hle hsrc hl;have HF5:=hid hcc.1;have HFR5:=hid (HFR4.out.trans hcc.2);clear hcc))
     have hnr:n - 128=r.length*128:=by have:=hn'.out;simp only [List.length_cons]at this;omega
     have hjr':j+1+r.length≤100000:=by have:=hjr.out;simp only [List.length_cons]at this;omega
     have hlen:=wr1_len F' j s (by have:=HL.out;omega)
     refine ⟨⟨j+1,n - 128,wr1 F' j s,r,some ⟨g,0,none⟩,_,cap',m',_,by simp,rfl,hid hnr,wr1_ok HK.out (by have:=HL.out;omega) hs.out,hlen.2,fun x hx=>HX.out x (List.mem_cons_of_mem _ hx),hid hjr',hid (by have:=hfn.out;have:=hlen.1;omega),fun w' hw'=>rest_rd hs.out (HR.out w' hw') hn3,HW.out,?_,HFR5.out⟩,by simp only [];omega⟩
     rw [wr1_in HLT.out,set_same_dirt HD.out];exact HF5.out
   ·obtain rfl:j=L:=by omega
    clear hjn hj
    have hjj:(j:Int)<(j:Int)+1:=by omega
    obtain ⟨i0,hi,hz0,hz1,hz2⟩:=info_parts info80
    have HI:=hid hi;have HZ0:=hid hz0;have HZ1:=hid hz1;have HZ2:=hid hz2
    clear hi hz0 hz1 hz2
    have HL2:Hid ((F'.now++[noughts]).length=j+1):=hid (by simp [←HL.out])
    have HSN:Hid (∀ x∈F'.now++[noughts],x.length=128):=hid (fun x hx=>by rcases List.mem_append.1 hx with h |h;exact HK.out.sn x h;simp only [List.mem_singleton]at h;rw [h];exact noughts_length)
    have HLT:Hid (j<(F'.now++[noughts]).length):=hid (by rw [HL2.out];omega)
    have HD:Hid (F'.dirt.getD j false=false):=hid (by rw [HL.out,←HK.out.ld];exact end_clean _)
    have HNOW:Hid ((F'.now++[noughts]).getD j []=was F'.old j):=hid (by rw [HL.out,was_end HK.out];simp [List.getD])
    have HM:Hid ((idx F'.dirt).length<maxLen):=hid (by have:=idx_le F'.dirt;rw [HK.out.ld,←HL.out]at this;unfold maxLen;omega)
    go_wp2_with (first
     | ((with_reducible refine here_op 25 ?_);refine wpList_build_run rfl 306 rfl _ (build80 _) ?_)
     | ((with_reducible refine here_op 26 ?_);refine wpList_buildSlice_run rfl 184 (.tmp 25) rfl (secV noughts) _ rfl _ (SL.out _) ?_)
     | ((with_reducible refine here_op 27 ?_);refine wpList_append_own_at _ rfl (.tmp 24) (.tmp 26) 184 rfl 0 306 i0 (secV noughts) 128 128 Tryz.underlying184 HI.out HZ0.out HZ1.out HZ2.out (by simp [secV,Value.cells,bs_length,noughts_length]) (by decide) (.slice ao' j cap') j (secs F'.now) rfl (HROW.out.alloc _) ⟨wr.heap.size,0,none⟩ 1 1 (bs noughts) rfl (by simp [bs_length,noughts_length]) (fun j u hj=>by rw [Addr.add_lit,World.cell?_alloc_at _ _ _ _ rfl,HN.out];simpa using hj) (bs_one _) (by unfold maxLen;omega) (by omega) (by omega) ?_;intro v1 w1 hown1 hgrow1 hnil1 hloc1;clear hnil1;obtain ⟨g1,cap1,hv1,_,_⟩:=hown1.form (by omega);subst hv1;have hstp:=step_append (ao1:=some ⟨g1,0,none⟩) (cap1:=cap1) HF.out HFR.out (by rw [←HL.out];exact hown1) (by rw [←HL.out];exact hgrow1) (by rw [←HL.out];exact hloc1);clear hown1 hgrow1 hloc1;rw [←HL.out]at hstp;obtain ⟨sA,sB,sC,sD,sE⟩:=hstp;obtain ⟨W2,hW2⟩:∃ W2,W2=w1.setCell ⟨p,o,none⟩ (.slice (some ⟨g1,0,none⟩) (j+1) cap1):=⟨_,rfl⟩;rw [←hW2]at sA sB;have HW2:=hid hW2;clear hW2;have HF2:=hid sA;have HFR2:=hid sB;clear sA sB;have c22:=HF2.out.c2)
     | ((with_reducible refine here_op 36 ?_);rw [←HW2.out];refine wpList_lookup_sec rfl (.tmp 34) (.tmp 35) 185 rfl 3 306 (int_keyed Tryz.underlying3) Tryz.underlying185 (zero80 _) m' _ (dirtD ((⟨F'.now++[noughts],F'.old,F'.dirt⟩:FS)).dirt ((⟨F'.now++[noughts],F'.old,F'.dirt⟩:FS)).old) rfl HF2.out.map _ (.int .i64 (j:Int)) rfl (keyOf_int_mk Tryz.underlying3 HWF.out) noughts false (atKey_of_not_has (by rw [has_dirt];exact HD.out) _) ((has_dirt _ _ _).trans HD.out) ?_)
     | ((with_reducible refine here_op 6 ?_);refine wpList_alloc_run rfl 306 rfl _ _ (AL.out _) ?_)
     | ((with_reducible refine here_store 306 ?_);refine wpList_store_run rfl 306 (.tmp 6) (.tmp 37) rfl ⟨W2.heap.size,0,none⟩ rfl (secV noughts) rfl _ (store80 (cur:=N.toList) noughts_length (by rw [HN.out];simp [bs_length,noughts_length]) (by rw [heap_alloc_new])) ?_;obtain ⟨W3,hW3⟩:∃ W3,W3=(W2.alloc (.cells N 306)).setRow W2.heap.size (bs noughts).toArray:=⟨_,rfl⟩;rw [←hW3];have hB3:Below W2.heap.size W2 W3:=(by rw [hW3];exact below_setRow ((Below.refl _ _).alloc (Nat.le_refl _) _) (Nat.le_refl _) _);clear hW3;have HF3:=hid (HF2.out.later hB3);have HFR3:=hid (HFR2.out.later HF2.out.plt hB3);clear hB3;have c30:=HF3.out.c0;have c32:=HF3.out.c2;rw [HL2.out]at c30))
    -- what was sure is noted
    have HF3d:=HF3.out.stay (w':=W3.drew) (fun _ _ _=>rfl) (fun _ _ _=>rfl) (fun _=>rfl)
    have hR6:=reads6 HF3d HSN.out HLT.out
    rw [HL2.out,HNOW.out]at hR6
    refine wp_region_held_drew (S:=Reads6 p o g1 j (j+1) cap1 m' (was ((⟨F'.now++[noughts],F'.old,F'.dirt⟩:FS)).old j)) (by kernel_rfl) hR6 (fun hHeld=>?_)
    refine ght 0 ?_ (h:=by intro W hSw;obtain ⟨q0,q2,q8⟩:=hSw;go_simp;first |done |with_reducible rfl)
    refine ght 1 ?_ (h:=by intro W hSw;obtain ⟨q0,q2,q8⟩:=hSw;go_simp;first |done |with_reducible rfl)
    refine ght 2 ?_ (h:=by intro W hSw;obtain ⟨q0,q2,q8⟩:=hSw;go_simp;first |done |with_reducible rfl)
    refine ght 3 ?_ (h:=by intro W hSw;obtain ⟨q0,q2,q8⟩:=hSw;go_simp;first |done |with_reducible rfl)
    refine ght 4 ?_ (h:=by intro W hSw;obtain ⟨q0,q2,q8⟩:=hSw;go_simp;first |done |with_reducible rfl)
    refine ght 5 ?_ (h:=by intro W hSw;obtain ⟨q0,q2,q8⟩:=hSw;go_simp;first |done |with_reducible rfl)
    refine ght 6 ?_ (h:=by intro W hSw;obtain ⟨q0,q2,q8⟩:=hSw;go_simp;first |done |with_reducible rfl)
    refine ght 7 ?_ (h:=by intro W hSw;obtain ⟨q0,q2,q8⟩:=hSw;go_simp;first |done |with_reducible rfl)
    refine ght 8 ?_ (h:=by intro W hSw;obtain ⟨q0,q2,q8⟩:=hSw;go_simp;first |done |with_reducible rfl)
    refine ght 9 ?_ (h:=by intro W hSw;obtain ⟨q0,q2,q8⟩:=hSw;go_simp;first |done |with_reducible rfl)
    refine ght 10 ?_ (h:=by intro W hSw;obtain ⟨q0,q2,q8⟩:=hSw;go_simp;first |done |with_reducible rfl)
    refine wpAnyH_take (i:=11) (v:=secV (was ((⟨F'.now++[noughts],F'.old,F'.dirt⟩:FS)).old j)) (op_at _ 11 _ rfl) (by kernel_rfl) (by kernel_rfl) (by kernel_rfl) (fun _ _ _ h=>h) (Or.inl ⟨by rfl,fun W hSw=>exec_load rfl rfl hSw.2.2⟩) (by assumption) ?_
    (try simp only [Act.put,sA,sZ,sS])
    refine gh1 12 (fun K hK=>?_)
    refine step_mapUpdate rfl (.tmp 44) (.tmp 45) (.tmp 52) 185 rfl 3 306 (int_keyed Tryz.underlying3) Tryz.underlying185 secR m' _ (dirtD ((⟨F'.now++[noughts],F'.old,F'.dirt⟩:FS)).dirt ((⟨F'.now++[noughts],F'.old,F'.dirt⟩:FS)).old) rfl HF3d.map HM.out _ _ (.int .i64 (j:Int)) rfl rfl (keyOf_int_mk Tryz.underlying3 HWF.out) _ [] (secR_mk _) ?_
    intro W4 hown4 hg4
    have hst:=step_put (dirt':=(F'.dirt++[true])) HF3d HD.out (fun i=>by rw [app_dirt,HK.out.ld,←HL.out]) hown4 hg4
    have HF4:=hid hst.1;have HFR4:=hid (HFR3.out.trans ((FFrame.refl W3 p o (From S w)).trans ⟨hst.2.os,hst.2.tape,hst.2.output,hst.2.size,fun k hk hp hS=>hst.2.block k hk hp (fun h=>hS (Or.inl h)),hst.2.cell,hst.2.fz⟩))
    clear hst hown4 hg4 HF3d
    have hR7:=reads6 HF4.out HSN.out HLT.out
    rw [HL2.out,HNOW.out]at hR7
    refine hK.out _ _ hR7 (fun hHeld=>?_)
    clear hK K hHeld hR7 hR6
    refine wpAnyH_done (by kernel_rfl) ?_ _
    (try simp only [Act.put])
    have c40:=HF4.out.c0
    rw [HL2.out]at c40
    clear c30 c32 c0 c2 f0 hHeld
    go_wp2_with (((with_reducible refine here_op 61 ?_);obtain ⟨_,_,had,hsrc⟩:=head_rd hs.out (HR.out W4 HFR4.out) hn3;cases had;obtain ⟨cur,hg,hle,_,hcp⟩:=step_copy HF4.out (x:=s) HSN.out HLT.out hs.out;have hcc:=hcp 0 s (by have:=hs.out;omega) (by simp);clear hcp;refine wpList_copy_own rfl (.tmp 59) (.tmp 60) 48 48 rfl 5 Tryz.underlying48 (by kernel_rfl) g1 (j*128) 128 128 ⟨bb,bf,none⟩ n bc' rfl rfl cur 306 hg (bs s) (by rw [bs_length,hs.out];exact (Nat.min_eq_right hn3).symm) hsrc (by rw [bs_length,hs.out];exact hle) (bs_one s) ?_;rw [Nat.add_zero]at hcc;have hl:(bs s).length=128:=(by rw [bs_length,hs.out]);rw [hl]at hcc ⊢;obtain ⟨W5,hW5⟩:∃ W5,W5=W4.setRow g1 (cur.toList.take (j*128)++(bs s++cur.toList.drop (j*128+128))).toArray:=⟨_,rfl⟩;rw [←hW5]at hcc ⊢;clear hW5 hg hle hsrc hl;have HF5:=hid hcc.1;have HFR5:=hid (HFR4.out.trans hcc.2);clear hcc))
    have hnr:n - 128=r.length*128:=by have:=hn'.out;simp only [List.length_cons]at this;omega
    have hjr':j+1+r.length≤100000:=by have:=hjr.out;simp only [List.length_cons]at this;omega
    have hlen:=wr1_len F' j s (by have:=HL.out;omega)
    refine ⟨⟨j+1,n - 128,wr1 F' j s,r,some ⟨g1,0,none⟩,_,cap1,m',_,by simp,rfl,hid hnr,wr1_ok HK.out (by have:=HL.out;omega) hs.out,hlen.2,fun x hx=>HX.out x (List.mem_cons_of_mem _ hx),hid hjr',hid (by have:=hfn.out;have:=hlen.1;omega),fun w' hw'=>rest_rd hs.out (HR.out w' hw') hn3,HW.out,?_,HFR5.out⟩,by simp only [];omega⟩
    have hLe:=HL.out;subst hLe;rw [wr1_end];exact HF5.out
end Dsk
end Go.Proofs.YtfcikkechphmaaaGreatDoor
