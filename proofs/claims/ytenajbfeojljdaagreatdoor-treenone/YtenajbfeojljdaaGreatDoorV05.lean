/- What Good returns; no statement of the seat is proved here. -/
import Derived.Test.YtenajbfeojljdaaGreatDoorV04
import Derived.ChangeKeysEq
import Derived.Lib.SlBytesConst
set_option maxHeartbeats 16000000
set_option maxRecDepth 20000
namespace Go.Proofs.YtenajbfeojljdaaGreatDoor
namespace Cel
open Go.RowKit
def goodN(leaf:Bool)(r:Int)(cs:List C):Bool:=riseB cs&&(if leaf then r == 0&&cs.all leafB else pagedB r&&cs.all aboveB)
theorem good_any(leaf:Bool)(r:Int)(co:Option Addr)(cn cc:Nat)(cs:List C)(w:World)(h:Cs w co cn cc cs)(hcn:cn≤100000) :
  Calls Tryz.prog 199 #[.agg #[.bool leaf,.int .i64 r,.slice co cn cc]] w fun e w'=>e=.returned (.bool (goodN leaf r cs))∧Below w.heap.size w w':=by
 have q0:=NB.new 82 w leaf r co cn cc
 have b0:Hid (Below w.heap.size w (w.alloc (.cells #[.bool leaf,.int .i64 r,.slice co cn cc] 82))):=hid (ext1 _)
 have hlt:=q0.lt
 generalize hw0:w.alloc (.cells #[.bool leaf,.int .i64 r,.slice co cn cc] 82)=w0 at q0 b0 hlt
 have hr:=hid (rises_any leaf r co cn cc cs w0 (h.keep b0.out) hcn)
 have h39:=hid (fun W (hb:Below w0.heap.size w0 W)=>all_39 leaf r co cn cc cs W ((h.keep b0.out).keep hb) hcn)
 have h41:=hid (fun W (hb:Below w0.heap.size w0 W)=>all_41 leaf r co cn cc cs W ((h.keep b0.out).keep hb) hcn)
 have hp:=hid (paged_any r)
 change Hid (∀ w,Calls Tryz.prog 253 #[.int .i64 r] w fun e w'=>e=.returned (.bool (pagedB r))∧w'=w) at hp
 have q0':=hid q0
 obtain ⟨V,hV⟩:∃ V,V=goodN leaf r cs:=⟨_,rfl⟩
 rw [←hV]
 unfold goodN at hV
 generalize riseB cs=R at *
 generalize cs.all leafB=A1 at *
 generalize cs.all aboveB=A2 at *
 generalize pagedB r=P at *
 replace hV:=hid hV
 replace hw0:=hid hw0
 clear h q0
 cases R with
 | false=>
  obtain rfl:V=false:=hV.out
  clear hV
  go_enter Tryz.func199,Tryz.ntmps199
  go_wp2_with (go_at_call 250;rw [hw0.out];refine hr.out.mono ?_;rintro e w1 ⟨rfl,hb1⟩;have H1:=hid hb1;clear hb1)
  go_ret
  exact ⟨rfl,gt b0.out H1.out⟩
 | true=>
  cases leaf with
  | true=>
   cases hr0:(r == 0)
   all_goals
    go_enter Tryz.func199,Tryz.ntmps199
    go_wp2_with (first
     | (go_at_call 250;rw [hw0.out];refine hr.out.mono ?_;rintro e w1 ⟨rfl,hb1⟩;have H1:=hid hb1;obtain ⟨u0,u1,u2⟩:=(q0'.out.keep hb1).cells;clear hb1)
     | (go_at_call 251;refine (h39.out _ H1.out).mono ?_;rintro e w2 ⟨rfl,hb2⟩;have H2:=hid hb2;clear hb2))
    go_ret
    have hV2:=hV.out
    simp [hr0]at hV2
    subst hV2
    first |exact ⟨rfl,gt b0.out H1.out⟩ |exact ⟨rfl,gt b0.out (gt H1.out H2.out)⟩
  | false=>
   cases P
   all_goals
    go_enter Tryz.func199,Tryz.ntmps199
    go_wp2_with (first
     | (go_at_call 250;rw [hw0.out];refine hr.out.mono ?_;rintro e w1 ⟨rfl,hb1⟩;have H1:=hid hb1;obtain ⟨u0,u1,u2⟩:=(q0'.out.keep hb1).cells;clear hb1)
     | (go_at_call 253;refine (hp.out _).mono ?_;rintro e w2 ⟨rfl,hw⟩;obtain rfl:=hw.symm)
     | (go_at_call 251;refine (h41.out _ H1.out).mono ?_;rintro e w2 ⟨rfl,hb2⟩;have H2:=hid hb2;clear hb2))
    go_ret
    have hV2:=hV.out
    simp at hV2
    subst hV2
    first |exact ⟨rfl,gt b0.out H1.out⟩ |exact ⟨rfl,gt b0.out (gt H1.out H2.out)⟩
end Cel
namespace Cel
open Go.RowKit
def zs(n:Nat):List Nat:=List.replicate n 0
theorem zs_length(n:Nat):(zs n).length=n:=by simp [zs]
def padN(ys:List Nat):List Nat:=ys++zs (512 - ys.length)
theorem padN_length(ys:List Nat)(h:ys.length≤512):(padN ys).length=512:=by simp [padN,zs_length];omega
def wrow(ys:List Nat)(at_:Nat):List Value:=bs (padN ys)++[.int .i64 (at_:Int)]
theorem wrow_length(ys:List Nat)(k:Nat)(h:ys.length≤512):(wrow ys k).length=513:=by simp [wrow,bs_length,padN_length ys h]
def WB(W:World)(q:Nat)(ys:List Nat):Prop:=ys.length≤512∧W.heap[q]? = some (.cells (wrow ys ys.length).toArray 285 (0,0))
variable {ys:List Nat} {q:Nat} {W:World}
theorem WB.keep{W':World}(h:WB W q ys)(hb:Below W.heap.size W W'):WB W' q ys:=⟨h.1,by rw [hb.block q (lt_of_block h.2)];exact h.2⟩
variable {k:Nat}
theorem wb_at(hl:ys.length≤512)(h:W.heap[q]? = some (.cells (wrow ys k).toArray 285 (0,0))):W.cell? ⟨q,512,none⟩=some (.int .i64 (k:Int))∧W.frozen? ⟨q,512,none⟩=false:=by
 constructor
 ·unfold World.cell?
  rw [h]
  simp only
  rw [List.getElem?_toArray,wrow,List.getElem?_append_right (by rw [bs_length,padN_length ys hl];exact Nat.le_refl _),bs_length,padN_length ys hl]
  rfl
 ·simp [World.frozen?,h]
theorem splice_pad(ys xs:List Nat)(h:ys.length+xs.length≤512)(k:Nat):splice (wrow ys k) ys.length (bs xs)=wrow (ys++xs) k:=by
 unfold splice wrow padN
 rw [bs_length]
 have h1:(bs (ys++zs (512 - ys.length))++[Value.int .i64 (k:Int)]).take ys.length=bs ys:=by
  rw [bs_append,List.append_assoc,List.take_append_of_le_length (by rw [bs_length];exact Nat.le_refl _),List.take_of_length_le (by rw [bs_length];exact Nat.le_refl _)]
 have h2:(bs (ys++zs (512 - ys.length))++[Value.int .i64 (k:Int)]).drop (ys.length+xs.length)=bs (zs (512 - (ys.length+xs.length)))++[Value.int .i64 (k:Int)]:=by
  rw [List.drop_append_of_le_length (by rw [bs_length];simp [zs_length];omega)]
  congr 1
  unfold bs
  rw [←List.map_drop,List.drop_append,List.drop_of_length_le (by omega),List.nil_append]
  unfold zs
  rw [List.drop_replicate]
  congr 2
  omega
 rw [h1,h2]
 simp [bs_append,List.append_assoc]
theorem set_at(ys:List Nat)(k m:Nat)(hl:ys.length≤512):(wrow ys k).set 512 (.int .i64 (m:Int))=wrow ys m:=by
 unfold wrow
 rw [List.set_append_right _ _ (by rw [bs_length,padN_length ys hl];exact Nat.le_refl _),bs_length,padN_length ys hl]
 rfl
theorem wb_set{z:Int}(hl:ys.length≤512)(h:W.heap[q]? = some (.cells (wrow ys k).toArray 285 (0,0)))(hz:z=(ys.length:Int)):WB (W.setCell ⟨q,512,none⟩ (.int .i64 z)) q ys:=by
 subst hz
 refine ⟨hl,?_⟩
 rw [heap_setCell_same W q 512 _ 285 _ h,List.setIfInBounds_toArray,set_at ys k ys.length hl]
theorem step_copy_page{P:Program}{ops:Array Oper}{o:Oper}{a:Act}{w:World}{K:Act→World→Prop}{Q:Exit→Act→World→Prop}{E:Prop}(hgd:o.guard=none)(d s:Operand)(dT sT:TypeId)
  (ho:o.op=.call { callee:=.builtin .copy,args:=#[d,s],argTypes:=#[dT,sT] }) (elem:TypeId) (hu:P.underlying dT=some (.slice elem)) (hsz:(P.info? elem).map (·.size)=some 1)
  (dp sp:Option Addr) (dLen dCap sLen sCap:Nat) (hd:a.eval d=.slice dp dLen dCap) (hs:a.eval s=.slice sp sLen sCap)
  (g off:Nat) (cur:List Value) (t:TypeId) (hg:w.heap[g]? = some (.cells cur.toArray t (0,0))) (cs:List Value) (hn:cs.length=Nat.min sLen dLen)
  (hpos:0<cs.length→dp=some ⟨g,off,none⟩∧∃ ad,sp=some ad∧∀ j v,cs[j]? = some v→w.cell? (ad.add j)=some v)
  (hfit:off+cs.length≤cur.length) (h1:∀ v∈cs,v.oneCell'=true)
  (h:∀ w',Hid (w'.heap[g]? = some (.cells (splice cur off cs).toArray t (0,0)))→w.grownBy w' (some g)→w'.heap.size=w.heap.size→K (a.put o.dst (goInt cs.length)) w') :
  if Region.wanted o (yielded ops a.tmps)=true then Oper.wp P o a w K Q else E:=by
 have hw:Region.wanted o (yielded ops a.tmps)=true:=by simp [Region.wanted,hgd]
 rw [if_pos hw]
 by_cases h0:cs.length=0
 ·obtain rfl:cs = []:=List.eq_nil_of_length_eq_zero h0
  have hrun:=run_copy_none (P:=P) w dT sT o.type elem dp sp dLen dCap sLen sCap hu hsz (by simpa using hn.symm)
  unfold Oper.wp
  simp [execOp,ho,resolve,invoke,builtin,hd,hs,hrun,Result.andThen]
  exact h w (show _=_ by simpa [splice] using hg) (World.grownBy.refl _ _) rfl
 ·obtain ⟨rfl,ad,rfl,hsrc⟩:=hpos (by omega)
  have hrun:=run_copy_row (P:=P) w dT sT o.type elem g off dLen dCap ad sLen sCap cur.toArray t cs hu hsz hg hn hsrc (by simpa using hfit) h1
  unfold Oper.wp
  simp [execOp,ho,resolve,invoke,builtin,hd,hs,hrun,Result.andThen]
  exact h _ (show _=_ by simpa [splice] using setRow_heap w g _ _ t _ hg) ⟨rfl,rfl,rfl,by simp [World.setRow],fun k _ hk=>setRow_other w g k _ (fun e=>hk (by rw [e]))⟩ (by simp [World.setRow])
abbrev SW(q k:Nat)(W:World):Prop:=W.cell? ⟨q,512,none⟩=some (.int .i64 (k:Int))
theorem Tryz.u60:Tryz.prog.underlying 229=some (.array 512 5):=by kernel_rfl
variable {a b:World} {p:Nat}
theorem grown_drew(h:a.drew.grownBy b (some p)):a.grownBy b (some p):=⟨h.os,h.tape,h.output,h.size,h.block⟩
theorem len60:Tryz.prog.arrayLen 229=512:=by kernel_rfl
theorem elem60:Tryz.prog.elem 229=5:=by kernel_rfl
theorem cut60(q k:Nat)(h:k≤512)(W:World):(Instr.sliceAt 229 (.pointer (some ⟨q,0,none⟩)) (some (.int .i64 (k:Int))) none none).run Tryz.prog W =
  .ok (.slice (some (if k=512 then ⟨q,0,none⟩ else ⟨q,k,none⟩)) (512 - k) (512 - k)) W:=by
 have h1:(sizeOf 5).run Tryz.prog W=.ok 1 W:=by kernel_rfl
 rw [run_sliceAt_array_l W 229 _ (by kernel_rfl) .i64 (k:Int) (by omega) (by rw [len60];omega),len60,elem60,h1]
 simp only [Result.andThen,slicedAt,Int.toNat_natCast,Nat.mul_one]
 by_cases hk:k=512
 ·rw [if_pos hk,if_pos hk.symm]
 ·rw [if_neg hk,if_neg (fun e=>hk e.symm),Addr.add_lit,Nat.zero_add]
theorem wbytes_any(q:Nat)(ys:List Nat)(so:Option Addr)(n c:Nat)(xs:List Nat)(W:World)(h:WB W q ys)(hr:Rd W so n c xs)(hn:ys.length+n≤512) :
  Calls Tryz.prog 256 #[.pointer (some ⟨q,0,none⟩),.slice so n c] W fun e w'=>e=.returned (.tuple #[])∧WB w' q (ys++xs)∧W.grownBy w' (some q):=by
 obtain ⟨k,hk⟩:∃ k,k=ys.length:=⟨_,rfl⟩
 have hlx:=hid hr.1
 have hl0:=h.1
 have hg:=h.2
 rw [←hk]at hg
 have g1:SW q k W.drew:=(wb_at h.1 hg).1
 have hg':Hid (W.drew.heap[q]? = some (.cells (wrow ys k).toArray 285 (0,0))):=hid hg
 have h':Hid (Rd W.drew so n c xs):=hid (hr.keep (Below.refl _ _).drew)
 have hwl:=hid (wrow_length ys k h.1)
 have hxy:Hid ((ys++xs).length≤512):=hid (by have:=hr.1;simp;omega)
 have hsp:Hid (splice (wrow ys k) k (bs xs)=wrow (ys++xs) k):=hid (by have:=splice_pad ys xs (by have:=hr.1;omega) k;rw [←hk]at this;exact this)
 have hbl:Hid ((bs xs).length=n):=hid (by rw [bs_length,hr.1])
 have hkn:k+n≤512:=by omega
 have hk':=hid hk
 clear h hr hg hk hn
 by_cases hkf:k=512
 ·subst hkf
  obtain rfl:n=0:=by omega
  have hcut:=fun W=>cut60 q 512 (Nat.le_refl _) W
  rw [if_pos rfl]at hcut
  go_enter Tryz.func256,Tryz.ntmps256
  go_upto_region 0 with fail
  refine wp_region_K (S:=SW q 512) (fun i=>i == 17) (by kernel_rfl) (g1) (fun hHeld=>?_)
  refine gkp 0 ?_
  refine gkp 1 ?_
  refine gkp 2 ?_
  refine gkt 3 ?_ (h:=by intro W hSw;go_simp;first |done |with_reducible rfl)
  refine gkp 4 ?_
  refine gkp 5 ?_
  refine gkp 6 ?_
  refine gkp 7 ?_
  refine gkp 8 ?_
  refine gkp 9 ?_
  refine gkt 10 ?_ (h:=by intro W hSw;go_simp;first |done |with_reducible rfl)
  refine gkp 11 ?_
  refine gkp 12 ?_
  refine gk1 13 (fun K hK=>?_)
  refine step_copy_page rfl (.tmp 15) (.tmp 16) 48 48 rfl 5 Tryz.underlying48 (by kernel_rfl) (some ⟨q,0,none⟩) so 0 0 0 c rfl rfl q 512 (wrow ys 512) 285 (by exact hg'.out) (bs xs) (by have:=hlx.out;rw [bs_length];show _=min _ _;omega) (fun hp=>by exfalso;rw [bs_length,hlx.out]at hp;omega) (by rw [bs_length,hwl.out];have:=hlx.out;omega) (bs_one xs) ?_;intro w2 hg2 hgr2 hsz2;have hR:SW q 512 w2:=(wb_at hxy.out (hsp.out▸hg2.out)).1;have G2:=hid (grown_drew hgr2);have Z2:=hid hsz2;obtain ⟨hat,hfz⟩:=wb_at hxy.out (hsp.out▸hg2.out);clear hgr2 hsz2;rw [hbl.out]
  refine hK.out _ _ hR (fun hHeld=>?_)
  clear hK K
  (try simp only [Act.put,sA,sZ,sS])
  refine gkp 14 ?_
  refine gkp 15 ?_
  refine gkp 16 ?_
  refine gkl 17 (fun K hK=>?_)
  go_simp
  refine hK.out _ _ ?_
  clear hK K
  (try simp only [Act.put,sA,sZ,sS])
  refine wpAnyK_done (by kernel_rfl) ?_ _
  go_wp2
  go_end0
  refine ⟨rfl,wb_set hxy.out (hsp.out▸hg2.out) ?_,grow_trans G2.out (grow_set _ _ _ _)⟩
  have h1:=hk'.out
  have h2:=hlx.out
  simp
  rw [IntKind.wrap_i64]
  omega
 ·have hk5:k<512:=by omega
  have hcut:=fun W=>cut60 q k (by omega) W
  rw [if_neg hkf]at hcut
  replace hkf:=hid hkf
  go_enter Tryz.func256,Tryz.ntmps256
  go_upto_region 0 with fail
  refine wp_region_K (S:=SW q k) (fun i=>i == 17) (by kernel_rfl) (g1) (fun hHeld=>?_)
  refine gkp 0 ?_
  refine gkp 1 ?_
  refine gkp 2 ?_
  refine gkt 3 ?_ (h:=by intro W hSw;go_simp;first |done |with_reducible rfl)
  refine gkp 4 ?_
  refine gkp 5 ?_
  refine gkp 6 ?_
  refine gkp 7 ?_
  refine gkp 8 ?_
  refine gkp 9 ?_
  refine gkt 10 ?_ (h:=by intro W hSw;go_simp;first |done |with_reducible rfl)
  refine gkp 11 ?_
  refine gkp 12 ?_
  refine gk1 13 (fun K hK=>?_)
  refine step_copy_page rfl (.tmp 15) (.tmp 16) 48 48 rfl 5 Tryz.underlying48 (by kernel_rfl) (some ⟨q,k,none⟩) so (512 - k) (512 - k) n c rfl rfl q k (wrow ys k) 285 (by exact hg'.out) (bs xs) (by have:=hlx.out;rw [bs_length];show _=min _ _;omega) (fun hp=>⟨rfl,(by obtain ⟨b2,o2,e2,hc2⟩:=h'.out.2.2.2 (by have:=hlx.out;rw [bs_length]at hp;omega);exact ⟨_,e2,fun j v hv=>by obtain ⟨hj,rfl⟩:=bs_get' xs j v hv;rw [Addr.add_lit];exact hc2 j (by have:=hlx.out;omega)⟩)⟩) (by rw [bs_length,hwl.out];have:=hlx.out;omega) (bs_one xs) ?_;intro w2 hg2 hgr2 hsz2;have hR:SW q k w2:=(wb_at hxy.out (hsp.out▸hg2.out)).1;have G2:=hid (grown_drew hgr2);have Z2:=hid hsz2;obtain ⟨hat,hfz⟩:=wb_at hxy.out (hsp.out▸hg2.out);clear hgr2 hsz2;rw [hbl.out]
  refine hK.out _ _ hR (fun hHeld=>?_)
  clear hK K
  (try simp only [Act.put,sA,sZ,sS])
  refine gkp 14 ?_
  refine gkp 15 ?_
  refine gkp 16 ?_
  refine gkl 17 (fun K hK=>?_)
  go_simp
  refine hK.out _ _ ?_
  clear hK K
  (try simp only [Act.put,sA,sZ,sS])
  refine wpAnyK_done (by kernel_rfl) ?_ _
  go_wp2
  go_end0
  refine ⟨rfl,wb_set hxy.out (hsp.out▸hg2.out) ?_,grow_trans G2.out (grow_set _ _ _ _)⟩
  have h1:=hk'.out
  have h2:=hlx.out
  simp
  rw [IntKind.wrap_i64]
  omega
theorem Rd.grown{ao:Option Addr}{n cap:Nat}{xs:List Nat}(h:Rd a ao n cap xs)(hg:a.grownBy b (some p))(hne:0<n→∀ g o,ao=some ⟨g,o,none⟩→g≠p):Rd b ao n cap xs:=by
 refine ⟨h.1,h.2.1,h.2.2.1,fun hp=>?_⟩
 obtain ⟨g,off,e,hc⟩:=h.2.2.2 hp
 exact ⟨g,off,e,fun t ht=>grow_cell hg (hc t ht) (hne hp g off e)⟩
theorem wnum_any(q:Nat)(ys:List Nat)(v:Int)(s:Nat)(W:World)(h:WB W q ys)(hs:s≤8)(hn:ys.length+s≤512) :
  Calls Tryz.prog 202 #[.pointer (some ⟨q,0,none⟩),.int .i64 v,.int .i64 (s:Int)] W fun e w'=>e=.returned (.tuple #[])∧WB w' q (ys++putN (uN v) s false)∧W.grownBy w' (some q):=by
 have cp:=hid (put_any none 0 0 [] (uN v) (s:Int) s false W (Rd.nil W) (by omega) hs (by omega))
 simp only [Nat.zero_add,List.nil_append]at cp
 have hu:=uN_wrap v
 have h':=hid h
 have hl:=putN_length (uN v) s false
 generalize uN v=u at *
 clear h
 go_enter Tryz.func202,Tryz.ntmps202
 go_wp2_with (first
  | (go_at_call 226;refine cp.out.mono ?_;rintro e w1 ⟨rfl,ho,hb⟩;have O1:=hid ho;have B1:=hid hb;clear ho hb)
  | (go_at_call 256;refine (wbytes_any q ys _ s s _ _ (h'.out.keep B1.out) (rd_own O1.out) hn).mono ?_;rintro e w2 ⟨rfl,hw,hg⟩;have W2:=hid hw;have G2:=hid hg;clear hw hg))
 go_end0
 exact ⟨rfl,W2.out,grow_trans (grow_below B1.out) G2.out⟩
theorem wvar_any(q:Nat)(ys:List Nat)(u:Nat)(W:World)(h:WB W q ys)(hu:u<18446744073709551616)(hn:ys.length+szN u≤512) :
  Calls Tryz.prog 255 #[.pointer (some ⟨q,0,none⟩),.int .u64 (u:Int)] W fun e w'=>e=.returned (.tuple #[])∧WB w' q (ys++varN u)∧W.grownBy w' (some q):=by
 have cp:=hid (var_any none 0 0 [] u W (Rd.nil W) hu (by omega))
 simp only [Nat.zero_add,List.nil_append]at cp
 have h':=hid h
 have hl:=varN_length u
 generalize szN u=s at *
 clear h
 go_enter Tryz.func255,Tryz.ntmps255
 go_wp2_with (first
  | (go_at_call 292;refine cp.out.mono ?_;rintro e w1 ⟨rfl,ho,hb⟩;have O1:=hid ho;have B1:=hid hb;clear ho hb)
  | (go_at_call 256;refine (wbytes_any q ys _ s s _ _ (h'.out.keep B1.out) (rd_own O1.out) hn).mono ?_;rintro e w2 ⟨rfl,hw,hg⟩;have W2:=hid hw;have G2:=hid hg;clear hw hg))
 go_end0
 exact ⟨rfl,W2.out,grow_trans (grow_below B1.out) G2.out⟩
end Cel
namespace Cel
open Go.RowKit
theorem S5.grown{q p:Nat}{a:C}{w w':World}(h:S5 q a w)(hg:w.grownBy w' (some p))(hne:q≠p):S5 q a w':=
 ⟨grow_cell hg h.1 hne,grow_cell hg h.2.1 hne,grow_cell hg h.2.2.1 hne,grow_cell hg h.2.2.2.1 hne,grow_cell hg h.2.2.2.2 hne⟩
theorem wnum4(q:Nat)(ys:List Nat)(v:Int)(W:World)(h:WB W q ys)(hn:ys.length+4≤512) :
  Calls Tryz.prog 202 #[.pointer (some ⟨q,0,none⟩),.int .i64 v,.int .i64 4] W fun e w'=>e=.returned (.tuple #[])∧WB w' q (ys++putN (uN v) 4 false)∧W.grownBy w' (some q):=wnum_any q ys v 4 W h (by omega) hn
theorem wnum2(q:Nat)(ys:List Nat)(v:Int)(W:World)(h:WB W q ys)(hn:ys.length+2≤512) :
  Calls Tryz.prog 202 #[.pointer (some ⟨q,0,none⟩),.int .i64 v,.int .i64 2] W fun e w'=>e=.returned (.tuple #[])∧WB w' q (ys++putN (uN v) 2 false)∧W.grownBy w' (some q):=wnum_any q ys v 2 W h (by omega) hn
theorem wnum1(q:Nat)(ys:List Nat)(v:Int)(W:World)(h:WB W q ys)(hn:ys.length+1≤512) :
  Calls Tryz.prog 202 #[.pointer (some ⟨q,0,none⟩),.int .i64 v,.int .i64 1] W fun e w'=>e=.returned (.tuple #[])∧WB w' q (ys++putN (uN v) 1 false)∧W.grownBy w' (some q):=wnum_any q ys v 1 W h (by omega) hn
theorem wabove_any(q:Nat)(ys:List Nat)(a:C)(W:World)(h:WB W q ys)(hk:I64 a.k)(hn:ys.length+(oneN false a).length≤512) :
  Calls Tryz.prog 200 #[.pointer (some ⟨q,0,none⟩),.agg #[.int .i64 (a).k,.int .i64 (a).c,.int .i64 (a).l,.slice (a).o (a).n (a).m,.int .i64 (a).x]] W fun e w'=>e=.returned (.tuple #[])∧WB w' q (ys++oneN false a)∧W.grownBy w' (some q):=by
 have hql:=lt_of_block h.2
 have hne:W.heap.size≠q:=by omega
 have c1:=hid (wnum4 q ys a.c _ (h.keep (ext1 (.cells #[.int .i64 a.k,.int .i64 a.c,.int .i64 a.l,.slice a.o a.n a.m,.int .i64 a.x] 116))) (by rw [oneN_length]at hn;simp at hn;omega))
 have g0:=hid (S5.new 116 W a)
 have B0:Hid (Below W.heap.size W (W.alloc (.cells #[.int .i64 a.k,.int .i64 a.c,.int .i64 a.l,.slice a.o a.n a.m,.int .i64 a.x] 116))):=hid (ext1 _)
 have cz:=hid (zig_any a.k hk)
 have hz:=hid (zigN_lt a.k hk)
 have hn':Hid (ys.length+4+szN (zigN a.k)≤512):=hid (by rw [oneN_length]at hn;simp at hn;omega)
 have e1:oneN false a=putN (uN a.c) 4 false++varN (zigN a.k):=rfl
 rw [e1]
 generalize zigN a.k=z at *
 clear e1 hn h hql
 replace hne:=hid hne
 go_enter Tryz.func200,Tryz.ntmps200
 go_wp2_with (first
  | (go_at_call 202;refine c1.out.mono ?_;rintro e w1 ⟨rfl,hw,hg⟩;have W1:=hid hw;have G1:=hid (grow_trans (grow_below B0.out) hg);obtain ⟨y0,y1,y2,y3,y4⟩:=g0.out.grown hg hne.out;clear hw hg c1)
  | (go_at_call 235;refine (cz.out _).mono ?_;rintro e w2 ⟨rfl,hw⟩;obtain rfl:=hw.symm)
  | (go_at_call 255;refine (wvar_any q _ z _ W1.out hz.out (by have:=hn'.out;simp [putN_length];omega)).mono ?_;rintro e w3 ⟨rfl,hw,hg⟩;have W3:=hid hw;have G3:=hid hg;clear hw hg))
 go_end0
 have:=W3.out
 rw [List.append_assoc]at this
 exact ⟨rfl,this,grow_trans G1.out G3.out⟩
theorem winleaf_any(q:Nat)(ys:List Nat)(a:C)(W:World)(h:WB W q ys)(ha:Cok W a)(hq:0<a.n→∀ g o,a.o=some ⟨g,o,none⟩→g≠q)(hn:ys.length+(oneN true a).length≤512) :
  Calls Tryz.prog 201 #[.pointer (some ⟨q,0,none⟩),.agg #[.int .i64 (a).k,.int .i64 (a).c,.int .i64 (a).l,.slice (a).o (a).n (a).m,.int .i64 (a).x]] W fun e w'=>e=.returned (.tuple #[])∧WB w' q (ys++oneN true a)∧W.grownBy w' (some q):=by
 have hql:=lt_of_block h.2
 have hne:=hid (show W.heap.size≠q by omega)
 have hk:=ha.kI
 have cz:=hid (zig_any a.k hk)
 have hz:=hid (zigN_lt a.k hk)
 have hu:=uN_wrap a.l
 have hul:=hid (uN_lt a.l)
 have hrl:=ha.rd.1
 have g0:=hid (S5.new 116 W a)
 have B0:Hid (Below W.heap.size W (W.alloc (.cells #[.int .i64 a.k,.int .i64 a.c,.int .i64 a.l,.slice a.o a.n a.m,.int .i64 a.x] 116))):=hid (ext1 _)
 have h0:=hid (h.keep B0.out)
 have R0:=hid (ha.rd.keep B0.out)
 have hq':=hid hq
 have csp:=hid (fun w=>spills_any a w hrl)
 have hrl':=hid hrl
 obtain ⟨s1,hs1⟩:∃ s,s=szN (zigN a.k):=⟨_,rfl⟩
 obtain ⟨s2,hs2⟩:∃ s,s=szN (uN a.l):=⟨_,rfl⟩
 have hn':Hid (ys.length+(s1+s2+a.n+(if spillB a=true then 4 else 0))≤512):=hid (by rw [oneN_length,←hs1,←hs2,hrl]at hn;simpa using hn)
 have l1:Hid ((varN (zigN a.k)).length=s1):=hid (by rw [varN_length,hs1])
 have l2:Hid ((varN (uN a.l)).length=s2):=hid (by rw [varN_length,hs2])
 have e1:oneN true a=varN (zigN a.k)++varN (uN a.l)++a.b++(if spillB a then putN (uN a.x) 4 false else []):=rfl
 rw [e1]
 replace hs1:=hid hs1
 replace hs2:=hid hs2
 generalize zigN a.k=z at *
 generalize uN a.l=u at *
 clear e1 hn h hql ha hq hk hrl
 cases hsp:spillB a with
 | false=>
  rw [hsp]at csp hn'
  simp only [Bool.false_eq_true,if_false,Nat.add_zero]at hn' ⊢
  clear hsp
  go_enter Tryz.func201,Tryz.ntmps201
  go_wp2_with (first
   | (go_at_call 235;refine (cz.out _).mono ?_;rintro e w2 ⟨rfl,hw⟩;obtain rfl:=hw.symm;clear cz)
   | (go_at_call 255;refine (wvar_any q ys z _ h0.out hz.out (by have:=hn'.out;have:=hs1.out;omega)).mono ?_;rintro e w1 ⟨rfl,hw,hg⟩;have W1:=hid hw;have G1:=hid (grow_trans (grow_below B0.out) hg);have g1:=hid (g0.out.grown hg hne.out);have R1:=hid (R0.out.grown hg hq'.out);obtain ⟨y0,y1,y2,y3,y4⟩:=g1.out;clear hw hg h0 R0 g0)
   | (go_at_call 255;refine (wvar_any q _ u _ W1.out hul.out (by have:=hn'.out;have:=hs2.out;have:=l1.out;simp;omega)).mono ?_;rintro e w3 ⟨rfl,hw,hg⟩;have W3:=hid hw;have G3:=hid (grow_trans G1.out hg);have g3:=hid (g1.out.grown hg hne.out);have R3:=hid (R1.out.grown hg hq'.out);clear y0 y1 y2 y3 y4;obtain ⟨y0,y1,y2,y3,y4⟩:=g3.out;clear hw hg W1 R1 g1)
   | (go_at_call 256;refine (wbytes_any q _ _ _ _ _ _ W3.out R3.out (by have:=hn'.out;have:=l1.out;have:=l2.out;simp;omega)).mono ?_;rintro e w4 ⟨rfl,hw,hg⟩;have W4:=hid hw;have G4:=hid (grow_trans G3.out hg);have g4:=hid (g3.out.grown hg hne.out);clear y0 y1 y2 y3 y4;obtain ⟨y0,y1,y2,y3,y4⟩:=g4.out;clear hw hg W3 R3 g3)
   | (go_at_call 236;refine (csp.out _).mono ?_;rintro e w5 ⟨rfl,hb⟩;have B5:=hid hb;clear hb))
  go_end0
  have:=W4.out.keep B5.out
  rw [List.append_nil,←List.append_assoc,←List.append_assoc]
  exact ⟨rfl,this,grow_trans G4.out (grow_below B5.out)⟩
 | true=>
  rw [hsp]at csp hn'
  simp only [if_true]at hn' ⊢
  clear hsp
  go_enter Tryz.func201,Tryz.ntmps201
  go_wp2_with (first
   | (go_at_call 235;refine (cz.out _).mono ?_;rintro e w2 ⟨rfl,hw⟩;obtain rfl:=hw.symm;clear cz)
   | (go_at_call 255;refine (wvar_any q ys z _ h0.out hz.out (by have:=hn'.out;have:=hs1.out;omega)).mono ?_;rintro e w1 ⟨rfl,hw,hg⟩;have W1:=hid hw;have G1:=hid (grow_trans (grow_below B0.out) hg);have g1:=hid (g0.out.grown hg hne.out);have R1:=hid (R0.out.grown hg hq'.out);obtain ⟨y0,y1,y2,y3,y4⟩:=g1.out;clear hw hg h0 R0 g0)
   | (go_at_call 255;refine (wvar_any q _ u _ W1.out hul.out (by have:=hn'.out;have:=hs2.out;have:=l1.out;simp;omega)).mono ?_;rintro e w3 ⟨rfl,hw,hg⟩;have W3:=hid hw;have G3:=hid (grow_trans G1.out hg);have g3:=hid (g1.out.grown hg hne.out);have R3:=hid (R1.out.grown hg hq'.out);clear y0 y1 y2 y3 y4;obtain ⟨y0,y1,y2,y3,y4⟩:=g3.out;clear hw hg W1 R1 g1)
   | (go_at_call 256;refine (wbytes_any q _ _ _ _ _ _ W3.out R3.out (by have:=hn'.out;have:=l1.out;have:=l2.out;simp;omega)).mono ?_;rintro e w4 ⟨rfl,hw,hg⟩;have W4:=hid hw;have G4:=hid (grow_trans G3.out hg);have g4:=hid (g3.out.grown hg hne.out);clear y0 y1 y2 y3 y4;obtain ⟨y0,y1,y2,y3,y4⟩:=g4.out;clear hw hg W3 R3 g3)
   | (go_at_call 236;refine (csp.out _).mono ?_;rintro e w5 ⟨rfl,hb⟩;have B5:=hid hb;have W5:=hid (W4.out.keep hb);have g5:=hid (g4.out.keep hb);clear y0 y1 y2 y3 y4;obtain ⟨y0,y1,y2,y3,y4⟩:=g5.out;clear hb)
   | (go_at_call 202;refine (wnum4 q _ a.x _ W5.out (by have:=hn'.out;have:=l1.out;have:=l2.out;have:=hrl'.out;simp;omega)).mono ?_;rintro e w6 ⟨rfl,hw,hg⟩;have W6:=hid hw;have G6:=hid hg;clear hw hg))
  go_end0
  have:=W6.out
  rw [←List.append_assoc,←List.append_assoc,←List.append_assoc]
  exact ⟨rfl,this,grow_trans (grow_trans G4.out (grow_below B5.out)) G6.out⟩
end Cel
namespace Cel
open Go.RowKit
section
variable {P:Program} {ops:Array Oper} {rest:List Oper} {o:Oper} {a:Act} {w:World} {Q:Exit→Act→World→Prop}
theorem wpList_load_run(hgd:o.guard=none)(ty:TypeId)(x:Operand)(ho:o.op=.load ty x)(ad:Addr)(hx:a.eval x=.pointer (some ad))(v:Value)
  (hrun:(loadVar ty ad).run P w=.ok v w) (h:wpList P ops Q rest (a.put o.dst v) w):wpList P ops Q (o::rest) a w:=by
 refine wpList_plain hgd fun K hK=>?_
 unfold Oper.wp
 simp [execOp,ho,hx,Instr.loadAt,Instr.sureAddr,hrun,Result.andThen]
 exact hK _ _ h
theorem wpList_store_run(hgd:o.guard=none)(ty:TypeId)(x y:Operand)(ho:o.op=.store ty x y)(ad:Addr)(hx:a.eval x=.pointer (some ad))(v:Value)(hy:a.eval y=v)(w':World)
  (hrun:(storeVar ty ad v).run P w=.ok () w') (h:wpList P ops Q rest (a.put o.dst undef) w'):wpList P ops Q (o::rest) a w:=by
 refine wpList_plain hgd fun K hK=>?_
 unfold Oper.wp
 simp [execOp,ho,hx,hy,Instr.storeAt,Instr.sureAddr,hrun,Result.andThen]
 exact hK _ _ h
theorem wpList_build_run(hgd:o.guard=none)(ty:TypeId)(ho:o.op=.build ty #[])(v:Value)
  (hrun:(Instr.build ty #[]).run P w=.ok v w) (h:wpList P ops Q rest (a.put o.dst v) w):wpList P ops Q (o::rest) a w:=by
 refine wpList_plain hgd fun K hK=>?_
 unfold Oper.wp
 simp [execOp,ho,hrun,Result.andThen]
 exact hK _ _ h
theorem wpList_alloc_run(hgd:o.guard=none)(ty:TypeId)(ho:o.op=.alloc ty)(v:Value)(w':World)
  (hrun:(Instr.alloc ty true (.tuple #[])).run P w=.ok v w') (h:wpList P ops Q rest (a.put o.dst v) w'):wpList P ops Q (o::rest) a w:=by
 refine wpList_plain hgd fun K hK=>?_
 unfold Oper.wp
 simp [execOp,ho,hrun,Result.andThen]
 exact hK _ _ h
theorem wpList_box_run(hgd:o.guard=none)(ty:TypeId)(x:Operand)(ho:o.op=.box ty x)(u v:Value)(hx:a.eval x=u)(w':World)
  (hrun:(Instr.box ty u).run P w=.ok v w') (h:wpList P ops Q rest (a.put o.dst v) w'):wpList P ops Q (o::rest) a w:=by
 refine wpList_plain hgd fun K hK=>?_
 unfold Oper.wp
 simp [execOp,ho,hx,hrun,Result.andThen]
 exact hK _ _ h
end
variable {w:World}
theorem here_store{P:Program}{ops:Array Oper}{Q:Exit→Act→World→Prop}{a:Act}{rest:List Oper}(ty:TypeId){x y:Operand}{t:TypeId}{pos:String}{after:Array Edge}{gd:Option (Nat×Bool)}
  (h:wpList P ops Q (⟨none,.store ty x y,t,pos,after,gd⟩::rest) a w):wpList P ops Q (⟨none,.store ty x y,t,pos,after,gd⟩::rest) a w:=h
def pgV(x:List Nat):Value:=.agg (bs x).toArray
def wrV(x:List Nat):Value:=.agg (wrow x x.length).toArray
theorem build60(W:World):(Instr.build 229 #[]).run Tryz.prog W=.ok (pgV (zs 512)) W:=by kernel_rfl
theorem alloc60(W:World):(Instr.alloc 229 true (.tuple #[])).run Tryz.prog W=.ok (.pointer (some ⟨W.heap.size,0,none⟩)) (W.alloc (.cells (bs (zs 512)).toArray 229)):=by kernel_rfl
theorem build89(W:World):(Instr.build 285 #[]).run Tryz.prog W=.ok (wrV []) W:=by kernel_rfl
theorem box89(W:World):(Instr.box 285 (wrV [])).run Tryz.prog W=.ok (.pointer (some ⟨W.heap.size,0,none⟩)) (W.alloc (.cells (wrow [] 0).toArray 285)):=by kernel_rfl
theorem wb_new(W:World):WB (W.alloc (.cells (wrow [] 0).toArray 285)) W.heap.size []:=⟨by simp,heap_alloc_new W _⟩
variable {x:List Nat} {W:World}
theorem load60{ad:Addr}(hx:x.length=512)(h:∀ j v,(bs x)[j]? = some v→W.cell? (ad.add j)=some v):(loadVar 229 ad).run Tryz.prog W=.ok (pgV x) W:=by
 have hl:=run_loadCells_list (P:=Tryz.prog) W ad (bs x) h
 rw [bs_length,hx]at hl
 simp [loadVar,hl,pgV]
def PB(W:World)(q:Nat)(x:List Nat):Prop:=x.length=512∧W.heap[q]? = some (.cells (bs x).toArray 229 (0,0))
variable {q:Nat} {W':World}
theorem PB.keep(h:PB W q x)(hb:Below W.heap.size W W'):PB W' q x:=⟨h.1,by rw [hb.block q (lt_of_block h.2)];exact h.2⟩
variable {B:Nat}
theorem PB.under(h:PB W q x)(hb:Below B W W')(hq:q<B):PB W' q x:=⟨h.1,by rw [hb.block q hq];exact h.2⟩
theorem PB.new(W:World):PB (W.alloc (.cells (bs (zs 512)).toArray 229)) W.heap.size (zs 512):=⟨zs_length _,heap_alloc_new W _⟩
theorem PB.load(h:PB W q x):(loadVar 229 ⟨q,0,none⟩).run Tryz.prog W=.ok (pgV x) W:=by
 refine load60 h.1 fun j v hj=>?_
 rw [Addr.add_lit]
 simpa [World.cell?,h.2] using hj
theorem PB.store{y:List Nat}(h:PB W q x)(hy:y.length=512):(storeVar 229 ⟨q,0,none⟩ (pgV y)).run Tryz.prog W=.ok () (W.setRow q (bs y).toArray)∧PB (W.setRow q (bs y).toArray) q y:=by
 refine ⟨run_storeVar_row W q 229 229 (bs x).toArray (bs y).toArray h.2 ?_ (by simp [bs_length,h.1,hy]) ?_,hy,setRow_heap W q _ _ 229 _ h.2⟩
 ·have:(Tryz.prog.info? 229).map (·.size)=some 512:=by kernel_rfl
  rw [this];simp [bs_length,hy]
 ·rw [Array.all_eq_true_iff_forall_mem]
  intro v hv
  exact bs_one y v (by simpa using hv)
theorem PB.rd(h:PB W q x):Rd W (some ⟨q,0,none⟩) 512 512 x:=by
 refine ⟨h.1,Nat.le_refl _,fun e=>(by cases e),fun _=>⟨q,0,rfl,fun t ht=>?_⟩⟩
 have:=bs_get x t (by rw [h.1];exact ht)
 rw [Nat.zero_add]
 simpa [World.cell?,h.2] using this
theorem WB.load{ys:List Nat}(h:WB W q ys):(loadVar 229 ⟨q,0,none⟩).run Tryz.prog W=.ok (pgV (padN ys)) W:=by
 refine load60 (padN_length ys h.1) fun j v hj=>?_
 rw [Addr.add_lit]
 have hlt:j<(bs (padN ys)).length:=(List.getElem?_eq_some_iff.1 hj).1
 simp only [World.cell?,h.2,Nat.zero_add,List.getElem?_toArray,wrow]
 rw [List.getElem?_append_left hlt];exact hj
theorem ret_page{fn:Func}{a u:Tmp}(h:fn.results = #[.cell a 229,.tmp u]){tmps:Array Value}{W:World}{q:Nat}{x:List Nat}
  (hp:tmps.getD a undef=.pointer (some ⟨q,0,none⟩)) (hb:PB W q x):(results fn tmps).run Tryz.prog W=.ok (.tuple #[pgV x,tmps.getD u undef]) W:=by
 rw [results_cell_tmp h,hp]
 simp [asAddr,hb.load]
theorem below_grown(h:Below B w W)(hg:W.grownBy W' (some q))(hq:B≤q)(hB:B≤w.heap.size):Below B w W':=
 h.trans ⟨hg.os,hg.tape,hg.output,hg.size,fun k hk=>hg.block k (by have:=h.size;omega) (by intro e;cases e;omega)⟩
theorem below_row(h:Below B w W)(hq:B≤q)(c:Array Value):Below B w (W.setRow q c):=below_setRow h hq c
end Cel
namespace Cel
open Go.RowKit
def hd7(leaf:Bool)(n:Nat)(r:Int):List Nat:=putN (uN (if leaf then 1 else 2)) 1 false++putN (uN (n:Int)) 2 false++putN (uN r) 4 false
theorem hd7_length(leaf:Bool)(n:Nat)(r:Int):(hd7 leaf n r).length=7:=by simp [hd7,putN_length]
def pageN(leaf:Bool)(r:Int)(cs:List C):List Nat:=padN (hd7 leaf cs.length r++allN leaf cs)
def hasN(leaf:Bool)(r:Int)(cs:List C):Bool:=goodN leaf r cs&&decide (sizeN leaf cs≤512)
theorem raw_length(leaf:Bool)(r:Int)(cs:List C):(hd7 leaf cs.length r++allN leaf cs).length=sizeN leaf cs:=by
 rw [List.length_append,hd7_length,sumN_all];rfl
theorem pageN_length(leaf:Bool)(r:Int)(cs:List C)(h:sizeN leaf cs≤512):(pageN leaf r cs).length=512:=padN_length _ (by rw [raw_length];exact h)
theorem Cs.apart{w:World}{co:Option Addr}{cn cc:Nat}{cs:List C}(h:Cs w co cn cc cs){i:Nat}(hi:i<cn){q:Nat}(hq:w.heap.size≤q):0<(cs.getD i default).n→∀ g o,(cs.getD i default).o=some ⟨g,o,none⟩→g≠q:=by
 intro hn g o e
 obtain ⟨b,off,e2,hc⟩:=(h.ok_at hi).rd.2.2.2 hn
 rw [e]at e2
 simp only [Option.some.injEq,Addr.mk.injEq,and_true]at e2
 have:=lt_cell (hc 0 hn)
 simp only at this
 omega
theorem written_no(leaf:Bool)(r:Int)(co:Option Addr)(cn cc:Nat)(cs:List C)(w:World)(h:Cs w co cn cc cs)(hf:Few cs)(hno:hasN leaf r cs=false) :
  Calls Tryz.prog 147 #[.agg #[.bool leaf,.int .i64 r,.slice co cn cc]] w fun e w'=>e=.returned (.tuple #[pgV (zs 512),.bool false])∧Below w.heap.size w w':=by
 have hcn:cn≤100000:=by have:=h.len;have:=hf.1;omega
 obtain ⟨w0,hw0⟩:∃ w0,w0=w.alloc (.cells #[.bool leaf,.int .i64 r,.slice co cn cc] 82):=⟨_,rfl⟩
 have hB0:Below w.heap.size w w0:=by rw [hw0];exact ext1 _
 obtain ⟨w1,hw1⟩:∃ w1,w1=w0.alloc (.cells (bs (zs 512)).toArray 229):=⟨_,rfl⟩
 have hB1:Below w.heap.size w w1:=by rw [hw1];exact gt hB0 (ext1 _)
 have N0:NB 82 w1 w.heap.size leaf r co cn cc:=by
  have:=NB.new 82 w leaf r co cn cc
  rw [←hw0]at this
  rw [hw1];exact this.keep (ext1 _)
 have P0:PB w1 w0.heap.size (zs 512):=by rw [hw1];exact PB.new w0
 have hsz:w0.heap.size=w.heap.size+1:=by rw [hw0];simp
 rw [hsz]at P0
 have cg:=hid (good_any leaf r co cn cc cs w1 (h.keep hB1) hcn)
 have cf:=hid (fun W (hb:Below w1.heap.size w1 W)=>fits_any leaf r co cn cc cs W ((h.keep hB1).keep hb) hf)
 have hno':=hid hno
 unfold hasN at hno'
 generalize goodN leaf r cs=G at *
 generalize decide (sizeN leaf cs≤512)=F at *
 have N1:=hid N0
 have P1:=hid P0
 have B1:=hid hB1
 have al:=hid alloc60
 have bu:=hid build60
 replace hw0:=hid hw0.symm
 replace hw1:=hid hw1.symm
 replace hsz:=hid hsz
 have PS:Hid (∀ W,PB W (w.heap.size+1) (zs 512)→(storeVar 229 ⟨w.heap.size+1,0,none⟩ (pgV (zs 512))).run Tryz.prog W=.ok () (W.setRow (w.heap.size+1) (bs (zs 512)).toArray)∧PB (W.setRow (w.heap.size+1) (bs (zs 512)).toArray) (w.heap.size+1) (zs 512)):=hid (fun W hp=>hp.store (zs_length _))
 obtain ⟨Z,hZ⟩:∃ Z,Z=zs 512:=⟨_,rfl⟩
 rw [←hZ]at PS P0 P1 al bu hw1 ⊢
 replace hZ:=hid hZ
 obtain ⟨u0,u1,u2⟩:=N0.cells
 clear h hf hno N0 P0 hB0 hB1
 cases G with
 | false=>
  go_enter Tryz.func147,Tryz.ntmps147
  go_wp2_with (first
   | ((with_reducible refine here_op 2 ?_);rw [hw0.out];refine wpList_alloc_run rfl 229 rfl _ _ (al.out _) ?_;rw [hw1.out,hsz.out])
   | (go_at_call 199;refine cg.out.mono ?_;rintro e w2 ⟨rfl,hb⟩;have B2:=hid (gt B1.out hb);have P2:=hid (PS.out _ (P1.out.keep hb));clear hb u0 u1 u2)
   | ((with_reducible refine here_op 17 ?_);refine wpList_build_run rfl 229 rfl _ (bu.out _) ?_)
   | ((with_reducible refine here_store 229 ?_);refine wpList_store_run rfl 229 (.tmp 2) (.tmp 17) rfl ⟨w.heap.size+1,0,none⟩ rfl _ rfl _ P2.out.1 ?_))
  (try simp only [Exit.inBlock,Exit.then])
  refine bodyPost_ret (ret_page rfl rfl P2.out.2) rfl ?_
  exact ⟨rfl,below_row B2.out (by omega) _⟩
 | true=>
  have hF:F=false:=by simpa using hno'.out
  subst hF
  go_enter Tryz.func147,Tryz.ntmps147
  go_wp2_with (first
   | ((with_reducible refine here_op 2 ?_);rw [hw0.out];refine wpList_alloc_run rfl 229 rfl _ _ (al.out _) ?_;rw [hw1.out,hsz.out])
   | (go_at_call 199;refine cg.out.mono ?_;rintro e w2 ⟨rfl,hb⟩;have B2:=hid hb;have N2:=hid (N1.out.keep hb);clear hb u0 u1 u2;obtain ⟨u0,u1,u2⟩:=N2.out.cells)
   | (go_at_call 115;refine (cf.out _ B2.out).mono ?_;rintro e w3 ⟨rfl,hb⟩;have B3:=hid (gt B1.out (gt B2.out hb));have P3:=hid (PS.out _ (P1.out.keep (gt B2.out hb)));clear hb u0 u1 u2)
   | ((with_reducible refine here_op 17 ?_);refine wpList_build_run rfl 229 rfl _ (bu.out _) ?_)
   | ((with_reducible refine here_store 229 ?_);refine wpList_store_run rfl 229 (.tmp 2) (.tmp 17) rfl ⟨w.heap.size+1,0,none⟩ rfl _ rfl _ P3.out.1 ?_))
  (try simp only [Exit.inBlock,Exit.then])
  refine bodyPost_ret (ret_page rfl rfl P3.out.2) rfl ?_
  exact ⟨rfl,below_row B3.out (by omega) _⟩
theorem written_true(r:Int)(co:Option Addr)(cn cc:Nat)(cs:List C)(w:World)(h:Cs w co cn cc cs)(hf:Few cs)(hyes:hasN true r cs=true) :
  Calls Tryz.prog 147 #[.agg #[.bool true,.int .i64 r,.slice co cn cc]] w fun e w'=>e=.returned (.tuple #[pgV (pageN true r cs),.bool true])∧Below w.heap.size w w':=by
 have hcn:cn≤100000:=by have:=h.len;have:=hf.1;omega
 obtain ⟨w0,hw0⟩:∃ w0,w0=w.alloc (.cells #[.bool true,.int .i64 r,.slice co cn cc] 82):=⟨_,rfl⟩
 have hB0:Below w.heap.size w w0:=by rw [hw0];exact ext1 _
 obtain ⟨w1,hw1⟩:∃ w1,w1=w0.alloc (.cells (bs (zs 512)).toArray 229):=⟨_,rfl⟩
 have hB1:Below w.heap.size w w1:=by rw [hw1];exact gt hB0 (ext1 _)
 have N0:NB 82 w1 w.heap.size true r co cn cc:=by
  have:=NB.new 82 w true r co cn cc
  rw [←hw0]at this
  rw [hw1];exact this.keep (ext1 _)
 have P0:PB w1 w0.heap.size (zs 512):=by rw [hw1];exact PB.new w0
 have hsz:w0.heap.size=w.heap.size+1:=by rw [hw0];simp
 rw [hsz]at P0
 have cg:=hid (good_any true r co cn cc cs w1 (h.keep hB1) hcn)
 have cf:=hid (fun W (hb:Below w1.heap.size w1 W)=>fits_any true r co cn cc cs W ((h.keep hB1).keep hb) hf)
 have hG:goodN true r cs=true∧sizeN true cs≤512:=by simpa [hasN] using hyes
 rw [hG.1]at cg
 rw [show decide (sizeN true cs≤512)=true by simpa using hG.2]at cf
 have N1:=hid N0
 have P1:=hid P0
 have B1:=hid hB1
 have h':=hid h
 have hl':=hid h.len
 have al:=hid alloc60
 have b89:=hid build89
 have x89:=hid box89
 replace hw0:=hid hw0.symm
 replace hw1:=hid hw1.symm
 replace hsz:=hid hsz
 obtain ⟨Z,hZ⟩:∃ Z,Z=zs 512:=⟨_,rfl⟩
 rw [←hZ]at P0 P1 al hw1
 replace hZ:=hid hZ
 have hT5:=hid hG.2
 obtain ⟨T,hT⟩:∃ T,T=hd7 true cn r++allN true cs:=⟨_,rfl⟩
 have hTl:T.length=sizeN true cs:=by rw [hT,←h.len];exact raw_length _ _ _
 have hTp:pageN true r cs=padN T:=by rw [hT,←h.len];rfl
 rw [hTp]
 replace hT:=hid hT
 replace hTl:=hid hTl
 obtain ⟨M,hM⟩:∃ M:List Nat,M=putN (uN 1) 1 false:=⟨_,rfl⟩
 have hMl:Hid (M.length=1):=hid (by rw [hM];exact putN_length _ _ _)
 have hd7e:Hid (hd7 true cn r=M++putN (uN (cn:Int)) 2 false++putN (uN r) 4 false):=hid (by rw [hM];rfl)
 have n1:Hid (∀ q W,WB W q []→Calls Tryz.prog 202 #[.pointer (some ⟨q,0,none⟩),.int .i64 1,.int .i64 1] W fun e w'=>e=.returned (.tuple #[])∧WB w' q M∧W.grownBy w' (some q)):=hid (fun q W hw=>by rw [hM];exact wnum1 q [] 1 W hw (by simp))
 have n2:Hid (∀ q W,WB W q M→Calls Tryz.prog 202 #[.pointer (some ⟨q,0,none⟩),.int .i64 (cn:Int),.int .i64 2] W fun e w'=>e=.returned (.tuple #[])∧WB w' q (M++putN (uN (cn:Int)) 2 false)∧W.grownBy w' (some q)):=hid (fun q W hw=>wnum2 q M _ W hw (by rw [hMl.out];omega))
 have n4:Hid (∀ q W,WB W q (M++putN (uN (cn:Int)) 2 false)→Calls Tryz.prog 202 #[.pointer (some ⟨q,0,none⟩),.int .i64 r,.int .i64 4] W fun e w'=>e=.returned (.tuple #[])∧WB w' q (hd7 true cn r)∧W.grownBy w' (some q)):=hid (fun q W hw=>by rw [hd7e.out];exact wnum4 q _ r W hw (by rw [List.length_append,hMl.out,putN_length];omega))
 obtain ⟨u0,u1,u2⟩:=N0.cells
 have t1:Hid True:=hid trivial
 have t2:Hid True:=hid trivial
 have t3:Hid True:=hid trivial
 clear h hf hyes N0 P0 hB0 hB1 hG hM hTp
 go_enter Tryz.func147,Tryz.ntmps147
 go_wp2_with (first
  | ((with_reducible refine here_op 2 ?_);rw [hw0.out];refine wpList_alloc_run rfl 229 rfl _ _ (al.out _) ?_;rw [hw1.out,hsz.out])
  | (go_at_call 199;refine cg.out.mono ?_;rintro e w2 ⟨rfl,hb⟩;have B2:=hid hb;have N2:=hid (N1.out.keep hb);clear hb u0 u1 u2;obtain ⟨u0,u1,u2⟩:=N2.out.cells)
  | (go_at_call 115;refine (cf.out _ B2.out).mono ?_;rintro e wq ⟨rfl,hb⟩;have B3:=hid (gt B1.out (gt B2.out hb));have N3:=hid (N1.out.keep (gt B2.out hb));have P3:=hid (P1.out.keep (gt B2.out hb));have hwq:=hid (show w.heap.size+1<wq.heap.size from lt_of_block P3.out.2);clear hb u0 u1 u2)
  | ((with_reducible refine here_op 18 ?_);refine wpList_build_run rfl 285 rfl _ (b89.out _) ?_)
  | ((with_reducible refine here_op 19 ?_);refine wpList_box_run rfl 285 (.tmp 18) rfl _ _ rfl _ (x89.out _) ?_;obtain ⟨q,hq⟩:∃ q,q=wq.heap.size:=⟨_,rfl⟩;have W4:=hid (wb_new wq);have E4:=hid (show Below wq.heap.size wq (wq.alloc (.cells (wrow [] 0).toArray 285)) from ext1 _);rw [←hq]at W4 ⊢;generalize wq.alloc (.cells (wrow [] 0).toArray 285)=w4 at *;replace hq:=hid hq;obtain ⟨u0,u1,u2⟩:=(N3.out.keep E4.out).cells)
  | (go_at_call 202;clear t1;refine (n1.out q _ W4.out).mono ?_;rintro e w5 ⟨rfl,hw,hg⟩;have W5:=hid hw;have E5:=hid (below_grown E4.out hg (by rw [hq.out];exact Nat.le_refl _) (Nat.le_refl _));clear hw hg u0 u1 u2;obtain ⟨u0,u1,u2⟩:=(N3.out.keep E5.out).cells)
  | (go_at_call 202;clear t2;refine (n2.out q _ W5.out).mono ?_;rintro e w6 ⟨rfl,hw,hg⟩;have W6:=hid hw;have E6:=hid (below_grown E5.out hg (by rw [hq.out];exact Nat.le_refl _) (Nat.le_refl _));clear hw hg u0 u1 u2;obtain ⟨u0,u1,u2⟩:=(N3.out.keep E6.out).cells)
  | (go_at_call 202;clear t3;refine (n4.out q _ W6.out).mono ?_;rintro e w7 ⟨rfl,hw,hg⟩;have W7:=hid hw;have E7:=hid (below_grown E6.out hg (by rw [hq.out];exact Nat.le_refl _) (Nat.le_refl _));clear hw hg u0 u1 u2;obtain ⟨u0,u1,u2⟩:=(N3.out.keep E7.out).cells))
 clear cg cf n1 n2 n4 al b89 x89 hw0 hw1
 go_loopw [41] (fun c W=>∃ (i:Nat) (ys:List Nat),i≤cn∧c=.int .i64 (i:Int)∧ys++allN true (cs.drop i)=T∧WB W q ys∧Below wq.heap.size wq W) (fun c _=>cn - (intOf c).toNat)
 case atStart=>exact ⟨0,hd7 true cn r,by omega,rfl,hT.out.symm,W7.out,E7.out⟩
 case round=>
  obtain ⟨i,ys,hi,rfl,he,hW,hb⟩:=hrel
  have he':=hid he
  have hW':=hid hW
  have hb':=hid hb
  clear he hW hb u0 u1 u2
  by_cases hik:i<cn
  ·have B5:=hid (gt B3.out hb'.out)
   obtain ⟨b,off,rfl,hc⟩:=h'.out.at_ (by omega)
   have ha:=hid ((h'.out.keep B5.out).ok_at hik)
   have hap:=hid (h'.out.apart hik (q:=q) (by rw [hq.out];exact B3.out.size))
   obtain ⟨x0,x1,x2,x3,x4⟩:=(hc i hik).keep B5.out
   have hd:=dropC cs i (by have:=hl'.out;omega)
   generalize cs.getD i default=a at *
   rw [hd]at he'
   have hE:ys++oneN true a++allN true (cs.drop (i+1))=T:=by rw [List.append_assoc];exact he'.out
   have hfit:Hid (ys.length+(oneN true a).length≤512):=hid (by have h1:=congrArg List.length hE;have h2:=hTl.out;have h3:=hT5.out;simp only [List.length_append]at h1;omega)
   have hE':=hid hE
   clear hd he' hc hE
   go_wp2_with (go_at_call 201;refine (winleaf_any q ys a _ (hW'.out.keep (ext1 _)) (ha.out.keep (ext1 _)) hap.out hfit.out).mono ?_;rintro e w1 ⟨rfl,hw,hg⟩;have W1:=hid hw;have G1:=hid hg;clear hw hg)
   refine ⟨⟨i+1,_,by omega,by go_num,hE'.out,W1.out,?_⟩,by simp [intOf];omega⟩
   exact below_grown (gt hb'.out (ext1 _)) G1.out (by rw [hq.out];exact Nat.le_refl _) (Nat.le_refl _)
  ·obtain rfl:i=cn:=by omega
   have hE:=he'.out
   rw [List.drop_of_length_le (by have:=hl'.out;omega)]at hE
   simp only [allN,List.flatMap_nil,List.append_nil]at hE
   subst hE
   have ld:=hid hW'.out.load
   have hpl:=hid (padN_length ys hW'.out.1)
   have P5:=hid ((P3.out.under hb'.out hwq.out).store (y:=padN ys) hpl.out)
   go_wp2_with (first
    | ((with_reducible refine here_op 52 ?_);refine wpList_load_run rfl 229 (.tmp 51) rfl ⟨q,0,none⟩ rfl _ ld.out ?_)
    | ((with_reducible refine here_store 229 ?_);refine wpList_store_run rfl 229 (.tmp 2) (.tmp 52) rfl ⟨w.heap.size+1,0,none⟩ rfl _ rfl _ P5.out.1 ?_))
   (try simp only [Exit.inBlock,Exit.then])
   refine bodyPost_ret (ret_page rfl rfl P5.out.2) rfl ?_
   exact ⟨rfl,below_row (gt B3.out hb'.out) (by omega) _⟩
theorem written_false(r:Int)(co:Option Addr)(cn cc:Nat)(cs:List C)(w:World)(h:Cs w co cn cc cs)(hf:Few cs)(hyes:hasN false r cs=true) :
  Calls Tryz.prog 147 #[.agg #[.bool false,.int .i64 r,.slice co cn cc]] w fun e w'=>e=.returned (.tuple #[pgV (pageN false r cs),.bool true])∧Below w.heap.size w w':=by
 have hcn:cn≤100000:=by have:=h.len;have:=hf.1;omega
 obtain ⟨w0,hw0⟩:∃ w0,w0=w.alloc (.cells #[.bool false,.int .i64 r,.slice co cn cc] 82):=⟨_,rfl⟩
 have hB0:Below w.heap.size w w0:=by rw [hw0];exact ext1 _
 obtain ⟨w1,hw1⟩:∃ w1,w1=w0.alloc (.cells (bs (zs 512)).toArray 229):=⟨_,rfl⟩
 have hB1:Below w.heap.size w w1:=by rw [hw1];exact gt hB0 (ext1 _)
 have N0:NB 82 w1 w.heap.size false r co cn cc:=by
  have:=NB.new 82 w false r co cn cc
  rw [←hw0]at this
  rw [hw1];exact this.keep (ext1 _)
 have P0:PB w1 w0.heap.size (zs 512):=by rw [hw1];exact PB.new w0
 have hsz:w0.heap.size=w.heap.size+1:=by rw [hw0];simp
 rw [hsz]at P0
 have cg:=hid (good_any false r co cn cc cs w1 (h.keep hB1) hcn)
 have cf:=hid (fun W (hb:Below w1.heap.size w1 W)=>fits_any false r co cn cc cs W ((h.keep hB1).keep hb) hf)
 have hG:goodN false r cs=true∧sizeN false cs≤512:=by simpa [hasN] using hyes
 rw [hG.1]at cg
 rw [show decide (sizeN false cs≤512)=true by simpa using hG.2]at cf
 have N1:=hid N0
 have P1:=hid P0
 have B1:=hid hB1
 have h':=hid h
 have hl':=hid h.len
 have al:=hid alloc60
 have b89:=hid build89
 have x89:=hid box89
 replace hw0:=hid hw0.symm
 replace hw1:=hid hw1.symm
 replace hsz:=hid hsz
 obtain ⟨Z,hZ⟩:∃ Z,Z=zs 512:=⟨_,rfl⟩
 rw [←hZ]at P0 P1 al hw1
 replace hZ:=hid hZ
 have hT5:=hid hG.2
 obtain ⟨T,hT⟩:∃ T,T=hd7 false cn r++allN false cs:=⟨_,rfl⟩
 have hTl:T.length=sizeN false cs:=by rw [hT,←h.len];exact raw_length _ _ _
 have hTp:pageN false r cs=padN T:=by rw [hT,←h.len];rfl
 rw [hTp]
 replace hT:=hid hT
 replace hTl:=hid hTl
 obtain ⟨M,hM⟩:∃ M:List Nat,M=putN (uN 2) 1 false:=⟨_,rfl⟩
 have hMl:Hid (M.length=1):=hid (by rw [hM];exact putN_length _ _ _)
 have hd7e:Hid (hd7 false cn r=M++putN (uN (cn:Int)) 2 false++putN (uN r) 4 false):=hid (by rw [hM];rfl)
 have n1:Hid (∀ q W,WB W q []→Calls Tryz.prog 202 #[.pointer (some ⟨q,0,none⟩),.int .i64 2,.int .i64 1] W fun e w'=>e=.returned (.tuple #[])∧WB w' q M∧W.grownBy w' (some q)):=hid (fun q W hw=>by rw [hM];exact wnum1 q [] 2 W hw (by simp))
 have n2:Hid (∀ q W,WB W q M→Calls Tryz.prog 202 #[.pointer (some ⟨q,0,none⟩),.int .i64 (cn:Int),.int .i64 2] W fun e w'=>e=.returned (.tuple #[])∧WB w' q (M++putN (uN (cn:Int)) 2 false)∧W.grownBy w' (some q)):=hid (fun q W hw=>wnum2 q M _ W hw (by rw [hMl.out];omega))
 have n4:Hid (∀ q W,WB W q (M++putN (uN (cn:Int)) 2 false)→Calls Tryz.prog 202 #[.pointer (some ⟨q,0,none⟩),.int .i64 r,.int .i64 4] W fun e w'=>e=.returned (.tuple #[])∧WB w' q (hd7 false cn r)∧W.grownBy w' (some q)):=hid (fun q W hw=>by rw [hd7e.out];exact wnum4 q _ r W hw (by rw [List.length_append,hMl.out,putN_length];omega))
 obtain ⟨u0,u1,u2⟩:=N0.cells
 have t1:Hid True:=hid trivial
 have t2:Hid True:=hid trivial
 have t3:Hid True:=hid trivial
 clear h hf hyes N0 P0 hB0 hB1 hG hM hTp
 go_enter Tryz.func147,Tryz.ntmps147
 go_wp2_with (first
  | ((with_reducible refine here_op 2 ?_);rw [hw0.out];refine wpList_alloc_run rfl 229 rfl _ _ (al.out _) ?_;rw [hw1.out,hsz.out])
  | (go_at_call 199;refine cg.out.mono ?_;rintro e w2 ⟨rfl,hb⟩;have B2:=hid hb;have N2:=hid (N1.out.keep hb);clear hb u0 u1 u2;obtain ⟨u0,u1,u2⟩:=N2.out.cells)
  | (go_at_call 115;refine (cf.out _ B2.out).mono ?_;rintro e wq ⟨rfl,hb⟩;have B3:=hid (gt B1.out (gt B2.out hb));have N3:=hid (N1.out.keep (gt B2.out hb));have P3:=hid (P1.out.keep (gt B2.out hb));have hwq:=hid (show w.heap.size+1<wq.heap.size from lt_of_block P3.out.2);clear hb u0 u1 u2)
  | ((with_reducible refine here_op 18 ?_);refine wpList_build_run rfl 285 rfl _ (b89.out _) ?_)
  | ((with_reducible refine here_op 19 ?_);refine wpList_box_run rfl 285 (.tmp 18) rfl _ _ rfl _ (x89.out _) ?_;obtain ⟨q,hq⟩:∃ q,q=wq.heap.size:=⟨_,rfl⟩;have W4:=hid (wb_new wq);have E4:=hid (show Below wq.heap.size wq (wq.alloc (.cells (wrow [] 0).toArray 285)) from ext1 _);rw [←hq]at W4 ⊢;generalize wq.alloc (.cells (wrow [] 0).toArray 285)=w4 at *;replace hq:=hid hq;obtain ⟨u0,u1,u2⟩:=(N3.out.keep E4.out).cells)
  | (go_at_call 202;clear t1;refine (n1.out q _ W4.out).mono ?_;rintro e w5 ⟨rfl,hw,hg⟩;have W5:=hid hw;have E5:=hid (below_grown E4.out hg (by rw [hq.out];exact Nat.le_refl _) (Nat.le_refl _));clear hw hg u0 u1 u2;obtain ⟨u0,u1,u2⟩:=(N3.out.keep E5.out).cells)
  | (go_at_call 202;clear t2;refine (n2.out q _ W5.out).mono ?_;rintro e w6 ⟨rfl,hw,hg⟩;have W6:=hid hw;have E6:=hid (below_grown E5.out hg (by rw [hq.out];exact Nat.le_refl _) (Nat.le_refl _));clear hw hg u0 u1 u2;obtain ⟨u0,u1,u2⟩:=(N3.out.keep E6.out).cells)
  | (go_at_call 202;clear t3;refine (n4.out q _ W6.out).mono ?_;rintro e w7 ⟨rfl,hw,hg⟩;have W7:=hid hw;have E7:=hid (below_grown E6.out hg (by rw [hq.out];exact Nat.le_refl _) (Nat.le_refl _));clear hw hg u0 u1 u2;obtain ⟨u0,u1,u2⟩:=(N3.out.keep E7.out).cells))
 clear cg cf n1 n2 n4 al b89 x89 hw0 hw1
 go_loopw [41] (fun c W=>∃ (i:Nat) (ys:List Nat),i≤cn∧c=.int .i64 (i:Int)∧ys++allN false (cs.drop i)=T∧WB W q ys∧Below wq.heap.size wq W) (fun c _=>cn - (intOf c).toNat)
 case atStart=>exact ⟨0,hd7 false cn r,by omega,rfl,hT.out.symm,W7.out,E7.out⟩
 case round=>
  obtain ⟨i,ys,hi,rfl,he,hW,hb⟩:=hrel
  have he':=hid he
  have hW':=hid hW
  have hb':=hid hb
  clear he hW hb u0 u1 u2
  by_cases hik:i<cn
  ·have B5:=hid (gt B3.out hb'.out)
   obtain ⟨b,off,rfl,hc⟩:=h'.out.at_ (by omega)
   have ha:=hid ((h'.out.keep B5.out).ok_at hik)
   have hap:=hid (h'.out.apart hik (q:=q) (by rw [hq.out];exact B3.out.size))
   obtain ⟨x0,x1,x2,x3,x4⟩:=(hc i hik).keep B5.out
   have hd:=dropC cs i (by have:=hl'.out;omega)
   generalize cs.getD i default=a at *
   rw [hd]at he'
   have hE:ys++oneN false a++allN false (cs.drop (i+1))=T:=by rw [List.append_assoc];exact he'.out
   have hfit:Hid (ys.length+(oneN false a).length≤512):=hid (by have h1:=congrArg List.length hE;have h2:=hTl.out;have h3:=hT5.out;simp only [List.length_append]at h1;omega)
   have hE':=hid hE
   clear hd he' hc hE
   go_wp2_with (go_at_call 200;refine (wabove_any q ys a _ (hW'.out.keep (ext1 _)) ha.out.kI hfit.out).mono ?_;rintro e w1 ⟨rfl,hw,hg⟩;have W1:=hid hw;have G1:=hid hg;clear hw hg)
   refine ⟨⟨i+1,_,by omega,by go_num,hE'.out,W1.out,?_⟩,by simp [intOf];omega⟩
   exact below_grown (gt hb'.out (ext1 _)) G1.out (by rw [hq.out];exact Nat.le_refl _) (Nat.le_refl _)
  ·obtain rfl:i=cn:=by omega
   have hE:=he'.out
   rw [List.drop_of_length_le (by have:=hl'.out;omega)]at hE
   simp only [allN,List.flatMap_nil,List.append_nil]at hE
   subst hE
   have ld:=hid hW'.out.load
   have hpl:=hid (padN_length ys hW'.out.1)
   have P5:=hid ((P3.out.under hb'.out hwq.out).store (y:=padN ys) hpl.out)
   go_wp2_with (first
    | ((with_reducible refine here_op 52 ?_);refine wpList_load_run rfl 229 (.tmp 51) rfl ⟨q,0,none⟩ rfl _ ld.out ?_)
    | ((with_reducible refine here_store 229 ?_);refine wpList_store_run rfl 229 (.tmp 2) (.tmp 52) rfl ⟨w.heap.size+1,0,none⟩ rfl _ rfl _ P5.out.1 ?_))
   (try simp only [Exit.inBlock,Exit.then])
   refine bodyPost_ret (ret_page rfl rfl P5.out.2) rfl ?_
   exact ⟨rfl,below_row (gt B3.out hb'.out) (by omega) _⟩
end Cel
namespace Cel
open Go.RowKit
theorem written_yes(leaf:Bool)(r:Int)(co:Option Addr)(cn cc:Nat)(cs:List C)(w:World)(h:Cs w co cn cc cs)(hf:Few cs)(hyes:hasN leaf r cs=true) :
  Calls Tryz.prog 147 #[.agg #[.bool leaf,.int .i64 r,.slice co cn cc]] w fun e w'=>e=.returned (.tuple #[pgV (pageN leaf r cs),.bool true])∧Below w.heap.size w w':=by
 cases leaf
 ·exact written_false r co cn cc cs w h hf hyes
 ·exact written_true r co cn cc cs w h hf hyes
def wrN(leaf:Bool)(r:Int)(cs:List C):List Nat:=if hasN leaf r cs then pageN leaf r cs else zs 512
theorem wrN_length(leaf:Bool)(r:Int)(cs:List C):(wrN leaf r cs).length=512:=by
 unfold wrN
 split
 ·rename_i h
  exact pageN_length leaf r cs (by simp [hasN]at h;exact h.2)
 ·exact zs_length _
theorem written_any(leaf:Bool)(r:Int)(co:Option Addr)(cn cc:Nat)(cs:List C)(w:World)(h:Cs w co cn cc cs)(hf:Few cs) :
  Calls Tryz.prog 147 #[.agg #[.bool leaf,.int .i64 r,.slice co cn cc]] w fun e w'=>e=.returned (.tuple #[pgV (wrN leaf r cs),.bool (hasN leaf r cs)])∧Below w.heap.size w w':=by
 unfold wrN
 cases hy:hasN leaf r cs with
 | true=>simpa using written_yes leaf r co cn cc cs w h hf hy
 | false=>simpa using written_no leaf r co cn cc cs w h hf hy
theorem bytes_yes(leaf:Bool)(r:Int)(co:Option Addr)(cn cc:Nat)(cs:List C)(w:World)(h:Cs w co cn cc cs)(hf:Few cs)(hy:hasN leaf r cs=true) :
  Calls Tryz.prog 88 #[.agg #[.bool leaf,.int .i64 r,.slice co cn cc]] w fun e w'=>∃ g,e=.returned (.slice (some ⟨g,0,none⟩) 512 512)∧w.heap.size≤g∧Rd w' (some ⟨g,0,none⟩) 512 512 (pageN leaf r cs)∧Below w.heap.size w w':=by
 have B0:Hid (Below w.heap.size w (w.alloc (.cells #[.bool leaf,.int .i64 r,.slice co cn cc] 82))):=hid (ext1 _)
 have cw:=hid (written_yes leaf r co cn cc cs _ (h.keep B0.out) hf hy)
 have al:=hid alloc60
 have hl:(pageN leaf r cs).length=512:=pageN_length leaf r cs (by simp [hasN]at hy;exact hy.2)
 have st:Hid (∀ W:World,(storeVar 229 ⟨W.heap.size,0,none⟩ (pgV (pageN leaf r cs))).run Tryz.prog (W.alloc (.cells (bs (zs 512)).toArray 229))=.ok () ((W.alloc (.cells (bs (zs 512)).toArray 229)).setRow W.heap.size (bs (pageN leaf r cs)).toArray)∧PB ((W.alloc (.cells (bs (zs 512)).toArray 229)).setRow W.heap.size (bs (pageN leaf r cs)).toArray) W.heap.size (pageN leaf r cs)):=hid (fun W=>(PB.new W).store hl)
 generalize pageN leaf r cs=X at *
 obtain ⟨Z,hZ⟩:∃ Z,Z=zs 512:=⟨_,rfl⟩
 rw [←hZ]at st al
 clear h hf hy hZ hl
 go_enter Tryz.func88,Tryz.ntmps88
 go_wp2_with (first
  | (go_at_call 147;refine cw.out.mono ?_;rintro e w1 ⟨rfl,hb⟩;have B1:=hid (gt B0.out hb);clear hb)
  | ((with_reducible refine here_op 3 ?_);refine wpList_alloc_run rfl 229 rfl _ _ (al.out _) ?_)
  | ((with_reducible refine here_store 229 ?_);refine wpList_store_run rfl 229 (.tmp 3) (.tmp 8) rfl ⟨w1.heap.size,0,none⟩ rfl _ rfl _ (st.out _).1 ?_))
 go_ret
 exact ⟨w1.heap.size,rfl,B1.out.size,(st.out w1).2.rd,below_row (gt B1.out (ext1 _)) B1.out.size _⟩
theorem rd_take{w:World}{ao:Option Addr}{n cap:Nat}{xs:List Nat}(h:Rd w ao n cap xs)(m:Nat)(hm:m≤n):Rd w ao m cap (xs.take m):=by
 obtain ⟨hl,hc,hno,hat⟩:=h
 refine ⟨by simp;omega,by omega,fun e=>⟨by have:=(hno e).1;omega,(hno e).2⟩,fun hp=>?_⟩
 obtain ⟨b,off,e,hcell⟩:=hat (by omega)
 refine ⟨b,off,e,fun t ht=>?_⟩
 rw [hcell t (by omega)]
 simp [List.getD,ht]
end Cel
end Go.Proofs.YtenajbfeojljdaaGreatDoor
