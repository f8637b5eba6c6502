/- What came of reading, as the program hands it on; rings; no statement of the seat is proved here. -/
import Derived.Test.YtjieegnmofimkaaDoorFd
namespace Go.Proofs.YtjieegnmofimkaaDoor
open Go.RowKit Go.Maps

set_option maxRecDepth 100000 in
set_option maxHeartbeats 2000000 in
theorem outcome_ok (s : Sh) (w : World) : Calls Tryd.prog 61 #[.agg #[.int .i64 (s).k, .slice (s).xo (s).xn (s).xc, .slice (s).po (s).pn (s).pc], .int .i64 0] w fun e w' => e = .returned (.iface 86 (.agg #[.int .i64 (s).k, .slice (s).xo (s).xn (s).xc, .slice (s).po (s).pn (s).pc])) ∧ Below w.heap.size w w' := by
  have B := hid (Bx.new w s)
  obtain ⟨x0, x1, x2⟩ := B.out.cells
  go_enter Tryd.func61, Tryd.ntmps61
  go_wp2
  go_ret
  exact ⟨rfl, ext1 _⟩
set_option maxRecDepth 100000 in
set_option maxHeartbeats 2000000 in
theorem outcome_bad (s : Sh) (k : Nat) (hk : 1 ≤ k) (w : World) : Calls Tryd.prog 61 #[.agg #[.int .i64 (s).k, .slice (s).xo (s).xn (s).xc, .slice (s).po (s).pn (s).pc], .int .i64 (k : Int)] w fun e w' => e = .returned (.iface 91 (.int .i64 (k : Int))) ∧ Below w.heap.size w w' := by
  have k0 : ((k : Int) == 0) = false := by simp; omega
  go_enter Tryd.func61, Tryd.ntmps61
  go_wp2
  go_ret
  exact ⟨rfl, ext1 _⟩

theorem ret_sh2 {fn : Func} {p u : Tmp} (h : fn.results = #[.cell p 25, .tmp u]) {tmps : Array Value} {W : World} {q : Nat} {t' : TypeId} {a b c : Value}
    (hp : tmps.getD p undef = .pointer (some ⟨q, 0, none⟩)) (hb : W.heap[q]? = some (.cells #[a, b, c] t')) : (results fn tmps).run Tryd.prog W = .ok (.tuple #[.agg #[a, b, c], tmps.getD u undef]) W := by
  rw [results_cell_tmp h, hp]
  simp [asAddr, load3 Tryd.isAgg25 Tryd.sizeOf25 hb]
theorem as86 (v : Value) (W : World) : (Instr.typeAssert (.iface 86 v) 61 86 true).run Tryd.prog W = .ok (.tuple #[v, .bool true]) W := by kernel_rfl
theorem as91 (v : Value) (W : World) : (Instr.typeAssert (.iface 91 v) 61 86 true).run Tryd.prog W = .ok (.tuple #[.agg #[.int .i64 0, .slice none 0 0, .slice none 0 0], .bool false]) W := by kernel_rfl
theorem meth91 (v : Value) (W : World) : (method 251 91 v "hachure/wkb.err").run Tryd.prog W = .ok (110, v) W := by kernel_rfl
set_option maxRecDepth 100000 in
theorem err_call (k : Nat) (w : World) : Calls Tryd.prog 110 #[.int .i64 (k : Int)] w fun e w' => e = .returned (.int .i64 (k : Int)) ∧ w' = w := by
  go_enter Tryd.func110, Tryd.ntmps110
  go_wp2
  go_ret
  exact ⟨rfl, rfl⟩
set_option maxRecDepth 100000 in
set_option maxHeartbeats 2000000 in
theorem taken_ok (s : Sh) (w : World) : Calls Tryd.prog 30 #[.iface 86 (.agg #[.int .i64 (s).k, .slice (s).xo (s).xn (s).xc, .slice (s).po (s).pn (s).pc])] w fun e w' => e = .returned (.tuple #[.agg #[.int .i64 (s).k, .slice (s).xo (s).xn (s).xc, .slice (s).po (s).pn (s).pc], .int .i64 0]) ∧ Below w.heap.size w w' := by
  have a1 := as86 (.agg #[.int .i64 (s).k, .slice (s).xo (s).xn (s).xc, .slice (s).po (s).pn (s).pc])
  go_enter Tryd.func30, Tryd.ntmps30
  go_wp2
  refine bodyPost_ret (ret_sh2 rfl rfl (by repeat (first | (refine at_new ?_; (try simp only [World.size_alloc]); done) | refine at_old ?_))) rfl ?_
  exact ⟨rfl, gt (ext1 _) (ext1 _)⟩
set_option maxRecDepth 100000 in
set_option maxHeartbeats 2000000 in
theorem taken_bad (k : Nat) (w : World) : Calls Tryd.prog 30 #[.iface 91 (.int .i64 (k : Int))] w fun e w' => e = .returned (.tuple #[.agg #[.int .i64 0, .slice none 0 0, .slice none 0 0], .int .i64 (k : Int)]) ∧ Below w.heap.size w w' := by
  have EC := hid (fun w => err_call k w)
  have a1 := as91 (.int .i64 (k : Int))
  have a2 := meth91 (.int .i64 (k : Int))
  go_enter Tryd.func30, Tryd.ntmps30
  go_wp2_with (go_at_call 110; refine (EC.out _).mono ?_; rintro e w1 ⟨rfl, hw⟩; obtain rfl := hw.symm)
  refine bodyPost_ret (ret_sh2 rfl rfl (by repeat (first | (refine at_new ?_; (try simp only [World.size_alloc]); done) | refine at_old ?_))) rfl ?_
  exact ⟨rfl, gt (ext1 _) (ext1 _)⟩

/-- A shape that a call made. -/
def Made (B : Nat) (W : World) (c : Sh) : Prop := In (fun b => B ≤ b ∧ b < W.heap.size) W c
theorem PtsAt.sh {B : Nat} {W : World} {o : Option Addr} {n c : Nat} {xy : List (Int × Int)} (h : PtsAt B W o n c xy) (k : Int) (hk : 0 ≤ k ∧ k ≤ 7) : Made B W (.mk k o n c xy none 0 0 []) := by
  intro q hq
  have : q = .mk k o n c xy none 0 0 [] := by
    rw [nodes_eq] at hq
    simpa [Sh.ps, nodesL] using hq
  subst this
  have := h.lim
  exact { kI := by simp only [Sh.k]; omega, xl := h.len, xm := h.cap, xb := by simp only [Sh.xn]; omega, x0 := h.no, xr := h.xr, pl := rfl, pm := Nat.le_refl _, pb := by simp [Sh.pn], p0 := fun _ => ⟨rfl, rfl⟩, pr := .inl rfl }
theorem Made.up {B B' : Nat} {W : World} {c : Sh} (h : Made B W c) (hB : B' ≤ B) : Made B' W c := h.of fun b hb => ⟨rfl, by omega, hb.2⟩
theorem Made.keep {B : Nat} {W W' : World} {c : Sh} (h : Made B W c) (hb : Below W.heap.size W W') : Made B W' c := h.of fun b hb' => ⟨hb.block b hb'.2, hb'.1, Nat.lt_of_lt_of_le hb'.2 hb.size⟩
set_option maxRecDepth 100000 in
set_option maxHeartbeats 2000000 in
theorem ring_ok {N rb pb qb : Nat} {W : World} {s : St} (h : RdAt N rb pb qb W s) (l : Bool) (t : T) (s' : St) (hd : ringD l s = .ok t s') :
    Calls Tryd.prog 58 #[.pointer (some ⟨rb, 0, none⟩), .bool l] W fun x W' => (∃ c : Sh, x = .returned (.iface 86 (.agg #[.int .i64 (c).k, .slice (c).xo (c).xn (c).xc, .slice (c).po (c).pn (c).pc])) ∧ c.t = t ∧ Made W.heap.size W' c) ∧ Fr (Cg rb pb qb) W W' ∧ RdAt N rb pb qb W' s' := by
  obtain ⟨xy, s1, hr, hd⟩ := bind_inv hd
  injection hd with hd1 hd2
  subst hd1 hd2
  have C := hid (row_ok h l xy s1 hr)
  have OC := hid (fun o n c w => outcome_ok (.mk 0 o n c xy none 0 0 []) w)
  clear h hr
  go_enter Tryd.func58, Tryd.ntmps58
  go_wp2_with (first
    | (go_at_call 55; refine C.out.mono ?_; rintro x w1 ⟨⟨o, n, c, rfl, p1⟩, f1, r1⟩; have F1 := hid f1; have R1 := hid r1; have P1 := hid p1; clear f1 r1 p1)
    | (go_at_call 61; refine (OC.out o n c _).mono ?_; rintro x w2 ⟨rfl, b2⟩; have H2 := hid b2; clear b2))
  go_ret
  refine ⟨⟨.mk 0 o n c xy none 0 0 [], rfl, ?_, (P1.out.sh 0 (by omega)).keep H2.out⟩, F1.out.trans (Fr.cg H2.out), R1.out.keep H2.out⟩
  rw [Sh.t, tL]
set_option maxRecDepth 100000 in
set_option maxHeartbeats 2000000 in
theorem ring_bad {N rb pb qb : Nat} {W : World} {s : St} (h : RdAt N rb pb qb W s) (l : Bool) (e : Nat) (hd : ringD l s = .bad e) :
    Calls Tryd.prog 58 #[.pointer (some ⟨rb, 0, none⟩), .bool l] W fun x W' => x = .returned (.iface 91 (.int .i64 (e : Int))) ∧ (1 ≤ e ∧ e ≤ 20) ∧ Fr (Cg rb pb qb) W W' := by
  rcases bad_inv hd with hd | ⟨xy, s1, hr, hd⟩
  · have C := hid (row_bad h l e hd)
    by_cases he : 1 ≤ e
    · have OC := hid (fun w => outcome_bad (.mk 0 none 0 0 [] none 0 0 []) e he w)
      clear h hd
      go_enter Tryd.func58, Tryd.ntmps58
      go_wp2_with (first
        | (go_at_call 55; refine C.out.mono ?_; rintro x w1 ⟨rfl, he2, f1⟩; have F1 := hid f1; have E2 := hid he2; clear f1 he2)
        | (go_at_call 61; refine (OC.out _).mono ?_; rintro x w2 ⟨rfl, b2⟩; have H2 := hid b2; clear b2))
      go_ret
      exact ⟨rfl, E2.out, F1.out.trans (Fr.cg H2.out)⟩
    · clear h hd
      go_enter Tryd.func58, Tryd.ntmps58
      go_wp2_with (go_at_call 55; refine C.out.mono ?_; rintro x w1 ⟨rfl, he2, f1⟩; exact absurd he2.1 he)
  · cases hd
set_option maxRecDepth 100000 in
theorem shape1_call {R : Ending → World → Prop} (rb b3 b7 : Nat) (l : Bool) (W : World) (h3 : Bo W b3 #[.pointer (some ⟨rb, 0, none⟩)] 57) (h7 : Bo W b7 #[.bool l] 4) (C : Calls Tryd.prog 58 #[.pointer (some ⟨rb, 0, none⟩), .bool l] W R) (hR : ∀ e w, R e w → ∃ v, e = .returned v) :
    Calls Tryd.prog 57 #[.pointer (some ⟨b3, 0, none⟩), .pointer (some ⟨b7, 0, none⟩)] W R := by
  have c3 := h3.cell 0 (.pointer (some ⟨rb, 0, none⟩)) rfl
  have c7 := h7.cell 0 (.bool l) rfl
  have CC := hid C
  have HR := hid hR
  clear h3 h7 C hR
  go_enter Tryd.func57, Tryd.ntmps57
  go_wp2_with (go_at_call 58; refine CC.out.mono ?_; intro e w1 hr; obtain ⟨v, rfl⟩ := HR.out e w1 hr; have HH := hid hr; clear hr)
  exact HH.out
end Go.Proofs.YtjieegnmofimkaaDoor
