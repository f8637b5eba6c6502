/- A shape that a reader reads; no statement of the seat is proved here. -/
import Derived.Test.YtpmfedimjjifaaaGreatDoorJ20
import Derived.Test.YtpmfedimjjifaaaGreatDoorJ21
namespace Go.Proofs.YtpmfedimjjifaaaGreatDoor
open Go.RowKit Go.Maps

set_option maxRecDepth 100000 in
theorem Tab.fr {rb pb qb : Nat} {W W' : World} (h : Tab W) (f : Fr (Cg rb pb qb) W W') (hz : rb ≠ 0 ∧ pb ≠ 0 ∧ qb ≠ 0) : Tab W' := by
  intro k hk
  have e : W'.heap[0]? = W.heap[0]? := f.blk 0 (lt_cell (h k hk).1) fun e => by rcases e with e | e | e <;> omega
  have c : ∀ j, W'.cell? ⟨0, j, none⟩ = W.cell? ⟨0, j, none⟩ := fun j => World.cell?_of_block (a := ⟨0, j, none⟩) e
  rw [c, c, c]; exact h k hk
set_option maxRecDepth 100000 in
theorem Made.st {B : Nat} {W : World} {c : Sh} (h : Made B W c) {q i : Nat} {v : Value} (hq : q < B) : Made B (W.setCell ⟨q, i, none⟩ v) c := h.of fun b hb => ⟨heap_setCell_other _ _ _ _ (by show b ≠ q; omega), by simpa using hb⟩
set_option maxRecDepth 100000 in
theorem partsAt_sh {B : Nat} {W : World} {o : Option Addr} {n c : Nat} {cs : List Sh} (len : cs.length = n) (cap : n ≤ c) (no : o = none → n = 0 ∧ c = 0) (pr : PR (fun b => B ≤ b ∧ b < W.heap.size) W o cs) (ins : ∀ p ∈ cs, In (fun b => B ≤ b ∧ b < W.heap.size) W p) (lim : n ≤ 1000000000) (k : Int) (hk : 0 ≤ k ∧ k ≤ 7) : Made B W (.mk k none 0 0 [] o n c cs) := by
  intro q hq
  rw [nodes_eq] at hq
  rcases List.mem_cons.1 hq with rfl | hq
  · exact { kI := by simp only [Sh.k]; omega, xl := rfl, xm := Nat.le_refl _, xb := by simp [Sh.xn], x0 := fun _ => ⟨rfl, rfl⟩, xr := .inl rfl, pl := len, pm := cap, pb := by simp only [Sh.pn]; omega, p0 := no, pr := pr }
  · have key : ∀ l : List Sh, (∀ p ∈ l, In (fun b => B ≤ b ∧ b < W.heap.size) W p) → q ∈ nodesL l → Here (fun b => B ≤ b ∧ b < W.heap.size) W q := by
      intro l
      induction l with
      | nil => intro _ h; rw [nodesL] at h; cases h
      | cons a r ih =>
        intro hl h
        rw [nodesL, List.mem_append] at h
        rcases h with h | h
        · exact hl a (by simp) q h
        · exact ih (fun p hp => hl p (by simp [hp])) h
    exact key cs ins hq
/-- What a shape's reader answers. -/
def ShOk (N rb pb qb : Nat) (W : World) (t : T) (s' : St) (x : Ending) (W' : World) : Prop := (∃ c : Sh, x = .returned (.iface 160 (.agg #[.int .i64 (c).k, .slice (c).xo (c).xn (c).xc, .slice (c).po (c).pn (c).pc])) ∧ c.t = t ∧ Made W.heap.size W' c) ∧ Fr (Cg rb pb qb) W W' ∧ RdAt N rb pb qb W' s'
def ShBad (rb pb qb : Nat) (W : World) (e : Nat) (x : Ending) (W' : World) : Prop := x = .returned (.iface 164 (.int .i64 (e : Int))) ∧ (1 ≤ e ∧ e ≤ 20) ∧ Fr (Cg rb pb qb) W W'

set_option maxRecDepth 100000 in
set_option maxHeartbeats 2000000 in
theorem shape2_any (R : Ending → World → Prop) (rb b3 b4 b9 d : Nat) (hd : d ≤ 1000) (k : Int) (W : World) (hT : Tab W) (h3 : Bo W b3 #[.pointer (some ⟨rb, 0, none⟩)] 131) (h4 : Bo W b4 #[.int .i64 (d : Int)] 3) (h9 : Bo W b9 #[.int .i64 k] 3)
    (C : ∀ w1, Below W.heap.size W w1 → Calls Tryz.prog 89 #[.pointer (some ⟨rb, 0, none⟩), .int .i64 ((d + 1 : Nat) : Int), .int .i64 (partK k)] w1 R) (hR : ∀ e w, R e w → (∃ v, e = .returned v) ∧ Bo w b3 #[.pointer (some ⟨rb, 0, none⟩)] 131 ∧ Bo w b4 #[.int .i64 (d : Int)] 3 ∧ Bo w b9 #[.int .i64 k] 3) :
    Calls Tryz.prog 113 #[.pointer (some ⟨b3, 0, none⟩), .pointer (some ⟨b4, 0, none⟩), .pointer (some ⟨b9, 0, none⟩)] W R := by
  have c3 := h3.cell 0 (.pointer (some ⟨rb, 0, none⟩)) rfl
  have c4 := h4.cell 0 (.int .i64 (d : Int)) rfl
  have c9 := h9.cell 0 (.int .i64 k) rfl
  have e1 : ((d + 1 : Nat) : Int) = (d : Int) + 1 := by omega
  have hw : IntKind.i64.wrap ((d : Int) + 1) = (d : Int) + 1 := by rw [IntKind.wrap_i64]; omega
  have CC := hid C
  have HR := hid hR
  have PC := hid (fun W (h : Tab W) => part_call k W h)
  have HT := hid hT
  rw [e1] at CC
  clear h3 h4 h9 C hR hT e1
  go_enter Tryz.func113, Tryz.ntmps113
  go_wp2
  refine wp_region_K (S := (fun W' : World => W'.cell? ⟨b3, 0, none⟩ = some (.pointer (some ⟨rb, 0, none⟩)) ∧ W'.cell? ⟨b4, 0, none⟩ = some (.int .i64 (d : Int)) ∧ W'.cell? ⟨b9, 0, none⟩ = some (.int .i64 k))) (fun _ => false) (by kernel_rfl) (by exact ⟨c3, c4, c9⟩) (fun hHeld => ?_)
  refine gkt 0 ?_ (h := by intro W hSw; obtain ⟨r0, r1, r2⟩ := hSw; go_simp; first | done | with_reducible rfl)
  refine gkt 1 ?_ (h := by intro W hSw; obtain ⟨r0, r1, r2⟩ := hSw; go_simp; first | done | with_reducible rfl)
  refine gkp 2 ?_ (v := .int .i64 ((d : Int) + 1)) (h := by intro W hSw; go_simp)
  refine gkt 3 ?_ (h := by intro W hSw; obtain ⟨r0, r1, r2⟩ := hSw; go_simp; first | done | with_reducible rfl)
  refine gk1 4 (fun K hK => ?_)
  go_simp
  go_at_call 114; refine (PC.out _ (HT.out.keep (Below.refl _ _).drew)).mono ?_; rintro e w5 ⟨rfl, b5⟩; have H5 := hid (undrew b5); have hR : (fun W' : World => W'.cell? ⟨b3, 0, none⟩ = some (.pointer (some ⟨rb, 0, none⟩)) ∧ W'.cell? ⟨b4, 0, none⟩ = some (.int .i64 (d : Int)) ∧ W'.cell? ⟨b9, 0, none⟩ = some (.int .i64 k)) w5 := ⟨keep_old H5.out c3, keep_old H5.out c4, keep_old H5.out c9⟩; clear b5
  refine hK.out _ _ hR (fun hHeld => ?_)
  clear hK K hR
  (try simp only [Act.put, sA, sZ, sS])
  refine gk1 5 (fun K hK => ?_)
  go_simp
  go_at_call 89; refine (CC.out w5 H5.out).mono ?_; intro e w6 hr; obtain ⟨⟨v, rfl⟩, q3, q4, q9⟩ := HR.out e w6 hr; have HH := hid hr; have hR : (fun W' : World => W'.cell? ⟨b3, 0, none⟩ = some (.pointer (some ⟨rb, 0, none⟩)) ∧ W'.cell? ⟨b4, 0, none⟩ = some (.int .i64 (d : Int)) ∧ W'.cell? ⟨b9, 0, none⟩ = some (.int .i64 k)) w6 := ⟨q3.cell 0 _ rfl, q4.cell 0 _ rfl, q9.cell 0 _ rfl⟩; clear hr q3 q4 q9
  refine hK.out _ _ hR (fun hHeld => ?_)
  clear hK K hR
  (try simp only [Act.put, sA, sZ, sS])
  refine gkp 6 ?_
  refine wpAnyK_done (by kernel_rfl) ?_ _
  go_wp2
  exact HH.out

set_option maxRecDepth 100000 in
theorem ShOk.low {N rb pb qb : Nat} {W w1 W' : World} {t : T} {s' : St} {x : Ending} (h : ShOk N rb pb qb w1 t s' x W') (b : Below W.heap.size W w1) : ShOk N rb pb qb W t s' x W' := by
  obtain ⟨⟨c, h1, h2, h3⟩, h4, h5⟩ := h
  exact ⟨⟨c, h1, h2, h3.up b.size⟩, (Fr.cg b).trans h4, h5⟩
set_option maxRecDepth 100000 in
theorem ShBad.low {rb pb qb : Nat} {W w1 W' : World} {e : Nat} {x : Ending} (h : ShBad rb pb qb w1 e x W') (b : Below W.heap.size W w1) : ShBad rb pb qb W e x W' := ⟨h.1, h.2.1, (Fr.cg b).trans h.2.2⟩
/-- What is asked of the reader of shapes one deeper. -/
def Deeper (N rb pb qb d : Nat) (next : Int → St → Re T) : Prop :=
  ∀ k W si, RdAt N rb pb qb W si → Tab W → (∀ t s', next (partK k) si = .ok t s' → Calls Tryz.prog 89 #[.pointer (some ⟨rb, 0, none⟩), .int .i64 ((d + 1 : Nat) : Int), .int .i64 (partK k)] W (ShOk N rb pb qb W t s')) ∧
    (∀ e, next (partK k) si = .bad e → Calls Tryz.prog 89 #[.pointer (some ⟨rb, 0, none⟩), .int .i64 ((d + 1 : Nat) : Int), .int .i64 (partK k)] W (ShBad rb pb qb W e))
set_option maxRecDepth 100000 in
theorem rin_next {N rb pb qb b3 b7 : Nat} {V : World} {s : St} (r : RdAt N rb pb qb V s) (l : Bool) (h3 : Bo V b3 #[.pointer (some ⟨rb, 0, none⟩)] 131) (h7 : Bo V b7 #[.bool l] 4) (n3 : N ≤ b3) (n7 : N ≤ b7) : Rin.Nexts b3 b7 N rb pb qb V (ringD l) :=
  ⟨fun W si t s' f ri hm => shape1_call rb b3 b7 l W (f.bo r h3 n3) (f.bo r h7 n7) (ring_ok ri l t s' hm) (fun e w h => by obtain ⟨⟨c, rfl, _⟩, _⟩ := h; exact ⟨_, rfl⟩),
   fun W si e f ri hm => shape1_call rb b3 b7 l W (f.bo r h3 n3) (f.bo r h7 n7) (ring_bad ri l e hm) (fun e w h => ⟨_, h.1⟩)⟩
set_option maxRecDepth 100000 in
theorem prt_next {N rb pb qb b3 b4 b9 d : Nat} {V : World} {s : St} (r : RdAt N rb pb qb V s) (hT : Tab V) (hz : rb ≠ 0 ∧ pb ≠ 0 ∧ qb ≠ 0) (hd : d ≤ 1000) (k : Int) (next : Int → St → Re T) (hn : Deeper N rb pb qb d next) (h3 : Bo V b3 #[.pointer (some ⟨rb, 0, none⟩)] 131) (h4 : Bo V b4 #[.int .i64 (d : Int)] 3) (h9 : Bo V b9 #[.int .i64 k] 3) (n3 : N ≤ b3) (n4 : N ≤ b4) (n9 : N ≤ b9) :
    Prt.Nexts b3 b4 b9 N rb pb qb V (next (partK k)) := by
  constructor
  · intro W si t s' f ri hm
    have g3 := f.bo r h3 n3
    have g4 := f.bo r h4 n4
    have g9 := f.bo r h9 n9
    refine (shape2_any (ShOk N rb pb qb W t s') rb b3 b4 b9 d hd k W (hT.fr f hz) g3 g4 g9 (fun w1 hb => (((hn k w1 si (ri.keep hb) ((hT.fr f hz).keep hb)).1 t s' hm).mono fun x w2 hx => hx.low hb)) (fun e w hx => ?_))
    obtain ⟨⟨c, rfl, -⟩, f5, -⟩ := hx
    exact ⟨⟨_, rfl⟩, f5.bo ri g3 n3, f5.bo ri g4 n4, f5.bo ri g9 n9⟩
  · intro W si e f ri hm
    have g3 := f.bo r h3 n3
    have g4 := f.bo r h4 n4
    have g9 := f.bo r h9 n9
    refine (shape2_any (ShBad rb pb qb W e) rb b3 b4 b9 d hd k W (hT.fr f hz) g3 g4 g9 (fun w1 hb => (((hn k w1 si (ri.keep hb) ((hT.fr f hz).keep hb)).2 e hm).mono fun x w2 hx => hx.low hb)) (fun e w hx => ?_))
    obtain ⟨rfl, -, f5⟩ := hx
    exact ⟨⟨_, rfl⟩, f5.bo ri g3 n3, f5.bo ri g4 n4, f5.bo ri g9 n9⟩
set_option maxRecDepth 100000 in
theorem ret_one {v : Value} {R : Ending → World → Prop} {w : World} (h : R (.returned v) w) : R (.returned v) w := h

set_option maxRecDepth 100000 in
set_option maxHeartbeats 8000000 in
theorem shape_order {N rb pb qb : Nat} {W : World} {s : St} (h : RdAt N rb pb qb W s) (hT : Tab W) (hz : rb ≠ 0 ∧ pb ≠ 0 ∧ qb ≠ 0) (d : Nat) (hd : 1 ≤ d ∧ d ≤ 17) (want : Int) (e : Nat) (ho : orderD (decide (16 < d)) s = .bad e) :
    Calls Tryz.prog 89 #[.pointer (some ⟨rb, 0, none⟩), .int .i64 (d : Int), .int .i64 want] W (ShBad rb pb qb W e) := by
  have hN := h.sz
  have A1 := hid ((h.al (.cells #[.pointer (some ⟨rb, 0, none⟩)] 131)).al (.cells #[.int .i64 (d : Int)] 3))
  have G3 := hid ((Bo.new W #[.pointer (some ⟨rb, 0, none⟩)] 131).keep (ext1 (.cells #[.int .i64 (d : Int)] 3)))
  have G4 := hid (show Bo ((W.alloc (.cells #[.pointer (some ⟨rb, 0, none⟩)] 131)).alloc (.cells #[.int .i64 (d : Int)] 3)) (W.heap.size + 1) #[.int .i64 (d : Int)] 3 by have := Bo.new (W.alloc (.cells #[.pointer (some ⟨rb, 0, none⟩)] 131)) #[.int .i64 (d : Int)] 3; rwa [World.size_alloc] at this)
  have F0 := hid (show Fr (Cg rb pb qb) W ((W.alloc (.cells #[.pointer (some ⟨rb, 0, none⟩)] 131)).alloc (.cells #[.int .i64 (d : Int)] 3)) from (Fr.alloc _ _ _).al _)
  have c3 := G3.out.cell 0 (.pointer (some ⟨rb, 0, none⟩)) rfl
  have c4 := G4.out.cell 0 (.int .i64 (d : Int)) rfl
  have HT := hid hT
  have _ := hz
  have OC := hid (order_bad A1.out d (by omega) e ho)
  clear h hT ho
  go_enter Tryz.func89, Tryz.ntmps89
  by_cases he : 1 ≤ e ∧ e ≤ 20
  · have he1 : ((e : Int) == 0) = false := by simp; omega
    go_wp2_with (go_at_call 106; refine OC.out.mono ?_; rintro x w1 ⟨rfl, -, b1⟩; have H1 := hid b1; clear b1)
    go_ret
    exact ⟨rfl, he, ((F0.out.trans (Fr.cg H1.out))).al _⟩
  · go_wp2_with (go_at_call 106; refine OC.out.mono ?_; rintro x w1 ⟨rfl, h2, b1⟩; exact absurd h2 he)

set_option maxRecDepth 100000 in
set_option maxHeartbeats 8000000 in
theorem shape_kind {N rb pb qb : Nat} {W : World} {s : St} (h : RdAt N rb pb qb W s) (hT : Tab W) (hz : rb ≠ 0 ∧ pb ≠ 0 ∧ qb ≠ 0) (d : Nat) (hd : 1 ≤ d ∧ d ≤ 17) (want : Int) (l : Bool) (s1 : St) (e : Nat) (ho : orderD (decide (16 < d)) s = .ok l s1) (hk : kindD want l s1 = .bad e) :
    Calls Tryz.prog 89 #[.pointer (some ⟨rb, 0, none⟩), .int .i64 (d : Int), .int .i64 want] W (ShBad rb pb qb W e) := by
  have hN := h.sz
  have A1 := hid ((h.al (.cells #[.pointer (some ⟨rb, 0, none⟩)] 131)).al (.cells #[.int .i64 (d : Int)] 3))
  have G3 := hid ((Bo.new W #[.pointer (some ⟨rb, 0, none⟩)] 131).keep (ext1 (.cells #[.int .i64 (d : Int)] 3)))
  have G4 := hid (show Bo ((W.alloc (.cells #[.pointer (some ⟨rb, 0, none⟩)] 131)).alloc (.cells #[.int .i64 (d : Int)] 3)) (W.heap.size + 1) #[.int .i64 (d : Int)] 3 by have := Bo.new (W.alloc (.cells #[.pointer (some ⟨rb, 0, none⟩)] 131)) #[.int .i64 (d : Int)] 3; rwa [World.size_alloc] at this)
  have F0 := hid (show Fr (Cg rb pb qb) W ((W.alloc (.cells #[.pointer (some ⟨rb, 0, none⟩)] 131)).alloc (.cells #[.int .i64 (d : Int)] 3)) from (Fr.alloc _ _ _).al _)
  have c3 := G3.out.cell 0 (.pointer (some ⟨rb, 0, none⟩)) rfl
  have c4 := G4.out.cell 0 (.int .i64 (d : Int)) rfl
  have HT := hid hT
  have _ := hz
  have OC := hid (order_ok A1.out d (by omega) l s1 ho)
  have KC := hid (fun w1 (r : RdAt N rb pb qb w1 s1) => kind_bad r want l e hk)
  clear h hT ho hk
  go_enter Tryz.func89, Tryz.ntmps89
  by_cases he : 1 ≤ e ∧ e ≤ 20
  · have he1 : ((e : Int) == 0) = false := by simp; omega
    go_wp2_with (first
      | (go_at_call 106; refine OC.out.mono ?_; rintro x w1 ⟨rfl, f1, r1⟩; have F1 := hid f1; have R1 := hid r1; have X3 := hid ((f1.bo A1.out G3.out hN).keep (ext1 (.cells #[.bool l] 4))); have X4 := hid ((f1.bo A1.out G4.out (by omega)).keep (ext1 (.cells #[.bool l] 4))); have X7 := hid (Bo.new w1 #[.bool l] 4); have c3 := X3.out.cell 0 (.pointer (some ⟨rb, 0, none⟩)) rfl; have c4 := X4.out.cell 0 (.int .i64 (d : Int)) rfl; have c7 := X7.out.cell 0 (.bool l) rfl; have z1 := f1.size; simp only [World.size_alloc] at z1; clear f1 r1)
      | (go_at_call 107; refine (KC.out _ (R1.out.al _)).mono ?_; rintro x w2 ⟨rfl, -, f2⟩; have F2 := hid f2; clear f2))
    go_ret
    exact ⟨rfl, he, ((((F0.out.trans F1.out).al _).trans F2.out)).al _⟩
  · go_wp2_with (first
      | (go_at_call 106; refine OC.out.mono ?_; rintro x w1 ⟨rfl, f1, r1⟩; have F1 := hid f1; have R1 := hid r1; have X3 := hid ((f1.bo A1.out G3.out hN).keep (ext1 (.cells #[.bool l] 4))); have X4 := hid ((f1.bo A1.out G4.out (by omega)).keep (ext1 (.cells #[.bool l] 4))); have X7 := hid (Bo.new w1 #[.bool l] 4); have c3 := X3.out.cell 0 (.pointer (some ⟨rb, 0, none⟩)) rfl; have c4 := X4.out.cell 0 (.int .i64 (d : Int)) rfl; have c7 := X7.out.cell 0 (.bool l) rfl; have z1 := f1.size; simp only [World.size_alloc] at z1; clear f1 r1)
      | (go_at_call 107; refine (KC.out _ (R1.out.al _)).mono ?_; rintro x w2 ⟨rfl, h2, f2⟩; exact absurd h2 he))

set_option maxRecDepth 100000 in
set_option maxHeartbeats 8000000 in
theorem shape_ok1 {N rb pb qb : Nat} {W : World} {s : St} (h : RdAt N rb pb qb W s) (hT : Tab W) (hz : rb ≠ 0 ∧ pb ≠ 0 ∧ qb ≠ 0) (d : Nat) (hd : 1 ≤ d ∧ d ≤ 17) (want : Int) (l : Bool) (s1 s2 s3 : St) (ho : orderD (decide (16 < d)) s = .ok l s1) (hk : kindD want l s1 = .ok 1 s2) (xy : List (Int × Int)) (hb : spotD l s2 = .ok xy s3) :
    Calls Tryz.prog 89 #[.pointer (some ⟨rb, 0, none⟩), .int .i64 (d : Int), .int .i64 want] W (ShOk N rb pb qb W (.mk 1 xy []) s3) := by
  have hN := h.sz
  have A1 := hid ((h.al (.cells #[.pointer (some ⟨rb, 0, none⟩)] 131)).al (.cells #[.int .i64 (d : Int)] 3))
  have G3 := hid ((Bo.new W #[.pointer (some ⟨rb, 0, none⟩)] 131).keep (ext1 (.cells #[.int .i64 (d : Int)] 3)))
  have G4 := hid (show Bo ((W.alloc (.cells #[.pointer (some ⟨rb, 0, none⟩)] 131)).alloc (.cells #[.int .i64 (d : Int)] 3)) (W.heap.size + 1) #[.int .i64 (d : Int)] 3 by have := Bo.new (W.alloc (.cells #[.pointer (some ⟨rb, 0, none⟩)] 131)) #[.int .i64 (d : Int)] 3; rwa [World.size_alloc] at this)
  have F0 := hid (show Fr (Cg rb pb qb) W ((W.alloc (.cells #[.pointer (some ⟨rb, 0, none⟩)] 131)).alloc (.cells #[.int .i64 (d : Int)] 3)) from (Fr.alloc _ _ _).al _)
  have c3 := G3.out.cell 0 (.pointer (some ⟨rb, 0, none⟩)) rfl
  have c4 := G4.out.cell 0 (.int .i64 (d : Int)) rfl
  have HT := hid hT
  have _ := hz
  have OC := hid (order_ok A1.out d (by omega) l s1 ho)
  have KC := hid (fun w1 (r : RdAt N rb pb qb w1 s1) => kind_ok r want l _ s2 hk)
  have BC := hid (fun w1 (r : RdAt N rb pb qb w1 s2) => spot_ok r l xy s3 hb)
  have OO := hid (fun o n c w => outcome_ok (.mk 1 o n c xy none 0 0 []) w)
  clear h hT ho hk hb
  go_enter Tryz.func89, Tryz.ntmps89
  go_wp2_with (first
    | (go_at_call 106; refine OC.out.mono ?_; rintro x w1 ⟨rfl, f1, r1⟩; have F1 := hid f1; have R1 := hid r1; have X3 := hid ((f1.bo A1.out G3.out hN).keep (ext1 (.cells #[.bool l] 4))); have X4 := hid ((f1.bo A1.out G4.out (by omega)).keep (ext1 (.cells #[.bool l] 4))); have X7 := hid (Bo.new w1 #[.bool l] 4); have c3 := X3.out.cell 0 (.pointer (some ⟨rb, 0, none⟩)) rfl; have c4 := X4.out.cell 0 (.int .i64 (d : Int)) rfl; have c7 := X7.out.cell 0 (.bool l) rfl; have z1 := f1.size; simp only [World.size_alloc] at z1; clear f1 r1)
    | (go_at_call 107; refine (KC.out _ (R1.out.al _)).mono ?_; rintro x w2 ⟨rfl, f2, r2⟩; have F2 := hid f2; have z2 := f2.size; simp only [World.size_alloc] at z2; have R2 := hid ((r2.al (.cells #[.int .i64 1] 3)).al (.cells #[.int .i64 1, .slice none 0 0, .slice none 0 0] 39)); have Y3 := hid (((f2.bo (R1.out.al _) X3.out hN).keep (ext1 (.cells #[.int .i64 1] 3))).keep (ext1 (.cells #[.int .i64 1, .slice none 0 0, .slice none 0 0] 39))); have Y4 := hid (((f2.bo (R1.out.al _) X4.out (by omega)).keep (ext1 (.cells #[.int .i64 1] 3))).keep (ext1 (.cells #[.int .i64 1, .slice none 0 0, .slice none 0 0] 39))); have Y7 := hid (((f2.bo (R1.out.al _) X7.out (by omega)).keep (ext1 (.cells #[.int .i64 1] 3))).keep (ext1 (.cells #[.int .i64 1, .slice none 0 0, .slice none 0 0] 39))); have Y9a := hid (Bo.new w2 #[.int .i64 1] 3); have c9a := Y9a.out.cell 0 (.int .i64 1) rfl; have Y9 := hid (Y9a.out.keep (ext1 (.cells #[.int .i64 1, .slice none 0 0, .slice none 0 0] 39))); have YS := hid (show Bo ((w2.alloc (.cells #[.int .i64 1] 3)).alloc (.cells #[.int .i64 1, .slice none 0 0, .slice none 0 0] 39)) (w2.heap.size + 1) #[.int .i64 1, .slice none 0 0, .slice none 0 0] 39 by have := Bo.new (w2.alloc (.cells #[.int .i64 1] 3)) #[.int .i64 1, .slice none 0 0, .slice none 0 0] 39; rwa [World.size_alloc] at this); have c3 := Y3.out.cell 0 (.pointer (some ⟨rb, 0, none⟩)) rfl; have c4 := Y4.out.cell 0 (.int .i64 (d : Int)) rfl; have c7 := Y7.out.cell 0 (.bool l) rfl; have c9 := Y9.out.cell 0 (.int .i64 1) rfl; clear f2 r2)
    | (go_at_call 108; refine (BC.out _ R2.out).mono ?_; rintro x w4 ⟨⟨o, n, c, rfl, p4⟩, f4, r4⟩; have F4 := hid f4; have z4 := f4.size; simp only [World.size_alloc] at z4; have ZS := hid (f4.bo R2.out YS.out (by omega)); have s0 := ZS.out.cell 0 (.int .i64 1) rfl; have s1' := ZS.out.cell 1 (.slice none 0 0) rfl; have s2 := ZS.out.cell 2 (.slice none 0 0) rfl; have g1 := ZS.out.fz 1; have g2 := ZS.out.fz 2; have R4 := hid r4; have P4 := hid p4; clear f4 r4 p4)
    | (go_at_call 115; refine (OO.out o n c _).mono ?_; rintro x w5 ⟨rfl, b5⟩; have H5 := hid b5; clear b5))
  go_ret
  refine ⟨⟨.mk 1 o n c xy none 0 0 [], rfl, by rw [Sh.t, tL], (((P4.out.sh 1 (by omega)).st (by simp)).keep H5.out).up (by simp; omega)⟩, (((((((F0.out.trans F1.out).al _).trans F2.out).al _).al _).trans F4.out).st (by omega)).low (H5.out.mono (by simp; omega)), (R4.out.st (by omega)).keep H5.out⟩

set_option maxRecDepth 100000 in
set_option maxHeartbeats 8000000 in
theorem shape_ok2 {N rb pb qb : Nat} {W : World} {s : St} (h : RdAt N rb pb qb W s) (hT : Tab W) (hz : rb ≠ 0 ∧ pb ≠ 0 ∧ qb ≠ 0) (d : Nat) (hd : 1 ≤ d ∧ d ≤ 17) (want : Int) (l : Bool) (s1 s2 s3 : St) (ho : orderD (decide (16 < d)) s = .ok l s1) (hk : kindD want l s1 = .ok 2 s2) (xy : List (Int × Int)) (hb : rowD l s2 = .ok xy s3) :
    Calls Tryz.prog 89 #[.pointer (some ⟨rb, 0, none⟩), .int .i64 (d : Int), .int .i64 want] W (ShOk N rb pb qb W (.mk 2 xy []) s3) := by
  have hN := h.sz
  have A1 := hid ((h.al (.cells #[.pointer (some ⟨rb, 0, none⟩)] 131)).al (.cells #[.int .i64 (d : Int)] 3))
  have G3 := hid ((Bo.new W #[.pointer (some ⟨rb, 0, none⟩)] 131).keep (ext1 (.cells #[.int .i64 (d : Int)] 3)))
  have G4 := hid (show Bo ((W.alloc (.cells #[.pointer (some ⟨rb, 0, none⟩)] 131)).alloc (.cells #[.int .i64 (d : Int)] 3)) (W.heap.size + 1) #[.int .i64 (d : Int)] 3 by have := Bo.new (W.alloc (.cells #[.pointer (some ⟨rb, 0, none⟩)] 131)) #[.int .i64 (d : Int)] 3; rwa [World.size_alloc] at this)
  have F0 := hid (show Fr (Cg rb pb qb) W ((W.alloc (.cells #[.pointer (some ⟨rb, 0, none⟩)] 131)).alloc (.cells #[.int .i64 (d : Int)] 3)) from (Fr.alloc _ _ _).al _)
  have c3 := G3.out.cell 0 (.pointer (some ⟨rb, 0, none⟩)) rfl
  have c4 := G4.out.cell 0 (.int .i64 (d : Int)) rfl
  have HT := hid hT
  have _ := hz
  have OC := hid (order_ok A1.out d (by omega) l s1 ho)
  have KC := hid (fun w1 (r : RdAt N rb pb qb w1 s1) => kind_ok r want l _ s2 hk)
  have BC := hid (fun w1 (r : RdAt N rb pb qb w1 s2) => row_ok r l xy s3 hb)
  have OO := hid (fun o n c w => outcome_ok (.mk 2 o n c xy none 0 0 []) w)
  clear h hT ho hk hb
  go_enter Tryz.func89, Tryz.ntmps89
  go_wp2_with (first
    | (go_at_call 106; refine OC.out.mono ?_; rintro x w1 ⟨rfl, f1, r1⟩; have F1 := hid f1; have R1 := hid r1; have X3 := hid ((f1.bo A1.out G3.out hN).keep (ext1 (.cells #[.bool l] 4))); have X4 := hid ((f1.bo A1.out G4.out (by omega)).keep (ext1 (.cells #[.bool l] 4))); have X7 := hid (Bo.new w1 #[.bool l] 4); have c3 := X3.out.cell 0 (.pointer (some ⟨rb, 0, none⟩)) rfl; have c4 := X4.out.cell 0 (.int .i64 (d : Int)) rfl; have c7 := X7.out.cell 0 (.bool l) rfl; have z1 := f1.size; simp only [World.size_alloc] at z1; clear f1 r1)
    | (go_at_call 107; refine (KC.out _ (R1.out.al _)).mono ?_; rintro x w2 ⟨rfl, f2, r2⟩; have F2 := hid f2; have z2 := f2.size; simp only [World.size_alloc] at z2; have R2 := hid ((r2.al (.cells #[.int .i64 2] 3)).al (.cells #[.int .i64 2, .slice none 0 0, .slice none 0 0] 39)); have Y3 := hid (((f2.bo (R1.out.al _) X3.out hN).keep (ext1 (.cells #[.int .i64 2] 3))).keep (ext1 (.cells #[.int .i64 2, .slice none 0 0, .slice none 0 0] 39))); have Y4 := hid (((f2.bo (R1.out.al _) X4.out (by omega)).keep (ext1 (.cells #[.int .i64 2] 3))).keep (ext1 (.cells #[.int .i64 2, .slice none 0 0, .slice none 0 0] 39))); have Y7 := hid (((f2.bo (R1.out.al _) X7.out (by omega)).keep (ext1 (.cells #[.int .i64 2] 3))).keep (ext1 (.cells #[.int .i64 2, .slice none 0 0, .slice none 0 0] 39))); have Y9a := hid (Bo.new w2 #[.int .i64 2] 3); have c9a := Y9a.out.cell 0 (.int .i64 2) rfl; have Y9 := hid (Y9a.out.keep (ext1 (.cells #[.int .i64 2, .slice none 0 0, .slice none 0 0] 39))); have YS := hid (show Bo ((w2.alloc (.cells #[.int .i64 2] 3)).alloc (.cells #[.int .i64 2, .slice none 0 0, .slice none 0 0] 39)) (w2.heap.size + 1) #[.int .i64 2, .slice none 0 0, .slice none 0 0] 39 by have := Bo.new (w2.alloc (.cells #[.int .i64 2] 3)) #[.int .i64 2, .slice none 0 0, .slice none 0 0] 39; rwa [World.size_alloc] at this); have c3 := Y3.out.cell 0 (.pointer (some ⟨rb, 0, none⟩)) rfl; have c4 := Y4.out.cell 0 (.int .i64 (d : Int)) rfl; have c7 := Y7.out.cell 0 (.bool l) rfl; have c9 := Y9.out.cell 0 (.int .i64 2) rfl; clear f2 r2)
    | (go_at_call 109; refine (BC.out _ R2.out).mono ?_; rintro x w4 ⟨⟨o, n, c, rfl, p4⟩, f4, r4⟩; have F4 := hid f4; have z4 := f4.size; simp only [World.size_alloc] at z4; have ZS := hid (f4.bo R2.out YS.out (by omega)); have s0 := ZS.out.cell 0 (.int .i64 2) rfl; have s1' := ZS.out.cell 1 (.slice none 0 0) rfl; have s2 := ZS.out.cell 2 (.slice none 0 0) rfl; have g1 := ZS.out.fz 1; have g2 := ZS.out.fz 2; have R4 := hid r4; have P4 := hid p4; clear f4 r4 p4)
    | (go_at_call 115; refine (OO.out o n c _).mono ?_; rintro x w5 ⟨rfl, b5⟩; have H5 := hid b5; clear b5))
  go_ret
  refine ⟨⟨.mk 2 o n c xy none 0 0 [], rfl, by rw [Sh.t, tL], (((P4.out.sh 2 (by omega)).st (by simp)).keep H5.out).up (by simp; omega)⟩, (((((((F0.out.trans F1.out).al _).trans F2.out).al _).al _).trans F4.out).st (by omega)).low (H5.out.mono (by simp; omega)), (R4.out.st (by omega)).keep H5.out⟩

set_option maxRecDepth 100000 in
set_option maxHeartbeats 8000000 in
theorem shape_ok3 {N rb pb qb : Nat} {W : World} {s : St} (h : RdAt N rb pb qb W s) (hT : Tab W) (hz : rb ≠ 0 ∧ pb ≠ 0 ∧ qb ≠ 0) (d : Nat) (hd : 1 ≤ d ∧ d ≤ 17) (want : Int) (l : Bool) (s1 s2 s3 : St) (ho : orderD (decide (16 < d)) s = .ok l s1) (hk : kindD want l s1 = .ok 3 s2) (ts : List T) (hb : listD 4 l (ringD l) s2 = .ok ts s3) :
    Calls Tryz.prog 89 #[.pointer (some ⟨rb, 0, none⟩), .int .i64 (d : Int), .int .i64 want] W (ShOk N rb pb qb W (.mk 3 [] ts) s3) := by
  have hN := h.sz
  have A1 := hid ((h.al (.cells #[.pointer (some ⟨rb, 0, none⟩)] 131)).al (.cells #[.int .i64 (d : Int)] 3))
  have G3 := hid ((Bo.new W #[.pointer (some ⟨rb, 0, none⟩)] 131).keep (ext1 (.cells #[.int .i64 (d : Int)] 3)))
  have G4 := hid (show Bo ((W.alloc (.cells #[.pointer (some ⟨rb, 0, none⟩)] 131)).alloc (.cells #[.int .i64 (d : Int)] 3)) (W.heap.size + 1) #[.int .i64 (d : Int)] 3 by have := Bo.new (W.alloc (.cells #[.pointer (some ⟨rb, 0, none⟩)] 131)) #[.int .i64 (d : Int)] 3; rwa [World.size_alloc] at this)
  have F0 := hid (show Fr (Cg rb pb qb) W ((W.alloc (.cells #[.pointer (some ⟨rb, 0, none⟩)] 131)).alloc (.cells #[.int .i64 (d : Int)] 3)) from (Fr.alloc _ _ _).al _)
  have c3 := G3.out.cell 0 (.pointer (some ⟨rb, 0, none⟩)) rfl
  have c4 := G4.out.cell 0 (.int .i64 (d : Int)) rfl
  have HT := hid hT
  have _ := hz
  have OC := hid (order_ok A1.out d (by omega) l s1 ho)
  have KC := hid (fun w1 (r : RdAt N rb pb qb w1 s1) => kind_ok r want l _ s2 hk)
  have BC := hid (fun w1 b3 b7 (r : RdAt N rb pb qb w1 s2) (h3 : Bo w1 b3 #[.pointer (some ⟨rb, 0, none⟩)] 131) (h7 : Bo w1 b7 #[.bool l] 4) n3 n7 => Rin.list_ok b3 b7 r 4 (by omega) l (ringD l) (rin_next r l h3 h7 n3 n7) ts s3 hb)
  have OO := hid (fun o n c cs w => outcome_ok (.mk 3 none 0 0 [] o n c cs) w)
  clear h hT ho hk hb
  go_enter Tryz.func89, Tryz.ntmps89
  go_wp2_with (first
    | (go_at_call 106; refine OC.out.mono ?_; rintro x w1 ⟨rfl, f1, r1⟩; have F1 := hid f1; have R1 := hid r1; have X3 := hid ((f1.bo A1.out G3.out hN).keep (ext1 (.cells #[.bool l] 4))); have X4 := hid ((f1.bo A1.out G4.out (by omega)).keep (ext1 (.cells #[.bool l] 4))); have X7 := hid (Bo.new w1 #[.bool l] 4); have c3 := X3.out.cell 0 (.pointer (some ⟨rb, 0, none⟩)) rfl; have c4 := X4.out.cell 0 (.int .i64 (d : Int)) rfl; have c7 := X7.out.cell 0 (.bool l) rfl; have z1 := f1.size; simp only [World.size_alloc] at z1; clear f1 r1)
    | (go_at_call 107; refine (KC.out _ (R1.out.al _)).mono ?_; rintro x w2 ⟨rfl, f2, r2⟩; have F2 := hid f2; have z2 := f2.size; simp only [World.size_alloc] at z2; have R2 := hid ((r2.al (.cells #[.int .i64 3] 3)).al (.cells #[.int .i64 3, .slice none 0 0, .slice none 0 0] 39)); have Y3 := hid (((f2.bo (R1.out.al _) X3.out hN).keep (ext1 (.cells #[.int .i64 3] 3))).keep (ext1 (.cells #[.int .i64 3, .slice none 0 0, .slice none 0 0] 39))); have Y4 := hid (((f2.bo (R1.out.al _) X4.out (by omega)).keep (ext1 (.cells #[.int .i64 3] 3))).keep (ext1 (.cells #[.int .i64 3, .slice none 0 0, .slice none 0 0] 39))); have Y7 := hid (((f2.bo (R1.out.al _) X7.out (by omega)).keep (ext1 (.cells #[.int .i64 3] 3))).keep (ext1 (.cells #[.int .i64 3, .slice none 0 0, .slice none 0 0] 39))); have Y9a := hid (Bo.new w2 #[.int .i64 3] 3); have c9a := Y9a.out.cell 0 (.int .i64 3) rfl; have Y9 := hid (Y9a.out.keep (ext1 (.cells #[.int .i64 3, .slice none 0 0, .slice none 0 0] 39))); have YS := hid (show Bo ((w2.alloc (.cells #[.int .i64 3] 3)).alloc (.cells #[.int .i64 3, .slice none 0 0, .slice none 0 0] 39)) (w2.heap.size + 1) #[.int .i64 3, .slice none 0 0, .slice none 0 0] 39 by have := Bo.new (w2.alloc (.cells #[.int .i64 3] 3)) #[.int .i64 3, .slice none 0 0, .slice none 0 0] 39; rwa [World.size_alloc] at this); have c3 := Y3.out.cell 0 (.pointer (some ⟨rb, 0, none⟩)) rfl; have c4 := Y4.out.cell 0 (.int .i64 (d : Int)) rfl; have c7 := Y7.out.cell 0 (.bool l) rfl; have c9 := Y9.out.cell 0 (.int .i64 3) rfl; clear f2 r2)
    | (go_at_call 110; refine (BC.out _ _ _ R2.out Y3.out Y7.out hN (by omega)).mono ?_; rintro x w4 ⟨⟨o, n, c, cs, rfl, hct, p4⟩, f4, r4⟩; have F4 := hid f4; have z4 := f4.size; simp only [World.size_alloc] at z4; have ZS := hid (f4.bo R2.out YS.out (by omega)); have s0 := ZS.out.cell 0 (.int .i64 3) rfl; have s1' := ZS.out.cell 1 (.slice none 0 0) rfl; have s2 := ZS.out.cell 2 (.slice none 0 0) rfl; have g1 := ZS.out.fz 1; have g2 := ZS.out.fz 2; have R4 := hid r4; have P4 := hid p4; have HCT := hid hct; clear f4 r4 p4 hct)
    | (go_at_call 115; refine (OO.out o n c cs _).mono ?_; rintro x w5 ⟨rfl, b5⟩; have H5 := hid b5; clear b5))
  go_ret
  obtain ⟨q1, q2, q3, q4, q5, q6⟩ := P4.out
  refine ⟨⟨.mk 3 none 0 0 [] o n c cs, rfl, by rw [Sh.t, tL_map, HCT.out], (((partsAt_sh q1 q2 q3 q4 q5 q6 3 (by omega)).st (by simp)).keep H5.out).up (by simp; omega)⟩, (((((((F0.out.trans F1.out).al _).trans F2.out).al _).al _).trans F4.out).st (by omega)).low (H5.out.mono (by simp; omega)), (R4.out.st (by omega)).keep H5.out⟩

set_option maxRecDepth 100000 in
set_option maxHeartbeats 8000000 in
theorem shape_okn {N rb pb qb : Nat} {W : World} {s : St} (h : RdAt N rb pb qb W s) (hT : Tab W) (hz : rb ≠ 0 ∧ pb ≠ 0 ∧ qb ≠ 0) (d : Nat) (hd : 1 ≤ d ∧ d ≤ 17) (want : Int) (l : Bool) (s1 s2 s3 : St) (k : Int) (hkk : k ≠ 1 ∧ k ≠ 2 ∧ k ≠ 3 ∧ 0 ≤ k ∧ k ≤ 7) (ho : orderD (decide (16 < d)) s = .ok l s1) (hk : kindD want l s1 = .ok k s2) (next : Int → St → Re T) (hn : Deeper N rb pb qb d next) (ts : List T) (hb : listD 9 l (next (partK k)) s2 = .ok ts s3) :
    Calls Tryz.prog 89 #[.pointer (some ⟨rb, 0, none⟩), .int .i64 (d : Int), .int .i64 want] W (ShOk N rb pb qb W (.mk k [] ts) s3) := by
  have hN := h.sz
  have A1 := hid ((h.al (.cells #[.pointer (some ⟨rb, 0, none⟩)] 131)).al (.cells #[.int .i64 (d : Int)] 3))
  have G3 := hid ((Bo.new W #[.pointer (some ⟨rb, 0, none⟩)] 131).keep (ext1 (.cells #[.int .i64 (d : Int)] 3)))
  have G4 := hid (show Bo ((W.alloc (.cells #[.pointer (some ⟨rb, 0, none⟩)] 131)).alloc (.cells #[.int .i64 (d : Int)] 3)) (W.heap.size + 1) #[.int .i64 (d : Int)] 3 by have := Bo.new (W.alloc (.cells #[.pointer (some ⟨rb, 0, none⟩)] 131)) #[.int .i64 (d : Int)] 3; rwa [World.size_alloc] at this)
  have F0 := hid (show Fr (Cg rb pb qb) W ((W.alloc (.cells #[.pointer (some ⟨rb, 0, none⟩)] 131)).alloc (.cells #[.int .i64 (d : Int)] 3)) from (Fr.alloc _ _ _).al _)
  have c3 := G3.out.cell 0 (.pointer (some ⟨rb, 0, none⟩)) rfl
  have c4 := G4.out.cell 0 (.int .i64 (d : Int)) rfl
  have HT := hid hT
  have _ := hz
  have OC := hid (order_ok A1.out d (by omega) l s1 ho)
  have KC := hid (fun w1 (r : RdAt N rb pb qb w1 s1) => kind_ok r want l _ s2 hk)
  have BC := hid (fun w1 b3 b4 b9 (r : RdAt N rb pb qb w1 s2) (ht : Tab w1) (h3 : Bo w1 b3 #[.pointer (some ⟨rb, 0, none⟩)] 131) (h4 : Bo w1 b4 #[.int .i64 (d : Int)] 3) (h9 : Bo w1 b9 #[.int .i64 k] 3) n3 n4 n9 => Prt.list_ok b3 b4 b9 r 9 (by omega) l (next (partK k)) (prt_next r ht hz (by omega) k next hn h3 h4 h9 n3 n4 n9) ts s3 hb)
  have OO := hid (fun o n c cs w => outcome_ok (.mk k none 0 0 [] o n c cs) w)
  have n1 : (k == 1) = false := by simp [hkk.1]
  have n2 : (k == 2) = false := by simp [hkk.2.1]
  have n3 : (k == 3) = false := by simp [hkk.2.2.1]
  clear h hT ho hk hb hn
  go_enter Tryz.func89, Tryz.ntmps89
  go_wp2_with (first
    | (go_at_call 106; refine OC.out.mono ?_; rintro x w1 ⟨rfl, f1, r1⟩; have F1 := hid f1; have R1 := hid r1; have X3 := hid ((f1.bo A1.out G3.out hN).keep (ext1 (.cells #[.bool l] 4))); have X4 := hid ((f1.bo A1.out G4.out (by omega)).keep (ext1 (.cells #[.bool l] 4))); have X7 := hid (Bo.new w1 #[.bool l] 4); have c3 := X3.out.cell 0 (.pointer (some ⟨rb, 0, none⟩)) rfl; have c4 := X4.out.cell 0 (.int .i64 (d : Int)) rfl; have c7 := X7.out.cell 0 (.bool l) rfl; have z1 := f1.size; simp only [World.size_alloc] at z1; clear f1 r1)
    | (go_at_call 107; refine (KC.out _ (R1.out.al _)).mono ?_; rintro x w2 ⟨rfl, f2, r2⟩; have F2 := hid f2; have z2 := f2.size; simp only [World.size_alloc] at z2; have R2 := hid ((r2.al (.cells #[.int .i64 k] 3)).al (.cells #[.int .i64 k, .slice none 0 0, .slice none 0 0] 39)); have Y3 := hid (((f2.bo (R1.out.al _) X3.out hN).keep (ext1 (.cells #[.int .i64 k] 3))).keep (ext1 (.cells #[.int .i64 k, .slice none 0 0, .slice none 0 0] 39))); have Y4 := hid (((f2.bo (R1.out.al _) X4.out (by omega)).keep (ext1 (.cells #[.int .i64 k] 3))).keep (ext1 (.cells #[.int .i64 k, .slice none 0 0, .slice none 0 0] 39))); have Y7 := hid (((f2.bo (R1.out.al _) X7.out (by omega)).keep (ext1 (.cells #[.int .i64 k] 3))).keep (ext1 (.cells #[.int .i64 k, .slice none 0 0, .slice none 0 0] 39))); have Y9a := hid (Bo.new w2 #[.int .i64 k] 3); have c9a := Y9a.out.cell 0 (.int .i64 k) rfl; have Y9 := hid (Y9a.out.keep (ext1 (.cells #[.int .i64 k, .slice none 0 0, .slice none 0 0] 39))); have YS := hid (show Bo ((w2.alloc (.cells #[.int .i64 k] 3)).alloc (.cells #[.int .i64 k, .slice none 0 0, .slice none 0 0] 39)) (w2.heap.size + 1) #[.int .i64 k, .slice none 0 0, .slice none 0 0] 39 by have := Bo.new (w2.alloc (.cells #[.int .i64 k] 3)) #[.int .i64 k, .slice none 0 0, .slice none 0 0] 39; rwa [World.size_alloc] at this); have c3 := Y3.out.cell 0 (.pointer (some ⟨rb, 0, none⟩)) rfl; have c4 := Y4.out.cell 0 (.int .i64 (d : Int)) rfl; have c7 := Y7.out.cell 0 (.bool l) rfl; have c9 := Y9.out.cell 0 (.int .i64 k) rfl; clear f2 r2)
    | (go_at_call 110; refine (BC.out _ _ _ _ R2.out (HT.out.fr ((((((F0.out.trans F1.out).al _).trans F2.out).al _).al _)) hz) Y3.out Y4.out Y9.out hN (by omega) (by omega)).mono ?_; rintro x w4 ⟨⟨o, n, c, cs, rfl, hct, p4⟩, f4, r4⟩; have F4 := hid f4; have z4 := f4.size; simp only [World.size_alloc] at z4; have ZS := hid (f4.bo R2.out YS.out (by omega)); have s0 := ZS.out.cell 0 (.int .i64 k) rfl; have s1' := ZS.out.cell 1 (.slice none 0 0) rfl; have s2 := ZS.out.cell 2 (.slice none 0 0) rfl; have g1 := ZS.out.fz 1; have g2 := ZS.out.fz 2; have R4 := hid r4; have P4 := hid p4; have HCT := hid hct; clear f4 r4 p4 hct)
    | (go_at_call 115; refine (OO.out o n c cs _).mono ?_; rintro x w5 ⟨rfl, b5⟩; have H5 := hid b5; clear b5))
  go_ret
  obtain ⟨q1, q2, q3, q4, q5, q6⟩ := P4.out
  refine ⟨⟨.mk k none 0 0 [] o n c cs, rfl, by rw [Sh.t, tL_map, HCT.out], (((partsAt_sh q1 q2 q3 q4 q5 q6 k (by omega)).st (by simp)).keep H5.out).up (by simp; omega)⟩, (((((((F0.out.trans F1.out).al _).trans F2.out).al _).al _).trans F4.out).st (by omega)).low (H5.out.mono (by simp; omega)), (R4.out.st (by omega)).keep H5.out⟩

set_option maxRecDepth 100000 in
set_option maxHeartbeats 8000000 in
theorem shape_bad1 {N rb pb qb : Nat} {W : World} {s : St} (h : RdAt N rb pb qb W s) (hT : Tab W) (hz : rb ≠ 0 ∧ pb ≠ 0 ∧ qb ≠ 0) (d : Nat) (hd : 1 ≤ d ∧ d ≤ 17) (want : Int) (l : Bool) (s1 s2 : St) (e : Nat) (ho : orderD (decide (16 < d)) s = .ok l s1) (hk : kindD want l s1 = .ok 1 s2) (hb : spotD l s2 = .bad e) :
    Calls Tryz.prog 89 #[.pointer (some ⟨rb, 0, none⟩), .int .i64 (d : Int), .int .i64 want] W (ShBad rb pb qb W e) := by
  have hN := h.sz
  have A1 := hid ((h.al (.cells #[.pointer (some ⟨rb, 0, none⟩)] 131)).al (.cells #[.int .i64 (d : Int)] 3))
  have G3 := hid ((Bo.new W #[.pointer (some ⟨rb, 0, none⟩)] 131).keep (ext1 (.cells #[.int .i64 (d : Int)] 3)))
  have G4 := hid (show Bo ((W.alloc (.cells #[.pointer (some ⟨rb, 0, none⟩)] 131)).alloc (.cells #[.int .i64 (d : Int)] 3)) (W.heap.size + 1) #[.int .i64 (d : Int)] 3 by have := Bo.new (W.alloc (.cells #[.pointer (some ⟨rb, 0, none⟩)] 131)) #[.int .i64 (d : Int)] 3; rwa [World.size_alloc] at this)
  have F0 := hid (show Fr (Cg rb pb qb) W ((W.alloc (.cells #[.pointer (some ⟨rb, 0, none⟩)] 131)).alloc (.cells #[.int .i64 (d : Int)] 3)) from (Fr.alloc _ _ _).al _)
  have c3 := G3.out.cell 0 (.pointer (some ⟨rb, 0, none⟩)) rfl
  have c4 := G4.out.cell 0 (.int .i64 (d : Int)) rfl
  have HT := hid hT
  have _ := hz
  have OC := hid (order_ok A1.out d (by omega) l s1 ho)
  have KC := hid (fun w1 (r : RdAt N rb pb qb w1 s1) => kind_ok r want l _ s2 hk)
  have BC := hid (fun w1 (r : RdAt N rb pb qb w1 s2) => spot_bad r l e hb)
  by_cases he : 1 ≤ e
  · have OO := hid (fun w => outcome_bad (.mk 1 none 0 0 [] none 0 0 []) e he w)
    clear h hT ho hk hb
    go_enter Tryz.func89, Tryz.ntmps89
    go_wp2_with (first
      | (go_at_call 106; refine OC.out.mono ?_; rintro x w1 ⟨rfl, f1, r1⟩; have F1 := hid f1; have R1 := hid r1; have X3 := hid ((f1.bo A1.out G3.out hN).keep (ext1 (.cells #[.bool l] 4))); have X4 := hid ((f1.bo A1.out G4.out (by omega)).keep (ext1 (.cells #[.bool l] 4))); have X7 := hid (Bo.new w1 #[.bool l] 4); have c3 := X3.out.cell 0 (.pointer (some ⟨rb, 0, none⟩)) rfl; have c4 := X4.out.cell 0 (.int .i64 (d : Int)) rfl; have c7 := X7.out.cell 0 (.bool l) rfl; have z1 := f1.size; simp only [World.size_alloc] at z1; clear f1 r1)
      | (go_at_call 107; refine (KC.out _ (R1.out.al _)).mono ?_; rintro x w2 ⟨rfl, f2, r2⟩; have F2 := hid f2; have z2 := f2.size; simp only [World.size_alloc] at z2; have R2 := hid ((r2.al (.cells #[.int .i64 1] 3)).al (.cells #[.int .i64 1, .slice none 0 0, .slice none 0 0] 39)); have Y3 := hid (((f2.bo (R1.out.al _) X3.out hN).keep (ext1 (.cells #[.int .i64 1] 3))).keep (ext1 (.cells #[.int .i64 1, .slice none 0 0, .slice none 0 0] 39))); have Y4 := hid (((f2.bo (R1.out.al _) X4.out (by omega)).keep (ext1 (.cells #[.int .i64 1] 3))).keep (ext1 (.cells #[.int .i64 1, .slice none 0 0, .slice none 0 0] 39))); have Y7 := hid (((f2.bo (R1.out.al _) X7.out (by omega)).keep (ext1 (.cells #[.int .i64 1] 3))).keep (ext1 (.cells #[.int .i64 1, .slice none 0 0, .slice none 0 0] 39))); have Y9a := hid (Bo.new w2 #[.int .i64 1] 3); have c9a := Y9a.out.cell 0 (.int .i64 1) rfl; have Y9 := hid (Y9a.out.keep (ext1 (.cells #[.int .i64 1, .slice none 0 0, .slice none 0 0] 39))); have YS := hid (show Bo ((w2.alloc (.cells #[.int .i64 1] 3)).alloc (.cells #[.int .i64 1, .slice none 0 0, .slice none 0 0] 39)) (w2.heap.size + 1) #[.int .i64 1, .slice none 0 0, .slice none 0 0] 39 by have := Bo.new (w2.alloc (.cells #[.int .i64 1] 3)) #[.int .i64 1, .slice none 0 0, .slice none 0 0] 39; rwa [World.size_alloc] at this); have c3 := Y3.out.cell 0 (.pointer (some ⟨rb, 0, none⟩)) rfl; have c4 := Y4.out.cell 0 (.int .i64 (d : Int)) rfl; have c7 := Y7.out.cell 0 (.bool l) rfl; have c9 := Y9.out.cell 0 (.int .i64 1) rfl; clear f2 r2)
      | (go_at_call 108; refine (BC.out _ R2.out).mono ?_; rintro x w4 ⟨rfl, he2, f4⟩; have F4 := hid f4; have z4 := f4.size; simp only [World.size_alloc] at z4; have ZS := hid (f4.bo R2.out YS.out (by omega)); have s0 := ZS.out.cell 0 (.int .i64 1) rfl; have s1' := ZS.out.cell 1 (.slice none 0 0) rfl; have s2 := ZS.out.cell 2 (.slice none 0 0) rfl; have g1 := ZS.out.fz 1; have g2 := ZS.out.fz 2; have E2 := hid he2; clear f4 he2)
      | (go_at_call 115; refine (OO.out _).mono ?_; rintro x w5 ⟨rfl, b5⟩; have H5 := hid b5; clear b5))
    go_ret
    exact ⟨rfl, E2.out, (((((((F0.out.trans F1.out).al _).trans F2.out).al _).al _).trans F4.out).st (by omega)).low (H5.out.mono (by simp; omega))⟩
  · clear h hT ho hk hb
    go_enter Tryz.func89, Tryz.ntmps89
    go_wp2_with (first
      | (go_at_call 106; refine OC.out.mono ?_; rintro x w1 ⟨rfl, f1, r1⟩; have F1 := hid f1; have R1 := hid r1; have X3 := hid ((f1.bo A1.out G3.out hN).keep (ext1 (.cells #[.bool l] 4))); have X4 := hid ((f1.bo A1.out G4.out (by omega)).keep (ext1 (.cells #[.bool l] 4))); have X7 := hid (Bo.new w1 #[.bool l] 4); have c3 := X3.out.cell 0 (.pointer (some ⟨rb, 0, none⟩)) rfl; have c4 := X4.out.cell 0 (.int .i64 (d : Int)) rfl; have c7 := X7.out.cell 0 (.bool l) rfl; have z1 := f1.size; simp only [World.size_alloc] at z1; clear f1 r1)
      | (go_at_call 107; refine (KC.out _ (R1.out.al _)).mono ?_; rintro x w2 ⟨rfl, f2, r2⟩; have F2 := hid f2; have z2 := f2.size; simp only [World.size_alloc] at z2; have R2 := hid ((r2.al (.cells #[.int .i64 1] 3)).al (.cells #[.int .i64 1, .slice none 0 0, .slice none 0 0] 39)); have Y3 := hid (((f2.bo (R1.out.al _) X3.out hN).keep (ext1 (.cells #[.int .i64 1] 3))).keep (ext1 (.cells #[.int .i64 1, .slice none 0 0, .slice none 0 0] 39))); have Y4 := hid (((f2.bo (R1.out.al _) X4.out (by omega)).keep (ext1 (.cells #[.int .i64 1] 3))).keep (ext1 (.cells #[.int .i64 1, .slice none 0 0, .slice none 0 0] 39))); have Y7 := hid (((f2.bo (R1.out.al _) X7.out (by omega)).keep (ext1 (.cells #[.int .i64 1] 3))).keep (ext1 (.cells #[.int .i64 1, .slice none 0 0, .slice none 0 0] 39))); have Y9a := hid (Bo.new w2 #[.int .i64 1] 3); have c9a := Y9a.out.cell 0 (.int .i64 1) rfl; have Y9 := hid (Y9a.out.keep (ext1 (.cells #[.int .i64 1, .slice none 0 0, .slice none 0 0] 39))); have YS := hid (show Bo ((w2.alloc (.cells #[.int .i64 1] 3)).alloc (.cells #[.int .i64 1, .slice none 0 0, .slice none 0 0] 39)) (w2.heap.size + 1) #[.int .i64 1, .slice none 0 0, .slice none 0 0] 39 by have := Bo.new (w2.alloc (.cells #[.int .i64 1] 3)) #[.int .i64 1, .slice none 0 0, .slice none 0 0] 39; rwa [World.size_alloc] at this); have c3 := Y3.out.cell 0 (.pointer (some ⟨rb, 0, none⟩)) rfl; have c4 := Y4.out.cell 0 (.int .i64 (d : Int)) rfl; have c7 := Y7.out.cell 0 (.bool l) rfl; have c9 := Y9.out.cell 0 (.int .i64 1) rfl; clear f2 r2)
      | (go_at_call 108; refine (BC.out _ R2.out).mono ?_; rintro x w4 ⟨rfl, he2, f4⟩; exact absurd he2.1 he))

set_option maxRecDepth 100000 in
set_option maxHeartbeats 8000000 in
theorem shape_bad2 {N rb pb qb : Nat} {W : World} {s : St} (h : RdAt N rb pb qb W s) (hT : Tab W) (hz : rb ≠ 0 ∧ pb ≠ 0 ∧ qb ≠ 0) (d : Nat) (hd : 1 ≤ d ∧ d ≤ 17) (want : Int) (l : Bool) (s1 s2 : St) (e : Nat) (ho : orderD (decide (16 < d)) s = .ok l s1) (hk : kindD want l s1 = .ok 2 s2) (hb : rowD l s2 = .bad e) :
    Calls Tryz.prog 89 #[.pointer (some ⟨rb, 0, none⟩), .int .i64 (d : Int), .int .i64 want] W (ShBad rb pb qb W e) := by
  have hN := h.sz
  have A1 := hid ((h.al (.cells #[.pointer (some ⟨rb, 0, none⟩)] 131)).al (.cells #[.int .i64 (d : Int)] 3))
  have G3 := hid ((Bo.new W #[.pointer (some ⟨rb, 0, none⟩)] 131).keep (ext1 (.cells #[.int .i64 (d : Int)] 3)))
  have G4 := hid (show Bo ((W.alloc (.cells #[.pointer (some ⟨rb, 0, none⟩)] 131)).alloc (.cells #[.int .i64 (d : Int)] 3)) (W.heap.size + 1) #[.int .i64 (d : Int)] 3 by have := Bo.new (W.alloc (.cells #[.pointer (some ⟨rb, 0, none⟩)] 131)) #[.int .i64 (d : Int)] 3; rwa [World.size_alloc] at this)
  have F0 := hid (show Fr (Cg rb pb qb) W ((W.alloc (.cells #[.pointer (some ⟨rb, 0, none⟩)] 131)).alloc (.cells #[.int .i64 (d : Int)] 3)) from (Fr.alloc _ _ _).al _)
  have c3 := G3.out.cell 0 (.pointer (some ⟨rb, 0, none⟩)) rfl
  have c4 := G4.out.cell 0 (.int .i64 (d : Int)) rfl
  have HT := hid hT
  have _ := hz
  have OC := hid (order_ok A1.out d (by omega) l s1 ho)
  have KC := hid (fun w1 (r : RdAt N rb pb qb w1 s1) => kind_ok r want l _ s2 hk)
  have BC := hid (fun w1 (r : RdAt N rb pb qb w1 s2) => row_bad r l e hb)
  by_cases he : 1 ≤ e
  · have OO := hid (fun w => outcome_bad (.mk 2 none 0 0 [] none 0 0 []) e he w)
    clear h hT ho hk hb
    go_enter Tryz.func89, Tryz.ntmps89
    go_wp2_with (first
      | (go_at_call 106; refine OC.out.mono ?_; rintro x w1 ⟨rfl, f1, r1⟩; have F1 := hid f1; have R1 := hid r1; have X3 := hid ((f1.bo A1.out G3.out hN).keep (ext1 (.cells #[.bool l] 4))); have X4 := hid ((f1.bo A1.out G4.out (by omega)).keep (ext1 (.cells #[.bool l] 4))); have X7 := hid (Bo.new w1 #[.bool l] 4); have c3 := X3.out.cell 0 (.pointer (some ⟨rb, 0, none⟩)) rfl; have c4 := X4.out.cell 0 (.int .i64 (d : Int)) rfl; have c7 := X7.out.cell 0 (.bool l) rfl; have z1 := f1.size; simp only [World.size_alloc] at z1; clear f1 r1)
      | (go_at_call 107; refine (KC.out _ (R1.out.al _)).mono ?_; rintro x w2 ⟨rfl, f2, r2⟩; have F2 := hid f2; have z2 := f2.size; simp only [World.size_alloc] at z2; have R2 := hid ((r2.al (.cells #[.int .i64 2] 3)).al (.cells #[.int .i64 2, .slice none 0 0, .slice none 0 0] 39)); have Y3 := hid (((f2.bo (R1.out.al _) X3.out hN).keep (ext1 (.cells #[.int .i64 2] 3))).keep (ext1 (.cells #[.int .i64 2, .slice none 0 0, .slice none 0 0] 39))); have Y4 := hid (((f2.bo (R1.out.al _) X4.out (by omega)).keep (ext1 (.cells #[.int .i64 2] 3))).keep (ext1 (.cells #[.int .i64 2, .slice none 0 0, .slice none 0 0] 39))); have Y7 := hid (((f2.bo (R1.out.al _) X7.out (by omega)).keep (ext1 (.cells #[.int .i64 2] 3))).keep (ext1 (.cells #[.int .i64 2, .slice none 0 0, .slice none 0 0] 39))); have Y9a := hid (Bo.new w2 #[.int .i64 2] 3); have c9a := Y9a.out.cell 0 (.int .i64 2) rfl; have Y9 := hid (Y9a.out.keep (ext1 (.cells #[.int .i64 2, .slice none 0 0, .slice none 0 0] 39))); have YS := hid (show Bo ((w2.alloc (.cells #[.int .i64 2] 3)).alloc (.cells #[.int .i64 2, .slice none 0 0, .slice none 0 0] 39)) (w2.heap.size + 1) #[.int .i64 2, .slice none 0 0, .slice none 0 0] 39 by have := Bo.new (w2.alloc (.cells #[.int .i64 2] 3)) #[.int .i64 2, .slice none 0 0, .slice none 0 0] 39; rwa [World.size_alloc] at this); have c3 := Y3.out.cell 0 (.pointer (some ⟨rb, 0, none⟩)) rfl; have c4 := Y4.out.cell 0 (.int .i64 (d : Int)) rfl; have c7 := Y7.out.cell 0 (.bool l) rfl; have c9 := Y9.out.cell 0 (.int .i64 2) rfl; clear f2 r2)
      | (go_at_call 109; refine (BC.out _ R2.out).mono ?_; rintro x w4 ⟨rfl, he2, f4⟩; have F4 := hid f4; have z4 := f4.size; simp only [World.size_alloc] at z4; have ZS := hid (f4.bo R2.out YS.out (by omega)); have s0 := ZS.out.cell 0 (.int .i64 2) rfl; have s1' := ZS.out.cell 1 (.slice none 0 0) rfl; have s2 := ZS.out.cell 2 (.slice none 0 0) rfl; have g1 := ZS.out.fz 1; have g2 := ZS.out.fz 2; have E2 := hid he2; clear f4 he2)
      | (go_at_call 115; refine (OO.out _).mono ?_; rintro x w5 ⟨rfl, b5⟩; have H5 := hid b5; clear b5))
    go_ret
    exact ⟨rfl, E2.out, (((((((F0.out.trans F1.out).al _).trans F2.out).al _).al _).trans F4.out).st (by omega)).low (H5.out.mono (by simp; omega))⟩
  · clear h hT ho hk hb
    go_enter Tryz.func89, Tryz.ntmps89
    go_wp2_with (first
      | (go_at_call 106; refine OC.out.mono ?_; rintro x w1 ⟨rfl, f1, r1⟩; have F1 := hid f1; have R1 := hid r1; have X3 := hid ((f1.bo A1.out G3.out hN).keep (ext1 (.cells #[.bool l] 4))); have X4 := hid ((f1.bo A1.out G4.out (by omega)).keep (ext1 (.cells #[.bool l] 4))); have X7 := hid (Bo.new w1 #[.bool l] 4); have c3 := X3.out.cell 0 (.pointer (some ⟨rb, 0, none⟩)) rfl; have c4 := X4.out.cell 0 (.int .i64 (d : Int)) rfl; have c7 := X7.out.cell 0 (.bool l) rfl; have z1 := f1.size; simp only [World.size_alloc] at z1; clear f1 r1)
      | (go_at_call 107; refine (KC.out _ (R1.out.al _)).mono ?_; rintro x w2 ⟨rfl, f2, r2⟩; have F2 := hid f2; have z2 := f2.size; simp only [World.size_alloc] at z2; have R2 := hid ((r2.al (.cells #[.int .i64 2] 3)).al (.cells #[.int .i64 2, .slice none 0 0, .slice none 0 0] 39)); have Y3 := hid (((f2.bo (R1.out.al _) X3.out hN).keep (ext1 (.cells #[.int .i64 2] 3))).keep (ext1 (.cells #[.int .i64 2, .slice none 0 0, .slice none 0 0] 39))); have Y4 := hid (((f2.bo (R1.out.al _) X4.out (by omega)).keep (ext1 (.cells #[.int .i64 2] 3))).keep (ext1 (.cells #[.int .i64 2, .slice none 0 0, .slice none 0 0] 39))); have Y7 := hid (((f2.bo (R1.out.al _) X7.out (by omega)).keep (ext1 (.cells #[.int .i64 2] 3))).keep (ext1 (.cells #[.int .i64 2, .slice none 0 0, .slice none 0 0] 39))); have Y9a := hid (Bo.new w2 #[.int .i64 2] 3); have c9a := Y9a.out.cell 0 (.int .i64 2) rfl; have Y9 := hid (Y9a.out.keep (ext1 (.cells #[.int .i64 2, .slice none 0 0, .slice none 0 0] 39))); have YS := hid (show Bo ((w2.alloc (.cells #[.int .i64 2] 3)).alloc (.cells #[.int .i64 2, .slice none 0 0, .slice none 0 0] 39)) (w2.heap.size + 1) #[.int .i64 2, .slice none 0 0, .slice none 0 0] 39 by have := Bo.new (w2.alloc (.cells #[.int .i64 2] 3)) #[.int .i64 2, .slice none 0 0, .slice none 0 0] 39; rwa [World.size_alloc] at this); have c3 := Y3.out.cell 0 (.pointer (some ⟨rb, 0, none⟩)) rfl; have c4 := Y4.out.cell 0 (.int .i64 (d : Int)) rfl; have c7 := Y7.out.cell 0 (.bool l) rfl; have c9 := Y9.out.cell 0 (.int .i64 2) rfl; clear f2 r2)
      | (go_at_call 109; refine (BC.out _ R2.out).mono ?_; rintro x w4 ⟨rfl, he2, f4⟩; exact absurd he2.1 he))

set_option maxRecDepth 100000 in
set_option maxHeartbeats 8000000 in
theorem shape_bad3 {N rb pb qb : Nat} {W : World} {s : St} (h : RdAt N rb pb qb W s) (hT : Tab W) (hz : rb ≠ 0 ∧ pb ≠ 0 ∧ qb ≠ 0) (d : Nat) (hd : 1 ≤ d ∧ d ≤ 17) (want : Int) (l : Bool) (s1 s2 : St) (e : Nat) (ho : orderD (decide (16 < d)) s = .ok l s1) (hk : kindD want l s1 = .ok 3 s2) (hb : listD 4 l (ringD l) s2 = .bad e) :
    Calls Tryz.prog 89 #[.pointer (some ⟨rb, 0, none⟩), .int .i64 (d : Int), .int .i64 want] W (ShBad rb pb qb W e) := by
  have hN := h.sz
  have A1 := hid ((h.al (.cells #[.pointer (some ⟨rb, 0, none⟩)] 131)).al (.cells #[.int .i64 (d : Int)] 3))
  have G3 := hid ((Bo.new W #[.pointer (some ⟨rb, 0, none⟩)] 131).keep (ext1 (.cells #[.int .i64 (d : Int)] 3)))
  have G4 := hid (show Bo ((W.alloc (.cells #[.pointer (some ⟨rb, 0, none⟩)] 131)).alloc (.cells #[.int .i64 (d : Int)] 3)) (W.heap.size + 1) #[.int .i64 (d : Int)] 3 by have := Bo.new (W.alloc (.cells #[.pointer (some ⟨rb, 0, none⟩)] 131)) #[.int .i64 (d : Int)] 3; rwa [World.size_alloc] at this)
  have F0 := hid (show Fr (Cg rb pb qb) W ((W.alloc (.cells #[.pointer (some ⟨rb, 0, none⟩)] 131)).alloc (.cells #[.int .i64 (d : Int)] 3)) from (Fr.alloc _ _ _).al _)
  have c3 := G3.out.cell 0 (.pointer (some ⟨rb, 0, none⟩)) rfl
  have c4 := G4.out.cell 0 (.int .i64 (d : Int)) rfl
  have HT := hid hT
  have _ := hz
  have OC := hid (order_ok A1.out d (by omega) l s1 ho)
  have KC := hid (fun w1 (r : RdAt N rb pb qb w1 s1) => kind_ok r want l _ s2 hk)
  have BC := hid (fun w1 b3 b7 (r : RdAt N rb pb qb w1 s2) (h3 : Bo w1 b3 #[.pointer (some ⟨rb, 0, none⟩)] 131) (h7 : Bo w1 b7 #[.bool l] 4) n3 n7 => Rin.list_bad b3 b7 r 4 (by omega) l (ringD l) (rin_next r l h3 h7 n3 n7) e hb)
  by_cases he : 1 ≤ e
  · have OO := hid (fun w => outcome_bad (.mk 3 none 0 0 [] none 0 0 []) e he w)
    clear h hT ho hk hb
    go_enter Tryz.func89, Tryz.ntmps89
    go_wp2_with (first
      | (go_at_call 106; refine OC.out.mono ?_; rintro x w1 ⟨rfl, f1, r1⟩; have F1 := hid f1; have R1 := hid r1; have X3 := hid ((f1.bo A1.out G3.out hN).keep (ext1 (.cells #[.bool l] 4))); have X4 := hid ((f1.bo A1.out G4.out (by omega)).keep (ext1 (.cells #[.bool l] 4))); have X7 := hid (Bo.new w1 #[.bool l] 4); have c3 := X3.out.cell 0 (.pointer (some ⟨rb, 0, none⟩)) rfl; have c4 := X4.out.cell 0 (.int .i64 (d : Int)) rfl; have c7 := X7.out.cell 0 (.bool l) rfl; have z1 := f1.size; simp only [World.size_alloc] at z1; clear f1 r1)
      | (go_at_call 107; refine (KC.out _ (R1.out.al _)).mono ?_; rintro x w2 ⟨rfl, f2, r2⟩; have F2 := hid f2; have z2 := f2.size; simp only [World.size_alloc] at z2; have R2 := hid ((r2.al (.cells #[.int .i64 3] 3)).al (.cells #[.int .i64 3, .slice none 0 0, .slice none 0 0] 39)); have Y3 := hid (((f2.bo (R1.out.al _) X3.out hN).keep (ext1 (.cells #[.int .i64 3] 3))).keep (ext1 (.cells #[.int .i64 3, .slice none 0 0, .slice none 0 0] 39))); have Y4 := hid (((f2.bo (R1.out.al _) X4.out (by omega)).keep (ext1 (.cells #[.int .i64 3] 3))).keep (ext1 (.cells #[.int .i64 3, .slice none 0 0, .slice none 0 0] 39))); have Y7 := hid (((f2.bo (R1.out.al _) X7.out (by omega)).keep (ext1 (.cells #[.int .i64 3] 3))).keep (ext1 (.cells #[.int .i64 3, .slice none 0 0, .slice none 0 0] 39))); have Y9a := hid (Bo.new w2 #[.int .i64 3] 3); have c9a := Y9a.out.cell 0 (.int .i64 3) rfl; have Y9 := hid (Y9a.out.keep (ext1 (.cells #[.int .i64 3, .slice none 0 0, .slice none 0 0] 39))); have YS := hid (show Bo ((w2.alloc (.cells #[.int .i64 3] 3)).alloc (.cells #[.int .i64 3, .slice none 0 0, .slice none 0 0] 39)) (w2.heap.size + 1) #[.int .i64 3, .slice none 0 0, .slice none 0 0] 39 by have := Bo.new (w2.alloc (.cells #[.int .i64 3] 3)) #[.int .i64 3, .slice none 0 0, .slice none 0 0] 39; rwa [World.size_alloc] at this); have c3 := Y3.out.cell 0 (.pointer (some ⟨rb, 0, none⟩)) rfl; have c4 := Y4.out.cell 0 (.int .i64 (d : Int)) rfl; have c7 := Y7.out.cell 0 (.bool l) rfl; have c9 := Y9.out.cell 0 (.int .i64 3) rfl; clear f2 r2)
      | (go_at_call 110; refine (BC.out _ _ _ R2.out Y3.out Y7.out hN (by omega)).mono ?_; rintro x w4 ⟨rfl, he2, f4⟩; have F4 := hid f4; have z4 := f4.size; simp only [World.size_alloc] at z4; have ZS := hid (f4.bo R2.out YS.out (by omega)); have s0 := ZS.out.cell 0 (.int .i64 3) rfl; have s1' := ZS.out.cell 1 (.slice none 0 0) rfl; have s2 := ZS.out.cell 2 (.slice none 0 0) rfl; have g1 := ZS.out.fz 1; have g2 := ZS.out.fz 2; have E2 := hid he2; clear f4 he2)
      | (go_at_call 115; refine (OO.out _).mono ?_; rintro x w5 ⟨rfl, b5⟩; have H5 := hid b5; clear b5))
    go_ret
    exact ⟨rfl, E2.out, (((((((F0.out.trans F1.out).al _).trans F2.out).al _).al _).trans F4.out).st (by omega)).low (H5.out.mono (by simp; omega))⟩
  · clear h hT ho hk hb
    go_enter Tryz.func89, Tryz.ntmps89
    go_wp2_with (first
      | (go_at_call 106; refine OC.out.mono ?_; rintro x w1 ⟨rfl, f1, r1⟩; have F1 := hid f1; have R1 := hid r1; have X3 := hid ((f1.bo A1.out G3.out hN).keep (ext1 (.cells #[.bool l] 4))); have X4 := hid ((f1.bo A1.out G4.out (by omega)).keep (ext1 (.cells #[.bool l] 4))); have X7 := hid (Bo.new w1 #[.bool l] 4); have c3 := X3.out.cell 0 (.pointer (some ⟨rb, 0, none⟩)) rfl; have c4 := X4.out.cell 0 (.int .i64 (d : Int)) rfl; have c7 := X7.out.cell 0 (.bool l) rfl; have z1 := f1.size; simp only [World.size_alloc] at z1; clear f1 r1)
      | (go_at_call 107; refine (KC.out _ (R1.out.al _)).mono ?_; rintro x w2 ⟨rfl, f2, r2⟩; have F2 := hid f2; have z2 := f2.size; simp only [World.size_alloc] at z2; have R2 := hid ((r2.al (.cells #[.int .i64 3] 3)).al (.cells #[.int .i64 3, .slice none 0 0, .slice none 0 0] 39)); have Y3 := hid (((f2.bo (R1.out.al _) X3.out hN).keep (ext1 (.cells #[.int .i64 3] 3))).keep (ext1 (.cells #[.int .i64 3, .slice none 0 0, .slice none 0 0] 39))); have Y4 := hid (((f2.bo (R1.out.al _) X4.out (by omega)).keep (ext1 (.cells #[.int .i64 3] 3))).keep (ext1 (.cells #[.int .i64 3, .slice none 0 0, .slice none 0 0] 39))); have Y7 := hid (((f2.bo (R1.out.al _) X7.out (by omega)).keep (ext1 (.cells #[.int .i64 3] 3))).keep (ext1 (.cells #[.int .i64 3, .slice none 0 0, .slice none 0 0] 39))); have Y9a := hid (Bo.new w2 #[.int .i64 3] 3); have c9a := Y9a.out.cell 0 (.int .i64 3) rfl; have Y9 := hid (Y9a.out.keep (ext1 (.cells #[.int .i64 3, .slice none 0 0, .slice none 0 0] 39))); have YS := hid (show Bo ((w2.alloc (.cells #[.int .i64 3] 3)).alloc (.cells #[.int .i64 3, .slice none 0 0, .slice none 0 0] 39)) (w2.heap.size + 1) #[.int .i64 3, .slice none 0 0, .slice none 0 0] 39 by have := Bo.new (w2.alloc (.cells #[.int .i64 3] 3)) #[.int .i64 3, .slice none 0 0, .slice none 0 0] 39; rwa [World.size_alloc] at this); have c3 := Y3.out.cell 0 (.pointer (some ⟨rb, 0, none⟩)) rfl; have c4 := Y4.out.cell 0 (.int .i64 (d : Int)) rfl; have c7 := Y7.out.cell 0 (.bool l) rfl; have c9 := Y9.out.cell 0 (.int .i64 3) rfl; clear f2 r2)
      | (go_at_call 110; refine (BC.out _ _ _ R2.out Y3.out Y7.out hN (by omega)).mono ?_; rintro x w4 ⟨rfl, he2, f4⟩; exact absurd he2.1 he))

set_option maxRecDepth 100000 in
set_option maxHeartbeats 8000000 in
theorem shape_badn {N rb pb qb : Nat} {W : World} {s : St} (h : RdAt N rb pb qb W s) (hT : Tab W) (hz : rb ≠ 0 ∧ pb ≠ 0 ∧ qb ≠ 0) (d : Nat) (hd : 1 ≤ d ∧ d ≤ 17) (want : Int) (l : Bool) (s1 s2 : St) (e : Nat) (k : Int) (hkk : k ≠ 1 ∧ k ≠ 2 ∧ k ≠ 3 ∧ 0 ≤ k ∧ k ≤ 7) (ho : orderD (decide (16 < d)) s = .ok l s1) (hk : kindD want l s1 = .ok k s2) (next : Int → St → Re T) (hn : Deeper N rb pb qb d next) (hb : listD 9 l (next (partK k)) s2 = .bad e) :
    Calls Tryz.prog 89 #[.pointer (some ⟨rb, 0, none⟩), .int .i64 (d : Int), .int .i64 want] W (ShBad rb pb qb W e) := by
  have hN := h.sz
  have A1 := hid ((h.al (.cells #[.pointer (some ⟨rb, 0, none⟩)] 131)).al (.cells #[.int .i64 (d : Int)] 3))
  have G3 := hid ((Bo.new W #[.pointer (some ⟨rb, 0, none⟩)] 131).keep (ext1 (.cells #[.int .i64 (d : Int)] 3)))
  have G4 := hid (show Bo ((W.alloc (.cells #[.pointer (some ⟨rb, 0, none⟩)] 131)).alloc (.cells #[.int .i64 (d : Int)] 3)) (W.heap.size + 1) #[.int .i64 (d : Int)] 3 by have := Bo.new (W.alloc (.cells #[.pointer (some ⟨rb, 0, none⟩)] 131)) #[.int .i64 (d : Int)] 3; rwa [World.size_alloc] at this)
  have F0 := hid (show Fr (Cg rb pb qb) W ((W.alloc (.cells #[.pointer (some ⟨rb, 0, none⟩)] 131)).alloc (.cells #[.int .i64 (d : Int)] 3)) from (Fr.alloc _ _ _).al _)
  have c3 := G3.out.cell 0 (.pointer (some ⟨rb, 0, none⟩)) rfl
  have c4 := G4.out.cell 0 (.int .i64 (d : Int)) rfl
  have HT := hid hT
  have _ := hz
  have OC := hid (order_ok A1.out d (by omega) l s1 ho)
  have KC := hid (fun w1 (r : RdAt N rb pb qb w1 s1) => kind_ok r want l _ s2 hk)
  have BC := hid (fun w1 b3 b4 b9 (r : RdAt N rb pb qb w1 s2) (ht : Tab w1) (h3 : Bo w1 b3 #[.pointer (some ⟨rb, 0, none⟩)] 131) (h4 : Bo w1 b4 #[.int .i64 (d : Int)] 3) (h9 : Bo w1 b9 #[.int .i64 k] 3) n3 n4 n9 => Prt.list_bad b3 b4 b9 r 9 (by omega) l (next (partK k)) (prt_next r ht hz (by omega) k next hn h3 h4 h9 n3 n4 n9) e hb)
  have n1 : (k == 1) = false := by simp [hkk.1]
  have n2 : (k == 2) = false := by simp [hkk.2.1]
  have n3 : (k == 3) = false := by simp [hkk.2.2.1]
  by_cases he : 1 ≤ e
  · have OO := hid (fun w => outcome_bad (.mk k none 0 0 [] none 0 0 []) e he w)
    clear h hT ho hk hb hn
    go_enter Tryz.func89, Tryz.ntmps89
    go_wp2_with (first
      | (go_at_call 106; refine OC.out.mono ?_; rintro x w1 ⟨rfl, f1, r1⟩; have F1 := hid f1; have R1 := hid r1; have X3 := hid ((f1.bo A1.out G3.out hN).keep (ext1 (.cells #[.bool l] 4))); have X4 := hid ((f1.bo A1.out G4.out (by omega)).keep (ext1 (.cells #[.bool l] 4))); have X7 := hid (Bo.new w1 #[.bool l] 4); have c3 := X3.out.cell 0 (.pointer (some ⟨rb, 0, none⟩)) rfl; have c4 := X4.out.cell 0 (.int .i64 (d : Int)) rfl; have c7 := X7.out.cell 0 (.bool l) rfl; have z1 := f1.size; simp only [World.size_alloc] at z1; clear f1 r1)
      | (go_at_call 107; refine (KC.out _ (R1.out.al _)).mono ?_; rintro x w2 ⟨rfl, f2, r2⟩; have F2 := hid f2; have z2 := f2.size; simp only [World.size_alloc] at z2; have R2 := hid ((r2.al (.cells #[.int .i64 k] 3)).al (.cells #[.int .i64 k, .slice none 0 0, .slice none 0 0] 39)); have Y3 := hid (((f2.bo (R1.out.al _) X3.out hN).keep (ext1 (.cells #[.int .i64 k] 3))).keep (ext1 (.cells #[.int .i64 k, .slice none 0 0, .slice none 0 0] 39))); have Y4 := hid (((f2.bo (R1.out.al _) X4.out (by omega)).keep (ext1 (.cells #[.int .i64 k] 3))).keep (ext1 (.cells #[.int .i64 k, .slice none 0 0, .slice none 0 0] 39))); have Y7 := hid (((f2.bo (R1.out.al _) X7.out (by omega)).keep (ext1 (.cells #[.int .i64 k] 3))).keep (ext1 (.cells #[.int .i64 k, .slice none 0 0, .slice none 0 0] 39))); have Y9a := hid (Bo.new w2 #[.int .i64 k] 3); have c9a := Y9a.out.cell 0 (.int .i64 k) rfl; have Y9 := hid (Y9a.out.keep (ext1 (.cells #[.int .i64 k, .slice none 0 0, .slice none 0 0] 39))); have YS := hid (show Bo ((w2.alloc (.cells #[.int .i64 k] 3)).alloc (.cells #[.int .i64 k, .slice none 0 0, .slice none 0 0] 39)) (w2.heap.size + 1) #[.int .i64 k, .slice none 0 0, .slice none 0 0] 39 by have := Bo.new (w2.alloc (.cells #[.int .i64 k] 3)) #[.int .i64 k, .slice none 0 0, .slice none 0 0] 39; rwa [World.size_alloc] at this); have c3 := Y3.out.cell 0 (.pointer (some ⟨rb, 0, none⟩)) rfl; have c4 := Y4.out.cell 0 (.int .i64 (d : Int)) rfl; have c7 := Y7.out.cell 0 (.bool l) rfl; have c9 := Y9.out.cell 0 (.int .i64 k) rfl; clear f2 r2)
      | (go_at_call 110; refine (BC.out _ _ _ _ R2.out (HT.out.fr ((((((F0.out.trans F1.out).al _).trans F2.out).al _).al _)) hz) Y3.out Y4.out Y9.out hN (by omega) (by omega)).mono ?_; rintro x w4 ⟨rfl, he2, f4⟩; have F4 := hid f4; have z4 := f4.size; simp only [World.size_alloc] at z4; have ZS := hid (f4.bo R2.out YS.out (by omega)); have s0 := ZS.out.cell 0 (.int .i64 k) rfl; have s1' := ZS.out.cell 1 (.slice none 0 0) rfl; have s2 := ZS.out.cell 2 (.slice none 0 0) rfl; have g1 := ZS.out.fz 1; have g2 := ZS.out.fz 2; have E2 := hid he2; clear f4 he2)
      | (go_at_call 115; refine (OO.out _).mono ?_; rintro x w5 ⟨rfl, b5⟩; have H5 := hid b5; clear b5))
    go_ret
    exact ⟨rfl, E2.out, (((((((F0.out.trans F1.out).al _).trans F2.out).al _).al _).trans F4.out).st (by omega)).low (H5.out.mono (by simp; omega))⟩
  · clear h hT ho hk hb hn
    go_enter Tryz.func89, Tryz.ntmps89
    go_wp2_with (first
      | (go_at_call 106; refine OC.out.mono ?_; rintro x w1 ⟨rfl, f1, r1⟩; have F1 := hid f1; have R1 := hid r1; have X3 := hid ((f1.bo A1.out G3.out hN).keep (ext1 (.cells #[.bool l] 4))); have X4 := hid ((f1.bo A1.out G4.out (by omega)).keep (ext1 (.cells #[.bool l] 4))); have X7 := hid (Bo.new w1 #[.bool l] 4); have c3 := X3.out.cell 0 (.pointer (some ⟨rb, 0, none⟩)) rfl; have c4 := X4.out.cell 0 (.int .i64 (d : Int)) rfl; have c7 := X7.out.cell 0 (.bool l) rfl; have z1 := f1.size; simp only [World.size_alloc] at z1; clear f1 r1)
      | (go_at_call 107; refine (KC.out _ (R1.out.al _)).mono ?_; rintro x w2 ⟨rfl, f2, r2⟩; have F2 := hid f2; have z2 := f2.size; simp only [World.size_alloc] at z2; have R2 := hid ((r2.al (.cells #[.int .i64 k] 3)).al (.cells #[.int .i64 k, .slice none 0 0, .slice none 0 0] 39)); have Y3 := hid (((f2.bo (R1.out.al _) X3.out hN).keep (ext1 (.cells #[.int .i64 k] 3))).keep (ext1 (.cells #[.int .i64 k, .slice none 0 0, .slice none 0 0] 39))); have Y4 := hid (((f2.bo (R1.out.al _) X4.out (by omega)).keep (ext1 (.cells #[.int .i64 k] 3))).keep (ext1 (.cells #[.int .i64 k, .slice none 0 0, .slice none 0 0] 39))); have Y7 := hid (((f2.bo (R1.out.al _) X7.out (by omega)).keep (ext1 (.cells #[.int .i64 k] 3))).keep (ext1 (.cells #[.int .i64 k, .slice none 0 0, .slice none 0 0] 39))); have Y9a := hid (Bo.new w2 #[.int .i64 k] 3); have c9a := Y9a.out.cell 0 (.int .i64 k) rfl; have Y9 := hid (Y9a.out.keep (ext1 (.cells #[.int .i64 k, .slice none 0 0, .slice none 0 0] 39))); have YS := hid (show Bo ((w2.alloc (.cells #[.int .i64 k] 3)).alloc (.cells #[.int .i64 k, .slice none 0 0, .slice none 0 0] 39)) (w2.heap.size + 1) #[.int .i64 k, .slice none 0 0, .slice none 0 0] 39 by have := Bo.new (w2.alloc (.cells #[.int .i64 k] 3)) #[.int .i64 k, .slice none 0 0, .slice none 0 0] 39; rwa [World.size_alloc] at this); have c3 := Y3.out.cell 0 (.pointer (some ⟨rb, 0, none⟩)) rfl; have c4 := Y4.out.cell 0 (.int .i64 (d : Int)) rfl; have c7 := Y7.out.cell 0 (.bool l) rfl; have c9 := Y9.out.cell 0 (.int .i64 k) rfl; clear f2 r2)
      | (go_at_call 110; refine (BC.out _ _ _ _ R2.out (HT.out.fr ((((((F0.out.trans F1.out).al _).trans F2.out).al _).al _)) hz) Y3.out Y4.out Y9.out hN (by omega) (by omega)).mono ?_; rintro x w4 ⟨rfl, he2, f4⟩; exact absurd he2.1 he))

end Go.Proofs.YtpmfedimjjifaaaGreatDoor
