/- How a cache lies in memory, and the small calls; no statement of the seat is proved here. -/
import Derived.Test.YtebjjibgkjgpgaaCa
namespace Go.Proofs.Ytebjjibgkjgpgaa
open Go.RowKit Go.Maps

structure CS where
  room : Nat
  l : List Row
  hit : Nat
  miss : Nat

structure Parts where
  m : Nat
  h : Nat
  ks : List Nat
  E : Nat → Ent

def hdC (m h room hit miss : Nat) : List Value := [.int .i64 (room : Int), .map (some m), .pointer (some ⟨h, 0, none⟩), .int .i64 (hit : Int), .int .i64 (miss : Int)]
def lk (ks : List Nat) (E : Nat → Ent) (k : Int) : Option Nat := ks.find? (fun b => (E b).row.page == k)

structure CP (w : World) (c : Nat) (C : Parts) (s : CS) : Prop where
  hd : w.heap[c]? = some (.cells (hdC C.m C.h s.room s.hit s.miss).toArray 52 (0, 0))
  mp : MapAt w C.m (lk C.ks C.E) C.ks.length
  rg : RingAt w C.h C.ks C.E
  ls : s.l = C.ks.map (fun b => (C.E b).row)
  pg : (s.l.map Row.page).Nodup
  wf : ∀ r ∈ s.l, (Lit.int .i64 r.page).wf = true ∧ 1 ≤ r.page
  rm : 1 ≤ s.room ∧ s.room ≤ 4096

def Parts.S (C : Parts) (c : Nat) : Nat → Prop := fun k => k = c ∨ k = C.m ∨ k ∈ C.h :: C.ks

theorem CP.clt {w : World} {c : Nat} {C : Parts} {s : CS} (h : CP w c C s) : c < w.heap.size := (Array.getElem?_eq_some_iff.1 h.hd).1
theorem CP.lt {w : World} {c : Nat} {C : Parts} {s : CS} (h : CP w c C s) {k : Nat} (hk : C.S c k) : k < w.heap.size := by
  rcases hk with rfl | rfl | hk
  · exact h.clt
  · exact h.mp.lt
  · exact (h.rg.en k hk).lt
theorem CP.nc {w : World} {c : Nat} {C : Parts} {s : CS} (h : CP w c C s) : c ∉ C.h :: C.ks := fun hm => by
  have := (h.rg.en c hm).blk
  rw [h.hd] at this
  simp at this
theorem CP.mc {w : World} {c : Nat} {C : Parts} {s : CS} (h : CP w c C s) : C.m ≠ c := fun hm => by
  obtain ⟨es, cl, ho⟩ := h.mp.obj
  rw [hm, h.hd] at ho
  simp at ho
theorem CP.nm {w : World} {c : Nat} {C : Parts} {s : CS} (h : CP w c C s) : C.m ∉ C.h :: C.ks := fun hm => by
  obtain ⟨es, cl, ho⟩ := h.mp.obj
  rw [(h.rg.en _ hm).blk] at ho
  simp at ho
theorem CP.stay {w w' : World} {c : Nat} {C : Parts} {s : CS} (h : CP w c C s) (hb : ∀ k, k < w.heap.size → C.S c k → w'.heap[k]? = w.heap[k]?) : CP w' c C s :=
  ⟨(hb c h.clt (Or.inl rfl)).trans h.hd, h.mp.stay (hb _ h.mp.lt (Or.inr (Or.inl rfl))), h.rg.stay (fun b hm => hb b (h.rg.en b hm).lt (Or.inr (Or.inr hm))), h.ls, h.pg, h.wf, h.rm⟩
theorem CP.later {w w' : World} {c : Nat} {C : Parts} {s : CS} (h : CP w c C s) (hb : Below w.heap.size w w') : CP w' c C s := h.stay (fun k hk _ => hb.block k hk)

theorem hd_cell {w : World} {c : Nat} {cs : List Value} {t : TypeId} (h : w.heap[c]? = some (.cells cs.toArray t (0, 0))) (i : Nat) : w.cell? ⟨c, i, none⟩ = cs[i]? := by simp [World.cell?, h]
theorem hd_frozen {w : World} {c : Nat} {cs : List Value} {t : TypeId} (h : w.heap[c]? = some (.cells cs.toArray t (0, 0))) (i : Nat) : w.frozen? ⟨c, i, none⟩ = false := by simp [World.frozen?, h]
theorem CP.c0 {w : World} {c : Nat} {C : Parts} {s : CS} (h : CP w c C s) : w.cell? ⟨c, 0, none⟩ = some (.int .i64 (s.room : Int)) := hd_cell h.hd 0
theorem CP.c1 {w : World} {c : Nat} {C : Parts} {s : CS} (h : CP w c C s) : w.cell? ⟨c, 1, none⟩ = some (.map (some C.m)) := hd_cell h.hd 1
theorem CP.c2 {w : World} {c : Nat} {C : Parts} {s : CS} (h : CP w c C s) : w.cell? ⟨c, 2, none⟩ = some (.pointer (some ⟨C.h, 0, none⟩)) := hd_cell h.hd 2
theorem CP.c3 {w : World} {c : Nat} {C : Parts} {s : CS} (h : CP w c C s) : w.cell? ⟨c, 3, none⟩ = some (.int .i64 (s.hit : Int)) := hd_cell h.hd 3
theorem CP.c4 {w : World} {c : Nat} {C : Parts} {s : CS} (h : CP w c C s) : w.cell? ⟨c, 4, none⟩ = some (.int .i64 (s.miss : Int)) := hd_cell h.hd 4

/-! ### who stands where -/

theorem CP.idx {w : World} {c : Nat} {C : Parts} {s : CS} (h : CP w c C s) {k : Int} {b : Nat} (hb : lk C.ks C.E k = some b) : ∃ xs ys, C.ks = xs ++ b :: ys ∧ (C.E b).row.page = k ∧ (∀ x ∈ xs, (C.E x).row.page ≠ k) ∧ (∀ x ∈ ys, (C.E x).row.page ≠ k) := by
  obtain ⟨h1, xs, ys, e, h2⟩ := List.find?_eq_some_iff_append.1 hb
  refine ⟨xs, ys, e, by simpa using h1, fun x hx => by simpa using h2 x hx, fun x hx hxk => ?_⟩
  have h3 := h.pg
  rw [h.ls, e] at h3
  simp only [List.map_append, List.map_cons, List.map_map] at h3
  have h4 := (List.nodup_cons.1 (List.nodup_append.1 h3).2.1).1
  refine h4 (List.mem_map.2 ⟨x, hx, ?_⟩)
  simp at h1
  simp [hxk, h1]
theorem lk_none {ks : List Nat} {E : Nat → Ent} {k : Int} (hb : lk ks E k = none) : ∀ x ∈ ks, (E x).row.page ≠ k := fun x hx => by
  have := List.find?_eq_none.1 hb x hx
  simpa using this

/-! ### the small calls -/

set_option maxHeartbeats 1000000 in
theorem made_yes (c : Nat) (r : Nat) (w : World) (c0 : w.cell? ⟨c, 0, none⟩ = some (.int .i64 (r : Int))) (hr : 1 ≤ r) :
    Calls Try.prog 48 #[.pointer (some ⟨c, 0, none⟩)] w fun e w' => e = .returned (.bool true) ∧ w' = w := by
  have hr' : 0 < r := hr
  go_enter Try.func48, Try.ntmps48
  go_wp2
  go_ret
  exact ⟨rfl, rfl⟩
set_option maxHeartbeats 1000000 in
theorem made_zero (c : Nat) (w : World) (c0 : w.cell? ⟨c, 0, none⟩ = some (.int .i64 0)) :
    Calls Try.prog 48 #[.pointer (some ⟨c, 0, none⟩)] w fun e w' => e = .returned (.bool false) ∧ w' = w := by
  go_enter Try.func48, Try.ntmps48
  go_wp2
  go_ret
  exact ⟨rfl, rfl⟩
set_option maxHeartbeats 1000000 in
theorem made_nil (w : World) :
    Calls Try.prog 48 #[.pointer none] w fun e w' => e = .returned (.bool false) ∧ w' = w := by
  go_enter Try.func48, Try.ntmps48
  go_wp2
  go_ret
  exact ⟨rfl, rfl⟩

def lkE : Option Nat → Int
  | some _ => 0
  | none => 5

set_option maxHeartbeats 1000000 in
theorem find_at (c : Nat) (C : Parts) (s : CS) (k : Int) (w : World) (h : CP w c C s) (hk : (Lit.int .i64 k).wf = true) (o : Option Nat) (ho : lk C.ks C.E k = o) :
    Calls Try.prog 47 #[.pointer (some ⟨c, 0, none⟩), .int .i64 k] w fun e w' => e = .returned (.tuple #[ptr o, .int .i64 (lkE o)]) ∧ w' = w := by
  have k1 := hid (made_yes c s.room w h.c0 h.rm.1)
  have c1 := h.c1
  have hl := h.mp.look hk
  rw [ho] at hl
  clear h ho hk
  cases o with
  | none =>
    rw [show ptr none = .pointer none from rfl] at hl ⊢
    go_enter Try.func47, Try.ntmps47
    go_wp2_with (go_at_call 48; refine k1.out.mono ?_; rintro e w1 ⟨rfl, rfl⟩)
    go_ret2
    exact ⟨rfl, rfl⟩
  | some b =>
    rw [show ptr (some b) = .pointer (some ⟨b, 0, none⟩) from rfl] at hl ⊢
    go_enter Try.func47, Try.ntmps47
    go_wp2_with (go_at_call 48; refine k1.out.mono ?_; rintro e w1 ⟨rfl, rfl⟩)
    go_ret2
    exact ⟨rfl, rfl⟩

theorem find_nil (k : Int) (w : World) :
    Calls Try.prog 47 #[.pointer none, .int .i64 k] w fun e w' => e = .returned (.tuple #[.pointer none, .int .i64 1]) ∧ w' = w := by
  have k1 := hid (made_nil w)
  go_enter Try.func47, Try.ntmps47
  go_wp2_with (go_at_call 48; refine k1.out.mono ?_; rintro e w1 ⟨rfl, rfl⟩)
  go_ret2
  exact ⟨rfl, rfl⟩
theorem find_zero (c : Nat) (k : Int) (w : World) (c0 : w.cell? ⟨c, 0, none⟩ = some (.int .i64 0)) :
    Calls Try.prog 47 #[.pointer (some ⟨c, 0, none⟩), .int .i64 k] w fun e w' => e = .returned (.tuple #[.pointer none, .int .i64 1]) ∧ w' = w := by
  have k1 := hid (made_zero c w c0)
  clear c0
  go_enter Try.func47, Try.ntmps47
  go_wp2_with (go_at_call 48; refine k1.out.mono ?_; rintro e w1 ⟨rfl, rfl⟩)
  go_ret2
  exact ⟨rfl, rfl⟩

/-! ### a page comes, a page goes -/

theorem turned_cell {w w' : World} {m : Nat} (h : w.mapTurned w' m) {b : Nat} (hb : b ≠ m) (hl : b < w.heap.size) : w'.heap[b]? = w.heap[b]? := h.grown.block b hl (by intro e; cases e; exact hb rfl)

theorem mapped_drew {w : World} {m n : Nat} {f : Int → Option Nat} (h : MapAt w m f n) : MapAt w.drew m f n := h.stay rfl

set_option maxHeartbeats 1000000 in
theorem add_raw (c m e : Nat) (k : Int) (w w1 : World) (R : World → Prop) (c1 : w.cell? ⟨c, 1, none⟩ = some (.map (some m))) (ce : w.cell? ⟨e, 0, none⟩ = some (.int .i64 k))
    (hput : (Instr.mapUpdate 49 (.map (some m)) (.int .i64 k) (.pointer (some ⟨e, 0, none⟩))).run Try.prog w.drew = .ok () w1)
    (hl : Calls Try.prog 61 #[.pointer (some ⟨c, 0, none⟩), .pointer (some ⟨e, 0, none⟩)] w1 fun r w' => r = .returned (.tuple #[]) ∧ R w') :
    Calls Try.prog 49 #[.pointer (some ⟨c, 0, none⟩), .pointer (some ⟨e, 0, none⟩)] w fun r w' => r = .returned (.tuple #[]) ∧ R w' := by
  have k1 := hid hl
  clear hl
  go_enter Try.func49, Try.ntmps49
  go_wp2_with fail
  go_region
  go_wp2_with (go_at_call 61; refine k1.out.mono ?_; rintro e w2 ⟨rfl, hR⟩; replace hR := hid hR)
  go_end0
  exact ⟨rfl, hR.out⟩

set_option maxHeartbeats 1000000 in
theorem remove_raw (c m e : Nat) (k : Int) (w w1 : World) (R : World → Prop) (c1 : w.cell? ⟨c, 1, none⟩ = some (.map (some m))) (ce : w.cell? ⟨e, 0, none⟩ = some (.int .i64 k))
    (hdel : ∀ ty, (Builtin.delete_ #[49, 3] ty #[.map (some m), .int .i64 k]).run Try.prog w.drew = .ok (.tuple #[]) w1)
    (hl : Calls Try.prog 62 #[.pointer (some ⟨e, 0, none⟩)] w1 fun r w' => r = .returned (.tuple #[]) ∧ R w') :
    Calls Try.prog 55 #[.pointer (some ⟨c, 0, none⟩), .pointer (some ⟨e, 0, none⟩)] w fun r w' => r = .returned (.tuple #[]) ∧ R w' := by
  have k1 := hid hl
  clear hl
  go_enter Try.func55, Try.ntmps55
  go_wp2_with fail
  go_region
  go_wp2_with (go_at_call 62; refine k1.out.mono ?_; rintro e w2 ⟨rfl, hR⟩; replace hR := hid hR)
  go_end0
  exact ⟨rfl, hR.out⟩

end Go.Proofs.Ytebjjibgkjgpgaa
