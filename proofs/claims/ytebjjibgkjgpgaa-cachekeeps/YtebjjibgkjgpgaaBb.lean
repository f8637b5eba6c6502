/- A map from numbers to pages; no statement of the seat is proved here. -/
import Derived.Test.YtebjjibgkjgpgaaBa
namespace Go.Proofs.Ytebjjibgkjgpgaa
open Go.RowKit Go.Maps

def ptrD : Option Nat → DataW Unit
  | none => .lit (.bool false)
  | some b => .lit (.int .i64 (b : Int))
theorem ptrD_inj {a b : Option Nat} (h : ptrD a = ptrD b) : a = b := by
  cases a <;> cases b <;> simp [ptrD] at h ⊢
  omega

def ptrR : Value → Option (DataW Unit × List MemPlace)
  | .pointer none => some (ptrD none, [])
  | .pointer (some ⟨b, 0, none⟩) => some (ptrD (some b), [])
  | _ => none
theorem ptrR_mk (o : Option Nat) : ptrR (ptr o) = some (ptrD o, []) := by cases o <;> rfl
theorem ptrR_inv {v : Value} {o : Option Nat} {ps : List MemPlace} (h : ptrR v = some (ptrD o, ps)) : v = ptr o := by
  unfold ptrR at h
  split at h
  · simp only [Option.some.injEq, Prod.mk.injEq] at h; rw [← ptrD_inj h.1]; rfl
  · simp only [Option.some.injEq, Prod.mk.injEq] at h; rw [← ptrD_inj h.1]; rfl
  · cases h

theorem Try.u49 : Try.prog.underlying 49 = some (.map 3 50) := by kernel_rfl
theorem Try.u3 : Try.prog.underlying 3 = some (.int .i64) := by kernel_rfl
theorem Try.z50 (w : World) : (zeroValue 50).run Try.prog w = .ok (ptr none) w := by kernel_rfl

def MapAt (w : World) (m : Nat) (f : Int → Option Nat) (n : Nat) : Prop :=
  ∃ D : DataW Unit, w.ownsMap Try.prog 3 ptrR m n D ∧ Maps.size D = n ∧ ∀ k : Int, (Lit.int .i64 k).wf = true → Maps.has D (.int .i64 k) = (f k).isSome ∧ D.atKey (.int .i64 k) (ptrD none) = ptrD (f k)

theorem MapAt.lt {w : World} {m n : Nat} {f : Int → Option Nat} (h : MapAt w m f n) : m < w.heap.size := by obtain ⟨D, h, _⟩ := h; exact h.lt
theorem MapAt.obj {w : World} {m n : Nat} {f : Int → Option Nat} (h : MapAt w m f n) : ∃ es cl, w.heap[m]? = some (.map es cl) := by obtain ⟨D, ⟨es, cl, h, _⟩, _⟩ := h; exact ⟨es, cl, h⟩
theorem MapAt.stay {w w' : World} {m n : Nat} {f : Int → Option Nat} (h : MapAt w m f n) (hb : w'.heap[m]? = w.heap[m]?) : MapAt w' m f n := by
  obtain ⟨D, ⟨es, clock, hg, hF, hs', hD⟩, hr⟩ := h
  exact ⟨D, ⟨es, clock, hb.trans hg, hF, hs', hD⟩, hr⟩
theorem MapAt.imp {w : World} {m n n' : Nat} {f g : Int → Option Nat} (h : MapAt w m f n) (hn : n = n') (hfg : ∀ k, (Lit.int .i64 k).wf = true → f k = g k) : MapAt w m g n' := by
  subst hn
  obtain ⟨D, h1, h2, h3⟩ := h
  exact ⟨D, h1, h2, fun k hk => by rw [← hfg k hk]; exact h3 k hk⟩
theorem MapAt.new (w : World) : MapAt (w.alloc (.map #[] 0)) w.heap.size (fun _ => none) 0 :=
  ⟨_, World.ownsMap_made w _ _ _, rfl, fun _ _ => ⟨rfl, rfl⟩⟩

theorem key_int {k : Int} (hk : (Lit.int .i64 k).wf = true) : keyOf Try.prog 3 (.int .i64 k) = some (.int .i64 k) := keyOf_int_mk Try.u3 hk
theorem KD : Keyed Try.prog 3 := int_keyed Try.u3
theorem lit_ne {j k : Int} (h : j ≠ k) : (Lit.int .i64 j) ≠ (Lit.int .i64 k) := by intro e; cases e; exact h rfl

theorem MapAt.look {w : World} {m n : Nat} {f : Int → Option Nat} (h : MapAt w m f n) {k : Int} (hk : (Lit.int .i64 k).wf = true) :
    (Instr.lookup 49 (.map (some m)) (.int .i64 k) false).run Try.prog w = .ok (ptr (f k)) w := by
  obtain ⟨D, h1, _, h3⟩ := h
  obtain ⟨v, ps, hrun, hv⟩ := h1.lookup KD Try.u49 (Try.z50 w) (ptrR_mk none) (key_int hk)
  rw [(h3 k hk).2] at hv
  rw [hrun, ptrR_inv hv]

theorem MapAt.len {w : World} {m n : Nat} {f : Int → Option Nat} (h : MapAt w m f n) (ty : TypeId) : (Builtin.len_ #[49] ty #[.map (some m)]).run Try.prog w = .ok (.int .i64 (n : Int)) w := by
  obtain ⟨D, h1, h2, _⟩ := h
  rw [h1.len Try.u49 ty, h2]

theorem MapAt.put {w : World} {m n : Nat} {f : Int → Option Nat} (h : MapAt w m f n) {k : Int} (hk : (Lit.int .i64 k).wf = true) (hn : n < 1000000) (b : Nat) :
    ∃ w', (Instr.mapUpdate 49 (.map (some m)) (.int .i64 k) (.pointer (some ⟨b, 0, none⟩))).run Try.prog w = .ok () w' ∧ MapAt w' m (fun j => if j = k then some b else f j) (if (f k).isSome then n else n + 1) ∧ w.mapTurned w' m := by
  obtain ⟨D, h1, h2, h3⟩ := h
  obtain ⟨w', hrun, ho, ht⟩ := h1.store KD Try.u49 (by unfold maxLen; omega) (key_int hk) (ptrR_mk (some b))
  refine ⟨w', hrun, ⟨D.put (.int .i64 k) (ptrD (some b)), ?_, ?_, fun j hj => ?_⟩, ht⟩
  · obtain ⟨es, clock, hb, F, hs, hD⟩ := ho
    refine ⟨es, clock, hb, F, ?_, hD⟩
    have e1 := size_put (k := .int .i64 k) (h1.tidy KD) (ptrD (some b))
    rw [(h3 k hk).1, h2] at e1
    rw [← e1, hD, Maps.size_eq, length_read]; exact Nat.le_refl _
  · have e1 := size_put (k := .int .i64 k) (h1.tidy KD) (ptrD (some b))
    rw [(h3 k hk).1, h2] at e1
    exact e1
  · by_cases hjk : j = k
    · subst hjk
      dsimp only; rw [if_pos rfl]
      exact ⟨has_put_same (k := .int .i64 j) h1.isMap trivial _, atKey_put_same (k := .int .i64 j) h1.isMap trivial _ _⟩
    · dsimp only; rw [if_neg hjk, has_put_other (lit_ne hjk), atKey_put_other (lit_ne hjk)]
      exact h3 j hj

theorem MapAt.del {w : World} {m n : Nat} {f : Int → Option Nat} (h : MapAt w m f n) {k : Int} (hk : (Lit.int .i64 k).wf = true) (ty : TypeId) :
    ∃ w', (Builtin.delete_ #[49, 3] ty #[.map (some m), .int .i64 k]).run Try.prog w = .ok (.tuple #[]) w' ∧ MapAt w' m (fun j => if j = k then none else f j) (if (f k).isSome then n - 1 else n) ∧ w.mapTurned w' m := by
  obtain ⟨D, h1, h2, h3⟩ := h
  obtain ⟨w', hrun, ho, ht⟩ := h1.drop KD Try.u49 (key_int hk) ty
  have e1 := size_del (k := .int .i64 k) (h1.tidy KD)
  rw [(h3 k hk).1, h2] at e1
  have e2 : Maps.size (D.del (.int .i64 k)) = if (f k).isSome then n - 1 else n := by split at e1 <;> rename_i hs <;> simp only [hs] <;> simp <;> omega
  refine ⟨w', hrun, ⟨D.del (.int .i64 k), ?_, e2, fun j hj => ?_⟩, ht⟩
  · obtain ⟨es, clock, hb, F, hs, hD⟩ := ho
    refine ⟨es, clock, hb, F, ?_, hD⟩
    rw [← e2, hD, Maps.size_eq, length_read]; exact Nat.le_refl _
  · by_cases hjk : j = k
    · subst hjk
      dsimp only; rw [if_pos rfl]
      exact ⟨has_del_same, atKey_del_same _⟩
    · dsimp only; rw [if_neg hjk, has_del_other (lit_ne hjk), atKey_del_other (lit_ne hjk)]
      exact h3 j hj

end Go.Proofs.Ytebjjibgkjgpgaa
