/- What Bytes and lives return; no statement of the seat is proved here. -/
import Derived.Test.YtbpcekhfjkodcaaAk
import Derived.Lib.SlBytesConst
namespace Go.Proofs.Ytbpcekhfjkodcaa
open Go.RowKit

theorem written_yes (leaf : Bool) (r : Int) (co : Option Addr) (cn cc : Nat) (cs : List C) (w : World) (h : Cs w co cn cc cs) (hf : Few cs) (hyes : hasN leaf r cs = true) :
    Calls Try.prog 31 #[.agg #[.bool leaf, .int .i64 r, .slice co cn cc]] w fun e w' => e = .returned (.tuple #[pgV (pageN leaf r cs), .bool true]) ∧ Below w.heap.size w w' := by
  cases leaf
  · exact written_false r co cn cc cs w h hf hyes
  · exact written_true r co cn cc cs w h hf hyes

/-- What a node's page is, if it has one. -/
def wrN (leaf : Bool) (r : Int) (cs : List C) : List Nat := if hasN leaf r cs then pageN leaf r cs else zs 512
theorem wrN_length (leaf : Bool) (r : Int) (cs : List C) : (wrN leaf r cs).length = 512 := by
  unfold wrN
  split
  · rename_i h
    exact pageN_length leaf r cs (by simp [hasN] at h; exact h.2)
  · exact zs_length _
theorem written_any (leaf : Bool) (r : Int) (co : Option Addr) (cn cc : Nat) (cs : List C) (w : World) (h : Cs w co cn cc cs) (hf : Few cs) :
    Calls Try.prog 31 #[.agg #[.bool leaf, .int .i64 r, .slice co cn cc]] w fun e w' => e = .returned (.tuple #[pgV (wrN leaf r cs), .bool (hasN leaf r cs)]) ∧ Below w.heap.size w w' := by
  unfold wrN
  cases hy : hasN leaf r cs with
  | true => simpa using written_yes leaf r co cn cc cs w h hf hy
  | false => simpa using written_no leaf r co cn cc cs w h hf hy

set_option maxHeartbeats 1000000 in
theorem bytes_no (leaf : Bool) (r : Int) (co : Option Addr) (cn cc : Nat) (cs : List C) (w : World) (h : Cs w co cn cc cs) (hf : Few cs) (hy : hasN leaf r cs = false) :
    Calls Try.prog 17 #[.agg #[.bool leaf, .int .i64 r, .slice co cn cc]] w fun e w' => e = .returned (.slice none 0 0) ∧ Below w.heap.size w w' := by
  have B0 : Hid (Below w.heap.size w (w.alloc (.cells #[.bool leaf, .int .i64 r, .slice co cn cc] 24))) := hid (ext1 _)
  have cw := hid (written_any leaf r co cn cc cs _ (h.keep B0.out) hf)
  rw [hy] at cw
  have al := hid alloc60
  have st : Hid (∀ W : World, (storeVar 60 ⟨W.heap.size, 0, none⟩ (pgV (wrN leaf r cs))).run Try.prog (W.alloc (.cells (bs (zs 512)).toArray 60)) = .ok () ((W.alloc (.cells (bs (zs 512)).toArray 60)).setRow W.heap.size (bs (wrN leaf r cs)).toArray)) := hid (fun W => ((PB.new W).store (wrN_length leaf r cs)).1)
  generalize wrN leaf r cs = X at *
  obtain ⟨Z, hZ⟩ : ∃ Z, Z = zs 512 := ⟨_, rfl⟩
  rw [← hZ] at st al
  clear h hf hy hZ
  go_enter Try.func17, Try.ntmps17
  go_wp2_with (first
    | (go_at_call 31; refine cw.out.mono ?_; rintro e w1 ⟨rfl, hb⟩; have B1 := hid (gt B0.out hb); clear hb)
    | ((with_reducible refine here_op 3 ?_); refine wpList_alloc_run rfl 60 rfl _ _ (al.out _) ?_)
    | ((with_reducible refine here_store 60 ?_); refine wpList_store_run rfl 60 (.tmp 3) (.tmp 8) rfl ⟨w1.heap.size, 0, none⟩ rfl _ rfl _ (st.out _) ?_))
  go_ret
  exact ⟨rfl, below_row (gt B1.out (ext1 _)) B1.out.size _⟩

set_option maxHeartbeats 1000000 in
theorem bytes_yes (leaf : Bool) (r : Int) (co : Option Addr) (cn cc : Nat) (cs : List C) (w : World) (h : Cs w co cn cc cs) (hf : Few cs) (hy : hasN leaf r cs = true) :
    Calls Try.prog 17 #[.agg #[.bool leaf, .int .i64 r, .slice co cn cc]] w fun e w' => ∃ g, e = .returned (.slice (some ⟨g, 0, none⟩) 512 512) ∧ w.heap.size ≤ g ∧ Rd w' (some ⟨g, 0, none⟩) 512 512 (pageN leaf r cs) ∧ Below w.heap.size w w' := by
  have B0 : Hid (Below w.heap.size w (w.alloc (.cells #[.bool leaf, .int .i64 r, .slice co cn cc] 24))) := hid (ext1 _)
  have cw := hid (written_yes leaf r co cn cc cs _ (h.keep B0.out) hf hy)
  have al := hid alloc60
  have hl : (pageN leaf r cs).length = 512 := pageN_length leaf r cs (by simp [hasN] at hy; exact hy.2)
  have st : Hid (∀ W : World, (storeVar 60 ⟨W.heap.size, 0, none⟩ (pgV (pageN leaf r cs))).run Try.prog (W.alloc (.cells (bs (zs 512)).toArray 60)) = .ok () ((W.alloc (.cells (bs (zs 512)).toArray 60)).setRow W.heap.size (bs (pageN leaf r cs)).toArray) ∧ PB ((W.alloc (.cells (bs (zs 512)).toArray 60)).setRow W.heap.size (bs (pageN leaf r cs)).toArray) W.heap.size (pageN leaf r cs)) := hid (fun W => (PB.new W).store hl)
  generalize pageN leaf r cs = X at *
  obtain ⟨Z, hZ⟩ : ∃ Z, Z = zs 512 := ⟨_, rfl⟩
  rw [← hZ] at st al
  clear h hf hy hZ hl
  go_enter Try.func17, Try.ntmps17
  go_wp2_with (first
    | (go_at_call 31; refine cw.out.mono ?_; rintro e w1 ⟨rfl, hb⟩; have B1 := hid (gt B0.out hb); clear hb)
    | ((with_reducible refine here_op 3 ?_); refine wpList_alloc_run rfl 60 rfl _ _ (al.out _) ?_)
    | ((with_reducible refine here_store 60 ?_); refine wpList_store_run rfl 60 (.tmp 3) (.tmp 8) rfl ⟨w1.heap.size, 0, none⟩ rfl _ rfl _ (st.out _).1 ?_))
  go_ret
  exact ⟨w1.heap.size, rfl, B1.out.size, (st.out w1).2.rd, below_row (gt B1.out (ext1 _)) B1.out.size _⟩

theorem rd_take {w : World} {ao : Option Addr} {n cap : Nat} {xs : List Nat} (h : Rd w ao n cap xs) (m : Nat) (hm : m ≤ n) : Rd w ao m cap (xs.take m) := by
  obtain ⟨hl, hc, hno, hat⟩ := h
  refine ⟨by simp; omega, by omega, fun e => ⟨by have := (hno e).1; omega, (hno e).2⟩, fun hp => ?_⟩
  obtain ⟨b, off, e, hcell⟩ := hat (by omega)
  refine ⟨b, off, e, fun t ht => ?_⟩
  rw [hcell t (by omega)]
  simp [List.getD, ht]

/-- The document's example. -/
def exC (g : Nat) : C := ⟨1, 0, 2, some ⟨g, 0, none⟩, 2, 2, 0, [97, 98]⟩
theorem ex_has (g : Nat) : hasN true 0 [exC g] = true := by
  have h1 : goodN true 0 [exC g] = true := by simp [goodN, riseB, leafB, exC, payB, locN, spillB]
  have h2 : sizeN true [exC g] ≤ 512 := by have := oneN_le true (exC g); simp [sizeN, sumN]; simp [exC] at this ⊢; omega
  simp [hasN, h1, h2]
theorem ex_all (g : Nat) : allN true [exC g] = [2, 2, 97, 98] := by
  have h1 : varN 2 = [2] := by decide +kernel
  simp [allN, oneN, exC, zigN, uN, spillB, h1]
theorem ex_page (g : Nat) : (pageN true 0 [exC g]).take 12 = [1, 0, 1, 0, 0, 0, 0, 2, 2, 97, 98, 0] := by
  have h2 : hd7 true 1 0 = [1, 0, 1, 0, 0, 0, 0] := by decide +kernel
  unfold pageN
  rw [ex_all, show [exC g].length = 1 from rfl, h2]
  rfl

theorem ex_cs (w : World) : Cs ((w.alloc (.cells #[.int .u8 97, .int .u8 98] 5 (2, 3))).alloc (.cells #[.int .i64 1, .int .i64 0, .int .i64 2, .slice (some ⟨w.heap.size, 0, none⟩) 2 2, .int .i64 0] 57)) (some ⟨w.heap.size + 1, 0, none⟩) 1 1 [exC w.heap.size] := by
  have h0 := heap_alloc_new w (.cells #[.int .u8 97, .int .u8 98] 5 (2, 3))
  have h1 := heap_alloc_new (w.alloc (.cells #[.int .u8 97, .int .u8 98] 5 (2, 3))) (.cells #[.int .i64 1, .int .i64 0, .int .i64 2, .slice (some ⟨w.heap.size, 0, none⟩) 2 2, .int .i64 0] 57)
  rw [show (w.alloc (.cells #[.int .u8 97, .int .u8 98] 5 (2, 3))).heap.size = w.heap.size + 1 by simp] at h1
  have hr : Rd (w.alloc (.cells #[.int .u8 97, .int .u8 98] 5 (2, 3))) (some ⟨w.heap.size, 0, none⟩) 2 2 [97, 98] := by
    refine ⟨rfl, by omega, fun e => (by cases e), fun _ => ⟨_, 0, rfl, fun t ht => ?_⟩⟩
    have ht' : t = 0 ∨ t = 1 := by omega
    unfold World.cell?
    rw [h0]
    rcases ht' with rfl | rfl <;> rfl
  refine ⟨rfl, by omega, fun e => (by cases e), fun _ => ⟨_, 0, rfl, fun t ht => ?_⟩, fun a ha => ?_⟩
  · obtain rfl : t = 0 := by omega
    refine ⟨?_, ?_, ?_, ?_, ?_⟩ <;> (unfold World.cell?; rw [h1]; rfl)
  · simp at ha
    subst ha
    exact { rd := hr.keep (ext1 _), by8 := by simp [exC], kI := by simp [exC, I64], cI := by simp [exC, I64], lI := by simp [exC, I64], xI := by simp [exC, I64], nB := by simp [exC, big] }

theorem conv25 (W : World) : (convert 25 25 (.slice (some ⟨W.heap.size, 0, none⟩) 2 2)).run Try.prog (W.alloc (.cells #[.int .u8 97, .int .u8 98] 5)) = .ok (.slice (some ⟨W.heap.size, 0, none⟩) 2 2) (W.alloc (.cells #[.int .u8 97, .int .u8 98] 5 (2, 3))) :=
  Lib.run_convert_bytes_const W 25 5 _ 2 2 Try.underlying25 Try.underlying5

set_option maxHeartbeats 1000000 in
set_option maxRecDepth 20000 in
theorem lives_any (w : World) : Calls Try.prog 8 #[] w fun e w' => e = .returned (.bool true) ∧ Below w.heap.size w w' := by
  have c := hid (bytes_yes true 0 _ 1 1 _ _ (ex_cs w) ⟨by simp, by simp [exC]⟩ (ex_has _))
  have hp := hid (ex_page w.heap.size)
  generalize pageN true 0 [exC w.heap.size] = X at *
  have B0 : Hid (Below w.heap.size w ((w.alloc (.cells #[.int .u8 97, .int .u8 98] 5 (2, 3))).alloc (.cells #[.int .i64 1, .int .i64 0, .int .i64 2, .slice (some ⟨w.heap.size, 0, none⟩) 2 2, .int .i64 0] 57))) := hid (gt (ext1 _) (ext1 _))
  have cv25 := conv25 w
  have hs : ((str [1, 0, 1, 0, 0, 0, 0, 2, 2, 97, 98, 0]).toList == [1, 0, 1, 0, 0, 0, 0, 2, 2, 97, 98, 0]) = true := by decide +kernel
  go_enter Try.func8, Try.ntmps8
  go_wp2_with (go_at_call 17; refine c.out.mono ?_; rintro e w1 ⟨g, rfl, hg, hr, hb⟩; have cv := conv_rd (P := Try.prog) (rd_take hr 12 (by omega)) 25 9 5 Try.underlying25 Try.underlying5 (by kernel_rfl); rw [hp.out] at cv; have B1 := hid (gt B0.out hb); clear hr hb)
  go_ret
  exact ⟨rfl, B1.out⟩

end Go.Proofs.Ytbpcekhfjkodcaa
