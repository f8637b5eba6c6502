/- A trunk with a leaf less; the name of a root, and a new one; no statement of the seat is proved here. -/
import Derived.Test.YtgjgkpnjchflaaaGreatDoorG38
import Derived.Test.YtgjgkpnjchflaaaGreatDoorG06
import Derived.Lib.BufferWrite
namespace Go.Proofs.YtgjgkpnjchflaaaGreatDoor.Jrn
open Go.RowKit
open Cch (Fr step_copy_row)

set_option maxHeartbeats 1000000 in
set_option maxRecDepth 20000 in
theorem tdrop_any (num : Int) (B g cap nx v : Nat) (ls : List Nat) (w : World) (h : Row5 w B g cap (trunkN nx (ls ++ [v]))) (hl : ls.length < 126) (hv : v < 4294967296) :
    Calls Tryz.prog 70 #[Pv2 num g 0 cap] w fun e w' => e = .returned (.int .i64 (v : Int)) ∧ Row5 w' B g cap (trunkN nx ls) ∧ Fr (fun k => k = g) w w' := by
  have HB := hid (show Below w.heap.size w (w.alloc (.cells #[.int .i64 num, .slice (some ⟨g, 0, none⟩) 512 cap] 118)) from Below.alloc (Below.refl _ _) (Nat.le_refl _) _)
  have H0 := hid (h.keep HB.out)
  have HX := hid (RB.new 118 w num (some ⟨g, 0, none⟩) 512 cap)
  have CS := hid (size_any num g 0 cap _ _ H0.out.rd (trunkN_bytes _ _))
  rw [trunk_size nx _ (by simp; omega), show (ls ++ [v]).length = ls.length + 1 by simp] at CS
  have CL := hid (fun W => leaves_any num g cap W)
  have hgv : numAt (trunkN nx (ls ++ [v])) (8 + ls.length * 4) 4 = v := by
    have := trunk_leaf nx (ls ++ [v]) ls.length (by simp) (by simpa [List.getD] using hv)
    rw [this]; simp [List.getD]
  have CG := hid (fun W (hW : Row5 W B g cap (trunkN nx (ls ++ [v]))) => rget_yes num g cap _ 8 4 126 ls.length W hW.rd (trunkN_bytes _ _) (by omega) (by omega) hl (by omega))
  rw [hgv, wrap_small v (by omega)] at CG
  have CT := hid (fun W (hW : Row5 W B g cap (trunkN nx (ls ++ [v]))) => rset_yes num B g cap _ 8 4 126 ls.length 0 0 W hW (by omega) (by omega) hl (by omega) (by rw [IntKind.wrap_u64]; rfl))
  have CW := hid (fun W (hW : Row5 W B g cap (putAt (trunkN nx (ls ++ [v])) (8 + ls.length * 4) (putN 0 4 false))) => write_any num B g cap _ 4 4 ls.length (ls.length : Int) W hW (by omega) (by omega) (by omega) (by rw [IntKind.wrap_u64]; omega))
  have HT := hid (trunk_drop nx ls v hl)
  have HG := hid h.lt
  have e1 : ((ls.length + 1 : Nat) : Int) - 1 = (ls.length : Int) := by omega
  have e2 : IntKind.i64.wrap (ls.length : Int) = (ls.length : Int) := IntWalk.i64_in _ ⟨by omega, by omega⟩
  obtain ⟨V, hV⟩ : ∃ V, V = rowV (Pv2 num g 0 cap) 8 4 126 := ⟨_, rfl⟩
  obtain ⟨V2, hV2⟩ : ∃ V2, V2 = rowV (Pv2 num g 0 cap) ((8 : Nat) : Int) ((4 : Nat) : Int) ((126 : Nat) : Int) := ⟨_, rfl⟩
  have hVV : V2 = V := by rw [hV, hV2]; rfl
  rw [← hV] at CL; rw [← hV2, hVV] at CT CG
  clear h hV hV2 hVV hgv hv
  generalize ls.length + 1 = M at *
  generalize ls.length = L at *
  unfold Pv2 at *
  have t0 : Hid True := hid trivial
  go_enter Tryz.func70, Tryz.ntmps70
  go_wp2_with (first
    | (go_at_call 67; refine CS.out.mono ?_; rintro e w1 ⟨rfl, hb1⟩; have B1 := hid (gt HB.out hb1); have R1 := hid (H0.out.keep hb1); obtain ⟨x0, x1, x2, x3⟩ := (HX.out.keep hb1).cells; have X1 := hid (HX.out.keep hb1); clear hb1)
    | (go_at_call 66; clear t0; refine (CL.out w1).mono ?_; rintro e w2 ⟨rfl, hb2⟩; have B2 := hid (gt B1.out hb2); have R2 := hid (R1.out.keep hb2); have X2 := hid (X1.out.keep hb2); clear hb2 x0 x1 x2 x3)
    | (go_at_call 56; refine (CG.out w2 R2.out).mono ?_; rintro e w3 ⟨rfl, hb3⟩; have B3 := hid (gt B2.out hb3); have R3 := hid (R2.out.keep hb3); obtain ⟨x0, x1, x2, x3⟩ := (X2.out.keep hb3).cells; have X3 := hid (X2.out.keep hb3); clear hb3)
    | (go_at_call 66; refine (CL.out w3).mono ?_; rintro e w4 ⟨rfl, hb4⟩; have B4 := hid (gt B3.out hb4); have R4 := hid (R3.out.keep hb4); have X4 := hid (X3.out.keep hb4); clear hb4 x0 x1 x2 x3)
    | (go_at_call 49; refine (CT.out w4 R4.out).mono ?_; rintro e w5 ⟨rfl, hr3, hf3⟩; have R5 := hid hr3; have F5 := hid hf3; obtain ⟨x0, x1, x2, x3⟩ := (X4.out.fr hf3 (fun e => by have := HG.out; omega)).cells; clear hr3 hf3)
    | (go_at_call 87; refine (CW.out w5 R5.out).mono ?_; rintro e w6 ⟨rfl, hr4, hf4⟩; have R6 := hid hr4; have F6 := hid hf4; clear hr4 hf4))
  go_ret
  exact ⟨rfl, by rw [← HT.out]; exact R6.out, fr_row B4.out (F5.out.trans F6.out (fun _ _ h => h))⟩

theorem Rd.first {w : World} {g n cap : Nat} {xs : List Nat} (h : Rd w (some ⟨g, 0, none⟩) n cap xs) {k : Nat} (hk : k ≤ n) : Rd w (some ⟨g, 0, none⟩) k cap (xs.take k) := by
  obtain ⟨hl, hc, hno, hat⟩ := h
  refine ⟨by rw [List.length_take, hl]; omega, by omega, fun h => (by cases h), fun hp => ⟨g, 0, rfl, fun t ht => ?_⟩⟩
  obtain ⟨b', off', e, hcell⟩ := hat (by omega)
  simp only [Option.some.injEq, Addr.mk.injEq, and_true] at e
  obtain ⟨rfl, rfl⟩ := e
  rw [hcell t (by omega)]
  simp [List.getD, ht]
theorem beq_name (xs : List Nat) (h : ∀ x ∈ xs, x < 256) : ((str xs).toList == [104, 97, 99, 104, 117, 114, 101, 49]) = decide (xs = nameN) := by
  have e : (str xs).toList = xs.map UInt8.ofNat := by rw [ByteArray.toList_eq]; simp [str]
  rw [e, Bool.eq_iff_iff]
  simp only [beq_iff_eq, decide_eq_true_eq]
  constructor
  · intro h1
    have h2 := congrArg (List.map UInt8.toNat) h1
    rw [List.map_map] at h2
    have h3 : xs.map (UInt8.toNat ∘ UInt8.ofNat) = xs := by
      conv => rhs; rw [← List.map_id xs]
      refine List.map_congr_left fun x hx => ?_
      have := h x hx
      simp [Nat.mod_eq_of_lt this]
    rw [h3] at h2
    rw [h2]; rfl
  · rintro rfl; rfl
set_option maxHeartbeats 1000000 in
set_option maxRecDepth 20000 in
theorem named_any (num : Int) (g cap : Nat) (xs : List Nat) (w : World) (h : Rd w (some ⟨g, 0, none⟩) 512 cap xs) (hx : ∀ x ∈ xs, x < 256) :
    Calls Tryz.prog 55 #[Pv2 num g 0 cap] w fun e w' => e = .returned (.bool (decide (xs.take 8 = nameN))) ∧ Below w.heap.size w w' := by
  have hcp := h.2.1
  have HB := hid (show Below w.heap.size w (w.alloc (.cells #[.int .i64 num, .slice (some ⟨g, 0, none⟩) 512 cap] 83)) from Below.alloc (Below.refl _ _) (Nat.le_refl _) _)
  have cv := conv_str ((h.keep HB.out).first (k := 8) (by omega))
  have hb := beq_name (xs.take 8) (fun x h => hx x (List.mem_of_mem_take h))
  generalize str (xs.take 8) = SS at *
  generalize decide (xs.take 8 = nameN) = bb at *
  have k0 : (8 : Int) ≤ (cap : Int) := by omega
  clear h hx
  unfold Pv2
  go_enter Tryz.func55, Tryz.ntmps55
  go_wp2
  go_ret
  exact ⟨rfl, HB.out⟩
end Go.Proofs.YtgjgkpnjchflaaaGreatDoor.Jrn

/- A new root; no statement of the seat is proved here. -/
namespace Go.Proofs.YtgjgkpnjchflaaaGreatDoor.Jrn
open Go.RowKit
open Cch (Fr)

theorem wpList_copy_str {w : World} {ops : Array Oper} {rest : List Oper} {o : Oper} {a : Act} {Q : Exit → Act → World → Prop} (hgd : o.guard = none) (d : Operand) (s : ByteArray)
    (ho : o.op = .call { callee := .builtin .copy, args := #[d, .const (.string s)], argTypes := #[79, 9] }) (g dLen dCap : Nat) (hd : a.eval d = .slice (some ⟨g, 0, none⟩) dLen dCap)
    (cur : Array Value) (hg : w.heap[g]? = some (.cells cur 5 (0, 0))) (hle : s.size ≤ dLen) (hfit : 0 + s.size ≤ cur.size)
    (h : wpList Tryz.prog ops Q rest (a.put o.dst (goInt s.size)) (w.setRow g (cur.toList.take 0 ++ Go.Lib.byteCells s.data.toList ++ cur.toList.drop (0 + s.size)).toArray)) : wpList Tryz.prog ops Q (o :: rest) a w := by
  refine wpList_plain hgd fun K hK => ?_
  have hrun := Go.Lib.run_copy_row_string (P := Tryz.prog) w 79 9 o.type 5 g 0 dLen dCap s cur 5 Tryz.underlying79 (by kernel_rfl) hg hle hfit
  have he : a.eval (.const (.string s)) = .string s := rfl
  unfold Oper.wp execOp
  simp only [ho, resolve, invoke, builtin, Sem.run_bind, Sem.run_pure, Result.andThen_ok, List.map_toArray, List.map_cons, List.map_nil, hd, he, hrun]
  exact hK _ _ h

theorem root_new : (nameN ++ List.replicate 504 0) = rootN 0 0 (List.replicate 60 0) := by
  have e1 : ∀ k, wsN 8 (List.replicate k 0) = List.replicate (k * 8) 0 := fun k => by
    induction k with
    | zero => rfl
    | succ k ih => rw [List.replicate_succ, ← List.singleton_append, wsN_append, ih, wsN_one, show putN 0 8 false = List.replicate 8 0 by decide, List.replicate_append_replicate]; congr 1; omega
  rw [rootN, e1]
  have e2 : putN 0 4 false = List.replicate 4 0 := by decide
  rw [e2]
  simp only [List.replicate_append_replicate]

theorem copy_name {W : World} {B g : Nat} (h : Row5 W B g 512 nul) : ∃ cur : Array Value, W.heap[g]? = some (.cells cur 5 (0, 0)) ∧ cur.size = 512 ∧ ∃ w2, w2 = W.setRow g (cur.toList.take 0 ++ Go.Lib.byteCells (ByteArray.mk #[104, 97, 99, 104, 117, 114, 101, 49]).data.toList ++ cur.toList.drop (0 + (ByteArray.mk #[104, 97, 99, 104, 117, 114, 101, 49]).size)).toArray ∧
    Row5 w2 B g 512 (rootN 0 0 (List.replicate 60 0)) ∧ Fr (fun k => k = g) W w2 := by
  obtain ⟨hB, cur, hcur, hcs, hcm, hct⟩ := h.parts
  have hlc : cur.toList = bs nul := by rw [← hct]; exact (List.take_of_length_le (by simp [hcs])).symm
  refine ⟨cur, hcur, hcs, _, rfl, ?_, ⟨rfl, rfl, rfl, by simp, fun k _ hk => setRow_other _ _ _ _ hk⟩⟩
  have e : (cur.toList.take 0 ++ Go.Lib.byteCells (ByteArray.mk #[104, 97, 99, 104, 117, 114, 101, 49]).data.toList ++ cur.toList.drop (0 + (ByteArray.mk #[104, 97, 99, 104, 117, 114, 101, 49]).size)) = bs (rootN 0 0 (List.replicate 60 0)) := by
    rw [hlc, ← root_new, bs_append]
    have e1 : Go.Lib.byteCells (ByteArray.mk #[104, 97, 99, 104, 117, 114, 101, 49]).data.toList = bs nameN := rfl
    have e2 : (0 + (ByteArray.mk #[104, 97, 99, 104, 117, 114, 101, 49]).size) = 8 := rfl
    rw [e1, e2, List.take_zero, List.nil_append]
    congr 1
  refine Row5.of (cur := bs (rootN 0 0 (List.replicate 60 0))) hB ?_ (by rw [bs_length, rootN_length _ _ _ (by simp)]) hcm (List.take_of_length_le (by rw [bs_length, rootN_length _ _ _ (by simp)]; omega)) (rootN_length _ _ _ (by simp)) (by omega)
  rw [← e]
  exact setRow_heap _ _ _ _ _ _ hcur

set_option maxHeartbeats 1000000 in
set_option maxRecDepth 20000 in
theorem newRoot_any (w : World) : Calls Tryz.prog 47 #[] w fun e w' => ∃ g, e = .returned (Pv2 1 g 0 512) ∧ w.heap.size ≤ g ∧ Row5 w' w.heap.size g 512 (rootN 0 0 (List.replicate 60 0)) ∧ Below w.heap.size w w' := by
  have HB := hid (show Below w.heap.size w (w.alloc (.cells #[.int .i64 0, .slice none 0 0] 83)) from Below.alloc (Below.refl _ _) (Nat.le_refl _) _)
  have C1 := hid (blank_any 1 (w.alloc (.cells #[.int .i64 0, .slice none 0 0] 83)))
  have HX := hid (RB.new 83 w 0 none 0 0)
  unfold Pv2 at *
  go_enter Tryz.func47, Tryz.ntmps47
  go_wp2_with (first
    | (go_at_call 72; refine C1.out.mono ?_; rintro e w1 ⟨g, rfl, hg, hr1, hb1⟩; have R1 := hid hr1; have B1 := hid (gt HB.out hb1); have HG := hid hg; have HX1 := hid (HX.out.keep hb1); clear hr1 hb1 hg)
    | ((with_reducible refine Cch.here_op 5 ?_); obtain ⟨cur, hcur, hcs, w2, hw2, hr2, hf2⟩ := copy_name (R1.out.keep (Below.alloc (Below.refl _ _) (Nat.le_refl _) (.cells #[.int .i64 1, .slice (some ⟨g, 0, none⟩) 512 512] 81))); refine wpList_copy_str rfl (.tmp 4) _ rfl g 512 512 rfl cur hcur (by decide) (by rw [hcs]; decide) ?_; rw [← hw2]; clear hw2 hcur hcs; have R2 := hid hr2; have F2 := hid hf2; have HL := hid R1.out.lt; have Y5 := hid ((RB.new 81 w1 1 (some ⟨g, 0, none⟩) 512 512).fr hf2 (fun e => by have := HL.out; omega)); have Y4 := hid ((HX1.out.keep (Below.alloc (Below.refl _ _) (Nat.le_refl _) _)).fr hf2 (fun e => by have := HG.out; simp at this; omega)); obtain ⟨y0, y1, y2, y3⟩ := Y5.out.cells; obtain ⟨z0, z1, z2, z3⟩ := Y4.out.cells; clear hr2 hf2))
  refine bodyPost_ret (ret_pg rfl (by intro W; kernel_rfl) (by intro W; kernel_rfl) rfl (RB.set Y4.out _ _ _ _)) rfl ?_
  have hz : w.heap.size + 1 ≤ g := by have := HG.out; simpa using this
  refine ⟨g, rfl, by omega, ?_, below_fr ?_⟩
  · exact (R2.out.fr (fr_two _ _ _ _) (by omega)).base (by simp)
  · refine (Fr.of_below B1.out).trans ?_ (T := fun k => w.heap.size ≤ k) (fun j hj hk => hk)
    refine (Fr.of_below (Below.alloc (Below.refl _ _) (Nat.le_refl _) (.cells #[.int .i64 1, .slice (some ⟨g, 0, none⟩) 512 512] 81))).trans ?_ (T := fun k => w.heap.size ≤ k) (fun j hj hk => hk)
    exact (⟨F2.out.os, F2.out.tape, F2.out.output, F2.out.size, fun k hk hn => F2.out.blk k hk (by omega)⟩ : Fr (fun k => w.heap.size ≤ k) _ w2).trans (fr_two w2 w.heap.size _ _) (fun j hj hk => by omega)
end Go.Proofs.YtgjgkpnjchflaaaGreatDoor.Jrn
