/- The program's Parse; no statement of the seat is proved here. The document's Parse; no statement of the seat is proved here. Both sides' Bytes; no statement of the seat is proved here. A box comes back from its bytes; no statement of the seat is proved here. The law BoxBytes: the walk; no statement of the seat is proved here. -/
import Derived.Test.YtjlahomjhadnkaaXb
import Derived.Test.YtjlahomjhadnkaaCd
import Derived.Test.YtjlahomjhadnkaaFa
import Derived.Test.YtjlahomjhadnkaaCg
namespace Go.Proofs.Ytjlahomjhadnkaa
open Go.RowKit Go.Maps
open Oct (Rd SrcAt SrcO SrcE ob iv ev psum)

def zeR : Rect := ⟨false, 0, 0, 0, 0⟩
/-- The box that 32 bytes tell. -/
def getR (xs : List Nat) : Rect := ⟨false, iv (some xs), iv (some (xs.drop 16)), iv (some (xs.drop 8)), iv (some (xs.drop 24))⟩
def parseR (xs : List Nat) : Rect := if xs.length < 32 then zeR else if 32 < xs.length then zeR else if goodR (getR xs) then getR xs else zeR
def parseE (xs : List Nat) : Int := if xs.length < 32 then 8 else if 32 < xs.length then 9 else if goodR (getR xs) then 0 else 9
theorem ob_some {xs : List Nat} (h : 8 ≤ xs.length) : ob (some xs) = some (xs.drop 8) := by simp [ob, h]
theorem ob_short {xs : List Nat} (h : xs.length < 8) : ob (some xs) = none := by simp [ob]; omega
theorem ob_no : ob none = none := rfl
theorem ob4_short {xs : List Nat} (h : xs.length < 32) : ob (ob (ob (ob (some xs)))) = none := by
  by_cases h1 : xs.length < 8
  · rw [ob_short h1]; rfl
  · rw [ob_some (by omega)]
    by_cases h2 : xs.length < 16
    · rw [ob_short (by rw [List.length_drop]; omega)]; rfl
    · rw [ob_some (by rw [List.length_drop]; omega)]
      by_cases h3 : xs.length < 24
      · rw [ob_short (by rw [List.length_drop, List.length_drop]; omega)]; rfl
      · rw [ob_some (by rw [List.length_drop, List.length_drop]; omega), ob_short (by rw [List.length_drop, List.length_drop, List.length_drop]; omega)]
theorem ob_long {xs : List Nat} (h : 32 ≤ xs.length) : ob (some xs) = some (xs.drop 8) ∧ ob (some (xs.drop 8)) = some (xs.drop 16) ∧ ob (some (xs.drop 16)) = some (xs.drop 24) ∧ ob (some (xs.drop 24)) = some (xs.drop 32) := by
  refine ⟨ob_some (by omega), ?_, ?_, ?_⟩
  · rw [ob_some (by rw [List.length_drop]; omega), List.drop_drop]
  · rw [ob_some (by rw [List.length_drop]; omega), List.drop_drop]
  · rw [ob_some (by rw [List.length_drop]; omega), List.drop_drop]
theorem ev_full {xs : List Nat} (h : xs.length = 32) : ev (some (xs.drop 32)) = 0 := by
  rw [List.drop_eq_nil_of_le (by omega)]; rfl
theorem ev_more {xs : List Nat} (h : 32 < xs.length) : ev (some (xs.drop 32)) = 9 := by
  cases hd : xs.drop 32 with
  | nil => have := congrArg List.length hd; rw [List.length_drop] at this; simp at this; omega
  | cons a r => rfl
theorem ob_bytes {o : Option (List Nat)} (h : ∀ xs, o = some xs → ∀ x ∈ xs, x < 256) : ∀ xs, ob o = some xs → ∀ x ∈ xs, x < 256 := by
  intro xs e x hx
  cases o with
  | none => cases e
  | some ys =>
    by_cases h8 : 8 ≤ ys.length
    · rw [ob_some h8] at e
      simp only [Option.some.injEq] at e
      subst e
      exact h ys rfl x (List.mem_of_mem_drop hx)
    · rw [ob_short (by omega)] at e
      cases e
theorem grown_below {N p : Nat} {w a b : World} (h : Below N w a) (hw : N ≤ w.heap.size) (g : a.grownBy b (some p)) (hp : N ≤ p) : Below N w b :=
  h.trans ⟨g.os, g.tape, g.output, g.size, fun k hk => g.block k (Nat.lt_of_lt_of_le (Nat.lt_of_lt_of_le hk hw) h.size) (by simp; omega)⟩
theorem B5.grown {a b : World} {p c : Nat} {r : Rect} (h : B5 a c r) (g : a.grownBy b (some p)) (hc : c ≠ p) : B5 b c r := (g.block c h.lt (by simp; omega)).trans h

set_option maxRecDepth 100000 in
set_option maxHeartbeats 8000000 in
theorem parse_call (ao : Option Addr) (n cap : Nat) (xs : List Nat) (w : World) (h : Rd w ao n cap xs) (hx : ∀ x ∈ xs, x < 256) (hn : n ≤ 1000) : Calls Try.prog 31 #[.slice ao n cap] w fun e w' => e = .returned (.tuple #[.agg #[.bool (parseR xs).n, .int .i64 (parseR xs).lx, .int .i64 (parseR xs).ly, .int .i64 (parseR xs).hx, .int .i64 (parseR xs).hy], .int .i64 (parseE xs)]) ∧ Below w.heap.size w w' := by
  have R0 := hid (B5.new w zeR)
  have RC := hid (Oct.read_ok ao n cap xs (w.alloc (.cells #[.bool false, .int .i64 0, .int .i64 0, .int .i64 0, .int .i64 0] 25)) (h.keep (ext1 _)) (by omega))
  have hx1 : ∀ ys, some xs = some ys → ∀ x ∈ ys, x < 256 := fun ys e => by cases e; exact hx
  obtain ⟨o1, ho1⟩ : ∃ o, o = ob (some xs) := ⟨_, rfl⟩
  obtain ⟨o2, ho2⟩ : ∃ o, o = ob o1 := ⟨_, rfl⟩
  obtain ⟨o3, ho3⟩ : ∃ o, o = ob o2 := ⟨_, rfl⟩
  obtain ⟨o4, ho4⟩ : ∃ o, o = ob o3 := ⟨_, rfl⟩
  have hx2 : ∀ ys, o1 = some ys → ∀ x ∈ ys, x < 256 := by rw [ho1]; exact ob_bytes hx1
  have hx3 : ∀ ys, o2 = some ys → ∀ x ∈ ys, x < 256 := by rw [ho2]; exact ob_bytes hx2
  have hx4 : ∀ ys, o3 = some ys → ∀ x ∈ ys, x < 256 := by rw [ho3]; exact ob_bytes hx3
  have I1 := hid (fun p W (h : SrcO W p (some xs)) => Oct.int_any p (some xs) W h hx1)
  have I2 := hid (fun p W (h : SrcO W p o1) => Oct.int_any p o1 W h hx2)
  have I3 := hid (fun p W (h : SrcO W p o2) => Oct.int_any p o2 W h hx3)
  have I4 := hid (fun p W (h : SrcO W p o3) => Oct.int_any p o3 W h hx4)
  have EC := hid (fun p W (h : SrcO W p o4) => Oct.end_any p o4 W h)
  rw [← ho1] at I1
  rw [← ho2] at I2
  rw [← ho3] at I3
  rw [← ho4] at I4
  clear hx1 hx2 hx3 hx4 hx h
  by_cases h1 : xs.length < 32
  · rw [show parseR xs = zeR from if_pos h1, show parseE xs = 8 from if_pos h1]
    rw [show ev o4 = 8 by rw [ho4, ho3, ho2, ho1, ob4_short h1]; rfl] at EC
    clear ho1 ho2 ho3 ho4 h1
    generalize iv (some xs) = a1 at *
    generalize iv o1 = a2 at *
    generalize iv o2 = a3 at *
    generalize iv o3 = a4 at *
    go_enter Try.func31, Try.ntmps31
    go_wp2_with (first | (go_at_call 58; refine RC.out.mono ?_; rintro e v0 ⟨p, rfl, hp, hS, hb⟩; have S := hid (show SrcO v0 p (some xs) from hS); have RS := hid (R0.out.keep hb); have HB := hid (gt (ext1 _) hb); simp only [World.size_alloc] at hp; clear hS hb) | (go_at_call 59; refine (I1.out _ _ S.out).mono ?_; rintro e v1 ⟨rfl, hS, hg⟩; clear I1 S; have S := hid hS; have RS := hid (RS.out.grown hg (by omega)); have HB := hid (grown_below HB.out (Nat.le_refl _) hg (by omega)); clear hS hg) | (go_at_call 59; refine (I2.out _ _ S.out).mono ?_; rintro e v2 ⟨rfl, hS, hg⟩; clear I2 S; have S := hid hS; have RS := hid (RS.out.grown hg (by omega)); have HB := hid (grown_below HB.out (Nat.le_refl _) hg (by omega)); clear hS hg) | (go_at_call 59; refine (I3.out _ _ S.out).mono ?_; rintro e v3 ⟨rfl, hS, hg⟩; clear I3 S; have S := hid hS; have RS := hid (RS.out.grown hg (by omega)); have HB := hid (grown_below HB.out (Nat.le_refl _) hg (by omega)); clear hS hg) | (go_at_call 59; refine (I4.out _ _ S.out).mono ?_; rintro e v4 ⟨rfl, hS, hg⟩; clear I4 S; have S := hid hS; have RS := hid (RS.out.grown hg (by omega)); have HB := hid (grown_below HB.out (Nat.le_refl _) hg (by omega)); clear hS hg) | (go_at_call 60; refine (EC.out _ _ S.out).mono ?_; rintro e v5 ⟨rfl, rfl⟩; clear EC S; obtain ⟨x0, x1, x2, x3, x4⟩ := RS.out.c; have f0 := RS.out.fz 0; have f1 := RS.out.fz 1; have f2 := RS.out.fz 2; have f3 := RS.out.fz 3; have f4 := RS.out.fz 4; have hlow := HB.out))
    obtain ⟨z0, z1, z2, z3, z4⟩ := (RS.out.set zeR).c
    simp only [zeR] at z0 z1 z2 z3 z4
    exact bodyPost_ret (v := .tuple #[.agg #[.bool false, .int .i64 0, .int .i64 0, .int .i64 0, .int .i64 0], .int .i64 8]) (by simp [results, Try.results31, go_sem, z0, z1, z2, z3, z4]) rfl ⟨rfl, (by repeat (first | with_reducible exact Below.refl _ _ | with_reducible assumption | with_reducible refine Below.drew ?_ | with_reducible refine below_drewN ?_ _ | with_reducible refine Below.alloc ?_ (by simp <;> omega) _ | with_reducible refine Below.setCell ?_ (by simp <;> omega) _))⟩
  · obtain ⟨e1, e2, e3, e4⟩ := ob_long (xs := xs) (by omega)
    rw [e1] at ho1
    rw [ho1, e2] at ho2
    rw [ho2, e3] at ho3
    rw [ho3, e4] at ho4
    by_cases h2 : 32 < xs.length
    · rw [show parseR xs = zeR by unfold parseR; rw [if_neg h1, if_pos h2], show parseE xs = 9 by unfold parseE; rw [if_neg h1, if_pos h2]]
      rw [show ev o4 = 9 by rw [ho4]; exact ev_more h2] at EC
      clear ho1 ho2 ho3 ho4 h1 h2 e1 e2 e3 e4
      generalize iv (some xs) = a1 at *
      generalize iv o1 = a2 at *
      generalize iv o2 = a3 at *
      generalize iv o3 = a4 at *
      go_enter Try.func31, Try.ntmps31
      go_wp2_with (first | (go_at_call 58; refine RC.out.mono ?_; rintro e v0 ⟨p, rfl, hp, hS, hb⟩; have S := hid (show SrcO v0 p (some xs) from hS); have RS := hid (R0.out.keep hb); have HB := hid (gt (ext1 _) hb); simp only [World.size_alloc] at hp; clear hS hb) | (go_at_call 59; refine (I1.out _ _ S.out).mono ?_; rintro e v1 ⟨rfl, hS, hg⟩; clear I1 S; have S := hid hS; have RS := hid (RS.out.grown hg (by omega)); have HB := hid (grown_below HB.out (Nat.le_refl _) hg (by omega)); clear hS hg) | (go_at_call 59; refine (I2.out _ _ S.out).mono ?_; rintro e v2 ⟨rfl, hS, hg⟩; clear I2 S; have S := hid hS; have RS := hid (RS.out.grown hg (by omega)); have HB := hid (grown_below HB.out (Nat.le_refl _) hg (by omega)); clear hS hg) | (go_at_call 59; refine (I3.out _ _ S.out).mono ?_; rintro e v3 ⟨rfl, hS, hg⟩; clear I3 S; have S := hid hS; have RS := hid (RS.out.grown hg (by omega)); have HB := hid (grown_below HB.out (Nat.le_refl _) hg (by omega)); clear hS hg) | (go_at_call 59; refine (I4.out _ _ S.out).mono ?_; rintro e v4 ⟨rfl, hS, hg⟩; clear I4 S; have S := hid hS; have RS := hid (RS.out.grown hg (by omega)); have HB := hid (grown_below HB.out (Nat.le_refl _) hg (by omega)); clear hS hg) | (go_at_call 60; refine (EC.out _ _ S.out).mono ?_; rintro e v5 ⟨rfl, rfl⟩; clear EC S; obtain ⟨x0, x1, x2, x3, x4⟩ := RS.out.c; have f0 := RS.out.fz 0; have f1 := RS.out.fz 1; have f2 := RS.out.fz 2; have f3 := RS.out.fz 3; have f4 := RS.out.fz 4; have hlow := HB.out))
      obtain ⟨z0, z1, z2, z3, z4⟩ := (RS.out.set zeR).c
      simp only [zeR] at z0 z1 z2 z3 z4
      exact bodyPost_ret (v := .tuple #[.agg #[.bool false, .int .i64 0, .int .i64 0, .int .i64 0, .int .i64 0], .int .i64 9]) (by simp [results, Try.results31, go_sem, z0, z1, z2, z3, z4]) rfl ⟨rfl, (by repeat (first | with_reducible exact Below.refl _ _ | with_reducible assumption | with_reducible refine Below.drew ?_ | with_reducible refine below_drewN ?_ _ | with_reducible refine Below.alloc ?_ (by simp <;> omega) _ | with_reducible refine Below.setCell ?_ (by simp <;> omega) _))⟩
    · rw [show ev o4 = 0 by rw [ho4]; exact ev_full (by omega)] at EC
      have eg : getR xs = ⟨false, iv (some xs), iv o2, iv o1, iv o3⟩ := by rw [ho1, ho2, ho3]; rfl
      cases hg : goodR (getR xs) with
      | true =>
        rw [show parseR xs = getR xs by unfold parseR; rw [if_neg h1, if_neg h2, if_pos hg], show parseE xs = 0 by unfold parseE; rw [if_neg h1, if_neg h2, if_pos hg]]
        rw [eg] at hg ⊢
        clear ho1 ho2 ho3 ho4 h1 h2 e1 e2 e3 e4 eg
        generalize iv (some xs) = a1 at *
        generalize iv o1 = a2 at *
        generalize iv o2 = a3 at *
        generalize iv o3 = a4 at *
        have GC := hid (good_v false a1 a3 a2 a4)
        rw [hg] at GC
        clear hg
        go_enter Try.func31, Try.ntmps31
        go_wp2_with (first | (go_at_call 58; refine RC.out.mono ?_; rintro e v0 ⟨p, rfl, hp, hS, hb⟩; have S := hid (show SrcO v0 p (some xs) from hS); have RS := hid (R0.out.keep hb); have HB := hid (gt (ext1 _) hb); simp only [World.size_alloc] at hp; clear hS hb) | (go_at_call 59; refine (I1.out _ _ S.out).mono ?_; rintro e v1 ⟨rfl, hS, hg⟩; clear I1 S; have S := hid hS; have RS := hid (RS.out.grown hg (by omega)); have HB := hid (grown_below HB.out (Nat.le_refl _) hg (by omega)); clear hS hg) | (go_at_call 59; refine (I2.out _ _ S.out).mono ?_; rintro e v2 ⟨rfl, hS, hg⟩; clear I2 S; have S := hid hS; have RS := hid (RS.out.grown hg (by omega)); have HB := hid (grown_below HB.out (Nat.le_refl _) hg (by omega)); clear hS hg) | (go_at_call 59; refine (I3.out _ _ S.out).mono ?_; rintro e v3 ⟨rfl, hS, hg⟩; clear I3 S; have S := hid hS; have RS := hid (RS.out.grown hg (by omega)); have HB := hid (grown_below HB.out (Nat.le_refl _) hg (by omega)); clear hS hg) | (go_at_call 59; refine (I4.out _ _ S.out).mono ?_; rintro e v4 ⟨rfl, hS, hg⟩; clear I4 S; have S := hid hS; have RS := hid (RS.out.grown hg (by omega)); have HB := hid (grown_below HB.out (Nat.le_refl _) hg (by omega)); clear hS hg) | (go_at_call 60; refine (EC.out _ _ S.out).mono ?_; rintro e v5 ⟨rfl, rfl⟩; clear EC S; obtain ⟨x0, x1, x2, x3, x4⟩ := RS.out.c; have f0 := RS.out.fz 0; have f1 := RS.out.fz 1; have f2 := RS.out.fz 2; have f3 := RS.out.fz 3; have f4 := RS.out.fz 4; have hlow := HB.out) | (go_at_call 10; refine (GC.out _).mono ?_; rintro e v6 ⟨rfl, h6⟩; have D := hid ((RS.out.keep (ext1 (.cells #[.bool false, .int .i64 a1, .int .i64 a3, .int .i64 a2, .int .i64 a4] 25))).keep h6); have D2 := hid ((B5.new v4 ⟨false, a1, a3, a2, a4⟩).keep h6); have hlow6 := gt (gt hlow (ext1 _)) h6; clear h6 x0 x1 x2 x3 x4 f0 f1 f2 f3 f4; obtain ⟨x0, x1, x2, x3, x4⟩ := D.out.c; have f0 := D.out.fz 0; have f1 := D.out.fz 1; have f2 := D.out.fz 2; have f3 := D.out.fz 3; have f4 := D.out.fz 4; obtain ⟨y0, y1, y2, y3, y4⟩ := D2.out.c))
        obtain ⟨z0, z1, z2, z3, z4⟩ := (D.out.set ⟨false, a1, a3, a2, a4⟩).c
        simp only at z0 z1 z2 z3 z4
        exact bodyPost_ret (v := .tuple #[.agg #[.bool false, .int .i64 a1, .int .i64 a3, .int .i64 a2, .int .i64 a4], .int .i64 0]) (by simp [results, Try.results31, go_sem, z0, z1, z2, z3, z4]) rfl ⟨rfl, (by repeat (first | with_reducible exact Below.refl _ _ | with_reducible assumption | with_reducible refine Below.drew ?_ | with_reducible refine below_drewN ?_ _ | with_reducible refine Below.alloc ?_ (by simp <;> omega) _ | with_reducible refine Below.setCell ?_ (by simp <;> omega) _))⟩
      | false =>
        rw [show parseR xs = zeR by unfold parseR; rw [if_neg h1, if_neg h2, if_neg (by rw [hg]; decide)], show parseE xs = 9 by unfold parseE; rw [if_neg h1, if_neg h2, if_neg (by rw [hg]; decide)]]
        rw [eg] at hg
        clear ho1 ho2 ho3 ho4 h1 h2 e1 e2 e3 e4 eg
        generalize iv (some xs) = a1 at *
        generalize iv o1 = a2 at *
        generalize iv o2 = a3 at *
        generalize iv o3 = a4 at *
        have GC := hid (good_v false a1 a3 a2 a4)
        rw [hg] at GC
        clear hg
        go_enter Try.func31, Try.ntmps31
        go_wp2_with (first | (go_at_call 58; refine RC.out.mono ?_; rintro e v0 ⟨p, rfl, hp, hS, hb⟩; have S := hid (show SrcO v0 p (some xs) from hS); have RS := hid (R0.out.keep hb); have HB := hid (gt (ext1 _) hb); simp only [World.size_alloc] at hp; clear hS hb) | (go_at_call 59; refine (I1.out _ _ S.out).mono ?_; rintro e v1 ⟨rfl, hS, hg⟩; clear I1 S; have S := hid hS; have RS := hid (RS.out.grown hg (by omega)); have HB := hid (grown_below HB.out (Nat.le_refl _) hg (by omega)); clear hS hg) | (go_at_call 59; refine (I2.out _ _ S.out).mono ?_; rintro e v2 ⟨rfl, hS, hg⟩; clear I2 S; have S := hid hS; have RS := hid (RS.out.grown hg (by omega)); have HB := hid (grown_below HB.out (Nat.le_refl _) hg (by omega)); clear hS hg) | (go_at_call 59; refine (I3.out _ _ S.out).mono ?_; rintro e v3 ⟨rfl, hS, hg⟩; clear I3 S; have S := hid hS; have RS := hid (RS.out.grown hg (by omega)); have HB := hid (grown_below HB.out (Nat.le_refl _) hg (by omega)); clear hS hg) | (go_at_call 59; refine (I4.out _ _ S.out).mono ?_; rintro e v4 ⟨rfl, hS, hg⟩; clear I4 S; have S := hid hS; have RS := hid (RS.out.grown hg (by omega)); have HB := hid (grown_below HB.out (Nat.le_refl _) hg (by omega)); clear hS hg) | (go_at_call 60; refine (EC.out _ _ S.out).mono ?_; rintro e v5 ⟨rfl, rfl⟩; clear EC S; obtain ⟨x0, x1, x2, x3, x4⟩ := RS.out.c; have f0 := RS.out.fz 0; have f1 := RS.out.fz 1; have f2 := RS.out.fz 2; have f3 := RS.out.fz 3; have f4 := RS.out.fz 4; have hlow := HB.out) | (go_at_call 10; refine (GC.out _).mono ?_; rintro e v6 ⟨rfl, h6⟩; have D := hid ((RS.out.keep (ext1 (.cells #[.bool false, .int .i64 a1, .int .i64 a3, .int .i64 a2, .int .i64 a4] 25))).keep h6); have hlow6 := gt (gt hlow (ext1 _)) h6; clear h6 x0 x1 x2 x3 x4 f0 f1 f2 f3 f4; obtain ⟨x0, x1, x2, x3, x4⟩ := D.out.c; have f0 := D.out.fz 0; have f1 := D.out.fz 1; have f2 := D.out.fz 2; have f3 := D.out.fz 3; have f4 := D.out.fz 4))
        obtain ⟨z0, z1, z2, z3, z4⟩ := (D.out.set zeR).c
        simp only [zeR] at z0 z1 z2 z3 z4
        exact bodyPost_ret (v := .tuple #[.agg #[.bool false, .int .i64 0, .int .i64 0, .int .i64 0, .int .i64 0], .int .i64 9]) (by simp [results, Try.results31, go_sem, z0, z1, z2, z3, z4]) rfl ⟨rfl, (by repeat (first | with_reducible exact Below.refl _ _ | with_reducible assumption | with_reducible refine Below.drew ?_ | with_reducible refine below_drewN ?_ _ | with_reducible refine Below.alloc ?_ (by simp <;> omega) _ | with_reducible refine Below.setCell ?_ (by simp <;> omega) _))⟩
end Go.Proofs.Ytjlahomjhadnkaa
namespace Go.Proofs.Ytjlahomjhadnkaa
open Go.RowKit Go.Maps
open Oct (Rd RSrc ob iv psum)

theorem B5.st1 {W : World} {b : Nat} {n : Bool} {c1 c2 c3 c4 : Int} (h : B5 W b ⟨n, c1, c2, c3, c4⟩) (v : Int) : B5 (W.setCell ⟨b, 1, none⟩ (.int .i64 v)) b ⟨n, v, c2, c3, c4⟩ := by
  have h0 := heap_setCell_same W b 1 _ 25 (.int .i64 v) h
  unfold B5
  simpa using h0
theorem B5.st2 {W : World} {b : Nat} {n : Bool} {c1 c2 c3 c4 : Int} (h : B5 W b ⟨n, c1, c2, c3, c4⟩) (v : Int) : B5 (W.setCell ⟨b, 2, none⟩ (.int .i64 v)) b ⟨n, c1, v, c3, c4⟩ := by
  have h0 := heap_setCell_same W b 2 _ 25 (.int .i64 v) h
  unfold B5
  simpa using h0
theorem B5.st3 {W : World} {b : Nat} {n : Bool} {c1 c2 c3 c4 : Int} (h : B5 W b ⟨n, c1, c2, c3, c4⟩) (v : Int) : B5 (W.setCell ⟨b, 3, none⟩ (.int .i64 v)) b ⟨n, c1, c2, v, c4⟩ := by
  have h0 := heap_setCell_same W b 3 _ 25 (.int .i64 v) h
  unfold B5
  simpa using h0
theorem B5.st4 {W : World} {b : Nat} {n : Bool} {c1 c2 c3 c4 : Int} (h : B5 W b ⟨n, c1, c2, c3, c4⟩) (v : Int) : B5 (W.setCell ⟨b, 4, none⟩ (.int .i64 v)) b ⟨n, c1, c2, c3, v⟩ := by
  have h0 := heap_setCell_same W b 4 _ 25 (.int .i64 v) h
  unfold B5
  simpa using h0
/-- A source stays as it is where a box is stored into. -/
theorem rsrc_far {W : World} {p X i : Nat} {xs : List Nat} {r : Rect} {v : Value} (h : RSrc W p xs) (hX : B5 W X r) (hp : p ≠ X) : RSrc (W.setCell ⟨X, i, none⟩ v) p xs := by
  obtain ⟨ao, n, cap, hp', hr, hn, h5⟩ := h
  have hne : ∀ b o, 0 < n → ao = some ⟨b, o, none⟩ → b ≠ X := by
    intro b o h0 e ebx
    obtain ⟨C, m, hb⟩ := h5 h0 b o e
    rw [ebx] at hb
    unfold B5 at hX
    rw [hX] at hb
    simp only [Option.some.injEq, Obj.cells.injEq] at hb
    exact absurd hb.2.1 (by decide)
  have hk : ∀ b, b ≠ X → (W.setCell ⟨X, i, none⟩ v).heap[b]? = W.heap[b]? := fun b hb => heap_setCell_other _ _ _ _ hb
  refine ⟨ao, n, cap, (hk p hp).trans hp', ⟨hr.1, hr.2.1, hr.2.2.1, fun h0 => ?_⟩, hn, fun h0 b o e => ?_⟩
  · obtain ⟨b, off, e, hc⟩ := hr.2.2.2 h0
    exact ⟨b, off, e, fun t ht => (World.cell?_of_block (a := ⟨b, off + t, none⟩) (hk b (hne b off h0 e))).trans (hc t ht)⟩
  · obtain ⟨C, m, hb⟩ := h5 h0 b o e
    exact ⟨C, m, (hk b (hne b o h0 e)).trans hb⟩
theorem rint_iv (p : Nat) (xs : List Nat) (W : World) (h : RSrc W p xs) (hx : ∀ x ∈ xs, x < 256) (h8 : 8 ≤ xs.length) :
    Calls Try.prog 62 #[.pointer (some ⟨p, 0, none⟩), .bool false] W fun e w' => e = .returned (.int .i64 (iv (some xs))) ∧ RSrc w' p (xs.drop 8) ∧ W.grownBy w' (some p) := by
  rw [show iv (some xs) = IntKind.i64.wrap (psum xs 8 false 8 : Nat) by simp [iv, h8]]
  exact Oct.rint_ok p xs W h hx h8

set_option maxRecDepth 100000 in
set_option maxHeartbeats 8000000 in
theorem rparse_call (ao : Option Addr) (n cap : Nat) (xs : List Nat) (w : World) (h : Rd w ao n cap xs) (hx : ∀ x ∈ xs, x < 256) (hn : n ≤ 1000) : Calls Try.prog 32 #[.slice ao n cap] w fun e w' => e = .returned (.tuple #[.agg #[.bool (parseR xs).n, .int .i64 (parseR xs).lx, .int .i64 (parseR xs).ly, .int .i64 (parseR xs).hx, .int .i64 (parseR xs).hy], .int .i64 (parseE xs)]) ∧ Below w.heap.size w w' := by
  have R0 := hid (B5.new w zeR)
  have RC := hid (Oct.rread_ok ao n cap xs (w.alloc (.cells #[.bool false, .int .i64 0, .int .i64 0, .int .i64 0, .int .i64 0] 25)) (h.keep (ext1 _)) (by omega))
  have hl := h.1
  by_cases h1 : xs.length < 32
  · rw [show parseR xs = zeR from if_pos h1, show parseE xs = 8 from if_pos h1]
    have hlt : (n : Int) < 32 := by omega
    clear RC h hx
    go_enter Try.func32, Try.ntmps32
    go_wp2
    exact bodyPost_ret (v := .tuple #[.agg #[.bool false, .int .i64 0, .int .i64 0, .int .i64 0, .int .i64 0], .int .i64 8]) (by simp [results, Try.results32, go_sem]) rfl ⟨rfl, (by repeat (first | with_reducible exact Below.refl _ _ | with_reducible assumption | with_reducible refine Below.drew ?_ | with_reducible refine below_drewN ?_ _ | with_reducible refine Below.alloc ?_ (by simp <;> omega) _ | with_reducible refine Below.setCell ?_ (by simp <;> omega) _))⟩
  · have hlt : ¬ (n : Int) < 32 := by omega
    have I1 := hid (fun p W (h : RSrc W p xs) => rint_iv p xs W h hx (by omega))
    have I2 := hid (fun p W (h : RSrc W p (xs.drop 8)) => rint_iv p (xs.drop 8) W h (fun x hm => hx x (List.mem_of_mem_drop hm)) (by rw [List.length_drop]; omega))
    have I3 := hid (fun p W (h : RSrc W p (xs.drop 16)) => rint_iv p (xs.drop 16) W h (fun x hm => hx x (List.mem_of_mem_drop hm)) (by rw [List.length_drop]; omega))
    have I4 := hid (fun p W (h : RSrc W p (xs.drop 24)) => rint_iv p (xs.drop 24) W h (fun x hm => hx x (List.mem_of_mem_drop hm)) (by rw [List.length_drop]; omega))
    rw [List.drop_drop] at I2 I3 I4
    have eg : getR xs = ⟨false, iv (some xs), iv (some (xs.drop 16)), iv (some (xs.drop 8)), iv (some (xs.drop 24))⟩ := rfl
    clear h hx
    by_cases h2 : 32 < xs.length
    · rw [show parseR xs = zeR by unfold parseR; rw [if_neg h1, if_pos h2], show parseE xs = 9 by unfold parseE; rw [if_neg h1, if_pos h2]]
      have hgt : (32 : Int) < (n : Int) := by omega
      clear h1 h2 hl eg
      generalize iv (some xs) = a1 at *
      generalize iv (some (xs.drop 8)) = a2 at *
      generalize iv (some (xs.drop 16)) = a3 at *
      generalize iv (some (xs.drop 24)) = a4 at *
      go_enter Try.func32, Try.ntmps32
      go_wp2_with (first | (go_at_call 61; refine RC.out.mono ?_; rintro e v0 ⟨p, rfl, hp, hS, hb⟩; simp only [World.size_alloc] at hp; have hpX := (show p < v0.heap.size from by obtain ⟨_, _, _, hh, _⟩ := hS; exact (Array.getElem?_eq_some_iff.1 hh).1); have S := hid (hS.keep (ext1 (.cells #[.bool false, .int .i64 0, .int .i64 0, .int .i64 0, .int .i64 0] 25))); have RS := hid ((R0.out.keep hb).keep (ext1 (.cells #[.bool false, .int .i64 0, .int .i64 0, .int .i64 0, .int .i64 0] 25))); have HB := hid (gt (gt (ext1 _) hb) (ext1 (.cells #[.bool false, .int .i64 0, .int .i64 0, .int .i64 0, .int .i64 0] 25))); have XB := hid (B5.new v0 zeR); obtain ⟨x0, x1, x2, x3, x4⟩ := XB.out.c; have f0 := XB.out.fz 0; have f1 := XB.out.fz 1; have f2 := XB.out.fz 2; have f3 := XB.out.fz 3; have f4 := XB.out.fz 4; clear hS hb) | (go_at_call 62; refine (I1.out _ _ S.out).mono ?_; rintro e v1 ⟨rfl, hS, hg⟩; clear I1 S x0 x1 x2 x3 x4 f0 f1 f2 f3 f4; have X0 := XB.out.grown hg (by omega); clear XB; obtain ⟨x0, x1, x2, x3, x4⟩ := X0.c; have f0 := X0.fz 0; have f1 := X0.fz 1; have f2 := X0.fz 2; have f3 := X0.fz 3; have f4 := X0.fz 4; have XB := hid (X0.st1 a1); have S := hid (rsrc_far (i := 1) (v := .int .i64 a1) hS X0 (by omega)); have RS := hid ((RS.out.grown hg (by omega)).far (show w.heap.size ≠ v0.heap.size by omega) 1 (.int .i64 a1)); have HB := hid (show Below w.heap.size w (v1.setCell ⟨v0.heap.size, 1, none⟩ (.int .i64 a1)) from Below.setCell (grown_below HB.out (Nat.le_refl _) hg (by omega)) (by show w.heap.size ≤ v0.heap.size; omega) _); clear hS hg X0) | (go_at_call 62; refine (I2.out _ _ S.out).mono ?_; rintro e v2 ⟨rfl, hS, hg⟩; clear I2 S x0 x1 x2 x3 x4 f0 f1 f2 f3 f4; have X0 := XB.out.grown hg (by omega); clear XB; obtain ⟨x0, x1, x2, x3, x4⟩ := X0.c; have f0 := X0.fz 0; have f1 := X0.fz 1; have f2 := X0.fz 2; have f3 := X0.fz 3; have f4 := X0.fz 4; have XB := hid (X0.st3 a2); have S := hid (rsrc_far (i := 3) (v := .int .i64 a2) hS X0 (by omega)); have RS := hid ((RS.out.grown hg (by omega)).far (show w.heap.size ≠ v0.heap.size by omega) 3 (.int .i64 a2)); have HB := hid (show Below w.heap.size w (v2.setCell ⟨v0.heap.size, 3, none⟩ (.int .i64 a2)) from Below.setCell (grown_below HB.out (Nat.le_refl _) hg (by omega)) (by show w.heap.size ≤ v0.heap.size; omega) _); clear hS hg X0) | (go_at_call 62; refine (I3.out _ _ S.out).mono ?_; rintro e v3 ⟨rfl, hS, hg⟩; clear I3 S x0 x1 x2 x3 x4 f0 f1 f2 f3 f4; have X0 := XB.out.grown hg (by omega); clear XB; obtain ⟨x0, x1, x2, x3, x4⟩ := X0.c; have f0 := X0.fz 0; have f1 := X0.fz 1; have f2 := X0.fz 2; have f3 := X0.fz 3; have f4 := X0.fz 4; have XB := hid (X0.st2 a3); have S := hid (rsrc_far (i := 2) (v := .int .i64 a3) hS X0 (by omega)); have RS := hid ((RS.out.grown hg (by omega)).far (show w.heap.size ≠ v0.heap.size by omega) 2 (.int .i64 a3)); have HB := hid (show Below w.heap.size w (v3.setCell ⟨v0.heap.size, 2, none⟩ (.int .i64 a3)) from Below.setCell (grown_below HB.out (Nat.le_refl _) hg (by omega)) (by show w.heap.size ≤ v0.heap.size; omega) _); clear hS hg X0) | (go_at_call 62; refine (I4.out _ _ S.out).mono ?_; rintro e v4 ⟨rfl, hS, hg⟩; clear I4 S x0 x1 x2 x3 x4 f0 f1 f2 f3 f4; have X0 := XB.out.grown hg (by omega); clear XB; obtain ⟨x0, x1, x2, x3, x4⟩ := X0.c; have f0 := X0.fz 0; have f1 := X0.fz 1; have f2 := X0.fz 2; have f3 := X0.fz 3; have f4 := X0.fz 4; have XB := hid (X0.st4 a4); have S := hid (rsrc_far (i := 4) (v := .int .i64 a4) hS X0 (by omega)); have RS := hid ((RS.out.grown hg (by omega)).far (show w.heap.size ≠ v0.heap.size by omega) 4 (.int .i64 a4)); have HB := hid (show Below w.heap.size w (v4.setCell ⟨v0.heap.size, 4, none⟩ (.int .i64 a4)) from Below.setCell (grown_below HB.out (Nat.le_refl _) hg (by omega)) (by show w.heap.size ≤ v0.heap.size; omega) _); clear hS hg X0; obtain ⟨u0, u1, u2, u3, u4⟩ := RS.out.c; have g0 := RS.out.fz 0; have g1 := RS.out.fz 1; have g2 := RS.out.fz 2; have g3 := RS.out.fz 3; have g4 := RS.out.fz 4; have hlow := HB.out))
      obtain ⟨z0, z1, z2, z3, z4⟩ := (RS.out.set zeR).c
      simp only [zeR] at z0 z1 z2 z3 z4
      exact bodyPost_ret (v := .tuple #[.agg #[.bool false, .int .i64 0, .int .i64 0, .int .i64 0, .int .i64 0], .int .i64 9]) (by simp [results, Try.results32, go_sem, z0, z1, z2, z3, z4]) rfl ⟨rfl, (by repeat (first | with_reducible exact Below.refl _ _ | with_reducible assumption | with_reducible refine Below.drew ?_ | with_reducible refine below_drewN ?_ _ | with_reducible refine Below.alloc ?_ (by simp <;> omega) _ | with_reducible refine Below.setCell ?_ (by simp <;> omega) _))⟩
    · have hgt : ¬ (32 : Int) < (n : Int) := by omega
      cases hg : goodR (getR xs) with
      | true =>
        rw [show parseR xs = getR xs by unfold parseR; rw [if_neg h1, if_neg h2, if_pos hg], show parseE xs = 0 by unfold parseE; rw [if_neg h1, if_neg h2, if_pos hg]]
        rw [eg] at hg ⊢
        clear h1 h2 hl eg
        generalize iv (some xs) = a1 at *
        generalize iv (some (xs.drop 8)) = a2 at *
        generalize iv (some (xs.drop 16)) = a3 at *
        generalize iv (some (xs.drop 24)) = a4 at *
        have GC := hid (rgood_call ⟨false, a1, a3, a2, a4⟩)
        rw [hg] at GC
        clear hg
        go_enter Try.func32, Try.ntmps32
        go_wp2_with (first | (go_at_call 61; refine RC.out.mono ?_; rintro e v0 ⟨p, rfl, hp, hS, hb⟩; simp only [World.size_alloc] at hp; have hpX := (show p < v0.heap.size from by obtain ⟨_, _, _, hh, _⟩ := hS; exact (Array.getElem?_eq_some_iff.1 hh).1); have S := hid (hS.keep (ext1 (.cells #[.bool false, .int .i64 0, .int .i64 0, .int .i64 0, .int .i64 0] 25))); have RS := hid ((R0.out.keep hb).keep (ext1 (.cells #[.bool false, .int .i64 0, .int .i64 0, .int .i64 0, .int .i64 0] 25))); have HB := hid (gt (gt (ext1 _) hb) (ext1 (.cells #[.bool false, .int .i64 0, .int .i64 0, .int .i64 0, .int .i64 0] 25))); have XB := hid (B5.new v0 zeR); obtain ⟨x0, x1, x2, x3, x4⟩ := XB.out.c; have f0 := XB.out.fz 0; have f1 := XB.out.fz 1; have f2 := XB.out.fz 2; have f3 := XB.out.fz 3; have f4 := XB.out.fz 4; clear hS hb) | (go_at_call 62; refine (I1.out _ _ S.out).mono ?_; rintro e v1 ⟨rfl, hS, hg⟩; clear I1 S x0 x1 x2 x3 x4 f0 f1 f2 f3 f4; have X0 := XB.out.grown hg (by omega); clear XB; obtain ⟨x0, x1, x2, x3, x4⟩ := X0.c; have f0 := X0.fz 0; have f1 := X0.fz 1; have f2 := X0.fz 2; have f3 := X0.fz 3; have f4 := X0.fz 4; have XB := hid (X0.st1 a1); have S := hid (rsrc_far (i := 1) (v := .int .i64 a1) hS X0 (by omega)); have RS := hid ((RS.out.grown hg (by omega)).far (show w.heap.size ≠ v0.heap.size by omega) 1 (.int .i64 a1)); have HB := hid (show Below w.heap.size w (v1.setCell ⟨v0.heap.size, 1, none⟩ (.int .i64 a1)) from Below.setCell (grown_below HB.out (Nat.le_refl _) hg (by omega)) (by show w.heap.size ≤ v0.heap.size; omega) _); clear hS hg X0) | (go_at_call 62; refine (I2.out _ _ S.out).mono ?_; rintro e v2 ⟨rfl, hS, hg⟩; clear I2 S x0 x1 x2 x3 x4 f0 f1 f2 f3 f4; have X0 := XB.out.grown hg (by omega); clear XB; obtain ⟨x0, x1, x2, x3, x4⟩ := X0.c; have f0 := X0.fz 0; have f1 := X0.fz 1; have f2 := X0.fz 2; have f3 := X0.fz 3; have f4 := X0.fz 4; have XB := hid (X0.st3 a2); have S := hid (rsrc_far (i := 3) (v := .int .i64 a2) hS X0 (by omega)); have RS := hid ((RS.out.grown hg (by omega)).far (show w.heap.size ≠ v0.heap.size by omega) 3 (.int .i64 a2)); have HB := hid (show Below w.heap.size w (v2.setCell ⟨v0.heap.size, 3, none⟩ (.int .i64 a2)) from Below.setCell (grown_below HB.out (Nat.le_refl _) hg (by omega)) (by show w.heap.size ≤ v0.heap.size; omega) _); clear hS hg X0) | (go_at_call 62; refine (I3.out _ _ S.out).mono ?_; rintro e v3 ⟨rfl, hS, hg⟩; clear I3 S x0 x1 x2 x3 x4 f0 f1 f2 f3 f4; have X0 := XB.out.grown hg (by omega); clear XB; obtain ⟨x0, x1, x2, x3, x4⟩ := X0.c; have f0 := X0.fz 0; have f1 := X0.fz 1; have f2 := X0.fz 2; have f3 := X0.fz 3; have f4 := X0.fz 4; have XB := hid (X0.st2 a3); have S := hid (rsrc_far (i := 2) (v := .int .i64 a3) hS X0 (by omega)); have RS := hid ((RS.out.grown hg (by omega)).far (show w.heap.size ≠ v0.heap.size by omega) 2 (.int .i64 a3)); have HB := hid (show Below w.heap.size w (v3.setCell ⟨v0.heap.size, 2, none⟩ (.int .i64 a3)) from Below.setCell (grown_below HB.out (Nat.le_refl _) hg (by omega)) (by show w.heap.size ≤ v0.heap.size; omega) _); clear hS hg X0) | (go_at_call 62; refine (I4.out _ _ S.out).mono ?_; rintro e v4 ⟨rfl, hS, hg⟩; clear I4 S x0 x1 x2 x3 x4 f0 f1 f2 f3 f4; have X0 := XB.out.grown hg (by omega); clear XB; obtain ⟨x0, x1, x2, x3, x4⟩ := X0.c; have f0 := X0.fz 0; have f1 := X0.fz 1; have f2 := X0.fz 2; have f3 := X0.fz 3; have f4 := X0.fz 4; have XB := hid (X0.st4 a4); have S := hid (rsrc_far (i := 4) (v := .int .i64 a4) hS X0 (by omega)); have RS := hid ((RS.out.grown hg (by omega)).far (show w.heap.size ≠ v0.heap.size by omega) 4 (.int .i64 a4)); have HB := hid (show Below w.heap.size w (v4.setCell ⟨v0.heap.size, 4, none⟩ (.int .i64 a4)) from Below.setCell (grown_below HB.out (Nat.le_refl _) hg (by omega)) (by show w.heap.size ≤ v0.heap.size; omega) _); clear hS hg X0) | (go_at_call 11; refine (GC.out _).mono ?_; rintro e v6 ⟨rfl, h6⟩; have X6 := XB.out.keep h6; have R6 := hid (RS.out.keep h6); have hlow := gt HB.out h6; clear h6 x0 x1 x2 x3 x4 f0 f1 f2 f3 f4; obtain ⟨x0, x1, x2, x3, x4⟩ := X6.c; obtain ⟨u0, u1, u2, u3, u4⟩ := R6.out.c; have g0 := R6.out.fz 0; have g1 := R6.out.fz 1; have g2 := R6.out.fz 2; have g3 := R6.out.fz 3; have g4 := R6.out.fz 4))
        obtain ⟨z0, z1, z2, z3, z4⟩ := (R6.out.set ⟨false, a1, a3, a2, a4⟩).c
        simp only at z0 z1 z2 z3 z4
        exact bodyPost_ret (v := .tuple #[.agg #[.bool false, .int .i64 a1, .int .i64 a3, .int .i64 a2, .int .i64 a4], .int .i64 0]) (by simp [results, Try.results32, go_sem, z0, z1, z2, z3, z4]) rfl ⟨rfl, (by repeat (first | with_reducible exact Below.refl _ _ | with_reducible assumption | with_reducible refine Below.drew ?_ | with_reducible refine below_drewN ?_ _ | with_reducible refine Below.alloc ?_ (by simp <;> omega) _ | with_reducible refine Below.setCell ?_ (by simp <;> omega) _))⟩
      | false =>
        rw [show parseR xs = zeR by unfold parseR; rw [if_neg h1, if_neg h2, if_neg (by rw [hg]; decide)], show parseE xs = 9 by unfold parseE; rw [if_neg h1, if_neg h2, if_neg (by rw [hg]; decide)]]
        rw [eg] at hg
        clear h1 h2 hl eg
        generalize iv (some xs) = a1 at *
        generalize iv (some (xs.drop 8)) = a2 at *
        generalize iv (some (xs.drop 16)) = a3 at *
        generalize iv (some (xs.drop 24)) = a4 at *
        have GC := hid (rgood_call ⟨false, a1, a3, a2, a4⟩)
        rw [hg] at GC
        clear hg
        go_enter Try.func32, Try.ntmps32
        go_wp2_with (first | (go_at_call 61; refine RC.out.mono ?_; rintro e v0 ⟨p, rfl, hp, hS, hb⟩; simp only [World.size_alloc] at hp; have hpX := (show p < v0.heap.size from by obtain ⟨_, _, _, hh, _⟩ := hS; exact (Array.getElem?_eq_some_iff.1 hh).1); have S := hid (hS.keep (ext1 (.cells #[.bool false, .int .i64 0, .int .i64 0, .int .i64 0, .int .i64 0] 25))); have RS := hid ((R0.out.keep hb).keep (ext1 (.cells #[.bool false, .int .i64 0, .int .i64 0, .int .i64 0, .int .i64 0] 25))); have HB := hid (gt (gt (ext1 _) hb) (ext1 (.cells #[.bool false, .int .i64 0, .int .i64 0, .int .i64 0, .int .i64 0] 25))); have XB := hid (B5.new v0 zeR); obtain ⟨x0, x1, x2, x3, x4⟩ := XB.out.c; have f0 := XB.out.fz 0; have f1 := XB.out.fz 1; have f2 := XB.out.fz 2; have f3 := XB.out.fz 3; have f4 := XB.out.fz 4; clear hS hb) | (go_at_call 62; refine (I1.out _ _ S.out).mono ?_; rintro e v1 ⟨rfl, hS, hg⟩; clear I1 S x0 x1 x2 x3 x4 f0 f1 f2 f3 f4; have X0 := XB.out.grown hg (by omega); clear XB; obtain ⟨x0, x1, x2, x3, x4⟩ := X0.c; have f0 := X0.fz 0; have f1 := X0.fz 1; have f2 := X0.fz 2; have f3 := X0.fz 3; have f4 := X0.fz 4; have XB := hid (X0.st1 a1); have S := hid (rsrc_far (i := 1) (v := .int .i64 a1) hS X0 (by omega)); have RS := hid ((RS.out.grown hg (by omega)).far (show w.heap.size ≠ v0.heap.size by omega) 1 (.int .i64 a1)); have HB := hid (show Below w.heap.size w (v1.setCell ⟨v0.heap.size, 1, none⟩ (.int .i64 a1)) from Below.setCell (grown_below HB.out (Nat.le_refl _) hg (by omega)) (by show w.heap.size ≤ v0.heap.size; omega) _); clear hS hg X0) | (go_at_call 62; refine (I2.out _ _ S.out).mono ?_; rintro e v2 ⟨rfl, hS, hg⟩; clear I2 S x0 x1 x2 x3 x4 f0 f1 f2 f3 f4; have X0 := XB.out.grown hg (by omega); clear XB; obtain ⟨x0, x1, x2, x3, x4⟩ := X0.c; have f0 := X0.fz 0; have f1 := X0.fz 1; have f2 := X0.fz 2; have f3 := X0.fz 3; have f4 := X0.fz 4; have XB := hid (X0.st3 a2); have S := hid (rsrc_far (i := 3) (v := .int .i64 a2) hS X0 (by omega)); have RS := hid ((RS.out.grown hg (by omega)).far (show w.heap.size ≠ v0.heap.size by omega) 3 (.int .i64 a2)); have HB := hid (show Below w.heap.size w (v2.setCell ⟨v0.heap.size, 3, none⟩ (.int .i64 a2)) from Below.setCell (grown_below HB.out (Nat.le_refl _) hg (by omega)) (by show w.heap.size ≤ v0.heap.size; omega) _); clear hS hg X0) | (go_at_call 62; refine (I3.out _ _ S.out).mono ?_; rintro e v3 ⟨rfl, hS, hg⟩; clear I3 S x0 x1 x2 x3 x4 f0 f1 f2 f3 f4; have X0 := XB.out.grown hg (by omega); clear XB; obtain ⟨x0, x1, x2, x3, x4⟩ := X0.c; have f0 := X0.fz 0; have f1 := X0.fz 1; have f2 := X0.fz 2; have f3 := X0.fz 3; have f4 := X0.fz 4; have XB := hid (X0.st2 a3); have S := hid (rsrc_far (i := 2) (v := .int .i64 a3) hS X0 (by omega)); have RS := hid ((RS.out.grown hg (by omega)).far (show w.heap.size ≠ v0.heap.size by omega) 2 (.int .i64 a3)); have HB := hid (show Below w.heap.size w (v3.setCell ⟨v0.heap.size, 2, none⟩ (.int .i64 a3)) from Below.setCell (grown_below HB.out (Nat.le_refl _) hg (by omega)) (by show w.heap.size ≤ v0.heap.size; omega) _); clear hS hg X0) | (go_at_call 62; refine (I4.out _ _ S.out).mono ?_; rintro e v4 ⟨rfl, hS, hg⟩; clear I4 S x0 x1 x2 x3 x4 f0 f1 f2 f3 f4; have X0 := XB.out.grown hg (by omega); clear XB; obtain ⟨x0, x1, x2, x3, x4⟩ := X0.c; have f0 := X0.fz 0; have f1 := X0.fz 1; have f2 := X0.fz 2; have f3 := X0.fz 3; have f4 := X0.fz 4; have XB := hid (X0.st4 a4); have S := hid (rsrc_far (i := 4) (v := .int .i64 a4) hS X0 (by omega)); have RS := hid ((RS.out.grown hg (by omega)).far (show w.heap.size ≠ v0.heap.size by omega) 4 (.int .i64 a4)); have HB := hid (show Below w.heap.size w (v4.setCell ⟨v0.heap.size, 4, none⟩ (.int .i64 a4)) from Below.setCell (grown_below HB.out (Nat.le_refl _) hg (by omega)) (by show w.heap.size ≤ v0.heap.size; omega) _); clear hS hg X0) | (go_at_call 11; refine (GC.out _).mono ?_; rintro e v6 ⟨rfl, h6⟩; have X6 := XB.out.keep h6; have R6 := hid (RS.out.keep h6); have hlow := gt HB.out h6; clear h6 x0 x1 x2 x3 x4 f0 f1 f2 f3 f4; obtain ⟨x0, x1, x2, x3, x4⟩ := X6.c; obtain ⟨u0, u1, u2, u3, u4⟩ := R6.out.c; have g0 := R6.out.fz 0; have g1 := R6.out.fz 1; have g2 := R6.out.fz 2; have g3 := R6.out.fz 3; have g4 := R6.out.fz 4))
        obtain ⟨z0, z1, z2, z3, z4⟩ := (R6.out.set zeR).c
        simp only [zeR] at z0 z1 z2 z3 z4
        exact bodyPost_ret (v := .tuple #[.agg #[.bool false, .int .i64 0, .int .i64 0, .int .i64 0, .int .i64 0], .int .i64 9]) (by simp [results, Try.results32, go_sem, z0, z1, z2, z3, z4]) rfl ⟨rfl, (by repeat (first | with_reducible exact Below.refl _ _ | with_reducible assumption | with_reducible refine Below.drew ?_ | with_reducible refine below_drewN ?_ _ | with_reducible refine Below.alloc ?_ (by simp <;> omega) _ | with_reducible refine Below.setCell ?_ (by simp <;> omega) _))⟩
end Go.Proofs.Ytjlahomjhadnkaa
namespace Go.Proofs.Ytjlahomjhadnkaa
open Go.RowKit Go.Maps
open Oct (Rd putN bs)

/-- An ordinate as a number of eight bytes. -/
def uz (z : Int) : Nat := (z % 18446744073709551616).toNat
theorem uz_lt (z : Int) : uz z < 18446744073709551616 := by unfold uz; omega
def ords (r : Rect) : List Int := [r.lx, r.hx, r.ly, r.hy]
def bytesK (r : Rect) (k : Nat) : List Nat := ((ords r).take k).flatMap fun z => putN (uz z) 8 false
def bytesR (r : Rect) : List Nat := if hasR r then bytesK r 4 else []
theorem bytesK_snoc (r : Rect) (k : Nat) (z : Int) (h : (ords r)[k]? = some z) : bytesK r (k + 1) = bytesK r k ++ putN (uz z) 8 false := by
  unfold bytesK
  rw [List.take_add_one, h]
  simp
theorem ix_ord (r : Rect) (k : Nat) (h : k < 4) : ∃ z, (ords r)[k]? = some z ∧ ∀ W, (Instr.index 84 (.agg #[.int .i64 r.lx, .int .i64 r.hx, .int .i64 r.ly, .int .i64 r.hy]) (.int .i64 (k : Int))).run Try.prog W = .ok (.int .i64 z) W := by
  obtain rfl | rfl | rfl | rfl : k = 0 ∨ k = 1 ∨ k = 2 ∨ k = 3 := by omega
  · exact ⟨r.lx, rfl, fun W => by kernel_rfl⟩
  · exact ⟨r.hx, rfl, fun W => by kernel_rfl⟩
  · exact ⟨r.ly, rfl, fun W => by kernel_rfl⟩
  · exact ⟨r.hy, rfl, fun W => by kernel_rfl⟩
theorem cv_u (z : Int) (W : World) : (convert 3 26 (.int .i64 z)).run Try.prog W = .ok (.int .u64 ((uz z : Nat) : Int)) W := by
  rw [show ((uz z : Nat) : Int) = IntKind.u64.wrap z by rw [IntKind.wrap_u64]; unfold uz; omega]
  kernel_rfl
theorem putb (ao : Option Addr) (n c : Nat) (xs : List Nat) (z : Int) (W : World) (h : Rd W ao n c xs) (hn : n ≤ 100) : Calls Try.prog 63 #[.slice ao n c, .int .u64 ((uz z : Nat) : Int), .int .i64 8, .bool false] W fun e w' => ∃ ao' c', e = .returned (.slice ao' (n + 8) c') ∧ Rd w' ao' (n + 8) c' (xs ++ putN (uz z) 8 false) ∧ Below W.heap.size W w' :=
  (Oct.put_any ao n c xs (uz z) 8 8 false W h (by omega) (by omega) (by omega)).mono fun _ _ ⟨h1, h2, h3⟩ => ⟨_, _, h1, Oct.rd_own h2, h3⟩
theorem rputb (ao : Option Addr) (n c : Nat) (xs : List Nat) (z : Int) (W : World) (h : Rd W ao n c xs) (hn : n ≤ 100) : Calls Try.prog 64 #[.slice ao n c, .int .u64 ((uz z : Nat) : Int), .int .i64 8, .bool false] W fun e w' => ∃ ao' c', e = .returned (.slice ao' (n + 8) c') ∧ Rd w' ao' (n + 8) c' (xs ++ putN (uz z) 8 false) ∧ Below W.heap.size W w' :=
  (Oct.rput_any ao n c xs (uz z) 8 8 false W h (by omega) (by omega)).mono fun _ _ ⟨r, h1, h2, h3⟩ => by
    obtain ⟨ao', c', rfl, hr⟩ := Oct.rd_owned h2
    exact ⟨_, _, h1, hr, h3⟩

set_option maxRecDepth 100000 in
set_option maxHeartbeats 4000000 in
theorem bytes_call (r : Rect) (w : World) : Calls Try.prog 33 #[.agg #[.bool (r).n, .int .i64 (r).lx, .int .i64 (r).ly, .int .i64 (r).hx, .int .i64 (r).hy]] w fun e w' => ∃ ao c, e = .returned (.slice ao (bytesR r).length c) ∧ Rd w' ao (bytesR r).length c (bytesR r) ∧ Below w.heap.size w w' := by
  have D0 := hid (B5.new w r)
  have OC := hid (orNone_call r)
  have NC := hid none_call
  cases hr : hasR r with
  | false =>
    rw [show bytesR r = [] by unfold bytesR; rw [hr]; rfl]
    rw [or_hasn hr] at OC
    have PE : ∀ W, (binOp .eql 25 (.agg #[.bool (noR).n, .int .i64 (noR).lx, .int .i64 (noR).ly, .int .i64 (noR).hx, .int .i64 (noR).hy]) (.agg #[.bool true, .int .i64 0, .int .i64 0, .int .i64 0, .int .i64 0])).run Try.prog W = .ok (.bool true) W := fun W => box_eql noR noR W
    clear hr
    go_enter Try.func33, Try.ntmps33
    go_wp2_with (first | (go_at_call 43; refine (OC.out _).mono ?_; rintro e v1 ⟨rfl, h1⟩; have hlow1 := gt (ext1 _) h1; have D1 := hid (D0.out.keep h1); clear h1) | (go_at_call 36; refine (NC.out _).mono ?_; rintro e v2 ⟨rfl, h2⟩; have hlow := gt hlow1 h2; have D := hid (D1.out.keep h2); clear h2; obtain ⟨x0, x1, x2, x3, x4⟩ := D.out.c))
    go_ret
    exact ⟨none, 0, rfl, Oct.Rd.nil _, hlow⟩
  | true =>
    rw [show bytesR r = bytesK r 4 by unfold bytesR; rw [hr]; rfl, show (bytesK r 4).length = 32 by unfold bytesK ords; simp [Oct.putN, Oct.up_length]]
    rw [or_has' hr] at OC
    have PE : ∀ W, (binOp .eql 25 (.agg #[.bool (r).n, .int .i64 (r).lx, .int .i64 (r).ly, .int .i64 (r).hx, .int .i64 (r).hy]) (.agg #[.bool true, .int .i64 0, .int .i64 0, .int .i64 0, .int .i64 0])).run Try.prog W = .ok (.bool false) W := fun W => (box_eql r noR W).trans (by rw [eqR_false.2 (fun e => by have := has_n hr; rw [e] at this; cases this)])
    clear hr
    go_enter Try.func33, Try.ntmps33
    go_wp2_with (first | (go_at_call 43; refine (OC.out _).mono ?_; rintro e v1 ⟨rfl, h1⟩; have hlow1 := gt (ext1 _) h1; have D1 := hid (D0.out.keep h1); clear h1) | (go_at_call 36; refine (NC.out _).mono ?_; rintro e v2 ⟨rfl, h2⟩; have hlow := gt hlow1 h2; have D := hid (D1.out.keep h2); clear h2; obtain ⟨x0, x1, x2, x3, x4⟩ := D.out.c))
    go_loopw [3, 23] (fun v i W => ∃ (k : Nat) (ao : Option Addr) (c : Nat), k ≤ 4 ∧ i = .int .i64 (k : Int) ∧ v = .slice ao (8 * k) c ∧ Hid (Rd W ao (8 * k) c (bytesK r k)) ∧ Hid (Below w.heap.size w W)) (fun _ i _ => 4 - (intOf i).toNat)
    case atStart => exact ⟨0, none, 0, by omega, rfl, rfl, hid (Oct.Rd.nil _), hid hlow⟩
    case round =>
      obtain ⟨k, ao, c, hk, rfl, rfl, hR, hb⟩ := hrel
      by_cases hk4 : k < 4
      · obtain ⟨z, hz, IX⟩ := ix_ord r k hk4
        have CV := cv_u z
        have PC := hid (fun W' (hr : Rd W' ao (8 * k) c (bytesK r k)) => putb ao (8 * k) c (bytesK r k) z W' hr (by omega))
        have SN := hid (bytesK_snoc r k z hz)
        clear hz
        generalize uz z = u at *
        go_wp2_with (go_at_call 63; refine (PC.out _ hR.out).mono ?_; rintro e w7 ⟨ao', c', rfl, hr7, h7⟩; have R7 := hid hr7; have B7 := hid (gt hb.out h7); clear hr7 h7)
        go_roundw
        case measure => simp [intOf]; omega
        case rel => exact ⟨k + 1, ao', c', by omega, by go_num, rfl, hid (by rw [SN.out]; exact R7.out), B7⟩
      · obtain rfl : k = 4 := by omega
        go_wp2
        go_ret
        exact ⟨_, _, rfl, hR.out, hb.out⟩
set_option maxRecDepth 100000 in
set_option maxHeartbeats 4000000 in
theorem rbytes_call (r : Rect) (w : World) : Calls Try.prog 34 #[.agg #[.bool (r).n, .int .i64 (r).lx, .int .i64 (r).ly, .int .i64 (r).hx, .int .i64 (r).hy]] w fun e w' => ∃ ao c, e = .returned (.slice ao (bytesR r).length c) ∧ Rd w' ao (bytesR r).length c (bytesR r) ∧ Below w.heap.size w w' := by
  have D0 := hid (B5.new w r)
  have HC := hid (rhas_call r)
  cases hr : hasR r with
  | false =>
    rw [show bytesR r = [] by unfold bytesR; rw [hr]; rfl]
    rw [hr] at HC
    clear hr
    go_enter Try.func34, Try.ntmps34
    go_wp2_with (go_at_call 46; refine (HC.out _).mono ?_; rintro e v1 ⟨rfl, h1⟩; have hlow := gt (ext1 _) h1; have D := hid (D0.out.keep h1); clear h1; obtain ⟨x0, x1, x2, x3, x4⟩ := D.out.c)
    go_ret
    exact ⟨none, 0, rfl, Oct.Rd.nil _, hlow⟩
  | true =>
    rw [show bytesR r = bytesK r 4 by unfold bytesR; rw [hr]; rfl, show (bytesK r 4).length = 32 by unfold bytesK ords; simp [Oct.putN, Oct.up_length]]
    rw [hr] at HC
    clear hr
    go_enter Try.func34, Try.ntmps34
    go_wp2_with (go_at_call 46; refine (HC.out _).mono ?_; rintro e v1 ⟨rfl, h1⟩; have hlow := gt (ext1 _) h1; have D := hid (D0.out.keep h1); clear h1; obtain ⟨x0, x1, x2, x3, x4⟩ := D.out.c)
    go_loopw [3, 22] (fun v i W => ∃ (k : Nat) (ao : Option Addr) (c : Nat), k ≤ 4 ∧ i = .int .i64 (k : Int) ∧ v = .slice ao (8 * k) c ∧ Hid (Rd W ao (8 * k) c (bytesK r k)) ∧ Hid (Below w.heap.size w W)) (fun _ i _ => 4 - (intOf i).toNat)
    case atStart => exact ⟨0, none, 0, by omega, rfl, rfl, hid (Oct.Rd.nil _), hid hlow⟩
    case round =>
      obtain ⟨k, ao, c, hk, rfl, rfl, hR, hb⟩ := hrel
      by_cases hk4 : k < 4
      · obtain ⟨z, hz, IX⟩ := ix_ord r k hk4
        have CV := cv_u z
        have PC := hid (fun W' (hr : Rd W' ao (8 * k) c (bytesK r k)) => rputb ao (8 * k) c (bytesK r k) z W' hr (by omega))
        have SN := hid (bytesK_snoc r k z hz)
        clear hz
        generalize uz z = u at *
        go_wp2_with (go_at_call 64; refine (PC.out _ hR.out).mono ?_; rintro e w7 ⟨ao', c', rfl, hr7, h7⟩; have R7 := hid hr7; have B7 := hid (gt hb.out h7); clear hr7 h7)
        go_roundw
        case measure => simp [intOf]; omega
        case rel => exact ⟨k + 1, ao', c', by omega, by go_num, rfl, hid (by rw [SN.out]; exact R7.out), B7⟩
      · obtain rfl : k = 4 := by omega
        go_wp2
        go_ret
        exact ⟨_, _, rfl, hR.out, hb.out⟩
end Go.Proofs.Ytjlahomjhadnkaa
namespace Go.Proofs.Ytjlahomjhadnkaa
open Go.RowKit Go.Maps
open Oct (Rd putN iv psum)

theorem psum_put8 (v : Nat) (hv : v < 18446744073709551616) (r : List Nat) : psum (putN v 8 false ++ r) 8 false 8 = v := by
  simp [Oct.psum, Oct.putN, Oct.up, Oct.place]
  omega
theorem putN_len (v s : Nat) (l : Bool) : (putN v s l).length = s := Oct.up_length _ _ _
theorem up_by (F : Nat → Nat) (hF : ∀ i, F i < 256) (i k : Nat) : ∀ x ∈ Oct.up F i k, x < 256 := by
  induction k generalizing i with
  | zero => intro x h; simp [Oct.up] at h
  | succ k ih =>
    intro x h
    simp only [Oct.up, List.mem_cons] at h
    rcases h with rfl | h
    · exact hF i
    · exact ih _ x h
theorem wrap_uz (z : Int) (h : -9223372036854775808 ≤ z ∧ z ≤ 9223372036854775807) : IntKind.i64.wrap ((uz z : Nat) : Int) = z := by
  rw [IntKind.wrap_i64]
  unfold uz
  omega
theorem iv_put (z : Int) (h : -9223372036854775808 ≤ z ∧ z ≤ 9223372036854775807) (r : List Nat) : iv (some (putN (uz z) 8 false ++ r)) = z := by
  rw [show iv (some (putN (uz z) 8 false ++ r)) = IntKind.i64.wrap (psum (putN (uz z) 8 false ++ r) 8 false 8 : Nat) by simp [Oct.iv, putN_len], psum_put8 _ (uz_lt z), wrap_uz z h]
theorem drop_put (v : Nat) (r : List Nat) : (putN v 8 false ++ r).drop 8 = r := by
  rw [List.drop_append, putN_len, List.drop_eq_nil_of_le (by rw [putN_len]; omega)]
  simp
theorem bytesK4 (r : Rect) : bytesK r 4 = putN (uz r.lx) 8 false ++ (putN (uz r.hx) 8 false ++ (putN (uz r.ly) 8 false ++ (putN (uz r.hy) 8 false ++ []))) := by
  unfold bytesK ords
  simp
theorem bytes_by (r : Rect) : ∀ x ∈ bytesR r, x < 256 := by
  intro x hx
  unfold bytesR at hx
  split at hx
  · unfold bytesK at hx
    obtain ⟨z, _, hz⟩ := List.mem_flatMap.1 hx
    exact up_by _ (fun _ => by omega) _ _ x hz
  · cases hx
theorem get_bytes (r : Rect) (h : Bd r) (hn : r.n = false) : getR (bytesK r 4) = r := by
  obtain ⟨h1, h2, h3, h4⟩ := h
  have e8 : (bytesK r 4).drop 8 = putN (uz r.hx) 8 false ++ (putN (uz r.ly) 8 false ++ (putN (uz r.hy) 8 false ++ [])) := by rw [bytesK4, drop_put]
  have e16 : (bytesK r 4).drop 16 = putN (uz r.ly) 8 false ++ (putN (uz r.hy) 8 false ++ []) := by
    rw [show (16 : Nat) = 8 + 8 from rfl, ← List.drop_drop, e8, drop_put]
  have e24 : (bytesK r 4).drop 24 = putN (uz r.hy) 8 false ++ [] := by
    rw [show (24 : Nat) = 16 + 8 from rfl, ← List.drop_drop, e16, drop_put]
  unfold getR
  rw [e8, e16, e24, bytesK4, iv_put _ h1, iv_put _ h2, iv_put _ h3, iv_put _ h4]
  obtain ⟨n, a, b, c, d⟩ := r
  simp only at hn
  subst hn
  rfl
theorem bytes_len (r : Rect) : (bytesK r 4).length = 32 := by rw [bytesK4]; simp [putN_len]
theorem back_r (r : Rect) (h : Bd r) (hh : hasR r = true) : parseR (bytesK r 4) = r ∧ parseE (bytesK r 4) = 0 := by
  have hl := bytes_len r
  have hg := get_bytes r h (has_n hh)
  have hgood : goodR r = true := by unfold hasR at hh; simp at hh; exact hh.1
  have e1 : ¬ (bytesK r 4).length < 32 := by omega
  have e2 : ¬ 32 < (bytesK r 4).length := by omega
  constructor
  · unfold parseR
    rw [if_neg e1, if_neg e2, hg, if_pos hgood]
  · unfold parseE
    rw [if_neg e1, if_neg e2, hg, if_pos hgood]
theorem box_neq (a b : Rect) (W : World) : (binOp .neq 25 (.agg #[.bool (a).n, .int .i64 (a).lx, .int .i64 (a).ly, .int .i64 (a).hx, .int .i64 (a).hy]) (.agg #[.bool (b).n, .int .i64 (b).lx, .int .i64 (b).ly, .int .i64 (b).hx, .int .i64 (b).hy])).run Try.prog W = .ok (.bool (!(eqR a b))) W := by
  rw [run_neq_struct, box_eqlIn]; rfl
end Go.Proofs.Ytjlahomjhadnkaa
namespace Go.Proofs.Ytjlahomjhadnkaa
open Go.RowKit Go.Maps
open Oct (Rd)

set_option maxRecDepth 100000 in
set_option maxHeartbeats 8000000 in
theorem bbytes_law (b : Rect) (hb : Bd b) (ao : Option Addr) (n cap : Nat) (xs : List Nat) (w : World) (h : Rd w ao n cap xs) (hx : ∀ x ∈ xs, x < 256) : Calls Try.prog 5 #[.agg #[.bool (b).n, .int .i64 (b).lx, .int .i64 (b).ly, .int .i64 (b).hx, .int .i64 (b).hy], .slice ao n cap] w fun e w' => e = .returned (.bool true) ∧ Below w.heap.size w w' := by
  have LC := hid lives_call
  by_cases h2 : 200 < n
  · have hgt : (200 : Int) < (n : Int) := by omega
    clear h hx
    go_enter Try.func5, Try.ntmps5
    go_wp2_with (go_at_call 25; refine (LC.out _).mono ?_; rintro e v1 ⟨rfl, h1⟩; have hlow := gt (ext1 _) h1; clear h1)
    go_ret
    exact ⟨rfl, hlow⟩
  · have hgt : ¬ (200 : Int) < (n : Int) := by omega
    have PC := hid (fun W (hr : Rd W ao n cap xs) => parse_call ao n cap xs W hr hx (by omega))
    have QC := hid (fun W (hr : Rd W ao n cap xs) => rparse_call ao n cap xs W hr hx (by omega))
    have BC := hid (bytes_call b)
    have DC := hid (rbytes_call b)
    have X0 := hid (h.keep (ext1 (.cells #[.bool (b).n, .int .i64 (b).lx, .int .i64 (b).ly, .int .i64 (b).hx, .int .i64 (b).hy] 25)))
    have A0 := hid (show C5 (w.alloc (.cells #[.bool (b).n, .int .i64 (b).lx, .int .i64 (b).ly, .int .i64 (b).hx, .int .i64 (b).hy] 25)) w.heap.size b from C5.of (heap_alloc_new _ _))
    have PN := fun W => (box_neq (parseR xs) (parseR xs) W).trans (by rw [eqR_iff.2 rfl])
    generalize parseR xs = R at *
    generalize parseE xs = ee at *
    clear h hx h2
    cases hh : hasR b with
    | false =>
      rw [show bytesR b = [] by unfold bytesR; rw [hh]; rfl, show ([] : List Nat).length = 0 from rfl] at BC DC
      obtain ⟨ys, hys⟩ : ∃ ys : List Nat, ys = [] := ⟨_, rfl⟩
      rw [← hys] at BC DC
      have h0 : (((0 : Nat) : Int) == 0) = true := rfl
      clear hys hh
      go_enter Try.func5, Try.ntmps5
      go_wp2_with (first | (go_at_call 31; refine (PC.out _ X0.out).mono ?_; rintro e v1 ⟨rfl, h1⟩; have X1 := hid ((X0.out.keep h1).keep (ext1 (.cells #[.bool (R).n, .int .i64 (R).lx, .int .i64 (R).ly, .int .i64 (R).hx, .int .i64 (R).hy] 25))); have A1 := hid ((A0.out.keep h1).keep (ext1 (.cells #[.bool (R).n, .int .i64 (R).lx, .int .i64 (R).ly, .int .i64 (R).hx, .int .i64 (R).hy] 25))); have P1 := hid (show C5 (v1.alloc (.cells #[.bool (R).n, .int .i64 (R).lx, .int .i64 (R).ly, .int .i64 (R).hx, .int .i64 (R).hy] 25)) v1.heap.size R from C5.of (heap_alloc_new _ _)); have L1 := hid (gt (gt (ext1 _) h1) (ext1 (.cells #[.bool (R).n, .int .i64 (R).lx, .int .i64 (R).ly, .int .i64 (R).hx, .int .i64 (R).hy] 25))); clear h1 PC X0 A0) | (go_at_call 32; refine (QC.out _ X1.out).mono ?_; rintro e v2 ⟨rfl, h2⟩; have A2 := hid ((A1.out.keep h2).keep (ext1 (.cells #[.bool (R).n, .int .i64 (R).lx, .int .i64 (R).ly, .int .i64 (R).hx, .int .i64 (R).hy] 25))); have P1 := hid ((P1.out.keep h2).keep (ext1 (.cells #[.bool (R).n, .int .i64 (R).lx, .int .i64 (R).ly, .int .i64 (R).hx, .int .i64 (R).hy] 25))); have P2 := hid (show C5 (v2.alloc (.cells #[.bool (R).n, .int .i64 (R).lx, .int .i64 (R).ly, .int .i64 (R).hx, .int .i64 (R).hy] 25)) v2.heap.size R from C5.of (heap_alloc_new _ _)); have L2 := hid (gt (gt L1.out h2) (ext1 (.cells #[.bool (R).n, .int .i64 (R).lx, .int .i64 (R).ly, .int .i64 (R).hx, .int .i64 (R).hy] 25))); clear h2 QC X1 A1 L1; obtain ⟨y0, y1, y2, y3, y4⟩ := A2.out) | (go_at_call 33; refine (BC.out _).mono ?_; rintro e v3 ⟨a1, c1, rfl, r3, h3⟩; have F := hid (show (fun W : World => C5 W (w.heap.size) b ∧ C5 W (v1.heap.size) R ∧ C5 W (v2.heap.size) R ∧ Oct.Rd W a1 0 c1 ys ∧ Below w.heap.size w W) v3 from ⟨A2.out.keep h3, P1.out.keep h3, P2.out.keep h3, r3, gt L2.out h3⟩); clear h3 r3 y0 y1 y2 y3 y4 A2 P1 P2 L2; have hlow := F.out.2.2.2.2))
      refine wp_region_K (S := (fun W : World => C5 W (w.heap.size) b ∧ C5 W (v1.heap.size) R ∧ C5 W (v2.heap.size) R ∧ Oct.Rd W a1 0 c1 ys ∧ Below w.heap.size w W)) (fun _ => false) (by kernel_rfl) (by exact ⟨F.out.1, F.out.2.1, F.out.2.2.1, F.out.2.2.2.1, (by repeat (first | with_reducible exact Below.refl _ _ | with_reducible assumption | with_reducible refine Below.drew ?_ | with_reducible refine below_drewN ?_ _ | with_reducible refine Below.alloc ?_ (by simp <;> omega) _ | with_reducible refine Below.setCell ?_ (by simp <;> omega) _))⟩) (fun hHeld => ?_)
      refine gkp 0 ?_
      refine gkt 1 ?_ (v := .string (Oct.str ys)) (h := by intro W hSw; have hc := Oct.conv_rd (P := Try.prog) hSw.2.2.2.1 51 9 5 Try.underlying51 (by kernel_rfl) Try.underlying9; go_simp; first | done | with_reducible rfl)
      refine gkt 2 ?_ (h := by intro W hSw; obtain ⟨⟨y0, y1, y2, y3, y4⟩, ⟨y5, y6, y7, y8, y9⟩, ⟨y10, y11, y12, y13, y14⟩, _, _⟩ := hSw; go_simp; first | done | with_reducible rfl)
      refine gk1 3 (fun K hK => ?_)
      go_simp
      go_at_call 34; refine (DC.out _).mono ?_; rintro e w6 ⟨a2, c2, rfl, r6, h6⟩; have hR : (fun W : World => C5 W (w.heap.size) b ∧ C5 W (v1.heap.size) R ∧ C5 W (v2.heap.size) R ∧ Oct.Rd W a1 0 c1 ys ∧ Below w.heap.size w W) w6 := ⟨hHeld.1.keep h6, hHeld.2.1.keep h6, hHeld.2.2.1.keep h6, hHeld.2.2.2.1.keep h6, gt hHeld.2.2.2.2 h6⟩; clear h6
      refine hK.out _ _ hR (fun hHeld => ?_)
      clear hK K
      (try simp only [Act.put, sA, sZ, sS])
      refine wpAnyK_more (S' := (fun W : World => Oct.Rd W a2 0 c2 ys ∧ C5 W (w.heap.size) b ∧ C5 W (v1.heap.size) R ∧ C5 W (v2.heap.size) R ∧ Oct.Rd W a1 0 c1 ys ∧ Below w.heap.size w W)) (fun W h => h.2) ?_
      replace hHeld : (fun W : World => Oct.Rd W a2 0 c2 ys ∧ C5 W (w.heap.size) b ∧ C5 W (v1.heap.size) R ∧ C5 W (v2.heap.size) R ∧ Oct.Rd W a1 0 c1 ys ∧ Below w.heap.size w W) _ := ⟨r6, hHeld⟩
      refine gkt 4 ?_ (v := .string (Oct.str ys)) (h := by intro W hSw; have hc := Oct.conv_rd (P := Try.prog) hSw.1 51 9 5 Try.underlying51 (by kernel_rfl) Try.underlying9; go_simp; first | done | with_reducible rfl)
      refine gkp 5 ?_
      refine gkp 6 ?_
      refine gkt 7 ?_ (h := by intro W hSw; obtain ⟨_, ⟨⟨y0, y1, y2, y3, y4⟩, ⟨y5, y6, y7, y8, y9⟩, ⟨y10, y11, y12, y13, y14⟩, _, _⟩⟩ := hSw; go_simp; first | done | with_reducible rfl)
      refine gkt 8 ?_ (h := by intro W hSw; obtain ⟨_, ⟨⟨y0, y1, y2, y3, y4⟩, ⟨y5, y6, y7, y8, y9⟩, ⟨y10, y11, y12, y13, y14⟩, _, _⟩⟩ := hSw; go_simp; first | done | with_reducible rfl)
      refine gkp 9 ?_
      refine gkp 10 ?_
      refine gkp 11 ?_
      refine gkp 12 ?_
      refine gkp 13 ?_
      refine gkp 14 ?_
      refine gkp 15 ?_
      refine wpAnyK_done (by kernel_rfl) ?_ _
      have F2 := hid hHeld.2
      clear hlow F
      have hlow := F2.out.2.2.2.2
      go_wp2_with (go_at_call 25; refine (LC.out _).mono ?_; rintro e v9 ⟨rfl, h9⟩; have hl9 := gt hlow h9; clear h9)
      go_ret
      exact ⟨rfl, hl9⟩
    | true =>
      obtain ⟨k1, k2⟩ := back_r b hb hh
      have P3 := hid (fun (ao : Option Addr) (c : Nat) W (hr : Rd W ao 32 c (bytesK b 4)) => parse_call ao 32 c (bytesK b 4) W hr (fun x hm => bytes_by b x (by unfold bytesR; rw [hh]; exact hm)) (by omega))
      rw [k1, k2] at P3
      rw [show bytesR b = bytesK b 4 by unfold bytesR; rw [hh]; rfl, bytes_len] at BC DC
      have PE := fun W => (box_eql b b W).trans (by rw [eqR_iff.2 rfl])
      clear k1 k2 hh
      generalize bytesK b 4 = ys at *
      go_enter Try.func5, Try.ntmps5
      go_wp2_with (first | (go_at_call 31; refine (PC.out _ X0.out).mono ?_; rintro e v1 ⟨rfl, h1⟩; have X1 := hid ((X0.out.keep h1).keep (ext1 (.cells #[.bool (R).n, .int .i64 (R).lx, .int .i64 (R).ly, .int .i64 (R).hx, .int .i64 (R).hy] 25))); have A1 := hid ((A0.out.keep h1).keep (ext1 (.cells #[.bool (R).n, .int .i64 (R).lx, .int .i64 (R).ly, .int .i64 (R).hx, .int .i64 (R).hy] 25))); have P1 := hid (show C5 (v1.alloc (.cells #[.bool (R).n, .int .i64 (R).lx, .int .i64 (R).ly, .int .i64 (R).hx, .int .i64 (R).hy] 25)) v1.heap.size R from C5.of (heap_alloc_new _ _)); have L1 := hid (gt (gt (ext1 _) h1) (ext1 (.cells #[.bool (R).n, .int .i64 (R).lx, .int .i64 (R).ly, .int .i64 (R).hx, .int .i64 (R).hy] 25))); clear h1 PC X0 A0) | (go_at_call 32; refine (QC.out _ X1.out).mono ?_; rintro e v2 ⟨rfl, h2⟩; have A2 := hid ((A1.out.keep h2).keep (ext1 (.cells #[.bool (R).n, .int .i64 (R).lx, .int .i64 (R).ly, .int .i64 (R).hx, .int .i64 (R).hy] 25))); have P1 := hid ((P1.out.keep h2).keep (ext1 (.cells #[.bool (R).n, .int .i64 (R).lx, .int .i64 (R).ly, .int .i64 (R).hx, .int .i64 (R).hy] 25))); have P2 := hid (show C5 (v2.alloc (.cells #[.bool (R).n, .int .i64 (R).lx, .int .i64 (R).ly, .int .i64 (R).hx, .int .i64 (R).hy] 25)) v2.heap.size R from C5.of (heap_alloc_new _ _)); have L2 := hid (gt (gt L1.out h2) (ext1 (.cells #[.bool (R).n, .int .i64 (R).lx, .int .i64 (R).ly, .int .i64 (R).hx, .int .i64 (R).hy] 25))); clear h2 QC X1 A1 L1; obtain ⟨y0, y1, y2, y3, y4⟩ := A2.out) | (go_at_call 33; refine (BC.out _).mono ?_; rintro e v3 ⟨a1, c1, rfl, r3, h3⟩; have F := hid (show (fun W : World => C5 W (w.heap.size) b ∧ C5 W (v1.heap.size) R ∧ C5 W (v2.heap.size) R ∧ Oct.Rd W a1 32 c1 ys ∧ Below w.heap.size w W) v3 from ⟨A2.out.keep h3, P1.out.keep h3, P2.out.keep h3, r3, gt L2.out h3⟩); clear h3 r3 y0 y1 y2 y3 y4 A2 P1 P2 L2; have hlow := F.out.2.2.2.2))
      refine wp_region_K (S := (fun W : World => C5 W (w.heap.size) b ∧ C5 W (v1.heap.size) R ∧ C5 W (v2.heap.size) R ∧ Oct.Rd W a1 32 c1 ys ∧ Below w.heap.size w W)) (fun _ => false) (by kernel_rfl) (by exact ⟨F.out.1, F.out.2.1, F.out.2.2.1, F.out.2.2.2.1, (by repeat (first | with_reducible exact Below.refl _ _ | with_reducible assumption | with_reducible refine Below.drew ?_ | with_reducible refine below_drewN ?_ _ | with_reducible refine Below.alloc ?_ (by simp <;> omega) _ | with_reducible refine Below.setCell ?_ (by simp <;> omega) _))⟩) (fun hHeld => ?_)
      refine gkp 0 ?_
      refine gkt 1 ?_ (v := .string (Oct.str ys)) (h := by intro W hSw; have hc := Oct.conv_rd (P := Try.prog) hSw.2.2.2.1 51 9 5 Try.underlying51 (by kernel_rfl) Try.underlying9; go_simp; first | done | with_reducible rfl)
      refine gkt 2 ?_ (h := by intro W hSw; obtain ⟨⟨y0, y1, y2, y3, y4⟩, ⟨y5, y6, y7, y8, y9⟩, ⟨y10, y11, y12, y13, y14⟩, _, _⟩ := hSw; go_simp; first | done | with_reducible rfl)
      refine gk1 3 (fun K hK => ?_)
      go_simp
      go_at_call 34; refine (DC.out _).mono ?_; rintro e w6 ⟨a2, c2, rfl, r6, h6⟩; have hR : (fun W : World => C5 W (w.heap.size) b ∧ C5 W (v1.heap.size) R ∧ C5 W (v2.heap.size) R ∧ Oct.Rd W a1 32 c1 ys ∧ Below w.heap.size w W) w6 := ⟨hHeld.1.keep h6, hHeld.2.1.keep h6, hHeld.2.2.1.keep h6, hHeld.2.2.2.1.keep h6, gt hHeld.2.2.2.2 h6⟩; clear h6
      refine hK.out _ _ hR (fun hHeld => ?_)
      clear hK K
      (try simp only [Act.put, sA, sZ, sS])
      refine wpAnyK_more (S' := (fun W : World => Oct.Rd W a2 32 c2 ys ∧ C5 W (w.heap.size) b ∧ C5 W (v1.heap.size) R ∧ C5 W (v2.heap.size) R ∧ Oct.Rd W a1 32 c1 ys ∧ Below w.heap.size w W)) (fun W h => h.2) ?_
      replace hHeld : (fun W : World => Oct.Rd W a2 32 c2 ys ∧ C5 W (w.heap.size) b ∧ C5 W (v1.heap.size) R ∧ C5 W (v2.heap.size) R ∧ Oct.Rd W a1 32 c1 ys ∧ Below w.heap.size w W) _ := ⟨r6, hHeld⟩
      refine gkt 4 ?_ (v := .string (Oct.str ys)) (h := by intro W hSw; have hc := Oct.conv_rd (P := Try.prog) hSw.1 51 9 5 Try.underlying51 (by kernel_rfl) Try.underlying9; go_simp; first | done | with_reducible rfl)
      refine gkp 5 ?_
      refine gkp 6 ?_
      refine gkt 7 ?_ (h := by intro W hSw; obtain ⟨_, ⟨⟨y0, y1, y2, y3, y4⟩, ⟨y5, y6, y7, y8, y9⟩, ⟨y10, y11, y12, y13, y14⟩, _, _⟩⟩ := hSw; go_simp; first | done | with_reducible rfl)
      refine gkt 8 ?_ (h := by intro W hSw; obtain ⟨_, ⟨⟨y0, y1, y2, y3, y4⟩, ⟨y5, y6, y7, y8, y9⟩, ⟨y10, y11, y12, y13, y14⟩, _, _⟩⟩ := hSw; go_simp; first | done | with_reducible rfl)
      refine gkp 9 ?_
      refine gkp 10 ?_
      refine gkp 11 ?_
      refine gkp 12 ?_
      refine gkp 13 ?_
      refine gkp 14 ?_
      refine gkp 15 ?_
      refine wpAnyK_done (by kernel_rfl) ?_ _
      have F2 := hid hHeld.2
      clear hlow F
      have hlow := F2.out.2.2.2.2
      go_wp2_with (first | (go_at_call 31; refine (P3.out _ _ _ F2.out.2.2.2.1).mono ?_; rintro e v7 ⟨rfl, h7⟩; have A7 := hid ((F2.out.1.keep h7).keep (ext1 (.cells #[.bool (b).n, .int .i64 (b).lx, .int .i64 (b).ly, .int .i64 (b).hx, .int .i64 (b).hy] 25))); have Q7 := hid (show C5 (v7.alloc (.cells #[.bool (b).n, .int .i64 (b).lx, .int .i64 (b).ly, .int .i64 (b).hx, .int .i64 (b).hy] 25)) v7.heap.size b from C5.of (heap_alloc_new _ _)); have L7 := hid (gt (gt hlow h7) (ext1 (.cells #[.bool (b).n, .int .i64 (b).lx, .int .i64 (b).ly, .int .i64 (b).hx, .int .i64 (b).hy] 25))); clear h7; obtain ⟨y0, y1, y2, y3, y4⟩ := A7.out; obtain ⟨q0, q1, q2, q3, q4⟩ := Q7.out) | (go_at_call 25; refine (LC.out _).mono ?_; rintro e v9 ⟨rfl, h9⟩; have hl9 := gt L7.out h9; clear h9))
      go_ret
      exact ⟨rfl, hl9⟩
end Go.Proofs.Ytjlahomjhadnkaa
