/- The law BlobCanons; no statement of the seat is proved here. -/
import Derived.Test.YtpmfedimjjifaaaDoorJ34
import Derived.Test.YtpmfedimjjifaaaDoorJ30
namespace Go.Proofs.YtpmfedimjjifaaaDoor
open Go.RowKit Go.Maps

theorem fl_lt (l b e : Bool) : fl l b e < 256 := by cases l <;> cases b <;> cases e <;> decide
theorem head_bytes (h : Hd) : ∀ x ∈ headBs h, x < 256 := by
  intro x hx
  unfold headBs at hx
  rw [List.mem_append, List.mem_append, List.mem_append] at hx
  rcases hx with hx | hx | hx | hx
  · exact mark_b x hx
  · rw [List.mem_singleton] at hx; rw [hx]; exact fl_lt _ _ _
  · exact putN_bytes _ _ _ x hx
  · split at hx
    · rw [ords4, List.mem_append, List.mem_append, List.mem_append] at hx
      rcases hx with hx | hx | hx | hx <;> exact putN_bytes _ _ _ x hx
    · cases hx
theorem mk_bytes (t : T) (id : Int) (l b : Bool) : ∀ x ∈ mkT t id l b, x < 256 := by
  intro x hx
  unfold mkT at hx
  rcases List.mem_append.1 hx with hx | hx
  · exact head_bytes _ x hx
  · exact bytesI_bytes _ _ x hx
theorem mk_len {t : T} (h : GoodT' t) (id : Int) (l b : Bool) : (mkT t id l b).length ≤ 100040 := by
  obtain ⟨S, W, p, h1, h2, h3, rfl⟩ := h
  unfold mkT
  rw [List.length_append, headBs_len, bytesI_length]
  have h4 := size_small h1 h3 l
  have h5 : szH (headV p.t.pt id l b).b ≤ 40 := by unfold szH; split <;> omega
  omega
theorem ret_bytes {xs : List Nat} (hx : ∀ x ∈ xs, x < 256) (srs : Int) (l : Bool) : ∀ x ∈ retV xs srs l, x < 256 := by
  intro x h
  unfold retV at h
  rw [List.mem_append, List.mem_append] at h
  rcases h with h | h | h
  · exact hx x (List.mem_of_mem_take h)
  · exact putN_bytes _ _ _ x h
  · exact hx x (List.mem_of_mem_drop h)
set_option maxRecDepth 100000 in
set_option maxHeartbeats 16000000 in
theorem canons_long (ao : Option Addr) (n c : Nat) (z : Int) (w : World) (hT : Tab w) (hn : 20000 < n) : Calls Tryd.prog 4 #[.slice ao n c, .int .i64 z] w fun e w' => e = .returned (.bool true) ∧ Below w.heap.size w w' := by
  have LV := hid (lives_call w hT)
  have hn' : (20000 : Int) < (n : Int) := by omega
  clear hT hn
  go_enter Tryd.func4, Tryd.ntmps4
  go_wp2_with (go_at_call 8; refine LV.out.mono ?_; rintro e w1 ⟨rfl, b1⟩; have H1 := hid b1; clear b1)
  go_ret
  exact ⟨rfl, H1.out⟩
set_option maxRecDepth 100000 in
set_option maxHeartbeats 16000000 in
theorem canons_bad (ao : Option Addr) (n c : Nat) (xs : List Nat) (z : Int) (w : World) (hT : Tab w) (h : Rd w ao n c xs) (hx : ∀ x ∈ xs, x < 256) (hn : ¬ 20000 < n) (e : Nat) (hd : openV xs = .bad e) : Calls Tryd.prog 4 #[.slice ao n c, .int .i64 z] w fun e w' => e = .returned (.bool true) ∧ Below w.heap.size w w' := by
  have OP := hid (open_bad ao n c xs w hT h hx (by omega) e hd)
  have CN := hid (fun W (hb : Below w.heap.size w W) => canon_bad ao n c xs W (hT.keep hb) (h.keep hb) hx (by omega) e hd)
  have LV := hid (fun W (hb : Below w.heap.size w W) => lives_call W (hT.keep hb))
  have hn' : ¬ (20000 : Int) < (n : Int) := by omega
  have e1 : ((e : Int) != (e : Int)) = false := by simp
  clear h hx hT hn hd
  by_cases he : 1 ≤ e ∧ e ≤ 20
  · have e2 : ((e : Int) != 0) = true := by simp; omega
    go_enter Tryd.func4, Tryd.ntmps4
    go_wp2_with (first
      | (go_at_call 10; refine OP.out.mono ?_; rintro x w1 ⟨rfl, -, b1⟩; have H1 := hid (gt (gt b1 (ext1 (.cells #[.int .i64 (noH).srs, .bool (noH).l, .bool (noH).b, .bool (noH).e, .bool (noH).x.n, .int .i64 (noH).x.lx, .int .i64 (noH).x.ly, .int .i64 (noH).x.hx, .int .i64 (noH).x.hy] 38))) (ext1 (.cells #[.int .i64 0, .slice none 0 0, .slice none 0 0] 25))); clear b1)
      | (go_at_call 11; refine (CN.out _ H1.out).mono ?_; rintro x w2 ⟨rfl, -, b2⟩; have H2 := hid (gt H1.out b2); clear b2)
      | (go_at_call 8; refine (LV.out _ H2.out).mono ?_; rintro x w3 ⟨rfl, b3⟩; have H3 := hid (gt H2.out b3); clear b3))
    go_ret
    exact ⟨rfl, H3.out⟩
  · go_enter Tryd.func4, Tryd.ntmps4
    go_wp2_with (go_at_call 10; refine OP.out.mono ?_; rintro x w1 ⟨rfl, he1, b1⟩; exact absurd he1 he)
set_option maxRecDepth 100000 in
set_option maxHeartbeats 16000000 in
theorem canons_arg (ao : Option Addr) (n c : Nat) (xs : List Nat) (z : Int) (w : World) (hT : Tab w) (h : Rd w ao n c xs) (hx : ∀ x ∈ xs, x < 256) (hn : ¬ 20000 < n) (hh : Hd) (t : T) (hd : openV xs = .ok hh t) (hs : okS z = false) : Calls Tryd.prog 4 #[.slice ao n c, .int .i64 z] w fun e w' => e = .returned (.bool true) ∧ Below w.heap.size w w' := by
  have hn2 : n ≤ 20000 := by omega
  have hn' : ¬ (20000 : Int) < (n : Int) := by omega
  have O1 := hid (open_ok ao n c xs w hT h hx (by omega) hh t hd)
  have CN1 := hid (fun W (hb : Below w.heap.size w W) => canon_ok ao n c xs W (hT.keep hb) (h.keep hb) hx (by omega) hh t hd)
  have K := open_iff.1 hd
  obtain ⟨C, hC⟩ : ∃ C, C = mkT t hh.srs false true := ⟨_, rfl⟩
  obtain ⟨gb, ge, gx, hG⟩ : ∃ gb ge gx, headV t.pt hh.srs false true = ⟨hh.srs, false, gb, ge, gx⟩ := ⟨_, _, _, rfl⟩
  have hCx : ∀ x ∈ C, x < 256 := by rw [hC]; exact mk_bytes _ _ _ _
  have O2 := hid (fun (o : Option Addr) (m k : Nat) W (hb : Below w.heap.size w W) (hr : Rd W o m k C) (g : GoodT' t) => open_ok o m k C W (hT.keep hb) hr hCx (by have := mk_len g hh.srs false true; rw [← hC] at this; have := hr.1; omega) _ t (by rw [hC, open_t g K.srs, hG]))
  have CN2 := hid (fun (o : Option Addr) (m k : Nat) W (hb : Below w.heap.size w W) (hr : Rd W o m k C) (g : GoodT' t) => canon_ok o m k C W (hT.keep hb) hr hCx (by have := mk_len g hh.srs false true; rw [← hC] at this; have := hr.1; omega) _ t (show openV C = .ok ⟨hh.srs, false, gb, ge, gx⟩ t by rw [hC, open_t g K.srs, hG]))
  rw [← hC] at CN1
  simp only at CN2
  rw [← hC] at CN2
  have EQL := hid (fun (p q : Sh) W (hp : In (fun b => b < W.heap.size) W p) (hq : In (fun b => b < W.heap.size) W q) (e1 : p.t = t) (e2 : q.t = t) => by
    have k := refEqual_call _ p q (Nat.le_refl _) W hp hq
    rw [show eqS p q = true from eqS_t _ p q (Nat.le_refl _) (e1.trans e2.symm)] at k
    exact k)
  have LV := hid (fun W (hb : Below w.heap.size w W) => lives_call W (hT.keep hb))
  have HR := hid (fun W (hb : Below w.heap.size w W) => h.keep hb)
  have s1 : ((str C).toList == (str C).toList) = true := by simp
  have s2 : ((str C).toList != (str C).toList) = false := by simp
  have s3 : ((str xs).toList == (str xs).toList) = true := by simp
  have s4 : (hh.srs != hh.srs) = false := by simp
  have s5 : (z == z) = true := by simp
  have RT1 := hid (fun W (hb : Below w.heap.size w W) => retag_arg ao n c xs W (hT.keep hb) (h.keep hb) hx (by omega) z hs hh t hd)
  clear h hx hT hn hd K hC hG hCx hs hn2
  go_enter Tryd.func4, Tryd.ntmps4
  go_wp2_with (first
    | (go_at_call 10; refine O1.out.mono ?_; clear O1; rintro x w1 ⟨⟨p, rfl, hpt, hm⟩, b1⟩; have H1 := hid (gt (gt b1 (ext1 (.cells #[.int .i64 (hh).srs, .bool (hh).l, .bool (hh).b, .bool (hh).e, .bool (hh).x.n, .int .i64 (hh).x.lx, .int .i64 (hh).x.ly, .int .i64 (hh).x.hx, .int .i64 (hh).x.hy] 38))) (ext1 (.cells #[.int .i64 (p).k, .slice (p).xo (p).xn (p).xc, .slice (p).po (p).pn (p).pc] 25))); have D1 := hid ((B9.new w1 (hh)).keep (ext1 (.cells #[.int .i64 (p).k, .slice (p).xo (p).xn (p).xc, .slice (p).po (p).pn (p).pc] 25))).c; have X1 := hid (C3.bx (show Bx ((w1.alloc (.cells #[.int .i64 (hh).srs, .bool (hh).l, .bool (hh).b, .bool (hh).e, .bool (hh).x.n, .int .i64 (hh).x.lx, .int .i64 (hh).x.ly, .int .i64 (hh).x.hx, .int .i64 (hh).x.hy] 38)).alloc (.cells #[.int .i64 (p).k, .slice (p).xo (p).xn (p).xc, .slice (p).po (p).pn (p).pc] 25)) (w1.heap.size + 1) p from (by have k := Bx.new (w1.alloc (.cells #[.int .i64 (hh).srs, .bool (hh).l, .bool (hh).b, .bool (hh).e, .bool (hh).x.n, .int .i64 (hh).x.lx, .int .i64 (hh).x.ly, .int .i64 (hh).x.hx, .int .i64 (hh).x.hy] 38)) p; rw [World.size_alloc] at k; exact k))); have I1 := hid ((made_in hm).grow (gt (ext1 (.cells #[.int .i64 (hh).srs, .bool (hh).l, .bool (hh).b, .bool (hh).e, .bool (hh).x.n, .int .i64 (hh).x.lx, .int .i64 (hh).x.ly, .int .i64 (hh).x.hx, .int .i64 (hh).x.hy] 38)) (ext1 (.cells #[.int .i64 (p).k, .slice (p).xo (p).xn (p).xc, .slice (p).po (p).pn (p).pc] 25)))); have P1 := hid hpt; clear b1 hm hpt)
    | (go_at_call 11; refine (CN1.out _ H1.out).mono ?_; clear CN1; rintro x w2 ⟨o2, n2, c2, rfl, r2, g2, b2⟩; have G2 := hid g2; have R2 := hid (rd_own' r2); have H2 := hid (gt H1.out b2); have D1_2 := hid (D1.out.keep b2); have X1_2 := hid (X1.out.keep b2); have I1_2 := hid (I1.out.grow b2); clear r2 b2 g2)
    | (go_at_call 10; refine (O2.out _ _ _ _ H2.out R2.out G2.out).mono ?_; clear O2; rintro x w3 ⟨⟨q, rfl, hpt, hm⟩, b3⟩; have b33 := gt (gt b3 (ext1 (.cells #[.int .i64 ((⟨hh.srs, false, gb, ge, gx⟩ : Hd)).srs, .bool ((⟨hh.srs, false, gb, ge, gx⟩ : Hd)).l, .bool ((⟨hh.srs, false, gb, ge, gx⟩ : Hd)).b, .bool ((⟨hh.srs, false, gb, ge, gx⟩ : Hd)).e, .bool ((⟨hh.srs, false, gb, ge, gx⟩ : Hd)).x.n, .int .i64 ((⟨hh.srs, false, gb, ge, gx⟩ : Hd)).x.lx, .int .i64 ((⟨hh.srs, false, gb, ge, gx⟩ : Hd)).x.ly, .int .i64 ((⟨hh.srs, false, gb, ge, gx⟩ : Hd)).x.hx, .int .i64 ((⟨hh.srs, false, gb, ge, gx⟩ : Hd)).x.hy] 38))) (ext1 (.cells #[.int .i64 (q).k, .slice (q).xo (q).xn (q).xc, .slice (q).po (q).pn (q).pc] 25)); have H3 := hid (gt (gt (gt H2.out b3) (ext1 (.cells #[.int .i64 ((⟨hh.srs, false, gb, ge, gx⟩ : Hd)).srs, .bool ((⟨hh.srs, false, gb, ge, gx⟩ : Hd)).l, .bool ((⟨hh.srs, false, gb, ge, gx⟩ : Hd)).b, .bool ((⟨hh.srs, false, gb, ge, gx⟩ : Hd)).e, .bool ((⟨hh.srs, false, gb, ge, gx⟩ : Hd)).x.n, .int .i64 ((⟨hh.srs, false, gb, ge, gx⟩ : Hd)).x.lx, .int .i64 ((⟨hh.srs, false, gb, ge, gx⟩ : Hd)).x.ly, .int .i64 ((⟨hh.srs, false, gb, ge, gx⟩ : Hd)).x.hx, .int .i64 ((⟨hh.srs, false, gb, ge, gx⟩ : Hd)).x.hy] 38))) (ext1 (.cells #[.int .i64 (q).k, .slice (q).xo (q).xn (q).xc, .slice (q).po (q).pn (q).pc] 25))); have D3 := hid ((B9.new w3 ((⟨hh.srs, false, gb, ge, gx⟩ : Hd))).keep (ext1 (.cells #[.int .i64 (q).k, .slice (q).xo (q).xn (q).xc, .slice (q).po (q).pn (q).pc] 25))).c; have X3 := hid (C3.bx (show Bx ((w3.alloc (.cells #[.int .i64 ((⟨hh.srs, false, gb, ge, gx⟩ : Hd)).srs, .bool ((⟨hh.srs, false, gb, ge, gx⟩ : Hd)).l, .bool ((⟨hh.srs, false, gb, ge, gx⟩ : Hd)).b, .bool ((⟨hh.srs, false, gb, ge, gx⟩ : Hd)).e, .bool ((⟨hh.srs, false, gb, ge, gx⟩ : Hd)).x.n, .int .i64 ((⟨hh.srs, false, gb, ge, gx⟩ : Hd)).x.lx, .int .i64 ((⟨hh.srs, false, gb, ge, gx⟩ : Hd)).x.ly, .int .i64 ((⟨hh.srs, false, gb, ge, gx⟩ : Hd)).x.hx, .int .i64 ((⟨hh.srs, false, gb, ge, gx⟩ : Hd)).x.hy] 38)).alloc (.cells #[.int .i64 (q).k, .slice (q).xo (q).xn (q).xc, .slice (q).po (q).pn (q).pc] 25)) (w3.heap.size + 1) q from (by have k := Bx.new (w3.alloc (.cells #[.int .i64 ((⟨hh.srs, false, gb, ge, gx⟩ : Hd)).srs, .bool ((⟨hh.srs, false, gb, ge, gx⟩ : Hd)).l, .bool ((⟨hh.srs, false, gb, ge, gx⟩ : Hd)).b, .bool ((⟨hh.srs, false, gb, ge, gx⟩ : Hd)).e, .bool ((⟨hh.srs, false, gb, ge, gx⟩ : Hd)).x.n, .int .i64 ((⟨hh.srs, false, gb, ge, gx⟩ : Hd)).x.lx, .int .i64 ((⟨hh.srs, false, gb, ge, gx⟩ : Hd)).x.ly, .int .i64 ((⟨hh.srs, false, gb, ge, gx⟩ : Hd)).x.hx, .int .i64 ((⟨hh.srs, false, gb, ge, gx⟩ : Hd)).x.hy] 38)) q; rw [World.size_alloc] at k; exact k))); have I3 := hid ((made_in hm).grow (gt (ext1 (.cells #[.int .i64 ((⟨hh.srs, false, gb, ge, gx⟩ : Hd)).srs, .bool ((⟨hh.srs, false, gb, ge, gx⟩ : Hd)).l, .bool ((⟨hh.srs, false, gb, ge, gx⟩ : Hd)).b, .bool ((⟨hh.srs, false, gb, ge, gx⟩ : Hd)).e, .bool ((⟨hh.srs, false, gb, ge, gx⟩ : Hd)).x.n, .int .i64 ((⟨hh.srs, false, gb, ge, gx⟩ : Hd)).x.lx, .int .i64 ((⟨hh.srs, false, gb, ge, gx⟩ : Hd)).x.ly, .int .i64 ((⟨hh.srs, false, gb, ge, gx⟩ : Hd)).x.hx, .int .i64 ((⟨hh.srs, false, gb, ge, gx⟩ : Hd)).x.hy] 38)) (ext1 (.cells #[.int .i64 (q).k, .slice (q).xo (q).xn (q).xc, .slice (q).po (q).pn (q).pc] 25)))); have P3 := hid hpt; have R3 := hid (R2.out.keep b33); have D1_3 := hid (D1_2.out.keep b33); have X1_3 := hid (X1_2.out.keep b33); have I1_3 := hid (I1_2.out.grow b33); clear b3 b33 hm hpt)
    | (go_at_call 11; refine (CN2.out _ _ _ _ H3.out R3.out G2.out).mono ?_; clear CN2; rintro x w4 ⟨o4, n4, c4, rfl, r4, -, b4⟩; have H4 := hid (gt H3.out b4); have I1_4 := hid (I1_3.out.grow b4); have I3_4 := hid (I3.out.grow b4); have D1_4 := hid (D1_3.out.keep b4); have D3_4 := hid (D3.out.keep b4); have X1_4 := hid (X1_3.out.keep b4); have X3_4 := hid (X3.out.keep b4); have CV1 := conv_rd (P := Tryd.prog) (R3.out.keep b4) 29 9 5 Tryd.underlying29 Tryd.underlying5 Tryd.underlying9; have CV2 := conv_rd (P := Tryd.prog) (rd_own' r4) 29 9 5 Tryd.underlying29 Tryd.underlying5 Tryd.underlying9; obtain ⟨y0, y1, y2⟩ := X1_4.out; obtain ⟨z0, z1, z2⟩ := X3_4.out; clear r4 b4)
    | (go_at_call 12; refine (EQL.out p q _ I1_4.out I3_4.out P1.out P3.out).mono ?_; rintro x w5 ⟨rfl, b5⟩; clear CV1 CV2 y0 y1 y2 z0 z1 z2; have H5 := hid (gt H4.out b5); have I1_5 := hid (I1_4.out.grow b5); have X1_5 := hid (X1_4.out.keep b5); have D1_5 := hid (D1_4.out.keep b5); have D3_5 := hid (D3_4.out.keep b5); obtain ⟨d0, d1, d2, d3, d4, d5, d6, d7, d8⟩ := D1_5.out; obtain ⟨e0, e1, e2, e3, e4, e5, e6, e7, e8⟩ := D3_5.out; clear b5 I3_4)
    | (go_at_call 13; refine (RT1.out _ H5.out).mono ?_; rintro x w6 ⟨rfl, b6⟩; have H6 := hid (gt H5.out b6); clear b6)
    | (go_at_call 8; refine (LV.out _ H6.out).mono ?_; rintro x w7 ⟨rfl, b7⟩; have H7 := hid (gt H6.out b7); clear b7))
  go_ret
  exact ⟨rfl, H7.out⟩
set_option maxRecDepth 100000 in
set_option maxHeartbeats 16000000 in
theorem canons_ok (ao : Option Addr) (n c : Nat) (xs : List Nat) (z : Int) (w : World) (hT : Tab w) (h : Rd w ao n c xs) (hx : ∀ x ∈ xs, x < 256) (hn : ¬ 20000 < n) (hh : Hd) (t : T) (hd : openV xs = .ok hh t) (hs : okS z = true) : Calls Tryd.prog 4 #[.slice ao n c, .int .i64 z] w fun e w' => e = .returned (.bool true) ∧ Below w.heap.size w w' := by
  have hn2 : n ≤ 20000 := by omega
  have hn' : ¬ (20000 : Int) < (n : Int) := by omega
  have O1 := hid (open_ok ao n c xs w hT h hx (by omega) hh t hd)
  have CN1 := hid (fun W (hb : Below w.heap.size w W) => canon_ok ao n c xs W (hT.keep hb) (h.keep hb) hx (by omega) hh t hd)
  have K := open_iff.1 hd
  obtain ⟨C, hC⟩ : ∃ C, C = mkT t hh.srs false true := ⟨_, rfl⟩
  obtain ⟨gb, ge, gx, hG⟩ : ∃ gb ge gx, headV t.pt hh.srs false true = ⟨hh.srs, false, gb, ge, gx⟩ := ⟨_, _, _, rfl⟩
  have hCx : ∀ x ∈ C, x < 256 := by rw [hC]; exact mk_bytes _ _ _ _
  have O2 := hid (fun (o : Option Addr) (m k : Nat) W (hb : Below w.heap.size w W) (hr : Rd W o m k C) (g : GoodT' t) => open_ok o m k C W (hT.keep hb) hr hCx (by have := mk_len g hh.srs false true; rw [← hC] at this; have := hr.1; omega) _ t (by rw [hC, open_t g K.srs, hG]))
  have CN2 := hid (fun (o : Option Addr) (m k : Nat) W (hb : Below w.heap.size w W) (hr : Rd W o m k C) (g : GoodT' t) => canon_ok o m k C W (hT.keep hb) hr hCx (by have := mk_len g hh.srs false true; rw [← hC] at this; have := hr.1; omega) _ t (show openV C = .ok ⟨hh.srs, false, gb, ge, gx⟩ t by rw [hC, open_t g K.srs, hG]))
  rw [← hC] at CN1
  simp only at CN2
  rw [← hC] at CN2
  have EQL := hid (fun (p q : Sh) W (hp : In (fun b => b < W.heap.size) W p) (hq : In (fun b => b < W.heap.size) W q) (e1 : p.t = t) (e2 : q.t = t) => by
    have k := refEqual_call _ p q (Nat.le_refl _) W hp hq
    rw [show eqS p q = true from eqS_t _ p q (Nat.le_refl _) (e1.trans e2.symm)] at k
    exact k)
  have LV := hid (fun W (hb : Below w.heap.size w W) => lives_call W (hT.keep hb))
  have HR := hid (fun W (hb : Below w.heap.size w W) => h.keep hb)
  have s1 : ((str C).toList == (str C).toList) = true := by simp
  have s2 : ((str C).toList != (str C).toList) = false := by simp
  have s3 : ((str xs).toList == (str xs).toList) = true := by simp
  have s4 : (hh.srs != hh.srs) = false := by simp
  have s5 : (z == z) = true := by simp
  have RT1 := hid (fun W (hb : Below w.heap.size w W) => retag_ok ao n c xs W (hT.keep hb) (h.keep hb) hx (by omega) z hs hh t hd)
  obtain ⟨R, hR⟩ : ∃ R, R = retV xs z hh.l := ⟨_, rfl⟩
  have hRx : ∀ x ∈ R, x < 256 := by rw [hR]; exact ret_bytes hx _ _
  have hRl : R.length = xs.length := by rw [hR]; exact (ret_parts K.len z hh.l).1
  have hRo : openV R = .ok ⟨z, hh.l, hh.b, hh.e, hh.x⟩ t := by rw [hR]; exact open_iff.2 (open_ret K hs)
  have O3 := hid (fun (o : Option Addr) (m k : Nat) W (hb : Below w.heap.size w W) (hr : Rd W o m k R) => open_ok o m k R W (hT.keep hb) hr hRx (by have := hr.1; have := h.1; omega) _ t hRo)
  have RT2 := hid (fun (o : Option Addr) (m k : Nat) W (hb : Below w.heap.size w W) (hr : Rd W o m k R) => retag_ok o m k R W (hT.keep hb) hr hRx (by have := hr.1; have := h.1; omega) hh.srs K.srs _ t hRo)
  simp only at RT2
  rw [show retV R hh.srs hh.l = xs by rw [hR]; exact ret_back K hx z] at RT2
  rw [← hR] at RT1
  clear h hx hT hn hd K hC hG hCx hs hn2 hR hRx hRl hRo
  go_enter Tryd.func4, Tryd.ntmps4
  go_wp2_with (first
    | (go_at_call 10; refine O1.out.mono ?_; clear O1; rintro x w1 ⟨⟨p, rfl, hpt, hm⟩, b1⟩; have H1 := hid (gt (gt b1 (ext1 (.cells #[.int .i64 (hh).srs, .bool (hh).l, .bool (hh).b, .bool (hh).e, .bool (hh).x.n, .int .i64 (hh).x.lx, .int .i64 (hh).x.ly, .int .i64 (hh).x.hx, .int .i64 (hh).x.hy] 38))) (ext1 (.cells #[.int .i64 (p).k, .slice (p).xo (p).xn (p).xc, .slice (p).po (p).pn (p).pc] 25))); have D1 := hid ((B9.new w1 (hh)).keep (ext1 (.cells #[.int .i64 (p).k, .slice (p).xo (p).xn (p).xc, .slice (p).po (p).pn (p).pc] 25))).c; have X1 := hid (C3.bx (show Bx ((w1.alloc (.cells #[.int .i64 (hh).srs, .bool (hh).l, .bool (hh).b, .bool (hh).e, .bool (hh).x.n, .int .i64 (hh).x.lx, .int .i64 (hh).x.ly, .int .i64 (hh).x.hx, .int .i64 (hh).x.hy] 38)).alloc (.cells #[.int .i64 (p).k, .slice (p).xo (p).xn (p).xc, .slice (p).po (p).pn (p).pc] 25)) (w1.heap.size + 1) p from (by have k := Bx.new (w1.alloc (.cells #[.int .i64 (hh).srs, .bool (hh).l, .bool (hh).b, .bool (hh).e, .bool (hh).x.n, .int .i64 (hh).x.lx, .int .i64 (hh).x.ly, .int .i64 (hh).x.hx, .int .i64 (hh).x.hy] 38)) p; rw [World.size_alloc] at k; exact k))); have I1 := hid ((made_in hm).grow (gt (ext1 (.cells #[.int .i64 (hh).srs, .bool (hh).l, .bool (hh).b, .bool (hh).e, .bool (hh).x.n, .int .i64 (hh).x.lx, .int .i64 (hh).x.ly, .int .i64 (hh).x.hx, .int .i64 (hh).x.hy] 38)) (ext1 (.cells #[.int .i64 (p).k, .slice (p).xo (p).xn (p).xc, .slice (p).po (p).pn (p).pc] 25)))); have P1 := hid hpt; clear b1 hm hpt)
    | (go_at_call 11; refine (CN1.out _ H1.out).mono ?_; clear CN1; rintro x w2 ⟨o2, n2, c2, rfl, r2, g2, b2⟩; have G2 := hid g2; have R2 := hid (rd_own' r2); have H2 := hid (gt H1.out b2); have D1_2 := hid (D1.out.keep b2); have X1_2 := hid (X1.out.keep b2); have I1_2 := hid (I1.out.grow b2); clear r2 b2 g2)
    | (go_at_call 10; refine (O2.out _ _ _ _ H2.out R2.out G2.out).mono ?_; clear O2; rintro x w3 ⟨⟨q, rfl, hpt, hm⟩, b3⟩; have b33 := gt (gt b3 (ext1 (.cells #[.int .i64 ((⟨hh.srs, false, gb, ge, gx⟩ : Hd)).srs, .bool ((⟨hh.srs, false, gb, ge, gx⟩ : Hd)).l, .bool ((⟨hh.srs, false, gb, ge, gx⟩ : Hd)).b, .bool ((⟨hh.srs, false, gb, ge, gx⟩ : Hd)).e, .bool ((⟨hh.srs, false, gb, ge, gx⟩ : Hd)).x.n, .int .i64 ((⟨hh.srs, false, gb, ge, gx⟩ : Hd)).x.lx, .int .i64 ((⟨hh.srs, false, gb, ge, gx⟩ : Hd)).x.ly, .int .i64 ((⟨hh.srs, false, gb, ge, gx⟩ : Hd)).x.hx, .int .i64 ((⟨hh.srs, false, gb, ge, gx⟩ : Hd)).x.hy] 38))) (ext1 (.cells #[.int .i64 (q).k, .slice (q).xo (q).xn (q).xc, .slice (q).po (q).pn (q).pc] 25)); have H3 := hid (gt (gt (gt H2.out b3) (ext1 (.cells #[.int .i64 ((⟨hh.srs, false, gb, ge, gx⟩ : Hd)).srs, .bool ((⟨hh.srs, false, gb, ge, gx⟩ : Hd)).l, .bool ((⟨hh.srs, false, gb, ge, gx⟩ : Hd)).b, .bool ((⟨hh.srs, false, gb, ge, gx⟩ : Hd)).e, .bool ((⟨hh.srs, false, gb, ge, gx⟩ : Hd)).x.n, .int .i64 ((⟨hh.srs, false, gb, ge, gx⟩ : Hd)).x.lx, .int .i64 ((⟨hh.srs, false, gb, ge, gx⟩ : Hd)).x.ly, .int .i64 ((⟨hh.srs, false, gb, ge, gx⟩ : Hd)).x.hx, .int .i64 ((⟨hh.srs, false, gb, ge, gx⟩ : Hd)).x.hy] 38))) (ext1 (.cells #[.int .i64 (q).k, .slice (q).xo (q).xn (q).xc, .slice (q).po (q).pn (q).pc] 25))); have D3 := hid ((B9.new w3 ((⟨hh.srs, false, gb, ge, gx⟩ : Hd))).keep (ext1 (.cells #[.int .i64 (q).k, .slice (q).xo (q).xn (q).xc, .slice (q).po (q).pn (q).pc] 25))).c; have X3 := hid (C3.bx (show Bx ((w3.alloc (.cells #[.int .i64 ((⟨hh.srs, false, gb, ge, gx⟩ : Hd)).srs, .bool ((⟨hh.srs, false, gb, ge, gx⟩ : Hd)).l, .bool ((⟨hh.srs, false, gb, ge, gx⟩ : Hd)).b, .bool ((⟨hh.srs, false, gb, ge, gx⟩ : Hd)).e, .bool ((⟨hh.srs, false, gb, ge, gx⟩ : Hd)).x.n, .int .i64 ((⟨hh.srs, false, gb, ge, gx⟩ : Hd)).x.lx, .int .i64 ((⟨hh.srs, false, gb, ge, gx⟩ : Hd)).x.ly, .int .i64 ((⟨hh.srs, false, gb, ge, gx⟩ : Hd)).x.hx, .int .i64 ((⟨hh.srs, false, gb, ge, gx⟩ : Hd)).x.hy] 38)).alloc (.cells #[.int .i64 (q).k, .slice (q).xo (q).xn (q).xc, .slice (q).po (q).pn (q).pc] 25)) (w3.heap.size + 1) q from (by have k := Bx.new (w3.alloc (.cells #[.int .i64 ((⟨hh.srs, false, gb, ge, gx⟩ : Hd)).srs, .bool ((⟨hh.srs, false, gb, ge, gx⟩ : Hd)).l, .bool ((⟨hh.srs, false, gb, ge, gx⟩ : Hd)).b, .bool ((⟨hh.srs, false, gb, ge, gx⟩ : Hd)).e, .bool ((⟨hh.srs, false, gb, ge, gx⟩ : Hd)).x.n, .int .i64 ((⟨hh.srs, false, gb, ge, gx⟩ : Hd)).x.lx, .int .i64 ((⟨hh.srs, false, gb, ge, gx⟩ : Hd)).x.ly, .int .i64 ((⟨hh.srs, false, gb, ge, gx⟩ : Hd)).x.hx, .int .i64 ((⟨hh.srs, false, gb, ge, gx⟩ : Hd)).x.hy] 38)) q; rw [World.size_alloc] at k; exact k))); have I3 := hid ((made_in hm).grow (gt (ext1 (.cells #[.int .i64 ((⟨hh.srs, false, gb, ge, gx⟩ : Hd)).srs, .bool ((⟨hh.srs, false, gb, ge, gx⟩ : Hd)).l, .bool ((⟨hh.srs, false, gb, ge, gx⟩ : Hd)).b, .bool ((⟨hh.srs, false, gb, ge, gx⟩ : Hd)).e, .bool ((⟨hh.srs, false, gb, ge, gx⟩ : Hd)).x.n, .int .i64 ((⟨hh.srs, false, gb, ge, gx⟩ : Hd)).x.lx, .int .i64 ((⟨hh.srs, false, gb, ge, gx⟩ : Hd)).x.ly, .int .i64 ((⟨hh.srs, false, gb, ge, gx⟩ : Hd)).x.hx, .int .i64 ((⟨hh.srs, false, gb, ge, gx⟩ : Hd)).x.hy] 38)) (ext1 (.cells #[.int .i64 (q).k, .slice (q).xo (q).xn (q).xc, .slice (q).po (q).pn (q).pc] 25)))); have P3 := hid hpt; have R3 := hid (R2.out.keep b33); have D1_3 := hid (D1_2.out.keep b33); have X1_3 := hid (X1_2.out.keep b33); have I1_3 := hid (I1_2.out.grow b33); clear b3 b33 hm hpt)
    | (go_at_call 11; refine (CN2.out _ _ _ _ H3.out R3.out G2.out).mono ?_; clear CN2; rintro x w4 ⟨o4, n4, c4, rfl, r4, -, b4⟩; have H4 := hid (gt H3.out b4); have I1_4 := hid (I1_3.out.grow b4); have I3_4 := hid (I3.out.grow b4); have D1_4 := hid (D1_3.out.keep b4); have D3_4 := hid (D3.out.keep b4); have X1_4 := hid (X1_3.out.keep b4); have X3_4 := hid (X3.out.keep b4); have CV1 := conv_rd (P := Tryd.prog) (R3.out.keep b4) 29 9 5 Tryd.underlying29 Tryd.underlying5 Tryd.underlying9; have CV2 := conv_rd (P := Tryd.prog) (rd_own' r4) 29 9 5 Tryd.underlying29 Tryd.underlying5 Tryd.underlying9; obtain ⟨y0, y1, y2⟩ := X1_4.out; obtain ⟨z0, z1, z2⟩ := X3_4.out; clear r4 b4)
    | (go_at_call 12; refine (EQL.out p q _ I1_4.out I3_4.out P1.out P3.out).mono ?_; rintro x w5 ⟨rfl, b5⟩; clear CV1 CV2 y0 y1 y2 z0 z1 z2; have H5 := hid (gt H4.out b5); have I1_5 := hid (I1_4.out.grow b5); have X1_5 := hid (X1_4.out.keep b5); have D1_5 := hid (D1_4.out.keep b5); have D3_5 := hid (D3_4.out.keep b5); obtain ⟨d0, d1, d2, d3, d4, d5, d6, d7, d8⟩ := D1_5.out; obtain ⟨e0, e1, e2, e3, e4, e5, e6, e7, e8⟩ := D3_5.out; clear b5 I3_4)
    | (go_at_call 13; refine (RT1.out _ H5.out).mono ?_; clear RT1; rintro x w6 ⟨o6, n6, c6, rfl, r6, b6⟩; clear d0 d1 d2 d3 d4 d5 d6 d7 d8 e0 e1 e2 e3 e4 e5 e6 e7 e8; have R6 := hid (rd_own' r6); have H6 := hid (gt H5.out b6); have I1_6 := hid (I1_5.out.grow b6); have X1_6 := hid (X1_5.out.keep b6); have D1_6 := hid (D1_5.out.keep b6); clear r6 b6)
    | (go_at_call 10; refine (O3.out _ _ _ _ H6.out R6.out).mono ?_; clear O3; rintro x w8 ⟨⟨v, rfl, hpt, hm⟩, b8⟩; have b88 := gt (gt b8 (ext1 (.cells #[.int .i64 ((⟨z, hh.l, hh.b, hh.e, hh.x⟩ : Hd)).srs, .bool ((⟨z, hh.l, hh.b, hh.e, hh.x⟩ : Hd)).l, .bool ((⟨z, hh.l, hh.b, hh.e, hh.x⟩ : Hd)).b, .bool ((⟨z, hh.l, hh.b, hh.e, hh.x⟩ : Hd)).e, .bool ((⟨z, hh.l, hh.b, hh.e, hh.x⟩ : Hd)).x.n, .int .i64 ((⟨z, hh.l, hh.b, hh.e, hh.x⟩ : Hd)).x.lx, .int .i64 ((⟨z, hh.l, hh.b, hh.e, hh.x⟩ : Hd)).x.ly, .int .i64 ((⟨z, hh.l, hh.b, hh.e, hh.x⟩ : Hd)).x.hx, .int .i64 ((⟨z, hh.l, hh.b, hh.e, hh.x⟩ : Hd)).x.hy] 38))) (ext1 (.cells #[.int .i64 (v).k, .slice (v).xo (v).xn (v).xc, .slice (v).po (v).pn (v).pc] 25)); have H8 := hid (gt (gt (gt H6.out b8) (ext1 (.cells #[.int .i64 ((⟨z, hh.l, hh.b, hh.e, hh.x⟩ : Hd)).srs, .bool ((⟨z, hh.l, hh.b, hh.e, hh.x⟩ : Hd)).l, .bool ((⟨z, hh.l, hh.b, hh.e, hh.x⟩ : Hd)).b, .bool ((⟨z, hh.l, hh.b, hh.e, hh.x⟩ : Hd)).e, .bool ((⟨z, hh.l, hh.b, hh.e, hh.x⟩ : Hd)).x.n, .int .i64 ((⟨z, hh.l, hh.b, hh.e, hh.x⟩ : Hd)).x.lx, .int .i64 ((⟨z, hh.l, hh.b, hh.e, hh.x⟩ : Hd)).x.ly, .int .i64 ((⟨z, hh.l, hh.b, hh.e, hh.x⟩ : Hd)).x.hx, .int .i64 ((⟨z, hh.l, hh.b, hh.e, hh.x⟩ : Hd)).x.hy] 38))) (ext1 (.cells #[.int .i64 (v).k, .slice (v).xo (v).xn (v).xc, .slice (v).po (v).pn (v).pc] 25))); have D8 := hid ((B9.new w8 ((⟨z, hh.l, hh.b, hh.e, hh.x⟩ : Hd))).keep (ext1 (.cells #[.int .i64 (v).k, .slice (v).xo (v).xn (v).xc, .slice (v).po (v).pn (v).pc] 25))).c; have X8 := hid (C3.bx (show Bx ((w8.alloc (.cells #[.int .i64 ((⟨z, hh.l, hh.b, hh.e, hh.x⟩ : Hd)).srs, .bool ((⟨z, hh.l, hh.b, hh.e, hh.x⟩ : Hd)).l, .bool ((⟨z, hh.l, hh.b, hh.e, hh.x⟩ : Hd)).b, .bool ((⟨z, hh.l, hh.b, hh.e, hh.x⟩ : Hd)).e, .bool ((⟨z, hh.l, hh.b, hh.e, hh.x⟩ : Hd)).x.n, .int .i64 ((⟨z, hh.l, hh.b, hh.e, hh.x⟩ : Hd)).x.lx, .int .i64 ((⟨z, hh.l, hh.b, hh.e, hh.x⟩ : Hd)).x.ly, .int .i64 ((⟨z, hh.l, hh.b, hh.e, hh.x⟩ : Hd)).x.hx, .int .i64 ((⟨z, hh.l, hh.b, hh.e, hh.x⟩ : Hd)).x.hy] 38)).alloc (.cells #[.int .i64 (v).k, .slice (v).xo (v).xn (v).xc, .slice (v).po (v).pn (v).pc] 25)) (w8.heap.size + 1) v from (by have k := Bx.new (w8.alloc (.cells #[.int .i64 ((⟨z, hh.l, hh.b, hh.e, hh.x⟩ : Hd)).srs, .bool ((⟨z, hh.l, hh.b, hh.e, hh.x⟩ : Hd)).l, .bool ((⟨z, hh.l, hh.b, hh.e, hh.x⟩ : Hd)).b, .bool ((⟨z, hh.l, hh.b, hh.e, hh.x⟩ : Hd)).e, .bool ((⟨z, hh.l, hh.b, hh.e, hh.x⟩ : Hd)).x.n, .int .i64 ((⟨z, hh.l, hh.b, hh.e, hh.x⟩ : Hd)).x.lx, .int .i64 ((⟨z, hh.l, hh.b, hh.e, hh.x⟩ : Hd)).x.ly, .int .i64 ((⟨z, hh.l, hh.b, hh.e, hh.x⟩ : Hd)).x.hx, .int .i64 ((⟨z, hh.l, hh.b, hh.e, hh.x⟩ : Hd)).x.hy] 38)) v; rw [World.size_alloc] at k; exact k))); have I8 := hid ((made_in hm).grow (gt (ext1 (.cells #[.int .i64 ((⟨z, hh.l, hh.b, hh.e, hh.x⟩ : Hd)).srs, .bool ((⟨z, hh.l, hh.b, hh.e, hh.x⟩ : Hd)).l, .bool ((⟨z, hh.l, hh.b, hh.e, hh.x⟩ : Hd)).b, .bool ((⟨z, hh.l, hh.b, hh.e, hh.x⟩ : Hd)).e, .bool ((⟨z, hh.l, hh.b, hh.e, hh.x⟩ : Hd)).x.n, .int .i64 ((⟨z, hh.l, hh.b, hh.e, hh.x⟩ : Hd)).x.lx, .int .i64 ((⟨z, hh.l, hh.b, hh.e, hh.x⟩ : Hd)).x.ly, .int .i64 ((⟨z, hh.l, hh.b, hh.e, hh.x⟩ : Hd)).x.hx, .int .i64 ((⟨z, hh.l, hh.b, hh.e, hh.x⟩ : Hd)).x.hy] 38)) (ext1 (.cells #[.int .i64 (v).k, .slice (v).xo (v).xn (v).xc, .slice (v).po (v).pn (v).pc] 25)))); have P8 := hid hpt; have R8 := hid (R6.out.keep b88); have D1_8 := hid (D1_6.out.keep b88); have X1_8 := hid (X1_6.out.keep b88); have I1_8 := hid (I1_6.out.grow b88); obtain ⟨d0, d1, d2, d3, d4, d5, d6, d7, d8⟩ := D1_8.out; clear b8 b88 hm hpt)
    | (go_at_call 13; refine (RT2.out _ _ _ _ H8.out R8.out).mono ?_; clear RT2; rintro x w9 ⟨o9, n9, c9, rfl, r9, b9⟩; clear d0 d1 d2 d3 d4 d5 d6 d7 d8; have R9 := hid (rd_own' r9); have H9 := hid (gt H8.out b9); have I1_9 := hid (I1_8.out.grow b9); have I8_9 := hid (I8.out.grow b9); have X1_9 := hid (X1_8.out.keep b9); have X8_9 := hid (X8.out.keep b9); have D8_9 := hid (D8.out.keep b9); obtain ⟨y0, y1, y2⟩ := X1_9.out; obtain ⟨z0, z1, z2⟩ := X8_9.out; obtain ⟨d0, d1, d2, d3, d4, d5, d6, d7, d8⟩ := D8_9.out; clear r9 b9)
    | (go_at_call 12; refine (EQL.out p v _ I1_9.out I8_9.out P1.out P8.out).mono ?_; rintro x w10 ⟨rfl, b10⟩; clear y0 y1 y2 z0 z1 z2 d0 d1 d2 d3 d4 d5 d6 d7 d8; have H10 := hid (gt H9.out b10); have CV3 := conv_rd (P := Tryd.prog) (R9.out.keep b10) 29 9 5 Tryd.underlying29 Tryd.underlying5 Tryd.underlying9; have CV4 := conv_rd (P := Tryd.prog) (HR.out _ H10.out) 29 9 5 Tryd.underlying29 Tryd.underlying5 Tryd.underlying9; clear b10)
    | (go_at_call 8; refine (LV.out _ H10.out).mono ?_; rintro x w11 ⟨rfl, b11⟩; have H11 := hid (gt H10.out b11); clear b11))
  go_ret
  exact ⟨rfl, H11.out⟩
theorem canons_law (ao : Option Addr) (n c : Nat) (xs : List Nat) (z : Int) (w : World) (hT : Tab w) (h : Rd w ao n c xs) (hx : ∀ x ∈ xs, x < 256) : Calls Tryd.prog 4 #[.slice ao n c, .int .i64 z] w fun e w' => e = .returned (.bool true) ∧ Below w.heap.size w w' := by
  by_cases hn : 20000 < n
  · exact canons_long ao n c z w hT hn
  · cases hd : openV xs with
    | bad e => exact canons_bad ao n c xs z w hT h hx hn e hd
    | ok hh t =>
      cases hs : okS z with
      | false => exact canons_arg ao n c xs z w hT h hx hn hh t hd hs
      | true => exact canons_ok ao n c xs z w hT h hx hn hh t hd hs
end Go.Proofs.YtpmfedimjjifaaaDoor
