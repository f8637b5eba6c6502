/- Lists of parts that a reader reads, by the closure of shapes; no statement of the seat is proved here. -/
import Derived.Test.YtpmfedimjjifaaaGreatDoorJ20
namespace Go.Proofs.YtpmfedimjjifaaaGreatDoor.Prt
open Go.RowKit Go.Maps

/-- What is held between two parts. -/
def Held (N rb pb qb : Nat) (W0 : World) (i : Nat) (cs : List Sh) (ao : Option Addr) (cap : Nat) (si : St) (W : World) : Prop :=
  cs.length = i ∧ W.ownsRow W0.heap.size 39 3 (.slice ao i cap) i (cv3 cs) ∧ Fr (Cg rb pb qb) W0 W ∧ RdAt N rb pb qb W si ∧ ∀ c ∈ cs, In (fun b => (W0.heap.size ≤ b ∧ b < W.heap.size) ∧ (Value.slice ao i cap).ownBlock ≠ some b) W c
set_option maxRecDepth 100000 in
theorem held_step {N rb pb qb : Nat} {W0 W w5 w9 : World} {i cap g c2 : Nat} {cs : List Sh} {ao : Option Addr} {si s2 : St} {c : Sh} (h : Held N rb pb qb W0 i cs ao cap si W) (hN : N ≤ W0.heap.size) (f : Fr (Cg rb pb qb) W w5) (r : RdAt N rb pb qb w5 s2) (hc : Made W.heap.size w5 c)
    {wa : World} (ha : Below w5.heap.size w5 wa) (ho : w9.ownsRow W0.heap.size 39 3 (.slice (some ⟨g, 0, none⟩) (i + 1) c2) (i + 1) (cv3 cs ++ cv3 [c])) (hg : wa.grownBy w9 (Value.slice ao i cap).ownBlock) (hgc : (Value.slice ao i cap).ownBlock = some g ∨ g = wa.heap.size) :
    Held N rb pb qb W0 (i + 1) (cs ++ [c]) (some ⟨g, 0, none⟩) c2 s2 w9 := by
  obtain ⟨h1, h2, h3, h4, h5⟩ := h
  have z3 := h3.size
  have z5 := f.size
  have za := ha.size
  have z9 := hg.size
  have own_lo : ∀ k, (Value.slice ao i cap).ownBlock = some k → W0.heap.size ≤ k ∧ k < W.heap.size := fun k hk => own_lt h2 hk
  have b59 : Below W0.heap.size w5 w9 := (ha.mono (by omega)).grown hg (by omega) fun k hk => (own_lo k hk).1
  refine ⟨by simp [h1], by rw [cv3_append]; exact ho, (h3.trans f).low b59, r.keepN (b59.mono hN), fun d hd => ?_⟩
  have blk : ∀ b, b < w5.heap.size → (Value.slice ao i cap).ownBlock ≠ some b → w9.heap[b]? = w5.heap[b]? := fun b hb hne => (hg.block b (by omega) fun e => hne e.symm).trans (ha.block b hb)
  have ne : ∀ b, b < w5.heap.size → (Value.slice ao i cap).ownBlock ≠ some b → (Value.slice (some ⟨g, 0, none⟩) (i + 1) c2).ownBlock ≠ some b := by
    intro b hb hne e
    have e2 : g = b := by simpa [Value.ownBlock] using e
    rcases hgc with h | h
    · exact hne (by rw [h, e2])
    · omega
  rcases List.mem_append.1 hd with hd | hd
  · refine (h5 d hd).of fun b hb => ⟨(blk b (by omega) hb.2).trans (f.blk b hb.1.2 fun e => by have := h4.lo; rcases e with e | e | e <;> omega), ⟨⟨hb.1.1, by omega⟩, ne b (by omega) hb.2⟩⟩
  · obtain rfl : d = c := by simpa using hd
    have hne : ∀ b, W.heap.size ≤ b → (Value.slice ao i cap).ownBlock ≠ some b := fun b hb e => by have := (own_lo b e).2; omega
    exact hc.of fun b hb => ⟨blk b hb.2 (hne b hb.1), ⟨⟨by omega, by omega⟩, ne b hb.2 (hne b hb.1)⟩⟩
/-- What is asked of the function that reads a part. -/
def Nexts (b3 b4 b9 : Nat) (N rb pb qb : Nat) (W0 : World) (m : St → Re T) : Prop :=
  (∀ W si t s', Fr (Cg rb pb qb) W0 W → RdAt N rb pb qb W si → m si = .ok t s' → Calls Tryz.prog 113 #[.pointer (some ⟨b3, 0, none⟩), .pointer (some ⟨b4, 0, none⟩), .pointer (some ⟨b9, 0, none⟩)] W fun x W' => (∃ c : Sh, x = .returned (.iface 160 (.agg #[.int .i64 (c).k, .slice (c).xo (c).xn (c).xc, .slice (c).po (c).pn (c).pc])) ∧ c.t = t ∧ Made W.heap.size W' c) ∧ Fr (Cg rb pb qb) W W' ∧ RdAt N rb pb qb W' s') ∧
  (∀ W si e, Fr (Cg rb pb qb) W0 W → RdAt N rb pb qb W si → m si = .bad e → Calls Tryz.prog 113 #[.pointer (some ⟨b3, 0, none⟩), .pointer (some ⟨b4, 0, none⟩), .pointer (some ⟨b9, 0, none⟩)] W fun x W' => x = .returned (.iface 164 (.int .i64 (e : Int))) ∧ (1 ≤ e ∧ e ≤ 20) ∧ Fr (Cg rb pb qb) W W')
/-- Parts as a call leaves them. -/
structure PartsAt (B : Nat) (W : World) (o : Option Addr) (n c : Nat) (cs : List Sh) : Prop where
  len : cs.length = n
  cap : n ≤ c
  no : o = none → n = 0 ∧ c = 0
  pr : PR (fun b => B ≤ b ∧ b < W.heap.size) W o cs
  ins : ∀ p ∈ cs, In (fun b => B ≤ b ∧ b < W.heap.size) W p
  lim : n ≤ 1000000000
def LiI (N rb pb qb : Nat) (m : St → Re T) (n : Nat) (ts : List T) (s' : St) (W0 : World) (a c : Value) (W : World) : Prop :=
  ∃ (i : Nat) (cs : List Sh) (rest : List T) (si : St) (ao : Option Addr) (cap : Nat), i ≤ n ∧ c = .int .i64 (i : Int) ∧ a = .slice ao i cap ∧ Hid (ts = cs.map Sh.t ++ rest) ∧ Hid (timesD m (n - i) si = .ok rest s') ∧ Hid (Held N rb pb qb W0 i cs ao cap si W)
def LiB (N rb pb qb : Nat) (m : St → Re T) (n : Nat) (e : Nat) (W0 : World) (a c : Value) (W : World) : Prop :=
  ∃ (i : Nat) (cs : List Sh) (si : St) (ao : Option Addr) (cap : Nat), i ≤ n ∧ c = .int .i64 (i : Int) ∧ a = .slice ao i cap ∧ Hid (timesD m (n - i) si = .bad e) ∧ Hid (Held N rb pb qb W0 i cs ao cap si W)

set_option maxRecDepth 100000 in
set_option maxHeartbeats 8000000 in
theorem list_ok (b3 b4 b9 : Nat) {N rb pb qb : Nat} {W : World} {s : St} (h : RdAt N rb pb qb W s) (few : Nat) (hfew : 0 < few ∧ few ≤ 100) (l : Bool) (m : St → Re T) (hm : Nexts b3 b4 b9 N rb pb qb W m) (ts : List T) (s' : St) (hd : listD few l m s = .ok ts s') :
    Calls Tryz.prog 110 #[.pointer (some ⟨rb, 0, none⟩), .int .i64 (few : Int), .bool l, .func (.func 113) #[] #[.pointer (some ⟨b3, 0, none⟩), .pointer (some ⟨b4, 0, none⟩), .pointer (some ⟨b9, 0, none⟩)]] W fun x W' => (∃ o n c cs, x = .returned (.tuple #[.slice o n c, .int .i64 0]) ∧ cs.map Sh.t = ts ∧ PartsAt W.heap.size W' o n c cs) ∧ Fr (Cg rb pb qb) W W' ∧ RdAt N rb pb qb W' s' := by
  obtain ⟨n, s1, hc, hd⟩ := bind_inv hd
  obtain ⟨o, k, c, h1, -, -⟩ := h.bx
  have r1 := h1.cell 2 (.func (.func 126) #[] #[.pointer (some ⟨qb, 0, none⟩)]) rfl
  have hN := h.sz
  have C := hid (count_ok h true few hfew l n s1 hc)
  have HM := hid hm
  have HD := hid hd
  obtain ⟨i5, hi5, hz0, hz1, hz2⟩ := info_parts info25
  have HI := hid hi5; have HZ0 := hid hz0; have HZ1 := hid hz1; have HZ2 := hid hz2
  have TO := hid (fun (s : Sh) w => taken_ok s w)
  clear h h1 hc hd hm hi5 hz0 hz1 hz2
  go_enter Tryz.func110, Tryz.ntmps110
  go_wp2_with (first
    | (go_at_call 129; refine C.out.mono ?_; rintro x w1 ⟨rfl, hn9, f1, r1⟩; have F1 := hid f1; have R1 := hid r1; have z1 := f1.size; clear f1 r1)
    | ((with_reducible refine here_op 30 ?_); refine wpList_make_own w1 rfl (.const (.int .i64 0)) (.tmp 29) 37 rfl W.heap.size 39 i5 _ 3 Tryz.underlying37 HI.out HZ0.out HZ1.out .i64 .i64 _ n rfl rfl rfl (by rw [HZ2.out]; omega) (by unfold maxLen; omega) z1 ?_; intro w2 o2 g2; have O2 := hid o2; have G2 := hid (show Below w1.heap.size w1 w2 from ⟨g2.os, g2.tape, g2.output, g2.size, fun k hk => g2.block k hk (by simp)⟩); clear o2 g2))
  go_loopw [12, 32] (LiI N rb pb qb m n ts s' W) (fun _ c _ => n - (intOf c).toNat)
  case atStart => exact ⟨0, [], ts, s1, _, _, by omega, rfl, rfl, hid rfl, hid HD.out, hid ⟨rfl, O2.out, F1.out.low (G2.out.mono z1), R1.out.keep G2.out, fun c hc => by cases hc⟩⟩
  case round =>
    obtain ⟨i, cs, rest, si, ao, cap, hi, rfl, rfl, hts, hti, hh⟩ := hrel
    by_cases hlt : i < n
    · obtain ⟨t, s2, r2, hp, ht2, hr2⟩ := times_ok (show timesD m ((n - i - 1) + 1) si = .ok rest s' by rw [show n - i - 1 + 1 = n - i by omega]; exact hti.out)
      have PC := hid (HM.out.1 wr si t s2 hh.out.2.2.1 hh.out.2.2.2.1 hp)
      have HT2 := hid ht2
      have HTS := hid (show ts = (cs.map Sh.t ++ [t]) ++ r2 by rw [hts.out, hr2]; simp)
      have zw := hh.out.2.2.1.size
      clear hp ht2 hr2 hti hts
      go_wp2_with (first
        | (go_at_call 113; refine PC.out.mono ?_; rintro x w5 ⟨⟨p, rfl, hct, hc5⟩, f5, r5⟩; have F5 := hid f5; have R5 := hid r5; have HCT := hid hct; have HC5 := hid hc5; have O5 := hid (f5.row hh.out.2.2.2.1 hh.out.2.1 hN); clear f5 r5 hct hc5)
        | (go_at_call 88; refine (TO.out p _).mono ?_; rintro x w6 ⟨rfl, b6⟩; have H6 := hid b6; have O6 := hid ((own_below (own_below O5.out b6) (ext1 (.cells #[.int .i64 (p).k, .slice (p).xo (p).xn (p).xc, .slice (p).po (p).pn (p).pc] 39))).alloc (.cells #[.int .i64 (p).k, .slice (p).xo (p).xn (p).xc, .slice (p).po (p).pn (p).pc] 39)); have PB := hid (Bx.new w6 p); obtain ⟨p0, p1, p2⟩ := PB.out.cells; have z6 := b6.size; have z5 := F5.out.size; clear b6)
        | (at_builtin; refine wpList_append_lies _ rfl (.tmp 43) (.tmp 45) 37 rfl W.heap.size 39 i5 _ 3 56 Tryz.underlying37 HI.out HZ0.out HZ1.out HZ2.out rfl (by decide) (.slice ao i cap) i (cv3 cs) rfl O6.out ⟨w6.heap.size + 1, 0, none⟩ 1 1 (cv3 [p]) rfl rfl (three_cells2 w6 _ p) (cv3_one p) (by omega) (by unfold maxLen; omega) (by omega) (by simp; omega) _ rfl ?_; intro g9 c9 w9 o9 g9' gc9 _; have O9 := hid o9; have G9 := hid g9'; have GC := hid gc9; clear o9 g9' gc9))
      go_roundw
      case measure => simp [intOf]; omega
      case rel =>
        exact ⟨i + 1, cs ++ [p], r2, s2, _, c9, by omega, by go_num, rfl, hid (by rw [HTS.out, List.map_append]; simp [HCT.out]), hid (by rw [show n - (i + 1) = n - i - 1 by omega]; exact HT2.out), hid (held_step hh.out hN F5.out R5.out HC5.out (gt H6.out (gt (ext1 _) (ext1 _))) O9.out G9.out GC.out)⟩
    · obtain rfl : i = n := by omega
      have ht := hti.out
      rw [Nat.sub_self] at ht
      injection ht with ht1 ht2
      have HTS := hid (show ts = cs.map Sh.t by rw [hts.out, ← ht1]; simp)
      have HS := hid ht2
      clear hti ht1 ht2 hts
      go_wp2
      go_ret2
      obtain ⟨q1, q2, q3, q4, q5⟩ := hh.out
      exact ⟨⟨ao, i, cap, cs, rfl, HTS.out.symm, { len := q1, cap := own_cap q2, no := own_none q2, pr := pr_own q2 q1, ins := fun p hp => (q5 p hp).of fun b hb => ⟨rfl, hb.1⟩, lim := hn9 }⟩, q3, by rw [← HS.out]; exact q4⟩

set_option maxRecDepth 100000 in
set_option maxHeartbeats 8000000 in
theorem list_bad (b3 b4 b9 : Nat) {N rb pb qb : Nat} {W : World} {s : St} (h : RdAt N rb pb qb W s) (few : Nat) (hfew : 0 < few ∧ few ≤ 100) (l : Bool) (m : St → Re T) (hm : Nexts b3 b4 b9 N rb pb qb W m) (e : Nat) (hd : listD few l m s = .bad e) :
    Calls Tryz.prog 110 #[.pointer (some ⟨rb, 0, none⟩), .int .i64 (few : Int), .bool l, .func (.func 113) #[] #[.pointer (some ⟨b3, 0, none⟩), .pointer (some ⟨b4, 0, none⟩), .pointer (some ⟨b9, 0, none⟩)]] W fun x W' => x = .returned (.tuple #[.slice none 0 0, .int .i64 (e : Int)]) ∧ (1 ≤ e ∧ e ≤ 20) ∧ Fr (Cg rb pb qb) W W' := by
  obtain ⟨o, k, c, h1, -, -⟩ := h.bx
  have r1 := h1.cell 2 (.func (.func 126) #[] #[.pointer (some ⟨qb, 0, none⟩)]) rfl
  have hN := h.sz
  rcases bad_inv hd with hd | ⟨n, s1, hc, hd⟩
  · have C := hid (count_bad h true few hfew l e hd)
    clear h h1 hd hm
    go_enter Tryz.func110, Tryz.ntmps110
    by_cases he : 1 ≤ e ∧ e ≤ 20
    · have he1 : ((e : Int) == 0) = false := by simp; omega
      go_wp2_with (go_at_call 129; refine C.out.mono ?_; rintro x w1 ⟨rfl, -, f1⟩; have F1 := hid f1; clear f1)
      go_ret2
      exact ⟨rfl, he, F1.out⟩
    · go_wp2_with (go_at_call 129; refine C.out.mono ?_; rintro x w1 ⟨rfl, h2, f1⟩; exact absurd h2 he)
  · have C := hid (count_ok h true few hfew l n s1 hc)
    have HM := hid hm
    have HD := hid hd
    obtain ⟨i5, hi5, hz0, hz1, hz2⟩ := info_parts info25
    have HI := hid hi5; have HZ0 := hid hz0; have HZ1 := hid hz1; have HZ2 := hid hz2
    have TO := hid (fun (s : Sh) w => taken_ok s w)
    have TB := hid (fun (k : Nat) w => taken_bad k w)
    clear h h1 hc hd hm hi5 hz0 hz1 hz2
    go_enter Tryz.func110, Tryz.ntmps110
    go_wp2_with (first
      | (go_at_call 129; refine C.out.mono ?_; rintro x w1 ⟨rfl, hn9, f1, r1⟩; have F1 := hid f1; have R1 := hid r1; have z1 := f1.size; clear f1 r1)
      | ((with_reducible refine here_op 30 ?_); refine wpList_make_own w1 rfl (.const (.int .i64 0)) (.tmp 29) 37 rfl W.heap.size 39 i5 _ 3 Tryz.underlying37 HI.out HZ0.out HZ1.out .i64 .i64 _ n rfl rfl rfl (by rw [HZ2.out]; omega) (by unfold maxLen; omega) z1 ?_; intro w2 o2 g2; have O2 := hid o2; have G2 := hid (show Below w1.heap.size w1 w2 from ⟨g2.os, g2.tape, g2.output, g2.size, fun k hk => g2.block k hk (by simp)⟩); clear o2 g2))
    go_loopw [12, 32] (LiB N rb pb qb m n e W) (fun _ c _ => n - (intOf c).toNat)
    case atStart => exact ⟨0, [], s1, _, _, by omega, rfl, rfl, hid HD.out, hid ⟨rfl, O2.out, F1.out.low (G2.out.mono z1), R1.out.keep G2.out, fun c hc => by cases hc⟩⟩
    case round =>
      obtain ⟨i, cs, si, ao, cap, hi, rfl, rfl, hti, hh⟩ := hrel
      by_cases hlt : i < n
      · have zw := hh.out.2.2.1.size
        rcases times_bad (show timesD m ((n - i - 1) + 1) si = .bad e by rw [show n - i - 1 + 1 = n - i by omega]; exact hti.out) with hp | ⟨t, s2, hp, ht2⟩
        · have PC := hid (HM.out.2 wr si e hh.out.2.2.1 hh.out.2.2.2.1 hp)
          clear hp hti
          by_cases he : 1 ≤ e ∧ e ≤ 20
          · have he1 : ((e : Int) == 0) = false := by simp; omega
            go_wp2_with (first
              | (go_at_call 113; refine PC.out.mono ?_; rintro x w5 ⟨rfl, -, f5⟩; have F5 := hid f5; clear f5)
              | (go_at_call 88; refine (TB.out e _).mono ?_; rintro x w6 ⟨rfl, b6⟩; have H6 := hid b6; clear b6))
            go_ret2
            have z5 := F5.out.size
            have z6 := H6.out.size
            exact ⟨rfl, he, ((hh.out.2.2.1.trans F5.out).low (H6.out.mono (by omega))).al _⟩
          · go_wp2_with (go_at_call 113; refine PC.out.mono ?_; rintro x w5 ⟨rfl, h2, f5⟩; exact absurd h2 he)
        · have PC := hid (HM.out.1 wr si t s2 hh.out.2.2.1 hh.out.2.2.2.1 hp)
          have HT2 := hid ht2
          clear hp ht2 hti
          go_wp2_with (first
            | (go_at_call 113; refine PC.out.mono ?_; rintro x w5 ⟨⟨p, rfl, hct, hc5⟩, f5, r5⟩; have F5 := hid f5; have R5 := hid r5; have HCT := hid hct; have HC5 := hid hc5; have O5 := hid (f5.row hh.out.2.2.2.1 hh.out.2.1 hN); clear f5 r5 hct hc5)
            | (go_at_call 88; refine (TO.out p _).mono ?_; rintro x w6 ⟨rfl, b6⟩; have H6 := hid b6; have O6 := hid ((own_below (own_below O5.out b6) (ext1 (.cells #[.int .i64 (p).k, .slice (p).xo (p).xn (p).xc, .slice (p).po (p).pn (p).pc] 39))).alloc (.cells #[.int .i64 (p).k, .slice (p).xo (p).xn (p).xc, .slice (p).po (p).pn (p).pc] 39)); have PB := hid (Bx.new w6 p); obtain ⟨p0, p1, p2⟩ := PB.out.cells; have z6 := b6.size; have z5 := F5.out.size; clear b6)
            | (at_builtin; refine wpList_append_lies _ rfl (.tmp 43) (.tmp 45) 37 rfl W.heap.size 39 i5 _ 3 56 Tryz.underlying37 HI.out HZ0.out HZ1.out HZ2.out rfl (by decide) (.slice ao i cap) i (cv3 cs) rfl O6.out ⟨w6.heap.size + 1, 0, none⟩ 1 1 (cv3 [p]) rfl rfl (three_cells2 w6 _ p) (cv3_one p) (by omega) (by unfold maxLen; omega) (by omega) (by simp; omega) _ rfl ?_; intro g9 c9 w9 o9 g9' gc9 _; have O9 := hid o9; have G9 := hid g9'; have GC := hid gc9; clear o9 g9' gc9))
          go_roundw
          case measure => simp [intOf]; omega
          case rel =>
            exact ⟨i + 1, cs ++ [p], s2, _, c9, by omega, by go_num, rfl, hid (by rw [show n - (i + 1) = n - i - 1 by omega]; exact HT2.out), hid (held_step hh.out hN F5.out R5.out HC5.out (gt H6.out (gt (ext1 _) (ext1 _))) O9.out G9.out GC.out)⟩
      · obtain rfl : i = n := by omega
        have ht := hti.out
        rw [Nat.sub_self] at ht
        cases ht
end Go.Proofs.YtpmfedimjjifaaaGreatDoor.Prt
