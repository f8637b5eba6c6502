/- Write of the document's disk; no statement of the seat is proved here. -/
import Derived.Test.YtkgenmooepfhjaaEi
namespace Go.Proofs.Ytkgenmooepfhjaa
open Go.RowKit Go.Maps

set_option maxHeartbeats 1000000 in
theorem rwrite_off (r : Nat) (R : RParts) (d : DS) (f at_ : Int) (bo : Option Addr) (bn bc : Nat) (w : World) (h : RefP w r R d) (hx : d.off = true ∨ known f = false) :
    Calls Try.prog 31 #[.pointer (some ⟨r, 0, none⟩), .int .i64 f, .int .i64 at_, .slice bo bn bc] w fun e w' => e = .returned (.int .i64 (if d.off then 4 else 11)) ∧ w' = w := by
  have c7 := h.c7
  clear h
  cases ho : d.off <;> rw [ho] at c7 hx
  · have hk : known f = false := by rcases hx with h | h; cases h; exact h
    clear hx
    by_cases h0 : f < 0
    · go_enter Try.func31, Try.ntmps31
      go_wp2
      go_ret
      exact ⟨rfl, rfl⟩
    · have h1 : 1 < f := by rcases known_false hk with h | h; omega; exact h
      have h0' : decide (f < 0) = false := by simp; omega
      go_enter Try.func31, Try.ntmps31
      go_wp2
      go_ret
      exact ⟨rfl, rfl⟩
  · clear hx
    go_enter Try.func31, Try.ntmps31
    go_wp2
    go_ret
    exact ⟨rfl, rfl⟩

/-- How far a write has come. -/
structure WrI (w2 : World) (r o : Nat) (S : Nat → Prop) (B : RP) (F : FS) (A : Nat) (ss : List Sec) (i : Nat) (B' : RP) (G : FS) (W : World) : Prop where
  rf : RefF W r o (From S w2) B' G
  fr : FFrame w2 W r o (Mut B)
  mu : ∀ k, Mut B' k → From (Mut B) w2 k
  ok : G.Ok
  eq : wrN G (A + i) (ss.drop i) = wrN F A ss
  le : A + i ≤ G.now.length
  up : G.now.length ≤ max F.now.length (A + i)

theorem DFrame.drewD {w w' : World} {p : Nat} {S : Nat → Prop} (h : DFrame w w' p S) : DFrame w w'.drew p S := ⟨h.os, h.tape, h.output, h.size, h.block⟩
theorem tdiv128 (k : Nat) : ((k * 128 : Nat) : Int).tdiv 128 = (k : Int) := by rw [Int.natCast_mul]; exact Int.mul_tdiv_cancel _ (by decide)
theorem tmod128 (k : Nat) : ((k * 128 : Nat) : Int).tmod 128 = 0 := by rw [Int.natCast_mul]; exact Int.mul_tmod_left _ _

theorem wr_rd {W : World} {bo : Option Addr} {bn bc : Nat} {ss : List Sec} (hss : ∀ x ∈ ss, x.length = 128) (hn : bn = ss.length * 128) (h : Rd W bo bn bc ss.flatten) {i : Nat} (hi : i < ss.length) :
    ∃ b off, bo = some ⟨b, off, none⟩ ∧ (i + 1) * 128 ≤ bc ∧ ∀ c, Src W (some ⟨b, off + i * 128, none⟩) 128 c (bs (ss.getD i [])) := by
  obtain ⟨b, off, e, hc⟩ := h.2.2.2 (by omega)
  refine ⟨b, off, e, by have := h.2.1; omega, fun c => ⟨?_, fun h => (by cases h), fun ad ha j u hu => ?_, bs_one _⟩⟩
  · rw [bs_length, List.getD, List.getElem?_eq_getElem hi]; exact hss _ (List.getElem_mem hi)
  · cases ha
    have hl : (ss.getD i []).length = 128 := by rw [List.getD, List.getElem?_eq_getElem hi]; exact hss _ (List.getElem_mem hi)
    have hj : j < 128 := by
      have := (List.getElem?_eq_some_iff.1 hu).1
      rw [bs_length, hl] at this; exact this
    have hg := secs_get hss i j hi hj
    rw [hu] at hg
    obtain ⟨h1, h2⟩ := bs_get' ss.flatten (i * 128 + j) u hg
    rw [Addr.add_lit, h2, show off + i * 128 + j = off + (i * 128 + j) by omega]
    exact hc _ (by have := h.1; omega)

theorem src_later {w w' : World} {ao : Option Addr} {m c : Nat} {ys : List Value} (h : Src w ao m c ys) (hb : Below w.heap.size w w') : Src w' ao m c ys := ⟨h.len, h.no, fun ad ha j u hu => keep_old hb (h.at_ ad ha j u hu), h.one⟩
theorem wr_next {ss : List Sec} {i : Nat} (hi : i < ss.length) (G : FS) (A : Nat) : wrN G (A + i) (ss.drop i) = wrN (wr1 G (A + i) (ss.getD i [])) (A + (i + 1)) (ss.drop (i + 1)) := by
  rw [List.drop_eq_getElem_cons hi, List.getD, List.getElem?_eq_getElem hi]; rfl

section
variable {W3 wr w5 : World} {r o : Nat} {S : Nat → Prop} {B B' : RP} {F G : FS} {A i : Nat} {ss : List Sec} {v : Value}

theorem WrI.later (hI : WrI W3 r o S B F A ss i B' G wr) (hb5 : Below wr.heap.size wr w5) : WrI W3 r o S B F A ss i B' G w5 := ⟨hI.rf.later hb5, hI.fr.later hI.rf.plt hb5, hI.mu, hI.ok, hI.eq, hI.le, hI.up⟩
theorem WrI.drew (hI : WrI W3 r o S B F A ss i B' G wr) : WrI W3 r o S B F A ss i B' G wr.drew := ⟨hI.rf.stay (fun _ _ _ => rfl) (fun _ _ _ => rfl), hI.fr.drewF, hI.mu, hI.ok, hI.eq, hI.le, hI.up⟩

/-- A sector that was there is written. -/
theorem wr_in (hI : WrI W3 r o S B F A ss i B' G wr) (hi : i < ss.length) (hv : SecAt wr (From S W3) v (ss.getD i [])) (hA : A + i < G.now.length) {gN gD : Nat} (hgN : B'.aN = some ⟨gN, 0, none⟩) (hgD : B'.aD = some ⟨gD, 0, none⟩) :
    WrI W3 r o S B F A ss (i + 1) { B' with vs := B'.vs.set (A + i) v } (wr1 G (A + i) (ss.getD i [])) ((wr.setCell ⟨gN, A + i, none⟩ v).setCell ⟨gD, A + i, none⟩ (.bool true)) := by
  have h1 := hI.rf.setNow hgN hA hv
  have h2 := h1.1.setDirt (g := gD) (i := A + i) hgD (by show A + i < G.dirt.length; rw [hI.ok.ld]; exact hA) true
  have hw := wr1_len G (A + i) (ss.getD i []) hI.le
  refine ⟨by rw [wr1_in hA]; exact h2.1, (hI.fr.trans (h1.2.imp (fun k _ hk => hI.mu k hk))).trans (h2.2.imp (fun k _ hk => hI.mu k hk)), hI.mu, wr1_ok hI.ok hI.le hv.len, by rw [← wr_next hi]; exact hI.eq, by have := hw.2; omega, by have := hw.1; have := hI.up; omega⟩

/-- Nothing but what a file writes to, and new blocks, turns. -/
structure GFr (w W : World) (B : RP) : Prop where
  size : w.heap.size ≤ W.heap.size
  o : W.os = w.os ∧ W.tape = w.tape ∧ W.output = w.output
  block : ∀ k, k < w.heap.size → ¬ Mut B k → W.heap[k]? = w.heap[k]?
theorem GFr.refl (w : World) (B : RP) : GFr w w B := ⟨Nat.le_refl _, ⟨rfl, rfl, rfl⟩, fun _ _ _ => rfl⟩
theorem GFr.later {w W W' : World} {B : RP} (h : GFr w W B) (hb : Below W.heap.size W W') : GFr w W' B := ⟨Nat.le_trans h.size hb.size, ⟨hb.os.trans h.o.1, hb.tape.trans h.o.2.1, hb.output.trans h.o.2.2⟩, fun k hk hm => (hb.block k (Nat.lt_of_lt_of_le hk h.size)).trans (h.block k hk hm)⟩
theorem GFr.grown {w W W' : World} {B : RP} {q : Option Nat} (h : GFr w W B) (hg : W.grownBy W' q) (hq : ∀ k, q = some k → Mut B k) : GFr w W' B :=
  ⟨Nat.le_trans h.size hg.size, ⟨hg.os.trans h.o.1, hg.tape.trans h.o.2.1, hg.output.trans h.o.2.2⟩, fun k hk hm => (hg.block k (Nat.lt_of_lt_of_le hk h.size) (fun e => hm (hq k e.symm))).trans (h.block k hk hm)⟩

/-- A sector more is written. -/
theorem wr_out (hI : WrI W3 r o S B F A ss i B' G wr) (hi : i < ss.length) {W2 : World} (hG : GFr wr W2 B') (hv : W2.ownsRow 0 5 1 v 128 (bs (ss.getD i []))) (hvs : ∀ k, v.ownBlock = some k → From S W3 k) (hA : A + i = G.now.length) {a1 a2 : Option Addr} {c1 c2 LG : Nat} (hLG : LG = G.now.length)
    (r1 : W2.ownsRow 0 37 1 (.slice a1 (LG + 1) c1) (LG + 1) (B'.vs ++ [v])) (r2 : W2.ownsRow 0 4 1 (.slice a2 (LG + 1) c2) (LG + 1) (vb G.dirt ++ [.bool true]))
    (h1 : ∀ a, a1 = some a → (∃ a', B'.aN = some a' ∧ a'.block = a.block) ∨ wr.heap.size ≤ a.block) (h2 : ∀ a, a2 = some a → (∃ a', B'.aD = some a' ∧ a'.block = a.block) ∨ wr.heap.size ≤ a.block) :
    WrI W3 r o S B F A ss (i + 1) { B' with aN := a1, cN := c1, vs := B'.vs ++ [v], aD := a2, cD := c2 } (wr1 G (A + i) (ss.getD i [])) ((W2.setCell ⟨r, o, none⟩ (.slice a1 (LG + 1) c1)).setCell ⟨r, o + 2, none⟩ (.slice a2 (LG + 1) c2)) := by
  subst hLG
  have hz := hI.fr.size
  have hrl := hI.rf.plt
  have hS : ∀ (x : Option Addr) (a : Addr), (∀ a', x = some a' → From S W3 a'.block) → ((∃ a', x = some a' ∧ a'.block = a.block) ∨ wr.heap.size ≤ a.block) → From S W3 a.block ∧ a.block ≠ r := fun x a hx h => by
    rcases h with ⟨a', ha', e⟩ | h
    · rw [← e]; exact ⟨hx a' ha', fun e' => hI.rf.np (e' ▸ hx a' ha')⟩
    · exact ⟨Or.inr (Nat.le_trans hz h), by omega⟩
  have hsv : SecAt W2 (From S W3) v (ss.getD i []) := ⟨hv, hvs⟩
  have hgr := hI.rf.grow hG.size hG.o hG.block hsv r1 (by rw [hI.ok.ld]; exact r2) (fun a ha => ⟨hS B'.aN a hI.rf.sn (h1 a ha), h1 a ha⟩) (fun a ha => ⟨hS B'.aD a hI.rf.sd (h2 a ha), h2 a ha⟩)
  rw [hI.ok.ld] at hgr
  have hw := wr1_len G (A + i) (ss.getD i []) hI.le
  have he : wr1 G (A + i) (ss.getD i []) = ⟨G.now ++ [ss.getD i []], G.old, G.dirt ++ [true]⟩ := by rw [hA]; simp [wr1]
  refine ⟨by rw [he]; exact hgr.1, hI.fr.trans (hgr.2.imp (fun k _ hk => hI.mu k hk)), fun k hk => ?_, wr1_ok hI.ok hI.le hsv.len, by rw [← wr_next hi]; exact hI.eq, by have := hw.2; omega, by have := hw.1; have := hI.up; omega⟩
  rcases hk with ⟨a, ha, rfl⟩ | ⟨a, ha, rfl⟩
  · rcases h1 a ha with ⟨a', ha', e⟩ | h
    · rw [← e]; exact hI.mu _ (Or.inl ⟨a', ha', rfl⟩)
    · exact Or.inr (Nat.le_trans hz h)
  · rcases h2 a ha with ⟨a', ha', e⟩ | h
    · rw [← e]; exact hI.mu _ (Or.inr ⟨a', ha', rfl⟩)
    · exact Or.inr (Nat.le_trans hz h)
end

set_option maxHeartbeats 8000000 in
set_option maxRecDepth 20000 in
theorem rwrite_0 (r : Nat) (R : RParts) (d : DS) (at_ : Int) (bo : Option Addr) (bn bc : Nat) (ss : List Sec) (w : World) (h : RefP w r R d) (ho : d.off = false) (hop : d.ops < 1000000000)
    (hss : ∀ x ∈ ss, x.length = 128) (hsl : ss.length ≤ 1000) (hn : bn = ss.length * 128) (hb : ∀ w', DFrame w w' r R.mut → Rd w' bo bn bc ss.flatten) :
    Calls Try.prog 31 #[.pointer (some ⟨r, 0, none⟩), .int .i64 0, .int .i64 at_, .slice bo bn bc] w fun e w' => e = .returned (.int .i64 (writeD d 0 at_ ss).1) ∧ (∃ R', RefP w' r R' (writeD d 0 at_ ss).2 ∧ RGrew R w R') ∧ DFrame w w' r R.mut := by
  have c7 := h.c7
  rw [ho] at c7
  have H := hid h
  have c0 := h.f0.c0
  have hr2 := h.ok.r2; have hsum := h.ok.sum
  obtain ⟨L, hLL⟩ : ∃ L, L = d.f0.now.length := ⟨_, rfl⟩
  rw [← hLL] at c0
  obtain ⟨LM, hLM⟩ : ∃ LM, LM = d.f1.now.length := ⟨_, rfl⟩
  have hlb : L + LM ≤ d.room := by omega
  obtain ⟨SL, hSL⟩ : ∃ SL, SL = ss.length := ⟨_, rfl⟩
  have HLL := hid hLL; have HLM := hid hLM; have HSL := hid hSL; have HSS := hid hss; have HB0 := hid hb; have HN := hid hn
  have hcd : writeD d 0 at_ ss = if at_ < 0 ∨ (L : Int) < at_ then (11, d) else if SL = 0 then (2, d) else if d.left = 1 then (4, crashD (opsD d) d.keep d.torn) else if d.room < at_.toNat + SL + LM then (3, tickD d) else (0, (tickD d).put 0 (wrN d.f0 at_.toNat ss)) := by
    have hf : fullD d L (at_.toNat + SL) = decide (d.room < at_.toNat + SL + LM) := by
      unfold fullD
      rw [decide_eq_decide, ← hLL, ← hLM]
      omega
    have hd2 : (d.file 0) = d.f0 := rfl
    simp only [writeD, ho, hd2, ← hLL, ← hSL, hf, decide_eq_true_eq]; rfl
  rw [hcd]
  have hbn : (bn : Int).tdiv 128 = (SL : Int) := by rw [hn, hSL]; exact tdiv128 _
  have hbm : (bn : Int).tmod 128 = 0 := by rw [hn]; exact tmod128 _
  have HBE : Hid (bn = SL * 128) := hid (by rw [hn, hSL])
  rw [← hSL] at hsl
  clear hcd h hsum hLL hLM hSL hss hb hn
  by_cases h1 : at_ < 0
  · rw [if_pos (Or.inl h1)]
    go_enter Try.func31, Try.ntmps31
    go_wp2
    go_ret
    exact ⟨rfl, ⟨R, H.out, RGrew.refl _ _⟩, DFrame.refl _ _ _⟩
  · have h1' : decide (at_ < 0) = false := by simp; omega
    by_cases h2 : (L : Int) < at_
    · rw [if_pos (Or.inr h2)]
      go_enter Try.func31, Try.ntmps31
      go_wp2
      go_ret
      exact ⟨rfl, ⟨R, H.out, RGrew.refl _ _⟩, DFrame.refl _ _ _⟩
    · rw [if_neg (by omega)]
      have h2' : decide ((L : Int) < at_) = false := by simp; omega
      obtain ⟨A, rfl⟩ := Int.eq_ofNat_of_zero_le (show 0 ≤ at_ by omega)
      rw [Int.toNat_natCast]
      have hAL : A ≤ L := by omega
      clear h1 h2
      by_cases h3 : SL = 0
      · rw [if_pos h3]
        have hb0 : bn = 0 := by have := HBE.out; omega
        clear hbn hbm HBE HN HB0
        subst hb0
        go_enter Try.func31, Try.ntmps31
        go_wp2
        go_ret
        exact ⟨rfl, ⟨R, H.out, RGrew.refl _ _⟩, DFrame.refl _ _ _⟩
      · rw [if_neg h3]
        have hb0 : ((bn : Int) == 0) = false := by have := HBE.out; simp; omega
        obtain ⟨b, off, hbo⟩ : ∃ b off, bo = some ⟨b, off, none⟩ := by
          obtain ⟨b, off, e, _⟩ := (HB0.out w (DFrame.refl _ _ _)).2.2.2 (by have := HBE.out; omega)
          exact ⟨b, off, e⟩
        subst hbo
        by_cases hl : d.left = 1
        · rw [if_pos hl]
          have CO := hid (rop_crash r R d w H.out ho hl hop)
          go_enter Try.func31, Try.ntmps31
          go_wp2_with (go_at_call 55; refine CO.out.mono ?_; rintro e w2 ⟨rfl, hd, hfr⟩; replace hd := hid hd; replace hfr := hid hfr)
          go_ret
          exact ⟨rfl, hd.out, hfr.out⟩
        · rw [if_neg hl]
          have CO := hid (rop_go r R d w H.out hl hop)
          obtain ⟨B, hB⟩ : ∃ B, B = R.B0 := ⟨_, rfl⟩
          obtain ⟨F, hF⟩ : ∃ F, F = d.f0 := ⟨_, rfl⟩
          have HB := hid hB; have HF := hid hF
          rw [← hB] at c0
          clear hB hF
          by_cases hfull : d.room < A + SL + LM
          · rw [if_pos hfull]
            go_enter Try.func31, Try.ntmps31
            go_upto_if 65 with (go_at_call 55; refine CO.out.mono ?_; rintro e w2 ⟨rfl, hd, hfr⟩; have d0 := hd.f0.c0; have dm := hd.f1.c0; have dr := hd.c0; rw [show (tickD d).f0 = d.f0 from rfl, ← HLL.out, ← HB.out] at d0; rw [show (tickD d).f1 = d.f1 from rfl, ← HLM.out] at dm; rw [show (tickD d).room = d.room from rfl] at dr; replace hd := hid hd; replace hfr := hid hfr; clear CO)
            go_cut [9] from 56 to 74 (fun n W => W = w2 ∧ n = .int .i64 ((max (A + SL) L : Nat) : Int))
            case first =>
              by_cases hE : A + SL < L
              · have hE' : (A : Int) + (SL : Int) < (L : Int) := by omega
                exfalso; omega
              · have hE' : ¬ ((A : Int) + (SL : Int) < (L : Int)) := by omega
                go_wp2
                go_meet
                case rel => exact ⟨rfl, by rw [Nat.max_eq_left (by omega)]; simp⟩
            case rest =>
              obtain ⟨rfl, rfl⟩ := hcut
              obtain ⟨MX, hMX⟩ : ∃ MX, MX = max (A + SL) L := ⟨_, rfl⟩
              rw [← hMX]
              have hF1 : (d.room : Int) < (MX : Int) + (LM : Int) := by omega
              have hMXb : MX ≤ 40000 := by omega
              have hLMb : LM ≤ 40000 := by omega
              clear hMX
              go_wp2_with fail
              go_region
              go_wp2
              go_ret
              exact ⟨rfl, ⟨_, hd.out.drew, (RGrew.refl _ _).of hfr.out.size⟩, hfr.out.drewD⟩
          · rw [if_neg hfull]
            go_enter Try.func31, Try.ntmps31
            go_upto_if 65 with (go_at_call 55; refine CO.out.mono ?_; rintro e w2 ⟨rfl, hd, hfr⟩; have d0 := hd.f0.c0; have dm := hd.f1.c0; have dr := hd.c0; rw [show (tickD d).f0 = d.f0 from rfl, ← HLL.out, ← HB.out] at d0; rw [show (tickD d).f1 = d.f1 from rfl, ← HLM.out] at dm; rw [show (tickD d).room = d.room from rfl] at dr; replace hd := hid hd; replace hfr := hid hfr; clear CO)
            go_cut [9] from 56 to 74 (fun n W => W = w2 ∧ n = .int .i64 ((max (A + SL) L : Nat) : Int))
            case first =>
              by_cases hE : A + SL < L
              · have hE' : (A : Int) + (SL : Int) < (L : Int) := by omega
                go_wp2
                go_meet
                case rel => exact ⟨rfl, by rw [Nat.max_eq_right (by omega)]⟩
              · have hE' : ¬ ((A : Int) + (SL : Int) < (L : Int)) := by omega
                go_wp2
                go_meet
                case rel => exact ⟨rfl, by rw [Nat.max_eq_left (by omega)]; simp⟩
            case rest =>
              obtain ⟨rfl, rfl⟩ := hcut
              obtain ⟨MX, hMX⟩ : ∃ MX, MX = max (A + SL) L := ⟨_, rfl⟩
              rw [← hMX]
              have hF1 : ¬ ((d.room : Int) < (MX : Int) + (LM : Int)) := by omega
              have hMXb : MX ≤ 40000 := by omega
              have hLMb : LM ≤ 40000 := by omega
              clear hMX
              go_wp2_with fail
              go_region
              go_wp2
              obtain ⟨W3, hW3⟩ : ∃ W3, W3 = wc.drew := ⟨_, rfl⟩
              rw [← hW3]
              have HD3 : Hid (RefP W3 r R (tickD d)) := hid (by rw [hW3]; exact hd.out.drew)
              have HFR3 : Hid (DFrame w W3 r R.mut) := hid (by rw [hW3]; exact hfr.out.drewD)
              have HRB : Hid (∀ W, FFrame W3 W r 1 (Mut B) → Rd W (some ⟨b, off, none⟩) bn bc ss.flatten) := hid (fun W hf => HB0.out W (HFR3.out.trans (hf.df.imp (fun k _ hk => Or.inl (Or.inl (by rw [← HB.out]; exact hk))))))
              clear hW3 d0 dm dr hd hfr
              go_loopg [11] SL (fun k c W => ∃ (i : Nat) (B' : RP) (G : FS), i + k = SL ∧ c = .int .i64 (i : Int) ∧ Hid (WrI W3 r 1 R.S0 B F A ss i B' G W))
              case atStart =>
                refine ⟨0, B, F, by omega, rfl, hid ⟨?_, FFrame.refl _ _ _ _, fun k hk => Or.inl hk, ?_, by simp, ?_, ?_⟩⟩
                · have := HD3.out.f0.up
                  rw [show (tickD d).f0 = d.f0 from rfl, ← HF.out, ← HB.out] at this
                  exact this
                · rw [HF.out]; exact H.out.ok.ok0
                · rw [HF.out, ← HLL.out]; exact hAL
                · omega
              case round =>
                obtain ⟨i, B', G, hik, rfl, hI⟩ := hrel
                obtain ⟨LG, hLG⟩ : ∃ LG, LG = G.now.length := ⟨_, rfl⟩
                have HLG := hid hLG
                have c0 := hI.out.rf.c0
                rw [← hLG] at c0
                have c2 := hI.out.rf.c2
                rw [hI.out.ok.ld, ← hLG] at c2
                have f0 : wr.frozen? ⟨r, 1, none⟩ = false := (hI.out.fr.fz _).trans (HD3.out.fz _)
                have f2 : wr.frozen? ⟨r, 1 + 2, none⟩ = false := (hI.out.fr.fz _).trans (HD3.out.fz _)
                have hrl := hI.out.rf.plt
                have hle : A + i ≤ LG := by rw [hLG]; exact hI.out.le
                have hup : LG ≤ 50000 := by rw [hLG]; have := hI.out.up; rw [HF.out, ← HLL.out] at this; omega
                clear hLG
                by_cases hiS : i < SL
                · have hiS' : (i : Int) < (SL : Int) := by omega
                  obtain ⟨b', off', hbo, hcap, hsrc⟩ := wr_rd HSS.out HN.out (HRB.out wr hI.out.fr) (i := i) (by rw [← HSL.out]; exact hiS)
                  cases hbo
                  have hcapI : ((i : Int) + 1) * 128 ≤ (bc : Int) := by omega
                  have HSRC := hid hsrc
                  clear hsrc
                  go_upto_if 119 with ((with_reducible refine here_op 110 ?_); refine wpList_app rfl (.tmp 102) (.tmp 109) el37 rfl (.slice (some ⟨wr.heap.size, 0, none⟩) 0 0) 0 [] rfl (World.ownsRow_made wr #[] 0 (Nat.zero_le _) (by decide) rfl) (some ⟨b, off + i * 128, none⟩) ((i + 1) * 128 - i * 128) (bc - i * 128) (bs (ss.getD i [])) rfl (by rw [show (i + 1) * 128 - i * 128 = 128 by omega]; exact src_later (HSRC.out _) ((Below.refl _ _).alloc (Nat.le_refl _) _)) (by omega) ?_; rw [show 0 + ((i + 1) * 128 - i * 128) = 128 by omega]; simp only [List.nil_append]; intro a5 c5 w5 ho5 hg5 hat5; have hb5 : Below wr.heap.size wr w5 := ((Below.refl _ wr).alloc (Nat.le_refl _) _).grown hg5 (by simp) (fun k hk => by simp [Value.ownBlock] at hk; omega); have ha5 : ∀ a, a5 = some a → wr.heap.size ≤ a.block := (fun a ha => by rcases hat5 a ha with h | h; simp [Value.ownBlock] at h; omega; simp at h; omega); have k0 := keep_old hb5 c0; have k2 := keep_old hb5 c2; have g0 := (keep_frozen hb5 hrl (a := ⟨r, 1, none⟩)).trans f0; have g2 := (keep_frozen hb5 hrl (a := ⟨r, 1 + 2, none⟩)).trans f2; have HI5 := hid (hI.out.later hb5); have HV5 : Hid (SecAt w5 (From R.S0 W3) (.slice a5 128 c5) (ss.getD i [])) := hid (sec_new ho5 (fun y hy => Nat.le_trans hI.out.fr.size (ha5 y hy))); have hrl5 : r < w5.heap.size := (by have := hb5.size; omega); clear ho5 hg5 hat5 hb5 ha5)
                  obtain ⟨AI, hAI⟩ : ∃ AI, AI = A + i := ⟨_, rfl⟩
                  have HAI := hid hAI
                  have hAI' : (A : Int) + (i : Int) = (AI : Int) := by omega
                  have hiL : i < ss.length := by rw [← HSL.out]; exact hiS
                  have hwr : IntKind.i64.wrap (AI : Int) = (AI : Int) := IntWalk.i64_in _ (by omega)
                  by_cases hin : AI < LG
                  · have hin' : (AI : Int) < (LG : Int) := by omega
                    have hrn := HI5.out.rf.rn
                    rw [← HLG.out] at hrn
                    obtain ⟨gN, hgN, hcN, hgNl, hcapN⟩ := row_cell hrn hin
                    have hrd := HI5.out.rf.rd
                    rw [HI5.out.ok.ld, ← HLG.out] at hrd
                    obtain ⟨gD, hgD, hcD, hgDl⟩ := bool_cell hrd hin
                    have hne : gD ≠ gN := own_ne hrd hrn (by decide) (by rw [hgD]; rfl) (by rw [hgN]; rfl)
                    have hsn := own_set (by rw [hgN] at hrn; exact hrn) hin (.slice a5 128 c5)
                    obtain ⟨u5, hu5⟩ := hsn.2.1
                    have hz5 := hsn.2.2
                    have hsd := own_set (by rw [hgD] at hrd; exact hrd) hin (.bool true)
                    have hz6 := hsd.2.2
                    rw [hgN] at k0
                    rw [hgD] at k2
                    have HNX := hid (wr_in HI5.out.drew hiL (HV5.out.stay (w' := w5.drew) (fun _ _ => rfl) (fun _ h => h)) (by rw [← HAI.out, ← HLG.out]; exact hin) hgN hgD)
                    have HAIR : Hid (∀ x : Nat, x = A + i → x = AI) := hid (fun x hx => by rw [hx, HAI.out])
                    have HF18 : Hid ((w5.drew.setCell ⟨gN, AI, none⟩ (.slice a5 128 c5)).cell? ⟨gD, AI, none⟩ = some (.bool (G.dirt.getD AI false)) ∧ (w5.drew.setCell ⟨gN, AI, none⟩ (.slice a5 128 c5)).frozen? ⟨gD, AI, none⟩ = false ∧ w5.drew.cell? ⟨gN, AI, none⟩ = some u5 ∧ w5.drew.frozen? ⟨gN, AI, none⟩ = false) := hid ⟨(World.cell?_of_block (set_other (a := ⟨gN, AI, none⟩) _ hne)).trans hcD, (World.frozen?_setCell _ _ _ _).trans hz6, hu5, hz5⟩
                    clear hrn hrd hsn hsd hcN hcD hu5 hz5 hz6 hgN hgD c0 c2 f0 f2 hAI
                    go_wp2_with fail
                    refine wp_region_K (S := Reads2 ⟨r, 1, none⟩ ⟨r, 1 + 2, none⟩ (.slice (some ⟨gN, 0, none⟩) LG B'.cN) (.slice (some ⟨gD, 0, none⟩) LG B'.cD)) (fun i => i == 16 || i == 18) (by kernel_rfl) ⟨k0, k2⟩ (fun hHeld => ?_)
                    obtain ⟨W0, hW0⟩ : ∃ W0, W0 = w5.drew := ⟨_, rfl⟩
                    rw [← hW0] at hHeld HF18 HNX ⊢
                    have hR := hHeld
                    obtain ⟨d18, z18, u16, z16⟩ := HF18.out
                    clear hW0
                    refine wpAnyK_pure (i := 0) (v := ?_) (op_at _ 0 _ rfl) (by kernel_rfl) (by kernel_rfl) (by kernel_rfl) (by kernel_rfl) (fun _ _ _ h => h) (Or.inl ⟨by rfl, ?_⟩) (Or.inl (by assumption)) ?_
                    rotate_left 1
                    focus (intro W hSw; go_simp; first | done | with_reducible rfl)
                    (try simp only [Act.put, List.setIfInBounds_toArray, List.set_cons_zero, List.set_cons_succ])
                    refine wpAnyK_pure (i := 1) (v := ?_) (op_at _ 1 _ rfl) (by kernel_rfl) (by kernel_rfl) (by kernel_rfl) (by kernel_rfl) (fun _ _ _ h => h) (Or.inl ⟨by rfl, ?_⟩) (Or.inl (by assumption)) ?_
                    rotate_left 1
                    focus (intro W hSw; go_simp; first | done | with_reducible rfl)
                    (try simp only [Act.put, List.setIfInBounds_toArray, List.set_cons_zero, List.set_cons_succ])
                    refine wpAnyK_pure (i := 2) (v := ?_) (op_at _ 2 _ rfl) (by kernel_rfl) (by kernel_rfl) (by kernel_rfl) (by kernel_rfl) (fun _ _ _ h => h) (Or.inl ⟨by rfl, ?_⟩) (Or.inl (by assumption)) ?_
                    rotate_left 1
                    focus (intro W hSw; go_simp; first | done | with_reducible rfl)
                    (try simp only [Act.put, List.setIfInBounds_toArray, List.set_cons_zero, List.set_cons_succ])
                    refine wpAnyK_take (i := 3) (v := ?_) (op_at _ 3 _ rfl) (by kernel_rfl) (by kernel_rfl) (by kernel_rfl) (by kernel_rfl) (fun _ _ _ h => h) (Or.inl ⟨by rfl, ?_⟩) (by assumption) ?_
                    rotate_left 1
                    focus (intro W hSw; obtain ⟨q0, q2⟩ := hSw; go_simp; first | done | with_reducible rfl)
                    (try simp only [Act.put, List.setIfInBounds_toArray, List.set_cons_zero, List.set_cons_succ])
                    refine wpAnyK_pure (i := 4) (v := ?_) (op_at _ 4 _ rfl) (by kernel_rfl) (by kernel_rfl) (by kernel_rfl) (by kernel_rfl) (fun _ _ _ h => h) (Or.inl ⟨by rfl, ?_⟩) (Or.inl (by assumption)) ?_
                    rotate_left 1
                    focus (intro W hSw; go_simp; first | done | with_reducible rfl)
                    (try simp only [Act.put, List.setIfInBounds_toArray, List.set_cons_zero, List.set_cons_succ])
                    refine wpAnyK_pure (i := 5) (v := ?_) (op_at _ 5 _ rfl) (by kernel_rfl) (by kernel_rfl) (by kernel_rfl) (by kernel_rfl) (fun _ _ _ h => h) (Or.inl ⟨by rfl, ?_⟩) (Or.inl (by assumption)) ?_
                    rotate_left 1
                    focus (intro W hSw; go_simp; first | done | with_reducible rfl)
                    (try simp only [Act.put, List.setIfInBounds_toArray, List.set_cons_zero, List.set_cons_succ])
                    refine wpAnyK_pure (i := 6) (v := ?_) (op_at _ 6 _ rfl) (by kernel_rfl) (by kernel_rfl) (by kernel_rfl) (by kernel_rfl) (fun _ _ _ h => h) (Or.inl ⟨by rfl, ?_⟩) (Or.inl (by assumption)) ?_
                    rotate_left 1
                    focus (intro W hSw; go_simp; first | done | with_reducible rfl)
                    (try simp only [Act.put, List.setIfInBounds_toArray, List.set_cons_zero, List.set_cons_succ])
                    refine wpAnyK_pure (i := 7) (v := ?_) (op_at _ 7 _ rfl) (by kernel_rfl) (by kernel_rfl) (by kernel_rfl) (by kernel_rfl) (fun _ _ _ h => h) (Or.inl ⟨by rfl, ?_⟩) (Or.inl (by assumption)) ?_
                    rotate_left 1
                    focus (intro W hSw; go_simp; first | done | with_reducible rfl)
                    (try simp only [Act.put, List.setIfInBounds_toArray, List.set_cons_zero, List.set_cons_succ])
                    refine wpAnyK_pure (i := 8) (v := ?_) (op_at _ 8 _ rfl) (by kernel_rfl) (by kernel_rfl) (by kernel_rfl) (by kernel_rfl) (fun _ _ _ h => h) (Or.inl ⟨by rfl, ?_⟩) (Or.inl (by assumption)) ?_
                    rotate_left 1
                    focus (intro W hSw; go_simp; first | done | with_reducible rfl)
                    (try simp only [Act.put, List.setIfInBounds_toArray, List.set_cons_zero, List.set_cons_succ])
                    refine wpAnyK_pure (i := 9) (v := ?_) (op_at _ 9 _ rfl) (by kernel_rfl) (by kernel_rfl) (by kernel_rfl) (by kernel_rfl) (fun _ _ _ h => h) (Or.inl ⟨by rfl, ?_⟩) (Or.inl (by assumption)) ?_
                    rotate_left 1
                    focus (intro W hSw; go_simp; first | done | with_reducible rfl)
                    (try simp only [Act.put, List.setIfInBounds_toArray, List.set_cons_zero, List.set_cons_succ])
                    refine wpAnyK_take (i := 10) (v := ?_) (op_at _ 10 _ rfl) (by kernel_rfl) (by kernel_rfl) (by kernel_rfl) (by kernel_rfl) (fun _ _ _ h => h) (Or.inl ⟨by rfl, ?_⟩) (by assumption) ?_
                    rotate_left 1
                    focus (intro W hSw; obtain ⟨q0, q2⟩ := hSw; go_simp; first | done | with_reducible rfl)
                    (try simp only [Act.put, List.setIfInBounds_toArray, List.set_cons_zero, List.set_cons_succ])
                    refine wpAnyK_pure (i := 11) (v := ?_) (op_at _ 11 _ rfl) (by kernel_rfl) (by kernel_rfl) (by kernel_rfl) (by kernel_rfl) (fun _ _ _ h => h) (Or.inl ⟨by rfl, ?_⟩) (Or.inl (by assumption)) ?_
                    rotate_left 1
                    focus (intro W hSw; go_simp; first | done | with_reducible rfl)
                    (try simp only [Act.put, List.setIfInBounds_toArray, List.set_cons_zero, List.set_cons_succ])
                    refine wpAnyK_pure (i := 12) (v := ?_) (op_at _ 12 _ rfl) (by kernel_rfl) (by kernel_rfl) (by kernel_rfl) (by kernel_rfl) (fun _ _ _ h => h) (Or.inl ⟨by rfl, ?_⟩) (Or.inl (by assumption)) ?_
                    rotate_left 1
                    focus (intro W hSw; go_simp; first | done | with_reducible rfl)
                    (try simp only [Act.put, List.setIfInBounds_toArray, List.set_cons_zero, List.set_cons_succ])
                    refine wpAnyK_pure (i := 13) (v := ?_) (op_at _ 13 _ rfl) (by kernel_rfl) (by kernel_rfl) (by kernel_rfl) (by kernel_rfl) (fun _ _ _ h => h) (Or.inl ⟨by rfl, ?_⟩) (Or.inl (by assumption)) ?_
                    rotate_left 1
                    focus (intro W hSw; go_simp; first | done | with_reducible rfl)
                    (try simp only [Act.put, List.setIfInBounds_toArray, List.set_cons_zero, List.set_cons_succ])
                    refine wpAnyK_pure (i := 14) (v := ?_) (op_at _ 14 _ rfl) (by kernel_rfl) (by kernel_rfl) (by kernel_rfl) (by kernel_rfl) (fun _ _ _ h => h) (Or.inl ⟨by rfl, ?_⟩) (Or.inl (by assumption)) ?_
                    rotate_left 1
                    focus (intro W hSw; go_simp; first | done | with_reducible rfl)
                    (try simp only [Act.put, List.setIfInBounds_toArray, List.set_cons_zero, List.set_cons_succ])
                    refine wpAnyK_pure (i := 15) (v := ?_) (op_at _ 15 _ rfl) (by kernel_rfl) (by kernel_rfl) (by kernel_rfl) (by kernel_rfl) (fun _ _ _ h => h) (Or.inl ⟨by rfl, ?_⟩) (Or.inl (by assumption)) ?_
                    rotate_left 1
                    focus (intro W hSw; go_simp; first | done | with_reducible rfl)
                    (try simp only [Act.put, List.setIfInBounds_toArray, List.set_cons_zero, List.set_cons_succ])
                    refine wpAnyK_ready (rs := [16]) (by kernel_rfl) (by simp) ?_
                    refine AllReadyK.late (op_at _ 16 _ rfl) (by kernel_rfl) (fun K hK => ?_) AllReadyK.nil
                    go_simp
                    refine hK.out _ _ ?_
                    clear hK K
                    (try simp only [Act.put, List.setIfInBounds_toArray, List.set_cons_zero, List.set_cons_succ])
                    refine wpAnyK_pure (i := 17) (v := ?_) (op_at _ 17 _ rfl) (by kernel_rfl) (by kernel_rfl) (by kernel_rfl) (by kernel_rfl) (fun _ _ _ h => h) (Or.inl ⟨by rfl, ?_⟩) (Or.inr (by kernel_rfl)) ?_
                    rotate_left 1
                    focus (intro W hSw; go_simp; first | done | with_reducible rfl)
                    (try simp only [Act.put, List.setIfInBounds_toArray, List.set_cons_zero, List.set_cons_succ])
                    refine wpAnyK_ready (rs := [18]) (by kernel_rfl) (by simp) ?_
                    refine AllReadyK.late (op_at _ 18 _ rfl) (by kernel_rfl) (fun K hK => ?_) AllReadyK.nil
                    go_simp
                    refine hK.out _ _ ?_
                    clear hK K
                    (try simp only [Act.put, List.setIfInBounds_toArray, List.set_cons_zero, List.set_cons_succ])
                    refine wpAnyK_done (by kernel_rfl) ?_ _
                    rw [← HAI.out] at HNX
                    go_wp2
                    go_roundg (gk - 1)
                    case measure => omega
                    case rel => exact ⟨i + 1, _, _, by omega, by simp, HNX⟩
                  · have hAL' : AI = LG := by omega
                    have hin' : ¬ ((AI : Int) < (LG : Int)) := by omega
                    have hrn := HI5.out.rf.rn
                    rw [← HLG.out] at hrn
                    have hrd := HI5.out.rf.rd
                    rw [HI5.out.ok.ld, ← HLG.out] at hrd
                    have hvr := HV5.out.1
                    have HVS := hid HV5.out.2
                    have HNR : Hid (¬ Mut B' r) := hid (fun hm => HI5.out.rf.np (HI5.out.rf.mut hm))
                    have HK0 := hid k0; have HK2 := hid k2; have HG0 := hid g0; have HG2 := hid g2
                    have HALE : Hid (A + i = G.now.length) := hid (by rw [← HLG.out]; omega)
                    clear c0 c2 f0 f2 hAI
                    go_wp2_with fail
                    refine wp_region_K (S := Reads2 ⟨r, 1, none⟩ ⟨r, 1 + 2, none⟩ (.slice B'.aN LG B'.cN) (.slice B'.aD LG B'.cD)) (fun i => i == 17 || i == 20) (by kernel_rfl) ⟨k0, k2⟩ (fun hHeld => ?_)
                    obtain ⟨W0, hW0⟩ : ∃ W0, W0 = w5.drew := ⟨_, rfl⟩
                    rw [← hW0] at hHeld ⊢
                    have hR := hHeld
                    have hb0' : Below w5.heap.size w5 W0 := by rw [hW0]; exact (Below.refl _ _).drew
                    have hGF : GFr w5 W0 B' := (GFr.refl w5 B').later hb0'
                    have hN := own_later hrn hb0'
                    have hD := own_later hrd hb0'
                    have hV := own_later hvr hb0'
                    clear hW0 hrn hrd hvr hb0'
                    refine wpAnyK_pure (i := 0) (v := ?_) (op_at _ 0 _ rfl) (by kernel_rfl) (by kernel_rfl) (by kernel_rfl) (by kernel_rfl) (fun _ _ _ h => h) (Or.inl ⟨by rfl, ?_⟩) (Or.inl (by assumption)) ?_
                    rotate_left 1
                    focus (intro W hSw; go_simp; first | done | with_reducible rfl)
                    (try simp only [Act.put, List.setIfInBounds_toArray, List.set_cons_zero, List.set_cons_succ])
                    refine wpAnyK_pure (i := 1) (v := ?_) (op_at _ 1 _ rfl) (by kernel_rfl) (by kernel_rfl) (by kernel_rfl) (by kernel_rfl) (fun _ _ _ h => h) (Or.inl ⟨by rfl, ?_⟩) (Or.inl (by assumption)) ?_
                    rotate_left 1
                    focus (intro W hSw; go_simp; first | done | with_reducible rfl)
                    (try simp only [Act.put, List.setIfInBounds_toArray, List.set_cons_zero, List.set_cons_succ])
                    refine wpAnyK_pure (i := 2) (v := ?_) (op_at _ 2 _ rfl) (by kernel_rfl) (by kernel_rfl) (by kernel_rfl) (by kernel_rfl) (fun _ _ _ h => h) (Or.inl ⟨by rfl, ?_⟩) (Or.inl (by assumption)) ?_
                    rotate_left 1
                    focus (intro W hSw; go_simp; first | done | with_reducible rfl)
                    (try simp only [Act.put, List.setIfInBounds_toArray, List.set_cons_zero, List.set_cons_succ])
                    refine wpAnyK_pure (i := 3) (v := ?_) (op_at _ 3 _ rfl) (by kernel_rfl) (by kernel_rfl) (by kernel_rfl) (by kernel_rfl) (fun _ _ _ h => h) (Or.inl ⟨by rfl, ?_⟩) (Or.inl (by assumption)) ?_
                    rotate_left 1
                    focus (intro W hSw; go_simp; first | done | with_reducible rfl)
                    (try simp only [Act.put, List.setIfInBounds_toArray, List.set_cons_zero, List.set_cons_succ])
                    refine wpAnyK_pure (i := 4) (v := ?_) (op_at _ 4 _ rfl) (by kernel_rfl) (by kernel_rfl) (by kernel_rfl) (by kernel_rfl) (fun _ _ _ h => h) (Or.inl ⟨by rfl, ?_⟩) (Or.inl (by assumption)) ?_
                    rotate_left 1
                    focus (intro W hSw; go_simp; first | done | with_reducible rfl)
                    (try simp only [Act.put, List.setIfInBounds_toArray, List.set_cons_zero, List.set_cons_succ])
                    refine wpAnyK_take (i := 5) (v := ?_) (op_at _ 5 _ rfl) (by kernel_rfl) (by kernel_rfl) (by kernel_rfl) (by kernel_rfl) (fun _ _ _ h => h) (Or.inl ⟨by rfl, ?_⟩) (by assumption) ?_
                    rotate_left 1
                    focus (intro W hSw; obtain ⟨q0, q2⟩ := hSw; go_simp; first | done | with_reducible rfl)
                    (try simp only [Act.put, List.setIfInBounds_toArray, List.set_cons_zero, List.set_cons_succ])
                    refine wpAnyK_pure (i := 6) (v := ?_) (op_at _ 6 _ rfl) (by kernel_rfl) (by kernel_rfl) (by kernel_rfl) (by kernel_rfl) (fun _ _ _ h => h) (Or.inl ⟨by rfl, ?_⟩) (Or.inl (by assumption)) ?_
                    rotate_left 1
                    focus (intro W hSw; go_simp; first | done | with_reducible rfl)
                    (try simp only [Act.put, List.setIfInBounds_toArray, List.set_cons_zero, List.set_cons_succ])
                    refine wpAnyK_pure (i := 9) (v := ?_) (op_at _ 9 _ rfl) (by kernel_rfl) (by kernel_rfl) (by kernel_rfl) (by kernel_rfl) (fun _ _ _ h => h) (Or.inl ⟨by rfl, ?_⟩) (Or.inl (by assumption)) ?_
                    rotate_left 1
                    focus (intro W hSw; go_simp; first | done | with_reducible rfl)
                    (try simp only [Act.put, List.setIfInBounds_toArray, List.set_cons_zero, List.set_cons_succ])
                    refine wpAnyK_pure (i := 10) (v := ?_) (op_at _ 10 _ rfl) (by kernel_rfl) (by kernel_rfl) (by kernel_rfl) (by kernel_rfl) (fun _ _ _ h => h) (Or.inl ⟨by rfl, ?_⟩) (Or.inl (by assumption)) ?_
                    rotate_left 1
                    focus (intro W hSw; go_simp; first | done | with_reducible rfl)
                    (try simp only [Act.put, List.setIfInBounds_toArray, List.set_cons_zero, List.set_cons_succ])
                    refine wpAnyK_pure (i := 11) (v := ?_) (op_at _ 11 _ rfl) (by kernel_rfl) (by kernel_rfl) (by kernel_rfl) (by kernel_rfl) (fun _ _ _ h => h) (Or.inl ⟨by rfl, ?_⟩) (Or.inl (by assumption)) ?_
                    rotate_left 1
                    focus (intro W hSw; go_simp; first | done | with_reducible rfl)
                    (try simp only [Act.put, List.setIfInBounds_toArray, List.set_cons_zero, List.set_cons_succ])
                    refine wpAnyK_take (i := 12) (v := ?_) (op_at _ 12 _ rfl) (by kernel_rfl) (by kernel_rfl) (by kernel_rfl) (by kernel_rfl) (fun _ _ _ h => h) (Or.inl ⟨by rfl, ?_⟩) (by assumption) ?_
                    rotate_left 1
                    focus (intro W hSw; obtain ⟨q0, q2⟩ := hSw; go_simp; first | done | with_reducible rfl)
                    (try simp only [Act.put, List.setIfInBounds_toArray, List.set_cons_zero, List.set_cons_succ])
                    refine wpAnyK_ready (rs := [7, 13]) (by kernel_rfl) (by simp) ?_
                    refine AllReadyK.cons (op_at _ 7 _ rfl) (fun K hK => ?_) ?_
                    · go_simp
                      obtain ⟨W1, hW1⟩ : ∃ W', W' = W0.alloc (.cells #[.slice a5 128 c5] 37) := ⟨_, rfl⟩; rw [← hW1]; have hbW1 : Below W0.heap.size W0 W1 := (by rw [hW1]; exact (Below.refl _ _).alloc (Nat.le_refl _) _); replace hN := own_later hN hbW1; replace hD := own_later hD hbW1; replace hV := own_later hV hbW1; have hLN : W1.ownsRow 0 37 1 (.slice (some ⟨W0.heap.size, 0, none⟩) 1 1) 1 [.slice a5 128 c5] := (by rw [hW1]; exact own_lit W0 37 _); replace hGF := hGF.later hbW1; replace hR := hR.keep hbW1; clear hW1
                      refine hK.out _ _ hR (fun hHeld => ?_)
                      clear hK K
                      (try simp only [Act.put, List.setIfInBounds_toArray, List.set_cons_zero, List.set_cons_succ])
                      refine wpAnyK_ready (rs := [8, 13]) (by kernel_rfl) (by simp) ?_
                      refine AllReadyK.cons (op_at _ 8 _ rfl) (fun K hK => ?_) ?_
                      · refine step_app rfl (.tmp 142) (.tmp 144) el66 rfl (.slice B'.aN LG B'.cN) LG B'.vs rfl hN (some ⟨W0.heap.size, 0, none⟩) 1 1 [.slice a5 128 c5] rfl (src_row hLN (by intro u hu; simp at hu; subst hu; rfl)) (by omega) ?_; intro a8 c8 W2 ho8 hg8 hat8; have hl8 := hGF.size; have ha8 : ∀ a, a8 = some a → (∃ a', B'.aN = some a' ∧ a'.block = a.block) ∨ w5.heap.size ≤ a.block := (fun a ha => by rcases hat8 a ha with h | h; exact Or.inl (slice_own h); exact Or.inr (by omega)); replace hD := own_beside hD hg8 (fun k hk e => own_ne hD hN (by decide) hk e.symm rfl); replace hV := own_beside hV hg8 (fun k hk e => own_ne hV hN (by decide) hk e.symm rfl); replace hGF := hGF.grown hg8 (fun k hk => Or.inl (slice_own hk)); replace hR : Reads2 ⟨r, 1, none⟩ ⟨r, 1 + 2, none⟩ (.slice B'.aN LG B'.cN) (.slice B'.aD LG B'.cD) W2 := ⟨(World.cell?_of_block (hGF.block r hrl5 HNR.out)).trans HK0.out, (World.cell?_of_block (hGF.block r hrl5 HNR.out)).trans HK2.out⟩; clear hg8 hat8 hN hLN
                        refine hK.out _ _ hR (fun hHeld => ?_)
                        clear hK K
                        (try simp only [Act.put, List.setIfInBounds_toArray, List.set_cons_zero, List.set_cons_succ])
                        refine wpAnyK_ready (rs := [13]) (by kernel_rfl) (by simp) ?_
                        refine AllReadyK.cons (op_at _ 13 _ rfl) (fun K hK => ?_) AllReadyK.nil
                        go_simp
                        obtain ⟨W3, hW3⟩ : ∃ W', W' = W2.alloc (.cells #[.bool true] 4) := ⟨_, rfl⟩; rw [← hW3]; have hbW3 : Below W2.heap.size W2 W3 := (by rw [hW3]; exact (Below.refl _ _).alloc (Nat.le_refl _) _); replace hD := own_later hD hbW3; replace hV := own_later hV hbW3; replace ho8 := own_later ho8 hbW3; have hLD : W3.ownsRow 0 4 1 (.slice (some ⟨W2.heap.size, 0, none⟩) 1 1) 1 [.bool true] := (by rw [hW3]; exact own_lit W2 4 _); replace hGF := hGF.later hbW3; replace hR := hR.keep hbW3; clear hW3
                        refine hK.out _ _ hR (fun hHeld => ?_)
                        clear hK K
                        (try simp only [Act.put, List.setIfInBounds_toArray, List.set_cons_zero, List.set_cons_succ])
                        refine wpAnyK_ready (rs := [14]) (by kernel_rfl) (by simp) ?_
                        refine AllReadyK.cons (op_at _ 14 _ rfl) (fun K hK => ?_) AllReadyK.nil
                        refine step_app rfl (.tmp 149) (.tmp 150) el30 rfl (.slice B'.aD LG B'.cD) LG (vb G.dirt) rfl hD (some ⟨W2.heap.size, 0, none⟩) 1 1 [.bool true] rfl (src_row hLD (by intro u hu; simp at hu; subst hu; rfl)) (by omega) ?_; intro a9 c9 W4 ho9 hg9 hat9; have hl9 := hGF.size; have ha9 : ∀ a, a9 = some a → (∃ a', B'.aD = some a' ∧ a'.block = a.block) ∨ w5.heap.size ≤ a.block := (fun a ha => by rcases hat9 a ha with h | h; exact Or.inl (slice_own h); exact Or.inr (by omega)); replace hV := own_beside hV hg9 (fun k hk e => own_ne hV hD (by decide) hk e.symm rfl); replace ho8 := own_beside ho8 hg9 (fun k hk e => own_ne ho8 hD (by decide) hk e.symm rfl); replace hGF := hGF.grown hg9 (fun k hk => Or.inr (slice_own hk)); replace hR : Reads2 ⟨r, 1, none⟩ ⟨r, 1 + 2, none⟩ (.slice B'.aN LG B'.cN) (.slice B'.aD LG B'.cD) W4 := ⟨(World.cell?_of_block (hGF.block r hrl5 HNR.out)).trans HK0.out, (World.cell?_of_block (hGF.block r hrl5 HNR.out)).trans HK2.out⟩; have HNX := hid (wr_out HI5.out hiL hGF hV HVS.out HALE.out HLG.out ho8 ho9 ha8 ha9); have y0 := hR.1; have y2 := hR.2; have z0 : W4.frozen? ⟨r, 1, none⟩ = false := (World.frozen?_of_block (hGF.block r hrl5 HNR.out)).trans HG0.out; have z2 : W4.frozen? ⟨r, 1 + 2, none⟩ = false := (World.frozen?_of_block (hGF.block r hrl5 HNR.out)).trans HG2.out; clear hg9 hat9 hD hLD ho8 ho9 ha8 ha9
                        refine hK.out _ _ hR (fun hHeld => ?_)
                        clear hK K
                        (try simp only [Act.put, List.setIfInBounds_toArray, List.set_cons_zero, List.set_cons_succ])
                        refine wpAnyK_pure (i := 15) (v := ?_) (op_at _ 15 _ rfl) (by kernel_rfl) (by kernel_rfl) (by kernel_rfl) (by kernel_rfl) (fun _ _ _ h => h) (Or.inl ⟨by rfl, ?_⟩) (Or.inl (by assumption)) ?_
                        rotate_left 1
                        focus (intro W hSw; go_simp; first | done | with_reducible rfl)
                        (try simp only [Act.put, List.setIfInBounds_toArray, List.set_cons_zero, List.set_cons_succ])
                        refine wpAnyK_pure (i := 16) (v := ?_) (op_at _ 16 _ rfl) (by kernel_rfl) (by kernel_rfl) (by kernel_rfl) (by kernel_rfl) (fun _ _ _ h => h) (Or.inl ⟨by rfl, ?_⟩) (Or.inl (by assumption)) ?_
                        rotate_left 1
                        focus (intro W hSw; go_simp; first | done | with_reducible rfl)
                        (try simp only [Act.put, List.setIfInBounds_toArray, List.set_cons_zero, List.set_cons_succ])
                        refine wpAnyK_ready (rs := [17]) (by kernel_rfl) (by simp) ?_
                        refine AllReadyK.late (op_at _ 17 _ rfl) (by kernel_rfl) (fun K hK => ?_) AllReadyK.nil
                        go_simp
                        refine hK.out _ _ ?_
                        clear hK K
                        (try simp only [Act.put, List.setIfInBounds_toArray, List.set_cons_zero, List.set_cons_succ])
                        refine wpAnyK_pure (i := 18) (v := ?_) (op_at _ 18 _ rfl) (by kernel_rfl) (by kernel_rfl) (by kernel_rfl) (by kernel_rfl) (fun _ _ _ h => h) (Or.inl ⟨by rfl, ?_⟩) (Or.inr (by kernel_rfl)) ?_
                        rotate_left 1
                        focus (intro W hSw; go_simp; first | done | with_reducible rfl)
                        (try simp only [Act.put, List.setIfInBounds_toArray, List.set_cons_zero, List.set_cons_succ])
                        refine wpAnyK_pure (i := 19) (v := ?_) (op_at _ 19 _ rfl) (by kernel_rfl) (by kernel_rfl) (by kernel_rfl) (by kernel_rfl) (fun _ _ _ h => h) (Or.inl ⟨by rfl, ?_⟩) (Or.inr (by kernel_rfl)) ?_
                        rotate_left 1
                        focus (intro W hSw; go_simp; first | done | with_reducible rfl)
                        (try simp only [Act.put, List.setIfInBounds_toArray, List.set_cons_zero, List.set_cons_succ])
                        refine wpAnyK_ready (rs := [20]) (by kernel_rfl) (by simp) ?_
                        refine AllReadyK.late (op_at _ 20 _ rfl) (by kernel_rfl) (fun K hK => ?_) AllReadyK.nil
                        go_simp
                        refine hK.out _ _ ?_
                        clear hK K
                        (try simp only [Act.put, List.setIfInBounds_toArray, List.set_cons_zero, List.set_cons_succ])
                        refine wpAnyK_done (by kernel_rfl) ?_ _
                        go_wp2
                        go_roundg (gk - 1)
                        case measure => omega
                        case rel => exact ⟨i + 1, _, _, by omega, by simp, HNX⟩
                      refine AllReadyK.cons (op_at _ 13 _ rfl) (fun K hK => ?_) ?_
                      · go_simp
                        obtain ⟨W2, hW2⟩ : ∃ W', W' = W1.alloc (.cells #[.bool true] 4) := ⟨_, rfl⟩; rw [← hW2]; have hbW2 : Below W1.heap.size W1 W2 := (by rw [hW2]; exact (Below.refl _ _).alloc (Nat.le_refl _) _); replace hN := own_later hN hbW2; replace hD := own_later hD hbW2; replace hV := own_later hV hbW2; replace hLN := own_later hLN hbW2; have hLD : W2.ownsRow 0 4 1 (.slice (some ⟨W1.heap.size, 0, none⟩) 1 1) 1 [.bool true] := (by rw [hW2]; exact own_lit W1 4 _); replace hGF := hGF.later hbW2; replace hR := hR.keep hbW2; clear hW2
                        refine hK.out _ _ hR (fun hHeld => ?_)
                        clear hK K
                        (try simp only [Act.put, List.setIfInBounds_toArray, List.set_cons_zero, List.set_cons_succ])
                        refine wpAnyK_ready (rs := [8]) (by kernel_rfl) (by simp) ?_
                        refine AllReadyK.cons (op_at _ 8 _ rfl) (fun K hK => ?_) AllReadyK.nil
                        refine step_app rfl (.tmp 142) (.tmp 144) el66 rfl (.slice B'.aN LG B'.cN) LG B'.vs rfl hN (some ⟨W0.heap.size, 0, none⟩) 1 1 [.slice a5 128 c5] rfl (src_row hLN (by intro u hu; simp at hu; subst hu; rfl)) (by omega) ?_; intro a8 c8 W3 ho8 hg8 hat8; have hl8 := hGF.size; have ha8 : ∀ a, a8 = some a → (∃ a', B'.aN = some a' ∧ a'.block = a.block) ∨ w5.heap.size ≤ a.block := (fun a ha => by rcases hat8 a ha with h | h; exact Or.inl (slice_own h); exact Or.inr (by omega)); replace hD := own_beside hD hg8 (fun k hk e => own_ne hD hN (by decide) hk e.symm rfl); replace hV := own_beside hV hg8 (fun k hk e => own_ne hV hN (by decide) hk e.symm rfl); replace hLD := own_beside hLD hg8 (fun k hk e => own_ne hLD hN (by decide) hk e.symm rfl); replace hGF := hGF.grown hg8 (fun k hk => Or.inl (slice_own hk)); replace hR : Reads2 ⟨r, 1, none⟩ ⟨r, 1 + 2, none⟩ (.slice B'.aN LG B'.cN) (.slice B'.aD LG B'.cD) W3 := ⟨(World.cell?_of_block (hGF.block r hrl5 HNR.out)).trans HK0.out, (World.cell?_of_block (hGF.block r hrl5 HNR.out)).trans HK2.out⟩; clear hg8 hat8 hN hLN
                        refine hK.out _ _ hR (fun hHeld => ?_)
                        clear hK K
                        (try simp only [Act.put, List.setIfInBounds_toArray, List.set_cons_zero, List.set_cons_succ])
                        refine wpAnyK_ready (rs := [14]) (by kernel_rfl) (by simp) ?_
                        refine AllReadyK.cons (op_at _ 14 _ rfl) (fun K hK => ?_) AllReadyK.nil
                        refine step_app rfl (.tmp 149) (.tmp 150) el30 rfl (.slice B'.aD LG B'.cD) LG (vb G.dirt) rfl hD (some ⟨W1.heap.size, 0, none⟩) 1 1 [.bool true] rfl (src_row hLD (by intro u hu; simp at hu; subst hu; rfl)) (by omega) ?_; intro a9 c9 W4 ho9 hg9 hat9; have hl9 := hGF.size; have ha9 : ∀ a, a9 = some a → (∃ a', B'.aD = some a' ∧ a'.block = a.block) ∨ w5.heap.size ≤ a.block := (fun a ha => by rcases hat9 a ha with h | h; exact Or.inl (slice_own h); exact Or.inr (by omega)); replace hV := own_beside hV hg9 (fun k hk e => own_ne hV hD (by decide) hk e.symm rfl); replace ho8 := own_beside ho8 hg9 (fun k hk e => own_ne ho8 hD (by decide) hk e.symm rfl); replace hGF := hGF.grown hg9 (fun k hk => Or.inr (slice_own hk)); replace hR : Reads2 ⟨r, 1, none⟩ ⟨r, 1 + 2, none⟩ (.slice B'.aN LG B'.cN) (.slice B'.aD LG B'.cD) W4 := ⟨(World.cell?_of_block (hGF.block r hrl5 HNR.out)).trans HK0.out, (World.cell?_of_block (hGF.block r hrl5 HNR.out)).trans HK2.out⟩; have HNX := hid (wr_out HI5.out hiL hGF hV HVS.out HALE.out HLG.out ho8 ho9 ha8 ha9); have y0 := hR.1; have y2 := hR.2; have z0 : W4.frozen? ⟨r, 1, none⟩ = false := (World.frozen?_of_block (hGF.block r hrl5 HNR.out)).trans HG0.out; have z2 : W4.frozen? ⟨r, 1 + 2, none⟩ = false := (World.frozen?_of_block (hGF.block r hrl5 HNR.out)).trans HG2.out; clear hg9 hat9 hD hLD ho8 ho9 ha8 ha9
                        refine hK.out _ _ hR (fun hHeld => ?_)
                        clear hK K
                        (try simp only [Act.put, List.setIfInBounds_toArray, List.set_cons_zero, List.set_cons_succ])
                        refine wpAnyK_pure (i := 15) (v := ?_) (op_at _ 15 _ rfl) (by kernel_rfl) (by kernel_rfl) (by kernel_rfl) (by kernel_rfl) (fun _ _ _ h => h) (Or.inl ⟨by rfl, ?_⟩) (Or.inl (by assumption)) ?_
                        rotate_left 1
                        focus (intro W hSw; go_simp; first | done | with_reducible rfl)
                        (try simp only [Act.put, List.setIfInBounds_toArray, List.set_cons_zero, List.set_cons_succ])
                        refine wpAnyK_pure (i := 16) (v := ?_) (op_at _ 16 _ rfl) (by kernel_rfl) (by kernel_rfl) (by kernel_rfl) (by kernel_rfl) (fun _ _ _ h => h) (Or.inl ⟨by rfl, ?_⟩) (Or.inl (by assumption)) ?_
                        rotate_left 1
                        focus (intro W hSw; go_simp; first | done | with_reducible rfl)
                        (try simp only [Act.put, List.setIfInBounds_toArray, List.set_cons_zero, List.set_cons_succ])
                        refine wpAnyK_ready (rs := [17]) (by kernel_rfl) (by simp) ?_
                        refine AllReadyK.late (op_at _ 17 _ rfl) (by kernel_rfl) (fun K hK => ?_) AllReadyK.nil
                        go_simp
                        refine hK.out _ _ ?_
                        clear hK K
                        (try simp only [Act.put, List.setIfInBounds_toArray, List.set_cons_zero, List.set_cons_succ])
                        refine wpAnyK_pure (i := 18) (v := ?_) (op_at _ 18 _ rfl) (by kernel_rfl) (by kernel_rfl) (by kernel_rfl) (by kernel_rfl) (fun _ _ _ h => h) (Or.inl ⟨by rfl, ?_⟩) (Or.inr (by kernel_rfl)) ?_
                        rotate_left 1
                        focus (intro W hSw; go_simp; first | done | with_reducible rfl)
                        (try simp only [Act.put, List.setIfInBounds_toArray, List.set_cons_zero, List.set_cons_succ])
                        refine wpAnyK_pure (i := 19) (v := ?_) (op_at _ 19 _ rfl) (by kernel_rfl) (by kernel_rfl) (by kernel_rfl) (by kernel_rfl) (fun _ _ _ h => h) (Or.inl ⟨by rfl, ?_⟩) (Or.inr (by kernel_rfl)) ?_
                        rotate_left 1
                        focus (intro W hSw; go_simp; first | done | with_reducible rfl)
                        (try simp only [Act.put, List.setIfInBounds_toArray, List.set_cons_zero, List.set_cons_succ])
                        refine wpAnyK_ready (rs := [20]) (by kernel_rfl) (by simp) ?_
                        refine AllReadyK.late (op_at _ 20 _ rfl) (by kernel_rfl) (fun K hK => ?_) AllReadyK.nil
                        go_simp
                        refine hK.out _ _ ?_
                        clear hK K
                        (try simp only [Act.put, List.setIfInBounds_toArray, List.set_cons_zero, List.set_cons_succ])
                        refine wpAnyK_done (by kernel_rfl) ?_ _
                        go_wp2
                        go_roundg (gk - 1)
                        case measure => omega
                        case rel => exact ⟨i + 1, _, _, by omega, by simp, HNX⟩
                      exact AllReadyK.nil
                    refine AllReadyK.cons (op_at _ 13 _ rfl) (fun K hK => ?_) ?_
                    · go_simp
                      obtain ⟨W1, hW1⟩ : ∃ W', W' = W0.alloc (.cells #[.bool true] 4) := ⟨_, rfl⟩; rw [← hW1]; have hbW1 : Below W0.heap.size W0 W1 := (by rw [hW1]; exact (Below.refl _ _).alloc (Nat.le_refl _) _); replace hN := own_later hN hbW1; replace hD := own_later hD hbW1; replace hV := own_later hV hbW1; have hLD : W1.ownsRow 0 4 1 (.slice (some ⟨W0.heap.size, 0, none⟩) 1 1) 1 [.bool true] := (by rw [hW1]; exact own_lit W0 4 _); replace hGF := hGF.later hbW1; replace hR := hR.keep hbW1; clear hW1
                      refine hK.out _ _ hR (fun hHeld => ?_)
                      clear hK K
                      (try simp only [Act.put, List.setIfInBounds_toArray, List.set_cons_zero, List.set_cons_succ])
                      refine wpAnyK_ready (rs := [7]) (by kernel_rfl) (by simp) ?_
                      refine AllReadyK.cons (op_at _ 7 _ rfl) (fun K hK => ?_) AllReadyK.nil
                      go_simp
                      obtain ⟨W2, hW2⟩ : ∃ W', W' = W1.alloc (.cells #[.slice a5 128 c5] 37) := ⟨_, rfl⟩; rw [← hW2]; have hbW2 : Below W1.heap.size W1 W2 := (by rw [hW2]; exact (Below.refl _ _).alloc (Nat.le_refl _) _); replace hN := own_later hN hbW2; replace hD := own_later hD hbW2; replace hV := own_later hV hbW2; replace hLD := own_later hLD hbW2; have hLN : W2.ownsRow 0 37 1 (.slice (some ⟨W1.heap.size, 0, none⟩) 1 1) 1 [.slice a5 128 c5] := (by rw [hW2]; exact own_lit W1 37 _); replace hGF := hGF.later hbW2; replace hR := hR.keep hbW2; clear hW2
                      refine hK.out _ _ hR (fun hHeld => ?_)
                      clear hK K
                      (try simp only [Act.put, List.setIfInBounds_toArray, List.set_cons_zero, List.set_cons_succ])
                      refine wpAnyK_ready (rs := [8]) (by kernel_rfl) (by simp) ?_
                      refine AllReadyK.cons (op_at _ 8 _ rfl) (fun K hK => ?_) AllReadyK.nil
                      refine step_app rfl (.tmp 142) (.tmp 144) el66 rfl (.slice B'.aN LG B'.cN) LG B'.vs rfl hN (some ⟨W1.heap.size, 0, none⟩) 1 1 [.slice a5 128 c5] rfl (src_row hLN (by intro u hu; simp at hu; subst hu; rfl)) (by omega) ?_; intro a8 c8 W3 ho8 hg8 hat8; have hl8 := hGF.size; have ha8 : ∀ a, a8 = some a → (∃ a', B'.aN = some a' ∧ a'.block = a.block) ∨ w5.heap.size ≤ a.block := (fun a ha => by rcases hat8 a ha with h | h; exact Or.inl (slice_own h); exact Or.inr (by omega)); replace hD := own_beside hD hg8 (fun k hk e => own_ne hD hN (by decide) hk e.symm rfl); replace hV := own_beside hV hg8 (fun k hk e => own_ne hV hN (by decide) hk e.symm rfl); replace hLD := own_beside hLD hg8 (fun k hk e => own_ne hLD hN (by decide) hk e.symm rfl); replace hGF := hGF.grown hg8 (fun k hk => Or.inl (slice_own hk)); replace hR : Reads2 ⟨r, 1, none⟩ ⟨r, 1 + 2, none⟩ (.slice B'.aN LG B'.cN) (.slice B'.aD LG B'.cD) W3 := ⟨(World.cell?_of_block (hGF.block r hrl5 HNR.out)).trans HK0.out, (World.cell?_of_block (hGF.block r hrl5 HNR.out)).trans HK2.out⟩; clear hg8 hat8 hN hLN
                      refine hK.out _ _ hR (fun hHeld => ?_)
                      clear hK K
                      (try simp only [Act.put, List.setIfInBounds_toArray, List.set_cons_zero, List.set_cons_succ])
                      refine wpAnyK_ready (rs := [14]) (by kernel_rfl) (by simp) ?_
                      refine AllReadyK.cons (op_at _ 14 _ rfl) (fun K hK => ?_) AllReadyK.nil
                      refine step_app rfl (.tmp 149) (.tmp 150) el30 rfl (.slice B'.aD LG B'.cD) LG (vb G.dirt) rfl hD (some ⟨W0.heap.size, 0, none⟩) 1 1 [.bool true] rfl (src_row hLD (by intro u hu; simp at hu; subst hu; rfl)) (by omega) ?_; intro a9 c9 W4 ho9 hg9 hat9; have hl9 := hGF.size; have ha9 : ∀ a, a9 = some a → (∃ a', B'.aD = some a' ∧ a'.block = a.block) ∨ w5.heap.size ≤ a.block := (fun a ha => by rcases hat9 a ha with h | h; exact Or.inl (slice_own h); exact Or.inr (by omega)); replace hV := own_beside hV hg9 (fun k hk e => own_ne hV hD (by decide) hk e.symm rfl); replace ho8 := own_beside ho8 hg9 (fun k hk e => own_ne ho8 hD (by decide) hk e.symm rfl); replace hGF := hGF.grown hg9 (fun k hk => Or.inr (slice_own hk)); replace hR : Reads2 ⟨r, 1, none⟩ ⟨r, 1 + 2, none⟩ (.slice B'.aN LG B'.cN) (.slice B'.aD LG B'.cD) W4 := ⟨(World.cell?_of_block (hGF.block r hrl5 HNR.out)).trans HK0.out, (World.cell?_of_block (hGF.block r hrl5 HNR.out)).trans HK2.out⟩; have HNX := hid (wr_out HI5.out hiL hGF hV HVS.out HALE.out HLG.out ho8 ho9 ha8 ha9); have y0 := hR.1; have y2 := hR.2; have z0 : W4.frozen? ⟨r, 1, none⟩ = false := (World.frozen?_of_block (hGF.block r hrl5 HNR.out)).trans HG0.out; have z2 : W4.frozen? ⟨r, 1 + 2, none⟩ = false := (World.frozen?_of_block (hGF.block r hrl5 HNR.out)).trans HG2.out; clear hg9 hat9 hD hLD ho8 ho9 ha8 ha9
                      refine hK.out _ _ hR (fun hHeld => ?_)
                      clear hK K
                      (try simp only [Act.put, List.setIfInBounds_toArray, List.set_cons_zero, List.set_cons_succ])
                      refine wpAnyK_pure (i := 15) (v := ?_) (op_at _ 15 _ rfl) (by kernel_rfl) (by kernel_rfl) (by kernel_rfl) (by kernel_rfl) (fun _ _ _ h => h) (Or.inl ⟨by rfl, ?_⟩) (Or.inl (by assumption)) ?_
                      rotate_left 1
                      focus (intro W hSw; go_simp; first | done | with_reducible rfl)
                      (try simp only [Act.put, List.setIfInBounds_toArray, List.set_cons_zero, List.set_cons_succ])
                      refine wpAnyK_pure (i := 16) (v := ?_) (op_at _ 16 _ rfl) (by kernel_rfl) (by kernel_rfl) (by kernel_rfl) (by kernel_rfl) (fun _ _ _ h => h) (Or.inl ⟨by rfl, ?_⟩) (Or.inl (by assumption)) ?_
                      rotate_left 1
                      focus (intro W hSw; go_simp; first | done | with_reducible rfl)
                      (try simp only [Act.put, List.setIfInBounds_toArray, List.set_cons_zero, List.set_cons_succ])
                      refine wpAnyK_ready (rs := [17]) (by kernel_rfl) (by simp) ?_
                      refine AllReadyK.late (op_at _ 17 _ rfl) (by kernel_rfl) (fun K hK => ?_) AllReadyK.nil
                      go_simp
                      refine hK.out _ _ ?_
                      clear hK K
                      (try simp only [Act.put, List.setIfInBounds_toArray, List.set_cons_zero, List.set_cons_succ])
                      refine wpAnyK_pure (i := 18) (v := ?_) (op_at _ 18 _ rfl) (by kernel_rfl) (by kernel_rfl) (by kernel_rfl) (by kernel_rfl) (fun _ _ _ h => h) (Or.inl ⟨by rfl, ?_⟩) (Or.inr (by kernel_rfl)) ?_
                      rotate_left 1
                      focus (intro W hSw; go_simp; first | done | with_reducible rfl)
                      (try simp only [Act.put, List.setIfInBounds_toArray, List.set_cons_zero, List.set_cons_succ])
                      refine wpAnyK_pure (i := 19) (v := ?_) (op_at _ 19 _ rfl) (by kernel_rfl) (by kernel_rfl) (by kernel_rfl) (by kernel_rfl) (fun _ _ _ h => h) (Or.inl ⟨by rfl, ?_⟩) (Or.inr (by kernel_rfl)) ?_
                      rotate_left 1
                      focus (intro W hSw; go_simp; first | done | with_reducible rfl)
                      (try simp only [Act.put, List.setIfInBounds_toArray, List.set_cons_zero, List.set_cons_succ])
                      refine wpAnyK_ready (rs := [20]) (by kernel_rfl) (by simp) ?_
                      refine AllReadyK.late (op_at _ 20 _ rfl) (by kernel_rfl) (fun K hK => ?_) AllReadyK.nil
                      go_simp
                      refine hK.out _ _ ?_
                      clear hK K
                      (try simp only [Act.put, List.setIfInBounds_toArray, List.set_cons_zero, List.set_cons_succ])
                      refine wpAnyK_done (by kernel_rfl) ?_ _
                      go_wp2
                      go_roundg (gk - 1)
                      case measure => omega
                      case rel => exact ⟨i + 1, _, _, by omega, by simp, HNX⟩
                    exact AllReadyK.nil
                · have hiE : i = SL := by omega
                  have hiS' : ¬ ((i : Int) < (SL : Int)) := by omega
                  go_wp2
                  go_ret
                  have hI' := hI.out
                  have ht : FTurn W3 wr r 1 R.S0 R.B0 (wrN (tickD d).f0 A ss) B' := by
                    have hc : G = wrN (tickD d).f0 A ss := by
                      have := hI'.eq
                      rw [List.drop_eq_nil_of_le (by rw [hiE, HSL.out]; exact Nat.le_refl _)] at this
                      rw [show (tickD d).f0 = d.f0 from rfl, ← HF.out]
                      exact this
                    rw [← hc, ← HB.out]
                    exact ⟨hI'.rf, hI'.fr, hI'.mu⟩
                  have hok := HD3.out.ok
                  obtain ⟨hw1, hw2⟩ := wrN_ok ss hok.ok0 (i := A) (by show A ≤ d.f0.now.length; rw [← HLL.out]; exact hAL) HSS.out
                  obtain ⟨h1, h2, h3⟩ := HD3.out.file0 ht ⟨hok.r1, hok.r2, by show (wrN (tickD d).f0 A ss).now.length + (tickD d).f1.now.length ≤ (tickD d).room; rw [hw2, ← HSL.out]; have e1 : (tickD d).f0.now.length = L := HLL.out.symm; have e2 : (tickD d).f1.now.length = LM := HLM.out.symm; have e3 : (tickD d).room = d.room := rfl; omega, hw1, hok.ok1, hok.kl, hok.tn, hok.lf, hok.op⟩
                  exact ⟨rfl, ⟨_, h1, h2.of HFR3.out.size⟩, HFR3.out.trans (h3.imp (fun _ _ h => Or.inl h))⟩

set_option maxHeartbeats 8000000 in
set_option maxRecDepth 20000 in
theorem rwrite_1 (r : Nat) (R : RParts) (d : DS) (at_ : Int) (bo : Option Addr) (bn bc : Nat) (ss : List Sec) (w : World) (h : RefP w r R d) (ho : d.off = false) (hop : d.ops < 1000000000)
    (hss : ∀ x ∈ ss, x.length = 128) (hsl : ss.length ≤ 1000) (hn : bn = ss.length * 128) (hb : ∀ w', DFrame w w' r R.mut → Rd w' bo bn bc ss.flatten) :
    Calls Try.prog 31 #[.pointer (some ⟨r, 0, none⟩), .int .i64 1, .int .i64 at_, .slice bo bn bc] w fun e w' => e = .returned (.int .i64 (writeD d 1 at_ ss).1) ∧ (∃ R', RefP w' r R' (writeD d 1 at_ ss).2 ∧ RGrew R w R') ∧ DFrame w w' r R.mut := by
  have c7 := h.c7
  rw [ho] at c7
  have H := hid h
  have c0 := h.f1.c0
  have hr2 := h.ok.r2; have hsum := h.ok.sum
  obtain ⟨L, hLL⟩ : ∃ L, L = d.f1.now.length := ⟨_, rfl⟩
  rw [← hLL] at c0
  obtain ⟨LM, hLM⟩ : ∃ LM, LM = d.f0.now.length := ⟨_, rfl⟩
  have hlb : L + LM ≤ d.room := by omega
  obtain ⟨SL, hSL⟩ : ∃ SL, SL = ss.length := ⟨_, rfl⟩
  have HLL := hid hLL; have HLM := hid hLM; have HSL := hid hSL; have HSS := hid hss; have HB0 := hid hb; have HN := hid hn
  have hcd : writeD d 1 at_ ss = if at_ < 0 ∨ (L : Int) < at_ then (11, d) else if SL = 0 then (2, d) else if d.left = 1 then (4, crashD (opsD d) d.keep d.torn) else if d.room < at_.toNat + SL + LM then (3, tickD d) else (0, (tickD d).put 1 (wrN d.f1 at_.toNat ss)) := by
    have hf : fullD d L (at_.toNat + SL) = decide (d.room < at_.toNat + SL + LM) := by
      unfold fullD
      rw [decide_eq_decide, ← hLM, ← hLL]
      omega
    have hd2 : (d.file 1) = d.f1 := rfl
    simp only [writeD, ho, hd2, ← hLL, ← hSL, hf, decide_eq_true_eq]; rfl
  rw [hcd]
  have hbn : (bn : Int).tdiv 128 = (SL : Int) := by rw [hn, hSL]; exact tdiv128 _
  have hbm : (bn : Int).tmod 128 = 0 := by rw [hn]; exact tmod128 _
  have HBE : Hid (bn = SL * 128) := hid (by rw [hn, hSL])
  rw [← hSL] at hsl
  clear hcd h hsum hLL hLM hSL hss hb hn
  by_cases h1 : at_ < 0
  · rw [if_pos (Or.inl h1)]
    go_enter Try.func31, Try.ntmps31
    go_wp2
    go_ret
    exact ⟨rfl, ⟨R, H.out, RGrew.refl _ _⟩, DFrame.refl _ _ _⟩
  · have h1' : decide (at_ < 0) = false := by simp; omega
    by_cases h2 : (L : Int) < at_
    · rw [if_pos (Or.inr h2)]
      go_enter Try.func31, Try.ntmps31
      go_wp2
      go_ret
      exact ⟨rfl, ⟨R, H.out, RGrew.refl _ _⟩, DFrame.refl _ _ _⟩
    · rw [if_neg (by omega)]
      have h2' : decide ((L : Int) < at_) = false := by simp; omega
      obtain ⟨A, rfl⟩ := Int.eq_ofNat_of_zero_le (show 0 ≤ at_ by omega)
      rw [Int.toNat_natCast]
      have hAL : A ≤ L := by omega
      clear h1 h2
      by_cases h3 : SL = 0
      · rw [if_pos h3]
        have hb0 : bn = 0 := by have := HBE.out; omega
        clear hbn hbm HBE HN HB0
        subst hb0
        go_enter Try.func31, Try.ntmps31
        go_wp2
        go_ret
        exact ⟨rfl, ⟨R, H.out, RGrew.refl _ _⟩, DFrame.refl _ _ _⟩
      · rw [if_neg h3]
        have hb0 : ((bn : Int) == 0) = false := by have := HBE.out; simp; omega
        obtain ⟨b, off, hbo⟩ : ∃ b off, bo = some ⟨b, off, none⟩ := by
          obtain ⟨b, off, e, _⟩ := (HB0.out w (DFrame.refl _ _ _)).2.2.2 (by have := HBE.out; omega)
          exact ⟨b, off, e⟩
        subst hbo
        by_cases hl : d.left = 1
        · rw [if_pos hl]
          have CO := hid (rop_crash r R d w H.out ho hl hop)
          go_enter Try.func31, Try.ntmps31
          go_wp2_with (go_at_call 55; refine CO.out.mono ?_; rintro e w2 ⟨rfl, hd, hfr⟩; replace hd := hid hd; replace hfr := hid hfr)
          go_ret
          exact ⟨rfl, hd.out, hfr.out⟩
        · rw [if_neg hl]
          have CO := hid (rop_go r R d w H.out hl hop)
          obtain ⟨B, hB⟩ : ∃ B, B = R.B1 := ⟨_, rfl⟩
          obtain ⟨F, hF⟩ : ∃ F, F = d.f1 := ⟨_, rfl⟩
          have HB := hid hB; have HF := hid hF
          rw [← hB] at c0
          clear hB hF
          by_cases hfull : d.room < A + SL + LM
          · rw [if_pos hfull]
            go_enter Try.func31, Try.ntmps31
            go_upto_if 65 with (go_at_call 55; refine CO.out.mono ?_; rintro e w2 ⟨rfl, hd, hfr⟩; have d0 := hd.f1.c0; have dm := hd.f0.c0; have dr := hd.c0; rw [show (tickD d).f1 = d.f1 from rfl, ← HLL.out, ← HB.out] at d0; rw [show (tickD d).f0 = d.f0 from rfl, ← HLM.out] at dm; rw [show (tickD d).room = d.room from rfl] at dr; replace hd := hid hd; replace hfr := hid hfr; clear CO)
            go_cut [9] from 56 to 74 (fun n W => W = w2 ∧ n = .int .i64 ((max (A + SL) L : Nat) : Int))
            case first =>
              by_cases hE : A + SL < L
              · have hE' : (A : Int) + (SL : Int) < (L : Int) := by omega
                exfalso; omega
              · have hE' : ¬ ((A : Int) + (SL : Int) < (L : Int)) := by omega
                go_wp2
                go_meet
                case rel => exact ⟨rfl, by rw [Nat.max_eq_left (by omega)]; simp⟩
            case rest =>
              obtain ⟨rfl, rfl⟩ := hcut
              obtain ⟨MX, hMX⟩ : ∃ MX, MX = max (A + SL) L := ⟨_, rfl⟩
              rw [← hMX]
              have hF1 : (d.room : Int) < (MX : Int) + (LM : Int) := by omega
              have hMXb : MX ≤ 40000 := by omega
              have hLMb : LM ≤ 40000 := by omega
              clear hMX
              go_wp2_with fail
              go_region
              go_wp2
              go_ret
              exact ⟨rfl, ⟨_, hd.out.drew, (RGrew.refl _ _).of hfr.out.size⟩, hfr.out.drewD⟩
          · rw [if_neg hfull]
            go_enter Try.func31, Try.ntmps31
            go_upto_if 65 with (go_at_call 55; refine CO.out.mono ?_; rintro e w2 ⟨rfl, hd, hfr⟩; have d0 := hd.f1.c0; have dm := hd.f0.c0; have dr := hd.c0; rw [show (tickD d).f1 = d.f1 from rfl, ← HLL.out, ← HB.out] at d0; rw [show (tickD d).f0 = d.f0 from rfl, ← HLM.out] at dm; rw [show (tickD d).room = d.room from rfl] at dr; replace hd := hid hd; replace hfr := hid hfr; clear CO)
            go_cut [9] from 56 to 74 (fun n W => W = w2 ∧ n = .int .i64 ((max (A + SL) L : Nat) : Int))
            case first =>
              by_cases hE : A + SL < L
              · have hE' : (A : Int) + (SL : Int) < (L : Int) := by omega
                go_wp2
                go_meet
                case rel => exact ⟨rfl, by rw [Nat.max_eq_right (by omega)]⟩
              · have hE' : ¬ ((A : Int) + (SL : Int) < (L : Int)) := by omega
                go_wp2
                go_meet
                case rel => exact ⟨rfl, by rw [Nat.max_eq_left (by omega)]; simp⟩
            case rest =>
              obtain ⟨rfl, rfl⟩ := hcut
              obtain ⟨MX, hMX⟩ : ∃ MX, MX = max (A + SL) L := ⟨_, rfl⟩
              rw [← hMX]
              have hF1 : ¬ ((d.room : Int) < (MX : Int) + (LM : Int)) := by omega
              have hMXb : MX ≤ 40000 := by omega
              have hLMb : LM ≤ 40000 := by omega
              clear hMX
              go_wp2_with fail
              go_region
              go_wp2
              obtain ⟨W3, hW3⟩ : ∃ W3, W3 = wc.drew := ⟨_, rfl⟩
              rw [← hW3]
              have HD3 : Hid (RefP W3 r R (tickD d)) := hid (by rw [hW3]; exact hd.out.drew)
              have HFR3 : Hid (DFrame w W3 r R.mut) := hid (by rw [hW3]; exact hfr.out.drewD)
              have HRB : Hid (∀ W, FFrame W3 W r 4 (Mut B) → Rd W (some ⟨b, off, none⟩) bn bc ss.flatten) := hid (fun W hf => HB0.out W (HFR3.out.trans (hf.df.imp (fun k _ hk => Or.inl (Or.inr (by rw [← HB.out]; exact hk))))))
              clear hW3 d0 dm dr hd hfr
              go_loopg [11] SL (fun k c W => ∃ (i : Nat) (B' : RP) (G : FS), i + k = SL ∧ c = .int .i64 (i : Int) ∧ Hid (WrI W3 r 4 R.S1 B F A ss i B' G W))
              case atStart =>
                refine ⟨0, B, F, by omega, rfl, hid ⟨?_, FFrame.refl _ _ _ _, fun k hk => Or.inl hk, ?_, by simp, ?_, ?_⟩⟩
                · have := HD3.out.f1.up
                  rw [show (tickD d).f1 = d.f1 from rfl, ← HF.out, ← HB.out] at this
                  exact this
                · rw [HF.out]; exact H.out.ok.ok1
                · rw [HF.out, ← HLL.out]; exact hAL
                · omega
              case round =>
                obtain ⟨i, B', G, hik, rfl, hI⟩ := hrel
                obtain ⟨LG, hLG⟩ : ∃ LG, LG = G.now.length := ⟨_, rfl⟩
                have HLG := hid hLG
                have c0 := hI.out.rf.c0
                rw [← hLG] at c0
                have c2 := hI.out.rf.c2
                rw [hI.out.ok.ld, ← hLG] at c2
                have f0 : wr.frozen? ⟨r, 4, none⟩ = false := (hI.out.fr.fz _).trans (HD3.out.fz _)
                have f2 : wr.frozen? ⟨r, 4 + 2, none⟩ = false := (hI.out.fr.fz _).trans (HD3.out.fz _)
                have hrl := hI.out.rf.plt
                have hle : A + i ≤ LG := by rw [hLG]; exact hI.out.le
                have hup : LG ≤ 50000 := by rw [hLG]; have := hI.out.up; rw [HF.out, ← HLL.out] at this; omega
                clear hLG
                by_cases hiS : i < SL
                · have hiS' : (i : Int) < (SL : Int) := by omega
                  obtain ⟨b', off', hbo, hcap, hsrc⟩ := wr_rd HSS.out HN.out (HRB.out wr hI.out.fr) (i := i) (by rw [← HSL.out]; exact hiS)
                  cases hbo
                  have hcapI : ((i : Int) + 1) * 128 ≤ (bc : Int) := by omega
                  have HSRC := hid hsrc
                  clear hsrc
                  go_upto_if 119 with ((with_reducible refine here_op 110 ?_); refine wpList_app rfl (.tmp 102) (.tmp 109) el37 rfl (.slice (some ⟨wr.heap.size, 0, none⟩) 0 0) 0 [] rfl (World.ownsRow_made wr #[] 0 (Nat.zero_le _) (by decide) rfl) (some ⟨b, off + i * 128, none⟩) ((i + 1) * 128 - i * 128) (bc - i * 128) (bs (ss.getD i [])) rfl (by rw [show (i + 1) * 128 - i * 128 = 128 by omega]; exact src_later (HSRC.out _) ((Below.refl _ _).alloc (Nat.le_refl _) _)) (by omega) ?_; rw [show 0 + ((i + 1) * 128 - i * 128) = 128 by omega]; simp only [List.nil_append]; intro a5 c5 w5 ho5 hg5 hat5; have hb5 : Below wr.heap.size wr w5 := ((Below.refl _ wr).alloc (Nat.le_refl _) _).grown hg5 (by simp) (fun k hk => by simp [Value.ownBlock] at hk; omega); have ha5 : ∀ a, a5 = some a → wr.heap.size ≤ a.block := (fun a ha => by rcases hat5 a ha with h | h; simp [Value.ownBlock] at h; omega; simp at h; omega); have k0 := keep_old hb5 c0; have k2 := keep_old hb5 c2; have g0 := (keep_frozen hb5 hrl (a := ⟨r, 4, none⟩)).trans f0; have g2 := (keep_frozen hb5 hrl (a := ⟨r, 4 + 2, none⟩)).trans f2; have HI5 := hid (hI.out.later hb5); have HV5 : Hid (SecAt w5 (From R.S1 W3) (.slice a5 128 c5) (ss.getD i [])) := hid (sec_new ho5 (fun y hy => Nat.le_trans hI.out.fr.size (ha5 y hy))); have hrl5 : r < w5.heap.size := (by have := hb5.size; omega); clear ho5 hg5 hat5 hb5 ha5)
                  obtain ⟨AI, hAI⟩ : ∃ AI, AI = A + i := ⟨_, rfl⟩
                  have HAI := hid hAI
                  have hAI' : (A : Int) + (i : Int) = (AI : Int) := by omega
                  have hiL : i < ss.length := by rw [← HSL.out]; exact hiS
                  have hwr : IntKind.i64.wrap (AI : Int) = (AI : Int) := IntWalk.i64_in _ (by omega)
                  by_cases hin : AI < LG
                  · have hin' : (AI : Int) < (LG : Int) := by omega
                    have hrn := HI5.out.rf.rn
                    rw [← HLG.out] at hrn
                    obtain ⟨gN, hgN, hcN, hgNl, hcapN⟩ := row_cell hrn hin
                    have hrd := HI5.out.rf.rd
                    rw [HI5.out.ok.ld, ← HLG.out] at hrd
                    obtain ⟨gD, hgD, hcD, hgDl⟩ := bool_cell hrd hin
                    have hne : gD ≠ gN := own_ne hrd hrn (by decide) (by rw [hgD]; rfl) (by rw [hgN]; rfl)
                    have hsn := own_set (by rw [hgN] at hrn; exact hrn) hin (.slice a5 128 c5)
                    obtain ⟨u5, hu5⟩ := hsn.2.1
                    have hz5 := hsn.2.2
                    have hsd := own_set (by rw [hgD] at hrd; exact hrd) hin (.bool true)
                    have hz6 := hsd.2.2
                    rw [hgN] at k0
                    rw [hgD] at k2
                    have HNX := hid (wr_in HI5.out.drew hiL (HV5.out.stay (w' := w5.drew) (fun _ _ => rfl) (fun _ h => h)) (by rw [← HAI.out, ← HLG.out]; exact hin) hgN hgD)
                    have HAIR : Hid (∀ x : Nat, x = A + i → x = AI) := hid (fun x hx => by rw [hx, HAI.out])
                    have HF18 : Hid ((w5.drew.setCell ⟨gN, AI, none⟩ (.slice a5 128 c5)).cell? ⟨gD, AI, none⟩ = some (.bool (G.dirt.getD AI false)) ∧ (w5.drew.setCell ⟨gN, AI, none⟩ (.slice a5 128 c5)).frozen? ⟨gD, AI, none⟩ = false ∧ w5.drew.cell? ⟨gN, AI, none⟩ = some u5 ∧ w5.drew.frozen? ⟨gN, AI, none⟩ = false) := hid ⟨(World.cell?_of_block (set_other (a := ⟨gN, AI, none⟩) _ hne)).trans hcD, (World.frozen?_setCell _ _ _ _).trans hz6, hu5, hz5⟩
                    clear hrn hrd hsn hsd hcN hcD hu5 hz5 hz6 hgN hgD c0 c2 f0 f2 hAI
                    go_wp2_with fail
                    refine wp_region_K (S := Reads2 ⟨r, 4, none⟩ ⟨r, 4 + 2, none⟩ (.slice (some ⟨gN, 0, none⟩) LG B'.cN) (.slice (some ⟨gD, 0, none⟩) LG B'.cD)) (fun i => i == 16 || i == 18) (by kernel_rfl) ⟨k0, k2⟩ (fun hHeld => ?_)
                    obtain ⟨W0, hW0⟩ : ∃ W0, W0 = w5.drew := ⟨_, rfl⟩
                    rw [← hW0] at hHeld HF18 HNX ⊢
                    have hR := hHeld
                    obtain ⟨d18, z18, u16, z16⟩ := HF18.out
                    clear hW0
                    refine wpAnyK_pure (i := 0) (v := ?_) (op_at _ 0 _ rfl) (by kernel_rfl) (by kernel_rfl) (by kernel_rfl) (by kernel_rfl) (fun _ _ _ h => h) (Or.inl ⟨by rfl, ?_⟩) (Or.inl (by assumption)) ?_
                    rotate_left 1
                    focus (intro W hSw; go_simp; first | done | with_reducible rfl)
                    (try simp only [Act.put, List.setIfInBounds_toArray, List.set_cons_zero, List.set_cons_succ])
                    refine wpAnyK_pure (i := 1) (v := ?_) (op_at _ 1 _ rfl) (by kernel_rfl) (by kernel_rfl) (by kernel_rfl) (by kernel_rfl) (fun _ _ _ h => h) (Or.inl ⟨by rfl, ?_⟩) (Or.inl (by assumption)) ?_
                    rotate_left 1
                    focus (intro W hSw; go_simp; first | done | with_reducible rfl)
                    (try simp only [Act.put, List.setIfInBounds_toArray, List.set_cons_zero, List.set_cons_succ])
                    refine wpAnyK_pure (i := 2) (v := ?_) (op_at _ 2 _ rfl) (by kernel_rfl) (by kernel_rfl) (by kernel_rfl) (by kernel_rfl) (fun _ _ _ h => h) (Or.inl ⟨by rfl, ?_⟩) (Or.inl (by assumption)) ?_
                    rotate_left 1
                    focus (intro W hSw; go_simp; first | done | with_reducible rfl)
                    (try simp only [Act.put, List.setIfInBounds_toArray, List.set_cons_zero, List.set_cons_succ])
                    refine wpAnyK_take (i := 3) (v := ?_) (op_at _ 3 _ rfl) (by kernel_rfl) (by kernel_rfl) (by kernel_rfl) (by kernel_rfl) (fun _ _ _ h => h) (Or.inl ⟨by rfl, ?_⟩) (by assumption) ?_
                    rotate_left 1
                    focus (intro W hSw; obtain ⟨q0, q2⟩ := hSw; go_simp; first | done | with_reducible rfl)
                    (try simp only [Act.put, List.setIfInBounds_toArray, List.set_cons_zero, List.set_cons_succ])
                    refine wpAnyK_pure (i := 4) (v := ?_) (op_at _ 4 _ rfl) (by kernel_rfl) (by kernel_rfl) (by kernel_rfl) (by kernel_rfl) (fun _ _ _ h => h) (Or.inl ⟨by rfl, ?_⟩) (Or.inl (by assumption)) ?_
                    rotate_left 1
                    focus (intro W hSw; go_simp; first | done | with_reducible rfl)
                    (try simp only [Act.put, List.setIfInBounds_toArray, List.set_cons_zero, List.set_cons_succ])
                    refine wpAnyK_pure (i := 5) (v := ?_) (op_at _ 5 _ rfl) (by kernel_rfl) (by kernel_rfl) (by kernel_rfl) (by kernel_rfl) (fun _ _ _ h => h) (Or.inl ⟨by rfl, ?_⟩) (Or.inl (by assumption)) ?_
                    rotate_left 1
                    focus (intro W hSw; go_simp; first | done | with_reducible rfl)
                    (try simp only [Act.put, List.setIfInBounds_toArray, List.set_cons_zero, List.set_cons_succ])
                    refine wpAnyK_pure (i := 6) (v := ?_) (op_at _ 6 _ rfl) (by kernel_rfl) (by kernel_rfl) (by kernel_rfl) (by kernel_rfl) (fun _ _ _ h => h) (Or.inl ⟨by rfl, ?_⟩) (Or.inl (by assumption)) ?_
                    rotate_left 1
                    focus (intro W hSw; go_simp; first | done | with_reducible rfl)
                    (try simp only [Act.put, List.setIfInBounds_toArray, List.set_cons_zero, List.set_cons_succ])
                    refine wpAnyK_pure (i := 7) (v := ?_) (op_at _ 7 _ rfl) (by kernel_rfl) (by kernel_rfl) (by kernel_rfl) (by kernel_rfl) (fun _ _ _ h => h) (Or.inl ⟨by rfl, ?_⟩) (Or.inl (by assumption)) ?_
                    rotate_left 1
                    focus (intro W hSw; go_simp; first | done | with_reducible rfl)
                    (try simp only [Act.put, List.setIfInBounds_toArray, List.set_cons_zero, List.set_cons_succ])
                    refine wpAnyK_pure (i := 8) (v := ?_) (op_at _ 8 _ rfl) (by kernel_rfl) (by kernel_rfl) (by kernel_rfl) (by kernel_rfl) (fun _ _ _ h => h) (Or.inl ⟨by rfl, ?_⟩) (Or.inl (by assumption)) ?_
                    rotate_left 1
                    focus (intro W hSw; go_simp; first | done | with_reducible rfl)
                    (try simp only [Act.put, List.setIfInBounds_toArray, List.set_cons_zero, List.set_cons_succ])
                    refine wpAnyK_pure (i := 9) (v := ?_) (op_at _ 9 _ rfl) (by kernel_rfl) (by kernel_rfl) (by kernel_rfl) (by kernel_rfl) (fun _ _ _ h => h) (Or.inl ⟨by rfl, ?_⟩) (Or.inl (by assumption)) ?_
                    rotate_left 1
                    focus (intro W hSw; go_simp; first | done | with_reducible rfl)
                    (try simp only [Act.put, List.setIfInBounds_toArray, List.set_cons_zero, List.set_cons_succ])
                    refine wpAnyK_take (i := 10) (v := ?_) (op_at _ 10 _ rfl) (by kernel_rfl) (by kernel_rfl) (by kernel_rfl) (by kernel_rfl) (fun _ _ _ h => h) (Or.inl ⟨by rfl, ?_⟩) (by assumption) ?_
                    rotate_left 1
                    focus (intro W hSw; obtain ⟨q0, q2⟩ := hSw; go_simp; first | done | with_reducible rfl)
                    (try simp only [Act.put, List.setIfInBounds_toArray, List.set_cons_zero, List.set_cons_succ])
                    refine wpAnyK_pure (i := 11) (v := ?_) (op_at _ 11 _ rfl) (by kernel_rfl) (by kernel_rfl) (by kernel_rfl) (by kernel_rfl) (fun _ _ _ h => h) (Or.inl ⟨by rfl, ?_⟩) (Or.inl (by assumption)) ?_
                    rotate_left 1
                    focus (intro W hSw; go_simp; first | done | with_reducible rfl)
                    (try simp only [Act.put, List.setIfInBounds_toArray, List.set_cons_zero, List.set_cons_succ])
                    refine wpAnyK_pure (i := 12) (v := ?_) (op_at _ 12 _ rfl) (by kernel_rfl) (by kernel_rfl) (by kernel_rfl) (by kernel_rfl) (fun _ _ _ h => h) (Or.inl ⟨by rfl, ?_⟩) (Or.inl (by assumption)) ?_
                    rotate_left 1
                    focus (intro W hSw; go_simp; first | done | with_reducible rfl)
                    (try simp only [Act.put, List.setIfInBounds_toArray, List.set_cons_zero, List.set_cons_succ])
                    refine wpAnyK_pure (i := 13) (v := ?_) (op_at _ 13 _ rfl) (by kernel_rfl) (by kernel_rfl) (by kernel_rfl) (by kernel_rfl) (fun _ _ _ h => h) (Or.inl ⟨by rfl, ?_⟩) (Or.inl (by assumption)) ?_
                    rotate_left 1
                    focus (intro W hSw; go_simp; first | done | with_reducible rfl)
                    (try simp only [Act.put, List.setIfInBounds_toArray, List.set_cons_zero, List.set_cons_succ])
                    refine wpAnyK_pure (i := 14) (v := ?_) (op_at _ 14 _ rfl) (by kernel_rfl) (by kernel_rfl) (by kernel_rfl) (by kernel_rfl) (fun _ _ _ h => h) (Or.inl ⟨by rfl, ?_⟩) (Or.inl (by assumption)) ?_
                    rotate_left 1
                    focus (intro W hSw; go_simp; first | done | with_reducible rfl)
                    (try simp only [Act.put, List.setIfInBounds_toArray, List.set_cons_zero, List.set_cons_succ])
                    refine wpAnyK_pure (i := 15) (v := ?_) (op_at _ 15 _ rfl) (by kernel_rfl) (by kernel_rfl) (by kernel_rfl) (by kernel_rfl) (fun _ _ _ h => h) (Or.inl ⟨by rfl, ?_⟩) (Or.inl (by assumption)) ?_
                    rotate_left 1
                    focus (intro W hSw; go_simp; first | done | with_reducible rfl)
                    (try simp only [Act.put, List.setIfInBounds_toArray, List.set_cons_zero, List.set_cons_succ])
                    refine wpAnyK_ready (rs := [16]) (by kernel_rfl) (by simp) ?_
                    refine AllReadyK.late (op_at _ 16 _ rfl) (by kernel_rfl) (fun K hK => ?_) AllReadyK.nil
                    go_simp
                    refine hK.out _ _ ?_
                    clear hK K
                    (try simp only [Act.put, List.setIfInBounds_toArray, List.set_cons_zero, List.set_cons_succ])
                    refine wpAnyK_pure (i := 17) (v := ?_) (op_at _ 17 _ rfl) (by kernel_rfl) (by kernel_rfl) (by kernel_rfl) (by kernel_rfl) (fun _ _ _ h => h) (Or.inl ⟨by rfl, ?_⟩) (Or.inr (by kernel_rfl)) ?_
                    rotate_left 1
                    focus (intro W hSw; go_simp; first | done | with_reducible rfl)
                    (try simp only [Act.put, List.setIfInBounds_toArray, List.set_cons_zero, List.set_cons_succ])
                    refine wpAnyK_ready (rs := [18]) (by kernel_rfl) (by simp) ?_
                    refine AllReadyK.late (op_at _ 18 _ rfl) (by kernel_rfl) (fun K hK => ?_) AllReadyK.nil
                    go_simp
                    refine hK.out _ _ ?_
                    clear hK K
                    (try simp only [Act.put, List.setIfInBounds_toArray, List.set_cons_zero, List.set_cons_succ])
                    refine wpAnyK_done (by kernel_rfl) ?_ _
                    rw [← HAI.out] at HNX
                    go_wp2
                    go_roundg (gk - 1)
                    case measure => omega
                    case rel => exact ⟨i + 1, _, _, by omega, by simp, HNX⟩
                  · have hAL' : AI = LG := by omega
                    have hin' : ¬ ((AI : Int) < (LG : Int)) := by omega
                    have hrn := HI5.out.rf.rn
                    rw [← HLG.out] at hrn
                    have hrd := HI5.out.rf.rd
                    rw [HI5.out.ok.ld, ← HLG.out] at hrd
                    have hvr := HV5.out.1
                    have HVS := hid HV5.out.2
                    have HNR : Hid (¬ Mut B' r) := hid (fun hm => HI5.out.rf.np (HI5.out.rf.mut hm))
                    have HK0 := hid k0; have HK2 := hid k2; have HG0 := hid g0; have HG2 := hid g2
                    have HALE : Hid (A + i = G.now.length) := hid (by rw [← HLG.out]; omega)
                    clear c0 c2 f0 f2 hAI
                    go_wp2_with fail
                    refine wp_region_K (S := Reads2 ⟨r, 4, none⟩ ⟨r, 4 + 2, none⟩ (.slice B'.aN LG B'.cN) (.slice B'.aD LG B'.cD)) (fun i => i == 17 || i == 20) (by kernel_rfl) ⟨k0, k2⟩ (fun hHeld => ?_)
                    obtain ⟨W0, hW0⟩ : ∃ W0, W0 = w5.drew := ⟨_, rfl⟩
                    rw [← hW0] at hHeld ⊢
                    have hR := hHeld
                    have hb0' : Below w5.heap.size w5 W0 := by rw [hW0]; exact (Below.refl _ _).drew
                    have hGF : GFr w5 W0 B' := (GFr.refl w5 B').later hb0'
                    have hN := own_later hrn hb0'
                    have hD := own_later hrd hb0'
                    have hV := own_later hvr hb0'
                    clear hW0 hrn hrd hvr hb0'
                    refine wpAnyK_pure (i := 0) (v := ?_) (op_at _ 0 _ rfl) (by kernel_rfl) (by kernel_rfl) (by kernel_rfl) (by kernel_rfl) (fun _ _ _ h => h) (Or.inl ⟨by rfl, ?_⟩) (Or.inl (by assumption)) ?_
                    rotate_left 1
                    focus (intro W hSw; go_simp; first | done | with_reducible rfl)
                    (try simp only [Act.put, List.setIfInBounds_toArray, List.set_cons_zero, List.set_cons_succ])
                    refine wpAnyK_pure (i := 1) (v := ?_) (op_at _ 1 _ rfl) (by kernel_rfl) (by kernel_rfl) (by kernel_rfl) (by kernel_rfl) (fun _ _ _ h => h) (Or.inl ⟨by rfl, ?_⟩) (Or.inl (by assumption)) ?_
                    rotate_left 1
                    focus (intro W hSw; go_simp; first | done | with_reducible rfl)
                    (try simp only [Act.put, List.setIfInBounds_toArray, List.set_cons_zero, List.set_cons_succ])
                    refine wpAnyK_pure (i := 2) (v := ?_) (op_at _ 2 _ rfl) (by kernel_rfl) (by kernel_rfl) (by kernel_rfl) (by kernel_rfl) (fun _ _ _ h => h) (Or.inl ⟨by rfl, ?_⟩) (Or.inl (by assumption)) ?_
                    rotate_left 1
                    focus (intro W hSw; go_simp; first | done | with_reducible rfl)
                    (try simp only [Act.put, List.setIfInBounds_toArray, List.set_cons_zero, List.set_cons_succ])
                    refine wpAnyK_pure (i := 3) (v := ?_) (op_at _ 3 _ rfl) (by kernel_rfl) (by kernel_rfl) (by kernel_rfl) (by kernel_rfl) (fun _ _ _ h => h) (Or.inl ⟨by rfl, ?_⟩) (Or.inl (by assumption)) ?_
                    rotate_left 1
                    focus (intro W hSw; go_simp; first | done | with_reducible rfl)
                    (try simp only [Act.put, List.setIfInBounds_toArray, List.set_cons_zero, List.set_cons_succ])
                    refine wpAnyK_pure (i := 4) (v := ?_) (op_at _ 4 _ rfl) (by kernel_rfl) (by kernel_rfl) (by kernel_rfl) (by kernel_rfl) (fun _ _ _ h => h) (Or.inl ⟨by rfl, ?_⟩) (Or.inl (by assumption)) ?_
                    rotate_left 1
                    focus (intro W hSw; go_simp; first | done | with_reducible rfl)
                    (try simp only [Act.put, List.setIfInBounds_toArray, List.set_cons_zero, List.set_cons_succ])
                    refine wpAnyK_take (i := 5) (v := ?_) (op_at _ 5 _ rfl) (by kernel_rfl) (by kernel_rfl) (by kernel_rfl) (by kernel_rfl) (fun _ _ _ h => h) (Or.inl ⟨by rfl, ?_⟩) (by assumption) ?_
                    rotate_left 1
                    focus (intro W hSw; obtain ⟨q0, q2⟩ := hSw; go_simp; first | done | with_reducible rfl)
                    (try simp only [Act.put, List.setIfInBounds_toArray, List.set_cons_zero, List.set_cons_succ])
                    refine wpAnyK_pure (i := 6) (v := ?_) (op_at _ 6 _ rfl) (by kernel_rfl) (by kernel_rfl) (by kernel_rfl) (by kernel_rfl) (fun _ _ _ h => h) (Or.inl ⟨by rfl, ?_⟩) (Or.inl (by assumption)) ?_
                    rotate_left 1
                    focus (intro W hSw; go_simp; first | done | with_reducible rfl)
                    (try simp only [Act.put, List.setIfInBounds_toArray, List.set_cons_zero, List.set_cons_succ])
                    refine wpAnyK_pure (i := 9) (v := ?_) (op_at _ 9 _ rfl) (by kernel_rfl) (by kernel_rfl) (by kernel_rfl) (by kernel_rfl) (fun _ _ _ h => h) (Or.inl ⟨by rfl, ?_⟩) (Or.inl (by assumption)) ?_
                    rotate_left 1
                    focus (intro W hSw; go_simp; first | done | with_reducible rfl)
                    (try simp only [Act.put, List.setIfInBounds_toArray, List.set_cons_zero, List.set_cons_succ])
                    refine wpAnyK_pure (i := 10) (v := ?_) (op_at _ 10 _ rfl) (by kernel_rfl) (by kernel_rfl) (by kernel_rfl) (by kernel_rfl) (fun _ _ _ h => h) (Or.inl ⟨by rfl, ?_⟩) (Or.inl (by assumption)) ?_
                    rotate_left 1
                    focus (intro W hSw; go_simp; first | done | with_reducible rfl)
                    (try simp only [Act.put, List.setIfInBounds_toArray, List.set_cons_zero, List.set_cons_succ])
                    refine wpAnyK_pure (i := 11) (v := ?_) (op_at _ 11 _ rfl) (by kernel_rfl) (by kernel_rfl) (by kernel_rfl) (by kernel_rfl) (fun _ _ _ h => h) (Or.inl ⟨by rfl, ?_⟩) (Or.inl (by assumption)) ?_
                    rotate_left 1
                    focus (intro W hSw; go_simp; first | done | with_reducible rfl)
                    (try simp only [Act.put, List.setIfInBounds_toArray, List.set_cons_zero, List.set_cons_succ])
                    refine wpAnyK_take (i := 12) (v := ?_) (op_at _ 12 _ rfl) (by kernel_rfl) (by kernel_rfl) (by kernel_rfl) (by kernel_rfl) (fun _ _ _ h => h) (Or.inl ⟨by rfl, ?_⟩) (by assumption) ?_
                    rotate_left 1
                    focus (intro W hSw; obtain ⟨q0, q2⟩ := hSw; go_simp; first | done | with_reducible rfl)
                    (try simp only [Act.put, List.setIfInBounds_toArray, List.set_cons_zero, List.set_cons_succ])
                    refine wpAnyK_ready (rs := [7, 13]) (by kernel_rfl) (by simp) ?_
                    refine AllReadyK.cons (op_at _ 7 _ rfl) (fun K hK => ?_) ?_
                    · go_simp
                      obtain ⟨W1, hW1⟩ : ∃ W', W' = W0.alloc (.cells #[.slice a5 128 c5] 37) := ⟨_, rfl⟩; rw [← hW1]; have hbW1 : Below W0.heap.size W0 W1 := (by rw [hW1]; exact (Below.refl _ _).alloc (Nat.le_refl _) _); replace hN := own_later hN hbW1; replace hD := own_later hD hbW1; replace hV := own_later hV hbW1; have hLN : W1.ownsRow 0 37 1 (.slice (some ⟨W0.heap.size, 0, none⟩) 1 1) 1 [.slice a5 128 c5] := (by rw [hW1]; exact own_lit W0 37 _); replace hGF := hGF.later hbW1; replace hR := hR.keep hbW1; clear hW1
                      refine hK.out _ _ hR (fun hHeld => ?_)
                      clear hK K
                      (try simp only [Act.put, List.setIfInBounds_toArray, List.set_cons_zero, List.set_cons_succ])
                      refine wpAnyK_ready (rs := [8, 13]) (by kernel_rfl) (by simp) ?_
                      refine AllReadyK.cons (op_at _ 8 _ rfl) (fun K hK => ?_) ?_
                      · refine step_app rfl (.tmp 142) (.tmp 144) el66 rfl (.slice B'.aN LG B'.cN) LG B'.vs rfl hN (some ⟨W0.heap.size, 0, none⟩) 1 1 [.slice a5 128 c5] rfl (src_row hLN (by intro u hu; simp at hu; subst hu; rfl)) (by omega) ?_; intro a8 c8 W2 ho8 hg8 hat8; have hl8 := hGF.size; have ha8 : ∀ a, a8 = some a → (∃ a', B'.aN = some a' ∧ a'.block = a.block) ∨ w5.heap.size ≤ a.block := (fun a ha => by rcases hat8 a ha with h | h; exact Or.inl (slice_own h); exact Or.inr (by omega)); replace hD := own_beside hD hg8 (fun k hk e => own_ne hD hN (by decide) hk e.symm rfl); replace hV := own_beside hV hg8 (fun k hk e => own_ne hV hN (by decide) hk e.symm rfl); replace hGF := hGF.grown hg8 (fun k hk => Or.inl (slice_own hk)); replace hR : Reads2 ⟨r, 4, none⟩ ⟨r, 4 + 2, none⟩ (.slice B'.aN LG B'.cN) (.slice B'.aD LG B'.cD) W2 := ⟨(World.cell?_of_block (hGF.block r hrl5 HNR.out)).trans HK0.out, (World.cell?_of_block (hGF.block r hrl5 HNR.out)).trans HK2.out⟩; clear hg8 hat8 hN hLN
                        refine hK.out _ _ hR (fun hHeld => ?_)
                        clear hK K
                        (try simp only [Act.put, List.setIfInBounds_toArray, List.set_cons_zero, List.set_cons_succ])
                        refine wpAnyK_ready (rs := [13]) (by kernel_rfl) (by simp) ?_
                        refine AllReadyK.cons (op_at _ 13 _ rfl) (fun K hK => ?_) AllReadyK.nil
                        go_simp
                        obtain ⟨W3, hW3⟩ : ∃ W', W' = W2.alloc (.cells #[.bool true] 4) := ⟨_, rfl⟩; rw [← hW3]; have hbW3 : Below W2.heap.size W2 W3 := (by rw [hW3]; exact (Below.refl _ _).alloc (Nat.le_refl _) _); replace hD := own_later hD hbW3; replace hV := own_later hV hbW3; replace ho8 := own_later ho8 hbW3; have hLD : W3.ownsRow 0 4 1 (.slice (some ⟨W2.heap.size, 0, none⟩) 1 1) 1 [.bool true] := (by rw [hW3]; exact own_lit W2 4 _); replace hGF := hGF.later hbW3; replace hR := hR.keep hbW3; clear hW3
                        refine hK.out _ _ hR (fun hHeld => ?_)
                        clear hK K
                        (try simp only [Act.put, List.setIfInBounds_toArray, List.set_cons_zero, List.set_cons_succ])
                        refine wpAnyK_ready (rs := [14]) (by kernel_rfl) (by simp) ?_
                        refine AllReadyK.cons (op_at _ 14 _ rfl) (fun K hK => ?_) AllReadyK.nil
                        refine step_app rfl (.tmp 149) (.tmp 150) el30 rfl (.slice B'.aD LG B'.cD) LG (vb G.dirt) rfl hD (some ⟨W2.heap.size, 0, none⟩) 1 1 [.bool true] rfl (src_row hLD (by intro u hu; simp at hu; subst hu; rfl)) (by omega) ?_; intro a9 c9 W4 ho9 hg9 hat9; have hl9 := hGF.size; have ha9 : ∀ a, a9 = some a → (∃ a', B'.aD = some a' ∧ a'.block = a.block) ∨ w5.heap.size ≤ a.block := (fun a ha => by rcases hat9 a ha with h | h; exact Or.inl (slice_own h); exact Or.inr (by omega)); replace hV := own_beside hV hg9 (fun k hk e => own_ne hV hD (by decide) hk e.symm rfl); replace ho8 := own_beside ho8 hg9 (fun k hk e => own_ne ho8 hD (by decide) hk e.symm rfl); replace hGF := hGF.grown hg9 (fun k hk => Or.inr (slice_own hk)); replace hR : Reads2 ⟨r, 4, none⟩ ⟨r, 4 + 2, none⟩ (.slice B'.aN LG B'.cN) (.slice B'.aD LG B'.cD) W4 := ⟨(World.cell?_of_block (hGF.block r hrl5 HNR.out)).trans HK0.out, (World.cell?_of_block (hGF.block r hrl5 HNR.out)).trans HK2.out⟩; have HNX := hid (wr_out HI5.out hiL hGF hV HVS.out HALE.out HLG.out ho8 ho9 ha8 ha9); have y0 := hR.1; have y2 := hR.2; have z0 : W4.frozen? ⟨r, 4, none⟩ = false := (World.frozen?_of_block (hGF.block r hrl5 HNR.out)).trans HG0.out; have z2 : W4.frozen? ⟨r, 4 + 2, none⟩ = false := (World.frozen?_of_block (hGF.block r hrl5 HNR.out)).trans HG2.out; clear hg9 hat9 hD hLD ho8 ho9 ha8 ha9
                        refine hK.out _ _ hR (fun hHeld => ?_)
                        clear hK K
                        (try simp only [Act.put, List.setIfInBounds_toArray, List.set_cons_zero, List.set_cons_succ])
                        refine wpAnyK_pure (i := 15) (v := ?_) (op_at _ 15 _ rfl) (by kernel_rfl) (by kernel_rfl) (by kernel_rfl) (by kernel_rfl) (fun _ _ _ h => h) (Or.inl ⟨by rfl, ?_⟩) (Or.inl (by assumption)) ?_
                        rotate_left 1
                        focus (intro W hSw; go_simp; first | done | with_reducible rfl)
                        (try simp only [Act.put, List.setIfInBounds_toArray, List.set_cons_zero, List.set_cons_succ])
                        refine wpAnyK_pure (i := 16) (v := ?_) (op_at _ 16 _ rfl) (by kernel_rfl) (by kernel_rfl) (by kernel_rfl) (by kernel_rfl) (fun _ _ _ h => h) (Or.inl ⟨by rfl, ?_⟩) (Or.inl (by assumption)) ?_
                        rotate_left 1
                        focus (intro W hSw; go_simp; first | done | with_reducible rfl)
                        (try simp only [Act.put, List.setIfInBounds_toArray, List.set_cons_zero, List.set_cons_succ])
                        refine wpAnyK_ready (rs := [17]) (by kernel_rfl) (by simp) ?_
                        refine AllReadyK.late (op_at _ 17 _ rfl) (by kernel_rfl) (fun K hK => ?_) AllReadyK.nil
                        go_simp
                        refine hK.out _ _ ?_
                        clear hK K
                        (try simp only [Act.put, List.setIfInBounds_toArray, List.set_cons_zero, List.set_cons_succ])
                        refine wpAnyK_pure (i := 18) (v := ?_) (op_at _ 18 _ rfl) (by kernel_rfl) (by kernel_rfl) (by kernel_rfl) (by kernel_rfl) (fun _ _ _ h => h) (Or.inl ⟨by rfl, ?_⟩) (Or.inr (by kernel_rfl)) ?_
                        rotate_left 1
                        focus (intro W hSw; go_simp; first | done | with_reducible rfl)
                        (try simp only [Act.put, List.setIfInBounds_toArray, List.set_cons_zero, List.set_cons_succ])
                        refine wpAnyK_pure (i := 19) (v := ?_) (op_at _ 19 _ rfl) (by kernel_rfl) (by kernel_rfl) (by kernel_rfl) (by kernel_rfl) (fun _ _ _ h => h) (Or.inl ⟨by rfl, ?_⟩) (Or.inr (by kernel_rfl)) ?_
                        rotate_left 1
                        focus (intro W hSw; go_simp; first | done | with_reducible rfl)
                        (try simp only [Act.put, List.setIfInBounds_toArray, List.set_cons_zero, List.set_cons_succ])
                        refine wpAnyK_ready (rs := [20]) (by kernel_rfl) (by simp) ?_
                        refine AllReadyK.late (op_at _ 20 _ rfl) (by kernel_rfl) (fun K hK => ?_) AllReadyK.nil
                        go_simp
                        refine hK.out _ _ ?_
                        clear hK K
                        (try simp only [Act.put, List.setIfInBounds_toArray, List.set_cons_zero, List.set_cons_succ])
                        refine wpAnyK_done (by kernel_rfl) ?_ _
                        go_wp2
                        go_roundg (gk - 1)
                        case measure => omega
                        case rel => exact ⟨i + 1, _, _, by omega, by simp, HNX⟩
                      refine AllReadyK.cons (op_at _ 13 _ rfl) (fun K hK => ?_) ?_
                      · go_simp
                        obtain ⟨W2, hW2⟩ : ∃ W', W' = W1.alloc (.cells #[.bool true] 4) := ⟨_, rfl⟩; rw [← hW2]; have hbW2 : Below W1.heap.size W1 W2 := (by rw [hW2]; exact (Below.refl _ _).alloc (Nat.le_refl _) _); replace hN := own_later hN hbW2; replace hD := own_later hD hbW2; replace hV := own_later hV hbW2; replace hLN := own_later hLN hbW2; have hLD : W2.ownsRow 0 4 1 (.slice (some ⟨W1.heap.size, 0, none⟩) 1 1) 1 [.bool true] := (by rw [hW2]; exact own_lit W1 4 _); replace hGF := hGF.later hbW2; replace hR := hR.keep hbW2; clear hW2
                        refine hK.out _ _ hR (fun hHeld => ?_)
                        clear hK K
                        (try simp only [Act.put, List.setIfInBounds_toArray, List.set_cons_zero, List.set_cons_succ])
                        refine wpAnyK_ready (rs := [8]) (by kernel_rfl) (by simp) ?_
                        refine AllReadyK.cons (op_at _ 8 _ rfl) (fun K hK => ?_) AllReadyK.nil
                        refine step_app rfl (.tmp 142) (.tmp 144) el66 rfl (.slice B'.aN LG B'.cN) LG B'.vs rfl hN (some ⟨W0.heap.size, 0, none⟩) 1 1 [.slice a5 128 c5] rfl (src_row hLN (by intro u hu; simp at hu; subst hu; rfl)) (by omega) ?_; intro a8 c8 W3 ho8 hg8 hat8; have hl8 := hGF.size; have ha8 : ∀ a, a8 = some a → (∃ a', B'.aN = some a' ∧ a'.block = a.block) ∨ w5.heap.size ≤ a.block := (fun a ha => by rcases hat8 a ha with h | h; exact Or.inl (slice_own h); exact Or.inr (by omega)); replace hD := own_beside hD hg8 (fun k hk e => own_ne hD hN (by decide) hk e.symm rfl); replace hV := own_beside hV hg8 (fun k hk e => own_ne hV hN (by decide) hk e.symm rfl); replace hLD := own_beside hLD hg8 (fun k hk e => own_ne hLD hN (by decide) hk e.symm rfl); replace hGF := hGF.grown hg8 (fun k hk => Or.inl (slice_own hk)); replace hR : Reads2 ⟨r, 4, none⟩ ⟨r, 4 + 2, none⟩ (.slice B'.aN LG B'.cN) (.slice B'.aD LG B'.cD) W3 := ⟨(World.cell?_of_block (hGF.block r hrl5 HNR.out)).trans HK0.out, (World.cell?_of_block (hGF.block r hrl5 HNR.out)).trans HK2.out⟩; clear hg8 hat8 hN hLN
                        refine hK.out _ _ hR (fun hHeld => ?_)
                        clear hK K
                        (try simp only [Act.put, List.setIfInBounds_toArray, List.set_cons_zero, List.set_cons_succ])
                        refine wpAnyK_ready (rs := [14]) (by kernel_rfl) (by simp) ?_
                        refine AllReadyK.cons (op_at _ 14 _ rfl) (fun K hK => ?_) AllReadyK.nil
                        refine step_app rfl (.tmp 149) (.tmp 150) el30 rfl (.slice B'.aD LG B'.cD) LG (vb G.dirt) rfl hD (some ⟨W1.heap.size, 0, none⟩) 1 1 [.bool true] rfl (src_row hLD (by intro u hu; simp at hu; subst hu; rfl)) (by omega) ?_; intro a9 c9 W4 ho9 hg9 hat9; have hl9 := hGF.size; have ha9 : ∀ a, a9 = some a → (∃ a', B'.aD = some a' ∧ a'.block = a.block) ∨ w5.heap.size ≤ a.block := (fun a ha => by rcases hat9 a ha with h | h; exact Or.inl (slice_own h); exact Or.inr (by omega)); replace hV := own_beside hV hg9 (fun k hk e => own_ne hV hD (by decide) hk e.symm rfl); replace ho8 := own_beside ho8 hg9 (fun k hk e => own_ne ho8 hD (by decide) hk e.symm rfl); replace hGF := hGF.grown hg9 (fun k hk => Or.inr (slice_own hk)); replace hR : Reads2 ⟨r, 4, none⟩ ⟨r, 4 + 2, none⟩ (.slice B'.aN LG B'.cN) (.slice B'.aD LG B'.cD) W4 := ⟨(World.cell?_of_block (hGF.block r hrl5 HNR.out)).trans HK0.out, (World.cell?_of_block (hGF.block r hrl5 HNR.out)).trans HK2.out⟩; have HNX := hid (wr_out HI5.out hiL hGF hV HVS.out HALE.out HLG.out ho8 ho9 ha8 ha9); have y0 := hR.1; have y2 := hR.2; have z0 : W4.frozen? ⟨r, 4, none⟩ = false := (World.frozen?_of_block (hGF.block r hrl5 HNR.out)).trans HG0.out; have z2 : W4.frozen? ⟨r, 4 + 2, none⟩ = false := (World.frozen?_of_block (hGF.block r hrl5 HNR.out)).trans HG2.out; clear hg9 hat9 hD hLD ho8 ho9 ha8 ha9
                        refine hK.out _ _ hR (fun hHeld => ?_)
                        clear hK K
                        (try simp only [Act.put, List.setIfInBounds_toArray, List.set_cons_zero, List.set_cons_succ])
                        refine wpAnyK_pure (i := 15) (v := ?_) (op_at _ 15 _ rfl) (by kernel_rfl) (by kernel_rfl) (by kernel_rfl) (by kernel_rfl) (fun _ _ _ h => h) (Or.inl ⟨by rfl, ?_⟩) (Or.inl (by assumption)) ?_
                        rotate_left 1
                        focus (intro W hSw; go_simp; first | done | with_reducible rfl)
                        (try simp only [Act.put, List.setIfInBounds_toArray, List.set_cons_zero, List.set_cons_succ])
                        refine wpAnyK_pure (i := 16) (v := ?_) (op_at _ 16 _ rfl) (by kernel_rfl) (by kernel_rfl) (by kernel_rfl) (by kernel_rfl) (fun _ _ _ h => h) (Or.inl ⟨by rfl, ?_⟩) (Or.inl (by assumption)) ?_
                        rotate_left 1
                        focus (intro W hSw; go_simp; first | done | with_reducible rfl)
                        (try simp only [Act.put, List.setIfInBounds_toArray, List.set_cons_zero, List.set_cons_succ])
                        refine wpAnyK_ready (rs := [17]) (by kernel_rfl) (by simp) ?_
                        refine AllReadyK.late (op_at _ 17 _ rfl) (by kernel_rfl) (fun K hK => ?_) AllReadyK.nil
                        go_simp
                        refine hK.out _ _ ?_
                        clear hK K
                        (try simp only [Act.put, List.setIfInBounds_toArray, List.set_cons_zero, List.set_cons_succ])
                        refine wpAnyK_pure (i := 18) (v := ?_) (op_at _ 18 _ rfl) (by kernel_rfl) (by kernel_rfl) (by kernel_rfl) (by kernel_rfl) (fun _ _ _ h => h) (Or.inl ⟨by rfl, ?_⟩) (Or.inr (by kernel_rfl)) ?_
                        rotate_left 1
                        focus (intro W hSw; go_simp; first | done | with_reducible rfl)
                        (try simp only [Act.put, List.setIfInBounds_toArray, List.set_cons_zero, List.set_cons_succ])
                        refine wpAnyK_pure (i := 19) (v := ?_) (op_at _ 19 _ rfl) (by kernel_rfl) (by kernel_rfl) (by kernel_rfl) (by kernel_rfl) (fun _ _ _ h => h) (Or.inl ⟨by rfl, ?_⟩) (Or.inr (by kernel_rfl)) ?_
                        rotate_left 1
                        focus (intro W hSw; go_simp; first | done | with_reducible rfl)
                        (try simp only [Act.put, List.setIfInBounds_toArray, List.set_cons_zero, List.set_cons_succ])
                        refine wpAnyK_ready (rs := [20]) (by kernel_rfl) (by simp) ?_
                        refine AllReadyK.late (op_at _ 20 _ rfl) (by kernel_rfl) (fun K hK => ?_) AllReadyK.nil
                        go_simp
                        refine hK.out _ _ ?_
                        clear hK K
                        (try simp only [Act.put, List.setIfInBounds_toArray, List.set_cons_zero, List.set_cons_succ])
                        refine wpAnyK_done (by kernel_rfl) ?_ _
                        go_wp2
                        go_roundg (gk - 1)
                        case measure => omega
                        case rel => exact ⟨i + 1, _, _, by omega, by simp, HNX⟩
                      exact AllReadyK.nil
                    refine AllReadyK.cons (op_at _ 13 _ rfl) (fun K hK => ?_) ?_
                    · go_simp
                      obtain ⟨W1, hW1⟩ : ∃ W', W' = W0.alloc (.cells #[.bool true] 4) := ⟨_, rfl⟩; rw [← hW1]; have hbW1 : Below W0.heap.size W0 W1 := (by rw [hW1]; exact (Below.refl _ _).alloc (Nat.le_refl _) _); replace hN := own_later hN hbW1; replace hD := own_later hD hbW1; replace hV := own_later hV hbW1; have hLD : W1.ownsRow 0 4 1 (.slice (some ⟨W0.heap.size, 0, none⟩) 1 1) 1 [.bool true] := (by rw [hW1]; exact own_lit W0 4 _); replace hGF := hGF.later hbW1; replace hR := hR.keep hbW1; clear hW1
                      refine hK.out _ _ hR (fun hHeld => ?_)
                      clear hK K
                      (try simp only [Act.put, List.setIfInBounds_toArray, List.set_cons_zero, List.set_cons_succ])
                      refine wpAnyK_ready (rs := [7]) (by kernel_rfl) (by simp) ?_
                      refine AllReadyK.cons (op_at _ 7 _ rfl) (fun K hK => ?_) AllReadyK.nil
                      go_simp
                      obtain ⟨W2, hW2⟩ : ∃ W', W' = W1.alloc (.cells #[.slice a5 128 c5] 37) := ⟨_, rfl⟩; rw [← hW2]; have hbW2 : Below W1.heap.size W1 W2 := (by rw [hW2]; exact (Below.refl _ _).alloc (Nat.le_refl _) _); replace hN := own_later hN hbW2; replace hD := own_later hD hbW2; replace hV := own_later hV hbW2; replace hLD := own_later hLD hbW2; have hLN : W2.ownsRow 0 37 1 (.slice (some ⟨W1.heap.size, 0, none⟩) 1 1) 1 [.slice a5 128 c5] := (by rw [hW2]; exact own_lit W1 37 _); replace hGF := hGF.later hbW2; replace hR := hR.keep hbW2; clear hW2
                      refine hK.out _ _ hR (fun hHeld => ?_)
                      clear hK K
                      (try simp only [Act.put, List.setIfInBounds_toArray, List.set_cons_zero, List.set_cons_succ])
                      refine wpAnyK_ready (rs := [8]) (by kernel_rfl) (by simp) ?_
                      refine AllReadyK.cons (op_at _ 8 _ rfl) (fun K hK => ?_) AllReadyK.nil
                      refine step_app rfl (.tmp 142) (.tmp 144) el66 rfl (.slice B'.aN LG B'.cN) LG B'.vs rfl hN (some ⟨W1.heap.size, 0, none⟩) 1 1 [.slice a5 128 c5] rfl (src_row hLN (by intro u hu; simp at hu; subst hu; rfl)) (by omega) ?_; intro a8 c8 W3 ho8 hg8 hat8; have hl8 := hGF.size; have ha8 : ∀ a, a8 = some a → (∃ a', B'.aN = some a' ∧ a'.block = a.block) ∨ w5.heap.size ≤ a.block := (fun a ha => by rcases hat8 a ha with h | h; exact Or.inl (slice_own h); exact Or.inr (by omega)); replace hD := own_beside hD hg8 (fun k hk e => own_ne hD hN (by decide) hk e.symm rfl); replace hV := own_beside hV hg8 (fun k hk e => own_ne hV hN (by decide) hk e.symm rfl); replace hLD := own_beside hLD hg8 (fun k hk e => own_ne hLD hN (by decide) hk e.symm rfl); replace hGF := hGF.grown hg8 (fun k hk => Or.inl (slice_own hk)); replace hR : Reads2 ⟨r, 4, none⟩ ⟨r, 4 + 2, none⟩ (.slice B'.aN LG B'.cN) (.slice B'.aD LG B'.cD) W3 := ⟨(World.cell?_of_block (hGF.block r hrl5 HNR.out)).trans HK0.out, (World.cell?_of_block (hGF.block r hrl5 HNR.out)).trans HK2.out⟩; clear hg8 hat8 hN hLN
                      refine hK.out _ _ hR (fun hHeld => ?_)
                      clear hK K
                      (try simp only [Act.put, List.setIfInBounds_toArray, List.set_cons_zero, List.set_cons_succ])
                      refine wpAnyK_ready (rs := [14]) (by kernel_rfl) (by simp) ?_
                      refine AllReadyK.cons (op_at _ 14 _ rfl) (fun K hK => ?_) AllReadyK.nil
                      refine step_app rfl (.tmp 149) (.tmp 150) el30 rfl (.slice B'.aD LG B'.cD) LG (vb G.dirt) rfl hD (some ⟨W0.heap.size, 0, none⟩) 1 1 [.bool true] rfl (src_row hLD (by intro u hu; simp at hu; subst hu; rfl)) (by omega) ?_; intro a9 c9 W4 ho9 hg9 hat9; have hl9 := hGF.size; have ha9 : ∀ a, a9 = some a → (∃ a', B'.aD = some a' ∧ a'.block = a.block) ∨ w5.heap.size ≤ a.block := (fun a ha => by rcases hat9 a ha with h | h; exact Or.inl (slice_own h); exact Or.inr (by omega)); replace hV := own_beside hV hg9 (fun k hk e => own_ne hV hD (by decide) hk e.symm rfl); replace ho8 := own_beside ho8 hg9 (fun k hk e => own_ne ho8 hD (by decide) hk e.symm rfl); replace hGF := hGF.grown hg9 (fun k hk => Or.inr (slice_own hk)); replace hR : Reads2 ⟨r, 4, none⟩ ⟨r, 4 + 2, none⟩ (.slice B'.aN LG B'.cN) (.slice B'.aD LG B'.cD) W4 := ⟨(World.cell?_of_block (hGF.block r hrl5 HNR.out)).trans HK0.out, (World.cell?_of_block (hGF.block r hrl5 HNR.out)).trans HK2.out⟩; have HNX := hid (wr_out HI5.out hiL hGF hV HVS.out HALE.out HLG.out ho8 ho9 ha8 ha9); have y0 := hR.1; have y2 := hR.2; have z0 : W4.frozen? ⟨r, 4, none⟩ = false := (World.frozen?_of_block (hGF.block r hrl5 HNR.out)).trans HG0.out; have z2 : W4.frozen? ⟨r, 4 + 2, none⟩ = false := (World.frozen?_of_block (hGF.block r hrl5 HNR.out)).trans HG2.out; clear hg9 hat9 hD hLD ho8 ho9 ha8 ha9
                      refine hK.out _ _ hR (fun hHeld => ?_)
                      clear hK K
                      (try simp only [Act.put, List.setIfInBounds_toArray, List.set_cons_zero, List.set_cons_succ])
                      refine wpAnyK_pure (i := 15) (v := ?_) (op_at _ 15 _ rfl) (by kernel_rfl) (by kernel_rfl) (by kernel_rfl) (by kernel_rfl) (fun _ _ _ h => h) (Or.inl ⟨by rfl, ?_⟩) (Or.inl (by assumption)) ?_
                      rotate_left 1
                      focus (intro W hSw; go_simp; first | done | with_reducible rfl)
                      (try simp only [Act.put, List.setIfInBounds_toArray, List.set_cons_zero, List.set_cons_succ])
                      refine wpAnyK_pure (i := 16) (v := ?_) (op_at _ 16 _ rfl) (by kernel_rfl) (by kernel_rfl) (by kernel_rfl) (by kernel_rfl) (fun _ _ _ h => h) (Or.inl ⟨by rfl, ?_⟩) (Or.inl (by assumption)) ?_
                      rotate_left 1
                      focus (intro W hSw; go_simp; first | done | with_reducible rfl)
                      (try simp only [Act.put, List.setIfInBounds_toArray, List.set_cons_zero, List.set_cons_succ])
                      refine wpAnyK_ready (rs := [17]) (by kernel_rfl) (by simp) ?_
                      refine AllReadyK.late (op_at _ 17 _ rfl) (by kernel_rfl) (fun K hK => ?_) AllReadyK.nil
                      go_simp
                      refine hK.out _ _ ?_
                      clear hK K
                      (try simp only [Act.put, List.setIfInBounds_toArray, List.set_cons_zero, List.set_cons_succ])
                      refine wpAnyK_pure (i := 18) (v := ?_) (op_at _ 18 _ rfl) (by kernel_rfl) (by kernel_rfl) (by kernel_rfl) (by kernel_rfl) (fun _ _ _ h => h) (Or.inl ⟨by rfl, ?_⟩) (Or.inr (by kernel_rfl)) ?_
                      rotate_left 1
                      focus (intro W hSw; go_simp; first | done | with_reducible rfl)
                      (try simp only [Act.put, List.setIfInBounds_toArray, List.set_cons_zero, List.set_cons_succ])
                      refine wpAnyK_pure (i := 19) (v := ?_) (op_at _ 19 _ rfl) (by kernel_rfl) (by kernel_rfl) (by kernel_rfl) (by kernel_rfl) (fun _ _ _ h => h) (Or.inl ⟨by rfl, ?_⟩) (Or.inr (by kernel_rfl)) ?_
                      rotate_left 1
                      focus (intro W hSw; go_simp; first | done | with_reducible rfl)
                      (try simp only [Act.put, List.setIfInBounds_toArray, List.set_cons_zero, List.set_cons_succ])
                      refine wpAnyK_ready (rs := [20]) (by kernel_rfl) (by simp) ?_
                      refine AllReadyK.late (op_at _ 20 _ rfl) (by kernel_rfl) (fun K hK => ?_) AllReadyK.nil
                      go_simp
                      refine hK.out _ _ ?_
                      clear hK K
                      (try simp only [Act.put, List.setIfInBounds_toArray, List.set_cons_zero, List.set_cons_succ])
                      refine wpAnyK_done (by kernel_rfl) ?_ _
                      go_wp2
                      go_roundg (gk - 1)
                      case measure => omega
                      case rel => exact ⟨i + 1, _, _, by omega, by simp, HNX⟩
                    exact AllReadyK.nil
                · have hiE : i = SL := by omega
                  have hiS' : ¬ ((i : Int) < (SL : Int)) := by omega
                  go_wp2
                  go_ret
                  have hI' := hI.out
                  have ht : FTurn W3 wr r 4 R.S1 R.B1 (wrN (tickD d).f1 A ss) B' := by
                    have hc : G = wrN (tickD d).f1 A ss := by
                      have := hI'.eq
                      rw [List.drop_eq_nil_of_le (by rw [hiE, HSL.out]; exact Nat.le_refl _)] at this
                      rw [show (tickD d).f1 = d.f1 from rfl, ← HF.out]
                      exact this
                    rw [← hc, ← HB.out]
                    exact ⟨hI'.rf, hI'.fr, hI'.mu⟩
                  have hok := HD3.out.ok
                  obtain ⟨hw1, hw2⟩ := wrN_ok ss hok.ok1 (i := A) (by show A ≤ d.f1.now.length; rw [← HLL.out]; exact hAL) HSS.out
                  obtain ⟨h1, h2, h3⟩ := HD3.out.file1 ht ⟨hok.r1, hok.r2, by show (tickD d).f0.now.length + (wrN (tickD d).f1 A ss).now.length ≤ (tickD d).room; rw [hw2, ← HSL.out]; have e1 : (tickD d).f1.now.length = L := HLL.out.symm; have e2 : (tickD d).f0.now.length = LM := HLM.out.symm; have e3 : (tickD d).room = d.room := rfl; omega, hok.ok0, hw1, hok.kl, hok.tn, hok.lf, hok.op⟩
                  exact ⟨rfl, ⟨_, h1, h2.of HFR3.out.size⟩, HFR3.out.trans (h3.imp (fun _ _ h => Or.inl h))⟩


theorem rwrite_call (r : Nat) (R : RParts) (d : DS) (f at_ : Int) (bo : Option Addr) (bn bc : Nat) (ss : List Sec) (w : World) (h : RefP w r R d) (hop : d.ops < 1000000000)
    (hss : ∀ x ∈ ss, x.length = 128) (hsl : ss.length ≤ 1000) (hn : bn = ss.length * 128) (hb : ∀ w', DFrame w w' r R.mut → Rd w' bo bn bc ss.flatten) :
    Calls Try.prog 31 #[.pointer (some ⟨r, 0, none⟩), .int .i64 f, .int .i64 at_, .slice bo bn bc] w fun e w' => e = .returned (.int .i64 (writeD d f at_ ss).1) ∧ (∃ R', RefP w' r R' (writeD d f at_ ss).2 ∧ RGrew R w R') ∧ DFrame w w' r R.mut := by
  by_cases hx : d.off = true ∨ known f = false
  · have e : writeD d f at_ ss = (if d.off then 4 else 11, d) := by
      unfold writeD
      rcases hx with h | h
      · simp [h]
      · cases d.off <;> simp [h]
    rw [e]
    refine (rwrite_off r R d f at_ bo bn bc w h hx).mono ?_
    rintro e w' ⟨rfl, rfl⟩
    exact ⟨rfl, ⟨R, h, RGrew.refl _ _⟩, DFrame.refl _ _ _⟩
  · have ho : d.off = false := by cases h' : d.off; rfl; exact absurd (Or.inl h') hx
    have hk : known f = true := by cases h' : known f; exact absurd (Or.inr h') hx; rfl
    rcases known_cases hk with rfl | rfl
    · exact rwrite_0 r R d at_ bo bn bc ss w h ho hop hss hsl hn hb
    · exact rwrite_1 r R d at_ bo bn bc ss w h ho hop hss hsl hn hb

end Go.Proofs.Ytkgenmooepfhjaa
