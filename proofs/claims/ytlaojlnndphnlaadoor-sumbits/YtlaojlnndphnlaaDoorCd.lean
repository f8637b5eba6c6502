/- The law SumBits where the second row is long enough; the walk alone. -/
import Derived.Test.YtlaojlnndphnlaaDoorCc
namespace Go.Proofs.YtlaojlnndphnlaaDoor
open Go.RowKit

/-- The cells of block g are these bytes, from its first on. -/
def Cl (W : World) (g : Nat) (xs : List Nat) : Prop := ∀ t, t < xs.length → W.cell? ⟨g, t, none⟩ = some (.int .u8 ((xs.getD t 0 : Nat) : Int))

theorem Cl.keep {W W' : World} {g : Nat} {xs : List Nat} (h : Cl W g xs) (hb : Below W.heap.size W W') : Cl W' g xs := fun t ht => keep_old hb (h t ht)
theorem cl_own {w : World} {B g n cap : Nat} {xs : List Nat} (h : w.ownsRow B 5 1 (.slice (some ⟨g, 0, none⟩) n cap) n (bs xs)) : Cl w g xs := by
  have hl : xs.length = n := by simpa [bs] using h.1
  intro t ht
  rw [h.cellAt t (by omega), bs_get xs t ht]
theorem cl_set {W : World} {g gd i : Nat} {xs : List Nat} {u : Value} (h : Cl W g xs) (hne : g ≠ gd) : Cl (W.setCell ⟨gd, i, none⟩ u) g xs := by
  intro t ht
  rw [World.cell?_of_block (heap_setCell_other W ⟨gd, i, none⟩ g u (by simpa using hne))]
  exact h t ht
theorem rd_cl {W : World} {g n cap : Nat} {xs : List Nat} (h : Cl W g xs) (hl : xs.length = n) (hc : n ≤ cap) : Rd W (some ⟨g, 0, none⟩) n cap xs :=
  ⟨hl, hc, fun h => (by cases h), fun _ => ⟨g, 0, rfl, fun t ht => by rw [Nat.zero_add]; exact h t (by omega)⟩⟩

theorem rd_take {w : World} {ao : Option Addr} {n cap : Nat} {xs : List Nat} (h : Rd w ao n cap xs) (k : Nat) (hk : k ≤ n) (h0 : 0 < k) : Rd w ao k cap (xs.take k) := by
  obtain ⟨b, off, rfl, hc⟩ := h.2.2.2 (by omega)
  refine ⟨by simp [h.1]; omega, by have := h.2.1; omega, fun h => (by cases h), fun _ => ⟨b, off, rfl, fun t ht => ?_⟩⟩
  rw [hc t (by omega)]
  simp [List.getD, ht]

theorem own_lit2 (w : World) (o : Obj) : ((w.alloc o).alloc (.cells #[] 5)).ownsRow (w.heap.size + 1) 5 1 (.slice (some ⟨w.heap.size + 1, 0, none⟩) 0 0) 0 (bs []) := by
  have := World.ownsRow_made (base := w.heap.size + 1) (e := 5) (size := 1) (w.alloc o) #[] 0 (by simp) (by decide) rfl
  simpa [bs] using this

theorem own_zero (w : World) (B n : Nat) (hB : B ≤ w.heap.size) (hn : n ≤ 2000) : (w.alloc (.cells (Array.replicate n (.int .u8 0)) 5)).ownsRow B 5 1 (.slice (some ⟨w.heap.size, 0, none⟩) n n) n (bs (List.replicate n 0)) := by
  have := World.ownsRow_lit (base := B) (e := 5) (size := 1) w (Array.replicate n (.int .u8 0)) n hB (by unfold maxLen; omega) (by simp)
  simpa [bs] using this

theorem own_below {w w' : World} {base g n cap B : Nat} {xs : List Value} (h : w.ownsRow base 5 1 (.slice (some ⟨g, 0, none⟩) n cap) n xs) (hb : Below B w w') (hg : g < B) : w'.ownsRow base 5 1 (.slice (some ⟨g, 0, none⟩) n cap) n xs := by
  refine ⟨h.1, ?_⟩
  rcases h.2 with ⟨h', _⟩ | ⟨g', cap', cur, h', hb', hg', hr⟩
  · simp at h'
  · have h2 := h'
    simp only [Value.slice.injEq, Option.some.injEq, Addr.mk.injEq, and_true, true_and] at h2
    obtain ⟨rfl, rfl⟩ := h2
    exact .inr ⟨g, cap, cur, rfl, hb', (hb.block g hg).trans hg', hr⟩

theorem mix_step (xs ys ds : List Nat) (i n : Nat) (hi : i < n) (hx : xs.length = n) (hy : ys.length = n) (hd : ds.length = n) (T : List Nat) (h : ds.take i ++ mix (xs.drop i) (ys.drop i) = T) :
    (ds.set i (xs.getD i 0 ^^^ ys.getD i 0)).take (i + 1) ++ mix (xs.drop (i + 1)) (ys.drop (i + 1)) = T := by
  rw [← h, drop_step xs i (by omega), drop_step ys i (by omega), mix_cons, List.take_add_one, List.take_set_of_le (Nat.le_refl _), List.getElem?_set_self (by omega)]
  simp

set_option maxHeartbeats 1000000 in
theorem bits_law (bo : Option Addr) (bn bc : Nat) (bl : List Nat) (k : Nat) (co : Option Addr) (cn cc : Nat) (cl : List Nat) (w : World) (hT : Tab w)
    (hb : Rd w bo bn bc bl) (hbx : ∀ x ∈ bl, x < 256) (hc : Rd w co cn cc cl) (hcx : ∀ x ∈ cl, x < 256) (h0 : 0 < bn) (hcn : cn ≤ 2000) (hbc : bn ≤ cn) :
    Calls Tryd.prog 5 #[.slice bo bn bc, .int .u64 (k : Int), .slice co cn cc] w fun e w' => e = .returned (.bool true) ∧ Below w.heap.size w w' := by
  have h0' : ((bn : Int) == 0) = false := by simp; omega
  have hbn : bn ≤ 2000 := by omega
  obtain ⟨K, q, r, p, hK, hq, hr, hp, hp0, e1, e2, e3, e4⟩ := turn_ex k bn h0 hbn
  have g1 : decide ((2000 : Int) < (bn : Int)) = false := by simp; omega
  have g2 : decide ((2000 : Int) < (cn : Int)) = false := by simp; omega
  have g3 : decide ((cn : Int) < (bn : Int)) = false := by simp; omega
  have hyr := hid (rd_take hc bn hbc h0)
  have hyx : Hid (∀ x ∈ cl.take bn, x < 256) := hid fun x hx => hcx x (List.mem_of_mem_take hx)
  obtain ⟨cb, coff, rfl, hun⟩ := hc.2.2.2 (by omega)
  clear hun
  have hcc := hc.2.1
  have hmk := make_any bn bn (Nat.le_refl _) (by omega)
  generalize cl.take bn = ys at *
  have hb' := hid hb
  have hT' := hid hT
  have hbx' := hid hbx
  have hp0' := hid hp0
  clear hT hb hbx hp0 hc hcx
  go_enter Tryd.func5, Tryd.ntmps5
  go_wp2_with (first
    | ((with_reducible refine here_op 29 ?_); refine wpList_append_rd rfl (.tmp 27) (.tmp 28) rfl w.heap.size _ 0 [] rfl (World.ownsRow_made w #[] 0 (Nat.le_refl _) (by decide) rfl) bo bn bc bl rfl (hb'.out.keep (Below.alloc (Below.refl _ _) (Nat.le_refl _) _)) (by omega) (by simp) ?_; intro v1 w1 ho1 hb1; replace hb1 := hid ((Below.alloc (Below.refl _ _) (Nat.le_refl _) _).trans hb1); rw [Nat.zero_add, List.nil_append] at ho1; obtain ⟨g, cx, hv, hg1, hg2⟩ := ho1.form h0; subst hv; obtain ⟨c0, c1, X0, X1, f1, f2, f3, f4, f5, f6, f7⟩ := turned hT'.out hb'.out hbx'.out hbn hb1.out hg1 ho1 q p hq hp hp0'.out; replace ho1 := hid ho1; replace f5 := hid f5; replace f6 := hid f6; replace f7 := hid f7)
    | ((go_at_call 7); refine f5.out.mono ?_; rintro e y ⟨rfl, hy⟩; subst hy; clear f5)
    | ((go_at_call 7); refine f6.out.mono ?_; rintro e y1 ⟨rfl, hy⟩; have hB1 := hid (show Below w.heap.size w y1 from hy ▸ f7.out); clear hy f6 f7 f1 f2 f3 ho1)
    | ((with_reducible refine here_op 64 ?_); refine wpList_append_rd rfl (.tmp 59) (.tmp 63) rfl y1.heap.size _ 0 [] rfl (World.ownsRow_made y1 #[] 0 (Nat.le_refl _) (by decide) rfl) _ bn cc ys rfl ((hyr.out.keep hB1.out).keep (Below.alloc (Below.refl _ _) (Nat.le_refl _) _)) (by omega) (by simp) ?_; intro v2 w2 ho2 hb2; replace hb2 := hid ((Below.alloc (Below.refl _ _) (Nat.le_refl _) _).trans hb2); rw [Nat.zero_add, List.nil_append] at ho2; obtain ⟨gy, cy, hv, hy1, hy2⟩ := ho2.form h0; subst hv; replace ho2 := hid ho2)
    | ((with_reducible refine here_op 70 ?_); refine wpList_append_rd rfl (.tmp 68) (.tmp 69) rfl (w2.heap.size + 1) _ 0 [] rfl (own_lit2 w2 _) bo bn bc bl rfl (((hb'.out.keep hB1.out).keep hb2.out).keep (Below.alloc (Below.alloc (Below.refl _ _) (Nat.le_refl _) _) (by simp) _)) (by omega) (by simp) ?_; intro v3 w3 ho3 hb3; replace hb3 := hid hb3; rw [Nat.zero_add, List.nil_append] at ho3; obtain ⟨gz, cz, hv, hz1, hz2⟩ := ho3.form h0; subst hv; replace ho3 := hid ho3))
  have BW := (Below.alloc (Below.alloc (Below.refl w2.heap.size w2) (Nat.le_refl _) (Obj.cells (Array.replicate bn (Value.int IntKind.u8 0)) 5)) (by simp) (Obj.cells #[] 5)).trans (hb3.out.mono (by omega))
  have BB := hid (gt (gt hB1.out hb2.out) BW)
  have HD := hid (own_below ((own_zero w2 w.heap.size bn (gt hB1.out hb2.out).size hbn).alloc (Obj.cells #[] 5)) hb3.out (Nat.lt_succ_self _))
  have HY := hid ((cl_own ho2.out).keep BW)
  have HZ := hid (cl_own ho3.out)
  have hyl := hid hyr.out.1
  have hbl := hid hb'.out.1
  have hzz : gy ≠ w2.heap.size ∧ gz ≠ w2.heap.size := by omega
  have hwd : w.heap.size ≤ w2.heap.size := (gt hB1.out hb2.out).size
  have cyn := (rd_own ho2.out).2.1
  have czn := (rd_own ho3.out).2.1
  clear BW hb3 ho3 ho2 hb2 hB1 hz1 hz2 hy1 hy2
  generalize w2.heap.size = gd at *
  go_loopw [73] (fun c W => ∃ (i : Nat) (ds : List Nat), i ≤ bn ∧ c = .int .i64 (i : Int) ∧ ds.length = bn ∧ (∀ x ∈ ds, x < 256) ∧ ds.take i ++ mix (bl.drop i) (ys.drop i) = mix bl ys ∧
      W.ownsRow w.heap.size 5 1 (.slice (some ⟨gd, 0, none⟩) bn bn) bn (bs ds) ∧ Cl W gy ys ∧ Cl W gz bl ∧ Below w.heap.size w W) (fun c _ => bn - (intOf c).toNat)
  case atStart => exact ⟨0, List.replicate bn 0, by omega, rfl, by simp, by simp, by simp, HD.out, HY.out, HZ.out, BB.out⟩
  case round =>
    obtain ⟨i, ds, hi, rfl, hdl, hd8, he, ho, hcy, hcz, hbb⟩ := hrel
    clear HD HY HZ BB
    have hdl' := hid hdl
    have hd8' := hid hd8
    have he' := hid he
    have ho' := hid ho
    have hcy' := hid hcy
    have hcz' := hid hcz
    have hbb' := hid hbb
    clear hdl hd8 he ho hcy hcz hbb
    by_cases hin : i < bn
    · have k1 := hcy'.out i (by have := hyl.out; omega)
      have k2 := hcz'.out i (by have := hbl.out; omega)
      have k3 := ho'.out.cellAt i (by omega)
      rw [bs_get ds i (by have := hdl'.out; omega)] at k3
      have k4 := ho'.out.frozenAt i
      have b1 := get_lt hyx.out (i := i) (by have := hyl.out; omega)
      have b2 := get_lt hbx'.out (i := i) (by have := hbl.out; omega)
      have hst := hid (mix_step bl ys ds i bn hin hbl.out hyl.out hdl'.out _ he'.out)
      have hxx := u8_xor_nat _ _ b2 b1
      generalize ys.getD i 0 = Y at *
      generalize bl.getD i 0 = Z at *
      generalize ds.getD i 0 = D0 at *
      have hlt8 : Z ^^^ Y < 256 := Nat.xor_lt_two_pow (n := 8) b2 b1
      generalize Z ^^^ Y = V at *
      go_wp2
      go_region
      go_wp2
      refine ⟨⟨i + 1, ds.set i V, by omega, by go_num, by rw [List.length_set]; exact hdl'.out, ?_, hst.out, ?_, fun t ht => cl_set hcy'.out hzz.1 t ht, fun t ht => cl_set hcz'.out hzz.2 t ht, (Below.setCell hbb'.out hwd _).drew⟩, by simp [intOf]; omega⟩
      · intro x hx
        rcases List.mem_or_eq_of_mem_set hx with h | rfl
        · exact hd8'.out x h
        · exact hlt8
      · have := (ho'.out.stored i (.int .u8 (V : Int))).1
        rw [bs_set] at this
        exact this
    · obtain rfl : i = bn := by omega
      have hmx : ds = mix bl ys := by
        have := he'.out
        rw [List.take_of_length_le (by rw [hdl'.out]; exact Nat.le_refl _), List.drop_eq_nil_of_le (by rw [hbl.out]; exact Nat.le_refl _), List.drop_eq_nil_of_le (by rw [hyl.out]; exact Nat.le_refl _), mix_nil, List.append_nil] at this
        exact this
      have ad := addN_mix bl ys (by rw [hbl.out, hyl.out])
      rw [← hmx, hdl'.out] at ad
      have hT5 := hT'.out.keep hbb'.out
      have oz := hid (fun W (hW : Below wr.heap.size wr W) => of_any _ _ _ _ W (rd_cl (hcz'.out.keep hW) hbl.out czn) hbx'.out (by omega) (hT5.keep hW))
      have oy := hid (fun W (hW : Below wr.heap.size wr W) => of_any _ _ _ _ W (rd_cl (hcy'.out.keep hW) hyl.out cyn) hyx.out (by omega) (hT5.keep hW))
      have od := hid (fun W (hW : Below wr.heap.size wr W) => of_any _ _ _ _ W ((rd_own ho'.out).keep hW) hd8'.out (by omega) (hT5.keep hW))
      have bA : Below wr.heap.size wr (wr.alloc (.cells (Array.replicate i (.int .u8 0)) 5)).drew := (Below.alloc (Below.refl _ _) (Nat.le_refl _) _).drew
      have om := hid (of_any _ _ _ _ (wr.alloc (.cells (Array.replicate i (.int .u8 0)) 5)).drew ((rd_own (own_zero wr wr.heap.size i (Nat.le_refl _) hbn)).keep (Below.refl _ _).drew) (by simp) (by omega) (hT5.keep bA))
      have lz := addN_lt (show 0 < 4294967296 by decide) hbx'.out
      have ly := addN_lt (show 0 < 4294967296 by decide) hyx.out
      have ld := addN_lt (show 0 < 4294967296 by decide) hd8'.out
      have lm := addN_lt (show 0 < 4294967296 by decide) (show ∀ x ∈ List.replicate i 0, x < 256 by simp)
      generalize addN 0 bl = AZ at *
      generalize addN 0 ys = AY at *
      generalize addN 0 ds = AD at *
      generalize addN 0 (List.replicate i 0) = AM at *
      have x1 := xor_nat AZ AY AY rfl lz ly
      have x2 := xor_nat AD AM AM rfl ld lm
      rw [← ad] at x2
      generalize AZ ^^^ AY = V at *
      have lv := hid (fun W (hW : Below wr.heap.size wr W) => lives_any W (hT5.keep hW))
      have bb := hid hbb'.out
      have hT5' := hid hT5
      clear ad hmx hT5 lz ly ld lm hdl' hd8' he' ho' hcy' hcz' hbb' hyl hbl hb' hT' hbx' hyx hyr
      go_wp2
      go_region_held3 (fun W => Below wr.heap.size wr W) (first | with_reducible exact (Below.refl _ _).drew | with_reducible assumption) (first
        | (go_at_call_of 7 gz; refine (oz.out _ (by assumption)).mono ?_; rintro e y ⟨rfl, hy⟩; obtain rfl := hy.symm)
        | (go_at_call_of 7 gy; refine (oy.out _ (by assumption)).mono ?_; rintro e y ⟨rfl, hy⟩; obtain rfl := hy.symm)
        | (go_at_call_of 7 gd; refine (od.out _ (by assumption)).mono ?_; rintro e y ⟨rfl, hy⟩; obtain rfl := hy.symm)
        | (go_at_call_of 7 (wr.heap.size); refine om.out.mono ?_; rintro e y ⟨rfl, hy⟩; obtain rfl := hy.symm)
        | (go_at_call 6; refine (lv.out _ (by assumption)).mono ?_; rintro e y ⟨rfl, hy⟩; replace hy := gt (by assumption) hy))
      all_goals
        go_wp2
        go_ret
        exact ⟨rfl, gt bb.out hy⟩

end Go.Proofs.YtlaojlnndphnlaaDoor
