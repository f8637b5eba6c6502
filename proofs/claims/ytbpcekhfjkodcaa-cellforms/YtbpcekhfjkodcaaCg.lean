/- What Same returns of nodes that are the same; no statement of the seat is proved here. -/
import Derived.Test.YtbpcekhfjkodcaaCe
namespace Go.Proofs.Ytbpcekhfjkodcaa
open Go.RowKit

set_option maxHeartbeats 4000000 in
set_option maxRecDepth 20000 in
theorem same_true (leaf : Bool) (r : Int) (co : Option Addr) (cn cc : Nat) (cs : List C) (eo : Option Addr) (ec : Nat) (es : List C) (w : World) (h : Cs w co cn cc cs) (k : Cs w eo cn ec es) (he : cs.map nrm = es.map nrm) (hcn : cn ≤ 100000) :
    Calls Try.prog 19 #[.agg #[.bool leaf, .int .i64 r, .slice co cn cc], .agg #[.bool leaf, .int .i64 r, .slice eo cn ec]] w fun e w' => e = .returned (.bool true) ∧ Below w.heap.size w w' := by
  have h' := hid h
  have k' := hid k
  have hl' := hid h.len
  have he' := hid he
  obtain ⟨w2, hw2⟩ : ∃ w2, w2 = (w.alloc (.cells #[.bool leaf, .int .i64 r, .slice co cn cc] 33)).alloc (.cells #[.bool leaf, .int .i64 r, .slice eo cn ec] 33) := ⟨_, rfl⟩
  have B2 := hid (show Below w.heap.size w w2 by rw [hw2]; exact gt (ext1 _) (ext1 _))
  obtain ⟨q3, hq3⟩ : ∃ q3, q3 = w.heap.size + 1 := ⟨_, rfl⟩
  have N3 := hid (show NB 33 w2 q3 leaf r eo cn ec by
    have := NB.new 33 (w.alloc (.cells #[.bool leaf, .int .i64 r, .slice co cn cc] 33)) leaf r eo cn ec
    rw [show (w.alloc (.cells #[.bool leaf, .int .i64 r, .slice co cn cc] 33)).heap.size = q3 by rw [hq3]; simp] at this
    rw [hw2]; exact this)
  replace hw2 := hid hw2.symm
  have hq3w : w.heap.size < q3 := by omega
  replace hq3 := hid hq3.symm
  clear h k he
  go_enter Try.func19, Try.ntmps19
  go_wp2
  rw [hw2.out, hq3.out]
  go_loopw [32] (fun c W => ∃ (i : Nat), i ≤ cn ∧ c = .int .i64 (i : Int) ∧ NB 33 W q3 leaf r eo cn ec ∧ Below w.heap.size w W) (fun c _ => cn - (intOf c).toNat)
  case atStart => exact ⟨0, by omega, rfl, N3.out, B2.out⟩
  case round =>
    obtain ⟨i, hi, rfl, hq, hb⟩ := hrel
    have hq' := hid hq
    have hb' := hid hb
    clear hq hb
    by_cases hik : i < cn
    · obtain ⟨b, off, rfl, hc⟩ := h'.out.at_ (by omega)
      obtain ⟨b2, off2, rfl, kc⟩ := k'.out.at_ (by omega)
      have ha := (h'.out.keep hb'.out).ok_at hik
      have ka := (k'.out.keep hb'.out).ok_at hik
      obtain ⟨x0, x1, x2, x3, x4⟩ := (hc i hik).keep hb'.out
      obtain ⟨z0, z1, z2, z3, z4⟩ := (kc i hik).keep hb'.out
      have hE : nrm (cs.getD i default) = nrm (es.getD i default) := by
        have h1 := congrArg (fun l : List C => l.getD i default) he'.out
        have l1 : i < cs.length := by have := hl'.out; omega
        have l2 : i < es.length := by have := k'.out.len; omega
        simpa [List.getD, List.getElem?_eq_getElem l1, List.getElem?_eq_getElem l2] using h1
      generalize cs.getD i default = a at *
      generalize es.getD i default = d at *
      simp only [nrm, C.mk.injEq] at hE
      obtain ⟨e1, e2, e3, _, _, _, e4, e5⟩ := hE
      rw [← e1] at z0; rw [← e2] at z1; rw [← e3] at z2; rw [← e4] at z4
      have rd1 := ha.rd
      have rd2 := ka.rd
      rw [← e5] at rd2
      obtain ⟨o1, n1, m1, ho1⟩ : ∃ o n m, (o, n, m) = (a.o, a.n, a.m) := ⟨_, _, _, rfl⟩
      obtain ⟨o2, n2, m2, ho2⟩ : ∃ o n m, (o, n, m) = (d.o, d.n, d.m) := ⟨_, _, _, rfl⟩
      simp only [Prod.mk.injEq] at ho1 ho2
      rw [← ho1.1, ← ho1.2.1, ← ho1.2.2] at x3 rd1
      rw [← ho2.1, ← ho2.2.1, ← ho2.2.2] at z3 rd2
      obtain ⟨S, hS⟩ : ∃ S, S = str a.b := ⟨_, rfl⟩
      generalize a.k = ak at *
      generalize a.c = ac at *
      generalize a.l = al at *
      generalize a.x = ax at *
      have EA : Below wr.heap.size wr ((wr.alloc (.cells #[.int .i64 ak, .int .i64 ac, .int .i64 al, .slice o1 n1 m1, .int .i64 ax] 69)).alloc (.cells #[.int .i64 ak, .int .i64 ac, .int .i64 al, .slice o2 n2 m2, .int .i64 ax] 69)) := gt (ext1 _) (ext1 _)
      have cv1 := conv_rd (P := Try.prog) (rd1.keep EA) 25 9 5 Try.underlying25 Try.underlying5 (by kernel_rfl)
      have cv2 := conv_rd (P := Try.prog) (rd2.keep EA) 25 9 5 Try.underlying25 Try.underlying5 (by kernel_rfl)
      rw [← hS] at cv1 cv2
      obtain ⟨u0, u1, u2⟩ := hq'.out.cells
      have hlt := hq'.out.lt
      have EA' := hid EA
      have hb2 : b2 < wr.heap.size := lt_cell z0
      clear hc kc ha ka e1 e2 e3 e4 e5 rd1 rd2 ho1 ho2 hS EA
      go_wp2
      refine ⟨⟨i + 1, by omega, by go_num, hq'.out.keep EA'.out, gt hb'.out EA'.out⟩, by simp [intOf]; omega⟩
    · obtain rfl : i = cn := by omega
      go_wp2
      go_ret
      exact ⟨rfl, hb'.out⟩

end Go.Proofs.Ytbpcekhfjkodcaa
