/- What the document's own function Size returns; no statement of the seat is proved here. -/
import Derived.Test.YtbpcekhfjkodcaaOBb
import Derived.LoopN
namespace Go.Proofs.Ytbpcekhfjkodcaa
open Go.RowKit

set_option maxHeartbeats 2000000 in
theorem rsize_any (n : Nat) (hn : n < 18446744073709551616) (w : World) : Calls Try.prog 80 #[.int .u64 (n : Int)] w fun e w' => e = .returned (.int .i64 (szN n : Nat)) ∧ w' = w := by
  rcases szN_cases n with ⟨h1, e⟩ | ⟨h0, h1, e⟩ | ⟨h0, h1, e⟩ | ⟨h0, h1, e⟩ | ⟨h0, h1, e⟩ | ⟨h0, h1, e⟩ | ⟨h0, h1, e⟩ | ⟨h0, h1, e⟩ | ⟨h0, e⟩
  · rw [e]
    have g1 : (n : Int) / 128 = 0 := by omega
    have g2 : (n : Int) / 16384 = 0 := by omega
    have g3 : (n : Int) / 2097152 = 0 := by omega
    have g4 : (n : Int) / 268435456 = 0 := by omega
    have g5 : (n : Int) / 34359738368 = 0 := by omega
    have g6 : (n : Int) / 4398046511104 = 0 := by omega
    have g7 : (n : Int) / 562949953421312 = 0 := by omega
    have g8 : (n : Int) / 72057594037927936 = 0 := by omega
    go_enter Try.func80, Try.ntmps80
    go_wp2
    refine wp_loop_rounds 1 ?_
    rw [rounds_succ]; go_wp2
    go_ret
    exact ⟨rfl, rfl⟩
  · rw [e]
    have g1 : (0 : Int) < (n : Int) / 128 := by omega
    have g2 : (n : Int) / 16384 = 0 := by omega
    have g3 : (n : Int) / 2097152 = 0 := by omega
    have g4 : (n : Int) / 268435456 = 0 := by omega
    have g5 : (n : Int) / 34359738368 = 0 := by omega
    have g6 : (n : Int) / 4398046511104 = 0 := by omega
    have g7 : (n : Int) / 562949953421312 = 0 := by omega
    have g8 : (n : Int) / 72057594037927936 = 0 := by omega
    go_enter Try.func80, Try.ntmps80
    go_wp2
    refine wp_loop_rounds 2 ?_
    rw [rounds_succ]; go_wp2
    rw [rounds_succ]; go_wp2
    go_ret
    exact ⟨rfl, rfl⟩
  · rw [e]
    have g1 : (0 : Int) < (n : Int) / 128 := by omega
    have g2 : (0 : Int) < (n : Int) / 16384 := by omega
    have g3 : (n : Int) / 2097152 = 0 := by omega
    have g4 : (n : Int) / 268435456 = 0 := by omega
    have g5 : (n : Int) / 34359738368 = 0 := by omega
    have g6 : (n : Int) / 4398046511104 = 0 := by omega
    have g7 : (n : Int) / 562949953421312 = 0 := by omega
    have g8 : (n : Int) / 72057594037927936 = 0 := by omega
    go_enter Try.func80, Try.ntmps80
    go_wp2
    refine wp_loop_rounds 3 ?_
    rw [rounds_succ]; go_wp2
    rw [rounds_succ]; go_wp2
    rw [rounds_succ]; go_wp2
    go_ret
    exact ⟨rfl, rfl⟩
  · rw [e]
    have g1 : (0 : Int) < (n : Int) / 128 := by omega
    have g2 : (0 : Int) < (n : Int) / 16384 := by omega
    have g3 : (0 : Int) < (n : Int) / 2097152 := by omega
    have g4 : (n : Int) / 268435456 = 0 := by omega
    have g5 : (n : Int) / 34359738368 = 0 := by omega
    have g6 : (n : Int) / 4398046511104 = 0 := by omega
    have g7 : (n : Int) / 562949953421312 = 0 := by omega
    have g8 : (n : Int) / 72057594037927936 = 0 := by omega
    go_enter Try.func80, Try.ntmps80
    go_wp2
    refine wp_loop_rounds 4 ?_
    rw [rounds_succ]; go_wp2
    rw [rounds_succ]; go_wp2
    rw [rounds_succ]; go_wp2
    rw [rounds_succ]; go_wp2
    go_ret
    exact ⟨rfl, rfl⟩
  · rw [e]
    have g1 : (0 : Int) < (n : Int) / 128 := by omega
    have g2 : (0 : Int) < (n : Int) / 16384 := by omega
    have g3 : (0 : Int) < (n : Int) / 2097152 := by omega
    have g4 : (0 : Int) < (n : Int) / 268435456 := by omega
    have g5 : (n : Int) / 34359738368 = 0 := by omega
    have g6 : (n : Int) / 4398046511104 = 0 := by omega
    have g7 : (n : Int) / 562949953421312 = 0 := by omega
    have g8 : (n : Int) / 72057594037927936 = 0 := by omega
    go_enter Try.func80, Try.ntmps80
    go_wp2
    refine wp_loop_rounds 5 ?_
    rw [rounds_succ]; go_wp2
    rw [rounds_succ]; go_wp2
    rw [rounds_succ]; go_wp2
    rw [rounds_succ]; go_wp2
    rw [rounds_succ]; go_wp2
    go_ret
    exact ⟨rfl, rfl⟩
  · rw [e]
    have g1 : (0 : Int) < (n : Int) / 128 := by omega
    have g2 : (0 : Int) < (n : Int) / 16384 := by omega
    have g3 : (0 : Int) < (n : Int) / 2097152 := by omega
    have g4 : (0 : Int) < (n : Int) / 268435456 := by omega
    have g5 : (0 : Int) < (n : Int) / 34359738368 := by omega
    have g6 : (n : Int) / 4398046511104 = 0 := by omega
    have g7 : (n : Int) / 562949953421312 = 0 := by omega
    have g8 : (n : Int) / 72057594037927936 = 0 := by omega
    go_enter Try.func80, Try.ntmps80
    go_wp2
    refine wp_loop_rounds 6 ?_
    rw [rounds_succ]; go_wp2
    rw [rounds_succ]; go_wp2
    rw [rounds_succ]; go_wp2
    rw [rounds_succ]; go_wp2
    rw [rounds_succ]; go_wp2
    rw [rounds_succ]; go_wp2
    go_ret
    exact ⟨rfl, rfl⟩
  · rw [e]
    have g1 : (0 : Int) < (n : Int) / 128 := by omega
    have g2 : (0 : Int) < (n : Int) / 16384 := by omega
    have g3 : (0 : Int) < (n : Int) / 2097152 := by omega
    have g4 : (0 : Int) < (n : Int) / 268435456 := by omega
    have g5 : (0 : Int) < (n : Int) / 34359738368 := by omega
    have g6 : (0 : Int) < (n : Int) / 4398046511104 := by omega
    have g7 : (n : Int) / 562949953421312 = 0 := by omega
    have g8 : (n : Int) / 72057594037927936 = 0 := by omega
    go_enter Try.func80, Try.ntmps80
    go_wp2
    refine wp_loop_rounds 7 ?_
    rw [rounds_succ]; go_wp2
    rw [rounds_succ]; go_wp2
    rw [rounds_succ]; go_wp2
    rw [rounds_succ]; go_wp2
    rw [rounds_succ]; go_wp2
    rw [rounds_succ]; go_wp2
    rw [rounds_succ]; go_wp2
    go_ret
    exact ⟨rfl, rfl⟩
  · rw [e]
    have g1 : (0 : Int) < (n : Int) / 128 := by omega
    have g2 : (0 : Int) < (n : Int) / 16384 := by omega
    have g3 : (0 : Int) < (n : Int) / 2097152 := by omega
    have g4 : (0 : Int) < (n : Int) / 268435456 := by omega
    have g5 : (0 : Int) < (n : Int) / 34359738368 := by omega
    have g6 : (0 : Int) < (n : Int) / 4398046511104 := by omega
    have g7 : (0 : Int) < (n : Int) / 562949953421312 := by omega
    have g8 : (n : Int) / 72057594037927936 = 0 := by omega
    go_enter Try.func80, Try.ntmps80
    go_wp2
    refine wp_loop_rounds 8 ?_
    rw [rounds_succ]; go_wp2
    rw [rounds_succ]; go_wp2
    rw [rounds_succ]; go_wp2
    rw [rounds_succ]; go_wp2
    rw [rounds_succ]; go_wp2
    rw [rounds_succ]; go_wp2
    rw [rounds_succ]; go_wp2
    rw [rounds_succ]; go_wp2
    go_ret
    exact ⟨rfl, rfl⟩
  · rw [e]
    have g1 : (0 : Int) < (n : Int) / 128 := by omega
    have g2 : (0 : Int) < (n : Int) / 16384 := by omega
    have g3 : (0 : Int) < (n : Int) / 2097152 := by omega
    have g4 : (0 : Int) < (n : Int) / 268435456 := by omega
    have g5 : (0 : Int) < (n : Int) / 34359738368 := by omega
    have g6 : (0 : Int) < (n : Int) / 4398046511104 := by omega
    have g7 : (0 : Int) < (n : Int) / 562949953421312 := by omega
    have g8 : (0 : Int) < (n : Int) / 72057594037927936 := by omega
    go_enter Try.func80, Try.ntmps80
    go_wp2
    refine wp_loop_rounds 9 ?_
    rw [rounds_succ]; go_wp2
    rw [rounds_succ]; go_wp2
    rw [rounds_succ]; go_wp2
    rw [rounds_succ]; go_wp2
    rw [rounds_succ]; go_wp2
    rw [rounds_succ]; go_wp2
    rw [rounds_succ]; go_wp2
    rw [rounds_succ]; go_wp2
    rw [rounds_succ]; go_wp2
    go_ret
    exact ⟨rfl, rfl⟩

end Go.Proofs.Ytbpcekhfjkodcaa
