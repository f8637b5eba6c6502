/- What math/bits.Len64 returns; no statement of the seat is proved here. -/
import Derived.Test.YtjlahomjhadnkaaProg
import Derived.Lib.Strings
import Derived.Lib.Slices
import Derived.Lib.Small
import Derived.Lib.Walk
import Derived.Lib.BitFns
namespace Go.Proofs.Ytjlahomjhadnkaa
namespace Oct

set_option maxRecDepth 100000 in
theorem len_fin (n : Nat) (y : Int) (c : Nat) (hc : c ≤ 56) (h0 : 0 ≤ y) (h1 : y ≤ 255) (hb : Lib.bitLen n = c + Lib.bitLen y.toNat) :
    ((c : Int) + ((Lib.len8 y + 9223372036854775808) % 18446744073709551616 - 9223372036854775808) + 9223372036854775808) % 18446744073709551616 - 9223372036854775808 = ((Lib.bitLen n : Nat) : Int) := by
  have l := Lib.bitLen_le8' y h0 h1
  rw [Lib.len8_of y h0 h1, hb]
  omega

set_option maxHeartbeats 4000000 in
set_option maxRecDepth 100000 in
theorem len64_any (x : Int) (w : World) (h0 : 0 ≤ x) (h1 : x < 18446744073709551616) :
    Calls Try.prog 95 #[.int .u64 x] w fun e w' => e = .returned (.int .i64 (Lib.bitLen x.toNat)) ∧ w' = w := by
  go_enter Try.func95, Try.ntmps95
  go_wp2
  all_goals (go_ret; refine ⟨congrArg Ending.returned (congrArg (Value.int IntKind.i64) ?_), rfl⟩)
  · refine len_fin x.toNat (x / 4294967296 / 65536 / 256 % 256) 56 (by omega) (by omega) (by omega) ?_
    rw [show (x / 4294967296 / 65536 / 256 % 256).toNat = x.toNat / 72057594037927936 by omega]
    exact Lib.bitLen_shift56 x.toNat (by omega) (by omega)
  · refine len_fin x.toNat (x / 4294967296 / 65536 % 256) 48 (by omega) (by omega) (by omega) ?_
    rw [show (x / 4294967296 / 65536 % 256).toNat = x.toNat / 281474976710656 by omega]
    exact Lib.bitLen_shift48 x.toNat (by omega) (by omega)
  · refine len_fin x.toNat (x / 4294967296 / 256 % 256) 40 (by omega) (by omega) (by omega) ?_
    rw [show (x / 4294967296 / 256 % 256).toNat = x.toNat / 1099511627776 by omega]
    exact Lib.bitLen_shift40 x.toNat (by omega) (by omega)
  · refine len_fin x.toNat (x / 4294967296 % 256) 32 (by omega) (by omega) (by omega) ?_
    rw [show (x / 4294967296 % 256).toNat = x.toNat / 4294967296 by omega]
    exact Lib.bitLen_shift32 x.toNat (by omega) (by omega)
  · refine len_fin x.toNat (x / 65536 / 256 % 256) 24 (by omega) (by omega) (by omega) ?_
    rw [show (x / 65536 / 256 % 256).toNat = x.toNat / 16777216 by omega]
    exact Lib.bitLen_shift24 x.toNat (by omega) (by omega)
  · refine len_fin x.toNat (x / 65536 % 256) 16 (by omega) (by omega) (by omega) ?_
    rw [show (x / 65536 % 256).toNat = x.toNat / 65536 by omega]
    exact Lib.bitLen_shift16 x.toNat (by omega) (by omega)
  · refine len_fin x.toNat (x / 256 % 256) 8 (by omega) (by omega) (by omega) ?_
    rw [show (x / 256 % 256).toNat = x.toNat / 256 by omega]
    exact Lib.bitLen_shift8 x.toNat (by omega) (by omega)
  · have l := Lib.bitLen_le8' (x % 256) (by omega) (by omega)
    rw [Lib.len8_of (x % 256) (by omega) (by omega)]
    rw [show (x % 256).toNat = x.toNat by omega] at l ⊢
    omega

end Oct
end Go.Proofs.Ytjlahomjhadnkaa
