/- Remainders by the polynomial of CRC-32C, as numbers below 2^32: what a step, a byte, a product are, and how they hang together; no statement of the seat is proved here. -/
namespace Go.Proofs.YtndlogjmnbgegaaDoor

/-- The remainder of x times a. -/
def tx (a : Nat) : Nat := if a % 2 = 0 then a / 2 else (a / 2) ^^^ 2197175160

theorem xor4 (a b c d : Nat) : (a ^^^ b) ^^^ (c ^^^ d) = (a ^^^ c) ^^^ (b ^^^ d) := by
  rw [Nat.xor_assoc, Nat.xor_assoc, ← Nat.xor_assoc b c d, ← Nat.xor_assoc c b d, Nat.xor_comm b c]

theorem xor_cancel (a b : Nat) : a ^^^ (a ^^^ b) = b := by rw [← Nat.xor_assoc, Nat.xor_self, Nat.zero_xor]

theorem xor_eq_zero {a b : Nat} (h : a ^^^ b = 0) : a = b := by
  have := xor_cancel a b
  rw [h, Nat.xor_zero] at this
  exact this

theorem xor_lt {a b : Nat} (ha : a < 4294967296) (hb : b < 4294967296) : a ^^^ b < 4294967296 := Nat.xor_lt_two_pow (n := 32) ha hb

theorem tx_xor (a b : Nat) : tx (a ^^^ b) = tx a ^^^ tx b := by
  have h2 : (a ^^^ b) / 2 = a / 2 ^^^ b / 2 := Nat.xor_div_two
  have hm : (a ^^^ b) % 2 = (a + b) % 2 := by
    have h1 : (a ^^^ b) % 2 = 1 ↔ ¬ (a % 2 = 1 ↔ b % 2 = 1) := Nat.xor_mod_two_eq_one
    rcases Nat.mod_two_eq_zero_or_one (a ^^^ b) with h | h <;> rw [h] at h1 <;> omega
  unfold tx
  rw [h2, hm]
  rcases Nat.mod_two_eq_zero_or_one a with ha | ha <;> rcases Nat.mod_two_eq_zero_or_one b with hb | hb
  · rw [if_pos (by omega), if_pos ha, if_pos hb]
  · rw [if_neg (by omega), if_pos ha, if_neg (by omega), Nat.xor_assoc]
  · rw [if_neg (by omega), if_neg (by omega), if_pos hb, Nat.xor_assoc, Nat.xor_assoc, Nat.xor_comm (b / 2)]
  · rw [if_pos (by omega), if_neg (by omega), if_neg (by omega), xor4, Nat.xor_self, Nat.xor_zero]

theorem tx_zero : tx 0 = 0 := rfl
theorem tx_lt {a : Nat} (h : a < 4294967296) : tx a < 4294967296 := by
  unfold tx
  split
  · omega
  · exact xor_lt (by omega) (by decide)

theorem tx_two (b : Nat) : tx (2 * b) = b := by
  unfold tx
  rw [if_pos (by omega)]; omega

/-- What one step makes 0 is 0. -/
theorem tx_inj0 {a : Nat} (h : a < 4294967296) (h0 : tx a = 0) : a = 0 := by
  unfold tx at h0
  split at h0
  · omega
  · have := xor_eq_zero h0
    omega

/-- k steps. -/
def txn : Nat → Nat → Nat
  | 0, a => a
  | k + 1, a => txn k (tx a)

theorem txn_xor (k a b : Nat) : txn k (a ^^^ b) = txn k a ^^^ txn k b := by
  induction k generalizing a b with
  | zero => rfl
  | succ k ih => simp only [txn]; rw [tx_xor, ih]
theorem txn_zero (k : Nat) : txn k 0 = 0 := by
  induction k with
  | zero => rfl
  | succ k ih => simp only [txn, tx_zero]; exact ih
theorem txn_lt (k : Nat) {a : Nat} (h : a < 4294967296) : txn k a < 4294967296 := by
  induction k generalizing a with
  | zero => exact h
  | succ k ih => exact ih (tx_lt h)
theorem txn_add (j k a : Nat) : txn (j + k) a = txn j (txn k a) := by
  induction k generalizing a with
  | zero => rfl
  | succ k ih => rw [← Nat.add_assoc]; simp only [txn]; exact ih (tx a)
theorem txn_shift (k b : Nat) : txn k (2 ^ k * b) = b := by
  induction k with
  | zero => simp [txn]
  | succ k ih => rw [Nat.pow_succ, Nat.mul_comm _ 2, Nat.mul_assoc]; simp only [txn]; rw [tx_two, ih]
theorem txn_inj0 (k : Nat) {a : Nat} (h : a < 4294967296) (h0 : txn k a = 0) : a = 0 := by
  induction k generalizing a with
  | zero => exact h0
  | succ k ih => exact tx_inj0 h (ih (tx_lt h) h0)
theorem txn_inj (k : Nat) {a b : Nat} (ha : a < 4294967296) (hb : b < 4294967296) (h : txn k a = txn k b) : a = b := by
  have h1 : txn k (a ^^^ b) = 0 := by rw [txn_xor, h, Nat.xor_self]
  exact xor_eq_zero (txn_inj0 k (xor_lt ha hb) h1)

/-- Four steps at once, by a table. -/
theorem txn_four (r : Nat) : txn 4 r = r / 16 ^^^ txn 4 (r % 16) := by
  have e : r = (2 ^ 4 * (r / 16)) ^^^ (r % 16) := by
    have h1 : r % 16 < 2 ^ 4 := by omega
    have h2 := Nat.two_pow_add_eq_or_of_lt h1 (r / 16)
    have h3 : 2 ^ 4 * (r / 16) &&& r % 16 = 0 := by
      apply Nat.eq_of_testBit_eq
      intro i
      rw [Nat.testBit_and, Nat.testBit_two_pow_mul, Nat.zero_testBit]
      by_cases hi : 4 ≤ i
      · rw [Nat.testBit_lt_two_pow (Nat.lt_of_lt_of_le h1 (Nat.pow_le_pow_right (by omega) hi))]; simp
      · simp [hi]
    have h4 : 2 ^ 4 * (r / 16) ^^^ r % 16 = 2 ^ 4 * (r / 16) ||| r % 16 := by
      apply Nat.eq_of_testBit_eq
      intro i
      have := congrArg (fun n => n.testBit i) h3
      simp only [Nat.testBit_and, Nat.zero_testBit] at this
      rw [Nat.testBit_xor, Nat.testBit_or]
      revert this
      cases (2 ^ 4 * (r / 16)).testBit i <;> cases (r % 16).testBit i <;> simp
    rw [h4, ← h2]; omega
  conv => lhs; rw [e, txn_xor, txn_shift]

/-- A remainder behind more bytes. -/
def byte (r c : Nat) : Nat := txn 8 (r ^^^ c)
def fold : Nat → List Nat → Nat
  | r, [] => r
  | r, c :: cs => fold (byte r c) cs
theorem fold_nil (r : Nat) : fold r [] = r := rfl
theorem fold_cons (r c : Nat) (cs : List Nat) : fold r (c :: cs) = fold (byte r c) cs := rfl
theorem byte_lt {r c : Nat} (h : r < 4294967296) (hc : c < 256) : byte r c < 4294967296 := txn_lt 8 (xor_lt h (by omega))
theorem byte_mix (r c q d : Nat) : byte r c ^^^ byte q d = byte (r ^^^ q) (c ^^^ d) := by unfold byte; rw [← txn_xor, xor4]

theorem fold_append (r : Nat) (xs ys : List Nat) : fold r (xs ++ ys) = fold (fold r xs) ys := by
  induction xs generalizing r with
  | nil => rfl
  | cons c cs ih => exact ih _
theorem fold_lt {r : Nat} (h : r < 4294967296) {xs : List Nat} (hx : ∀ x ∈ xs, x < 256) : fold r xs < 4294967296 := by
  induction xs generalizing r with
  | nil => exact h
  | cons c cs ih => exact ih (byte_lt h (hx c (by simp))) fun x hx' => hx x (by simp [hx'])
/-- Bytes that are turned by others, of as many. -/
def mix : List Nat → List Nat → List Nat
  | x :: xs, y :: ys => (x ^^^ y) :: mix xs ys
  | _, _ => []
theorem mix_nil : mix [] [] = [] := rfl
theorem mix_cons (x y : Nat) (xs ys : List Nat) : mix (x :: xs) (y :: ys) = (x ^^^ y) :: mix xs ys := rfl
theorem fold_mix (r q : Nat) (xs ys : List Nat) (h : xs.length = ys.length) : fold r xs ^^^ fold q ys = fold (r ^^^ q) (mix xs ys) := by
  induction xs generalizing r q ys with
  | nil =>
    cases ys with
    | nil => rw [fold_nil, fold_nil, mix_nil, fold_nil]
    | cons y ys => simp at h
  | cons x xs ih =>
    cases ys with
    | nil => simp at h
    | cons y ys =>
      rw [fold_cons, fold_cons, mix_cons, fold_cons, ih _ _ ys (by simpa using h), byte_mix]
theorem mix_zero (xs : List Nat) : mix xs (List.replicate xs.length 0) = xs := by
  induction xs with
  | nil => rfl
  | cons x xs ih => simp [mix_cons, List.replicate_succ, ih]
theorem mix_zero' (xs : List Nat) : mix (List.replicate xs.length 0) xs = xs := by
  induction xs with
  | nil => rfl
  | cons x xs ih => simp [mix_cons, List.replicate_succ, ih]
theorem fold_none (k r : Nat) : fold r (List.replicate k 0) = txn (8 * k) r := by
  induction k generalizing r with
  | zero => rfl
  | succ k ih =>
    rw [List.replicate_succ, fold_cons, ih, byte, Nat.xor_zero, ← txn_add]
    rfl
theorem fold_split (r : Nat) (xs : List Nat) : fold r xs = txn (8 * xs.length) r ^^^ fold 0 xs := by
  have := fold_mix r 0 (List.replicate xs.length 0) xs (by simp)
  rw [fold_none, mix_zero', Nat.xor_zero] at this
  exact this.symm
theorem fold_ne {r q : Nat} (hr : r < 4294967296) (hq : q < 4294967296) (h : r ≠ q) {xs : List Nat} (hx : ∀ x ∈ xs, x < 256) : fold r xs ≠ fold q xs := by
  induction xs generalizing r q with
  | nil => exact h
  | cons c cs ih =>
    have hc := hx c (by simp)
    refine ih (byte_lt hr hc) (byte_lt hq hc) (fun e => h ?_) fun x hx' => hx x (by simp [hx'])
    have := txn_inj 8 (xor_lt hr (by omega)) (xor_lt hq (by omega)) e
    have h2 := congrArg (fun n => n ^^^ c) this
    simpa [Nat.xor_assoc] using h2

/-- One byte that is another one makes another remainder. -/
theorem fold_set {r : Nat} (hr : r < 4294967296) {xs : List Nat} (hx : ∀ x ∈ xs, x < 256) (i c : Nat) (hi : i < xs.length) (hc : c < 256) (hne : c ≠ xs.getD i 0) : fold r (xs.set i c) ≠ fold r xs := by
  induction xs generalizing r i with
  | nil => simp at hi
  | cons x xs ih =>
    have h0 := hx x (by simp)
    cases i with
    | zero =>
      rw [List.set_cons_zero, fold_cons, fold_cons]
      refine fold_ne (byte_lt hr hc) (byte_lt hr h0) (fun e => hne ?_) fun y hy => hx y (by simp [hy])
      have := txn_inj 8 (xor_lt hr (by omega)) (xor_lt hr (by omega)) e
      have h2 := congrArg (fun n => r ^^^ n) this
      simp only [xor_cancel] at h2
      simpa using h2
    | succ i =>
      rw [List.set_cons_succ, fold_cons, fold_cons]
      exact ih (byte_lt hr h0) (fun y hy => hx y (by simp [hy])) i (by simpa using hi) (by simpa using hne)

/-- The sums: Add, and Join. -/
def addN (s : Nat) (xs : List Nat) : Nat := fold (s ^^^ 4294967295) xs ^^^ 4294967295
def joinN (a b n : Nat) : Nat := txn (8 * n) a ^^^ b

theorem addN_lt {s : Nat} (h : s < 4294967296) {xs : List Nat} (hx : ∀ x ∈ xs, x < 256) : addN s xs < 4294967296 := xor_lt (fold_lt (xor_lt h (by decide)) hx) (by decide)
theorem joinN_lt {a b : Nat} (h : a < 4294967296) (hb : b < 4294967296) (n : Nat) : joinN a b n < 4294967296 := xor_lt (txn_lt _ h) hb
theorem addN_append (s : Nat) (xs ys : List Nat) : addN s (xs ++ ys) = addN (addN s xs) ys := by
  unfold addN
  rw [fold_append, Nat.xor_assoc _ 4294967295, Nat.xor_self, Nat.xor_zero]
theorem addN_join (s : Nat) (xs : List Nat) : addN s xs = joinN s (addN 0 xs) xs.length := by
  unfold addN joinN
  rw [fold_split, fold_split (0 ^^^ 4294967295), txn_xor, Nat.zero_xor]
  simp only [Nat.xor_assoc]
theorem joinN_left (a b c m n : Nat) : joinN (joinN a b m) c n = joinN a (joinN b c n) (m + n) := by
  unfold joinN
  rw [txn_xor, ← txn_add, Nat.mul_add, Nat.add_comm (8 * m), Nat.xor_assoc]
theorem addN_mix (xs ys : List Nat) (h : xs.length = ys.length) : addN 0 xs ^^^ addN 0 ys = addN 0 (mix xs ys) ^^^ addN 0 (List.replicate (mix xs ys).length 0) := by
  have e := fold_mix (0 ^^^ 4294967295) (0 ^^^ 4294967295) xs ys h
  have f := fold_mix (0 ^^^ 4294967295) (0 ^^^ 4294967295) (mix xs ys) (List.replicate (mix xs ys).length 0) (by simp)
  rw [mix_zero] at f
  rw [← f] at e
  unfold addN
  rw [xor4, e, ← xor4]

/-- What a product still has to add: k rounds are to come. -/
def tm : Nat → Nat → Nat → Nat
  | 0, _, _ => 0
  | k + 1, a, b => (if 2147483648 ≤ b then a else 0) ^^^ tm k (tx a) (2 * b % 4294967296)

theorem tm_zero (k a : Nat) : tm k a 0 = 0 := by
  induction k generalizing a with
  | zero => rfl
  | succ k ih => simp [tm, ih]
theorem tm_a (k a c b : Nat) : tm k (a ^^^ c) b = tm k a b ^^^ tm k c b := by
  induction k generalizing a c b with
  | zero => simp [tm]
  | succ k ih =>
    simp only [tm]
    rw [tx_xor, ih, xor4]
    split <;> simp
theorem tm_a0 (k b : Nat) : tm k 0 b = 0 := by
  induction k generalizing b with
  | zero => rfl
  | succ k ih => simp [tm, tx_zero, ih]
theorem tm_tx (k a b : Nat) : tx (tm k a b) = tm k (tx a) b := by
  induction k generalizing a b with
  | zero => simp [tm, tx_zero]
  | succ k ih =>
    simp only [tm]
    rw [tx_xor, ih]
    split <;> simp [tx_zero]
theorem top_bit {b : Nat} (h : b < 4294967296) : (2147483648 ≤ b) ↔ b.testBit 31 = true := by
  rw [Nat.testBit_eq_decide_div_mod_eq]
  simp only [decide_eq_true_eq]
  omega
theorem dbl_xor (b c : Nat) : 2 * (b ^^^ c) % 4294967296 = (2 * b % 4294967296) ^^^ (2 * c % 4294967296) := by
  rw [show (4294967296 : Nat) = 2 ^ 32 from rfl, ← Nat.xor_mod_two_pow]
  congr 1
  have := Nat.shiftLeft_xor_distrib (a := b) (b := c) (i := 1)
  simp only [Nat.shiftLeft_eq, Nat.pow_one] at this
  rw [Nat.mul_comm, this, Nat.mul_comm b, Nat.mul_comm c]
theorem tm_b (k a b c : Nat) (hb : b < 4294967296) (hc : c < 4294967296) : tm k a (b ^^^ c) = tm k a b ^^^ tm k a c := by
  induction k generalizing a b c with
  | zero => simp [tm]
  | succ k ih =>
    simp only [tm]
    rw [dbl_xor, ih _ _ _ (Nat.mod_lt _ (by decide)) (Nat.mod_lt _ (by decide)), xor4]
    congr 1
    have h1 := top_bit (xor_lt hb hc)
    have h2 := top_bit hb
    have h3 := top_bit hc
    rw [Nat.testBit_xor] at h1
    cases e2 : b.testBit 31 <;> cases e3 : c.testBit 31 <;> simp [e2, e3] at h1 h2 h3 <;> simp [h1, h2, h3, Nat.not_le.2]
theorem tm_more (k a b : Nat) (hb : b < 4294967296) (hk : k ≤ 32) (hd : 2 ^ (32 - k) ∣ b) : tm (k + 1) a b = tm k a b := by
  induction k generalizing a b with
  | zero =>
    have : b = 0 := Nat.eq_zero_of_dvd_of_lt hd hb
    subst this
    simp [tm]
  | succ k ih =>
    have h1 : 2 ^ (32 - k) ∣ 2 * b := by
      rw [show 32 - k = (32 - (k + 1)) + 1 by omega, Nat.pow_succ, Nat.mul_comm]
      exact Nat.mul_dvd_mul_left 2 hd
    have h2 : 2 ^ (32 - k) ∣ 4294967296 := Nat.pow_dvd_pow 2 (show 32 - k ≤ 32 by omega)
    have h3 := ih (tx a) (2 * b % 4294967296) (Nat.mod_lt _ (by decide)) (by omega) ((Nat.dvd_mod_iff h2).2 h1)
    rw [tm, h3]
    rfl

/-- Two ways to reckon a sum of bits are one if they are at each bit. -/
theorem lin_eq {f g : Nat → Nat} (hf : ∀ a b, f (a ^^^ b) = f a ^^^ f b) (hg : ∀ a b, g (a ^^^ b) = g a ^^^ g b) (k : Nat) (h : ∀ i, i < k → f (2 ^ i) = g (2 ^ i)) : ∀ a, a < 2 ^ k → f a = g a := by
  have f0 : f 0 = 0 := by have := hf 0 0; simpa using this
  have g0 : g 0 = 0 := by have := hg 0 0; simpa using this
  induction k with
  | zero =>
    intro a ha
    have : a = 0 := by simpa using ha
    rw [this, f0, g0]
  | succ k ih =>
    intro a ha
    have ih := ih fun i hi => h i (by omega)
    by_cases hk : a < 2 ^ k
    · exact ih a hk
    · have hp : 2 ^ (k + 1) = 2 * 2 ^ k := by rw [Nat.pow_succ, Nat.mul_comm]
      have e : a = 2 ^ k ^^^ (a - 2 ^ k) := by
        have h1 : a - 2 ^ k < 2 ^ k := by omega
        have h2 := Nat.two_pow_add_eq_or_of_lt h1 1
        apply Nat.eq_of_testBit_eq
        intro i
        have h3 : a = 2 ^ k * 1 + (a - 2 ^ k) := by omega
        have h4 := congrArg (fun n => n.testBit i) (h3.trans h2)
        simp only [Nat.mul_one, Nat.testBit_or] at h4
        rw [h4, Nat.testBit_xor]
        by_cases hi : i = k
        · subst hi
          rw [Nat.testBit_lt_two_pow h1]; simp
        · rw [Nat.testBit_two_pow_of_ne (by omega)]; simp
      rw [e, hf, hg, h k (by omega), ih _ (by omega)]

theorem tm_poly (a : Nat) (ha : a < 4294967296) : tm 32 a 2197175160 = tx (tm 32 a 1) := by
  refine lin_eq (f := fun a => tm 32 a 2197175160) (g := fun a => tx (tm 32 a 1)) (fun a b => tm_a _ _ _ _) (fun a b => ?_) 32 (by decide +kernel) a ha
  simp only [tm_a, tx_xor]

theorem tm_even (a h : Nat) (hh : h < 2147483648) : tm 32 a h = tx (tm 32 a (2 * h)) := by
  rw [tm_tx, tm, if_neg (by omega), Nat.zero_xor, Nat.mod_eq_of_lt (by omega), tm_more 31 (tx a) (2 * h) (by omega) (by omega) (by simp [Nat.dvd_mul_right])]

/-- To multiply by x times q is to multiply by q, and then by x. -/
theorem tm_step (a q : Nat) (ha : a < 4294967296) (hq : q < 4294967296) : tm 32 a (tx q) = tx (tm 32 a q) := by
  rcases Nat.mod_two_eq_zero_or_one q with h | h
  · have e : q = 2 * (q / 2) := by omega
    have : tx q = q / 2 := by unfold tx; rw [if_pos h]
    rw [this, tm_even a (q / 2) (by omega), ← e]
  · have e : tx q = q / 2 ^^^ 2197175160 := by unfold tx; rw [if_neg (by omega)]
    have e2 : q = (2 * (q / 2)) ^^^ 1 := by
      have : 2 * (q / 2) ^^^ 1 = 2 * (q / 2) + 1 := by
        have := Nat.two_pow_add_eq_or_of_lt (i := 1) (b := 1) (by decide) (q / 2)
        simp only [Nat.pow_one] at this
        rw [this]
        apply Nat.eq_of_testBit_eq
        intro i
        rw [Nat.testBit_xor, Nat.testBit_or]
        cases i with
        | zero => simp
        | succ i => simp [Nat.testBit_succ]
      omega
    rw [e, tm_b 32 a (q / 2) _ (by omega) (by decide), tm_even a (q / 2) (by omega), tm_poly a ha, ← tx_xor, ← tm_b 32 a _ _ (by omega) (by decide), ← e2]

theorem tm_one (a : Nat) : tm 32 a 2147483648 = a := by
  rw [tm, if_pos (by decide), show 2 * 2147483648 % 4294967296 = 0 from rfl, tm_zero, Nat.xor_zero]

/-- To multiply by a power of x is so many steps. -/
theorem tm_pow (a k : Nat) (ha : a < 4294967296) : tm 32 a (txn k 2147483648) = txn k a := by
  induction k with
  | zero => exact tm_one a
  | succ k ih =>
    have e : ∀ q, txn (k + 1) q = tx (txn k q) := fun q => by rw [Nat.add_comm, txn_add]; rfl
    rw [e, e, tm_step a _ ha (txn_lt k (by decide)), ih]

end Go.Proofs.YtndlogjmnbgegaaDoor
