/- The checksum's register over bits and bytes: it is linear; sixteen bits tell themselves apart; a burst of at most sixteen bits shows. Plain mathematics, of no program. -/
import Derived.Test.YtfcmpnfdgfdclaaPure
namespace Go.Proofs.Ytfcmpnfdgfdclaa.Fcs
open Go.Proofs.Ytfcmpnfdgfdclaa.Oct

/-- A register takes a bit. -/
def step (c : Nat) (b : Bool) : Nat := c / 2 ^^^ (if (c % 2 == 1) != b then 33800 else 0)
def run (c : Nat) (l : List Bool) : Nat := l.foldl step c
/-- The k lowest bits of a number, the lowest first. -/
def bitsN : Nat → Nat → List Bool
  | 0, _ => []
  | k + 1, n => (n % 2 == 1) :: bitsN k (n / 2)
def bitsL (l : List UInt8) : List Bool := l.flatMap fun b => bitsN 8 b.toNat
/-- The register behind all bytes. -/
def more (c : Nat) (l : List UInt8) : Nat := run c (bitsL l)

theorem step_lt (c : Nat) (b : Bool) (h : c < 65536) : step c b < 65536 := by
  unfold step
  refine Nat.xor_lt_two_pow (n := 16) (by omega) ?_
  split <;> omega
theorem run_lt (l : List Bool) : ∀ (c : Nat), c < 65536 → run c l < 65536 := by
  induction l with
  | nil => exact fun c h => h
  | cons b l ih => exact fun c h => ih _ (step_lt c b h)
theorem more_lt (c : Nat) (l : List UInt8) (h : c < 65536) : more c l < 65536 := run_lt _ _ h
theorem run_append (c : Nat) (a b : List Bool) : run c (a ++ b) = run (run c a) b := by simp [run]
theorem run_cons (c : Nat) (a : Bool) (b : List Bool) : run c (a :: b) = run (step c a) b := rfl
theorem bitsL_append (a b : List UInt8) : bitsL (a ++ b) = bitsL a ++ bitsL b := by simp [bitsL]
theorem bitsL_cons (a : UInt8) (b : List UInt8) : bitsL (a :: b) = bitsN 8 a.toNat ++ bitsL b := by simp [bitsL]
theorem more_append (c : Nat) (a b : List UInt8) : more c (a ++ b) = more (more c a) b := by simp [more, bitsL_append, run_append]
theorem more_snoc (c : Nat) (a : List UInt8) (b : UInt8) : more c (a ++ [b]) = run (more c a) (bitsN 8 b.toNat) := by
  rw [more_append]; simp [more, bitsL]
theorem bitsN_length (k : Nat) : ∀ n, (bitsN k n).length = k := by
  induction k with
  | zero => exact fun _ => rfl
  | succ k ih => intro n; simp [bitsN, ih]
theorem bitsL_length (l : List UInt8) : (bitsL l).length = 8 * l.length := by
  induction l with
  | nil => rfl
  | cons b l ih => rw [bitsL_cons, List.length_append, bitsN_length, ih, List.length_cons]; omega

theorem xor4 (a b c d : Nat) : (a ^^^ b) ^^^ (c ^^^ d) = (a ^^^ c) ^^^ (b ^^^ d) := by
  rw [Nat.xor_assoc, ← Nat.xor_assoc b c d, Nat.xor_comm b c, Nat.xor_assoc c b d, ← Nat.xor_assoc]
theorem odd_xor (a b : Nat) : ((a ^^^ b) % 2 == 1) = ((a % 2 == 1) ^^ (b % 2 == 1)) := by
  have h := @Nat.xor_mod_two_eq_one a b
  by_cases ha : a % 2 = 1 <;> by_cases hb : b % 2 = 1 <;> simp_all
theorem step_lin (c d : Nat) (a b : Bool) : step (c ^^^ d) (a ^^ b) = step c a ^^^ step d b := by
  unfold step
  rw [xor4, ← Nat.xor_div_two, odd_xor]
  congr 1
  cases (c % 2 == 1) <;> cases (d % 2 == 1) <;> cases a <;> cases b <;> simp
theorem run_lin : ∀ (s t : List Bool) (c d : Nat), s.length = t.length → run (c ^^^ d) (List.zipWith (· ^^ ·) s t) = run c s ^^^ run d t
  | [], [], _, _, _ => rfl
  | a :: s, b :: t, c, d, h => by
    rw [List.zipWith_cons_cons, run_cons, run_cons, run_cons, step_lin]
    exact run_lin s t _ _ (by simpa using h)
theorem bitsN_xor (k : Nat) : ∀ a b, bitsN k (a ^^^ b) = List.zipWith (· ^^ ·) (bitsN k a) (bitsN k b) := by
  induction k with
  | zero => exact fun _ _ => rfl
  | succ k ih => intro a b; simp only [bitsN, List.zipWith_cons_cons, odd_xor, Nat.xor_div_two, ih]
theorem bitsN_zero (k : Nat) : bitsN k 0 = List.replicate k false := by
  induction k with
  | zero => rfl
  | succ k ih => simp [bitsN, ih, List.replicate_succ]
theorem bitsL_xor : ∀ (s t : List UInt8), s.length = t.length → bitsL (List.zipWith (· ^^^ ·) s t) = List.zipWith (· ^^ ·) (bitsL s) (bitsL t)
  | [], [], _ => rfl
  | a :: s, b :: t, h => by
    rw [List.zipWith_cons_cons, bitsL_cons, bitsL_cons, bitsL_cons, bitsL_xor s t (by simpa using h), UInt8.toNat_xor, bitsN_xor, List.zipWith_append (by rw [bitsN_length, bitsN_length])]
theorem more_lin (s t : List UInt8) (c d : Nat) (h : s.length = t.length) : more (c ^^^ d) (List.zipWith (· ^^^ ·) s t) = more c s ^^^ more d t := by
  unfold more
  rw [bitsL_xor s t h, run_lin _ _ _ _ (by rw [bitsL_length, bitsL_length, h])]
theorem bitsN_add (a b : Nat) : ∀ n, bitsN (a + b) n = bitsN a n ++ bitsN b (n / 2 ^ a) := by
  induction a with
  | zero => intro n; simp [bitsN]
  | succ a ih =>
    intro n
    rw [show a + 1 + b = (a + b) + 1 by omega, bitsN, ih, bitsN, List.cons_append, Nat.div_div_eq_div_mul, Nat.pow_succ, Nat.mul_comm 2]
theorem bitsN_mod (k : Nat) : ∀ n, bitsN k (n % 2 ^ k) = bitsN k n := by
  induction k with
  | zero => exact fun _ => rfl
  | succ k ih =>
    intro n
    simp only [bitsN]
    rw [show n % 2 ^ (k + 1) % 2 = n % 2 by rw [Nat.pow_succ, Nat.mul_comm, Nat.mod_mul_right_mod]]
    rw [show n % 2 ^ (k + 1) / 2 = n / 2 % 2 ^ k by rw [Nat.pow_succ, Nat.mul_comm, Nat.mod_mul_right_div_self]]
    rw [ih]
theorem bitsN_inj (k : Nat) : ∀ a b, a < 2 ^ k → b < 2 ^ k → bitsN k a = bitsN k b → a = b := by
  induction k with
  | zero => intro a b ha hb _; omega
  | succ k ih =>
    intro a b ha hb h
    simp only [bitsN, List.cons.injEq] at h
    rw [Nat.pow_succ] at ha hb
    have h2 := ih (a / 2) (b / 2) (by omega) (by omega) h.2
    have h1 := h.1
    have h3 : a % 2 = b % 2 := by
      rcases Nat.mod_two_eq_zero_or_one a with e1 | e1 <;> rcases Nat.mod_two_eq_zero_or_one b with e2 | e2 <;> rw [e1, e2] at h1 ⊢ <;> cases h1
    omega

/-- A register that takes its own bits is shifted. -/
theorem run_self (k : Nat) : ∀ n, run n (bitsN k n) = n / 2 ^ k := by
  induction k with
  | zero => intro n; simp [bitsN, run]
  | succ k ih =>
    intro n
    rw [bitsN, run_cons, show step n (n % 2 == 1) = n / 2 by simp [step], ih, Nat.div_div_eq_div_mul, Nat.pow_succ, Nat.mul_comm 2]
theorem run_zeros (k : Nat) : run 0 (List.replicate k false) = 0 := by
  have := run_self k 0
  rw [bitsN_zero] at this
  simpa using this

/-- What a byte does to a register of zeros. -/
def tab (j : Nat) : Nat := run j (List.replicate 8 false)
theorem tab_zero : tab 0 = 0 := run_zeros 8
theorem tab_lt (j : Nat) (h : j < 65536) : tab j < 65536 := run_lt _ _ h
theorem zip_zeros (l : List Bool) : List.zipWith (· ^^ ·) (List.replicate l.length false) l = l := by
  induction l with
  | nil => rfl
  | cons b l ih => rw [List.length_cons, List.replicate_succ, List.zipWith_cons_cons, ih]; simp
theorem tab_xor (a b : Nat) : tab (a ^^^ b) = tab a ^^^ tab b := by
  unfold tab
  rw [← run_lin _ _ _ _ rfl]
  rfl
theorem add_xor (k low : Nat) (h : low < 2 ^ k) : 2 ^ k + low = 2 ^ k ^^^ low := by
  have h1 := Nat.two_pow_add_eq_or_of_lt h 1
  rw [Nat.mul_one] at h1
  rw [h1]
  apply Nat.eq_of_testBit_eq
  intro i
  rw [Nat.testBit_or, Nat.testBit_xor, Nat.testBit_two_pow]
  by_cases e : k = i
  · subst e; rw [Nat.testBit_lt_two_pow h]; simp
  · simp [e]
theorem tab_add (k low : Nat) (h : low < 2 ^ k) : tab (2 ^ k + low) = tab (2 ^ k) ^^^ tab low := by rw [add_xor k low h, tab_xor]

/-- A register takes a byte: by the table. -/
theorem run_byte (c b : Nat) (hb : b < 256) : c / 256 ^^^ tab (c % 256 ^^^ b) = run c (bitsN 8 b) := by
  have e : c = (c % 256 ^^^ b) ^^^ ((c / 256 * 256) ^^^ b) := by
    rw [xor4, Nat.xor_self, Nat.xor_zero]
    have h := Nat.two_pow_add_eq_or_of_lt (i := 8) (b := c % 256) (by omega) (c / 256)
    apply Nat.eq_of_testBit_eq
    intro i
    rw [Nat.testBit_xor]
    have hc : c = 2 ^ 8 * (c / 256) + c % 256 := by omega
    rw [show c.testBit i = (2 ^ 8 * (c / 256) ||| c % 256).testBit i by rw [← h, ← hc], Nat.testBit_or, Nat.testBit_two_pow_mul, Nat.mul_comm, show 256 = 2 ^ 8 from rfl, Nat.testBit_two_pow_mul, Nat.testBit_mod_two_pow]
    by_cases hi : i < 8
    · have h8 : ¬ 8 ≤ i := by omega
      simp [hi, h8]
    · simp [hi]
  have hz : bitsN 8 b = List.zipWith (· ^^ ·) (List.replicate 8 false) (bitsN 8 b) := by
    have := zip_zeros (bitsN 8 b)
    rw [bitsN_length] at this
    exact this.symm
  have hr : run ((c / 256 * 256) ^^^ b) (bitsN 8 b) = c / 256 := by
    have h1 : bitsN 8 b = bitsN 8 ((c / 256 * 256) ^^^ b) := by
      rw [bitsN_xor, ← bitsN_mod 8 (c / 256 * 256), show c / 256 * 256 % 2 ^ 8 = 0 by omega, bitsN_zero]
      exact hz
    rw [h1, run_self, Nat.xor_div_two_pow]
    rw [show c / 256 * 256 / 2 ^ 8 = c / 256 by omega, show b / 2 ^ 8 = 0 by omega, Nat.xor_zero]
  conv => rhs; rw [hz]
  conv => rhs; rw [e]
  rw [run_lin _ _ _ _ (by rw [bitsN_length]; rfl), hr, Nat.xor_comm]
  rfl

/-- Sixteen bits at most: what is left small was small. -/
theorem run_small : ∀ (l : List Bool) (c j : Nat), c < 65536 → j + l.length ≤ 16 → run c l < 2 ^ j → c < 2 ^ (j + l.length)
  | [], _, _, _, _, h => h
  | b :: l, c, j, hc, hl, h => by
    rw [List.length_cons] at hl ⊢
    rw [run_cons] at h
    have h1 := run_small l _ j (step_lt c b hc) (by omega) h
    have h2 : 2 ^ (j + l.length) ≤ 2 ^ 15 := Nat.pow_le_pow_right (by omega) (by omega)
    have h3 : c / 2 < 2 ^ 15 := by omega
    unfold step at h1
    split at h1
    · exfalso
      have h4 : (c / 2 ^^^ 33800).testBit 15 = false := Nat.testBit_lt_two_pow (by omega)
      rw [Nat.testBit_xor, Nat.testBit_lt_two_pow h3] at h4
      revert h4
      decide
    · rw [Nat.xor_zero] at h1
      rw [show j + (l.length + 1) = (j + l.length) + 1 by omega, Nat.pow_succ]
      omega
theorem run_none : ∀ (l : List Bool), l.length ≤ 16 → run 0 l = 0 → l = List.replicate l.length false
  | [], _, _ => rfl
  | b :: l, hl, h => by
    rw [List.length_cons] at hl
    rw [run_cons] at h
    cases b with
    | true =>
      have h1 := run_small l (step 0 true) 0 (step_lt _ _ (by omega)) (by omega) (by rw [h]; decide)
      have h2 : 2 ^ (0 + l.length) ≤ 2 ^ 15 := Nat.pow_le_pow_right (by omega) (by omega)
      have h3 : step 0 true = 33800 := by decide
      omega
    | false =>
      rw [show step 0 false = 0 by decide] at h
      rw [List.length_cons, List.replicate_succ, ← run_none l (by omega) h]
theorem step_ne (c : Nat) (hc : c < 65536) (h : c ≠ 0) : step c false ≠ 0 := by
  unfold step
  split
  · intro h0
    have h3 : c / 2 < 2 ^ 15 := by omega
    have h4 : (c / 2 ^^^ 33800).testBit 15 = false := by rw [h0]; decide
    rw [Nat.testBit_xor, Nat.testBit_lt_two_pow h3] at h4
    revert h4
    decide
  · rename_i hx
    rw [Nat.xor_zero]
    by_cases e : c % 2 = 1
    · simp [e] at hx
    · omega
theorem run_ne : ∀ (k c : Nat), c < 65536 → c ≠ 0 → run c (List.replicate k false) ≠ 0
  | 0, _, _, h => h
  | k + 1, c, hc, h => by
    rw [List.replicate_succ, run_cons]
    exact run_ne k _ (step_lt _ _ hc) (step_ne c hc h)

/-- A text with its checksum behind it. -/
def sum (l : List UInt8) : Nat := more 65535 l ^^^ 65535
def seal_ (l : List UInt8) : List UInt8 := l ++ [UInt8.ofNat (sum l % 256), UInt8.ofNat (sum l / 256)]
def good (l : List UInt8) : Bool := decide (2 ≤ l.length) && (more 65535 l == 61624)
theorem sum_lt (l : List UInt8) : sum l < 65536 := Nat.xor_lt_two_pow (n := 16) (more_lt _ _ (by omega)) (by omega)
theorem seal_length (l : List UInt8) : (seal_ l).length = l.length + 2 := by simp [seal_]
theorem bits_two (v : Nat) (h : v < 65536) : bitsL [UInt8.ofNat (v % 256), UInt8.ofNat (v / 256)] = bitsN 16 v := by
  rw [bitsL_cons, bitsL_cons, show (16 : Nat) = 8 + 8 from rfl, bitsN_add, UInt8.toNat_ofNat', UInt8.toNat_ofNat']
  rw [show v % 256 % 2 ^ 8 = v % 2 ^ 8 by omega, bitsN_mod, show v / 256 % 2 ^ 8 = v / 2 ^ 8 by omega]
  simp [bitsL]
theorem tail_good (r : Nat) (h : r < 65536) : run r (bitsN 16 (r ^^^ 65535)) = 61624 := by
  have h1 := run_lin (bitsN 16 r) (bitsN 16 65535) r 0 (by rw [bitsN_length, bitsN_length])
  rw [← bitsN_xor, Nat.xor_zero, run_self, show r / 2 ^ 16 = 0 by omega] at h1
  rw [h1]
  decide
theorem good_seal (l : List UInt8) : good (seal_ l) = true := by
  unfold good seal_
  rw [more_append]
  have h := more_lt 65535 l (by omega)
  have : more (more 65535 l) [UInt8.ofNat (sum l % 256), UInt8.ofNat (sum l / 256)] = 61624 := by
    unfold more
    rw [bits_two _ (sum_lt l)]
    exact tail_good _ h
  rw [this]
  simp
theorem zip_false : ∀ (s t : List Bool), s.length = t.length → List.zipWith (· ^^ ·) s t = List.replicate s.length false → s = t
  | [], [], _, _ => rfl
  | a :: s, b :: t, h, h2 => by
    rw [List.zipWith_cons_cons, List.length_cons, List.replicate_succ, List.cons.injEq] at h2
    rw [zip_false s t (by simpa using h) h2.2]
    have := h2.1
    revert this
    cases a <;> cases b <;> simp
theorem run_apart (r : Nat) (s t : List Bool) (hs : s.length = 16) (ht : t.length = 16) (h : run r s = run r t) : s = t := by
  have h1 := run_lin s t r r (by rw [hs, ht])
  rw [h, Nat.xor_self, Nat.xor_self] at h1
  have hl : (List.zipWith (· ^^ ·) s t).length = 16 := by simp [hs, ht]
  have h2 := run_none _ (by omega) h1
  rw [hl] at h2
  exact zip_false s t (by rw [hs, ht]) (by rw [h2, hs])
theorem two_of (l : List UInt8) (h : 2 ≤ l.length) : ∃ u x y, l = u ++ [x, y] ∧ u.length + 2 = l.length := by
  have h1 := List.take_append_drop (l.length - 2) l
  have h2 : (l.drop (l.length - 2)).length = 2 := by rw [List.length_drop]; omega
  match l.drop (l.length - 2), h2, h1 with
  | [x, y], _, h1 => exact ⟨l.take (l.length - 2), x, y, h1.symm, by rw [List.length_take]; omega⟩
/-- Nothing else is good. -/
theorem seal_good (l : List UInt8) (h : good l = true) : seal_ (l.take (l.length - 2)) = l := by
  unfold good at h
  rw [Bool.and_eq_true, decide_eq_true_eq, beq_iff_eq] at h
  obtain ⟨u, x, y, rfl, hu⟩ := two_of l h.1
  have hg := good_seal u
  unfold good at hg
  rw [Bool.and_eq_true, decide_eq_true_eq, beq_iff_eq] at hg
  have h1 := h.2.trans hg.2.symm
  have ht : (u ++ [x, y]).take ((u ++ [x, y]).length - 2) = u := by simp
  rw [ht]
  unfold seal_ at h1 ⊢
  rw [more_append, more_append] at h1
  have h2 := run_apart _ _ _ (by rw [bitsL_length]; rfl) (by rw [bitsL_length]; rfl) h1
  congr 1
  rw [bitsL_cons, bitsL_cons, bitsL_cons, bitsL_cons] at h2
  have h3 := List.append_inj h2 (by rw [bitsN_length, bitsN_length])
  have h4 := List.append_inj h3.2 (by rw [bitsN_length, bitsN_length])
  have e1 : x = UInt8.ofNat (sum u % 256) := UInt8.toNat_inj.1 (bitsN_inj 8 _ _ x.toNat_lt (UInt8.toNat_lt _) h3.1)
  have e2 : y = UInt8.ofNat (sum u / 256) := UInt8.toNat_inj.1 (bitsN_inj 8 _ _ y.toNat_lt (UInt8.toNat_lt _) h4.1)
  rw [← e1, ← e2]
theorem good_iff (l : List UInt8) : good l = decide (2 ≤ l.length ∧ seal_ (l.take (l.length - 2)) = l) := by
  by_cases h : good l = true
  · rw [h]
    have h2 := h
    unfold good at h2
    rw [Bool.and_eq_true, decide_eq_true_eq] at h2
    simp [seal_good l h, h2.1]
  · rw [Bool.not_eq_true] at h
    rw [h]
    symm
    rw [decide_eq_false_iff_not]
    rintro ⟨_, h3⟩
    rw [← h3, good_seal] at h
    cases h
end Go.Proofs.Ytfcmpnfdgfdclaa.Fcs
