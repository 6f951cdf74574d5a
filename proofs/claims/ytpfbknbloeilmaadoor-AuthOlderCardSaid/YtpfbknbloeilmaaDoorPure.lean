/- Texts as lists of bytes: numbers as bytes, rows of texts with their lengths ahead. Plain mathematics, of no program. -/
import Derived.Laws.Strings
import Derived.Laws.Strings2
import Derived.Laws.Concat
import Derived.Laws.BytesArg
import Derived.Laws.BitsAllLaws
namespace Go.Proofs.YtpfbknbloeilmaaDoor.Oct

/-- A text of these bytes. -/
def bOf (l : List UInt8) : ByteArray := ⟨l.toArray⟩

theorem toList_bOf (l : List UInt8) : (bOf l).toList = l := ByteArray.toList_mk l
theorem bOf_toList (s : ByteArray) : bOf s.toList = s := by
  rw [ByteArray.toList_eq]; cases s; simp [bOf]
theorem size_toList (s : ByteArray) : s.size = s.toList.length := by
  rw [ByteArray.toList_eq, Array.length_toList]; rfl
theorem size_bOf (l : List UInt8) : (bOf l).size = l.length := by rw [size_toList, toList_bOf]
theorem data_bOf (l : List UInt8) : (bOf l).data.toList = l := rfl
theorem toList_inj {s t : ByteArray} (h : s.toList = t.toList) : s = t := by
  rw [← bOf_toList s, h, bOf_toList]
theorem toList_extract (s : ByteArray) (a b : Nat) : (s.extract a b).toList = (s.toList.drop a).take (b - a) := by
  rw [← bOf_toList s]
  unfold bOf
  rw [ByteArray.extract_mk]
  simp
theorem extract_bOf (s : ByteArray) (a b : Nat) : s.extract a b = bOf ((s.toList.drop a).take (b - a)) :=
  toList_inj (by rw [toList_extract, toList_bOf])
theorem extract_front (s : ByteArray) (a : Nat) : s.extract 0 a = bOf (s.toList.take a) := by rw [extract_bOf]; simp
theorem extract_rest (s : ByteArray) (a : Nat) : s.extract a s.size = bOf (s.toList.drop a) := by
  rw [extract_bOf, List.take_of_length_le]; rw [List.length_drop, size_toList]; exact Nat.le_refl _
theorem append_bOf (s t : ByteArray) : s ++ t = bOf (s.toList ++ t.toList) := by
  rw [← bOf_toList s, ← bOf_toList t]
  unfold bOf
  rw [ByteArray.mk_append_mk]
  simp
theorem empty_bOf : ByteArray.empty = bOf [] := rfl
theorem beq_toList (s t : ByteArray) : (s.toList == t.toList) = decide (s.toList = t.toList) := by
  by_cases h : s.toList = t.toList <;> simp [h]
theorem getElem_toList (s : ByteArray) (i : Nat) (h : i < s.size) : s[i] = s.toList[i]'(by rw [← size_toList]; exact h) := by
  have e : ∀ (t : ByteArray) (ht : t = s) (h' : i < t.size), t[i] = s[i] := by intro t ht h'; subst ht; rfl
  rw [← e (bOf s.toList) (bOf_toList s) (by rw [size_bOf, ← size_toList]; exact h)]
  rfl

/-- The number of bytes, the highest first. -/
def val (l : List UInt8) : Nat := l.foldl (fun v b => v * 256 + b.toNat) 0

theorem val_snoc (l : List UInt8) (c : UInt8) : val (l ++ [c]) = val l * 256 + c.toNat := by simp [val]
theorem foldl_val (l : List UInt8) : ∀ v : Nat, l.foldl (fun v b => v * 256 + b.toNat) v = v * 256 ^ l.length + val l := by
  unfold val
  induction l with
  | nil => simp
  | cons c l ih =>
    intro v
    rw [List.foldl_cons, List.foldl_cons, ih, ih (0 * 256 + c.toNat), List.length_cons, Nat.pow_succ, Nat.add_mul, Nat.zero_mul, Nat.zero_add, Nat.mul_assoc, Nat.mul_comm (256 ^ l.length) 256, Nat.add_assoc]
theorem val_cons (c : UInt8) (l : List UInt8) : val (c :: l) = c.toNat * 256 ^ l.length + val l := by
  have := foldl_val l (0 * 256 + c.toNat)
  rw [show (0 * 256 + c.toNat) * 256 ^ l.length = c.toNat * 256 ^ l.length by rw [Nat.zero_mul, Nat.zero_add]] at this
  exact this
theorem val_lt (l : List UInt8) : val l < 256 ^ l.length := by
  induction l with
  | nil => simp [val]
  | cons c l ih =>
    rw [val_cons, List.length_cons, Nat.pow_succ]
    have hc := c.toNat_lt
    have : c.toNat * 256 ^ l.length ≤ 255 * 256 ^ l.length := Nat.mul_le_mul_right _ (by omega)
    omega

/-- The last n bytes of a number, the highest first. -/
def numS (v : Nat) : Nat → List UInt8
  | 0 => []
  | i + 1 => UInt8.ofNat (v / 256 ^ i % 256) :: numS v i
theorem numS_length (v n : Nat) : (numS v n).length = n := by induction n <;> simp_all [numS]
theorem numS_two (v : Nat) : numS v 2 = [UInt8.ofNat (v / 256 % 256), UInt8.ofNat (v % 256)] := by simp [numS]
theorem numS_four (v : Nat) : numS v 4 = [UInt8.ofNat (v / 16777216 % 256), UInt8.ofNat (v / 65536 % 256), UInt8.ofNat (v / 256 % 256), UInt8.ofNat (v % 256)] := by simp [numS]

theorem val_numS (v n : Nat) : val (numS v n) = v % 256 ^ n := by
  induction n with
  | zero => simp [numS, val, Nat.mod_one]
  | succ n ih =>
    rw [numS, val_cons, ih, numS_length]
    rw [UInt8.toNat_ofNat', show (2 : Nat) ^ 8 = 256 from rfl, Nat.mod_mod, Nat.pow_succ, Nat.mod_mul, Nat.mul_comm, Nat.add_comm]
theorem numS_val (l : List UInt8) : numS (val l) l.length = l := by
  have key : ∀ (l : List UInt8) (k : Nat), numS (k * 256 ^ l.length + val l) l.length = l := by
    intro l
    induction l with
    | nil => intro k; rfl
    | cons c l ih =>
      intro k
      have hl := val_lt l
      rw [List.length_cons, numS, val_cons]
      congr 1
      · have e : (k * 256 ^ (l.length + 1) + (c.toNat * 256 ^ l.length + val l)) / 256 ^ l.length = k * 256 + c.toNat := by
          rw [show k * 256 ^ (l.length + 1) + (c.toNat * 256 ^ l.length + val l) = val l + (k * 256 + c.toNat) * 256 ^ l.length by rw [Nat.pow_succ, Nat.add_mul, Nat.mul_assoc, Nat.mul_comm (256 ^ l.length) 256]; omega]
          rw [Nat.add_mul_div_right _ _ (Nat.pow_pos (by omega)), Nat.div_eq_of_lt hl, Nat.zero_add]
        rw [e]
        have hc := c.toNat_lt
        rw [show (k * 256 + c.toNat) % 256 = c.toNat by omega]
        exact UInt8.ofNat_toNat
      · have := ih (k * 256 + c.toNat)
        rw [show k * 256 ^ (l.length + 1) + (c.toNat * 256 ^ l.length + val l) = (k * 256 + c.toNat) * 256 ^ l.length + val l by rw [Nat.pow_succ, Nat.add_mul, Nat.mul_assoc, Nat.mul_comm (256 ^ l.length) 256]; omega]
        exact this
  have := key l 0
  simpa using this

/-- The text whose bytes stand ahead, behind its length, and the rest. -/
def r8 : List UInt8 → Option (List UInt8 × List UInt8)
  | [] => none
  | c :: r => if r.length < c.toNat then none else some (r.take c.toNat, r.drop c.toNat)

/-- The bytes of texts. -/
def jn8 : List (List UInt8) → List UInt8
  | [] => []
  | t :: l => UInt8.ofNat t.length :: (t ++ jn8 l)

/-- Whether each of the texts has a length of one byte. -/
def ok8 (l : List (List UInt8)) : Prop := ∀ t ∈ l, t.length ≤ 255

/-- The texts that bytes are, read in at most n turns. -/
def sp8 : Nat → List UInt8 → Option (List (List UInt8))
  | 0, _ => some []
  | n + 1, s => if s = [] then some [] else match r8 s with
    | none => none
    | some (t, r) => (sp8 n r).map (t :: ·)

theorem r8_len {s t r : List UInt8} (h : r8 s = some (t, r)) : s.length = 1 + t.length + r.length ∧ t.length ≤ 255 ∧ s = UInt8.ofNat t.length :: (t ++ r) := by
  cases s with
  | nil => simp [r8] at h
  | cons c s =>
    simp only [r8] at h
    split at h
    · cases h
    · rename_i hc
      simp only [Option.some.injEq, Prod.mk.injEq] at h
      obtain ⟨rfl, rfl⟩ := h
      have hl := c.toNat_lt
      have e : (s.take c.toNat).length = c.toNat := by rw [List.length_take]; omega
      refine ⟨by rw [List.length_cons, e, List.length_drop]; omega, by omega, ?_⟩
      rw [e, List.take_append_drop, UInt8.ofNat_toNat]
theorem r8_jn (t r : List UInt8) (h : t.length ≤ 255) : r8 (UInt8.ofNat t.length :: (t ++ r)) = some (t, r) := by
  have e : (UInt8.ofNat t.length).toNat = t.length := by rw [UInt8.toNat_ofNat']; omega
  simp only [r8, e]
  rw [if_neg (by rw [List.length_append]; omega)]
  simp
theorem sp8_more : ∀ (n m : Nat) (s : List UInt8), s.length ≤ n → s.length ≤ m → sp8 n s = sp8 m s
  | 0, 0, _, _, _ => rfl
  | 0, m + 1, s, h, _ => by
    have : s = [] := List.eq_nil_of_length_eq_zero (by omega)
    subst this; simp [sp8]
  | n + 1, 0, s, _, h => by
    have : s = [] := List.eq_nil_of_length_eq_zero (by omega)
    subst this; simp [sp8]
  | n + 1, m + 1, s, h1, h2 => by
    by_cases h : s = []
    · simp [sp8, h]
    · simp only [sp8, if_neg h]
      cases hr : r8 s with
      | none => rfl
      | some p =>
        obtain ⟨t, r⟩ := p
        have := (r8_len hr).1
        simp only
        rw [sp8_more n m r (by omega) (by omega)]
/-- The texts that bytes are. -/
def split (s : List UInt8) : Option (List (List UInt8)) := sp8 s.length s
theorem split_nil : split [] = some [] := rfl
theorem split_step (s : List UInt8) (h : s ≠ []) : split s = match r8 s with | none => none | some (t, r) => (split r).map (t :: ·) := by
  cases s with
  | nil => exact absurd rfl h
  | cons c s =>
    unfold split
    rw [List.length_cons, sp8, if_neg h]
    cases hr : r8 (c :: s) with
    | none => rfl
    | some p =>
      obtain ⟨t, r⟩ := p
      have := (r8_len hr).1
      rw [List.length_cons] at this
      simp only
      rw [sp8_more s.length r.length r (by omega) (by omega)]
theorem split_jn : ∀ (l : List (List UInt8)), ok8 l → split (jn8 l) = some l
  | [], _ => rfl
  | t :: l, h => by
    rw [jn8, split_step _ (by simp), r8_jn _ _ (h t (by simp))]
    simp only
    rw [split_jn l (fun u hu => h u (by simp [hu]))]
    rfl
theorem split_some : ∀ (n : Nat) (s : List UInt8) (l : List (List UInt8)), s.length ≤ n → split s = some l → jn8 l = s ∧ ok8 l
  | 0, s, l, hn, h => by
    have : s = [] := List.eq_nil_of_length_eq_zero (by omega)
    subst this
    rw [split_nil] at h
    cases h
    exact ⟨rfl, fun _ h => by cases h⟩
  | n + 1, s, l, hn, h => by
    by_cases hs : s = []
    · subst hs
      rw [split_nil] at h
      cases h
      exact ⟨rfl, fun _ h => by cases h⟩
    · rw [split_step s hs] at h
      cases hr : r8 s with
      | none => rw [hr] at h; cases h
      | some p =>
        obtain ⟨t, r⟩ := p
        have hl := r8_len hr
        rw [hr] at h
        simp only [Option.map_eq_some_iff] at h
        obtain ⟨l', hl', rfl⟩ := h
        have ih := split_some n r l' (by omega) hl'
        refine ⟨by rw [jn8, ih.1]; exact hl.2.2.symm, fun u hu => ?_⟩
        rcases List.mem_cons.1 hu with rfl | hu
        · exact hl.2.1
        · exact ih.2 u hu
theorem jn8_append (a b : List (List UInt8)) : jn8 (a ++ b) = jn8 a ++ jn8 b := by
  induction a with
  | nil => rfl
  | cons t a ih => simp [jn8, ih]
theorem jn8_one (t : List UInt8) : jn8 [t] = UInt8.ofNat t.length :: t := by simp [jn8]
theorem jn8_inj {a b : List (List UInt8)} (ha : ok8 a) (hb : ok8 b) (h : jn8 a = jn8 b) : a = b := by
  have := split_jn a ha
  rw [h, split_jn b hb] at this
  exact (Option.some.inj this).symm

theorem or16 (x y : UInt8) : bits .or .u16 (IntKind.u16.wrap (IntKind.u16.wrap (x.toNat : Int) * 256)) (IntKind.u16.wrap (y.toNat : Int)) = ((x.toNat * 256 + y.toNat : Nat) : Int) := by
  have hx := x.toNat_lt
  have hy := y.toNat_lt
  have e1 : IntKind.u16.wrap (IntKind.u16.wrap (x.toNat : Int) * 256) = ((x.toNat * 256 : Nat) : Int) := by
    simp only [IntKind.wrap_u16]; omega
  have e2 : IntKind.u16.wrap (y.toNat : Int) = (y.toNat : Int) := by simp only [IntKind.wrap_u16]; omega
  rw [e1, e2, u16_or_nat _ _ (by omega) (by omega), nat_join 8 _ _ (by omega) (by omega)]
theorem val_two (s : ByteArray) (h : s.size = 2) : val s.toList = (s[0]'(by omega)).toNat * 256 + (s[1]'(by omega)).toNat := by
  have hl : s.toList.length = 2 := by rw [← size_toList]; exact h
  obtain ⟨x, y, e⟩ : ∃ x y, s.toList = [x, y] := by
    match s.toList, hl with
    | [x, y], _ => exact ⟨x, y, rfl⟩
  have hs := bOf_toList s
  rw [e] at hs
  subst hs
  simp [val, bOf]
  rfl
theorem val_four (s : ByteArray) (h : s.size = 4) : val s.toList = (s[0]'(by omega)).toNat * 16777216 + (s[1]'(by omega)).toNat * 65536 + (s[2]'(by omega)).toNat * 256 + (s[3]'(by omega)).toNat := by
  have hl : s.toList.length = 4 := by rw [← size_toList]; exact h
  obtain ⟨x, y, z, t, e⟩ : ∃ x y z t, s.toList = [x, y, z, t] := by
    match s.toList, hl with
    | [x, y, z, t], _ => exact ⟨x, y, z, t, rfl⟩
  have hs := bOf_toList s
  rw [e] at hs
  subst hs
  rw [toList_bOf]
  have hv : val [x, y, z, t] = x.toNat * 16777216 + y.toNat * 65536 + z.toNat * 256 + t.toNat := by simp [val]; omega
  rw [hv]
  rfl
theorem or32 (x y z t : UInt8) : bits .or .u32 (bits .or .u32 (bits .or .u32 ((x.toNat : Int) % 4294967296 * 16777216 % 4294967296) ((y.toNat : Int) % 4294967296 * 65536 % 4294967296)) ((z.toNat : Int) % 4294967296 * 256 % 4294967296)) ((t.toNat : Int) % 4294967296) = ((x.toNat * 16777216 + y.toNat * 65536 + z.toNat * 256 + t.toNat : Nat) : Int) := by
  have hx := x.toNat_lt
  have hy := y.toNat_lt
  have hz := z.toNat_lt
  have ht := t.toNat_lt
  have e1 : (x.toNat : Int) % 4294967296 * 16777216 % 4294967296 = ((x.toNat * 16777216 : Nat) : Int) := by omega
  have e2 : (y.toNat : Int) % 4294967296 * 65536 % 4294967296 = ((y.toNat * 65536 : Nat) : Int) := by omega
  have e3 : (z.toNat : Int) % 4294967296 * 256 % 4294967296 = ((z.toNat * 256 : Nat) : Int) := by omega
  have e4 : (t.toNat : Int) % 4294967296 = (t.toNat : Int) := by omega
  rw [e1, e2, e3, e4, u32_or_nat _ _ (by omega) (by omega), nat_join 24 _ _ (by omega) (by omega), u32_or_nat _ _ (by omega) (by omega), nat_join 16 _ _ (by omega) (by omega), u32_or_nat _ _ (by omega) (by omega), nat_join 8 _ _ (by omega) (by omega)]
theorem val_take_le (l : List UInt8) (k : Nat) (h : k ≤ 3) : val (l.take k) ≤ 16777215 := by
  have h1 := val_lt (l.take k)
  have h2 : (l.take k).length ≤ 3 := Nat.le_trans (List.length_take_le _ _) h
  have h3 : 256 ^ (l.take k).length ≤ 256 ^ 3 := Nat.pow_le_pow_right (by omega) h2
  omega
theorem val_take_succ (s : ByteArray) (k : Nat) (h : k < s.size) : val (s.toList.take (k + 1)) = val (s.toList.take k) * 256 + s[k].toNat := by
  rw [getElem_toList, ← val_snoc, ← List.take_succ_eq_append_getElem]
theorem wrap_val (q : Nat) (b : UInt8) (h : (q : Int) ≤ 16777215) : IntKind.u64.wrap ((q : Int) * 256 + IntKind.u64.wrap (b.toNat : Int)) = ((q * 256 + b.toNat : Nat) : Int) := by
  have hb := b.toNat_lt
  simp only [IntKind.wrap_u64]
  omega
theorem wrap_quo (q : Nat) (h : q < 18446744073709551616) : IntKind.u64.wrap ((q : Int) / 256) = ((q / 256 : Nat) : Int) := by
  simp only [IntKind.wrap_u64]
  omega
theorem nums_cons (q : Nat) (l : List UInt8) : strOfNums [(q : Int) % 256] ++ bOf l = bOf (UInt8.ofNat (q % 256) :: l) := by
  have e : strOfNums [(q : Int) % 256] = bOf [UInt8.ofNat (q % 256)] := by
    show bOf [UInt8.ofNat ((q : Int) % 256).toNat] = _
    congr 3
  rw [e, append_bOf, toList_bOf, toList_bOf]
  rfl
theorem nums_bOf (xs : List Int) : strOfNums xs = bOf (xs.map fun n => UInt8.ofNat n.toNat) := rfl
end Go.Proofs.YtpfbknbloeilmaaDoor.Oct
