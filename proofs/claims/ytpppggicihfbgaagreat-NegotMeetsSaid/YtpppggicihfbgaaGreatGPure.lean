/- Put together: Pure, PktPure, RejPure. -/
import Derived.Laws.Strings
import Derived.Laws.Strings2
import Derived.Laws.Concat
import Derived.Laws.BytesArg
import Derived.Laws.BitsAllLaws

/- Texts as lists of bytes: numbers as bytes, rows of texts with their lengths ahead. Plain mathematics, of no program. -/
namespace Go.Proofs.YtpppggicihfbgaaGreat.Oct

def bOf (l : List UInt8) : ByteArray := ⟨l.toArray⟩

theorem toList_bOf (l : List UInt8) : (bOf l).toList = l := ByteArray.toList_mk l
theorem bOf_toList (s : ByteArray) : bOf s.toList = s := by
  rw [ByteArray.toList_eq]; cases s; simp [bOf]
theorem size_toList (s : ByteArray) : s.size = s.toList.length := by
  rw [ByteArray.toList_eq, Array.length_toList]; rfl
theorem size_bOf (l : List UInt8) : (bOf l).size = l.length := by rw [size_toList, toList_bOf]
theorem toList_inj {s t : ByteArray} (h : s.toList = t.toList) : s = t := by
  rw [← bOf_toList s, h, bOf_toList]
theorem toList_extract (s : ByteArray) (a b : Nat) : (s.extract a b).toList = (s.toList.drop a).take (b - a) := by
  rw [← bOf_toList s]
  unfold bOf
  rw [ByteArray.extract_mk]
  simp
theorem extract_bOf (s : ByteArray) (a b : Nat) : s.extract a b = bOf ((s.toList.drop a).take (b - a)) :=
  toList_inj (by rw [toList_extract, toList_bOf])
theorem extract_front (s : ByteArray) (a : Nat) : s.extract 0 a = bOf (s.toList.take a) := by rw [extract_bOf]; simp
theorem extract_rest (s : ByteArray) (a : Nat) : s.extract a s.size = bOf (s.toList.drop a) := by
  rw [extract_bOf, List.take_of_length_le]; rw [List.length_drop, size_toList]; exact Nat.le_refl _
theorem append_bOf (s t : ByteArray) : s ++ t = bOf (s.toList ++ t.toList) := by
  rw [← bOf_toList s, ← bOf_toList t]
  unfold bOf
  rw [ByteArray.mk_append_mk]
  simp
theorem beq_toList (s t : ByteArray) : (s.toList == t.toList) = decide (s.toList = t.toList) := by
  by_cases h : s.toList = t.toList <;> simp [h]
theorem getElem_toList (s : ByteArray) (i : Nat) (h : i < s.size) : s[i] = s.toList[i]'(by rw [← size_toList]; exact h) := by
  have e : ∀ (t : ByteArray) (ht : t = s) (h' : i < t.size), t[i] = s[i] := by intro t ht h'; subst ht; rfl
  rw [← e (bOf s.toList) (bOf_toList s) (by rw [size_bOf, ← size_toList]; exact h)]
  rfl

def val (l : List UInt8) : Nat := l.foldl (fun v b => v * 256 + b.toNat) 0

theorem foldl_val (l : List UInt8) : ∀ v : Nat, l.foldl (fun v b => v * 256 + b.toNat) v = v * 256 ^ l.length + val l := by
  unfold val
  induction l with
  | nil => simp
  | cons c l ih =>
    intro v
    rw [List.foldl_cons, List.foldl_cons, ih, ih (0 * 256 + c.toNat), List.length_cons, Nat.pow_succ, Nat.add_mul, Nat.zero_mul, Nat.zero_add, Nat.mul_assoc, Nat.mul_comm (256 ^ l.length) 256, Nat.add_assoc]
theorem val_cons (c : UInt8) (l : List UInt8) : val (c :: l) = c.toNat * 256 ^ l.length + val l := by
  have := foldl_val l (0 * 256 + c.toNat)
  rw [show (0 * 256 + c.toNat) * 256 ^ l.length = c.toNat * 256 ^ l.length by rw [Nat.zero_mul, Nat.zero_add]] at this
  exact this
theorem val_lt (l : List UInt8) : val l < 256 ^ l.length := by
  induction l with
  | nil => simp [val]
  | cons c l ih =>
    rw [val_cons, List.length_cons, Nat.pow_succ]
    have hc := c.toNat_lt
    have : c.toNat * 256 ^ l.length ≤ 255 * 256 ^ l.length := Nat.mul_le_mul_right _ (by omega)
    omega

def numS (v : Nat) : Nat → List UInt8
  | 0 => []
  | i + 1 => UInt8.ofNat (v / 256 ^ i % 256) :: numS v i
theorem numS_length (v n : Nat) : (numS v n).length = n := by induction n <;> simp_all [numS]
theorem numS_two (v : Nat) : numS v 2 = [UInt8.ofNat (v / 256 % 256), UInt8.ofNat (v % 256)] := by simp [numS]
theorem numS_four (v : Nat) : numS v 4 = [UInt8.ofNat (v / 16777216 % 256), UInt8.ofNat (v / 65536 % 256), UInt8.ofNat (v / 256 % 256), UInt8.ofNat (v % 256)] := by simp [numS]

theorem val_numS (v n : Nat) : val (numS v n) = v % 256 ^ n := by
  induction n with
  | zero => simp [numS, val, Nat.mod_one]
  | succ n ih =>
    rw [numS, val_cons, ih, numS_length]
    rw [UInt8.toNat_ofNat', show (2 : Nat) ^ 8 = 256 from rfl, Nat.mod_mod, Nat.pow_succ, Nat.mod_mul, Nat.mul_comm, Nat.add_comm]
theorem numS_val (l : List UInt8) : numS (val l) l.length = l := by
  have key : ∀ (l : List UInt8) (k : Nat), numS (k * 256 ^ l.length + val l) l.length = l := by
    intro l
    induction l with
    | nil => intro k; rfl
    | cons c l ih =>
      intro k
      have hl := val_lt l
      rw [List.length_cons, numS, val_cons]
      congr 1
      · have e : (k * 256 ^ (l.length + 1) + (c.toNat * 256 ^ l.length + val l)) / 256 ^ l.length = k * 256 + c.toNat := by
          rw [show k * 256 ^ (l.length + 1) + (c.toNat * 256 ^ l.length + val l) = val l + (k * 256 + c.toNat) * 256 ^ l.length by rw [Nat.pow_succ, Nat.add_mul, Nat.mul_assoc, Nat.mul_comm (256 ^ l.length) 256]; omega]
          rw [Nat.add_mul_div_right _ _ (Nat.pow_pos (by omega)), Nat.div_eq_of_lt hl, Nat.zero_add]
        rw [e]
        have hc := c.toNat_lt
        rw [show (k * 256 + c.toNat) % 256 = c.toNat by omega]
        exact UInt8.ofNat_toNat
      · have := ih (k * 256 + c.toNat)
        rw [show k * 256 ^ (l.length + 1) + (c.toNat * 256 ^ l.length + val l) = (k * 256 + c.toNat) * 256 ^ l.length + val l by rw [Nat.pow_succ, Nat.add_mul, Nat.mul_assoc, Nat.mul_comm (256 ^ l.length) 256]; omega]
        exact this
  have := key l 0
  simpa using this

def r8 : List UInt8 → Option (List UInt8 × List UInt8)
  | [] => none
  | c :: r => if r.length < c.toNat then none else some (r.take c.toNat, r.drop c.toNat)



def sp8 : Nat → List UInt8 → Option (List (List UInt8))
  | 0, _ => some []
  | n + 1, s => if s = [] then some [] else match r8 s with
    | none => none
    | some (t, r) => (sp8 n r).map (t :: ·)

def split (s : List UInt8) : Option (List (List UInt8)) := sp8 s.length s

theorem or16 (x y : UInt8) : bits .or .u16 (IntKind.u16.wrap (IntKind.u16.wrap (x.toNat : Int) * 256)) (IntKind.u16.wrap (y.toNat : Int)) = ((x.toNat * 256 + y.toNat : Nat) : Int) := by
  have hx := x.toNat_lt
  have hy := y.toNat_lt
  have e1 : IntKind.u16.wrap (IntKind.u16.wrap (x.toNat : Int) * 256) = ((x.toNat * 256 : Nat) : Int) := by
    simp only [IntKind.wrap_u16]; omega
  have e2 : IntKind.u16.wrap (y.toNat : Int) = (y.toNat : Int) := by simp only [IntKind.wrap_u16]; omega
  rw [e1, e2, u16_or_nat _ _ (by omega) (by omega), nat_join 8 _ _ (by omega) (by omega)]
theorem val_two (s : ByteArray) (h : s.size = 2) : val s.toList = (s[0]'(by omega)).toNat * 256 + (s[1]'(by omega)).toNat := by
  have hl : s.toList.length = 2 := by rw [← size_toList]; exact h
  obtain ⟨x, y, e⟩ : ∃ x y, s.toList = [x, y] := by
    match s.toList, hl with
    | [x, y], _ => exact ⟨x, y, rfl⟩
  have hs := bOf_toList s
  rw [e] at hs
  subst hs
  simp [val, bOf]
  rfl
theorem val_four (s : ByteArray) (h : s.size = 4) : val s.toList = (s[0]'(by omega)).toNat * 16777216 + (s[1]'(by omega)).toNat * 65536 + (s[2]'(by omega)).toNat * 256 + (s[3]'(by omega)).toNat := by
  have hl : s.toList.length = 4 := by rw [← size_toList]; exact h
  obtain ⟨x, y, z, t, e⟩ : ∃ x y z t, s.toList = [x, y, z, t] := by
    match s.toList, hl with
    | [x, y, z, t], _ => exact ⟨x, y, z, t, rfl⟩
  have hs := bOf_toList s
  rw [e] at hs
  subst hs
  rw [toList_bOf]
  have hv : val [x, y, z, t] = x.toNat * 16777216 + y.toNat * 65536 + z.toNat * 256 + t.toNat := by simp [val]; omega
  rw [hv]
  rfl
theorem or32 (x y z t : UInt8) : bits .or .u32 (bits .or .u32 (bits .or .u32 ((x.toNat : Int) % 4294967296 * 16777216 % 4294967296) ((y.toNat : Int) % 4294967296 * 65536 % 4294967296)) ((z.toNat : Int) % 4294967296 * 256 % 4294967296)) ((t.toNat : Int) % 4294967296) = ((x.toNat * 16777216 + y.toNat * 65536 + z.toNat * 256 + t.toNat : Nat) : Int) := by
  have hx := x.toNat_lt
  have hy := y.toNat_lt
  have hz := z.toNat_lt
  have ht := t.toNat_lt
  have e1 : (x.toNat : Int) % 4294967296 * 16777216 % 4294967296 = ((x.toNat * 16777216 : Nat) : Int) := by omega
  have e2 : (y.toNat : Int) % 4294967296 * 65536 % 4294967296 = ((y.toNat * 65536 : Nat) : Int) := by omega
  have e3 : (z.toNat : Int) % 4294967296 * 256 % 4294967296 = ((z.toNat * 256 : Nat) : Int) := by omega
  have e4 : (t.toNat : Int) % 4294967296 = (t.toNat : Int) := by omega
  rw [e1, e2, e3, e4, u32_or_nat _ _ (by omega) (by omega), nat_join 24 _ _ (by omega) (by omega), u32_or_nat _ _ (by omega) (by omega), nat_join 16 _ _ (by omega) (by omega), u32_or_nat _ _ (by omega) (by omega), nat_join 8 _ _ (by omega) (by omega)]
theorem nums_bOf (xs : List Int) : strOfNums xs = bOf (xs.map fun n => UInt8.ofNat n.toNat) := rfl
end Go.Proofs.YtpppggicihfbgaaGreat.Oct

/- Packets as lists of bytes. Plain mathematics, of no program. -/
namespace Go.Proofs.YtpppggicihfbgaaGreat.Pkt
open Go.Proofs.YtpppggicihfbgaaGreat.Oct

def enc (c i : UInt8) (l : List UInt8) : List UInt8 := c :: i :: (numS (4 + l.length) 2 ++ l)
def pE (l : List UInt8) : Nat := if 1496 < l.length then 5 else 0
def pA (c i : UInt8) (l : List UInt8) : List UInt8 := if 1496 < l.length then [] else enc c i l

theorem enc_length (c i : UInt8) (l : List UInt8) : (enc c i l).length = l.length + 4 := by
  simp only [enc, List.length_cons, List.length_append, numS_length]; omega
def known (p c : Nat) : Bool := (p == 49185 && (decide (1 ≤ c) && decide (c ≤ 11))) || (p == 32801 && (decide (1 ≤ c) && decide (c ≤ 7)))
end Go.Proofs.YtpppggicihfbgaaGreat.Pkt

/- Rejects as lists of bytes. Plain mathematics, of no program. -/
namespace Go.Proofs.YtpppggicihfbgaaGreat.Rej
open Go.Proofs.YtpppggicihfbgaaGreat.Oct Go.Proofs.YtpppggicihfbgaaGreat.Pkt

def sp (m : Nat) : Nat := min (m - 4) 1496
theorem sp_le (m : Nat) : sp m ≤ 1496 := Nat.min_le_right _ _
def cat (l : List ByteArray) : List UInt8 := (l.map ByteArray.toList).flatten
theorem cat_nil : cat [] = [] := rfl
theorem cat_one (s : ByteArray) : cat [s] = s.toList := by simp [cat]
theorem cat_snoc (l : List ByteArray) (s : ByteArray) : cat (l ++ [s]) = cat l ++ s.toList := by simp [cat]
theorem cat_more {l : List ByteArray} {k : Nat} {s : ByteArray} (h : l[k]? = some s) : cat (l.take (k + 1)) = cat (l.take k) ++ s.toList := by
  obtain ⟨hk, e⟩ := List.getElem?_eq_some_iff.1 h
  rw [List.take_succ_eq_append_getElem hk, e, cat_snoc]
theorem take_more (a s : List UInt8) (m : Nat) : a.take m ++ s.take (m - (a.take m).length) = (a ++ s).take m := by
  rw [List.take_append, List.length_take]
  congr 2
  omega
end Go.Proofs.YtpppggicihfbgaaGreat.Rej
