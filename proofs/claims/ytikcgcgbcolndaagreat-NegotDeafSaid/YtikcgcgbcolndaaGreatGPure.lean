/- Put together: Pure, Row, Txt, Reads, Moves, Blk, ConvNew, Put16, HasEx, Get16, Put32, Get32. -/
import Derived.Laws.Strings
import Derived.Laws.Strings2
import Derived.Laws.Concat
import Derived.Laws.BytesArg
import Derived.Laws.BitsAllLaws
import Derived.WalkKit
import Derived.Below
import Derived.OwnWalk
import Derived.RangeFuncNested
import Derived.RangeFuncBox
import Derived.Maps.AppendAt
import Derived.Test.YtikcgcgbcolndaaGreatProg
import Derived.WalkSpells
import Derived.WalkLawsBesides
import Derived.RegionTactic
import Derived.Deep.QuietTactic
import Derived.Deep.Quiet
import Derived.BigQuiet
import Derived.Lib.Hide
import Derived.ProofKit
import Derived.SliceStrings
import Derived.ChangeSlices
import Derived.Deep.AppendLies
import Derived.Laws.IdiomStrings
import Derived.Laws.CopyRow
import Derived.Deep.MidRow
import Derived.Laws.Rows
import Derived.ChangeAlike

/- Texts as lists of bytes: numbers as bytes, rows of texts with their lengths ahead. Plain mathematics, of no program. -/
namespace Go.Proofs.YtikcgcgbcolndaaGreat.Oct

/-- A text of these bytes. -/
def bOf (l : List UInt8) : ByteArray := ⟨l.toArray⟩

theorem toList_bOf (l : List UInt8) : (bOf l).toList = l := ByteArray.toList_mk l
theorem bOf_toList (s : ByteArray) : bOf s.toList = s := by
  rw [ByteArray.toList_eq]; cases s; simp [bOf]
theorem size_toList (s : ByteArray) : s.size = s.toList.length := by
  rw [ByteArray.toList_eq, Array.length_toList]; rfl
theorem size_bOf (l : List UInt8) : (bOf l).size = l.length := by rw [size_toList, toList_bOf]
theorem data_bOf (l : List UInt8) : (bOf l).data.toList = l := rfl
theorem toList_inj {s t : ByteArray} (h : s.toList = t.toList) : s = t := by
  rw [← bOf_toList s, h, bOf_toList]
theorem toList_extract (s : ByteArray) (a b : Nat) : (s.extract a b).toList = (s.toList.drop a).take (b - a) := by
  rw [← bOf_toList s]
  unfold bOf
  rw [ByteArray.extract_mk]
  simp
theorem extract_bOf (s : ByteArray) (a b : Nat) : s.extract a b = bOf ((s.toList.drop a).take (b - a)) :=
  toList_inj (by rw [toList_extract, toList_bOf])
theorem extract_front (s : ByteArray) (a : Nat) : s.extract 0 a = bOf (s.toList.take a) := by rw [extract_bOf]; simp
theorem extract_rest (s : ByteArray) (a : Nat) : s.extract a s.size = bOf (s.toList.drop a) := by
  rw [extract_bOf, List.take_of_length_le]; rw [List.length_drop, size_toList]; exact Nat.le_refl _
theorem append_bOf (s t : ByteArray) : s ++ t = bOf (s.toList ++ t.toList) := by
  rw [← bOf_toList s, ← bOf_toList t]
  unfold bOf
  rw [ByteArray.mk_append_mk]
  simp
theorem empty_bOf : ByteArray.empty = bOf [] := rfl
theorem beq_toList (s t : ByteArray) : (s.toList == t.toList) = decide (s.toList = t.toList) := by
  by_cases h : s.toList = t.toList <;> simp [h]
theorem getElem_toList (s : ByteArray) (i : Nat) (h : i < s.size) : s[i] = s.toList[i]'(by rw [← size_toList]; exact h) := by
  have e : ∀ (t : ByteArray) (ht : t = s) (h' : i < t.size), t[i] = s[i] := by intro t ht h'; subst ht; rfl
  rw [← e (bOf s.toList) (bOf_toList s) (by rw [size_bOf, ← size_toList]; exact h)]
  rfl

/-- The number of bytes, the highest first. -/
def val (l : List UInt8) : Nat := l.foldl (fun v b => v * 256 + b.toNat) 0

theorem val_snoc (l : List UInt8) (c : UInt8) : val (l ++ [c]) = val l * 256 + c.toNat := by simp [val]
theorem foldl_val (l : List UInt8) : ∀ v : Nat, l.foldl (fun v b => v * 256 + b.toNat) v = v * 256 ^ l.length + val l := by
  unfold val
  induction l with
  | nil => simp
  | cons c l ih =>
    intro v
    rw [List.foldl_cons, List.foldl_cons, ih, ih (0 * 256 + c.toNat), List.length_cons, Nat.pow_succ, Nat.add_mul, Nat.zero_mul, Nat.zero_add, Nat.mul_assoc, Nat.mul_comm (256 ^ l.length) 256, Nat.add_assoc]
theorem val_cons (c : UInt8) (l : List UInt8) : val (c :: l) = c.toNat * 256 ^ l.length + val l := by
  have := foldl_val l (0 * 256 + c.toNat)
  rw [show (0 * 256 + c.toNat) * 256 ^ l.length = c.toNat * 256 ^ l.length by rw [Nat.zero_mul, Nat.zero_add]] at this
  exact this
theorem val_lt (l : List UInt8) : val l < 256 ^ l.length := by
  induction l with
  | nil => simp [val]
  | cons c l ih =>
    rw [val_cons, List.length_cons, Nat.pow_succ]
    have hc := c.toNat_lt
    have : c.toNat * 256 ^ l.length ≤ 255 * 256 ^ l.length := Nat.mul_le_mul_right _ (by omega)
    omega

/-- The last n bytes of a number, the highest first. -/
def numS (v : Nat) : Nat → List UInt8
  | 0 => []
  | i + 1 => UInt8.ofNat (v / 256 ^ i % 256) :: numS v i
theorem numS_length (v n : Nat) : (numS v n).length = n := by induction n <;> simp_all [numS]
theorem numS_two (v : Nat) : numS v 2 = [UInt8.ofNat (v / 256 % 256), UInt8.ofNat (v % 256)] := by simp [numS]
theorem numS_four (v : Nat) : numS v 4 = [UInt8.ofNat (v / 16777216 % 256), UInt8.ofNat (v / 65536 % 256), UInt8.ofNat (v / 256 % 256), UInt8.ofNat (v % 256)] := by simp [numS]

theorem val_numS (v n : Nat) : val (numS v n) = v % 256 ^ n := by
  induction n with
  | zero => simp [numS, val, Nat.mod_one]
  | succ n ih =>
    rw [numS, val_cons, ih, numS_length]
    rw [UInt8.toNat_ofNat', show (2 : Nat) ^ 8 = 256 from rfl, Nat.mod_mod, Nat.pow_succ, Nat.mod_mul, Nat.mul_comm, Nat.add_comm]
theorem numS_val (l : List UInt8) : numS (val l) l.length = l := by
  have key : ∀ (l : List UInt8) (k : Nat), numS (k * 256 ^ l.length + val l) l.length = l := by
    intro l
    induction l with
    | nil => intro k; rfl
    | cons c l ih =>
      intro k
      have hl := val_lt l
      rw [List.length_cons, numS, val_cons]
      congr 1
      · have e : (k * 256 ^ (l.length + 1) + (c.toNat * 256 ^ l.length + val l)) / 256 ^ l.length = k * 256 + c.toNat := by
          rw [show k * 256 ^ (l.length + 1) + (c.toNat * 256 ^ l.length + val l) = val l + (k * 256 + c.toNat) * 256 ^ l.length by rw [Nat.pow_succ, Nat.add_mul, Nat.mul_assoc, Nat.mul_comm (256 ^ l.length) 256]; omega]
          rw [Nat.add_mul_div_right _ _ (Nat.pow_pos (by omega)), Nat.div_eq_of_lt hl, Nat.zero_add]
        rw [e]
        have hc := c.toNat_lt
        rw [show (k * 256 + c.toNat) % 256 = c.toNat by omega]
        exact UInt8.ofNat_toNat
      · have := ih (k * 256 + c.toNat)
        rw [show k * 256 ^ (l.length + 1) + (c.toNat * 256 ^ l.length + val l) = (k * 256 + c.toNat) * 256 ^ l.length + val l by rw [Nat.pow_succ, Nat.add_mul, Nat.mul_assoc, Nat.mul_comm (256 ^ l.length) 256]; omega]
        exact this
  have := key l 0
  simpa using this

/-- The text whose bytes stand ahead, behind its length, and the rest. -/
def r8 : List UInt8 → Option (List UInt8 × List UInt8)
  | [] => none
  | c :: r => if r.length < c.toNat then none else some (r.take c.toNat, r.drop c.toNat)

/-- The bytes of texts. -/
def jn8 : List (List UInt8) → List UInt8
  | [] => []
  | t :: l => UInt8.ofNat t.length :: (t ++ jn8 l)

/-- Whether each of the texts has a length of one byte. -/
def ok8 (l : List (List UInt8)) : Prop := ∀ t ∈ l, t.length ≤ 255

/-- The texts that bytes are, read in at most n turns. -/
def sp8 : Nat → List UInt8 → Option (List (List UInt8))
  | 0, _ => some []
  | n + 1, s => if s = [] then some [] else match r8 s with
    | none => none
    | some (t, r) => (sp8 n r).map (t :: ·)

theorem r8_len {s t r : List UInt8} (h : r8 s = some (t, r)) : s.length = 1 + t.length + r.length ∧ t.length ≤ 255 ∧ s = UInt8.ofNat t.length :: (t ++ r) := by
  cases s with
  | nil => simp [r8] at h
  | cons c s =>
    simp only [r8] at h
    split at h
    · cases h
    · rename_i hc
      simp only [Option.some.injEq, Prod.mk.injEq] at h
      obtain ⟨rfl, rfl⟩ := h
      have hl := c.toNat_lt
      have e : (s.take c.toNat).length = c.toNat := by rw [List.length_take]; omega
      refine ⟨by rw [List.length_cons, e, List.length_drop]; omega, by omega, ?_⟩
      rw [e, List.take_append_drop, UInt8.ofNat_toNat]
theorem r8_jn (t r : List UInt8) (h : t.length ≤ 255) : r8 (UInt8.ofNat t.length :: (t ++ r)) = some (t, r) := by
  have e : (UInt8.ofNat t.length).toNat = t.length := by rw [UInt8.toNat_ofNat']; omega
  simp only [r8, e]
  rw [if_neg (by rw [List.length_append]; omega)]
  simp
theorem sp8_more : ∀ (n m : Nat) (s : List UInt8), s.length ≤ n → s.length ≤ m → sp8 n s = sp8 m s
  | 0, 0, _, _, _ => rfl
  | 0, m + 1, s, h, _ => by
    have : s = [] := List.eq_nil_of_length_eq_zero (by omega)
    subst this; simp [sp8]
  | n + 1, 0, s, _, h => by
    have : s = [] := List.eq_nil_of_length_eq_zero (by omega)
    subst this; simp [sp8]
  | n + 1, m + 1, s, h1, h2 => by
    by_cases h : s = []
    · simp [sp8, h]
    · simp only [sp8, if_neg h]
      cases hr : r8 s with
      | none => rfl
      | some p =>
        obtain ⟨t, r⟩ := p
        have := (r8_len hr).1
        simp only
        rw [sp8_more n m r (by omega) (by omega)]
/-- The texts that bytes are. -/
def split (s : List UInt8) : Option (List (List UInt8)) := sp8 s.length s
theorem split_nil : split [] = some [] := rfl
theorem split_step (s : List UInt8) (h : s ≠ []) : split s = match r8 s with | none => none | some (t, r) => (split r).map (t :: ·) := by
  cases s with
  | nil => exact absurd rfl h
  | cons c s =>
    unfold split
    rw [List.length_cons, sp8, if_neg h]
    cases hr : r8 (c :: s) with
    | none => rfl
    | some p =>
      obtain ⟨t, r⟩ := p
      have := (r8_len hr).1
      rw [List.length_cons] at this
      simp only
      rw [sp8_more s.length r.length r (by omega) (by omega)]
theorem split_jn : ∀ (l : List (List UInt8)), ok8 l → split (jn8 l) = some l
  | [], _ => rfl
  | t :: l, h => by
    rw [jn8, split_step _ (by simp), r8_jn _ _ (h t (by simp))]
    simp only
    rw [split_jn l (fun u hu => h u (by simp [hu]))]
    rfl
theorem split_some : ∀ (n : Nat) (s : List UInt8) (l : List (List UInt8)), s.length ≤ n → split s = some l → jn8 l = s ∧ ok8 l
  | 0, s, l, hn, h => by
    have : s = [] := List.eq_nil_of_length_eq_zero (by omega)
    subst this
    rw [split_nil] at h
    cases h
    exact ⟨rfl, fun _ h => by cases h⟩
  | n + 1, s, l, hn, h => by
    by_cases hs : s = []
    · subst hs
      rw [split_nil] at h
      cases h
      exact ⟨rfl, fun _ h => by cases h⟩
    · rw [split_step s hs] at h
      cases hr : r8 s with
      | none => rw [hr] at h; cases h
      | some p =>
        obtain ⟨t, r⟩ := p
        have hl := r8_len hr
        rw [hr] at h
        simp only [Option.map_eq_some_iff] at h
        obtain ⟨l', hl', rfl⟩ := h
        have ih := split_some n r l' (by omega) hl'
        refine ⟨by rw [jn8, ih.1]; exact hl.2.2.symm, fun u hu => ?_⟩
        rcases List.mem_cons.1 hu with rfl | hu
        · exact hl.2.1
        · exact ih.2 u hu
theorem jn8_append (a b : List (List UInt8)) : jn8 (a ++ b) = jn8 a ++ jn8 b := by
  induction a with
  | nil => rfl
  | cons t a ih => simp [jn8, ih]
theorem jn8_one (t : List UInt8) : jn8 [t] = UInt8.ofNat t.length :: t := by simp [jn8]
theorem jn8_inj {a b : List (List UInt8)} (ha : ok8 a) (hb : ok8 b) (h : jn8 a = jn8 b) : a = b := by
  have := split_jn a ha
  rw [h, split_jn b hb] at this
  exact (Option.some.inj this).symm

theorem or16 (x y : UInt8) : bits .or .u16 (IntKind.u16.wrap (IntKind.u16.wrap (x.toNat : Int) * 256)) (IntKind.u16.wrap (y.toNat : Int)) = ((x.toNat * 256 + y.toNat : Nat) : Int) := by
  have hx := x.toNat_lt
  have hy := y.toNat_lt
  have e1 : IntKind.u16.wrap (IntKind.u16.wrap (x.toNat : Int) * 256) = ((x.toNat * 256 : Nat) : Int) := by
    simp only [IntKind.wrap_u16]; omega
  have e2 : IntKind.u16.wrap (y.toNat : Int) = (y.toNat : Int) := by simp only [IntKind.wrap_u16]; omega
  rw [e1, e2, u16_or_nat _ _ (by omega) (by omega), nat_join 8 _ _ (by omega) (by omega)]
theorem val_two (s : ByteArray) (h : s.size = 2) : val s.toList = (s[0]'(by omega)).toNat * 256 + (s[1]'(by omega)).toNat := by
  have hl : s.toList.length = 2 := by rw [← size_toList]; exact h
  obtain ⟨x, y, e⟩ : ∃ x y, s.toList = [x, y] := by
    match s.toList, hl with
    | [x, y], _ => exact ⟨x, y, rfl⟩
  have hs := bOf_toList s
  rw [e] at hs
  subst hs
  simp [val, bOf]
  rfl
theorem val_four (s : ByteArray) (h : s.size = 4) : val s.toList = (s[0]'(by omega)).toNat * 16777216 + (s[1]'(by omega)).toNat * 65536 + (s[2]'(by omega)).toNat * 256 + (s[3]'(by omega)).toNat := by
  have hl : s.toList.length = 4 := by rw [← size_toList]; exact h
  obtain ⟨x, y, z, t, e⟩ : ∃ x y z t, s.toList = [x, y, z, t] := by
    match s.toList, hl with
    | [x, y, z, t], _ => exact ⟨x, y, z, t, rfl⟩
  have hs := bOf_toList s
  rw [e] at hs
  subst hs
  rw [toList_bOf]
  have hv : val [x, y, z, t] = x.toNat * 16777216 + y.toNat * 65536 + z.toNat * 256 + t.toNat := by simp [val]; omega
  rw [hv]
  rfl
theorem or32 (x y z t : UInt8) : bits .or .u32 (bits .or .u32 (bits .or .u32 ((x.toNat : Int) % 4294967296 * 16777216 % 4294967296) ((y.toNat : Int) % 4294967296 * 65536 % 4294967296)) ((z.toNat : Int) % 4294967296 * 256 % 4294967296)) ((t.toNat : Int) % 4294967296) = ((x.toNat * 16777216 + y.toNat * 65536 + z.toNat * 256 + t.toNat : Nat) : Int) := by
  have hx := x.toNat_lt
  have hy := y.toNat_lt
  have hz := z.toNat_lt
  have ht := t.toNat_lt
  have e1 : (x.toNat : Int) % 4294967296 * 16777216 % 4294967296 = ((x.toNat * 16777216 : Nat) : Int) := by omega
  have e2 : (y.toNat : Int) % 4294967296 * 65536 % 4294967296 = ((y.toNat * 65536 : Nat) : Int) := by omega
  have e3 : (z.toNat : Int) % 4294967296 * 256 % 4294967296 = ((z.toNat * 256 : Nat) : Int) := by omega
  have e4 : (t.toNat : Int) % 4294967296 = (t.toNat : Int) := by omega
  rw [e1, e2, e3, e4, u32_or_nat _ _ (by omega) (by omega), nat_join 24 _ _ (by omega) (by omega), u32_or_nat _ _ (by omega) (by omega), nat_join 16 _ _ (by omega) (by omega), u32_or_nat _ _ (by omega) (by omega), nat_join 8 _ _ (by omega) (by omega)]
theorem val_take_le (l : List UInt8) (k : Nat) (h : k ≤ 3) : val (l.take k) ≤ 16777215 := by
  have h1 := val_lt (l.take k)
  have h2 : (l.take k).length ≤ 3 := Nat.le_trans (List.length_take_le _ _) h
  have h3 : 256 ^ (l.take k).length ≤ 256 ^ 3 := Nat.pow_le_pow_right (by omega) h2
  omega
theorem val_take_succ (s : ByteArray) (k : Nat) (h : k < s.size) : val (s.toList.take (k + 1)) = val (s.toList.take k) * 256 + s[k].toNat := by
  rw [getElem_toList, ← val_snoc, ← List.take_succ_eq_append_getElem]
theorem wrap_val (q : Nat) (b : UInt8) (h : (q : Int) ≤ 16777215) : IntKind.u64.wrap ((q : Int) * 256 + IntKind.u64.wrap (b.toNat : Int)) = ((q * 256 + b.toNat : Nat) : Int) := by
  have hb := b.toNat_lt
  simp only [IntKind.wrap_u64]
  omega
theorem wrap_quo (q : Nat) (h : q < 18446744073709551616) : IntKind.u64.wrap ((q : Int) / 256) = ((q / 256 : Nat) : Int) := by
  simp only [IntKind.wrap_u64]
  omega
theorem nums_cons (q : Nat) (l : List UInt8) : strOfNums [(q : Int) % 256] ++ bOf l = bOf (UInt8.ofNat (q % 256) :: l) := by
  have e : strOfNums [(q : Int) % 256] = bOf [UInt8.ofNat (q % 256)] := by
    show bOf [UInt8.ofNat ((q : Int) % 256).toNat] = _
    congr 3
  rw [e, append_bOf, toList_bOf, toList_bOf]
  rfl
theorem nums_bOf (xs : List Int) : strOfNums xs = bOf (xs.map fun n => UInt8.ofNat n.toNat) := rfl
end Go.Proofs.YtikcgcgbcolndaaGreat.Oct

/- A row of bytes that grows, held in a variable's box, inside a range over a function: what an append and a store keep. Of no program. -/
namespace Go.Proofs.YtikcgcgbcolndaaGreat.Row
open Go.RowKit Go.Proofs.YtikcgcgbcolndaaGreat.Oct

/-- The bytes as cells. -/
def bytesV (l : List UInt8) : List Value := l.map fun b => Value.int .u8 b.toNat
theorem bytesV_append (l m : List UInt8) : bytesV (l ++ m) = bytesV l ++ bytesV m := List.map_append
theorem bytesV_length (l : List UInt8) : (bytesV l).length = l.length := List.length_map _
theorem bytesV_one (l : List UInt8) : ∀ u ∈ bytesV l, u.oneCell' = true := by
  intro u hu
  obtain ⟨b, _, rfl⟩ := List.mem_map.1 hu
  rfl
theorem conv_own {P : Program} {w : World} {base n : Nat} {v : Value} {l : List UInt8} {src dst e : TypeId} (hs : P.underlying src = some (.slice e)) (he : P.underlying e = some (.int .u8)) (hd : P.underlying dst = some .string)
    (h : w.ownsRow base e 1 v n (bytesV l)) : (convert src dst v).run P w = .ok (.string (bOf l)) w := by
  have hlen : l.length = n := by have := h.1; simpa [bytesV] using this
  rcases h.2 with ⟨rfl, h0⟩ | ⟨g, cap, cur, rfl, _⟩
  · obtain rfl : l = [] := List.eq_nil_of_length_eq_zero (by omega)
    exact run_convert_bytes_nil w src e hs he 0 0 dst hd
  · have hr := run_convert_bytes_arg w src e hs he g 0 n cap (l.map fun b => (b.toNat : Int)) (by simpa using hlen) (fun i hi => by
      rw [Nat.zero_add, h.cellAt i (by omega)]
      unfold bytesV
      rw [List.getElem?_map, List.getElem?_eq_getElem (by omega)]
      simp [List.getD, List.getElem?_eq_getElem (show i < l.length by omega)]) dst hd
    rw [hr, nums_bOf, List.map_map]
    congr 3
    conv => rhs; rw [← List.map_id l]
    apply List.map_congr_left
    intro b _
    simp

/-- The cells of a block just laid. -/
theorem cells_new (w : World) (cs : Array Value) (t : TypeId) : ∀ j u, cs.toList[j]? = some u → (w.alloc (.cells cs t)).cell? ((⟨w.heap.size, 0, none⟩ : Addr).add j) = some u := by
  intro j u hu
  have := cell_of_row (w.alloc (.cells cs t)) w.heap.size j cs t (0, 0) (World.alloc_heap_new w _)
  rw [show (⟨w.heap.size, 0, none⟩ : Addr).add j = ⟨w.heap.size, j, none⟩ by simp [Addr.add]; omega, this]
  simpa using hu

theorem boxed_stays {W W' : World} {row : Option Nat} {B : Nat} {t : TypeId} {v : Value} (h : Boxed W B t v) (hg : W.grownBy W' row) (hr : ∀ r, row = some r → ∃ o : Obj, W.heap[r]? = some o ∧ o.isCells = false) : Boxed W' B t v :=
  h.kept hg (fun e' => by obtain ⟨o, ho, hc⟩ := hr B e'.symm; rw [show W.heap[B]? = _ from h] at ho; cases ho; cases hc)
theorem row_stays {W W' : World} {row : Option Nat} {base : Nat} {e : TypeId} {size k : Nat} {v : Value} {xs : List Value} (h : W.ownsRow base e size v k xs) (hg : W.grownBy W' row) (hr : ∀ r, row = some r → ∃ o : Obj, W.heap[r]? = some o ∧ o.isCells = false) : W'.ownsRow base e size v k xs := by
  refine h.kept hg ?_
  rcases h.2 with ⟨rfl, _⟩ | ⟨g, cap, cur, rfl, _, hgb, _⟩
  · exact .inl rfl
  · refine .inr fun e' => ?_
    obtain ⟨o, ho, hc⟩ := hr g (by simpa [Value.ownBlock] using e'.symm)
    rw [hgb] at ho; cases ho; cases hc
/-- The box holds a row of these bytes. -/
def Holds (W : World) (n₀ B : Nat) (t e : TypeId) (l : List UInt8) : Prop := ∃ v, Boxed W B t v ∧ W.ownsRow n₀ e 1 v l.length (bytesV l)
theorem Holds.stays {W W' : World} {row : Option Nat} {n₀ B : Nat} {t e : TypeId} {l : List UInt8} (h : Holds W n₀ B t e l) (hg : W.grownBy W' row) (hr : ∀ r, row = some r → ∃ o : Obj, W.heap[r]? = some o ∧ o.isCells = false) : Holds W' n₀ B t e l := by
  obtain ⟨v, h1, h2⟩ := h
  exact ⟨v, boxed_stays h1 hg hr, row_stays h2 hg hr⟩
/-- A store into another variable's box. -/
theorem Holds.other {W : World} {n₀ B B' : Nat} {t t' e : TypeId} {u : Value} {l : List UInt8} (h : Holds W n₀ B t e l) (hb : Boxed W B' t' u) (hte : t' ≠ e) (hne : B ≠ B') (u' : Value) : Holds (W.setCell ⟨B', 0, none⟩ u') n₀ B t e l := by
  obtain ⟨v, h1, h2⟩ := h
  exact ⟨v, h1.other hne u', h2.kept (grownBy_setCell' W B' u') (.inr (hb.not_row hte h2).symm)⟩
/-- A box lies on behind an append to another one's row, and the store back. -/
theorem boxed_past {W w1 : World} {n₀ B b : Nat} {t e : TypeId} {size k : Nat} {u v : Value} {xs : List Value} {tmp : Obj} (h : Boxed W b t u) (hte : t ≠ e) (hrow : W.ownsRow n₀ e size v k xs) (hgrow : (W.alloc tmp).grownBy w1 v.ownBlock) (hne : b ≠ B) (v' : Value) :
    Boxed (w1.setCell ⟨B, 0, none⟩ v') b t u := ((h.alloc tmp).kept hgrow (h.not_row hte hrow)).other hne v'
/-- What an append and its store leave: the grown row. -/
theorem holds_of {W : World} {n₀ B : Nat} {t e : TypeId} {v : Value} {l : List UInt8} {m : Nat} {xs : List Value} (hv : Boxed W B t v) (hr : W.ownsRow n₀ e 1 v m xs) (hm : m = l.length) (hx : xs = bytesV l) : Holds W n₀ B t e l := by
  subst hm hx
  exact ⟨v, hv, hr⟩

/-- What a round keeps: the text in its box. -/
def KeepsText (b : Nat) (s : ByteArray) (W W' : World) : Prop := Boxed W b 9 (.string s) → Boxed W' b 9 (.string s)
theorem keepsText_t {b : Nat} {s : ByteArray} {A B C : World} (h : KeepsText b s A B) (k : KeepsText b s B C) : KeepsText b s A C := fun x => k (h x)
theorem keepsText_b {b : Nat} {s : ByteArray} {w : World} (W : World) (l : Nat) (o o' : Obj) (_ : w.heap.size ≤ l) (h : W.heap[l]? = some o) (hc : o.isCells = false) (_ : o.isWalk = false) : KeepsText b s W (W.putObj l o') :=
  fun hx => hx.kept (grownBy_putObj' W l o') (fun e => by cases e; rw [show W.heap[b]? = _ from hx] at h; cases h; cases hc)
end Go.Proofs.YtikcgcgbcolndaaGreat.Row

/- Rows of texts in memory: a []string of the arguments, a row of the call's own. Of no function. -/
namespace Go.Proofs.YtikcgcgbcolndaaGreat.Oct
open Go.ChangeShapes Go.WideShapes Go.RowKit

/-- The slice '.slice A n c' holds the texts l, in blocks below B. -/
def Strs (w : World) (B : Nat) (A : Option Addr) (n : Nat) (l : List ByteArray) : Prop :=
  l.length = n ∧ (∀ s ∈ l, s.size ≤ maxLen) ∧ (0 < n → ∃ ad, A = some ad ∧ ad.block < B ∧ ∀ j (h : j < l.length), w.cell? (ad.add j) = some (.string l[j]))

theorem block_add (a : Addr) (n : Nat) : (a.add n).block = a.block := by unfold Addr.add; split <;> rfl
theorem Strs.below {w w' : World} {B : Nat} {A : Option Addr} {n : Nat} {l : List ByteArray} (h : Strs w B A n l) (hb : Below B w w') : Strs w' B A n l :=
  ⟨h.1, h.2.1, fun hn => by
    obtain ⟨ad, e, hB, hc⟩ := h.2.2 hn
    exact ⟨ad, e, hB, fun j hj => (hb.cell (by rw [block_add]; exact hB)).trans (hc j hj)⟩⟩
theorem Strs.more {w : World} {B B' : Nat} {A : Option Addr} {n : Nat} {l : List ByteArray} (h : Strs w B A n l) (hb : B ≤ B') : Strs w B' A n l :=
  ⟨h.1, h.2.1, fun hn => by
    obtain ⟨ad, e, hB, hc⟩ := h.2.2 hn
    exact ⟨ad, e, by omega, hc⟩⟩
theorem Strs.at_ {w : World} {B : Nat} {A : Option Addr} {n k : Nat} {l : List ByteArray} (h : Strs w B A n l) (hk : k < n) :
    ∃ ad t, A = some ad ∧ ad.block < B ∧ l[k]? = some t ∧ t.size ≤ maxLen ∧ w.cell? (ad.add k) = some (.string t) := by
  obtain ⟨ad, e, hB, hc⟩ := h.2.2 (by omega)
  have hl : k < l.length := by rw [h.1]; exact hk
  exact ⟨ad, l[k], e, hB, List.getElem?_eq_getElem hl, h.2.1 _ (List.getElem_mem hl), hc k hl⟩

def textsV (l : List ByteArray) : List Value := l.map Value.string
theorem strs_own {w : World} {base n : Nat} {e : TypeId} {v : Value} {l : List ByteArray} (h : w.ownsRow base e 1 v n (textsV l)) (hz : ∀ s ∈ l, s.size ≤ maxLen) :
    ∃ A c, v = .slice A n c ∧ Strs w w.heap.size A n l := by
  have hl : l.length = n := by have := h.1; simpa [textsV] using this
  rcases h.2 with ⟨rfl, rfl⟩ | ⟨g, cap, cur, rfl, hg, hh, _⟩
  · exact ⟨none, 0, rfl, hl, hz, fun h0 => absurd h0 (by omega)⟩
  · have hlt : g < w.heap.size := by
      rcases Nat.lt_or_ge g w.heap.size with hlt | hge
      · exact hlt
      · rw [Array.getElem?_eq_none hge] at hh; cases hh
    refine ⟨some ⟨g, 0, none⟩, cap, rfl, hl, hz, fun _ => ⟨_, rfl, hlt, fun j hj => ?_⟩⟩
    exact h.cells (g := g) rfl j _ (by simp [textsV, List.getElem?_eq_getElem hj])
theorem drewN_strs {w : World} {B n k : Nat} {A : Option Addr} {l : List ByteArray} (h : Strs w B A n l) : Strs (w.drewN k) B A n l := h

theorem strs_of {H : Type} {enc : TypeId × Value → H} {P : Program} {W : World} {base : Nat} {t e : TypeId} {v : Value} {d : DataW H} {p : List MemPlace} (ht : P.underlying t = some (.slice e)) (he : P.underlying e = some .string) (hc : P.cellsOf e = 1)
    (hv : Value.okWide P W .any base t v) (h : DataW.Trod enc P W 0 (fun _ => true) true t v d p) : ∃ A n c, v = .slice A n c ∧ n ≤ maxLen ∧ ∃ l, Strs W W.heap.size A n l := by
  obtain ⟨a0, len, cap, rfl⟩ := okWide_slice ht hv
  obtain ⟨fuel, hf⟩ := h
  rcases open_strings ht he hc hf with ⟨hcs, hx⟩ | ⟨a, len', cap', ss, hcs, _, hl, hm, hz, hx, hcell, hws⟩
  · simp [Value.cells] at hcs
    obtain ⟨rfl, rfl, rfl⟩ := hcs
    exact ⟨none, 0, 0, rfl, by simp [maxLen], [], rfl, (fun _ h => by cases h), (fun h => by omega)⟩
  · simp [Value.cells] at hcs
    obtain ⟨rfl, rfl, rfl⟩ := hcs
    simp at hz
    refine ⟨some a, len, cap, rfl, by omega, ss.take len, by rw [List.length_take]; omega, fun s hs => hws s (List.mem_of_mem_take hs), fun h0 => ⟨a, rfl, ?_, fun j hj => ?_⟩⟩
    · have h1 := hcell 0 (by omega)
      rcases Nat.lt_or_ge a.block W.heap.size with hlt | hge
      · exact hlt
      · have hb : (a.add 0).block = a.block := block_add a 0
        have hn : W.heap[(a.add 0).block]? = none := by rw [hb]; exact Array.getElem?_eq_none hge
        simp [World.cell?, hn] at h1
    · rw [List.length_take] at hj
      rw [hcell j (by omega), List.getElem_take]
      simp [List.getElem?_eq_getElem (show j < ss.length by omega)]

theorem strs_cells {w : World} {B n : Nat} {ad : Addr} {l : List ByteArray} (h : Strs w B (some ad) n l) : ∀ j u, (textsV l)[j]? = some u → w.cell? (ad.add j) = some u := by
  intro j u hu
  have hj : j < l.length := by
    rcases Nat.lt_or_ge j l.length with hj | hj
    · exact hj
    · rw [List.getElem?_eq_none (by simpa [textsV] using hj)] at hu
      cases hu
  obtain ⟨ad', e, _, hc⟩ := h.2.2 (by have := h.1; omega)
  cases e
  rw [hc j hj]
  simpa [textsV, List.getElem?_eq_getElem hj] using hu
theorem texts_one (l : List ByteArray) : ∀ u ∈ textsV l, u.oneCell' = true := by
  intro u hu
  obtain ⟨s, _, rfl⟩ := List.mem_map.1 hu
  rfl
theorem below_drewN' (w : World) (k : Nat) : Below w.heap.size w (w.drewN k) := ⟨rfl, rfl, rfl, Nat.le_refl _, fun _ _ => rfl⟩
end Go.Proofs.YtikcgcgbcolndaaGreat.Oct

/- Rows of numbers among the arguments; rows of bytes that are read; an append as a step of a region that draws its order. Of no program. -/
namespace Go.Proofs.YtikcgcgbcolndaaGreat.Row
open Go.ChangeShapes Go.WideShapes Go.RowKit Go.Proofs.YtikcgcgbcolndaaGreat.Oct

/-- A slice of n numbers of kind k, in blocks below B. -/
def Ints (w : World) (B : Nat) (A : Option Addr) (n : Nat) (k : IntKind) : Prop :=
  ∀ j, j < n → ∃ ad z, A = some ad ∧ ad.block < B ∧ w.cell? (ad.add j) = some (.int k z) ∧ (Lit.int k z).wf = true
theorem Ints.below {w w' : World} {B : Nat} {A : Option Addr} {n : Nat} {k : IntKind} (h : Ints w B A n k) (hb : Below B w w') : Ints w' B A n k := fun j hj => by
  obtain ⟨ad, z, hA, hB, hc, hz⟩ := h j hj
  exact ⟨ad, z, hA, hB, (hb.cell (by rw [Go.Proofs.YtikcgcgbcolndaaGreat.Oct.block_add]; exact hB)).trans hc, hz⟩
theorem ints_of {H : Type} {enc : TypeId × Value → H} {P : Program} {W : World} {base : Nat} {t e : TypeId} {k : IntKind} {v : Value} {d : DataW H} {p : List MemPlace} (ht : P.underlying t = some (.slice e)) (he : P.underlying e = some (.int k)) (hc : P.cellsOf e = 1)
    (hv : Value.okWide P W .any base t v) (h : DataW.Trod enc P W 0 (fun _ => true) true t v d p) : ∃ A n c, v = .slice A n c ∧ n ≤ maxLen ∧ Ints W W.heap.size A n k := by
  obtain ⟨a0, len, cap, rfl⟩ := okWide_slice ht hv
  obtain ⟨fuel, hf⟩ := h
  rcases open_ints ht he hc hf with ⟨hcs, hx⟩ | ⟨a, len', cap', zs, hcs, _, hl, hm, hz, hx, hcell, hws⟩
  · simp [Value.cells] at hcs
    obtain ⟨rfl, rfl, rfl⟩ := hcs
    exact ⟨none, 0, 0, rfl, by simp [maxLen], fun j hj => absurd hj (Nat.not_lt_zero _)⟩
  · simp [Value.cells] at hcs
    obtain ⟨rfl, rfl, rfl⟩ := hcs
    simp at hz
    refine ⟨some a, len, cap, rfl, by omega, fun j hj => ⟨a, zs.getD j 0, rfl, ?_, hcell j (by omega), ?_⟩⟩
    · have h1 := hcell j (by omega)
      have := World.block_lt_of_cell? W _ h1
      rwa [Go.Proofs.YtikcgcgbcolndaaGreat.Oct.block_add] at this
    · rw [List.getD_eq_getElem?_getD, List.getElem?_eq_getElem (show j < zs.length by omega)]
      exact hws _ (List.getElem_mem _)

/-- The bytes l lie in block g from its head on. -/
def Reads (w : World) (g : Nat) (l : List UInt8) : Prop := g < w.heap.size ∧ ∀ j (h : j < l.length), w.cell? ⟨g, j, none⟩ = some (.int .u8 (l[j].toNat : Int))
theorem Reads.drew {w : World} {g : Nat} {l : List UInt8} (h : Reads w g l) : Reads w.drew g l := h
theorem Reads.grown {w w' : World} {row : Option Nat} {g : Nat} {l : List UInt8} (h : Reads w g l) (hg : w.grownBy w' row) (hne : some g ≠ row) : Reads w' g l :=
  ⟨Nat.lt_of_lt_of_le h.1 hg.size, fun j hj => (hg.cell_far ⟨g, j, none⟩ h.1 hne).trans (h.2 j hj)⟩
theorem Reads.alloc {w : World} {g : Nat} {l : List UInt8} (h : Reads w g l) (o : Obj) : Reads (w.alloc o) g l := h.grown (World.grownBy_alloc w o none) (by simp)
theorem Reads.callee {w w' : World} {g : Nat} {l : List UInt8} (h : Reads w g l) (hb : Below w.heap.size w w') : Reads w' g l :=
  ⟨Nat.lt_of_lt_of_le h.1 hb.size, fun j hj => (hb.cell (p := ⟨g, j, none⟩) h.1).trans (h.2 j hj)⟩
theorem add_zero_at (g k j : Nat) : (⟨g, k, none⟩ : Addr).add j = ⟨g, k + j, none⟩ := by
  unfold Addr.add
  split <;> simp_all
theorem Reads.part {w : World} {g : Nat} {l : List UInt8} (h : Reads w g l) (k m : Nat) (hm : k + m ≤ l.length) : ∀ j u, (bytesV ((l.drop k).take m))[j]? = some u → w.cell? ((⟨g, k, none⟩ : Addr).add j) = some u := by
  intro j u hu
  have hj : j < m := by
    have := (List.getElem?_eq_some_iff.1 hu).1
    rw [bytesV_length, List.length_take] at this
    omega
  rw [add_zero_at, h.2 (k + j) (by omega)]
  unfold bytesV at hu
  rw [List.getElem?_map, List.getElem?_take_of_lt hj, List.getElem?_drop, List.getElem?_eq_getElem (show k + j < l.length by omega)] at hu
  simpa using hu
theorem reads_own {w : World} {base g n cap : Nat} {e : TypeId} {l : List UInt8} (h : w.ownsRow base e 1 (.slice (some ⟨g, 0, none⟩) n cap) n (bytesV l)) : Reads w g l := by
  have hn : l.length = n := by have := h.1; simpa [bytesV] using this
  refine ⟨(h.lt g rfl).2, fun j hj => ?_⟩
  rw [h.cellAt j (by omega)]
  unfold bytesV
  rw [List.getElem?_map, List.getElem?_eq_getElem hj]
  rfl
theorem own_cap {w : World} {base g n cap : Nat} {e : TypeId} {xs : List Value} (h : w.ownsRow base e 1 (.slice (some ⟨g, 0, none⟩) n cap) n xs) : n ≤ cap ∧ cap ≤ maxLen ∧ base ≤ g := by
  rcases h.2 with ⟨h0, _⟩ | ⟨g', cap', cur, h1, hb, _, h2, h3, _⟩
  · cases h0
  · cases h1
    exact ⟨h2, h3, hb⟩
/-- 'string(b)'. -/
theorem conv_reads {P : Program} {w : World} {g n c : Nat} {l : List UInt8} {src dst e : TypeId} (hs : P.underlying src = some (.slice e)) (he : P.underlying e = some (.int .u8)) (hd : P.underlying dst = some .string)
    (h : Reads w g l) (hn : l.length = n) : (convert src dst (.slice (some ⟨g, 0, none⟩) n c)).run P w = .ok (.string (bOf l)) w := by
  have hr := run_convert_bytes_arg w src e hs he g 0 n c (l.map fun b => (b.toNat : Int)) (by simpa using hn) (fun i hi => by
    rw [Nat.zero_add, h.2 i (by omega)]
    simp [List.getD, List.getElem?_eq_getElem (show i < l.length by omega)]) dst hd
  rw [hr, nums_bOf, List.map_map]
  congr 3
  conv => rhs; rw [← List.map_id l]
  apply List.map_congr_left
  intro b _
  simp
/-- '[]byte(s)'. -/
theorem reads_made (w : World) (s : ByteArray) (e : TypeId) (c : Nat) :
    Reads (w.drew.alloc (.cells (bytesRow s c) e ((bytesRow s c).size, (bytesRow s c).size + 1))) w.heap.size s.toList := by
  refine ⟨by rw [World.size_alloc]; exact Nat.lt_succ_self _, fun j hj => ?_⟩
  have hj' : j < s.data.size := by rw [← size_toList] at hj; exact hj
  have := World.cell?_alloc_mark w.drew (bytesRow s c) e ((bytesRow s c).size, (bytesRow s c).size + 1) j
  rw [show w.drew.heap.size = w.heap.size from rfl] at this
  rw [this, bytesRow_at s c j hj']
  have h2 := getElem_toList s j hj'
  rw [← h2]; rfl

/-- An append onto nil, or onto a row of the call's own, at a step of a region that draws its order; nothing need be appended. -/
theorem step_append_any {P : Program} (w : World) {ops : Array Oper} {o : Oper} {a : Act} {K : Act → World → Prop} {Q : Exit → Act → World → Prop} {E : Prop} (hgd : o.guard = none) (s x : Operand) (t : TypeId)
    (ho : o.op = .call { callee := .builtin .append, args := #[s, x], argTypes := #[t, t] })
    (base : Nat) (e : TypeId) (i : TypeInfo) (z : Value) (size bytes : Nat) (ht : P.underlying t = some (.slice e)) (hi : P.info? e = some i) (hz : i.zero = some z)
    (hsize : i.size = size) (hby : i.bytes = bytes) (hzs : z.cells.size = size) (hsz : 0 < size)
    (v : Value) (n : Nat) (xs : List Value) (hs : a.eval s = v) (hown : w.ownsRow base e size v n xs)
    (ad : Addr) (m c : Nat) (news : List Value) (hx : a.eval x = .slice (some ad) m c) (hl : news.length = m * size) (hnews : ∀ j u, news[j]? = some u → w.cell? (ad.add j) = some u) (h1 : ∀ u ∈ news, u.oneCell' = true)
    (h63 : n + m ≤ maxLen) (hbytes : (n + m) * bytes ≤ 140737488355328) (hbase : base ≤ w.heap.size)
    (h : ∀ v' w', w'.ownsRow base e size v' (n + m) (xs ++ news) → w.grownBy w' v.ownBlock → (v'.ownBlock = v.ownBlock ∨ v'.ownBlock = some w.heap.size) → K (a.put o.dst v') w') :
    if Region.wanted o (yielded ops a.tmps) = true then Oper.wp P o a w K Q else E := by
  have hw : Region.wanted o (yielded ops a.tmps) = true := by simp [Region.wanted, hgd]
  rw [if_pos hw]
  obtain ⟨v', w', hr, h2, h3, _, h5⟩ := run_append_own_at (P := P) w base t o.type e i z size bytes ht hi hz hsize hby hzs hsz v n xs hown ad m c news hl hnews h1 h63 hbytes hbase
  unfold Oper.wp execOp
  simp only [ho, resolve, invoke, builtin, Sem.run_bind, Sem.run_pure, Result.andThen_ok, List.map_toArray, List.map_cons, List.map_nil, hs, hx, hr]
  exact h v' w' h2 h3 h5
end Go.Proofs.YtikcgcgbcolndaaGreat.Row

/- What a call may turn: nothing but in the blocks of S. Of no program. -/
namespace Go.Proofs.YtikcgcgbcolndaaGreat.Mem
open Go.RowKit Go.Proofs.YtikcgcgbcolndaaGreat.Oct Go.Proofs.YtikcgcgbcolndaaGreat.Row

/-- From w to w' nothing has turned but in the blocks of S. -/
structure Moves (S : Nat → Prop) (w w' : World) : Prop where
  os : w'.os = w.os
  tape : w'.tape = w.tape
  output : w'.output = w.output
  size : w.heap.size ≤ w'.heap.size
  block : ∀ k, k < w.heap.size → ¬ S k → w'.heap[k]? = w.heap[k]?

theorem Moves.refl (S : Nat → Prop) (w : World) : Moves S w w := ⟨rfl, rfl, rfl, Nat.le_refl _, fun _ _ _ => rfl⟩
theorem Moves.trans {S T : Nat → Prop} {a b c : World} (h : Moves S a b) (k : Moves T b c) (ht : ∀ j, j < a.heap.size → T j → S j) : Moves S a c :=
  ⟨k.os.trans h.os, k.tape.trans h.tape, k.output.trans h.output, Nat.le_trans h.size k.size, fun i hi hs => (k.block i (Nat.lt_of_lt_of_le hi h.size) (fun x => hs (ht i hi x))).trans (h.block i hi hs)⟩
theorem Moves.mono {S T : Nat → Prop} {a b : World} (h : Moves S a b) (ht : ∀ j, j < a.heap.size → S j → T j) : Moves T a b :=
  ⟨h.os, h.tape, h.output, h.size, fun i hi hs => h.block i hi fun x => hs (ht i hi x)⟩
theorem Moves.of_below {S : Nat → Prop} {w w' : World} (h : Below w.heap.size w w') : Moves S w w' := ⟨h.os, h.tape, h.output, h.size, fun k hk _ => h.block k hk⟩
theorem Moves.of_grown {S : Nat → Prop} {w w' : World} {row : Option Nat} (h : w.grownBy w' row) (hr : ∀ k, row = some k → k < w.heap.size → S k) : Moves S w w' :=
  ⟨h.os, h.tape, h.output, h.size, fun k hk hs => h.block k hk fun e => hs (hr k e.symm hk)⟩
theorem Moves.alloc {S : Nat → Prop} {a w : World} (h : Moves S a w) (o : Obj) : Moves S a (w.alloc o) :=
  h.trans (Moves.of_grown (S := fun _ => False) (World.grownBy_alloc w o none) (fun _ e => by cases e)) (fun _ _ x => x.elim)
theorem Moves.drew {S : Nat → Prop} {a w : World} (h : Moves S a w) : Moves S a w.drew := ⟨h.os, h.tape, h.output, h.size, h.block⟩
theorem Moves.setCell {S : Nat → Prop} {a w : World} (h : Moves S a w) (p : Addr) (hp : p.block < a.heap.size → S p.block) (u : Value) : Moves S a (w.setCell p u) :=
  h.trans (T := fun k => k = p.block) ⟨rfl, rfl, rfl, by simp [World.setCell], fun k _ hs => Below.heap_setCell _ _ _ _ hs⟩ (fun _ hj e => by subst e; exact hp hj)
theorem Moves.below {S : Nat → Prop} {w w' : World} {n : Nat} (h : Moves S w w') (hn : n ≤ w.heap.size) (hs : ∀ k, S k → n ≤ k) : Below n w w' :=
  ⟨h.os, h.tape, h.output, h.size, fun k hk => h.block k (by omega) fun x => by have := hs k x; omega⟩
theorem Moves.cell {S : Nat → Prop} {w w' : World} (h : Moves S w w') {p : Addr} (hp : p.block < w.heap.size) (hs : ¬ S p.block) : w'.cell? p = w.cell? p := World.cell?_of_block (h.block _ hp hs)
theorem Moves.frozen {S : Nat → Prop} {w w' : World} (h : Moves S w w') {p : Addr} (hp : p.block < w.heap.size) (hs : ¬ S p.block) : w'.frozen? p = w.frozen? p := World.frozen?_of_block (h.block _ hp hs)
theorem Moves.row {S : Nat → Prop} {w w' : World} (h : Moves S w w') {base : Nat} {e : TypeId} {size n : Nat} {v : Value} {xs : List Value} (hr : w.ownsRow base e size v n xs) (hs : ∀ k, v.ownBlock = some k → ¬ S k) : w'.ownsRow base e size v n xs := by
  refine ⟨hr.1, ?_⟩
  rcases hr.2 with hn | ⟨g, cap, cur, rfl, hb, hg, rest⟩
  · exact .inl hn
  · exact .inr ⟨g, cap, cur, rfl, hb, (h.block g (Array.getElem?_eq_some_iff.1 hg).1 (hs g rfl)).trans hg, rest⟩
theorem Moves.strs {S : Nat → Prop} {w w' : World} (h : Moves S w w') {B n : Nat} {A : Option Addr} {l : List ByteArray} (hl : Strs w B A n l) (hB : B ≤ w.heap.size) (hs : ∀ k, S k → B ≤ k) : Strs w' B A n l :=
  hl.below (h.below hB hs)

theorem Moves.undrewN {S : Nat → Prop} {w w' : World} {k : Nat} (h : Moves S (w.drewN k) w') : Moves S w w' := ⟨h.os, h.tape, h.output, h.size, h.block⟩
theorem Moves.drewN {S : Nat → Prop} {a w : World} (h : Moves S a w) (k : Nat) : Moves S a (w.drewN k) := ⟨h.os, h.tape, h.output, h.size, h.block⟩
theorem _root_.Go.RowKit.Below.drewN' {B : Nat} {a w : World} (h : Below B a w) (k : Nat) : Below B a (w.drewN k) := ⟨h.os, h.tape, h.output, h.size, h.block⟩
theorem grownBy_setCell (W : World) (p : Addr) (v : Value) : W.grownBy (W.setCell p v) (some p.block) :=
  ⟨rfl, rfl, rfl, by simp [World.setCell], fun k _ hk => Below.heap_setCell _ _ _ k (fun e => hk (by rw [e]))⟩
theorem cells_set {W : World} {g i : Nat} {cs : Array Value} {t : TypeId} {m : Nat × Nat} (h : W.heap[g]? = some (.cells cs t m)) (v : Value) : (W.setCell ⟨g, i, none⟩ v).heap[g]? = some (.cells (cs.setIfInBounds i v) t m) := by
  obtain ⟨hlt, hk⟩ := Array.getElem?_eq_some_iff.1 h
  show (W.heap.modify g _)[g]? = _
  rw [Array.getElem?_eq_getElem (by rw [Array.size_modify]; exact hlt), Array.getElem_modify_self, hk]
  rfl
theorem cells_not_row {W : World} {B : Nat} {cs : Array Value} {t e : TypeId} {m : Nat × Nat} (h : W.heap[B]? = some (.cells cs t m)) (hte : t ≠ e) {base size k : Nat} {v : Value} {xs : List Value} (hr : W.ownsRow base e size v k xs) : v.ownBlock ≠ some B := by
  rcases hr.2 with ⟨rfl, _⟩ | ⟨g, cap, cur, rfl, _, hgb, _⟩
  · simp [Value.ownBlock]
  · intro e'
    obtain rfl : g = B := by simpa [Value.ownBlock] using e'
    have := h.symm.trans hgb
    simp at this
    exact hte this.2.1
theorem rows_apart {W : World} {e e' : TypeId} (hne : e ≠ e') {base base' size size' k k' : Nat} {v v' : Value} {xs xs' : List Value} (h : W.ownsRow base e size v k xs) (h' : W.ownsRow base' e' size' v' k' xs') : ∀ j, v.ownBlock = some j → v'.ownBlock ≠ some j := by
  intro j hj
  rcases h.2 with ⟨rfl, _⟩ | ⟨g, cap, cur, rfl, _, hgb, _⟩
  · cases hj
  · obtain rfl : g = j := by simpa [Value.ownBlock] using hj
    exact cells_not_row hgb hne h'

end Go.Proofs.YtikcgcgbcolndaaGreat.Mem

/- A block of cells of the call's own: what lies in it, what keeps it, what turns it. Of no program. -/
namespace Go.Proofs.YtikcgcgbcolndaaGreat.Mem
open Go.RowKit Go.Proofs.YtikcgcgbcolndaaGreat.Oct Go.Proofs.YtikcgcgbcolndaaGreat.Row

/-- Block g holds these cells, and may be written. -/
def Blk (w : World) (g : Nat) (cs : List Value) (t : TypeId) : Prop := w.heap[g]? = some (.cells cs.toArray t (0, 0))
theorem Blk.lt {w : World} {g : Nat} {cs : List Value} {t : TypeId} (h : Blk w g cs t) : g < w.heap.size := (Array.getElem?_eq_some_iff.1 h).1
theorem Blk.at_ {w : World} {g : Nat} {cs : List Value} {t : TypeId} (h : Blk w g cs t) (i : Nat) : w.cell? ⟨g, i, none⟩ = cs[i]? := by
  rw [cell_of_row w g i _ _ _ h]; simp
theorem Blk.frozen {w : World} {g : Nat} {cs : List Value} {t : TypeId} (h : Blk w g cs t) (i : Nat) : w.frozen? ⟨g, i, none⟩ = false := by
  have h' : w.heap[g]? = some (.cells cs.toArray t (0, 0)) := h
  simp [World.frozen?, h']
theorem Blk.moves {S : Nat → Prop} {w w' : World} {g : Nat} {cs : List Value} {t : TypeId} (h : Blk w g cs t) (hm : Moves S w w') (hs : ¬ S g) : Blk w' g cs t := (hm.block g h.lt hs).trans h
theorem Blk.callee {w w' : World} {g : Nat} {cs : List Value} {t : TypeId} (h : Blk w g cs t) (hb : Below w.heap.size w w') : Blk w' g cs t := (hb.block g h.lt).trans h
theorem Blk.below {w w' : World} {g n : Nat} {cs : List Value} {t : TypeId} (h : Blk w g cs t) (hb : Below n w w') (hg : g < n) : Blk w' g cs t := (hb.block g hg).trans h
theorem Blk.alloc {w : World} {g : Nat} {cs : List Value} {t : TypeId} (h : Blk w g cs t) (o : Obj) : Blk (w.alloc o) g cs t := (Below.heap_alloc w o g h.lt).trans h
theorem Blk.drewN {w : World} {g : Nat} {cs : List Value} {t : TypeId} (h : Blk w g cs t) (k : Nat) : Blk (w.drewN k) g cs t := h
theorem Blk.drew {w : World} {g : Nat} {cs : List Value} {t : TypeId} (h : Blk w g cs t) : Blk w.drew g cs t := h
theorem blk_new (w : World) (cs : List Value) (t : TypeId) : Blk (w.alloc (.cells cs.toArray t)) w.heap.size cs t := World.alloc_heap_new w _
theorem Blk.set {w : World} {g : Nat} {cs : List Value} {t : TypeId} (h : Blk w g cs t) (i : Nat) (v : Value) : Blk (w.setCell ⟨g, i, none⟩ v) g (cs.set i v) t := by
  show (w.setCell ⟨g, i, none⟩ v).heap[g]? = _
  rw [cells_set h]; simp
theorem Blk.setRow {w : World} {g : Nat} {cs : List Value} {t : TypeId} (h : Blk w g cs t) (cs' : List Value) : Blk (w.setRow g cs'.toArray) g cs' t := setRow_heap w g _ _ _ _ h
theorem Blk.range {w : World} {g : Nat} {cs : List Value} {t : TypeId} (h : Blk w g cs t) : w.rangeAt g 0 cs := fun j v hv => by
  rw [Nat.zero_add, h.at_]; exact hv
theorem moves_row (w : World) (g : Nat) (cs : Array Value) : Moves (fun k => k = g) w (w.setRow g cs) :=
  ⟨rfl, rfl, rfl, by simp [World.setRow], fun k _ hs => setRow_other w g k cs hs⟩

/-- 'copy' of a string into the middle of a row. -/
theorem copy_string {P : Program} (w : World) (dT sT ty elem : TypeId) (g o dLen dCap : Nat) (s : ByteArray) (cur : Array Value) (t : TypeId)
    (hu : P.underlying dT = some (.slice elem)) (hs : (P.info? elem).map (·.size) = some 1) (hg : w.heap[g]? = some (.cells cur t (0, 0))) (hfit : o + Nat.min s.size dLen ≤ cur.size) :
    (Builtin.copy_ #[dT, sT] ty #[.slice (some ⟨g, o, none⟩) dLen dCap, .string s]).run P w = .ok (goInt (Nat.min s.size dLen)) (w.setRow g (cur.toList.take o ++ bytesV (s.toList.take (Nat.min s.size dLen)) ++ cur.toList.drop (o + Nat.min s.size dLen)).toArray) := by
  have hl : (bytesV (s.toList.take (Nat.min s.size dLen))).length = Nat.min s.size dLen := by
    rw [bytesV_length, List.length_take, ← size_toList]
    exact Nat.min_eq_left (Nat.min_le_left _ _)
  have hst := run_storeCells_at P g o t (bytesV (s.toList.take (Nat.min s.size dLen))) 0 cur w hg (by rw [hl]; omega) (bytesV_one _)
  rw [hl] at hst
  cases hq : P.info? elem with
  | none => simp [hq] at hs
  | some i =>
    have hd : List.take (Nat.min s.size dLen) (List.map (fun b : UInt8 => Value.int IntKind.u8 (b.toNat : Int)) s.data.toList) = bytesV (s.toList.take (Nat.min s.size dLen)) := by
      rw [ByteArray.toList_eq, List.map_take.symm]; rfl
    simp [Builtin.copy_, run_underlying hu, Builtin.lenOf, Builtin.firstCells, sizeOf, typeInfo, hq]
    rw [hd, hst]
    simp
/-- A named result that is a struct in a block of its own, and two more. -/
theorem results_row2 {P : Program} {fn : Func} {p t u : Tmp} {ty : TypeId} (h : fn.results = #[.cell p ty, .tmp t, .tmp u]) (tmps : Array Value) (w : World) (g : Nat) (cs : List Value) (tb : TypeId) (d : TypeDesc)
    (hp : tmps.getD p undef = .pointer (some ⟨g, 0, none⟩)) (hg : Blk w g cs tb) (hu : P.underlying ty = some d) (hd : (match d with | .struct _ | .array _ _ => true | _ => false) = true) (hi : (P.info? ty).map (·.size) = some cs.toArray.size) :
    (results fn tmps).run P w = .ok (.tuple #[.agg cs.toArray, tmps.getD t undef, tmps.getD u undef]) w := by
  have hp' : tmps[p]?.getD undef = .pointer (some ⟨g, 0, none⟩) := by simpa using hp
  simp only [List.size_toArray] at hi
  simp [results, h, hp', asAddr, run_loadVar_row w g tb ty cs.toArray (0, 0) d hg hu hd (by simpa using hi)]

/-- 'string(b)' of a part of a block of bytes. -/
theorem conv_blk {P : Program} {w : World} {g o n c : Nat} {L : List UInt8} {src dst e t : TypeId} (hs : P.underlying src = some (.slice e)) (he : P.underlying e = some (.int .u8)) (hd : P.underlying dst = some .string)
    (h : Blk w g (bytesV L) t) (hn : o + n ≤ L.length) : (convert src dst (.slice (some ⟨g, o, none⟩) n c)).run P w = .ok (.string (bOf ((L.drop o).take n))) w := by
  have hr := run_convert_bytes_arg w src e hs he g o n c (((L.drop o).take n).map fun b => (b.toNat : Int)) (by rw [List.length_map, List.length_take, List.length_drop]; omega) (fun i hi => by
    rw [h.at_]
    unfold bytesV
    rw [List.getElem?_map, List.getElem?_eq_getElem (by omega), List.getD_eq_getElem?_getD, List.getElem?_map, List.getElem?_take_of_lt hi, List.getElem?_drop, List.getElem?_eq_getElem (by omega)]
    rfl) dst hd
  rw [hr, nums_bOf, List.map_map]
  congr 3
  conv => rhs; rw [← List.map_id ((L.drop o).take n)]
  apply List.map_congr_left
  intro b _
  simp
end Go.Proofs.YtikcgcgbcolndaaGreat.Mem

/- A text of bytes that are new. -/
namespace Go.Proofs.YtikcgcgbcolndaaGreat.Oct
open Go.RowKit
theorem conv_new {P : Program} (w : World) (src dst e t : TypeId) (hs : P.underlying src = some (.slice e)) (he : P.underlying e = some (.int .u8)) (hd : P.underlying dst = some .string) (xs : List Int) (c : Nat) :
    (convert src dst (.slice (some ⟨w.heap.size, 0, none⟩) xs.length c)).run P (w.alloc (.cells (xs.map (Value.int .u8)).toArray t)) = .ok (.string (strOfNums xs)) (w.alloc (.cells (xs.map (Value.int .u8)).toArray t)) := by
  refine run_convert_bytes_arg _ src e hs he w.heap.size 0 xs.length c xs rfl (fun i hi => ?_) dst hd
  rw [Nat.zero_add, World.cell?_alloc_new]
  simp [List.getElem?_eq_getElem hi]

end Go.Proofs.YtikcgcgbcolndaaGreat.Oct

/- Contract of package octet's Put16. -/
namespace Go.Proofs.YtikcgcgbcolndaaGreat.Oct
open Go.RowKit
set_option maxHeartbeats 400000 in
set_option maxRecDepth 100000 in
theorem put16_any (v : Nat) (w : World) (h2 : v < 65536) :
    Calls Tryz.prog 118 #[.int .u16 v] w fun e w' => e = .returned (.string (bOf (numS v 2))) ∧ Below w.heap.size w w' := by
  have hv : bOf (numS v 2) = strOfNums [(v : Int) / 256, (v : Int) % 256] := by
    rw [nums_bOf, numS_two]
    congr 1
    simp only [List.map_cons, List.map_nil]
    congr 1
    · congr 1; omega
  have H := Lib.hid hv; clear hv
  have hcv := conv_new (P := Tryz.prog) w 26 9 5 224 (by kernel_rfl) (by kernel_rfl) (by kernel_rfl) [(v : Int) / 256, (v : Int) % 256] 2
  simp only [List.length_cons, List.length_nil, List.map_cons, List.map_nil] at hcv
  have h1 : (0 : Int) ≤ v := by omega
  have h3 : (v : Int) < 65536 := by omega
  rw [H.out]
  go_enter Tryz.func118, Tryz.ntmps118
  go_wp2
  go_ret
  exact ⟨rfl, (Below.refl _ _).alloc (Nat.le_refl _) _⟩

end Go.Proofs.YtikcgcgbcolndaaGreat.Oct

/- Contract of package octet's hasExactly; what Get16 and Get32 answer. -/
namespace Go.Proofs.YtikcgcgbcolndaaGreat.Oct
open Go.RowKit
set_option maxHeartbeats 400000 in
set_option maxRecDepth 100000 in
theorem has_any (s : ByteArray) (n : Int) (w : World) :
    Calls Tryz.prog 117 #[.string s, .int .i64 n] w fun e w' => e = .returned (.int .i64 (if (s.size : Int) < n then 6 else if n < s.size then 7 else 0)) ∧ w = w' := by
  by_cases h0 : (s.size : Int) < n
  · go_enter Tryz.func117, Tryz.ntmps117
    go_wp2
    go_ret
    exact ⟨by simp, rfl⟩
  · by_cases h1 : n < (s.size : Int)
    · go_enter Tryz.func117, Tryz.ntmps117
      go_wp2
      go_ret
      exact ⟨by simp, rfl⟩
    · go_enter Tryz.func117, Tryz.ntmps117
      go_wp2
      go_ret
      exact ⟨by simp, rfl⟩

/-- What Get16 and Get32 answer. -/
def getE (n : Nat) (s : ByteArray) : Int := if s.size < n then 6 else if n < s.size then 7 else 0
def getN (n : Nat) (s : ByteArray) : Nat := if s.size < n then 0 else if n < s.size then 0 else val s.toList
def getV (k : IntKind) (n : Nat) (s : ByteArray) : Value := .tuple #[.int k (getN n s), .int .i64 (getE n s)]

end Go.Proofs.YtikcgcgbcolndaaGreat.Oct

/- Contract of package octet's Get16. -/
namespace Go.Proofs.YtikcgcgbcolndaaGreat.Oct
open Go.RowKit
set_option maxHeartbeats 400000 in
set_option maxRecDepth 100000 in
theorem get16_v (s : ByteArray) (w : World) (hs : s.size ≤ maxLen) :
    Calls Tryz.prog 111 #[.string s] w fun e w' => e = .returned (getV .u16 2 s) ∧ ∃ k, w' = w.drewN k := by
  unfold maxLen at hs
  rcases Nat.lt_trichotomy s.size 2 with h | h | h
  · have hv : getV .u16 2 s = .tuple #[.int .u16 0, .int .i64 6] := by simp [getV, getN, getE, h]
    rw [hv]; clear hv
    go_enter Tryz.func111, Tryz.ntmps111
    go_wp2
    go_ret2
    exact ⟨rfl, 0, rfl⟩
  · have hv : getV .u16 2 s = .tuple #[.int .u16 (val s.toList), .int .i64 0] := by simp [getV, getN, getE, h]
    rw [hv]; clear hv
    have h0 : 0 < s.size := by omega
    have h1 : (1 : Int) < s.size := by omega
    have h5 : s.size < 3 := by omega
    have Hh := Lib.hid h; clear h
    go_enter Tryz.func111, Tryz.ntmps111
    go_wp2
    go_quiet (fail)
    go_wp2
    go_ret2
    refine ⟨?_, nq, rfl⟩
    rw [or16, val_two s Hh.out]
    rfl
  · have hv : getV .u16 2 s = .tuple #[.int .u16 0, .int .i64 7] := by
      unfold getV getN getE; rw [if_neg (by omega), if_pos h, if_neg (by omega), if_pos h]; rfl
    rw [hv]; clear hv
    go_enter Tryz.func111, Tryz.ntmps111
    go_wp2
    go_ret2
    exact ⟨rfl, 0, rfl⟩

theorem get16_any (s : ByteArray) (w : World) (hs : s.size ≤ maxLen) :
    Calls Tryz.prog 111 #[.string s] w fun e w' => e = .returned (.tuple #[.int .u16 (getN 2 s), .int .i64 (getE 2 s)]) ∧ ∃ k, w' = w.drewN k := get16_v s w hs

end Go.Proofs.YtikcgcgbcolndaaGreat.Oct

/- Contract of package octet's Put32. -/
namespace Go.Proofs.YtikcgcgbcolndaaGreat.Oct
open Go.RowKit
set_option maxHeartbeats 400000 in
set_option maxRecDepth 100000 in
theorem put32_any (v : Nat) (w : World) (h2 : v < 4294967296) :
    Calls Tryz.prog 75 #[.int .u32 v] w fun e w' => e = .returned (.string (bOf (numS v 4))) ∧ Below w.heap.size w w' := by
  have hv : bOf (numS v 4) = strOfNums [(v : Int) / 16777216, (v : Int) / 65536 % 256, (v : Int) / 256 % 256, (v : Int) % 256] := by
    rw [nums_bOf, numS_four]
    congr 1
    simp only [List.map_cons, List.map_nil]
    congr 1
    · congr 1; omega
  have H := Lib.hid hv; clear hv
  have hcv := conv_new (P := Tryz.prog) w 26 9 5 186 (by kernel_rfl) (by kernel_rfl) (by kernel_rfl) [(v : Int) / 16777216, (v : Int) / 65536 % 256, (v : Int) / 256 % 256, (v : Int) % 256] 4
  simp only [List.length_cons, List.length_nil, List.map_cons, List.map_nil] at hcv
  have h1 : (0 : Int) ≤ v := by omega
  have h3 : (v : Int) < 4294967296 := by omega
  rw [H.out]
  go_enter Tryz.func75, Tryz.ntmps75
  go_wp2
  go_ret
  exact ⟨rfl, (Below.refl _ _).alloc (Nat.le_refl _) _⟩
end Go.Proofs.YtikcgcgbcolndaaGreat.Oct

/- Contract of package octet's Get32. -/
namespace Go.Proofs.YtikcgcgbcolndaaGreat.Oct
open Go.RowKit
set_option maxHeartbeats 400000 in
set_option maxRecDepth 100000 in
theorem get32_v (s : ByteArray) (w : World) (hs : s.size ≤ maxLen) :
    Calls Tryz.prog 194 #[.string s] w fun e w' => e = .returned (getV .u32 4 s) ∧ ∃ k, w' = w.drewN k := by
  unfold maxLen at hs
  rcases Nat.lt_trichotomy s.size 4 with h | h | h
  · have hv : getV .u32 4 s = .tuple #[.int .u32 0, .int .i64 6] := by simp [getV, getN, getE, h]
    rw [hv]; clear hv
    go_enter Tryz.func194, Tryz.ntmps194
    go_wp2
    go_ret2
    exact ⟨rfl, 0, rfl⟩
  · have hv : getV .u32 4 s = .tuple #[.int .u32 (val s.toList), .int .i64 0] := by simp [getV, getN, getE, h]
    rw [hv]; clear hv
    have h0 : 0 < s.size := by omega
    have h1 : (1 : Int) < s.size := by omega
    have h2 : (2 : Int) < s.size := by omega
    have h3 : (3 : Int) < s.size := by omega
    have h5 : s.size < 5 := by omega
    have Hh := Lib.hid h; clear h
    go_enter Tryz.func194, Tryz.ntmps194
    go_wp2
    go_quiet (fail)
    go_wp2
    go_ret2
    refine ⟨?_, nq, rfl⟩
    rw [or32, val_four s Hh.out]
    rfl
  · have hv : getV .u32 4 s = .tuple #[.int .u32 0, .int .i64 7] := by
      unfold getV getN getE; rw [if_neg (by omega), if_pos h, if_neg (by omega), if_pos h]; rfl
    rw [hv]; clear hv
    go_enter Tryz.func194, Tryz.ntmps194
    go_wp2
    go_ret2
    exact ⟨rfl, 0, rfl⟩

theorem get32_any (s : ByteArray) (w : World) (hs : s.size ≤ maxLen) :
    Calls Tryz.prog 194 #[.string s] w fun e w' => e = .returned (.tuple #[.int .u32 (getN 4 s), .int .i64 (getE 4 s)]) ∧ ∃ k, w' = w.drewN k := get32_v s w hs

end Go.Proofs.YtikcgcgbcolndaaGreat.Oct
