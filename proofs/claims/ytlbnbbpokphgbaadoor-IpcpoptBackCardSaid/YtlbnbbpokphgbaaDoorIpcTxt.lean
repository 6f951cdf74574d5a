/- Texts of addresses: plain mathematics of digits and dots; of no program. -/
import Derived.Test.YtlbnbbpokphgbaaDoorPure
import Derived.Lib.ItoaNum
import Derived.Lib.ParseIntB
import Derived.Lib.IndexMore
import Derived.Lib.Join
namespace Go.Proofs.YtlbnbbpokphgbaaDoor.Ipc
open Go.Proofs.YtlbnbbpokphgbaaDoor.Oct

/-- A byte's digits. -/
def dec (b : UInt8) : List UInt8 := Lib.decDigits b.toNat
/-- .. written out. -/
def dec3 (u : Nat) : List UInt8 :=
  if u < 10 then [UInt8.ofNat (48 + u)] else if u < 100 then [UInt8.ofNat (48 + u / 10), UInt8.ofNat (48 + u % 10)] else [UInt8.ofNat (48 + u / 100), UInt8.ofNat (48 + u / 10 % 10), UInt8.ofNat (48 + u % 10)]
theorem dec3_eq {u : Nat} (h : u < 1000) : Lib.decDigits u = dec3 u := by
  unfold dec3
  by_cases h1 : u < 10
  · rw [if_pos h1, Lib.decDigits_one h1]
  · rw [if_neg h1]
    by_cases h2 : u < 100
    · rw [if_pos h2, Lib.decDigits_two h1 h2]
    · rw [if_neg h2, Lib.decDigits, dif_neg h1, Lib.decDigits_two (by omega) (by omega), Nat.div_div_eq_div_mul]
      rfl
theorem dec_eq (b : UInt8) : dec b = dec3 b.toNat := dec3_eq (by have := b.toNat_lt; omega)
theorem all_u8 {p : Nat → Bool} (h : ∀ i : Fin 256, p i.val = true) (b : UInt8) : p b.toNat = true := h ⟨b.toNat, b.toNat_lt⟩

theorem parse_fin : ∀ i : Fin 256, (match Lib.parseUintB 8 (dec3 i.val) with | .ok u => u == i.val | _ => false) = true := by decide +kernel
theorem parse_dec (b : UInt8) : Lib.parseUintB 8 (dec b) = .ok b.toNat := by
  have h := all_u8 (p := fun i => match Lib.parseUintB 8 (dec3 i) with | .ok u => u == i | _ => false) parse_fin b
  rw [dec_eq]
  split at h
  · rename_i u e; rw [e]; simp at h; rw [h]
  · cases h
theorem nodot_fin : ∀ i : Fin 256, (((dec3 i.val).all fun c => c != 46) && !(dec3 i.val).isEmpty && decide ((dec3 i.val).length ≤ 3)) = true := by decide +kernel
theorem dec_facts (b : UInt8) : (∀ c ∈ dec b, c ≠ 46) ∧ dec b ≠ [] ∧ (dec b).length ≤ 3 := by
  have h := all_u8 (p := fun i => ((dec3 i).all fun c => c != 46) && !(dec3 i).isEmpty && decide ((dec3 i).length ≤ 3)) nodot_fin b
  rw [dec_eq]
  simp only [Bool.and_eq_true, List.all_eq_true, bne_iff_ne, Bool.not_eq_true', decide_eq_true_eq] at h
  refine ⟨h.1.1, fun e => ?_, h.2⟩
  rw [e] at h
  cases h.1.2
/-- The byte that a word is in decimal. -/
def numb (w : List UInt8) : Option UInt8 :=
  match Lib.parseUintB 8 w with
  | .ok u => if Lib.decDigits u = w then some (UInt8.ofNat u) else none
  | _ => none
theorem parse_le {w : List UInt8} {u : Nat} (h : Lib.parseUintB 8 w = .ok u) : u ≤ 255 := by
  have key : ∀ (w : List UInt8) (acc : Nat), acc ≤ 255 → Lib.parseUintM 255 acc w = .ok u → u ≤ 255 := by
    intro w
    induction w with
    | nil => intro acc ha h; simp [Lib.parseUintM] at h; omega
    | cons c r ih =>
      intro acc ha h
      rw [Lib.parseUintM] at h
      split at h
      · split at h
        · cases h
        · split at h
          · cases h
          · exact ih _ (by omega) h
      · cases h
  unfold Lib.parseUintB at h
  split at h
  · cases h
  · exact key w 0 (by omega) h
theorem numb_iff {w : List UInt8} {b : UInt8} : numb w = some b ↔ w = dec b := by
  constructor
  · intro h
    unfold numb at h
    split at h
    · rename_i u hu
      split at h
      · rename_i e
        cases h
        have := parse_le hu
        rw [← e, dec, UInt8.toNat_ofNat', Nat.mod_eq_of_lt (by omega)]
      · cases h
    · cases h
  · rintro rfl
    unfold numb
    rw [parse_dec]
    simp only
    rw [if_pos (show Lib.decDigits b.toNat = dec b from rfl), UInt8.ofNat_toNat]

/-! ### cutting at a dot -/
def cutD : List UInt8 → List UInt8 × List UInt8 × Bool
  | [] => ([], [], false)
  | c :: r => if c = 46 then ([], r, true) else (c :: (cutD r).1, (cutD r).2.1, (cutD r).2.2)
theorem index_ge' (l : List UInt8) : Lib.index l [46] = -1 ∨ ∃ i : Nat, Lib.index l [46] = i := by
  induction l with
  | nil => exact .inl rfl
  | cons c r ih =>
    rw [Lib.index]
    split
    · exact .inr ⟨0, rfl⟩
    · split
      · exact .inl rfl
      · rcases ih with h | ⟨i, h⟩
        · rename_i h2; rw [h] at h2; exact absurd rfl h2
        · exact .inr ⟨i + 1, by rw [h]; rfl⟩
theorem cut_eq (l : List UInt8) : Lib.cut l [46] = cutD l := by
  induction l with
  | nil => rfl
  | cons c r ih =>
    unfold Lib.cut at ih ⊢
    rw [cutD, Lib.index]
    by_cases hc : c = 46
    · subst hc
      rw [if_pos (show (List.isPrefixOf [46] (46 :: r)) = true from rfl)]
      simp
    · rw [if_neg (show ¬ ((List.isPrefixOf [46] (c :: r)) = true) by simp [List.isPrefixOf, Ne.symm hc]), if_neg hc, ← ih]
      rcases index_ge' r with h | ⟨i, h⟩
      · rw [h]; simp
      · rw [h]
        have e1 : ((i : Int) == -1) = false := by rw [beq_eq_false_iff_ne]; omega
        rw [e1, if_pos (show (0 : Int) ≤ i by omega)]
        simp only [Bool.false_eq_true, if_false]
        rw [if_pos (by omega)]
        have e2 : ((i : Int) + 1).toNat = i + 1 := by omega
        rw [e2]
        simp [Nat.add_assoc]
theorem cutD_miss {l : List UInt8} (h : (cutD l).2.2 = false) : (cutD l).1 = l ∧ (cutD l).2.1 = [] := by
  induction l with
  | nil => exact ⟨rfl, rfl⟩
  | cons c r ih =>
    by_cases hc : c = 46
    · rw [cutD, if_pos hc] at h; cases h
    · rw [cutD, if_neg hc] at h
      rw [cutD, if_neg hc]
      exact ⟨congrArg (c :: ·) (ih h).1, (ih h).2⟩
theorem cutD_hit {l : List UInt8} (h : (cutD l).2.2 = true) : (cutD l).1 ++ 46 :: (cutD l).2.1 = l := by
  induction l with
  | nil => cases h
  | cons c r ih =>
    by_cases hc : c = 46
    · rw [cutD, if_pos hc, hc]; rfl
    · rw [cutD, if_neg hc] at h
      rw [cutD, if_neg hc]
      exact congrArg (c :: ·) (ih h)
theorem cutD_size (l : List UInt8) : (cutD l).1.length ≤ l.length ∧ (cutD l).2.1.length ≤ l.length := by
  induction l with
  | nil => exact ⟨Nat.le_refl _, Nat.le_refl _⟩
  | cons c r ih =>
    rw [cutD]
    split
    · exact ⟨Nat.zero_le _, Nat.le_succ _⟩
    · simp only [List.length_cons]; omega
theorem cutD_plain {w : List UInt8} (h : ∀ c ∈ w, c ≠ 46) : cutD w = (w, [], false) := by
  induction w with
  | nil => rfl
  | cons c r ih =>
    rw [cutD, if_neg (h c (by simp)), ih fun d hd => h d (by simp [hd])]
theorem cutD_dot {w : List UInt8} (r : List UInt8) (h : ∀ c ∈ w, c ≠ 46) : cutD (w ++ 46 :: r) = (w, r, true) := by
  induction w with
  | nil => rfl
  | cons c w ih =>
    rw [List.cons_append, cutD, if_neg (h c (by simp)), ih fun d hd => h d (by simp [hd])]

/-! ### an address's text -/
def txtL (bs : List UInt8) : List UInt8 := Lib.join (bs.map dec) [46]
theorem txtL_one (b : UInt8) : txtL [b] = dec b := Lib.join_one _ _
theorem txtL_cons (b c : UInt8) (bs : List UInt8) : txtL (b :: c :: bs) = dec b ++ 46 :: txtL (c :: bs) := by
  unfold txtL
  rw [List.map_cons, List.map_cons, Lib.join_cons, Lib.join_cons]
  unfold Lib.joinTail
  simp
theorem txtL_ne (b : UInt8) : ∀ bs : List UInt8, txtL (b :: bs) ≠ []
  | [] => by rw [txtL_one]; exact (dec_facts b).2.1
  | c :: bs => by rw [txtL_cons]; simp
/-- n words of a text, one behind the other, and no dot behind the last. -/
def rdn : Nat → List UInt8 → Bool → Option (List UInt8)
  | 0, _, m => if m then none else some []
  | n + 1, r, _ => match numb (cutD r).1 with
    | none => none
    | some b => (rdn n (cutD r).2.1 (cutD r).2.2).map (b :: ·)
theorem rdn_length : ∀ (n : Nat) (r : List UInt8) (m : Bool) (bs : List UInt8), rdn n r m = some bs → bs.length = n
  | 0, r, m, bs, h => by
    rw [rdn] at h
    split at h
    · cases h
    · cases h; rfl
  | n + 1, r, m, bs, h => by
    rw [rdn] at h
    split at h
    · cases h
    · obtain ⟨t, ht, rfl⟩ := Option.map_eq_some_iff.1 h
      rw [List.length_cons, rdn_length n _ _ _ ht]
theorem rdn_txt : ∀ (n : Nat) (bs : List UInt8) (m : Bool), bs.length = n + 1 → rdn (n + 1) (txtL bs) m = some bs
  | 0, [b], m, _ => by
    rw [txtL_one, rdn, cutD_plain (dec_facts b).1]
    simp only
    rw [numb_iff.2 rfl]
    rfl
  | n + 1, b :: c :: bs, m, h => by
    rw [txtL_cons, rdn, cutD_dot _ (dec_facts b).1]
    simp only
    rw [numb_iff.2 rfl]
    simp only
    rw [rdn_txt n (c :: bs) true (by simpa using h)]
    rfl
  | n + 1, [b], m, h => by simp at h
theorem txt_rdn : ∀ (n : Nat) (r : List UInt8) (m : Bool) (bs : List UInt8), rdn (n + 1) r m = some bs → txtL bs = r
  | 0, r, m, bs, h => by
    rw [rdn] at h
    split at h
    · cases h
    · rename_i b hb
      obtain ⟨t, ht, rfl⟩ := Option.map_eq_some_iff.1 h
      rw [rdn] at ht
      split at ht
      · cases ht
      · rename_i hm
        cases ht
        rw [txtL_one, ← numb_iff.1 hb]
        exact (cutD_miss (by simpa using hm)).1
  | n + 1, r, m, bs, h => by
    rw [rdn] at h
    split at h
    · cases h
    · rename_i b hb
      obtain ⟨t, ht, rfl⟩ := Option.map_eq_some_iff.1 h
      have hl := rdn_length _ _ _ _ ht
      have e := txt_rdn n _ _ _ ht
      obtain ⟨c, u, rfl⟩ : ∃ c u, t = c :: u := by
        cases t with
        | nil => cases hl
        | cons c u => exact ⟨c, u, rfl⟩
      rw [txtL_cons, ← numb_iff.1 hb, e]
      refine cutD_hit ?_
      rcases hm : (cutD r).2.2 with _ | _
      · have := (cutD_miss hm).2
        rw [this] at e
        exact absurd e (txtL_ne c u)
      · rfl
/-- The text of a number. -/
def txt (v : UInt32) : ByteArray := bOf (txtL (numS v.toNat 4))
/-- What a text is read as: the number, and the error. -/
def rd (s : ByteArray) : Option (List UInt8) := rdn 4 s.toList true
def rdV (s : ByteArray) : UInt32 := match rd s with | some bs => UInt32.ofNat (val bs) | none => 0
def rdE (s : ByteArray) : Nat := match rd s with | some _ => 0 | none => 7
theorem rd_txt (v : UInt32) : rd (txt v) = some (numS v.toNat 4) := by
  unfold rd txt
  rw [toList_bOf]
  exact rdn_txt 3 _ _ (numS_length _ _)
theorem ofNat_val (v : UInt32) : UInt32.ofNat (val (numS v.toNat 4)) = v := by
  rw [val_numS]
  have := v.toNat_lt
  rw [Nat.mod_eq_of_lt (by omega), UInt32.ofNat_toNat]
theorem rdV_txt (v : UInt32) : rdV (txt v) = v ∧ rdE (txt v) = 0 := by
  unfold rdV rdE
  rw [rd_txt]
  exact ⟨ofNat_val v, rfl⟩
theorem num_val {bs : List UInt8} (h : bs.length = 4) : numS (UInt32.ofNat (val bs)).toNat 4 = bs := by
  have hl := val_lt bs
  rw [h] at hl
  rw [UInt32.toNat_ofNat', Nat.mod_eq_of_lt (by omega), ← h, numS_val]
theorem txt_rd {s : ByteArray} (h : rdE s = 0) : txt (rdV s) = s := by
  unfold rdE at h
  unfold rdV
  split at h
  · rename_i bs hb
    unfold txt
    rw [num_val (rdn_length _ _ _ _ hb), txt_rdn 3 _ _ _ hb, bOf_toList]
  · cases h
theorem rdE_cases (s : ByteArray) : rdE s = 0 ∨ rdE s = 7 := by unfold rdE; split; exact .inl rfl; exact .inr rfl
theorem rd_bad {s : ByteArray} (h : rdE s = 7) : rdV s = 0 ∧ ∀ v, txt v ≠ s := by
  constructor
  · unfold rdE at h
    unfold rdV
    split at h
    · cases h
    · rfl
  · rintro v rfl
    rw [(rdV_txt v).2] at h
    cases h
theorem txt_inj {v u : UInt32} (h : txt v = txt u) : v = u := by rw [← (rdV_txt v).1, h, (rdV_txt u).1]

/-! ### the document's reading -/
/-- A word's number, with one byte more. -/
def ns (n : Nat) (c : UInt8) : Nat := (n * 10 + c.toNat % 64 + (4294967296 - 48)) % 4294967296
/-- One byte more: the number so far, and the word's. -/
def dst (a : Nat × Nat) (c : UInt8) : Nat × Nat := if c = 46 then ((a.1 * 256 + a.2 % 256) % 4294967296, 0) else (a.1, ns a.2 c)
def dfo (l : List UInt8) (a : Nat × Nat) : Nat × Nat := l.foldl dst a
def dv (s : ByteArray) : Nat := ((dfo s.toList (0, 0)).1 * 256 + (dfo s.toList (0, 0)).2 % 256) % 4294967296
theorem dfo_word {w : List UInt8} (h : ∀ c ∈ w, c ≠ 46) : ∀ a : Nat × Nat, dfo w a = (a.1, w.foldl ns a.2) := by
  induction w with
  | nil => intro a; rfl
  | cons c r ih =>
    intro a
    show dfo r (dst a c) = _
    rw [ih (fun d hd => h d (by simp [hd])), dst, if_neg (h c (by simp)), List.foldl_cons]
theorem word_fin : ∀ i : Fin 256, ((dec3 i.val).foldl ns 0 == i.val) = true := by decide +kernel
theorem dfo_dec (b : UInt8) (v : Nat) : dfo (dec b) (v, 0) = (v, b.toNat) := by
  have h := all_u8 (p := fun i => (dec3 i).foldl ns 0 == i) word_fin b
  rw [dfo_word (dec_facts b).1, dec_eq, eq_of_beq h]
theorem dfo_append (l m : List UInt8) (a : Nat × Nat) : dfo (l ++ m) a = dfo m (dfo l a) := List.foldl_append
theorem dfo_txt (a b c d : UInt8) : dfo (txtL [a, b, c, d]) (0, 0) = (val [a, b, c], d.toNat) := by
  have ha := a.toNat_lt
  have hb := b.toNat_lt
  have hc := c.toNat_lt
  rw [txtL_cons, txtL_cons, txtL_cons, txtL_one, dfo_append, dfo_dec]
  have step : ∀ (l : List UInt8) (a : Nat × Nat), dfo (46 :: l) a = dfo l ((a.1 * 256 + a.2 % 256) % 4294967296, 0) := fun l a => rfl
  have e : val [a, b, c] = (a.toNat * 256 + b.toNat) * 256 + c.toNat := by simp [val]
  rw [step, dfo_append, dfo_dec, step, dfo_append, dfo_dec, step, dfo_dec, e]
  generalize a.toNat = x at *
  generalize b.toNat = y at *
  generalize c.toNat = z at *
  refine Prod.ext ?_ rfl
  show (((0 * 256 + x % 256) % 4294967296 * 256 + y % 256) % 4294967296 * 256 + z % 256) % 4294967296 = _
  omega
theorem dv_txt (v : UInt32) : dv (txt v) = v.toNat := by
  have hv := v.toNat_lt
  obtain ⟨a, b, c, d, e⟩ : ∃ a b c d, numS v.toNat 4 = [a, b, c, d] := ⟨_, _, _, _, numS_four _⟩
  have h := val_numS v.toNat 4
  rw [e] at h
  rw [Nat.mod_eq_of_lt (by omega)] at h
  unfold dv txt
  rw [toList_bOf, e, dfo_txt]
  have h3 := val_snoc [a, b, c] d
  rw [show [a, b, c] ++ [d] = [a, b, c, d] from rfl, h] at h3
  have hd := d.toNat_lt
  simp only
  rw [Nat.mod_eq_of_lt (show d.toNat < 256 from hd), ← h3]
  omega
theorem size_txt (v : UInt32) : (txt v).size ≤ 15 := by
  obtain ⟨a, b, c, d, e⟩ : ∃ a b c d, numS v.toNat 4 = [a, b, c, d] := ⟨_, _, _, _, numS_four _⟩
  unfold txt
  rw [size_bOf, e, txtL_cons, txtL_cons, txtL_cons, txtL_one]
  have h1 := (dec_facts a).2.2
  have h2 := (dec_facts b).2.2
  have h3 := (dec_facts c).2.2
  have h4 := (dec_facts d).2.2
  simp only [List.length_append, List.length_cons]
  omega
/-- A text of more than fifteen bytes is none's. -/
theorem rd_long {s : ByteArray} (h : 15 < s.size) : rdE s = 7 := by
  rcases rdE_cases s with e | e
  · have := size_txt (rdV s)
    rw [txt_rd e] at this
    omega
  · exact e
/-- The document's answer is the same. -/
theorem dv_rd {s : ByteArray} : (txt (UInt32.ofNat (dv s)) = s → rdV s = UInt32.ofNat (dv s) ∧ rdE s = 0) ∧ (txt (UInt32.ofNat (dv s)) ≠ s → rdE s = 7) := by
  constructor
  · intro h
    have := rdV_txt (UInt32.ofNat (dv s))
    rw [h] at this
    exact this
  · intro h
    rcases rdE_cases s with e | e
    · refine absurd ?_ h
      have h2 := txt_rd e
      have h3 : dv s = (rdV s).toNat := by rw [← dv_txt, h2]
      rw [h3, UInt32.ofNat_toNat, h2]
    · exact e
end Go.Proofs.YtlbnbbpokphgbaaDoor.Ipc
