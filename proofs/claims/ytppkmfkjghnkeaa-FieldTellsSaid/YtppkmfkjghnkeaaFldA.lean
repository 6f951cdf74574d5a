/- Contracts of package field's May, of the document's, and of what Put leaves out and join. -/
import Derived.Test.YtppkmfkjghnkeaaProg
import Derived.Test.YtppkmfkjghnkeaaShelf
import Derived.Test.YtppkmfkjghnkeaaFldPure
import Derived.WalkKit
import Derived.WalkSpells
import Derived.WalkLawsBesides
import Derived.RegionTactic
import Derived.ChangeAlike
import Derived.Deep.QuietTactic
import Derived.Deep.Quiet
import Derived.BigQuiet
import Derived.Lib.Hide
import Derived.Laws.BytesArg
import Derived.RangeFuncBox
namespace Go.Proofs.Ytppkmfkjghnkeaa.Fld
open Go.RowKit Go.Proofs.Ytppkmfkjghnkeaa.Oct

theorem and1 (v : Nat) (h : v < 65536) : bits .and .u16 (v : Int) 1 = ((v % 2 : Nat) : Int) := by
  have := u16_and_nat v 1 h (by omega)
  rw [Nat.and_one_is_mod] at this
  exact this
theorem and256 (v : Nat) (h : v < 65536) : bits .and .u16 (v : Int) 256 = ((256 * (v / 256 % 2) : Nat) : Int) := by
  have e := u16_and_nat v 256 h (by omega)
  have h2 : v &&& 256 = 256 * (v / 256 % 2) := by
    rw [Nat.mul_comm]
    apply Nat.eq_of_testBit_eq
    intro i
    rw [Nat.testBit_and, show (256 : Nat) = 2 ^ 8 from rfl, Nat.testBit_two_pow, Nat.testBit_mul_two_pow]
    by_cases h8 : 8 = i
    · subst h8
      simp [Nat.testBit_eq_decide_div_mod_eq]
    · rw [decide_eq_false h8, Bool.and_false]
      by_cases h9 : i ≥ 8
      · have : (v / 2 ^ 8 % 2).testBit (i - 8) = false := by
          apply Nat.testBit_lt_two_pow
          have h3 : 2 ^ 1 ≤ 2 ^ (i - 8) := Nat.pow_le_pow_right (by omega) (by omega)
          omega
        rw [this, Bool.and_false]
      · rw [decide_eq_false h9, Bool.false_and]
  rw [h2] at e
  exact e

set_option maxHeartbeats 400000 in
theorem may_any (v : Nat) (w : World) (h : v < 65536) :
    Calls Try.prog 12 #[.int .u16 v] w fun e w' => e = .returned (.bool (may v)) ∧ w = w' := by
  have e1 := and1 v h
  have e2 := and256 v h
  have h0 : (v : Int) ≤ 65535 := by omega
  have H : Hid (may v = ((((v % 2 : Nat) : Int) != 0) && ((((256 * (v / 256 % 2) : Nat) : Int) == 0) && ((v : Int) != 255)))) := by
    show _ = _
    have a1 : (v % 2 == 1) = (((v % 2 : Nat) : Int) != 0) := by rw [Bool.eq_iff_iff]; simp; omega
    have a2 : (v / 256 % 2 == 0) = (((256 * (v / 256 % 2) : Nat) : Int) == 0) := by rw [Bool.eq_iff_iff]; simp; omega
    have a3 : (v != 255) = ((v : Int) != 255) := by rw [Bool.eq_iff_iff]; simp; omega
    unfold may
    rw [a1, a2, a3]
  rw [H.out]
  clear h
  generalize ((v % 2 : Nat) : Int) = x at *
  generalize ((256 * (v / 256 % 2) : Nat) : Int) = y at *
  go_enter Try.func12, Try.ntmps12
  go_wp2
  all_goals (go_ret; exact ⟨by simp_all, rfl⟩)

set_option maxHeartbeats 400000 in
theorem rmay_any (v : Nat) (w : World) (h : v < 65536) :
    Calls Try.prog 13 #[.int .u16 v] w fun e w' => e = .returned (.bool (may v)) ∧ w = w' := by
  have h0 : (v : Int) ≤ 65535 := by omega
  have h1 : (0 : Int) ≤ v := by omega
  have H : Hid (may v = (((v : Int) % 2 == 1) && ((((v : Int) / 256 % 2) == 0) && ((v : Int) != 255)))) := by
    show _ = _
    have a1 : (v % 2 == 1) = ((v : Int) % 2 == 1) := by rw [Bool.eq_iff_iff]; simp; omega
    have a2 : (v / 256 % 2 == 0) = ((v : Int) / 256 % 2 == 0) := by rw [Bool.eq_iff_iff]; simp; omega
    have a3 : (v != 255) = ((v : Int) != 255) := by rw [Bool.eq_iff_iff]; simp; omega
    unfold may
    rw [a1, a2, a3]
  rw [H.out]
  clear h
  go_enter Try.func13, Try.ntmps13
  go_wp2
  all_goals (go_ret; exact ⟨by simp_all, rfl⟩)

/-- What Put leaves out. -/
def unl (p : Nat) (left : Bool) (s : ByteArray) : ByteArray := if left && p != 49185 then bOf [] else s
set_option maxHeartbeats 400000 in
theorem unl_any (b p : Nat) (left : Bool) (s : ByteArray) (w : World) (hb : Boxed w b 22 (.int .u16 p)) :
    Calls Try.prog 14 #[.bool left, .string s, .pointer (some ⟨b, 0, none⟩)] w fun e w' => e = .returned (.string (unl p left s)) ∧ w = w' := by
  have hc := hb.cell
  clear hb
  by_cases hp : p = 49185
  · have H : Hid (unl p left s = s) := by show _ = _; subst hp; cases left <;> rfl
    have h1 : ((p : Int) != 49185) = false := by simp; omega
    rw [H.out]
    clear hp
    cases left
    · go_enter Try.func14, Try.ntmps14
      go_wp2
      go_ret
      exact ⟨rfl, rfl⟩
    · go_enter Try.func14, Try.ntmps14
      go_wp2
      go_ret
      exact ⟨rfl, rfl⟩
  · have H : Hid (unl p left s = if left then bOf [] else s) := by show _ = _; unfold unl; rw [bne_iff_ne.2 hp, Bool.and_true]
    have h1 : ((p : Int) != 49185) = true := by simp; omega
    rw [H.out]
    clear hp
    cases left
    · go_enter Try.func14, Try.ntmps14
      go_wp2
      go_ret
      exact ⟨rfl, rfl⟩
    · go_enter Try.func14, Try.ntmps14
      go_wp2
      go_ret
      exact ⟨rfl, rfl⟩

/-- Texts one behind the other. -/
def flat (xs : List ByteArray) : List UInt8 := (xs.map fun s => s.toList).flatten
theorem join_flat (xs : List ByteArray) : Lib.join (xs.map (·.data.toList)) (⟨#[]⟩ : ByteArray).data.toList = flat xs := by
  have e : xs.map (·.data.toList) = xs.map fun s => s.toList := by
    apply List.map_congr_left
    intro s _
    rw [ByteArray.toList_eq]
  rw [e]
  unfold flat
  cases hl : xs.map fun s => s.toList with
  | nil => rfl
  | cons x r =>
    show Lib.join (x :: r) [] = _
    rw [Lib.join_cons, List.flatten_cons]
    unfold Lib.joinTail
    congr 2
    conv => rhs; rw [← List.map_id r]
    apply List.map_congr_left
    intro y _
    rfl
set_option maxHeartbeats 400000 in
theorem join_any (bk c : Nat) (xs : List ByteArray) (w : World) (hcells : ∀ (j : Nat) x, xs[j]? = some x → w.cell? ⟨bk, 0 + j, none⟩ = some (.string x)) (hbk : bk < w.heap.size) (hN : xs.length ≤ 1048576) (hcap : xs.length ≤ c) (hlen : (flat xs).length ≤ 140737488355328) :
    Calls Try.prog 16 #[.slice (some ⟨bk, 0, none⟩) xs.length c] w fun e w' => e = .returned (.string (bOf (flat xs))) ∧ Below w.heap.size w w' := by
  have C := Lib.hid (Try.strings_Join bk 0 c xs ⟨#[]⟩ w hcells hbk (by omega) hcap (by rw [join_flat]; exact hlen))
  have HJ := Lib.hid (join_flat xs)
  clear hcells hbk hN hcap hlen
  go_enter Try.func16, Try.ntmps16
  go_wp2_with fail
  refine C.out.mono ?_
  rw [HJ.out]
  rintro e w1 ⟨rfl, hb⟩
  go_wp2
  go_ret
  exact ⟨rfl, hb⟩

theorem trim_skip (s : List UInt8) : Lib.trimPrefix s [255, 3] = skip s := by
  unfold Lib.trimPrefix Lib.hasPrefix skip
  have : ([255, 3] : List UInt8).isPrefixOf s = decide (s.take 2 = [255, 3]) := by
    rw [Bool.eq_iff_iff, List.isPrefixOf_iff_prefix, decide_eq_true_eq, List.prefix_iff_eq_take]
    exact eq_comm
  rw [this]
  simp
theorem trim_any (s : ByteArray) (w : World) :
    Calls Try.prog 17 #[.string s, .string ⟨#[255, 3]⟩] w fun e w' => e = .returned (.string (bOf (skip s.toList))) ∧ w = w' :=
  (Try.strings_TrimPrefix s ⟨#[255, 3]⟩ w).mono fun e w' ⟨he, hw⟩ => ⟨by
    rw [he, show ((⟨#[255, 3]⟩ : ByteArray).data.toList) = [255, 3] from rfl, trim_skip, ByteArray.toList_eq]; rfl, hw.symm⟩
end Go.Proofs.Ytppkmfkjghnkeaa.Fld
