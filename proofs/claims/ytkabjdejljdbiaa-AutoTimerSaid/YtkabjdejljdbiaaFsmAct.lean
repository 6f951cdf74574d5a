/- Contracts of Timed of both, and of Actions. -/
import Derived.Test.YtkabjdejljdbiaaFsmE
namespace Go.Proofs.Ytkabjdejljdbiaa.Fsm
open Go.RowKit Go.Proofs.Ytkabjdejljdbiaa.Oct Go.Proofs.Ytkabjdejljdbiaa.Row Go.Proofs.Ytkabjdejljdbiaa.Mem

def timed (s : Nat) : Bool := decide (4 ≤ s) && decide (s ≤ 8)
set_option maxHeartbeats 2000000 in
theorem timed_any (s : Nat) (w : World) : Calls Try.prog 19 #[.int .u8 s] w fun x w' => x = .returned (.bool (timed s)) ∧ w = w' := by
  unfold timed
  go_enter Try.func19, Try.ntmps19
  go_wp2
  all_goals (go_ret; exact ⟨by first | (simp_all; done) | (simp_all; omega), rfl⟩)
set_option maxHeartbeats 2000000 in
theorem rtimed_any (s : Nat) (w : World) : Calls Try.prog 25 #[.int .u8 s] w fun x w' => x = .returned (.bool (timed s)) ∧ w = w' := by
  unfold timed
  by_cases h4 : 4 ≤ s
  · by_cases h8 : s ≤ 8
    · rw [decide_eq_true h4, decide_eq_true h8]
      have h1 : (4 : Int) ≤ (s : Int) := by omega
      have h2 : (s : Int) ≤ 8 := by omega
      have h3 := decide_eq_true h2
      clear h4 h8
      go_enter Try.func25, Try.ntmps25
      go_wp2
      all_goals (go_ret; exact ⟨rfl, rfl⟩)
    · rw [decide_eq_true h4, decide_eq_false h8]
      have h1 : (4 : Int) ≤ (s : Int) := by omega
      have h2 : (8 : Int) < (s : Int) := by omega
      have h3 : decide ((s : Int) ≤ 8) = false := decide_eq_false (by omega)
      clear h4 h8
      go_enter Try.func25, Try.ntmps25
      go_wp2
      all_goals (go_ret; exact ⟨rfl, rfl⟩)
  · rw [decide_eq_false h4]
    have h1 : (s : Int) < 4 := by omega
    clear h4
    go_enter Try.func25, Try.ntmps25
    go_wp2
    all_goals (go_ret; exact ⟨rfl, rfl⟩)

def has (a b : Nat) : Bool := decide (a &&& b ≠ 0)
theorem has_bits (a b : Nat) (ha : a < 65536) (hb : b < 65536) : (bits .and .u16 (a : Int) (b : Int) != 0) = has a b := by
  rw [u16_and_nat a b ha hb]
  unfold has
  generalize a &&& b = q
  cases q with
  | zero => rfl
  | succ q =>
    rw [decide_eq_true (Nat.succ_ne_zero q), bne_iff_ne]
    omega
/-- The bits of a set below the k-th, one by one. -/
def bitsTo (s k : Nat) : List Nat := ((List.range k).filter fun i => s.testBit i).map (2 ^ ·)
theorem bitsTo_more (s k : Nat) : bitsTo s (k + 1) = if s.testBit k then bitsTo s k ++ [2 ^ k] else bitsTo s k := by
  unfold bitsTo
  rw [List.range_succ, List.filter_append, List.map_append]
  cases h : s.testBit k
  · simp [h]
  · simp [h]
theorem bitsTo_length (s k : Nat) : (bitsTo s k).length ≤ k := by
  unfold bitsTo
  rw [List.length_map]
  exact Nat.le_trans (List.length_filter_le _ _) (by rw [List.length_range]; exact Nat.le_refl _)
theorem has_bit (s k : Nat) : has s (2 ^ k) = s.testBit k := by
  unfold has
  cases h : s.testBit k
  · refine decide_eq_false (fun hn => hn (Nat.eq_of_testBit_eq fun j => ?_))
    rw [Nat.testBit_and, Nat.testBit_two_pow, Nat.zero_testBit]
    by_cases hj : k = j
    · subst hj; rw [h]; rfl
    · rw [decide_eq_false hj, Bool.and_false]
  · refine decide_eq_true (fun h0 => ?_)
    have h1 := congrArg (fun n => Nat.testBit n k) h0
    simp only [Nat.testBit_and, Nat.testBit_two_pow, Nat.zero_testBit, h] at h1
    simp at h1
def numsV (l : List Nat) : List Value := l.map fun n : Nat => Value.int .u16 (n : Int)
theorem numsV_snoc (l : List Nat) (n : Nat) : numsV (l ++ [n]) = numsV l ++ [.int .u16 (n : Int)] := by simp [numsV]
/-- A row of numbers is handed back. -/
def Acts (w : World) (l : List Nat) (e : Ending) (w' : World) : Prop := ∃ v, e = .returned v ∧ w'.ownsRow w.heap.size 28 1 v l.length (numsV l) ∧ Below w.heap.size w w'
theorem info_u16 : (Try.prog.info? 28).map (fun i => (i.zero, i.size, i.bytes)) = some (some (.int .u16 0), 1, 2) := by kernel_rfl
/-- A round's row. -/
def ActsIn (w wr : World) (s k : Nat) (v : Value) : Prop := wr.ownsRow w.heap.size 28 1 v (bitsTo s k).length (numsV (bitsTo s k)) ∧ Below w.heap.size w wr
theorem actsIn_no {w wr : World} {s k : Nat} {v : Value} (h : ActsIn w wr s k v) (hb : s.testBit k = false) : ActsIn w wr s (k + 1) v := by
  unfold ActsIn at h ⊢
  rw [bitsTo_more, hb]
  exact h
theorem actsIn_yes {w wr : World} {s k : Nat} {v : Value} (hown : wr.ownsRow w.heap.size 28 1 v ((bitsTo s k).length + 1) (numsV (bitsTo s k) ++ [.int .u16 ((2 ^ k : Nat) : Int)])) (hb : Below w.heap.size w wr) (ht : s.testBit k = true) : ActsIn w wr s (k + 1) v := by
  unfold ActsIn
  rw [bitsTo_more, ht, if_pos rfl, numsV_snoc, List.length_append]
  exact ⟨hown, hb⟩

set_option maxHeartbeats 2000000 in
theorem actions_any (s : Nat) (w : World) (hs : s < 65536) : Calls Try.prog 28 #[.int .u16 s] w (Acts w (bitsTo s 13)) := by
  obtain ⟨i0, hi, hz0, hz1, hz2⟩ := info_parts info_u16
  have Hs := Lib.hid hs
  go_enter Try.func28, Try.ntmps28
  go_wp2
  go_loopw [3, 4] (fun v i wr => ∃ k : Nat, k ≤ 13 ∧ i = .int .u16 (2 ^ k : Nat) ∧ Hid (ActsIn w wr s k v)) (fun _ i _ => 20000 - (intOf i).toNat)
  case atStart => exact ⟨0, Nat.zero_le _, rfl, ⟨World.ownsRow_nil _ _ _ _, Below.refl _ _⟩⟩
  case round =>
    obtain ⟨k, hk, rfl, HF⟩ := hrel
    by_cases hlt : k < 13
    · have hp : 2 ^ k ≤ 4096 := Nat.pow_le_pow_right (n := 2) (i := k) (j := 12) (by omega) (by omega)
      have hp0 : 0 < 2 ^ k := Nat.two_pow_pos k
      have HP : Hid (2 ^ (k + 1) = 2 ^ k * 2) := Nat.pow_succ 2 k
      have hlen := bitsTo_length s k
      have hsize := HF.out.2.size
      have HB := Lib.hid (has_bits s (2 ^ k) hs (by omega))
      rw [has_bit] at HB
      have HY := Lib.hid (fun (v : Value) (wr : World) (a b c) => @actsIn_yes w wr s k v a b c)
      cases ht : s.testBit k
      · have hb : (bits .and .u16 (s : Int) ((2 ^ k : Nat) : Int) != 0) = false := HB.out.trans ht
        have HN := Lib.hid (actsIn_no HF.out ht)
        clear HB ht HY HF hs
        generalize 2 ^ k = a at *
        go_wp2
        go_roundw
        case rel => exact ⟨k + 1, by omega, by rw [HP.out]; go_num, HN⟩
        case measure => simp [intOf]; omega
      · have hb : (bits .and .u16 (s : Int) ((2 ^ k : Nat) : Int) != 0) = true := HB.out.trans ht
        have HT := Lib.hid ht
        clear HB ht hs
        generalize 2 ^ k = a at *
        go_wp2_with (first
          | (at_builtin; refine wpList_append_own _ rfl _ _ 64 rfl w.heap.size 28 i0 (.int .u16 0) 1 2 Try.underlying64 hi hz0 hz1 hz2 rfl (by decide) _ _ _ rfl (HF.out.1.alloc _) ⟨wr.heap.size, 0, none⟩ 1 1 [.int .u16 (a : Int)] rfl rfl (cell_one_new _ _ _) (fun x hx => by simp at hx; subst hx; rfl) (by unfold maxLen; omega) (by omega) (by simp; omega) ?_; intro v2 w2 hown2 hgr2 _; have Hown2 := Lib.hid hown2; clear hown2; have hb2 := (HF.out.2.alloc hsize (.cells #[.int .u16 (a : Int)] 28)).grown hgr2 (by simp; omega) (fun q hq => (HF.out.1.lt q hq).1)))
        have HT2 := Lib.hid (HY.out _ _ Hown2.out hb2 HT.out)
        go_roundw
        case rel => exact ⟨k + 1, by omega, by rw [HP.out]; go_num, HT2⟩
        case measure => simp [intOf]; omega
    · obtain rfl : k = 13 := by omega
      go_wp2
      go_ret
      exact ⟨_, rfl, HF.out.1, HF.out.2⟩

theorem rbit (s k : Nat) : (((s : Int) / 2 ^ k).tmod 2 == 1) = s.testBit k := by
  rw [show ((2 : Int) ^ k) = ((2 ^ k : Nat) : Int) by simp, ← Int.natCast_ediv, show ((2 : Int)) = ((2 : Nat) : Int) from rfl, ← Int.ofNat_tmod, Nat.testBit_eq_decide_div_mod_eq]
  by_cases h : s / 2 ^ k % 2 = 1
  · rw [h]; rfl
  · rw [decide_eq_false h]
    have : s / 2 ^ k % 2 = 0 := by omega
    rw [this]; rfl
theorem wrap_pow (k : Nat) (h : k ≤ 12) : IntKind.u16.wrap ((2 : Int) ^ k) = ((2 ^ k : Nat) : Int) := by
  have hp : 2 ^ k ≤ 4096 := Nat.pow_le_pow_right (n := 2) (i := k) (j := 12) (by omega) h
  rw [show ((2 : Int) ^ k) = ((2 ^ k : Nat) : Int) by simp]
  generalize 2 ^ k = q at *
  simp only [IntKind.wrap_u16]
  omega
end Go.Proofs.Ytkabjdejljdbiaa.Fsm
