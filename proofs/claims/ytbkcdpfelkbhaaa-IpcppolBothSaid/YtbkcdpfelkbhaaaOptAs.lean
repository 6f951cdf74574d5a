/- Contracts of the document's Same, Find, and of the laws' Long. -/
import Derived.Test.YtbkcdpfelkbhaaaOptPure
import Derived.Test.YtbkcdpfelkbhaaaG1
import Derived.Test.YtbkcdpfelkbhaaaProg
import Derived.WalkKit
import Derived.WalkSpells
import Derived.WalkLawsBesides
import Derived.RegionTactic
import Derived.ChangeAlike
import Derived.Deep.QuietTactic
import Derived.Deep.Quiet
import Derived.BigQuiet
import Derived.Lib.Hide
namespace Go.Proofs.Ytbkcdpfelkbhaaa.Opt
open Go.RowKit Go.Proofs.Ytbkcdpfelkbhaaa.Oct Go.Proofs.Ytbkcdpfelkbhaaa.Row Go.Proofs.Ytbkcdpfelkbhaaa.Mem

/-- The data's bytes together. -/
def dat : List Opt → Nat
  | [] => 0
  | o :: l => o.2.size + dat l
theorem dat_append : ∀ l m : List Opt, dat (l ++ m) = dat l + dat m
  | [], m => by simp [dat]
  | o :: l, m => by rw [List.cons_append, dat, dat, dat_append l m]; omega
theorem dat_take (l : List Opt) (k : Nat) (o : Opt) (h : l[k]? = some o) : dat (l.take (k + 1)) = dat (l.take k) + o.2.size := by
  obtain ⟨hk, rfl⟩ := List.getElem?_eq_some_iff.1 h
  rw [List.take_succ_eq_append_getElem hk, dat_append]; rfl
theorem wt_dat : ∀ l : List Opt, wt l = 2 * l.length + dat l
  | [] => rfl
  | o :: l => by rw [wt, dat, wt_dat l, List.length_cons]; omega
theorem dat_mem : ∀ {l : List Opt} {o : Opt}, o ∈ l → o.2.size ≤ dat l
  | x :: l, o, h => by
    rw [dat]
    rcases List.mem_cons.1 h with rfl | h
    · omega
    · have := dat_mem h; omega

def LongQ (l : List Opt) (n : Nat) (w : World) (e : Ending) (w' : World) : Prop := ∃ b : Bool, e = .returned (.bool b) ∧ (b = false → n ≤ 70 ∧ dat l ≤ 4096) ∧ w = w'
theorem longQ_true (l : List Opt) (n : Nat) (w : World) : LongQ l n w (.returned (.bool true)) w := ⟨true, rfl, (fun h => by cases h), rfl⟩
set_option maxHeartbeats 1000000 in
set_option maxRecDepth 100000 in
theorem long_any (l : List Opt) (B : Nat) (A : Option Addr) (n c : Nat) (w : World) (hl : Opts w B A n l) (hn : n ≤ maxLen) :
    Calls Try.prog 26 #[.slice A n c] w (LongQ l n w) := by
  have Hn := Lib.hid hl.1
  have Hl := Lib.hid hl; clear hl
  unfold maxLen at hn
  go_enter Try.func26, Try.ntmps26
  go_wp2
  go_loop [3, 4] (fun q i => ∃ k t : Nat, k ≤ n ∧ k ≤ 80 ∧ i = .int .i64 k ∧ q = .int .i64 t ∧ t ≤ 140737488351232 * k ∧ Hid (dat (l.take k) = t)) (fun _ i => n - (intOf i).toNat)
  case atStart => exact ⟨0, 0, Nat.zero_le _, by omega, rfl, rfl, Nat.zero_le _, rfl⟩
  case round =>
    obtain ⟨k, t, hk, hk1, rfl, rfl, ht, HA⟩ := hrel
    by_cases hlt : k < n
    · by_cases hlt2 : k < 80
      · obtain ⟨ad, o, rfl, hB, ho, hS1, _, hc1⟩ := Hl.out.at_ hlt
        have HT2 : Hid (dat (l.take (k + 1)) = t + o.2.size) := by
          show _ = _
          rw [dat_take l k o ho, HA.out]
        clear ho
        go_wp2
        go_round
        case rel => exact ⟨k + 1, t + o.2.size, by omega, by omega, by go_num, by go_num, by omega, HT2⟩
        case measure => simp [intOf]; omega
      · have h70 : decide (70 < (n : Int)) = true := decide_eq_true (by omega)
        have hd1 : decide ((k : Int) < 80) = false := decide_eq_false (by omega)
        go_wp2
        go_ret
        exact longQ_true _ _ _
    · obtain rfl : k = n := by omega
      by_cases h70 : 70 < (k : Int)
      · go_wp2
        go_ret
        exact longQ_true _ _ _
      · have hd : decide (70 < (k : Int)) = false := decide_eq_false h70
        by_cases h8 : 4096 < (t : Int)
        · go_wp2
          go_ret
          exact longQ_true _ _ _
        · have hd8 : decide (4096 < (t : Int)) = false := decide_eq_false h8
          go_wp2
          go_ret
          refine ⟨false, rfl, fun _ => ⟨by omega, ?_⟩, rfl⟩
          have := HA.out
          rw [List.take_of_length_le (by rw [Hn.out]; exact Nat.le_refl _)] at this
          omega

/-- Whether two rows are the same. -/
def sm (a b : List Opt) : Bool := decide (a = b)
theorem sm_self (a : List Opt) : sm a a = true := decide_eq_true rfl
theorem take_next {a b : List Opt} {k : Nat} {o o' : Opt} (h : a.take k = b.take k) (ha : a[k]? = some o) (hb : b[k]? = some o') (he : o = o') : a.take (k + 1) = b.take (k + 1) := by
  obtain ⟨h1, rfl⟩ := List.getElem?_eq_some_iff.1 ha
  obtain ⟨h2, rfl⟩ := List.getElem?_eq_some_iff.1 hb
  rw [List.take_succ_eq_append_getElem h1, List.take_succ_eq_append_getElem h2, h, he]
theorem sm_no {a b : List Opt} {k : Nat} {o o' : Opt} (ha : a[k]? = some o) (hb : b[k]? = some o') (he : ¬ o = o') : sm a b = false :=
  decide_eq_false fun e => he (by rw [e, hb] at ha; exact (Option.some.inj ha).symm)
theorem no_byte {c d : UInt8} (h : ¬ c = d) : ((c.toNat : Int) == (d.toNat : Int)) = false := by
  rw [beq_eq_false_iff_ne]
  intro e
  exact h (UInt8.toNat_inj.1 (by omega))
theorem no_text {s t : ByteArray} (h : ¬ s = t) : (s.toList == t.toList) = false := by
  rw [beq_toList]
  exact decide_eq_false fun e => h (toList_inj e)
set_option maxHeartbeats 1000000 in
set_option maxRecDepth 100000 in
theorem rsame_any (a b : List Opt) (B : Nat) (A A' : Option Addr) (n m c c' : Nat) (w : World) (ha : Opts w B A n a) (hb : Opts w B A' m b) (hn : n ≤ maxLen) (hm : m ≤ maxLen) (hBw : B ≤ w.heap.size) :
    Calls Try.prog 24 #[.slice A n c, .slice A' m c'] w fun e w' => e = .returned (.bool (sm a b)) ∧ Below w.heap.size w w' := by
  have Han := Lib.hid ha.1
  have Hbn := Lib.hid hb.1
  have Ha := Lib.hid ha; clear ha
  have Hb := Lib.hid hb; clear hb
  have HR := Lib.hid (Below.refl w.heap.size w)
  unfold maxLen at hn hm
  by_cases hnm : n = m
  · subst hnm
    have hx : ((n : Int) == (n : Int)) = true := by simp
    go_enter Try.func24, Try.ntmps24
    go_wp2
    go_loopw [5] (fun i wr => ∃ k : Nat, k ≤ n ∧ i = .int .i64 k ∧ Hid (a.take k = b.take k) ∧ Hid (Below w.heap.size w wr)) (fun i _ => n - (intOf i).toNat)
    case atStart => exact ⟨0, Nat.zero_le _, rfl, rfl, HR⟩
    case round =>
      obtain ⟨k, hk, rfl, HT, HB⟩ := hrel
      by_cases hlt : k < n
      · obtain ⟨ad, o, rfl, hB, ho, hS1, hc0, hc1⟩ := (Ha.out.below (HB.out.mono hBw)).at_ hlt
        obtain ⟨ad', o', rfl, hB', ho', hS1', hc0', hc1'⟩ := (Hb.out.below (HB.out.mono hBw)).at_ hlt
        by_cases e1 : o.1 = o'.1
        · by_cases e2 : o.2 = o'.2
          · have HT2 : Hid (a.take (k + 1) = b.take (k + 1)) := take_next HT.out ho ho' (Prod.ext e1 e2)
            obtain ⟨t, d⟩ := o
            obtain ⟨t', d'⟩ := o'
            subst e1 e2
            simp only at hc0 hc1 hc0' hc1'
            have hx2 : (d.toList == d.toList) = true := by simp
            clear ho ho'
            go_wp2
            go_quiet (fail)
            go_wp2
            go_roundw
            case rel => exact ⟨k + 1, by omega, by go_num, HT2, HB.out.drewN' _⟩
            case measure => simp [intOf]; omega
          · have HS := Lib.hid (sm_no ho ho' (fun e => e2 (by rw [e])))
            have hx2 := no_text e2
            have hx1 : ((o.1.toNat : Int) == (o'.1.toNat : Int)) = true := by rw [e1]; simp
            clear ho ho' e1 e2
            go_wp2
            go_quiet (fail)
            go_wp2
            go_ret
            exact ⟨by rw [HS.out] <;> rfl, HB.out.drewN' _⟩
        · have HS := Lib.hid (sm_no ho ho' (fun e => e1 (by rw [e])))
          have hx1 := no_byte e1
          clear ho ho' e1
          go_wp2
          go_quiet (fail)
          go_wp2
          go_ret
          exact ⟨by rw [HS.out] <;> rfl, HB.out.drewN' _⟩
      · obtain rfl : k = n := by omega
        have HS : Hid (sm a b = true) := by
          have h := HT.out
          rw [List.take_of_length_le (by rw [Han.out]; exact Nat.le_refl _), List.take_of_length_le (by rw [Hbn.out]; exact Nat.le_refl _)] at h
          exact decide_eq_true h
        go_wp2
        go_ret
        exact ⟨by rw [HS.out] <;> rfl, HB.out⟩
  · have HS : Hid (sm a b = false) := decide_eq_false fun e => hnm (by rw [← Han.out, ← Hbn.out, e])
    have hx : ((n : Int) == (m : Int)) = false := by rw [beq_eq_false_iff_ne]; omega
    go_enter Try.func24, Try.ntmps24
    go_wp2
    go_ret
    exact ⟨by rw [HS.out] <;> rfl, HR.out⟩
end Go.Proofs.Ytbkcdpfelkbhaaa.Opt
