/- Put together: OptAs, OptA, OptDp. -/
import Derived.Test.YtikcgcgbcolndaaGreatG33
import Derived.Test.YtikcgcgbcolndaaGreatG1
import Derived.Test.YtikcgcgbcolndaaGreatProg
import Derived.WalkKit
import Derived.WalkSpells
import Derived.WalkLawsBesides
import Derived.RegionTactic
import Derived.ChangeAlike
import Derived.Deep.QuietTactic
import Derived.Deep.Quiet
import Derived.BigQuiet
import Derived.Lib.Hide

/- Contracts of the document's Same, Find, and of the laws' Long. -/
namespace Go.Proofs.YtikcgcgbcolndaaGreat.Opt
open Go.RowKit Go.Proofs.YtikcgcgbcolndaaGreat.Oct Go.Proofs.YtikcgcgbcolndaaGreat.Row Go.Proofs.YtikcgcgbcolndaaGreat.Mem

/-- The data's bytes together. -/
def dat : List Opt → Nat
  | [] => 0
  | o :: l => o.2.size + dat l
theorem dat_append : ∀ l m : List Opt, dat (l ++ m) = dat l + dat m
  | [], m => by simp [dat]
  | o :: l, m => by rw [List.cons_append, dat, dat, dat_append l m]; omega
theorem dat_take (l : List Opt) (k : Nat) (o : Opt) (h : l[k]? = some o) : dat (l.take (k + 1)) = dat (l.take k) + o.2.size := by
  obtain ⟨hk, rfl⟩ := List.getElem?_eq_some_iff.1 h
  rw [List.take_succ_eq_append_getElem hk, dat_append]; rfl
theorem wt_dat : ∀ l : List Opt, wt l = 2 * l.length + dat l
  | [] => rfl
  | o :: l => by rw [wt, dat, wt_dat l, List.length_cons]; omega
theorem dat_mem : ∀ {l : List Opt} {o : Opt}, o ∈ l → o.2.size ≤ dat l
  | x :: l, o, h => by
    rw [dat]
    rcases List.mem_cons.1 h with rfl | h
    · omega
    · have := dat_mem h; omega

/-- Whether two rows are the same. -/
def sm (a b : List Opt) : Bool := decide (a = b)
theorem sm_self (a : List Opt) : sm a a = true := decide_eq_true rfl
theorem take_next {a b : List Opt} {k : Nat} {o o' : Opt} (h : a.take k = b.take k) (ha : a[k]? = some o) (hb : b[k]? = some o') (he : o = o') : a.take (k + 1) = b.take (k + 1) := by
  obtain ⟨h1, rfl⟩ := List.getElem?_eq_some_iff.1 ha
  obtain ⟨h2, rfl⟩ := List.getElem?_eq_some_iff.1 hb
  rw [List.take_succ_eq_append_getElem h1, List.take_succ_eq_append_getElem h2, h, he]
theorem sm_no {a b : List Opt} {k : Nat} {o o' : Opt} (ha : a[k]? = some o) (hb : b[k]? = some o') (he : ¬ o = o') : sm a b = false :=
  decide_eq_false fun e => he (by rw [e, hb] at ha; exact (Option.some.inj ha).symm)
theorem no_byte {c d : UInt8} (h : ¬ c = d) : ((c.toNat : Int) == (d.toNat : Int)) = false := by
  rw [beq_eq_false_iff_ne]
  intro e
  exact h (UInt8.toNat_inj.1 (by omega))
theorem no_text {s t : ByteArray} (h : ¬ s = t) : (s.toList == t.toList) = false := by
  rw [beq_toList]
  exact decide_eq_false fun e => h (toList_inj e)
end Go.Proofs.YtikcgcgbcolndaaGreat.Opt

/- Contracts of slices.Equal at options, and of option's Alike. -/
namespace Go.Proofs.YtikcgcgbcolndaaGreat.Opt
open Go.RowKit Go.Proofs.YtikcgcgbcolndaaGreat.Oct Go.Proofs.YtikcgcgbcolndaaGreat.Row Go.Proofs.YtikcgcgbcolndaaGreat.Mem
set_option maxHeartbeats 1000000 in
set_option maxRecDepth 100000 in
theorem equal_any (a b : List Opt) (B : Nat) (A A' : Option Addr) (n m c c' : Nat) (w : World) (ha : Opts w B A n a) (hb : Opts w B A' m b) (hn : n ≤ maxLen) (hm : m ≤ maxLen) (hBw : B ≤ w.heap.size) :
    Calls Tryz.prog 158 #[.slice A n c, .slice A' m c'] w fun e w' => e = .returned (.bool (sm a b)) ∧ Below w.heap.size w w' := by
  have Han := Lib.hid ha.1
  have Hbn := Lib.hid hb.1
  have Ha := Lib.hid ha; clear ha
  have Hb := Lib.hid hb; clear hb
  have HR := Lib.hid (Below.refl w.heap.size w)
  unfold maxLen at hn hm
  by_cases hnm : n = m
  · subst hnm
    have hx : ((n : Int) == (n : Int)) = true := by simp
    go_enter Tryz.func158, Tryz.ntmps158
    go_wp2
    go_loopw [13] (fun i wr => ∃ k : Nat, k ≤ n ∧ i = .int .i64 k ∧ Hid (a.take k = b.take k) ∧ Hid (Below w.heap.size w wr)) (fun i _ => n - (intOf i).toNat)
    case atStart => exact ⟨0, Nat.zero_le _, rfl, rfl, HR⟩
    case round =>
      obtain ⟨k, hk, rfl, HT, HB⟩ := hrel
      by_cases hlt : k < n
      · obtain ⟨ad, o, rfl, hB, ho, hS1, hc0, hc1⟩ := (Ha.out.below (HB.out.mono hBw)).at_ hlt
        obtain ⟨ad', o', rfl, hB', ho', hS1', hc0', hc1'⟩ := (Hb.out.below (HB.out.mono hBw)).at_ hlt
        by_cases e1 : o.1 = o'.1
        · by_cases e2 : o.2 = o'.2
          · have HT2 : Hid (a.take (k + 1) = b.take (k + 1)) := take_next HT.out ho ho' (Prod.ext e1 e2)
            obtain ⟨t, d⟩ := o
            obtain ⟨t', d'⟩ := o'
            subst e1 e2
            simp only at hc0 hc1 hc0' hc1'
            have hx2 : (d.toList == d.toList) = true := by simp
            clear ho ho'
            go_wp2
            go_quiet (fail)
            go_wp2
            go_roundw
            case rel => exact ⟨k + 1, by omega, by go_num, HT2, HB.out.drewN' _⟩
            case measure => simp [intOf]; omega
          · have HS := Lib.hid (sm_no ho ho' (fun e => e2 (by rw [e])))
            have hx2 := no_text e2
            have hx1 : ((o.1.toNat : Int) == (o'.1.toNat : Int)) = true := by rw [e1]; simp
            clear ho ho' e1 e2
            go_wp2
            go_quiet (fail)
            go_wp2
            go_ret
            exact ⟨by rw [HS.out] <;> rfl, HB.out.drewN' _⟩
        · have HS := Lib.hid (sm_no ho ho' (fun e => e1 (by rw [e])))
          have hx1 := no_byte e1
          clear ho ho' e1
          go_wp2
          go_quiet (fail)
          go_wp2
          go_ret
          exact ⟨by rw [HS.out] <;> rfl, HB.out.drewN' _⟩
      · obtain rfl : k = n := by omega
        have HS : Hid (sm a b = true) := by
          have h := HT.out
          rw [List.take_of_length_le (by rw [Han.out]; exact Nat.le_refl _), List.take_of_length_le (by rw [Hbn.out]; exact Nat.le_refl _)] at h
          exact decide_eq_true h
        go_wp2
        go_ret
        exact ⟨by rw [HS.out] <;> rfl, HB.out⟩
  · have HS : Hid (sm a b = false) := decide_eq_false fun e => hnm (by rw [← Han.out, ← Hbn.out, e])
    have hx : ((n : Int) == (m : Int)) = false := by rw [beq_eq_false_iff_ne]; omega
    go_enter Tryz.func158, Tryz.ntmps158
    go_wp2
    go_ret
    exact ⟨by rw [HS.out] <;> rfl, HR.out⟩
set_option maxHeartbeats 400000 in
set_option maxRecDepth 100000 in
theorem alike_any (a b : List Opt) (B : Nat) (A A' : Option Addr) (n m c c' : Nat) (w : World) (ha : Opts w B A n a) (hb : Opts w B A' m b) (hn : n ≤ maxLen) (hm : m ≤ maxLen) (hBw : B ≤ w.heap.size) :
    Calls Tryz.prog 145 #[.slice A n c, .slice A' m c'] w fun e w' => e = .returned (.bool (sm a b)) ∧ Below w.heap.size w w' := by
  have H := Lib.hid (fun w => equal_any a b B A A' n m c c' w)
  have Ha := Lib.hid ha; clear ha
  have Hb := Lib.hid hb; clear hb
  go_enter Tryz.func145, Tryz.ntmps145
  go_wp2_with fail
  refine (H.out _ Ha.out Hb.out hn hm hBw).mono ?_
  rintro e w1 ⟨rfl, hb1⟩
  have HB1 := Lib.hid hb1; clear hb1
  go_wp2
  go_ret
  exact ⟨rfl, HB1.out⟩
end Go.Proofs.YtikcgcgbcolndaaGreat.Opt

/- What a row is put as, step by step: plain mathematics for Put of both. -/
namespace Go.Proofs.YtikcgcgbcolndaaGreat.Opt
open Go.RowKit Go.Proofs.YtikcgcgbcolndaaGreat.Oct Go.Proofs.YtikcgcgbcolndaaGreat.Row Go.Proofs.YtikcgcgbcolndaaGreat.Mem

theorem put_step {l : List Opt} {k : Nat} {o : Opt} (h : l[k]? = some o) (hb : big (l.take k) = false) : (253 < o.2.size → big l = true) ∧
    (o.2.size ≤ 253 → big (l.take (k + 1)) = false ∧ bOf (enc (l.take k)) ++ bOf [o.1, UInt8.ofNat (2 + o.2.size)] ++ o.2 = bOf (enc (l.take (k + 1))) ∧ wt (l.take (k + 1)) = wt (l.take k) + (2 + o.2.size)) := by
  obtain ⟨hk, rfl⟩ := List.getElem?_eq_some_iff.1 h
  refine ⟨fun e => big_of_take (k := k + 1) ?_, fun e => ⟨?_, ?_, take_wt l k hk⟩⟩
  · rw [take_big l k hk, decide_eq_true e]; simp
  · rw [take_big l k hk, hb, decide_eq_false (by omega)]; rfl
  · rw [take_enc l k hk, append_bOf, append_bOf, toList_bOf, toList_bOf, toList_bOf, encO]
    simp
theorem put_big {l : List Opt} (hl : l.length ≤ 64) (h : big l = true) : pE l = 2 ∧ pA l = [] := by
  have e : pE l = 2 := by unfold pE; rw [if_neg (by omega), if_pos h]
  exact ⟨e, pA_no (by rw [e]; decide)⟩
theorem put_full {l : List Opt} (hl : 64 < l.length) : pE l = 4 ∧ pA l = [] := by
  have e : pE l = 4 := by unfold pE; rw [if_pos hl]
  exact ⟨e, pA_no (by rw [e]; decide)⟩
theorem put_long {l : List Opt} (hl : l.length ≤ 64) (h : big l = false) (hw : 1496 < wt l) : pE l = 5 ∧ pA l = [] := by
  have e : pE l = 5 := by unfold pE; rw [if_neg (by omega), if_neg (by rw [h]; decide), if_pos hw]
  exact ⟨e, pA_no (by rw [e]; decide)⟩
theorem put_ok {l : List Opt} (hl : l.length ≤ 64) (h : big l = false) (hw : wt l ≤ 1496) : pE l = 0 ∧ pA l = enc l := by
  have e : pE l = 0 := pE_zero.2 ⟨hl, h, hw⟩
  exact ⟨e, pA_yes e⟩

end Go.Proofs.YtikcgcgbcolndaaGreat.Opt
