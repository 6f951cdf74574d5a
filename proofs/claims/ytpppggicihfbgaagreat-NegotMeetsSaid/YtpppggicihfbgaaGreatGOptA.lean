/- Put together: OptA, OptDp, OptEu, OptE. -/
import Derived.Test.YtpppggicihfbgaaGreatGOpts
import Derived.Test.YtpppggicihfbgaaGreatGRow
import Derived.OwnWalk
import Derived.Maps.AppendAt
import Derived.Deep.RegionHeld3
import Derived.BigRegion
import Derived.Lib.AppendStr

/- Contracts of slices.Equal at options, and of option's Alike. -/
namespace Go.Proofs.YtpppggicihfbgaaGreat.Opt
open Go.RowKit Go.Proofs.YtpppggicihfbgaaGreat.Oct Go.Proofs.YtpppggicihfbgaaGreat.Row Go.Proofs.YtpppggicihfbgaaGreat.Mem
set_option maxHeartbeats 1000000 in
set_option maxRecDepth 100000 in
theorem equal_any (a b : List Opt) (B : Nat) (A A' : Option Addr) (n m c c' : Nat) (w : World) (ha : Opts w B A n a) (hb : Opts w B A' m b) (hn : n ≤ maxLen) (hm : m ≤ maxLen) (hBw : B ≤ w.heap.size) :
    Calls Tryz.prog 134 #[.slice A n c, .slice A' m c'] w fun e w' => e = .returned (.bool (sm a b)) ∧ Below w.heap.size w w' := by
  have Han := Lib.hid ha.1
  have Hbn := Lib.hid hb.1
  have Ha := Lib.hid ha; clear ha
  have Hb := Lib.hid hb; clear hb
  have HR := Lib.hid (Below.refl w.heap.size w)
  unfold maxLen at hn hm
  by_cases hnm : n = m
  · subst hnm
    have hx : ((n : Int) == (n : Int)) = true := by simp
    go_enter Tryz.func134, Tryz.ntmps134
    go_wp2
    go_loopw [13] (fun i wr => ∃ k : Nat, k ≤ n ∧ i = .int .i64 k ∧ Hid (a.take k = b.take k) ∧ Hid (Below w.heap.size w wr)) (fun i _ => n - (intOf i).toNat)
    case atStart => exact ⟨0, Nat.zero_le _, rfl, rfl, HR⟩
    case round =>
      obtain ⟨k, hk, rfl, HT, HB⟩ := hrel
      by_cases hlt : k < n
      · obtain ⟨ad, o, rfl, hB, ho, hS1, hc0, hc1⟩ := (Ha.out.below (HB.out.mono hBw)).at_ hlt
        obtain ⟨ad', o', rfl, hB', ho', hS1', hc0', hc1'⟩ := (Hb.out.below (HB.out.mono hBw)).at_ hlt
        by_cases e1 : o.1 = o'.1
        · by_cases e2 : o.2 = o'.2
          · have HT2 : Hid (a.take (k + 1) = b.take (k + 1)) := take_next HT.out ho ho' (Prod.ext e1 e2)
            obtain ⟨t, d⟩ := o
            obtain ⟨t', d'⟩ := o'
            subst e1 e2
            simp only at hc0 hc1 hc0' hc1'
            have hx2 : (d.toList == d.toList) = true := by simp
            clear ho ho'
            go_wp2
            go_quiet (fail)
            go_wp2
            go_roundw
            case rel => exact ⟨k + 1, by omega, by go_num, HT2, HB.out.drewN' _⟩
            case measure => simp [intOf]; omega
          · have HS := Lib.hid (sm_no ho ho' (fun e => e2 (by rw [e])))
            have hx2 := no_text e2
            have hx1 : ((o.1.toNat : Int) == (o'.1.toNat : Int)) = true := by rw [e1]; simp
            clear ho ho' e1 e2
            go_wp2
            go_quiet (fail)
            go_wp2
            go_ret
            exact ⟨by rw [HS.out] <;> rfl, HB.out.drewN' _⟩
        · have HS := Lib.hid (sm_no ho ho' (fun e => e1 (by rw [e])))
          have hx1 := no_byte e1
          clear ho ho' e1
          go_wp2
          go_quiet (fail)
          go_wp2
          go_ret
          exact ⟨by rw [HS.out] <;> rfl, HB.out.drewN' _⟩
      · obtain rfl : k = n := by omega
        have HS : Hid (sm a b = true) := by
          have h := HT.out
          rw [List.take_of_length_le (by rw [Han.out]; exact Nat.le_refl _), List.take_of_length_le (by rw [Hbn.out]; exact Nat.le_refl _)] at h
          exact decide_eq_true h
        go_wp2
        go_ret
        exact ⟨by rw [HS.out] <;> rfl, HB.out⟩
  · have HS : Hid (sm a b = false) := decide_eq_false fun e => hnm (by rw [← Han.out, ← Hbn.out, e])
    have hx : ((n : Int) == (m : Int)) = false := by rw [beq_eq_false_iff_ne]; omega
    go_enter Tryz.func134, Tryz.ntmps134
    go_wp2
    go_ret
    exact ⟨by rw [HS.out] <;> rfl, HR.out⟩
set_option maxHeartbeats 400000 in
set_option maxRecDepth 100000 in
theorem alike_any (a b : List Opt) (B : Nat) (A A' : Option Addr) (n m c c' : Nat) (w : World) (ha : Opts w B A n a) (hb : Opts w B A' m b) (hn : n ≤ maxLen) (hm : m ≤ maxLen) (hBw : B ≤ w.heap.size) :
    Calls Tryz.prog 120 #[.slice A n c, .slice A' m c'] w fun e w' => e = .returned (.bool (sm a b)) ∧ Below w.heap.size w w' := by
  have H := Lib.hid (fun w => equal_any a b B A A' n m c c' w)
  have Ha := Lib.hid ha; clear ha
  have Hb := Lib.hid hb; clear hb
  go_enter Tryz.func120, Tryz.ntmps120
  go_wp2_with fail
  refine (H.out _ Ha.out Hb.out hn hm hBw).mono ?_
  rintro e w1 ⟨rfl, hb1⟩
  have HB1 := Lib.hid hb1; clear hb1
  go_wp2
  go_ret
  exact ⟨rfl, HB1.out⟩
end Go.Proofs.YtpppggicihfbgaaGreat.Opt

/- What a row is put as, step by step: plain mathematics for Put of both. -/
namespace Go.Proofs.YtpppggicihfbgaaGreat.Opt
open Go.RowKit Go.Proofs.YtpppggicihfbgaaGreat.Oct Go.Proofs.YtpppggicihfbgaaGreat.Row Go.Proofs.YtpppggicihfbgaaGreat.Mem

theorem put_step {l : List Opt} {k : Nat} {o : Opt} (h : l[k]? = some o) (hb : big (l.take k) = false) : (253 < o.2.size → big l = true) ∧
    (o.2.size ≤ 253 → big (l.take (k + 1)) = false ∧ bOf (enc (l.take k)) ++ bOf [o.1, UInt8.ofNat (2 + o.2.size)] ++ o.2 = bOf (enc (l.take (k + 1))) ∧ wt (l.take (k + 1)) = wt (l.take k) + (2 + o.2.size)) := by
  obtain ⟨hk, rfl⟩ := List.getElem?_eq_some_iff.1 h
  refine ⟨fun e => big_of_take (k := k + 1) ?_, fun e => ⟨?_, ?_, take_wt l k hk⟩⟩
  · rw [take_big l k hk, decide_eq_true e]; simp
  · rw [take_big l k hk, hb, decide_eq_false (by omega)]; rfl
  · rw [take_enc l k hk, append_bOf, append_bOf, toList_bOf, toList_bOf, toList_bOf, encO]
    simp
theorem put_big {l : List Opt} (hl : l.length ≤ 64) (h : big l = true) : pE l = 2 ∧ pA l = [] := by
  have e : pE l = 2 := by unfold pE; rw [if_neg (by omega), if_pos h]
  exact ⟨e, pA_no (by rw [e]; decide)⟩
theorem put_full {l : List Opt} (hl : 64 < l.length) : pE l = 4 ∧ pA l = [] := by
  have e : pE l = 4 := by unfold pE; rw [if_pos hl]
  exact ⟨e, pA_no (by rw [e]; decide)⟩
theorem put_long {l : List Opt} (hl : l.length ≤ 64) (h : big l = false) (hw : 1496 < wt l) : pE l = 5 ∧ pA l = [] := by
  have e : pE l = 5 := by unfold pE; rw [if_neg (by omega), if_neg (by rw [h]; decide), if_pos hw]
  exact ⟨e, pA_no (by rw [e]; decide)⟩
theorem put_ok {l : List Opt} (hl : l.length ≤ 64) (h : big l = false) (hw : wt l ≤ 1496) : pE l = 0 ∧ pA l = enc l := by
  have e : pE l = 0 := pE_zero.2 ⟨hl, h, hw⟩
  exact ⟨e, pA_yes e⟩

end Go.Proofs.YtpppggicihfbgaaGreat.Opt

/- A byte's zero value; a text's cells. -/
namespace Go.Proofs.YtpppggicihfbgaaGreat.Opt
open Go.RowKit Go.Proofs.YtpppggicihfbgaaGreat.Oct Go.Proofs.YtpppggicihfbgaaGreat.Row Go.Proofs.YtpppggicihfbgaaGreat.Mem

set_option maxRecDepth 100000 in
theorem Tryz.info5 : (Tryz.prog.info? 5).map (fun i => (i.zero, i.size, i.bytes)) = some (some (.int .u8 0), 1, 1) := by kernel_rfl
theorem strCells_bytesV (s : ByteArray) : Lib.strCells s = bytesV s.toList := by rw [ByteArray.toList_eq]; rfl
end Go.Proofs.YtpppggicihfbgaaGreat.Opt

/- Contract of package option's Put. -/
namespace Go.Proofs.YtpppggicihfbgaaGreat.Opt
open Go.RowKit Go.Proofs.YtpppggicihfbgaaGreat.Oct Go.Proofs.YtpppggicihfbgaaGreat.Row Go.Proofs.YtpppggicihfbgaaGreat.Mem

theorem wt_take_le (l : List Opt) (k : Nat) : wt (l.take k) ≤ wt l := by
  have h := wt_append (l.take k) (l.drop k)
  rw [List.take_append_drop] at h
  omega
theorem two_cells {o : Opt} (h : o.2.size ≤ 253) : [Value.int .u8 o.1.toNat, .int .u8 (2 + (o.2.size : Int))] = bytesV [o.1, UInt8.ofNat (2 + o.2.size)] := by
  have e : (2 + (o.2.size : Int)) = ((UInt8.ofNat (2 + o.2.size)).toNat : Int) := by rw [UInt8.toNat_ofNat']; omega
  rw [e]; rfl
theorem row_step {l : List Opt} {k : Nat} {o : Opt} (h : l[k]? = some o) (hb : o.2.size ≤ 253) : bytesV (enc (l.take (k + 1))) = bytesV (enc (l.take k)) ++ [Value.int .u8 o.1.toNat, .int .u8 (2 + (o.2.size : Int))] ++ Lib.strCells o.2 ∧ wt (l.take (k + 1)) = wt (l.take k) + 2 + o.2.size := by
  obtain ⟨hk, rfl⟩ := List.getElem?_eq_some_iff.1 h
  refine ⟨?_, by rw [take_wt l k hk]; omega⟩
  rw [take_enc l k hk, two_cells hb, strCells_bytesV, ← bytesV_append, ← bytesV_append, encO]
  simp

set_option maxHeartbeats 4000000 in
set_option maxRecDepth 100000 in
theorem put_any (l : List Opt) (B : Nat) (A : Option Addr) (n c : Nat) (w : World) (hl : Opts w B A n l) (hn : n ≤ maxLen) (hBw : B ≤ w.heap.size) :
    Calls Tryz.prog 78 #[.slice A n c] w fun e w' => e = .returned (.tuple #[.string (bOf (pA l)), .int .i64 (pE l)]) ∧ Below w.heap.size w w' := by
  obtain ⟨i0, hi, hz0, hz1, hz2⟩ := info_parts Tryz.info5
  have Hn := Lib.hid hl.1
  have Hl := Lib.hid hl; clear hl
  have HB0 := Lib.hid (Below.refl w.heap.size w)
  unfold maxLen at hn
  by_cases h64 : 64 < n
  · have HF := Lib.hid (put_full (l := l) (by rw [Hn.out]; exact h64))
    have hx : (64 : Int) < n := by omega
    go_enter Tryz.func78, Tryz.ntmps78
    go_wp2
    go_ret2
    rw [HF.out.1, HF.out.2]
    exact ⟨rfl, HB0.out⟩
  · have hx : ¬ (64 : Int) < n := by omega
    go_enter Tryz.func78, Tryz.ntmps78
    go_wp2
    go_loopw [4, 15] (fun v i wr => ∃ (k q : Nat), k ≤ n ∧ i = .int .i64 k ∧ v = .int .i64 q ∧ q ≤ 255 * k ∧ Hid (big (l.take k) = false ∧ q = wt (l.take k)) ∧ Below w.heap.size w wr)
      (fun _ i _ => n - (intOf i).toNat)
    case atStart => exact ⟨0, 0, Nat.zero_le _, rfl, rfl, Nat.zero_le _, ⟨rfl, rfl⟩, Below.refl _ _⟩
    case round =>
      obtain ⟨k, q, hk, rfl, rfl, hsz, HS, hb⟩ := hrel
      have hsz0 := hb.size
      by_cases hlt : k < n
      · obtain ⟨ad, o, rfl, hB, ho, hS1, hc0, hc1⟩ := (Hl.out.below (hb.mono hBw)).at_ hlt
        have hst := put_step ho HS.out.1
        have HBn := Lib.hid (hb.alloc hb.size (.cells #[.int .u8 o.1.toNat, .string o.2] 177))
        by_cases h253 : 253 < o.2.size
        · have HF := Lib.hid (put_big (l := l) (by rw [Hn.out]; omega) (hst.1 h253))
          have hx2 : (253 : Int) < (o.2.size : Int) := by omega
          clear hst ho
          go_wp2
          go_ret2
          rw [HF.out.1, HF.out.2]
          exact ⟨rfl, HBn.out⟩
        · have HT := Lib.hid (hst.2 (by omega))
          have hx2 : ¬ (253 : Int) < (o.2.size : Int) := by omega
          clear hst ho
          go_wp2
          go_roundw
          case rel => exact ⟨k + 1, q + (2 + o.2.size), by omega, by go_num, by go_num, by omega, ⟨HT.out.1, by rw [HT.out.2.2, HS.out.2]⟩, HBn.out⟩
          case measure => simp [intOf]; omega
      · obtain rfl : k = n := by omega
        have HS2 : Hid (big l = false ∧ q = wt l) := by
          have h := HS.out
          rw [List.take_of_length_le (by rw [Hn.out]; exact Nat.le_refl _)] at h
          exact h
        by_cases hw : 1496 < q
        · have HF := Lib.hid (put_long (l := l) (by rw [Hn.out]; omega) HS2.out.1 (by rw [← HS2.out.2]; exact hw))
          have hx3 : (1496 : Int) < (q : Int) := by omega
          go_wp2
          go_ret2
          rw [HF.out.1, HF.out.2]
          exact ⟨rfl, hb⟩
        · have HF := Lib.hid (put_ok (l := l) (by rw [Hn.out]; omega) HS2.out.1 (by rw [← HS2.out.2]; omega))
          have hx3 : ¬ (1496 : Int) < (q : Int) := by omega
          have HQ : Hid (wt l ≤ 1496) := by show _ ≤ _; rw [← HS2.out.2]; omega
          have HBig := Lib.hid (big_false.1 HS2.out.1)
          clear HS HS2
          go_wp2_with (at_make; refine wpList_make_own _ rfl _ _ 26 rfl w.heap.size 5 i0 (.int .u8 0) 1 Tryz.underlying26 hi hz0 hz1 .i64 .i64 (q : Int) q rfl rfl rfl (by rw [hz2]; omega) (by unfold maxLen; omega) hsz0 ?_; intro w1 hown1 hgr1; have Hown1 := Lib.hid hown1; clear hown1; have hb1 := hb.grown hgr1 hsz0 (fun q hq => by cases hq))
          go_loopw [7, 36] (fun v i wr => ∃ (j m : Nat), j ≤ k ∧ i = .int .i64 j ∧ m ≤ 1496 ∧ Hid (m = wt (l.take j) ∧ wr.ownsRow w.heap.size 5 1 v m (bytesV (enc (l.take j)))) ∧ Below w.heap.size w wr)
            (fun _ i _ => k - (intOf i).toNat)
          case atStart => exact ⟨0, 0, Nat.zero_le _, rfl, Nat.zero_le _, ⟨rfl, Hown1.out⟩, hb1⟩
          case round =>
            obtain ⟨j, m, hj, rfl, hm, Hown, hb⟩ := hrel
            have hsz0 := hb.size
            by_cases hlt : j < k
            · obtain ⟨ad, o, rfl, hB, ho, hS1, hc0, hc1⟩ := (Hl.out.below (hb.mono hBw)).at_ hlt
              have ho253 : o.2.size ≤ 253 := HBig.out o (List.mem_of_getElem? ho)
              have Hst := Lib.hid (row_step ho ho253)
              have hm2 : m + 2 + o.2.size ≤ 1496 := by
                have h1 := Hst.out.2
                have h2 := wt_take_le l (j + 1)
                have h3 := HQ.out
                have h4 := Hown.out.1
                omega
              have HA := Lib.hid ((at_new wr o.1 o.2).alloc (.cells #[.int .u8 o.1.toNat, .int .u8 (2 + (o.2.size : Int))] 5))
              have HBn := Lib.hid ((hb.alloc hb.size (.cells #[.int .u8 o.1.toNat, .string o.2] 177)).alloc (by simp; omega) (.cells #[.int .u8 o.1.toNat, .int .u8 (2 + (o.2.size : Int))] 5))
              have HC := Lib.hid (two_cells ho253)
              clear ho
              go_wp2_with (first
                | (at_builtin; refine wpList_append_own _ rfl _ _ 26 rfl w.heap.size 5 i0 (.int .u8 0) 1 1 Tryz.underlying26 hi hz0 hz1 hz2 rfl (by decide) _ _ _ rfl ((Hown.out.2.alloc _).alloc _) ⟨wr.heap.size + 1, 0, none⟩ 2 2 [.int .u8 o.1.toNat, .int .u8 (2 + (o.2.size : Int))] rfl rfl (by have := cells_new (wr.alloc (.cells #[.int .u8 o.1.toNat, .string o.2] 177)) #[.int .u8 o.1.toNat, .int .u8 (2 + (o.2.size : Int))] 5; rw [World.size_alloc] at this; exact this) (by rw [HC.out]; exact bytesV_one _) (by unfold maxLen; omega) (by omega) (by simp; omega) ?_; intro v1 w1 hown1 hgr1 _; have Hown1 := Lib.hid hown1; clear hown1; have hb1 := HBn.out.grown hgr1 (by simp; omega) (fun q hq => (Hown.out.2.lt q hq).1); have hsize1 := hb1.size; have hd1 : w1.cell? ⟨wr.heap.size, 1, none⟩ = some (.string o.2) := hgr1.cell HA.out.c1 (by show some wr.heap.size ≠ _; intro e; have := (Hown.out.2.lt wr.heap.size e.symm).2; exact absurd this (Nat.lt_irrefl _)))
                | (at_builtin; refine Lib.wpList_append_own_string _ rfl _ _ 26 9 rfl w.heap.size 5 i0 Tryz.underlying26 Tryz.underlying9 hi hz0 hz1 hz2 _ _ _ rfl Hown1.out o.2 rfl (by unfold maxLen; omega) (by omega) hsize1 ?_; intro v2 w2 hown2 hgr2 _; have Hown2 := Lib.hid hown2; clear hown2; have hb2 := hb1.grown hgr2 hsize1 (fun q hq => (Hown1.out.lt q hq).1)))
              go_roundw
              case rel => exact ⟨j + 1, m + 2 + o.2.size, by omega, by go_num, hm2, ⟨by rw [Hst.out.2, Hown.out.1], by rw [Hst.out.1]; exact Hown2.out⟩, hb2⟩
              case measure => simp [intOf]; omega
            · obtain rfl : j = k := by omega
              have hrow := Hown.out.2
              rw [List.take_of_length_le (by rw [Hn.out]; exact Nat.le_refl _)] at hrow
              have hcv := conv_own (dst := 9) Tryz.underlying26 Tryz.underlying5 Tryz.underlying9 hrow
              clear hrow
              go_wp2
              go_ret2
              rw [HF.out.1, HF.out.2]
              exact ⟨rfl, hb⟩
end Go.Proofs.YtpppggicihfbgaaGreat.Opt
