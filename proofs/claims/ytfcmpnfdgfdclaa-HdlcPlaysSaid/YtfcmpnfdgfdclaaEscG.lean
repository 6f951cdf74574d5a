/- Contracts of the document's answers Put, Strip and Get for escaping. -/
import Derived.Test.YtfcmpnfdgfdclaaEscD
import Derived.OwnWalk
namespace Go.Proofs.Ytfcmpnfdgfdclaa.Esc
open Go.RowKit Go.Proofs.Ytfcmpnfdgfdclaa.Oct Go.Proofs.Ytfcmpnfdgfdclaa.Row

theorem at_take (s : ByteArray) (k : Nat) (h : k < s.size) : s.toList.take (k + 1) = s.toList.take k ++ [s[k]] := by rw [getElem_toList, ← List.take_succ_eq_append_getElem]
theorem at_mem (s : ByteArray) (k : Nat) (h : k < s.size) : s[k] ∈ s.toList := by rw [getElem_toList]; exact List.getElem_mem _
theorem take_all (s : ByteArray) : s.toList.take s.size = s.toList := List.take_of_length_le (by rw [← size_toList]; exact Nat.le_refl _)
theorem no_int (b : UInt8) (n : Nat) (hn : n < 256) (h : b ≠ UInt8.ofNat n) : ((b.toNat : Int) == (n : Int)) = false := by rw [eq_int b n hn, beq_eq_false_iff_ne.2 h]
theorem no_int' (b : UInt8) (n : Nat) (hn : n < 256) (h : b ≠ UInt8.ofNat n) : ((b.toNat : Int) != (n : Int)) = true := by
  have := no_int b n hn h
  simp only [bne, this]; rfl

set_option maxHeartbeats 1000000 in
set_option maxRecDepth 100000 in
theorem rput_any (s : ByteArray) (a : Nat) (w : World) (ha : a < 4294967296) (hs : s.size ≤ 1048576) :
    Calls Try.prog 32 #[.string s, .int .u32 a] w fun e w' => e = .returned (.string (bOf (put a s.toList))) ∧ Below w.heap.size w w' := by
  obtain ⟨i0, hi, hz0, hz1, hz2⟩ := info_parts Try.info5
  have Ha := Lib.hid ha; clear ha
  go_enter Try.func32, Try.ntmps32
  go_wp2
  go_loopw [5, 6] (fun v i wr => ∃ k : Nat, k ≤ s.size ∧ i = .int .i64 k ∧ Hid (wr.ownsRow w.heap.size 5 1 v (put a (s.toList.take k)).length (bytesV (put a (s.toList.take k)))) ∧ Below w.heap.size w wr)
    (fun _ i _ => s.size - (intOf i).toNat)
  case atStart => exact ⟨0, Nat.zero_le _, rfl, World.ownsRow_nil _ _ _ _, Below.refl _ _⟩
  case round =>
    obtain ⟨k, hk, rfl, Hown, hb⟩ := hrel
    have hsize := hb.size
    by_cases hlt : k < s.size
    · have hpl : (put a (s.toList.take k)).length ≤ 2097152 := by have h1 := (put_le a (s.toList.take k)).2; rw [List.length_take] at h1; omega
      have HS : Hid (put a (s.toList.take (k + 1)) = put a (s.toList.take k) ++ esc a s[k]) := by show _ = _; rw [at_take s k hlt, put_snoc]
      generalize put a (s.toList.take k) = P at *
      obtain ⟨x, hsx⟩ : ∃ x, s[k] = x := ⟨_, rfl⟩
      rw [hsx] at HS
      by_cases h125 : x = 125
      · subst h125
        have Hx := Lib.hid (esc_yes (a := a) (b := 125) rfl)
        go_wp2_with fail
        refine (turned_any 125 _).mono ?_
        rintro e w1 ⟨rfl, rfl⟩
        go_wp2_with (at_builtin; refine wpList_append_own _ rfl _ _ 46 rfl w.heap.size 5 i0 (.int .u8 0) 1 1 Try.underlying46 hi hz0 hz1 hz2 rfl (by decide) _ _ _ rfl (Hown.out.alloc _) ⟨wr.heap.size, 0, none⟩ 2 2 (bytesV [125, flip 125]) rfl rfl (cells_new _ _ _) (bytesV_one _) (by unfold maxLen; omega) (by omega) (by simp; omega) ?_; intro v2 w2 hown2 hgr2 _; have Hown2 := Lib.hid hown2; clear hown2; have hb2 := (hb.alloc hsize (.cells (bytesV [125, flip 125]).toArray 5)).grown hgr2 (by simp; omega) (fun q hq => (Hown.out.lt q hq).1))
        go_roundw
        case rel => exact ⟨k + 1, by omega, by go_num, by rw [HS.out, Hx.out, bytesV_append, List.length_append]; exact Hown2.out, hb2⟩
        case measure => simp [intOf]; omega
      · by_cases h126 : x = 126
        · subst h126
          have Hx := Lib.hid (esc_yes (a := a) (b := 126) rfl)
          go_wp2_with fail
          refine (turned_any 126 _).mono ?_
          rintro e w1 ⟨rfl, rfl⟩
          go_wp2_with (at_builtin; refine wpList_append_own _ rfl _ _ 46 rfl w.heap.size 5 i0 (.int .u8 0) 1 1 Try.underlying46 hi hz0 hz1 hz2 rfl (by decide) _ _ _ rfl (Hown.out.alloc _) ⟨wr.heap.size, 0, none⟩ 2 2 (bytesV [125, flip 126]) rfl rfl (cells_new _ _ _) (bytesV_one _) (by unfold maxLen; omega) (by omega) (by simp; omega) ?_; intro v2 w2 hown2 hgr2 _; have Hown2 := Lib.hid hown2; clear hown2; have hb2 := (hb.alloc hsize (.cells (bytesV [125, flip 126]).toArray 5)).grown hgr2 (by simp; omega) (fun q hq => (Hown.out.lt q hq).1))
          go_roundw
          case rel => exact ⟨k + 1, by omega, by go_num, by rw [HS.out, Hx.out, bytesV_append, List.length_append]; exact Hown2.out, hb2⟩
          case measure => simp [intOf]; omega
        · have e125 : ((x.toNat : Int) == 125) = false := no_int x 125 (by omega) h125
          have e126 : ((x.toNat : Int) == 126) = false := no_int x 126 (by omega) h126
          have HH : Hid (hidden a x = mapped a x) := by
            show _ = _
            unfold hidden
            rw [beq_eq_false_iff_ne.2 h125, beq_eq_false_iff_ne.2 h126]; rfl
          clear h125 h126
          cases hx : mapped a x
          · have Hm := Lib.hid hx
            have Hx := Lib.hid (esc_no (HH.out.trans hx)); clear hx
            go_wp2_with fail
            refine (rmapped_any a x _ Ha.out).mono ?_
            rw [Hm.out]
            rintro e w1 ⟨rfl, rfl⟩
            go_wp2_with (at_builtin; refine wpList_append_own _ rfl _ _ 46 rfl w.heap.size 5 i0 (.int .u8 0) 1 1 Try.underlying46 hi hz0 hz1 hz2 rfl (by decide) _ _ _ rfl (Hown.out.alloc _) ⟨wr.heap.size, 0, none⟩ 1 1 (bytesV [x]) rfl rfl (cells_new _ _ _) (bytesV_one _) (by unfold maxLen; omega) (by omega) (by simp; omega) ?_; intro v2 w2 hown2 hgr2 _; have Hown2 := Lib.hid hown2; clear hown2; have hb2 := (hb.alloc hsize (.cells (bytesV [x]).toArray 5)).grown hgr2 (by simp; omega) (fun q hq => (Hown.out.lt q hq).1))
            go_roundw
            case rel => exact ⟨k + 1, by omega, by go_num, by rw [HS.out, Hx.out, bytesV_append, List.length_append]; exact Hown2.out, hb2⟩
            case measure => simp [intOf]; omega
          · have Hm := Lib.hid hx
            have Hx := Lib.hid (esc_yes (HH.out.trans hx)); clear hx
            go_wp2_with fail
            refine (rmapped_any a x _ Ha.out).mono ?_
            rw [Hm.out]
            rintro e w1 ⟨rfl, rfl⟩
            go_wp2_with fail
            refine (turned_any x _).mono ?_
            rintro e w1 ⟨rfl, rfl⟩
            go_wp2_with (at_builtin; refine wpList_append_own _ rfl _ _ 46 rfl w.heap.size 5 i0 (.int .u8 0) 1 1 Try.underlying46 hi hz0 hz1 hz2 rfl (by decide) _ _ _ rfl (Hown.out.alloc _) ⟨wr.heap.size, 0, none⟩ 2 2 (bytesV [125, flip x]) rfl rfl (cells_new _ _ _) (bytesV_one _) (by unfold maxLen; omega) (by omega) (by simp; omega) ?_; intro v2 w2 hown2 hgr2 _; have Hown2 := Lib.hid hown2; clear hown2; have hb2 := (hb.alloc hsize (.cells (bytesV [125, flip x]).toArray 5)).grown hgr2 (by simp; omega) (fun q hq => (Hown.out.lt q hq).1))
            go_roundw
            case rel => exact ⟨k + 1, by omega, by go_num, by rw [HS.out, Hx.out, bytesV_append, List.length_append]; exact Hown2.out, hb2⟩
            case measure => simp [intOf]; omega
    · obtain rfl : k = s.size := by omega
      rw [take_all] at Hown
      have hcv := conv_own Try.underlying46 Try.underlying5 Try.underlying9 Hown.out
      go_wp2
      go_ret
      exact ⟨rfl, hb⟩

set_option maxHeartbeats 1000000 in
set_option maxRecDepth 100000 in
theorem rget_any (s : ByteArray) (w : World) (hs : s.size ≤ 1048576) :
    Calls Try.prog 48 #[.string s] w fun e w' => e = .returned (.tuple #[.string (getA s), .int .i64 (getE s)]) ∧ Below w.heap.size w w' := by
  obtain ⟨i0, hi, hz0, hz1, hz2⟩ := info_parts Try.info5
  go_enter Try.func48, Try.ntmps48
  go_wp2
  go_loop [5] (fun i => ∃ k : Nat, k ≤ s.size ∧ i = .int .i64 k ∧ Hid (126 ∉ s.toList.take k)) (fun i => s.size - (intOf i).toNat)
  case atStart => exact ⟨0, Nat.zero_le _, rfl, by show _ ∉ _; simp⟩
  case round =>
    obtain ⟨k, hk, rfl, Hno⟩ := hrel
    by_cases hlt : k < s.size
    · obtain ⟨x, hsx⟩ : ∃ x, s[k] = x := ⟨_, rfl⟩
      by_cases h126 : x = 126
      · subst h126
        have HA := Lib.hid (get_no (s := s) (getOk_flag (by rw [← hsx]; exact at_mem s k hlt)))
        go_wp2
        go_ret2
        rw [HA.out.1, HA.out.2]
        exact ⟨rfl, Below.refl _ _⟩
      · have e126 : ((x.toNat : Int) == 126) = false := no_int x 126 (by omega) h126
        have Hno2 : Hid (126 ∉ s.toList.take (k + 1)) := by
          show _ ∉ _
          rw [at_take s k hlt, hsx, List.mem_append, List.mem_singleton]
          rintro (h | h)
          · exact Hno.out h
          · exact h126 h.symm
        clear h126
        go_wp2
        go_round
        case rel => exact ⟨k + 1, by omega, by go_num, Hno2⟩
        case measure => simp [intOf]; omega
    · obtain rfl : k = s.size := by omega
      rw [take_all] at Hno
      go_wp2
      go_loopw [4, 6] (fun v i wr => ∃ (k : Nat) (o : List UInt8), k ≤ s.size ∧ i = .int .i64 k ∧ Hid (grun (s.toList.take k) = (o, false)) ∧ o.length ≤ k ∧ Hid (wr.ownsRow w.heap.size 5 1 v o.length (bytesV o)) ∧ Below w.heap.size w wr)
        (fun _ i _ => s.size - (intOf i).toNat)
      case atStart => exact ⟨0, [], Nat.zero_le _, rfl, rfl, Nat.le_refl _, World.ownsRow_nil _ _ _ _, Below.refl _ _⟩
      case round =>
        obtain ⟨k, P, hk, rfl, Hg, hpl, Hown, hb⟩ := hrel
        have hsize := hb.size
        by_cases hlt : k < s.size
        · obtain ⟨x, hsx⟩ : ∃ x, s[k] = x := ⟨_, rfl⟩
          have HT := Lib.hid (at_take s k hlt)
          by_cases h125 : x = 125
          · subst h125
            have Hm : Hid (grun (s.toList.take (k + 1)) = (P, true)) := by show _ = _; rw [HT.out, hsx]; exact grun_mark Hg.out
            by_cases hend : k + 1 = s.size
            · have HA : Hid (getA s = bOf [] ∧ getE s = 7) := get_no (getOk_mark (by rw [hend, take_all] at Hm; rw [Hm.out]))
              go_wp2
              go_ret2
              rw [HA.out.1, HA.out.2]
              exact ⟨rfl, hb⟩
            · have hlt2 : k + 1 < s.size := by omega
              have HT2 := Lib.hid (at_take s (k + 1) hlt2)
              obtain ⟨y, hsy⟩ : ∃ y, s[k + 1] = y := ⟨_, rfl⟩
              rw [hsy] at HT2
              have Hm2 : Hid (grun (s.toList.take (k + 1 + 1)) = (P ++ [flip y], false)) := by show _ = _; rw [HT2.out]; exact grun_marked Hm.out y
              have hi1 : ¬ (k : Int) + 1 = s.size := by omega
              go_wp2_with fail
              refine (turned_any y _).mono ?_
              rintro e w1 ⟨rfl, rfl⟩
              go_wp2_with (at_builtin; refine wpList_append_own _ rfl _ _ 46 rfl w.heap.size 5 i0 (.int .u8 0) 1 1 Try.underlying46 hi hz0 hz1 hz2 rfl (by decide) _ _ _ rfl (Hown.out.alloc _) ⟨wr.heap.size, 0, none⟩ 1 1 (bytesV [flip y]) rfl rfl (cells_new _ _ _) (bytesV_one _) (by unfold maxLen; omega) (by omega) (by simp; omega) ?_; intro v2 w2 hown2 hgr2 _; have Hown2 := Lib.hid hown2; clear hown2; have hb2 := (hb.alloc hsize (.cells (bytesV [flip y]).toArray 5)).grown hgr2 (by simp; omega) (fun q hq => (Hown.out.lt q hq).1))
              go_roundw
              case rel => exact ⟨k + 1 + 1, P ++ [flip y], by omega, by go_num, Hm2, by rw [List.length_append, List.length_singleton]; omega, by rw [bytesV_append, List.length_append]; exact Hown2.out, hb2⟩
              case measure => simp [intOf]; omega
          · have e125 : ((x.toNat : Int) != 125) = true := no_int' x 125 (by omega) h125
            have Hm : Hid (grun (s.toList.take (k + 1)) = (P ++ [x], false)) := by show _ = _; rw [HT.out, hsx]; exact grun_plain Hg.out h125
            clear h125
            go_wp2_with (at_builtin; refine wpList_append_own _ rfl _ _ 46 rfl w.heap.size 5 i0 (.int .u8 0) 1 1 Try.underlying46 hi hz0 hz1 hz2 rfl (by decide) _ _ _ rfl (Hown.out.alloc _) ⟨wr.heap.size, 0, none⟩ 1 1 (bytesV [x]) rfl rfl (cells_new _ _ _) (bytesV_one _) (by unfold maxLen; omega) (by omega) (by simp; omega) ?_; intro v2 w2 hown2 hgr2 _; have Hown2 := Lib.hid hown2; clear hown2; have hb2 := (hb.alloc hsize (.cells (bytesV [x]).toArray 5)).grown hgr2 (by simp; omega) (fun q hq => (Hown.out.lt q hq).1))
            go_roundw
            case rel => exact ⟨k + 1, P ++ [x], by omega, by go_num, Hm, by rw [List.length_append, List.length_singleton]; omega, by rw [bytesV_append, List.length_append]; exact Hown2.out, hb2⟩
            case measure => simp [intOf]; omega
        · obtain rfl : k = s.size := by omega
          rw [take_all] at Hg
          have HA : Hid (getA s = bOf P ∧ getE s = 0) := by
            have h1 := get_yes (s := s) (getOk_of (m := false) Hno.out (by rw [Hg.out]))
            rw [Hg.out] at h1
            exact h1
          have hcv := conv_own Try.underlying46 Try.underlying5 Try.underlying9 Hown.out
          go_wp2
          go_ret2
          rw [HA.out.1, HA.out.2]
          exact ⟨rfl, hb⟩
end Go.Proofs.Ytfcmpnfdgfdclaa.Esc
