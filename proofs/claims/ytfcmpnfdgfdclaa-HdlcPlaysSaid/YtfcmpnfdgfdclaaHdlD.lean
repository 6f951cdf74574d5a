/- Contracts of what package hdlc asks of a piece (faults), and of Frame of both. -/
import Derived.Test.YtfcmpnfdgfdclaaHdlC
namespace Go.Proofs.Ytfcmpnfdgfdclaa.Hdl
open Go.RowKit Go.Proofs.Ytfcmpnfdgfdclaa.Oct Go.Proofs.Ytfcmpnfdgfdclaa.Row Go.Proofs.Ytfcmpnfdgfdclaa.Esc Go.Proofs.Ytfcmpnfdgfdclaa.Fcs

set_option maxHeartbeats 400000 in
theorem is1_any (s : ByteArray) (b1 : Nat) (w : World) (hs : s.size ≤ 1048576) (hb : Boxed w b1 9 (.string s)) :
    Calls Try.prog 37 #[.pointer (some ⟨b1, 0, none⟩)] w fun e w' => e = .returned (.bool (endsMark s)) ∧ w = w' := by
  have hc := hb.cell
  clear hb
  have Hs := Lib.hid hs; clear hs
  go_enter Try.func37, Try.ntmps37
  go_wp2_with fail
  refine (suffix_any s _ Hs.out).mono ?_
  rintro e w' ⟨rfl, rfl⟩
  go_wp2
  go_ret
  exact ⟨rfl, rfl⟩
set_option maxHeartbeats 400000 in
theorem is2_any (s : ByteArray) (n₀ g : Nat) (r : St) (v : Value) (b0 b2 : Nat) (w : World) (hs : s.size ≤ 1048576) (hm : r.most ≤ 1508) (hR : Recv w n₀ g r v) (hb0 : Boxed w b0 26 (.pointer (some ⟨g, 0, none⟩))) (hb2 : Boxed w b2 9 (.string s)) :
    Calls Try.prog 39 #[.pointer (some ⟨b2, 0, none⟩), .pointer (some ⟨b0, 0, none⟩)] w fun e w' => e = .returned (.bool (decide (r.most + 2 < s.size))) ∧ ∃ k, w' = w.drewN k := by
  have hc0 := hb0.cell
  have hc2 := hb2.cell
  have hc5 : w.cell? ⟨g, 5, none⟩ = some (.int .i64 r.most) := (cellR hR.2.1 5).1
  clear hb0 hb2 hR
  generalize r.most = m at *
  have HD : Hid (decide ((m : Int) + 2 < (s.size : Int)) = decide (m + 2 < s.size)) := by show _ = _; by_cases h : m + 2 < s.size; rw [decide_eq_true h, decide_eq_true (by omega)]; rw [decide_eq_false h, decide_eq_false (by omega)]
  rw [← HD.out]
  have hw : IntKind.i64.wrap ((m : Int) + 2) = (m : Int) + 2 := IntWalk.i64_in _ (by omega)
  go_enter Try.func39, Try.ntmps39
  go_wp2
  go_quiet (fail)
  go_wp2
  go_ret
  exact ⟨rfl, _, rfl⟩
set_option maxHeartbeats 400000 in
theorem is3_any (s : ByteArray) (b2 : Nat) (w : World) (hb2 : Boxed w b2 9 (.string s)) :
    Calls Try.prog 40 #[.pointer (some ⟨b2, 0, none⟩)] w fun e w' => e = .returned (.bool (decide (s.size < 4))) ∧ w = w' := by
  have hc2 := hb2.cell
  clear hb2
  have HD : Hid (decide ((s.size : Int) < 4) = decide (s.size < 4)) := by show _ = _; by_cases h : s.size < 4; rw [decide_eq_true h, decide_eq_true (by omega)]; rw [decide_eq_false h, decide_eq_false (by omega)]
  rw [← HD.out]
  go_enter Try.func40, Try.ntmps40
  go_wp2
  go_ret
  exact ⟨rfl, rfl⟩
set_option maxHeartbeats 400000 in
theorem is4_any (s : ByteArray) (b2 : Nat) (w : World) (hs : s.size ≤ 1048576) (hb2 : Boxed w b2 9 (.string s)) :
    Calls Try.prog 41 #[.pointer (some ⟨b2, 0, none⟩)] w fun e w' => e = .returned (.bool (!good s.toList)) ∧ Below w.heap.size w w' := by
  have hc2 := hb2.cell
  clear hb2
  have Hs := Lib.hid hs; clear hs
  go_enter Try.func41, Try.ntmps41
  go_wp2_with fail
  refine (good_any s _ Hs.out).mono ?_
  rintro e w' ⟨rfl, hb⟩
  go_wp2
  go_ret
  exact ⟨rfl, hb⟩

theorem frame_text (a : Nat) (s P : ByteArray) (hP : bOf (put a (bOf (seal_ s.toList)).toList) = P) : (⟨#[126]⟩ ++ P : ByteArray) ++ ⟨#[126]⟩ = bOf (126 :: (put a (seal_ s.toList) ++ [126])) := by
  subst hP
  rw [show (⟨#[126]⟩ : ByteArray) = bOf [126] from rfl, append_bOf, append_bOf]
  simp only [toList_bOf]
  rfl
set_option maxHeartbeats 400000 in
theorem frame_any (s : ByteArray) (a : Nat) (w : World) (hs : s.size ≤ 65536) (ha : a < 4294967296) :
    Calls Try.prog 14 #[.string s, .int .u32 a] w fun e w' => e = .returned (.string (bOf (126 :: (put a (seal_ s.toList) ++ [126])))) ∧ Below w.heap.size w w' := by
  have Ha := Lib.hid ha; clear ha
  have HL : Hid ((bOf (seal_ s.toList)).size ≤ 1048576) := by show _ ≤ _; rw [size_bOf, seal_length, ← size_toList]; omega
  obtain ⟨P, hP⟩ : ∃ P, bOf (put a (bOf (seal_ s.toList)).toList) = P := ⟨_, rfl⟩
  have hPs : P.size ≤ 131080 := by
    have h1 := (put_le a (bOf (seal_ s.toList)).toList).2
    rw [toList_bOf, seal_length, ← size_toList] at h1
    rw [← hP, size_bOf, toList_bOf]
    omega
  have HP := Lib.hid hP
  have HE : Hid ((⟨#[126]⟩ ++ P : ByteArray) ++ ⟨#[126]⟩ = bOf (126 :: (put a (seal_ s.toList) ++ [126]))) := frame_text a s P hP
  clear hP
  rw [← HE.out]
  go_enter Try.func14, Try.ntmps14
  go_wp2_with fail
  refine (seal_any s _ (by omega)).mono ?_
  rintro e w1 ⟨rfl, hb1⟩
  go_wp2_with fail
  refine (put_any _ a _ Ha.out HL.out).mono ?_
  rw [HP.out]
  rintro e w2 ⟨rfl, hb2⟩
  go_wp2
  go_ret
  exact ⟨rfl, hb1.trans (hb2.mono hb1.size)⟩
set_option maxHeartbeats 400000 in
theorem rframe_any (s : ByteArray) (a : Nat) (w : World) (hs : s.size ≤ 65536) (ha : a < 4294967296) :
    Calls Try.prog 15 #[.string s, .int .u32 a] w fun e w' => e = .returned (.string (bOf (126 :: (put a (seal_ s.toList) ++ [126])))) ∧ Below w.heap.size w w' := by
  have Ha := Lib.hid ha; clear ha
  have HL : Hid ((bOf (seal_ s.toList)).size ≤ 1048576) := by show _ ≤ _; rw [size_bOf, seal_length, ← size_toList]; omega
  obtain ⟨P, hP⟩ : ∃ P, bOf (put a (bOf (seal_ s.toList)).toList) = P := ⟨_, rfl⟩
  have hPs : P.size ≤ 131080 := by
    have h1 := (put_le a (bOf (seal_ s.toList)).toList).2
    rw [toList_bOf, seal_length, ← size_toList] at h1
    rw [← hP, size_bOf, toList_bOf]
    omega
  have HP := Lib.hid hP
  have HE : Hid ((⟨#[126]⟩ ++ P : ByteArray) ++ ⟨#[126]⟩ = bOf (126 :: (put a (seal_ s.toList) ++ [126]))) := frame_text a s P hP
  clear hP
  rw [← HE.out]
  go_enter Try.func15, Try.ntmps15
  go_wp2_with fail
  refine (rseal_any s _ (by omega)).mono ?_
  rintro e w1 ⟨rfl, hb1⟩
  go_wp2_with fail
  refine (rput_any _ a _ Ha.out HL.out).mono ?_
  rw [HP.out]
  rintro e w2 ⟨rfl, hb2⟩
  go_wp2
  go_ret
  exact ⟨rfl, hb1.trans (hb2.mono hb1.size)⟩
end Go.Proofs.Ytfcmpnfdgfdclaa.Hdl
