/- Contracts of the document's Text8 and Join8. -/
import Derived.Test.YthddfpmjjbpkgaaJoin8
import Derived.Test.YthddfpmjjbpkgaaRnum
namespace Go.Proofs.Ythddfpmjjbpkgaa.Oct
open Go.RowKit

theorem join_one_no (s : ByteArray) (h : 255 < s.size) : joinE [s] = 5 ∧ joinS [s] = bOf [] := join_no (k := 0) (t := s) rfl h
theorem join_one_yes (s : ByteArray) (h : s.size ≤ 255) : joinE [s] = 0 ∧ joinS [s] = bOf (numS s.size 1) ++ s := by
  have hj := join_yes (l := [s]) (fun u hu => by simp at hu; rw [hu, ← size_toList]; exact h)
  refine ⟨hj.1, ?_⟩
  rw [hj.2, append_bOf, toList_bOf]
  congr 1
  simp [jn8, numS]
  rw [← size_toList, Nat.mod_eq_of_lt (by omega)]

set_option maxHeartbeats 400000 in
set_option maxRecDepth 100000 in
theorem rtext8_any (s : ByteArray) (w : World) (hs : s.size ≤ maxLen) :
    Calls Try.prog 18 #[.string s] w fun e w' => e = .returned (.tuple #[.string (joinS [s]), .int .i64 (joinE [s])]) ∧ Below w.heap.size w w' := by
  unfold maxLen at hs
  by_cases h : 255 < (s.size : Int)
  · have hj := join_one_no s (by omega)
    rw [hj.1, hj.2]
    clear hj
    go_enter Try.func18, Try.ntmps18
    go_wp2
    go_ret2
    exact ⟨rfl, Below.refl _ _⟩
  · have hj := join_one_yes s (by omega)
    rw [hj.1, hj.2]
    clear hj
    have h2 : (bOf (numS s.size 1)).size ≤ 1 := by rw [size_bOf, numS_length]; exact Nat.le_refl _
    go_enter Try.func18, Try.ntmps18
    go_wp2_with (go_at_call 22; refine (rnum_any s.size 1 _ (by omega) (by omega)).mono ?_; rintro e w1 ⟨rfl, hb⟩)
    go_ret2
    exact ⟨rfl, hb⟩

theorem join_acc {l : List ByteArray} {k : Nat} {t : ByteArray} (h : l[k]? = some t) (ht : t.size ≤ 255) : bOf (jn8 (tk l k)) ++ joinS [t] = bOf (jn8 (tk l (k + 1))) := by
  have hj := join_yes (l := [t]) (fun u hu => by simp at hu; rw [hu, ← size_toList]; exact ht)
  rw [hj.2, append_bOf, toList_bOf, toList_bOf, tk_succ h, jn8_append]
  rfl

set_option maxHeartbeats 1000000 in
set_option maxRecDepth 100000 in
theorem rjoin8_any (A : Option Addr) (n c : Nat) (l : List ByteArray) (w : World) (hl : Strs w w.heap.size A n l) (hn : n ≤ 1000000) :
    Calls Try.prog 17 #[.slice A n c] w fun e w' => e = .returned (.tuple #[.string (joinS l), .int .i64 (joinE l)]) ∧ Below w.heap.size w w' := by
  have Hl := Lib.hid hl; clear hl
  go_enter Try.func17, Try.ntmps17
  go_wp2
  go_loopw [4, 5] (fun v i wr => ∃ (k : Nat), k ≤ n ∧ i = .int .i64 k ∧ v = .string (bOf (jn8 (tk l k))) ∧ Hid (ok8 (tk l k)) ∧ Below w.heap.size w wr)
    (fun _ i _ => n - (intOf i).toNat)
  case atStart => exact ⟨0, Nat.zero_le _, rfl, rfl, fun _ h => by simp [tk] at h, Below.refl _ _⟩
  case round =>
    obtain ⟨k, hk, rfl, rfl, Hok, hb⟩ := hrel
    by_cases hlt : k < n
    · obtain ⟨ad, t, rfl, hB, ht, htl, hc⟩ := (Hl.out.below hb).at_ hlt
      have Ht := Lib.hid ht; clear ht
      have Htl := Lib.hid htl
      have hsize := hb.size
      have hm : (bOf (jn8 (tk l k))).size ≤ 256 * k := by
        have h1 := jn8_len _ Hok.out
        have h2 : (tk l k).length ≤ k := by simp [tk]; omega
        rw [size_bOf]
        omega
      unfold maxLen at htl
      by_cases h255 : 255 < t.size
      · have Hj := Lib.hid (join_one_no t h255)
        go_wp2_with fail
        refine (rtext8_any t _ Htl.out).mono ?_
        rw [Hj.out.1, Hj.out.2]
        rintro e w1 ⟨rfl, hb1⟩
        go_wp2
        go_ret2
        have hj := join_no Ht.out h255
        rw [hj.1, hj.2]
        exact ⟨rfl, hb.trans (hb1.mono hsize)⟩
      · have Hj := Lib.hid (join_one_yes t (by omega))
        have Ha := Lib.hid (join_acc Ht.out (by omega))
        have hz : (joinS [t]).size ≤ 256 := by rw [Hj.out.2, append_bOf, size_bOf, List.length_append, toList_bOf, numS_length, ← size_toList]; omega
        go_wp2_with fail
        refine (rtext8_any t _ Htl.out).mono ?_
        rw [Hj.out.1]
        rintro e w1 ⟨rfl, hb1⟩
        go_wp2
        have hst := join_step Ht.out (by omega)
        go_roundw
        case rel => exact ⟨k + 1, by omega, by go_num, by rw [Ha.out], hst.2.2 Hok.out, hb.trans (hb1.mono hsize)⟩
        case measure => simp [intOf]; omega
    · obtain rfl : k = n := by omega
      go_wp2
      go_ret2
      have hk' := Hl.out.1
      have hok := Hok.out
      rw [← hk', tk_all] at hok ⊢
      have hj := join_yes hok
      rw [hj.1, hj.2]
      exact ⟨rfl, hb⟩
end Go.Proofs.Ythddfpmjjbpkgaa.Oct
