/- Contracts of package md5's Sum: of a hash, of parts. -/
import Derived.Test.YtipcmkcllibnfaaDoorMd5K
namespace Go.Proofs.YtipcmkcllibnfaaDoor.Md5
open Go.RowKit Go.Proofs.YtipcmkcllibnfaaDoor.Oct Go.Proofs.YtipcmkcllibnfaaDoor.Row Go.Proofs.YtipcmkcllibnfaaDoor.Mem

set_option maxHeartbeats 400000 in
theorem sum_nil (w : World) : Calls Tryd.prog 32 #[.pointer none] w fun e w' => e = .returned (.string ByteArray.empty) ∧ w' = w := by
  go_enter Tryd.func32, Tryd.ntmps32
  go_wp2
  go_ret
  exact ⟨rfl, rfl⟩
set_option maxHeartbeats 1000000 in
theorem hsum_any (g : Nat) (t : List UInt8) (w : World) (hH : Hsh w g t) (hG : Globs w) (hz : t.length ≤ 1000000) :
    Calls Tryd.prog 32 #[.pointer (some ⟨g, 0, none⟩)] w fun e w' => e = .returned (.string (bOf (md5 t))) ∧ Below w.heap.size w w' := by
  have HH := Lib.hid hH
  have HG := Lib.hid hG
  clear hG
  obtain ⟨buf, hr, _⟩ := hH
  have hc := hr.size_
  clear hr
  have CT := Lib.hid (fun W => tail_any t.length W (by omega))
  have hps : (bOf (pad t.length)).size ≤ 72 := by rw [size_bOf]; exact (pad_fits t.length).2
  have HP : Hid ((bOf (pad t.length)).toList = pad t.length) := toList_bOf _
  have HE : Hid (md5 t = text4 (hs (t ++ pad t.length) ((t ++ pad t.length).length / 64))) := rfl
  obtain ⟨T, hT⟩ : ∃ T, bOf (pad t.length) = T := ⟨_, rfl⟩
  rw [hT] at CT hps HP
  clear hT
  rw [HE.out]
  go_enter Tryd.func32, Tryd.ntmps32
  go_wp2_with fail
  refine (copy_any g t _ HH.out).mono ?_
  rintro e w1 ⟨rfl, hH1, hb1, hs1⟩
  have hc1 := (hb1.cell (p := ⟨g, 68, none⟩) HH.out.lt).trans hc
  have HH1 := Lib.hid hH1
  have Hb1 := Lib.hid hb1
  clear hH1 hb1 hc
  go_wp2_with fail
  refine (CT.out _).mono ?_
  rintro e w2 ⟨rfl, hb2⟩
  have HH2 := Lib.hid (HH1.out.below hb2)
  have Hb2 := Lib.hid (Hb1.out.trans (hb2.mono Hb1.out.size))
  clear hb2
  go_wp2_with fail
  refine (write_any w.heap.size t T _ HH2.out (HG.out.below Hb2.out) (by omega)).mono ?_
  rw [HP.out]
  rintro e w3 ⟨rfl, hH3, hm3⟩
  have Hb3 : Hid (Below w.heap.size w w3) := Hb2.out.trans (hm3.below Hb2.out.size (fun k hk => by omega))
  obtain ⟨b3, hr3, _⟩ := hH3
  clear hm3
  go_wp2_with fail
  refine (text_any _ _ _ _ _ hr3 (hs_ok _ _)).mono ?_
  rintro e w4 ⟨rfl, hb4⟩
  go_wp2
  go_ret
  exact ⟨by rw [List.length_append]; rfl, Hb3.out.trans (hb4.mono Hb3.out.size)⟩

/-- Texts, one behind the other. -/
def cat : List ByteArray → List UInt8
  | [] => []
  | s :: l => s.toList ++ cat l
theorem cat_append (a b : List ByteArray) : cat (a ++ b) = cat a ++ cat b := by
  induction a with
  | nil => rfl
  | cons s a ih => simp [cat, ih]
theorem cat_one (s : ByteArray) : cat [s] = s.toList := by simp [cat]
theorem cat_snoc (l : List ByteArray) (k : Nat) (t : ByteArray) (h : l[k]? = some t) : cat (l.take (k + 1)) = cat (l.take k) ++ t.toList := by
  obtain ⟨hk, e⟩ := List.getElem?_eq_some_iff.1 h
  rw [List.take_succ_eq_append_getElem hk, cat_append, cat_one, e]
theorem cat_take_le (l : List ByteArray) (k : Nat) : (cat (l.take k)).length ≤ (cat l).length := by
  conv => rhs; rw [← List.take_append_drop k l, cat_append, List.length_append]
  omega
theorem cat_at_le (l : List ByteArray) (k : Nat) (t : ByteArray) (h : l[k]? = some t) : (cat (l.take k)).length + t.size ≤ (cat l).length := by
  have h1 := cat_take_le l (k + 1)
  rw [cat_snoc l k t h, List.length_append, ← size_toList] at h1
  exact h1
set_option maxHeartbeats 1000000 in
set_option maxRecDepth 100000 in
theorem sum_any (A : Option Addr) (n c : Nat) (l : List ByteArray) (w : World) (hn : n ≤ maxLen) (hl : Strs w w.heap.size A n l) (hG : Globs w) (hz : (cat l).length ≤ 1000000) :
    Calls Tryd.prog 20 #[.slice A n c] w fun e w' => e = .returned (.string (bOf (md5 (cat l)))) ∧ Below w.heap.size w w' := by
  have HL := Lib.hid hl; clear hl
  have HG := Lib.hid hG; clear hG
  unfold maxLen at hn
  go_enter Tryd.func20, Tryd.ntmps20
  go_wp2_with fail
  refine (new_any _).mono ?_
  rintro e w1 ⟨g, rfl, hg, hH1, hb1⟩
  have HH1 := Lib.hid hH1
  have Hb1 := Lib.hid hb1
  clear hH1 hb1
  go_wp2
  go_loopw [9] (fun i wr => ∃ k : Nat, k ≤ n ∧ i = .int .i64 k ∧ Hid (Hsh wr g (cat (l.take k))) ∧ Hid (Below w.heap.size w wr)) (fun i _ => n - (intOf i).toNat)
  case atStart => exact ⟨0, Nat.zero_le _, rfl, HH1.out, Hb1.out⟩
  case round =>
    obtain ⟨k, hk, rfl, HHk, Hbk⟩ := hrel
    by_cases hlt : k < n
    · obtain ⟨ad, t, rfl, hB, ht, htl, hc⟩ := (HL.out.below Hbk.out).at_ hlt
      have Ht := Lib.hid ht
      have Hle := Lib.hid (cat_at_le l k t ht)
      clear ht
      go_wp2_with fail
      refine (write_any g _ t _ HHk.out (HG.out.below Hbk.out) (by have := Hle.out; omega)).mono ?_
      rw [← cat_snoc l k t Ht.out]
      rintro e w3 ⟨rfl, hH3, hm3⟩
      have Hb3 : Hid (Below w.heap.size w w3) := Hbk.out.trans (hm3.below Hbk.out.size (fun j hj => by omega))
      have HH3 := Lib.hid hH3
      clear hH3 hm3
      go_wp2
      go_roundw
      case rel => exact ⟨k + 1, by omega, by go_num, HH3.out, Hb3.out⟩
      case measure => simp [intOf]; omega
    · obtain rfl : k = n := by omega
      have e : l.take k = l := List.take_of_length_le (by rw [HL.out.1]; exact Nat.le_refl _)
      rw [e] at HHk
      clear e
      go_wp2_with fail
      refine (hsum_any g _ _ HHk.out (HG.out.below Hbk.out) hz).mono ?_
      rintro e w3 ⟨rfl, hb3⟩
      go_wp2
      go_ret
      exact ⟨rfl, Hbk.out.trans (hb3.mono Hbk.out.size)⟩
end Go.Proofs.YtipcmkcllibnfaaDoor.Md5
