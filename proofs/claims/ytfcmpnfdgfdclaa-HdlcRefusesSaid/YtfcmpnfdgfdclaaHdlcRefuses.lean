/- PROVED: 'halyardlaw04.HdlcRefuses' returns true for every information, every map, every most, and wherever the frame is aborted, and leaves them as they were. No condition. -/
import Derived.Test.YtfcmpnfdgfdclaaHdlM
import Derived.Test.YtfcmpnfdgfdclaaLaw
import Derived.Test.YtfcmpnfdgfdclaaRows
namespace Go.Proofs.Ytfcmpnfdgfdclaa.HdlcRefuses
open Go.ChangeShapes Go.WideShapes Go.ChangeAt Go.RowKit Go.Proofs.Ytfcmpnfdgfdclaa.Oct Go.Proofs.Ytfcmpnfdgfdclaa.Row Go.Proofs.Ytfcmpnfdgfdclaa.Esc Go.Proofs.Ytfcmpnfdgfdclaa.Fcs Go.Proofs.Ytfcmpnfdgfdclaa.Hdl Go.Proofs.Ytfcmpnfdgfdclaa.Law
open Go.ChangeMaps (open_string shut_string)

set_option maxHeartbeats 8000000 in
set_option maxRecDepth 100000 in
theorem walk (s : ByteArray) (a m ct : Nat) (hs : s.size ≤ maxLen) (ha : a < 4294967296) (hm : m < 65536) (hct : ct < 65536) (w : World) :
    Calls Try.prog 6 #[.string s, .int .u32 a, .int .u16 m, .int .u16 ct] w fun e w' => e = .returned (.bool true) ∧ Below w.heap.size w w' := by
  unfold maxLen at hs
  have Ha := Lib.hid ha; clear ha
  by_cases h : 3000 < (s.size : Int)
  · go_enter Try.func6, Try.ntmps6
    go_wp2_with fail
    refine (alive_any _).mono ?_
    rintro e w1 ⟨rfl, hb1⟩
    go_wp2
    go_ret
    exact ⟨rfl, hb1⟩
  · have hs4 : s.size ≤ 3000 := by omega
    obtain ⟨M, hM⟩ : ∃ M : Nat, 2 + m % 1507 = M := ⟨_, rfl⟩
    have HM : Hid (2 + (m : Int) % 1507 = (M : Int)) := by show _ = _; omega
    have hM1 : 2 ≤ M := by omega
    have hM2 : M ≤ 1508 := by omega
    clear hM
    have HI0 := Lib.hid (fresh_inv hM1 hM2 Ha.out)
    have HS0 := Lib.hid (fresh_small M a)
    have HFW := Lib.hid (frame_whole (r := fresh M a) rfl s.toList)
    rw [show (fresh M a).accm = a from rfl, show (fresh M a).most = M from rfl, ← size_toList] at HFW
    obtain ⟨Fr, hFr⟩ : ∃ Fr, bOf (126 :: (put a (seal_ s.toList) ++ [126])) = Fr := ⟨_, rfl⟩
    have HFl : Hid (Fr.toList = 126 :: (put a (seal_ s.toList) ++ [126])) := by show _ = _; rw [← hFr, toList_bOf]
    rw [← HFl.out] at HFW
    obtain ⟨d, hd⟩ : ∃ d, (put a (seal_ s.toList)).length + 1 = d := ⟨_, rfl⟩
    have hFd : Fr.size = d + 1 := by rw [← hFr, size_bOf, ← hd]; simp
    have hFd2 : 3 ≤ d ∧ d ≤ 6005 := by
      have h1 := put_le a (seal_ s.toList)
      rw [seal_length, ← size_toList] at h1
      omega
    have hF3 : 4 ≤ Fr.size := by omega
    have hF4 : Fr.size ≤ 6006 := by omega
    have HFr := Lib.hid hFr; clear hFr
    have Hd := Lib.hid hd; clear hd
    have hE1 : ((Fr.size : Int) - 1) = (d : Int) := by omega
    have HFd := Lib.hid hFd; clear hFd
    obtain ⟨tt, htt⟩ : ∃ tt, ct % d = tt := ⟨_, rfl⟩
    have htd : tt < d := by rw [← htt]; exact Nat.mod_lt _ (by omega)
    have hE2 : ((ct : Int) % (d : Int)) = (tt : Int) := by rw [← htt]; simp
    clear htt
    go_enter Try.func6, Try.ntmps6
    go_wp2_with fail
    rw [HM.out]
    refine (new_yes M a _ hM1 hM2).mono ?_
    rintro e w1 ⟨rfl, hR1, hb1, hy1⟩
    have HR1 := Lib.hid hR1; clear hR1
    have Hb1 := Lib.hid hb1; clear hb1
    have Hy1 := Lib.hid hy1; clear hy1
    go_wp2_with fail
    refine (frame_any s a _ (by omega) Ha.out).mono ?_
    rw [HFr.out]
    rintro e w2 ⟨rfl, hb2⟩
    have hW2 : w2.heap[w1.heap.size]? = some (.cells #[.int .i64 0, .int .i64 0, .int .i64 0, .int .i64 0, .int .i64 0] 32 (0, 0)) := (hb2.block _ (by simp)).trans (World.alloc_heap_new w1 _)
    have hB12 : Below w1.heap.size w1 w2 := ((Below.refl _ w1).alloc (Nat.le_refl _) _).trans (hb2.mono (by simp))
    have HR2 := Lib.hid (HR1.out.below hB12)
    have Hb2 := Lib.hid (Hb1.out.trans (hB12.mono Hb1.out.size)); clear hb2 hB12
    rw [Hy1.out] at hW2 ⊢
    have HW2 := Lib.hid hW2; clear hW2
    clear HR1 Hb1
    go_wp2_with fail
    refine (push_q _ _ _ _ Fr _ HR2.out HI0.out 0 HS0.out (by omega) (by omega)).mono ?_
    rintro e w3 ⟨A3, c3, v3, rfl, hT3, hR3, hM3, _⟩
    have hW3 : w3.heap[w.heap.size + 1]? = some (.cells #[.int .i64 0, .int .i64 0, .int .i64 0, .int .i64 0, .int .i64 0] 32 (0, 0)) := (hM3.block _ ((Array.getElem?_eq_some_iff.1 HW2.out).1) (by rintro (h | h); omega; cases h)).trans HW2.out
    have HB3 := Lib.hid (Hb2.out.trans (hM3.below Hb2.out.size fun k hk => (HR2.out.low k hk).1)); clear hM3
    have HW3 := Lib.hid hW3
    have hz3 := (Array.getElem?_eq_some_iff.1 hW3).1
    have b0 : w3.cell? ⟨w.heap.size + 1, 0, none⟩ = some (.int .i64 0) := (cellR hW3 0).1
    have b1 : w3.cell? ⟨w.heap.size + 1, 1, none⟩ = some (.int .i64 0) := (cellR hW3 1).1
    have b2 : w3.cell? ⟨w.heap.size + 1, 2, none⟩ = some (.int .i64 0) := (cellR hW3 2).1
    have b3 : w3.cell? ⟨w.heap.size + 1, 3, none⟩ = some (.int .i64 0) := (cellR hW3 3).1
    have b4 : w3.cell? ⟨w.heap.size + 1, 4, none⟩ = some (.int .i64 0) := (cellR hW3 4).1
    have f0 := (cellR hW3 0).2
    have f2 := (cellR hW3 2).2
    have f3 := (cellR hW3 3).2
    clear hW3 HW2 HR2 Hb2 HI0 HS0
    have HF1 := Lib.hid HFW.out.1
    have HF2 := Lib.hid HFW.out.2
    clear HFW
    rw [HF2.out] at hT3 ⊢
    rw [HF1.out] at hR3
    have HR3 := Lib.hid hR3; clear hR3
    have HT3 := Lib.hid hT3; clear hT3 HF1 HF2
    by_cases hlong : M < s.size
    · rw [if_pos hlong] at HR3
      rw [if_pos hlong] at HT3 ⊢
      have hl' : (M : Int) < (s.size : Int) := by omega
      go_wp2_with fail
      obtain ⟨W4, hW4⟩ : ∃ W, w3.setCell ⟨w.heap.size + 1, 2, none⟩ (.int .i64 1) = W := ⟨_, rfl⟩
      rw [hW4]
      have HWb : Hid (W4.heap[w.heap.size + 1]? = some (.cells #[.int .i64 0, .int .i64 0, .int .i64 1, .int .i64 0, .int .i64 0] 32 (0, 0))) := by show _ = _; rw [← hW4]; exact cells_set HW3.out (.int .i64 1)
      have hM4 : Moves (fun k => k = w.heap.size + 1) w3 W4 := by rw [← hW4]; exact (Moves.refl (fun k => k = w.heap.size + 1) w3).setCell ⟨w.heap.size + 1, 2, none⟩ (fun _ => rfl) _
      have HR4 := Lib.hid (HR3.out.stays hM4 (fun k hk e => by subst e; rcases hk with h | h; omega; exact cells_not_row HW3.out (by decide) HR3.out.2.2 h))
      have HB4 := Lib.hid (HB3.out.trans (hM4.below HB3.out.size (fun k hk => by omega)))
      clear hM4 hW4 HW3 HR3 HB3 HT3 b0 b1 b2 b3 b4 f0 f2 f3 hz3
      have HV : Hid (heardV ((fresh M a).bump 2).ends = .agg #[.int .i64 0, .int .i64 0, .int .i64 1, .int .i64 0, .int .i64 0]) := rfl
      have HBeg : Hid (((fresh M a).bump 2).ends.begun = true ∧ ((fresh M a).bump 2).ends.piece = [] ∧ ((fresh M a).bump 2).ends.most = M ∧ ((fresh M a).bump 2).ends.accm = a) := ⟨rfl, rfl, rfl, rfl⟩
      have HV2 : Hid (heardV (((((fresh M a).bump 2).ends.bump 1).ends.bump 0).ends) = .agg #[.int .i64 1, .int .i64 1, .int .i64 1, .int .i64 0, .int .i64 0]) := rfl
      have HSm : Hid (Small ((fresh M a).bump 2).ends 1) := (bump_small (fresh_small M a) 2 : Small ((fresh M a).bump 2) (0 + 1))
      have HIn : Hid (Hdl.Inv ((fresh M a).bump 2).ends) := ⟨by simp [St.ends], (fun h => by cases h), hM1, hM2, Ha.out⟩
      generalize ((fresh M a).bump 2).ends = r1 at *
      have b0 : W4.cell? ⟨w.heap.size + 1, 0, none⟩ = some (.int .i64 0) := (cellR HWb.out 0).1
      have b1 : W4.cell? ⟨w.heap.size + 1, 1, none⟩ = some (.int .i64 0) := (cellR HWb.out 1).1
      have b2 : W4.cell? ⟨w.heap.size + 1, 2, none⟩ = some (.int .i64 1) := (cellR HWb.out 2).1
      have b3 : W4.cell? ⟨w.heap.size + 1, 3, none⟩ = some (.int .i64 0) := (cellR HWb.out 3).1
      have b4 : W4.cell? ⟨w.heap.size + 1, 4, none⟩ = some (.int .i64 0) := (cellR HWb.out 4).1
      have hz4 := (Array.getElem?_eq_some_iff.1 HWb.out).1
      go_region_held3 (fun w' => w'.cell? ⟨w.heap.size + 1, 0, none⟩ = some (.int .i64 0) ∧ w'.cell? ⟨w.heap.size + 1, 1, none⟩ = some (.int .i64 0) ∧ w'.cell? ⟨w.heap.size + 1, 2, none⟩ = some (.int .i64 1) ∧ w'.cell? ⟨w.heap.size + 1, 3, none⟩ = some (.int .i64 0) ∧ w'.cell? ⟨w.heap.size + 1, 4, none⟩ = some (.int .i64 0))
        (first | exact ⟨b0, b1, b2, b3, b4⟩ | exact ⟨d0, d1, d2, d3, d4⟩)
        (first
          | (go_at_call 11; (refine (heard_any w.heap.size w.heap.size r1 v3 _ (by exact HR4.out)).mono ?_; rw [HV.out]; rintro e w5 ⟨rfl, hb5⟩; have HR5 : Hid (Recv w5 w.heap.size w.heap.size r1 v3) := Recv.below (w := W4) HR4.out ⟨hb5.os, hb5.tape, hb5.output, hb5.size, hb5.block⟩; have HB5 : Hid (Below w.heap.size w w5) := HB4.out.trans ⟨hb5.os, hb5.tape, hb5.output, hb5.size, fun k hk => hb5.block k (Nat.lt_of_lt_of_le hk HB4.out.size)⟩; have HWb5 : Hid (w5.heap[w.heap.size + 1]? = some (.cells #[.int .i64 0, .int .i64 0, .int .i64 1, .int .i64 0, .int .i64 0] 32 (0, 0))) := (hb5.block _ hz4).trans HWb.out; clear hb5; have d0 : w5.cell? ⟨w.heap.size + 1, 0, none⟩ = some (.int .i64 0) := (cellR HWb5.out 0).1; have d1 : w5.cell? ⟨w.heap.size + 1, 1, none⟩ = some (.int .i64 0) := (cellR HWb5.out 1).1; have d2 : w5.cell? ⟨w.heap.size + 1, 2, none⟩ = some (.int .i64 1) := (cellR HWb5.out 2).1; have d3 : w5.cell? ⟨w.heap.size + 1, 3, none⟩ = some (.int .i64 0) := (cellR HWb5.out 3).1; have d4 : w5.cell? ⟨w.heap.size + 1, 4, none⟩ = some (.int .i64 0) := (cellR HWb5.out 4).1)))
      clear b0 b1 b2 b3 b4 hz4 HWb HR4 HB4 HV
      have hz5 := (Array.getElem?_eq_some_iff.1 HWb5.out).1
      clear d0 d1 d2 d3 d4
      go_wp2_with fail
      refine (frame_any s a _ (by omega) Ha.out).mono ?_
      rw [HFr.out]
      rintro e w6 ⟨rfl, hb6⟩
      have HR6 := Lib.hid (HR5.out.below hb6)
      have HB6 := Lib.hid (HB5.out.trans (hb6.mono HB5.out.size))
      have HWb6 := Lib.hid ((hb6.block _ hz5).trans HWb5.out)
      clear hb6 HR5 HB5 HWb5 hz5
      have htF : tt < Fr.size := by omega
      obtain ⟨x, hx⟩ : ∃ x, Fr[tt] = x := ⟨_, rfl⟩
      have hE3 : decide ((d : Int) < 1 + (tt : Int)) = false := decide_eq_false (by omega)
      by_cases hx5 : x = 125
      · have e125 : ((x.toNat : Int) == 125) = true := by rw [hx5]; rfl
        go_wp2_with fail
        refine (alive_any _).mono ?_
        rintro e w7 ⟨rfl, hb7⟩
        go_wp2
        go_ret
        exact ⟨rfl, HB6.out.trans (hb7.mono HB6.out.size)⟩
      · have e125 : ((x.toNat : Int) == 125) = false := no_int x 125 (by omega) hx5
        clear hx5
        have HAN : Hid (_ ∧ _) := abort_next HBeg.out.1 HBeg.out.2.1 (by rw [HBeg.out.2.2.1]; exact hM1) s.toList (1 + tt) (by omega) (by rw [HBeg.out.2.2.2]; have := Hd.out; omega)
        rw [HBeg.out.2.2.2, ← HFl.out] at HAN
        obtain ⟨G, hG⟩ : ∃ G, bOf (126 :: (put a (seal_ (⟨#[111, 107]⟩ : ByteArray).toList) ++ [126])) = G := ⟨_, rfl⟩
        have HGl : Hid (G.toList = 126 :: (put a (seal_ [111, 107]) ++ [126])) := by show _ = _; rw [← hG, toList_bOf, toList_ok]
        have hGs : G.size ≤ 10 := by
          rw [size_toList, HGl.out]
          have h1 := (put_le a (seal_ [111, 107])).2
          rw [seal_length] at h1
          simp at h1 ⊢
          omega
        have HG := Lib.hid hG; clear hG
        rw [← HGl.out] at HAN
        have HTx := Lib.hid (abort_text Fr G Fr.toList G.toList (1 + tt) rfl rfl)
        rw [← HTx.out] at HAN
        obtain ⟨Y, hY⟩ : ∃ Y, Fr.extract 0 (1 + tt) = Y := ⟨_, rfl⟩
        have hYs : Y.size ≤ 6006 := by rw [← hY, ByteArray.size_extract]; omega
        rw [hY] at HAN
        obtain ⟨Z, hZ⟩ : ∃ Z, Y ++ (⟨#[125, 126]⟩ : ByteArray) = Z := ⟨_, rfl⟩
        have hZs : Z.size ≤ 6010 := by rw [← hZ, ByteArray.size_append]; have : (⟨#[125, 126]⟩ : ByteArray).size = 2 := rfl; omega
        rw [hZ] at HAN
        obtain ⟨X, hX⟩ : ∃ X, Z ++ G = X := ⟨_, rfl⟩
        have hXs : X.size ≤ 7000 := by rw [← hX, ByteArray.size_append]; omega
        rw [hX] at HAN
        have hL1 : ¬ 9223372036854775807 < Y.size + 2 := by omega
        have hL2 : ¬ 9223372036854775805 < Y.size := by omega
        have hL3 : ¬ 9223372036854775807 < Z.size + G.size := by omega
        have HY := Lib.hid hY; clear hY
        have HZ := Lib.hid hZ; clear hZ
        have HX := Lib.hid hX; clear hX
        go_wp2_with fail
        have hE4 : (1 + (tt : Int)).toNat = 1 + tt := by omega
        have hE5 : (0 : Int) ≤ 1 + (tt : Int) := by omega
        have hE6 : 1 + (tt : Int) ≤ (Fr.size : Int) := by omega
        have hY := HY.out
        have hZ := HZ.out
        have hX := HX.out
        have hz6 := (Array.getElem?_eq_some_iff.1 HWb6.out).1
        go_region_held3 (fun _ => True) (trivial)
          (first
            | (go_at_call 14; (refine (frame_any ⟨#[111, 107]⟩ a _ (by decide) Ha.out).mono ?_; rw [HG.out]; rintro e w7 ⟨rfl, hb7⟩; have HR7 : Hid (Recv w7 w.heap.size w.heap.size r1 v3) := Recv.below (w := w6) HR6.out ⟨hb7.os, hb7.tape, hb7.output, hb7.size, hb7.block⟩; have HB7 : Hid (Below w.heap.size w w7) := HB6.out.trans ⟨hb7.os, hb7.tape, hb7.output, hb7.size, fun k hk => hb7.block k (Nat.lt_of_lt_of_le hk HB6.out.size)⟩; have HWb7 : Hid (w7.heap[w.heap.size + 1]? = some (.cells #[.int .i64 0, .int .i64 0, .int .i64 1, .int .i64 0, .int .i64 0] 32 (0, 0))) := (hb7.block _ hz6).trans HWb6.out; clear hb7))
            | (go_at_call 9; (refine (push_q w.heap.size w.heap.size r1 v3 X _ (by exact HR7.out) HIn.out 1 HSm.out (by omega) (by omega)).mono ?_; rintro e w8 ⟨A8, c8, v8, rfl, hT8, hR8, hM8, _⟩; rw [HAN.out.2] at hT8 ⊢; rw [HAN.out.1] at hR8)))
        clear hX hY hZ hE4 hE5 hE6
        have hM8' : Moves (Foot w.heap.size v3) w7 w8 := hM8
        have hz7 := (Array.getElem?_eq_some_iff.1 HWb7.out).1
        have HWb8 : Hid (w8.heap[w.heap.size + 1]? = some (.cells #[.int .i64 0, .int .i64 0, .int .i64 1, .int .i64 0, .int .i64 0] 32 (0, 0))) := (hM8'.block _ hz7 (by rintro (h | h); omega; exact cells_not_row HWb7.out (by decide) HR7.out.2.2 h)).trans HWb7.out
        have HB8 := Lib.hid (HB7.out.trans (hM8'.below HB7.out.size fun k hk => (HR7.out.low k hk).1))
        have HR8 := Lib.hid hR8
        have HT8 : Hid (Texts w8 w.heap.size (.slice A8 1 c8) [bOf [111, 107]]) := Texts.lower hT8 HB7.out.size
        clear hM8 hM8' hR8 hT8
        have hz8 := (Array.getElem?_eq_some_iff.1 HWb8.out).1
        have b0 : w8.cell? ⟨w.heap.size + 1, 0, none⟩ = some (.int .i64 0) := (cellR HWb8.out 0).1
        have b1 : w8.cell? ⟨w.heap.size + 1, 1, none⟩ = some (.int .i64 0) := (cellR HWb8.out 1).1
        have f0 := (cellR HWb8.out 0).2
        have f1 := (cellR HWb8.out 1).2
        go_wp2_with fail
        obtain ⟨W9, hW9⟩ : ∃ W, (w8.setCell ⟨w.heap.size + 1, 1, none⟩ (.int .i64 1)).setCell ⟨w.heap.size + 1, 0, none⟩ (.int .i64 1) = W := ⟨_, rfl⟩
        rw [hW9]
        have HWb9 : Hid (W9.heap[w.heap.size + 1]? = some (.cells #[.int .i64 1, .int .i64 1, .int .i64 1, .int .i64 0, .int .i64 0] 32 (0, 0))) := by show _ = _; rw [← hW9]; exact cells_set (cells_set HWb8.out (.int .i64 1)) (.int .i64 1)
        have hM9 : Moves (fun k => k = w.heap.size + 1) w8 W9 := by rw [← hW9]; exact ((Moves.refl (fun k => k = w.heap.size + 1) w8).setCell ⟨w.heap.size + 1, 1, none⟩ (fun _ => rfl) _).setCell ⟨w.heap.size + 1, 0, none⟩ (fun _ => rfl) _
        have HR9 := Lib.hid (HR8.out.stays hM9 (fun k hk e => by subst e; rcases hk with h | h; omega; exact cells_not_row HWb8.out (by decide) HR8.out.2.2 h))
        have hT9 : Texts W9 w.heap.size (.slice A8 1 c8) [bOf [111, 107]] := hM9.row HT8.out (fun k hk e => by subst e; exact cells_not_row HWb8.out (by decide) HT8.out hk)
        have HB9 := Lib.hid (HB8.out.trans (hM9.below HB8.out.size (fun k hk => by omega)))
        clear hM9 hW9 HWb8 HR8 HB8 HT8 b0 b1 f0 f1 hz8
        have hz9 := (Array.getElem?_eq_some_iff.1 HWb9.out).1
        have hA9 : Below W9.heap.size W9 (W9.alloc (.cells #[.string ⟨#[111, 107]⟩] 9)) := (Below.refl _ _).alloc (Nat.le_refl _) _
        have HSa : Hid (Strs (W9.alloc (.cells #[.string ⟨#[111, 107]⟩] 9)) (W9.alloc (.cells #[.string ⟨#[111, 107]⟩] 9)).heap.size A8 1 [bOf [111, 107]]) := ((hT9.strs (by intro u hu; rw [List.mem_singleton.1 hu]; decide)).below hA9).more hA9.size
        have HSb : Hid (Strs (W9.alloc (.cells #[.string ⟨#[111, 107]⟩] 9)) (W9.alloc (.cells #[.string ⟨#[111, 107]⟩] 9)).heap.size (some ⟨W9.heap.size, 0, none⟩) 1 [bOf [111, 107]]) := strs_one W9 ⟨#[111, 107]⟩ _ (by decide)
        have HWbA := Lib.hid ((hA9.block _ hz9).trans HWb9.out)
        have HRA := Lib.hid (HR9.out.below hA9)
        have HBA := Lib.hid (HB9.out.trans (hA9.mono HB9.out.size))
        have hzA : w.heap.size + 1 < (W9.alloc (.cells #[.string ⟨#[111, 107]⟩] 9)).heap.size := Nat.lt_of_lt_of_le hz9 hA9.size
        clear hT9 hA9
        have b0 : W9.cell? ⟨w.heap.size + 1, 0, none⟩ = some (.int .i64 1) := (cellR HWb9.out 0).1
        have b1 : W9.cell? ⟨w.heap.size + 1, 1, none⟩ = some (.int .i64 1) := (cellR HWb9.out 1).1
        have b2 : W9.cell? ⟨w.heap.size + 1, 2, none⟩ = some (.int .i64 1) := (cellR HWb9.out 2).1
        have b3 : W9.cell? ⟨w.heap.size + 1, 3, none⟩ = some (.int .i64 0) := (cellR HWb9.out 3).1
        have b4 : W9.cell? ⟨w.heap.size + 1, 4, none⟩ = some (.int .i64 0) := (cellR HWb9.out 4).1
        have q0 : (W9.alloc (.cells #[.string ⟨#[111, 107]⟩] 9)).cell? ⟨w.heap.size + 1, 0, none⟩ = some (.int .i64 1) := (cellR HWbA.out 0).1
        have q1 : (W9.alloc (.cells #[.string ⟨#[111, 107]⟩] 9)).cell? ⟨w.heap.size + 1, 1, none⟩ = some (.int .i64 1) := (cellR HWbA.out 1).1
        have q2 : (W9.alloc (.cells #[.string ⟨#[111, 107]⟩] 9)).cell? ⟨w.heap.size + 1, 2, none⟩ = some (.int .i64 1) := (cellR HWbA.out 2).1
        have q3 : (W9.alloc (.cells #[.string ⟨#[111, 107]⟩] 9)).cell? ⟨w.heap.size + 1, 3, none⟩ = some (.int .i64 0) := (cellR HWbA.out 3).1
        have q4 : (W9.alloc (.cells #[.string ⟨#[111, 107]⟩] 9)).cell? ⟨w.heap.size + 1, 4, none⟩ = some (.int .i64 0) := (cellR HWbA.out 4).1
        go_region_held3 (fun w' => w'.cell? ⟨w.heap.size + 1, 0, none⟩ = some (.int .i64 1) ∧ w'.cell? ⟨w.heap.size + 1, 1, none⟩ = some (.int .i64 1) ∧ w'.cell? ⟨w.heap.size + 1, 2, none⟩ = some (.int .i64 1) ∧ w'.cell? ⟨w.heap.size + 1, 3, none⟩ = some (.int .i64 0) ∧ w'.cell? ⟨w.heap.size + 1, 4, none⟩ = some (.int .i64 0))
          (first | exact ⟨b0, b1, b2, b3, b4⟩ | exact ⟨q0, q1, q2, q3, q4⟩ | exact ⟨d0, d1, d2, d3, d4⟩ | exact ⟨k0, k1, k2, k3, k4⟩ | exact ⟨l0, l1, l2, l3, l4⟩)
          (first
            | (go_at_call 18; (refine (same_q A8 (some ⟨W9.heap.size, 0, none⟩) 1 1 c8 1 [bOf [111, 107]] [bOf [111, 107]] _ true (by decide) (by exact HSa.out) (by exact HSb.out) (decide_eq_true rfl)).mono ?_; rintro e wB ⟨rfl, hbB⟩; have HRB : Hid (Recv wB w.heap.size w.heap.size (((r1.bump 1).ends.bump 0).ends) v8) := Recv.below (w := W9.alloc (.cells #[.string ⟨#[111, 107]⟩] 9)) HRA.out ⟨hbB.os, hbB.tape, hbB.output, hbB.size, hbB.block⟩; have HBB : Hid (Below w.heap.size w wB) := HBA.out.trans ⟨hbB.os, hbB.tape, hbB.output, hbB.size, fun k hk => hbB.block k (Nat.lt_of_lt_of_le hk HBA.out.size)⟩; have HWbB : Hid (wB.heap[w.heap.size + 1]? = some (.cells #[.int .i64 1, .int .i64 1, .int .i64 1, .int .i64 0, .int .i64 0] 32 (0, 0))) := (hbB.block _ hzA).trans HWbA.out; clear hbB; have hzB := (Array.getElem?_eq_some_iff.1 HWbB.out).1; have d0 : wB.cell? ⟨w.heap.size + 1, 0, none⟩ = some (.int .i64 1) := (cellR HWbB.out 0).1; have d1 : wB.cell? ⟨w.heap.size + 1, 1, none⟩ = some (.int .i64 1) := (cellR HWbB.out 1).1; have d2 : wB.cell? ⟨w.heap.size + 1, 2, none⟩ = some (.int .i64 1) := (cellR HWbB.out 2).1; have d3 : wB.cell? ⟨w.heap.size + 1, 3, none⟩ = some (.int .i64 0) := (cellR HWbB.out 3).1; have d4 : wB.cell? ⟨w.heap.size + 1, 4, none⟩ = some (.int .i64 0) := (cellR HWbB.out 4).1))
            | (go_at_call 11; (refine (heard_any w.heap.size w.heap.size (((r1.bump 1).ends.bump 0).ends) v8 _ (by exact HRB.out)).mono ?_; rw [HV2.out]; rintro e wC ⟨rfl, hbC⟩; have HBC : Hid (Below w.heap.size w wC) := HBB.out.trans ⟨hbC.os, hbC.tape, hbC.output, hbC.size, fun k hk => hbC.block k (Nat.lt_of_lt_of_le hk HBB.out.size)⟩; have HWbC : Hid (wC.heap[w.heap.size + 1]? = some (.cells #[.int .i64 1, .int .i64 1, .int .i64 1, .int .i64 0, .int .i64 0] 32 (0, 0))) := (hbC.block _ hzB).trans HWbB.out; clear hbC; have hzC := (Array.getElem?_eq_some_iff.1 HWbC.out).1; have k0 : wC.cell? ⟨w.heap.size + 1, 0, none⟩ = some (.int .i64 1) := (cellR HWbC.out 0).1; have k1 : wC.cell? ⟨w.heap.size + 1, 1, none⟩ = some (.int .i64 1) := (cellR HWbC.out 1).1; have k2 : wC.cell? ⟨w.heap.size + 1, 2, none⟩ = some (.int .i64 1) := (cellR HWbC.out 2).1; have k3 : wC.cell? ⟨w.heap.size + 1, 3, none⟩ = some (.int .i64 0) := (cellR HWbC.out 3).1; have k4 : wC.cell? ⟨w.heap.size + 1, 4, none⟩ = some (.int .i64 0) := (cellR HWbC.out 4).1))
            | (go_at_call 8; (refine (alive_any _).mono ?_; rintro e wD ⟨rfl, hbD⟩; have HBD : Hid (Below w.heap.size w wD) := HBC.out.trans ⟨hbD.os, hbD.tape, hbD.output, hbD.size, fun k hk => hbD.block k (Nat.lt_of_lt_of_le hk HBC.out.size)⟩; have HWbD : Hid (wD.heap[w.heap.size + 1]? = some (.cells #[.int .i64 1, .int .i64 1, .int .i64 1, .int .i64 0, .int .i64 0] 32 (0, 0))) := (hbD.block _ hzC).trans HWbC.out; clear hbD; have l0 : wD.cell? ⟨w.heap.size + 1, 0, none⟩ = some (.int .i64 1) := (cellR HWbD.out 0).1; have l1 : wD.cell? ⟨w.heap.size + 1, 1, none⟩ = some (.int .i64 1) := (cellR HWbD.out 1).1; have l2 : wD.cell? ⟨w.heap.size + 1, 2, none⟩ = some (.int .i64 1) := (cellR HWbD.out 2).1; have l3 : wD.cell? ⟨w.heap.size + 1, 3, none⟩ = some (.int .i64 0) := (cellR HWbD.out 3).1; have l4 : wD.cell? ⟨w.heap.size + 1, 4, none⟩ = some (.int .i64 0) := (cellR HWbD.out 4).1)))
        all_goals
          go_wp2_with fail
          go_ret
          exact ⟨rfl, HBD.out⟩
    · rw [if_neg hlong] at HR3
      rw [if_neg hlong] at HT3 ⊢
      have hl' : ¬ (M : Int) < (s.size : Int) := by omega
      by_cases hshort : s.size < 2
      · rw [if_pos hshort] at HR3
        rw [if_pos hshort] at HT3 ⊢
        have hl2 : (s.size : Int) < 2 := by omega
        go_wp2_with fail
        obtain ⟨W4, hW4⟩ : ∃ W, w3.setCell ⟨w.heap.size + 1, 3, none⟩ (.int .i64 1) = W := ⟨_, rfl⟩
        rw [hW4]
        have HWb : Hid (W4.heap[w.heap.size + 1]? = some (.cells #[.int .i64 0, .int .i64 0, .int .i64 0, .int .i64 1, .int .i64 0] 32 (0, 0))) := by show _ = _; rw [← hW4]; exact cells_set HW3.out (.int .i64 1)
        have hM4 : Moves (fun k => k = w.heap.size + 1) w3 W4 := by rw [← hW4]; exact (Moves.refl (fun k => k = w.heap.size + 1) w3).setCell ⟨w.heap.size + 1, 3, none⟩ (fun _ => rfl) _
        have HR4 := Lib.hid (HR3.out.stays hM4 (fun k hk e => by subst e; rcases hk with h | h; omega; exact cells_not_row HW3.out (by decide) HR3.out.2.2 h))
        have HB4 := Lib.hid (HB3.out.trans (hM4.below HB3.out.size (fun k hk => by omega)))
        clear hM4 hW4 HW3 HR3 HB3 HT3 b0 b1 b2 b3 b4 f0 f2 f3 hz3
        have HV : Hid (heardV ((fresh M a).bump 3).ends = .agg #[.int .i64 0, .int .i64 0, .int .i64 0, .int .i64 1, .int .i64 0]) := rfl
        have HBeg : Hid (((fresh M a).bump 3).ends.begun = true ∧ ((fresh M a).bump 3).ends.piece = [] ∧ ((fresh M a).bump 3).ends.most = M ∧ ((fresh M a).bump 3).ends.accm = a) := ⟨rfl, rfl, rfl, rfl⟩
        have HV2 : Hid (heardV (((((fresh M a).bump 3).ends.bump 1).ends.bump 0).ends) = .agg #[.int .i64 1, .int .i64 1, .int .i64 0, .int .i64 1, .int .i64 0]) := rfl
        have HSm : Hid (Small ((fresh M a).bump 3).ends 1) := (bump_small (fresh_small M a) 3 : Small ((fresh M a).bump 3) (0 + 1))
        have HIn : Hid (Hdl.Inv ((fresh M a).bump 3).ends) := ⟨by simp [St.ends], (fun h => by cases h), hM1, hM2, Ha.out⟩
        generalize ((fresh M a).bump 3).ends = r1 at *
        have b0 : W4.cell? ⟨w.heap.size + 1, 0, none⟩ = some (.int .i64 0) := (cellR HWb.out 0).1
        have b1 : W4.cell? ⟨w.heap.size + 1, 1, none⟩ = some (.int .i64 0) := (cellR HWb.out 1).1
        have b2 : W4.cell? ⟨w.heap.size + 1, 2, none⟩ = some (.int .i64 0) := (cellR HWb.out 2).1
        have b3 : W4.cell? ⟨w.heap.size + 1, 3, none⟩ = some (.int .i64 1) := (cellR HWb.out 3).1
        have b4 : W4.cell? ⟨w.heap.size + 1, 4, none⟩ = some (.int .i64 0) := (cellR HWb.out 4).1
        have hz4 := (Array.getElem?_eq_some_iff.1 HWb.out).1
        go_region_held3 (fun w' => w'.cell? ⟨w.heap.size + 1, 0, none⟩ = some (.int .i64 0) ∧ w'.cell? ⟨w.heap.size + 1, 1, none⟩ = some (.int .i64 0) ∧ w'.cell? ⟨w.heap.size + 1, 2, none⟩ = some (.int .i64 0) ∧ w'.cell? ⟨w.heap.size + 1, 3, none⟩ = some (.int .i64 1) ∧ w'.cell? ⟨w.heap.size + 1, 4, none⟩ = some (.int .i64 0))
          (first | exact ⟨b0, b1, b2, b3, b4⟩ | exact ⟨d0, d1, d2, d3, d4⟩)
          (first
            | (go_at_call 11; (refine (heard_any w.heap.size w.heap.size r1 v3 _ (by exact HR4.out)).mono ?_; rw [HV.out]; rintro e w5 ⟨rfl, hb5⟩; have HR5 : Hid (Recv w5 w.heap.size w.heap.size r1 v3) := Recv.below (w := W4) HR4.out ⟨hb5.os, hb5.tape, hb5.output, hb5.size, hb5.block⟩; have HB5 : Hid (Below w.heap.size w w5) := HB4.out.trans ⟨hb5.os, hb5.tape, hb5.output, hb5.size, fun k hk => hb5.block k (Nat.lt_of_lt_of_le hk HB4.out.size)⟩; have HWb5 : Hid (w5.heap[w.heap.size + 1]? = some (.cells #[.int .i64 0, .int .i64 0, .int .i64 0, .int .i64 1, .int .i64 0] 32 (0, 0))) := (hb5.block _ hz4).trans HWb.out; clear hb5; have d0 : w5.cell? ⟨w.heap.size + 1, 0, none⟩ = some (.int .i64 0) := (cellR HWb5.out 0).1; have d1 : w5.cell? ⟨w.heap.size + 1, 1, none⟩ = some (.int .i64 0) := (cellR HWb5.out 1).1; have d2 : w5.cell? ⟨w.heap.size + 1, 2, none⟩ = some (.int .i64 0) := (cellR HWb5.out 2).1; have d3 : w5.cell? ⟨w.heap.size + 1, 3, none⟩ = some (.int .i64 1) := (cellR HWb5.out 3).1; have d4 : w5.cell? ⟨w.heap.size + 1, 4, none⟩ = some (.int .i64 0) := (cellR HWb5.out 4).1)))
        clear b0 b1 b2 b3 b4 hz4 HWb HR4 HB4 HV
        have hz5 := (Array.getElem?_eq_some_iff.1 HWb5.out).1
        clear d0 d1 d2 d3 d4
        go_wp2_with fail
        refine (frame_any s a _ (by omega) Ha.out).mono ?_
        rw [HFr.out]
        rintro e w6 ⟨rfl, hb6⟩
        have HR6 := Lib.hid (HR5.out.below hb6)
        have HB6 := Lib.hid (HB5.out.trans (hb6.mono HB5.out.size))
        have HWb6 := Lib.hid ((hb6.block _ hz5).trans HWb5.out)
        clear hb6 HR5 HB5 HWb5 hz5
        have htF : tt < Fr.size := by omega
        obtain ⟨x, hx⟩ : ∃ x, Fr[tt] = x := ⟨_, rfl⟩
        have hE3 : decide ((d : Int) < 1 + (tt : Int)) = false := decide_eq_false (by omega)
        by_cases hx5 : x = 125
        · have e125 : ((x.toNat : Int) == 125) = true := by rw [hx5]; rfl
          go_wp2_with fail
          refine (alive_any _).mono ?_
          rintro e w7 ⟨rfl, hb7⟩
          go_wp2
          go_ret
          exact ⟨rfl, HB6.out.trans (hb7.mono HB6.out.size)⟩
        · have e125 : ((x.toNat : Int) == 125) = false := no_int x 125 (by omega) hx5
          clear hx5
          have HAN : Hid (_ ∧ _) := abort_next HBeg.out.1 HBeg.out.2.1 (by rw [HBeg.out.2.2.1]; exact hM1) s.toList (1 + tt) (by omega) (by rw [HBeg.out.2.2.2]; have := Hd.out; omega)
          rw [HBeg.out.2.2.2, ← HFl.out] at HAN
          obtain ⟨G, hG⟩ : ∃ G, bOf (126 :: (put a (seal_ (⟨#[111, 107]⟩ : ByteArray).toList) ++ [126])) = G := ⟨_, rfl⟩
          have HGl : Hid (G.toList = 126 :: (put a (seal_ [111, 107]) ++ [126])) := by show _ = _; rw [← hG, toList_bOf, toList_ok]
          have hGs : G.size ≤ 10 := by
            rw [size_toList, HGl.out]
            have h1 := (put_le a (seal_ [111, 107])).2
            rw [seal_length] at h1
            simp at h1 ⊢
            omega
          have HG := Lib.hid hG; clear hG
          rw [← HGl.out] at HAN
          have HTx := Lib.hid (abort_text Fr G Fr.toList G.toList (1 + tt) rfl rfl)
          rw [← HTx.out] at HAN
          obtain ⟨Y, hY⟩ : ∃ Y, Fr.extract 0 (1 + tt) = Y := ⟨_, rfl⟩
          have hYs : Y.size ≤ 6006 := by rw [← hY, ByteArray.size_extract]; omega
          rw [hY] at HAN
          obtain ⟨Z, hZ⟩ : ∃ Z, Y ++ (⟨#[125, 126]⟩ : ByteArray) = Z := ⟨_, rfl⟩
          have hZs : Z.size ≤ 6010 := by rw [← hZ, ByteArray.size_append]; have : (⟨#[125, 126]⟩ : ByteArray).size = 2 := rfl; omega
          rw [hZ] at HAN
          obtain ⟨X, hX⟩ : ∃ X, Z ++ G = X := ⟨_, rfl⟩
          have hXs : X.size ≤ 7000 := by rw [← hX, ByteArray.size_append]; omega
          rw [hX] at HAN
          have hL1 : ¬ 9223372036854775807 < Y.size + 2 := by omega
          have hL2 : ¬ 9223372036854775805 < Y.size := by omega
          have hL3 : ¬ 9223372036854775807 < Z.size + G.size := by omega
          have HY := Lib.hid hY; clear hY
          have HZ := Lib.hid hZ; clear hZ
          have HX := Lib.hid hX; clear hX
          go_wp2_with fail
          have hE4 : (1 + (tt : Int)).toNat = 1 + tt := by omega
          have hE5 : (0 : Int) ≤ 1 + (tt : Int) := by omega
          have hE6 : 1 + (tt : Int) ≤ (Fr.size : Int) := by omega
          have hY := HY.out
          have hZ := HZ.out
          have hX := HX.out
          have hz6 := (Array.getElem?_eq_some_iff.1 HWb6.out).1
          go_region_held3 (fun _ => True) (trivial)
            (first
              | (go_at_call 14; (refine (frame_any ⟨#[111, 107]⟩ a _ (by decide) Ha.out).mono ?_; rw [HG.out]; rintro e w7 ⟨rfl, hb7⟩; have HR7 : Hid (Recv w7 w.heap.size w.heap.size r1 v3) := Recv.below (w := w6) HR6.out ⟨hb7.os, hb7.tape, hb7.output, hb7.size, hb7.block⟩; have HB7 : Hid (Below w.heap.size w w7) := HB6.out.trans ⟨hb7.os, hb7.tape, hb7.output, hb7.size, fun k hk => hb7.block k (Nat.lt_of_lt_of_le hk HB6.out.size)⟩; have HWb7 : Hid (w7.heap[w.heap.size + 1]? = some (.cells #[.int .i64 0, .int .i64 0, .int .i64 0, .int .i64 1, .int .i64 0] 32 (0, 0))) := (hb7.block _ hz6).trans HWb6.out; clear hb7))
              | (go_at_call 9; (refine (push_q w.heap.size w.heap.size r1 v3 X _ (by exact HR7.out) HIn.out 1 HSm.out (by omega) (by omega)).mono ?_; rintro e w8 ⟨A8, c8, v8, rfl, hT8, hR8, hM8, _⟩; rw [HAN.out.2] at hT8 ⊢; rw [HAN.out.1] at hR8)))
          clear hX hY hZ hE4 hE5 hE6
          have hM8' : Moves (Foot w.heap.size v3) w7 w8 := hM8
          have hz7 := (Array.getElem?_eq_some_iff.1 HWb7.out).1
          have HWb8 : Hid (w8.heap[w.heap.size + 1]? = some (.cells #[.int .i64 0, .int .i64 0, .int .i64 0, .int .i64 1, .int .i64 0] 32 (0, 0))) := (hM8'.block _ hz7 (by rintro (h | h); omega; exact cells_not_row HWb7.out (by decide) HR7.out.2.2 h)).trans HWb7.out
          have HB8 := Lib.hid (HB7.out.trans (hM8'.below HB7.out.size fun k hk => (HR7.out.low k hk).1))
          have HR8 := Lib.hid hR8
          have HT8 : Hid (Texts w8 w.heap.size (.slice A8 1 c8) [bOf [111, 107]]) := Texts.lower hT8 HB7.out.size
          clear hM8 hM8' hR8 hT8
          have hz8 := (Array.getElem?_eq_some_iff.1 HWb8.out).1
          have b0 : w8.cell? ⟨w.heap.size + 1, 0, none⟩ = some (.int .i64 0) := (cellR HWb8.out 0).1
          have b1 : w8.cell? ⟨w.heap.size + 1, 1, none⟩ = some (.int .i64 0) := (cellR HWb8.out 1).1
          have f0 := (cellR HWb8.out 0).2
          have f1 := (cellR HWb8.out 1).2
          go_wp2_with fail
          obtain ⟨W9, hW9⟩ : ∃ W, (w8.setCell ⟨w.heap.size + 1, 1, none⟩ (.int .i64 1)).setCell ⟨w.heap.size + 1, 0, none⟩ (.int .i64 1) = W := ⟨_, rfl⟩
          rw [hW9]
          have HWb9 : Hid (W9.heap[w.heap.size + 1]? = some (.cells #[.int .i64 1, .int .i64 1, .int .i64 0, .int .i64 1, .int .i64 0] 32 (0, 0))) := by show _ = _; rw [← hW9]; exact cells_set (cells_set HWb8.out (.int .i64 1)) (.int .i64 1)
          have hM9 : Moves (fun k => k = w.heap.size + 1) w8 W9 := by rw [← hW9]; exact ((Moves.refl (fun k => k = w.heap.size + 1) w8).setCell ⟨w.heap.size + 1, 1, none⟩ (fun _ => rfl) _).setCell ⟨w.heap.size + 1, 0, none⟩ (fun _ => rfl) _
          have HR9 := Lib.hid (HR8.out.stays hM9 (fun k hk e => by subst e; rcases hk with h | h; omega; exact cells_not_row HWb8.out (by decide) HR8.out.2.2 h))
          have hT9 : Texts W9 w.heap.size (.slice A8 1 c8) [bOf [111, 107]] := hM9.row HT8.out (fun k hk e => by subst e; exact cells_not_row HWb8.out (by decide) HT8.out hk)
          have HB9 := Lib.hid (HB8.out.trans (hM9.below HB8.out.size (fun k hk => by omega)))
          clear hM9 hW9 HWb8 HR8 HB8 HT8 b0 b1 f0 f1 hz8
          have hz9 := (Array.getElem?_eq_some_iff.1 HWb9.out).1
          have hA9 : Below W9.heap.size W9 (W9.alloc (.cells #[.string ⟨#[111, 107]⟩] 9)) := (Below.refl _ _).alloc (Nat.le_refl _) _
          have HSa : Hid (Strs (W9.alloc (.cells #[.string ⟨#[111, 107]⟩] 9)) (W9.alloc (.cells #[.string ⟨#[111, 107]⟩] 9)).heap.size A8 1 [bOf [111, 107]]) := ((hT9.strs (by intro u hu; rw [List.mem_singleton.1 hu]; decide)).below hA9).more hA9.size
          have HSb : Hid (Strs (W9.alloc (.cells #[.string ⟨#[111, 107]⟩] 9)) (W9.alloc (.cells #[.string ⟨#[111, 107]⟩] 9)).heap.size (some ⟨W9.heap.size, 0, none⟩) 1 [bOf [111, 107]]) := strs_one W9 ⟨#[111, 107]⟩ _ (by decide)
          have HWbA := Lib.hid ((hA9.block _ hz9).trans HWb9.out)
          have HRA := Lib.hid (HR9.out.below hA9)
          have HBA := Lib.hid (HB9.out.trans (hA9.mono HB9.out.size))
          have hzA : w.heap.size + 1 < (W9.alloc (.cells #[.string ⟨#[111, 107]⟩] 9)).heap.size := Nat.lt_of_lt_of_le hz9 hA9.size
          clear hT9 hA9
          have b0 : W9.cell? ⟨w.heap.size + 1, 0, none⟩ = some (.int .i64 1) := (cellR HWb9.out 0).1
          have b1 : W9.cell? ⟨w.heap.size + 1, 1, none⟩ = some (.int .i64 1) := (cellR HWb9.out 1).1
          have b2 : W9.cell? ⟨w.heap.size + 1, 2, none⟩ = some (.int .i64 0) := (cellR HWb9.out 2).1
          have b3 : W9.cell? ⟨w.heap.size + 1, 3, none⟩ = some (.int .i64 1) := (cellR HWb9.out 3).1
          have b4 : W9.cell? ⟨w.heap.size + 1, 4, none⟩ = some (.int .i64 0) := (cellR HWb9.out 4).1
          have q0 : (W9.alloc (.cells #[.string ⟨#[111, 107]⟩] 9)).cell? ⟨w.heap.size + 1, 0, none⟩ = some (.int .i64 1) := (cellR HWbA.out 0).1
          have q1 : (W9.alloc (.cells #[.string ⟨#[111, 107]⟩] 9)).cell? ⟨w.heap.size + 1, 1, none⟩ = some (.int .i64 1) := (cellR HWbA.out 1).1
          have q2 : (W9.alloc (.cells #[.string ⟨#[111, 107]⟩] 9)).cell? ⟨w.heap.size + 1, 2, none⟩ = some (.int .i64 0) := (cellR HWbA.out 2).1
          have q3 : (W9.alloc (.cells #[.string ⟨#[111, 107]⟩] 9)).cell? ⟨w.heap.size + 1, 3, none⟩ = some (.int .i64 1) := (cellR HWbA.out 3).1
          have q4 : (W9.alloc (.cells #[.string ⟨#[111, 107]⟩] 9)).cell? ⟨w.heap.size + 1, 4, none⟩ = some (.int .i64 0) := (cellR HWbA.out 4).1
          go_region_held3 (fun w' => w'.cell? ⟨w.heap.size + 1, 0, none⟩ = some (.int .i64 1) ∧ w'.cell? ⟨w.heap.size + 1, 1, none⟩ = some (.int .i64 1) ∧ w'.cell? ⟨w.heap.size + 1, 2, none⟩ = some (.int .i64 0) ∧ w'.cell? ⟨w.heap.size + 1, 3, none⟩ = some (.int .i64 1) ∧ w'.cell? ⟨w.heap.size + 1, 4, none⟩ = some (.int .i64 0))
            (first | exact ⟨b0, b1, b2, b3, b4⟩ | exact ⟨q0, q1, q2, q3, q4⟩ | exact ⟨d0, d1, d2, d3, d4⟩ | exact ⟨k0, k1, k2, k3, k4⟩ | exact ⟨l0, l1, l2, l3, l4⟩)
            (first
              | (go_at_call 18; (refine (same_q A8 (some ⟨W9.heap.size, 0, none⟩) 1 1 c8 1 [bOf [111, 107]] [bOf [111, 107]] _ true (by decide) (by exact HSa.out) (by exact HSb.out) (decide_eq_true rfl)).mono ?_; rintro e wB ⟨rfl, hbB⟩; have HRB : Hid (Recv wB w.heap.size w.heap.size (((r1.bump 1).ends.bump 0).ends) v8) := Recv.below (w := W9.alloc (.cells #[.string ⟨#[111, 107]⟩] 9)) HRA.out ⟨hbB.os, hbB.tape, hbB.output, hbB.size, hbB.block⟩; have HBB : Hid (Below w.heap.size w wB) := HBA.out.trans ⟨hbB.os, hbB.tape, hbB.output, hbB.size, fun k hk => hbB.block k (Nat.lt_of_lt_of_le hk HBA.out.size)⟩; have HWbB : Hid (wB.heap[w.heap.size + 1]? = some (.cells #[.int .i64 1, .int .i64 1, .int .i64 0, .int .i64 1, .int .i64 0] 32 (0, 0))) := (hbB.block _ hzA).trans HWbA.out; clear hbB; have hzB := (Array.getElem?_eq_some_iff.1 HWbB.out).1; have d0 : wB.cell? ⟨w.heap.size + 1, 0, none⟩ = some (.int .i64 1) := (cellR HWbB.out 0).1; have d1 : wB.cell? ⟨w.heap.size + 1, 1, none⟩ = some (.int .i64 1) := (cellR HWbB.out 1).1; have d2 : wB.cell? ⟨w.heap.size + 1, 2, none⟩ = some (.int .i64 0) := (cellR HWbB.out 2).1; have d3 : wB.cell? ⟨w.heap.size + 1, 3, none⟩ = some (.int .i64 1) := (cellR HWbB.out 3).1; have d4 : wB.cell? ⟨w.heap.size + 1, 4, none⟩ = some (.int .i64 0) := (cellR HWbB.out 4).1))
              | (go_at_call 11; (refine (heard_any w.heap.size w.heap.size (((r1.bump 1).ends.bump 0).ends) v8 _ (by exact HRB.out)).mono ?_; rw [HV2.out]; rintro e wC ⟨rfl, hbC⟩; have HBC : Hid (Below w.heap.size w wC) := HBB.out.trans ⟨hbC.os, hbC.tape, hbC.output, hbC.size, fun k hk => hbC.block k (Nat.lt_of_lt_of_le hk HBB.out.size)⟩; have HWbC : Hid (wC.heap[w.heap.size + 1]? = some (.cells #[.int .i64 1, .int .i64 1, .int .i64 0, .int .i64 1, .int .i64 0] 32 (0, 0))) := (hbC.block _ hzB).trans HWbB.out; clear hbC; have hzC := (Array.getElem?_eq_some_iff.1 HWbC.out).1; have k0 : wC.cell? ⟨w.heap.size + 1, 0, none⟩ = some (.int .i64 1) := (cellR HWbC.out 0).1; have k1 : wC.cell? ⟨w.heap.size + 1, 1, none⟩ = some (.int .i64 1) := (cellR HWbC.out 1).1; have k2 : wC.cell? ⟨w.heap.size + 1, 2, none⟩ = some (.int .i64 0) := (cellR HWbC.out 2).1; have k3 : wC.cell? ⟨w.heap.size + 1, 3, none⟩ = some (.int .i64 1) := (cellR HWbC.out 3).1; have k4 : wC.cell? ⟨w.heap.size + 1, 4, none⟩ = some (.int .i64 0) := (cellR HWbC.out 4).1))
              | (go_at_call 8; (refine (alive_any _).mono ?_; rintro e wD ⟨rfl, hbD⟩; have HBD : Hid (Below w.heap.size w wD) := HBC.out.trans ⟨hbD.os, hbD.tape, hbD.output, hbD.size, fun k hk => hbD.block k (Nat.lt_of_lt_of_le hk HBC.out.size)⟩; have HWbD : Hid (wD.heap[w.heap.size + 1]? = some (.cells #[.int .i64 1, .int .i64 1, .int .i64 0, .int .i64 1, .int .i64 0] 32 (0, 0))) := (hbD.block _ hzC).trans HWbC.out; clear hbD; have l0 : wD.cell? ⟨w.heap.size + 1, 0, none⟩ = some (.int .i64 1) := (cellR HWbD.out 0).1; have l1 : wD.cell? ⟨w.heap.size + 1, 1, none⟩ = some (.int .i64 1) := (cellR HWbD.out 1).1; have l2 : wD.cell? ⟨w.heap.size + 1, 2, none⟩ = some (.int .i64 0) := (cellR HWbD.out 2).1; have l3 : wD.cell? ⟨w.heap.size + 1, 3, none⟩ = some (.int .i64 1) := (cellR HWbD.out 3).1; have l4 : wD.cell? ⟨w.heap.size + 1, 4, none⟩ = some (.int .i64 0) := (cellR HWbD.out 4).1)))
          all_goals
            go_wp2_with fail
            go_ret
            exact ⟨rfl, HBD.out⟩
      · rw [if_neg hshort] at HR3
        rw [if_neg hshort] at HT3 ⊢
        rw [bOf_toList] at HT3
        have hl2 : ¬ (s.size : Int) < 2 := by omega
        go_wp2_with fail
        obtain ⟨W3, hW3e⟩ : ∃ W, w3.setCell ⟨w.heap.size + 1, 0, none⟩ (.int .i64 1) = W := ⟨_, rfl⟩
        have hsz : W3.heap.size = w3.heap.size := by rw [← hW3e]; simp [World.setCell]
        rw [hW3e, ← hsz]
        have HWb3 : Hid (W3.heap[w.heap.size + 1]? = some (.cells #[.int .i64 1, .int .i64 0, .int .i64 0, .int .i64 0, .int .i64 0] 32 (0, 0))) := by show _ = _; rw [← hW3e]; exact cells_set HW3.out (.int .i64 1)
        have hM4 : Moves (fun k => k = w.heap.size + 1) w3 W3 := by rw [← hW3e]; exact (Moves.refl (fun k => k = w.heap.size + 1) w3).setCell ⟨w.heap.size + 1, 0, none⟩ (fun _ => rfl) _
        have HR3' := Lib.hid (HR3.out.stays hM4 (fun k hk e => by subst e; rcases hk with h | h; omega; exact cells_not_row HW3.out (by decide) HR3.out.2.2 h))
        have HB3' := Lib.hid (HB3.out.trans (hM4.below HB3.out.size (fun k hk => by omega)))
        have hT3' : Texts W3 w2.heap.size (.slice A3 1 c3) [s] := hM4.row HT3.out (fun k hk e => by subst e; exact cells_not_row HW3.out (by decide) HT3.out hk)
        have hA3 : Below W3.heap.size W3 (W3.alloc (.cells #[.string s] 9)) := (Below.refl _ _).alloc (Nat.le_refl _) _
        have hss : ∀ u ∈ [s], u.size ≤ maxLen := by intro u hu; rw [List.mem_singleton.1 hu]; unfold maxLen; omega
        have HSa := Lib.hid (((hT3'.strs hss).below hA3).more hA3.size)
        have HSb := Lib.hid (strs_one W3 s 9 (hss s (by simp)))
        have hzb := (Array.getElem?_eq_some_iff.1 HWb3.out).1
        refine (same_q A3 (some ⟨W3.heap.size, 0, none⟩) 1 1 c3 1 [s] [s] _ true (by decide) HSa.out HSb.out (decide_eq_true rfl)).mono ?_
        rintro e W4 ⟨rfl, hb4⟩
        have hB34 : Below W3.heap.size W3 W4 := hA3.trans (hb4.mono hA3.size)
        have HWb := Lib.hid ((hB34.block _ hzb).trans HWb3.out)
        have HR4 := Lib.hid (HR3'.out.below hB34)
        have HB4 := Lib.hid (HB3'.out.trans (hB34.mono HB3'.out.size))
        clear hB34 hb4 hA3 hss hT3' HSa HSb hM4 hW3e hsz HW3 HR3 HB3 HT3 b0 b1 b2 b3 b4 f0 f2 f3 hz3 hzb HWb3 HR3' HB3'
        go_wp2_with fail
        have HV : Hid (heardV ((fresh M a).bump 0).ends = .agg #[.int .i64 1, .int .i64 0, .int .i64 0, .int .i64 0, .int .i64 0]) := rfl
        have HBeg : Hid (((fresh M a).bump 0).ends.begun = true ∧ ((fresh M a).bump 0).ends.piece = [] ∧ ((fresh M a).bump 0).ends.most = M ∧ ((fresh M a).bump 0).ends.accm = a) := ⟨rfl, rfl, rfl, rfl⟩
        have HV2 : Hid (heardV (((((fresh M a).bump 0).ends.bump 1).ends.bump 0).ends) = .agg #[.int .i64 2, .int .i64 1, .int .i64 0, .int .i64 0, .int .i64 0]) := rfl
        have HSm : Hid (Small ((fresh M a).bump 0).ends 1) := (bump_small (fresh_small M a) 0 : Small ((fresh M a).bump 0) (0 + 1))
        have HIn : Hid (Hdl.Inv ((fresh M a).bump 0).ends) := ⟨by simp [St.ends], (fun h => by cases h), hM1, hM2, Ha.out⟩
        generalize ((fresh M a).bump 0).ends = r1 at *
        have b0 : W4.cell? ⟨w.heap.size + 1, 0, none⟩ = some (.int .i64 1) := (cellR HWb.out 0).1
        have b1 : W4.cell? ⟨w.heap.size + 1, 1, none⟩ = some (.int .i64 0) := (cellR HWb.out 1).1
        have b2 : W4.cell? ⟨w.heap.size + 1, 2, none⟩ = some (.int .i64 0) := (cellR HWb.out 2).1
        have b3 : W4.cell? ⟨w.heap.size + 1, 3, none⟩ = some (.int .i64 0) := (cellR HWb.out 3).1
        have b4 : W4.cell? ⟨w.heap.size + 1, 4, none⟩ = some (.int .i64 0) := (cellR HWb.out 4).1
        have hz4 := (Array.getElem?_eq_some_iff.1 HWb.out).1
        go_region_held3 (fun w' => w'.cell? ⟨w.heap.size + 1, 0, none⟩ = some (.int .i64 1) ∧ w'.cell? ⟨w.heap.size + 1, 1, none⟩ = some (.int .i64 0) ∧ w'.cell? ⟨w.heap.size + 1, 2, none⟩ = some (.int .i64 0) ∧ w'.cell? ⟨w.heap.size + 1, 3, none⟩ = some (.int .i64 0) ∧ w'.cell? ⟨w.heap.size + 1, 4, none⟩ = some (.int .i64 0))
          (first | exact ⟨b0, b1, b2, b3, b4⟩ | exact ⟨d0, d1, d2, d3, d4⟩)
          (first
            | (go_at_call 11; (refine (heard_any w.heap.size w.heap.size r1 v3 _ (by exact HR4.out)).mono ?_; rw [HV.out]; rintro e w5 ⟨rfl, hb5⟩; have HR5 : Hid (Recv w5 w.heap.size w.heap.size r1 v3) := Recv.below (w := W4) HR4.out ⟨hb5.os, hb5.tape, hb5.output, hb5.size, hb5.block⟩; have HB5 : Hid (Below w.heap.size w w5) := HB4.out.trans ⟨hb5.os, hb5.tape, hb5.output, hb5.size, fun k hk => hb5.block k (Nat.lt_of_lt_of_le hk HB4.out.size)⟩; have HWb5 : Hid (w5.heap[w.heap.size + 1]? = some (.cells #[.int .i64 1, .int .i64 0, .int .i64 0, .int .i64 0, .int .i64 0] 32 (0, 0))) := (hb5.block _ hz4).trans HWb.out; clear hb5; have d0 : w5.cell? ⟨w.heap.size + 1, 0, none⟩ = some (.int .i64 1) := (cellR HWb5.out 0).1; have d1 : w5.cell? ⟨w.heap.size + 1, 1, none⟩ = some (.int .i64 0) := (cellR HWb5.out 1).1; have d2 : w5.cell? ⟨w.heap.size + 1, 2, none⟩ = some (.int .i64 0) := (cellR HWb5.out 2).1; have d3 : w5.cell? ⟨w.heap.size + 1, 3, none⟩ = some (.int .i64 0) := (cellR HWb5.out 3).1; have d4 : w5.cell? ⟨w.heap.size + 1, 4, none⟩ = some (.int .i64 0) := (cellR HWb5.out 4).1)))
        clear b0 b1 b2 b3 b4 hz4 HWb HR4 HB4 HV
        have hz5 := (Array.getElem?_eq_some_iff.1 HWb5.out).1
        clear d0 d1 d2 d3 d4
        go_wp2_with fail
        refine (frame_any s a _ (by omega) Ha.out).mono ?_
        rw [HFr.out]
        rintro e w6 ⟨rfl, hb6⟩
        have HR6 := Lib.hid (HR5.out.below hb6)
        have HB6 := Lib.hid (HB5.out.trans (hb6.mono HB5.out.size))
        have HWb6 := Lib.hid ((hb6.block _ hz5).trans HWb5.out)
        clear hb6 HR5 HB5 HWb5 hz5
        have htF : tt < Fr.size := by omega
        obtain ⟨x, hx⟩ : ∃ x, Fr[tt] = x := ⟨_, rfl⟩
        have hE3 : decide ((d : Int) < 1 + (tt : Int)) = false := decide_eq_false (by omega)
        by_cases hx5 : x = 125
        · have e125 : ((x.toNat : Int) == 125) = true := by rw [hx5]; rfl
          go_wp2_with fail
          refine (alive_any _).mono ?_
          rintro e w7 ⟨rfl, hb7⟩
          go_wp2
          go_ret
          exact ⟨rfl, HB6.out.trans (hb7.mono HB6.out.size)⟩
        · have e125 : ((x.toNat : Int) == 125) = false := no_int x 125 (by omega) hx5
          clear hx5
          have HAN : Hid (_ ∧ _) := abort_next HBeg.out.1 HBeg.out.2.1 (by rw [HBeg.out.2.2.1]; exact hM1) s.toList (1 + tt) (by omega) (by rw [HBeg.out.2.2.2]; have := Hd.out; omega)
          rw [HBeg.out.2.2.2, ← HFl.out] at HAN
          obtain ⟨G, hG⟩ : ∃ G, bOf (126 :: (put a (seal_ (⟨#[111, 107]⟩ : ByteArray).toList) ++ [126])) = G := ⟨_, rfl⟩
          have HGl : Hid (G.toList = 126 :: (put a (seal_ [111, 107]) ++ [126])) := by show _ = _; rw [← hG, toList_bOf, toList_ok]
          have hGs : G.size ≤ 10 := by
            rw [size_toList, HGl.out]
            have h1 := (put_le a (seal_ [111, 107])).2
            rw [seal_length] at h1
            simp at h1 ⊢
            omega
          have HG := Lib.hid hG; clear hG
          rw [← HGl.out] at HAN
          have HTx := Lib.hid (abort_text Fr G Fr.toList G.toList (1 + tt) rfl rfl)
          rw [← HTx.out] at HAN
          obtain ⟨Y, hY⟩ : ∃ Y, Fr.extract 0 (1 + tt) = Y := ⟨_, rfl⟩
          have hYs : Y.size ≤ 6006 := by rw [← hY, ByteArray.size_extract]; omega
          rw [hY] at HAN
          obtain ⟨Z, hZ⟩ : ∃ Z, Y ++ (⟨#[125, 126]⟩ : ByteArray) = Z := ⟨_, rfl⟩
          have hZs : Z.size ≤ 6010 := by rw [← hZ, ByteArray.size_append]; have : (⟨#[125, 126]⟩ : ByteArray).size = 2 := rfl; omega
          rw [hZ] at HAN
          obtain ⟨X, hX⟩ : ∃ X, Z ++ G = X := ⟨_, rfl⟩
          have hXs : X.size ≤ 7000 := by rw [← hX, ByteArray.size_append]; omega
          rw [hX] at HAN
          have hL1 : ¬ 9223372036854775807 < Y.size + 2 := by omega
          have hL2 : ¬ 9223372036854775805 < Y.size := by omega
          have hL3 : ¬ 9223372036854775807 < Z.size + G.size := by omega
          have HY := Lib.hid hY; clear hY
          have HZ := Lib.hid hZ; clear hZ
          have HX := Lib.hid hX; clear hX
          go_wp2_with fail
          have hE4 : (1 + (tt : Int)).toNat = 1 + tt := by omega
          have hE5 : (0 : Int) ≤ 1 + (tt : Int) := by omega
          have hE6 : 1 + (tt : Int) ≤ (Fr.size : Int) := by omega
          have hY := HY.out
          have hZ := HZ.out
          have hX := HX.out
          have hz6 := (Array.getElem?_eq_some_iff.1 HWb6.out).1
          go_region_held3 (fun _ => True) (trivial)
            (first
              | (go_at_call 14; (refine (frame_any ⟨#[111, 107]⟩ a _ (by decide) Ha.out).mono ?_; rw [HG.out]; rintro e w7 ⟨rfl, hb7⟩; have HR7 : Hid (Recv w7 w.heap.size w.heap.size r1 v3) := Recv.below (w := w6) HR6.out ⟨hb7.os, hb7.tape, hb7.output, hb7.size, hb7.block⟩; have HB7 : Hid (Below w.heap.size w w7) := HB6.out.trans ⟨hb7.os, hb7.tape, hb7.output, hb7.size, fun k hk => hb7.block k (Nat.lt_of_lt_of_le hk HB6.out.size)⟩; have HWb7 : Hid (w7.heap[w.heap.size + 1]? = some (.cells #[.int .i64 1, .int .i64 0, .int .i64 0, .int .i64 0, .int .i64 0] 32 (0, 0))) := (hb7.block _ hz6).trans HWb6.out; clear hb7))
              | (go_at_call 9; (refine (push_q w.heap.size w.heap.size r1 v3 X _ (by exact HR7.out) HIn.out 1 HSm.out (by omega) (by omega)).mono ?_; rintro e w8 ⟨A8, c8, v8, rfl, hT8, hR8, hM8, _⟩; rw [HAN.out.2] at hT8 ⊢; rw [HAN.out.1] at hR8)))
          clear hX hY hZ hE4 hE5 hE6
          have hM8' : Moves (Foot w.heap.size v3) w7 w8 := hM8
          have hz7 := (Array.getElem?_eq_some_iff.1 HWb7.out).1
          have HWb8 : Hid (w8.heap[w.heap.size + 1]? = some (.cells #[.int .i64 1, .int .i64 0, .int .i64 0, .int .i64 0, .int .i64 0] 32 (0, 0))) := (hM8'.block _ hz7 (by rintro (h | h); omega; exact cells_not_row HWb7.out (by decide) HR7.out.2.2 h)).trans HWb7.out
          have HB8 := Lib.hid (HB7.out.trans (hM8'.below HB7.out.size fun k hk => (HR7.out.low k hk).1))
          have HR8 := Lib.hid hR8
          have HT8 : Hid (Texts w8 w.heap.size (.slice A8 1 c8) [bOf [111, 107]]) := Texts.lower hT8 HB7.out.size
          clear hM8 hM8' hR8 hT8
          have hz8 := (Array.getElem?_eq_some_iff.1 HWb8.out).1
          have b0 : w8.cell? ⟨w.heap.size + 1, 0, none⟩ = some (.int .i64 1) := (cellR HWb8.out 0).1
          have b1 : w8.cell? ⟨w.heap.size + 1, 1, none⟩ = some (.int .i64 0) := (cellR HWb8.out 1).1
          have f0 := (cellR HWb8.out 0).2
          have f1 := (cellR HWb8.out 1).2
          go_wp2_with fail
          obtain ⟨W9, hW9⟩ : ∃ W, (w8.setCell ⟨w.heap.size + 1, 1, none⟩ (.int .i64 1)).setCell ⟨w.heap.size + 1, 0, none⟩ (.int .i64 2) = W := ⟨_, rfl⟩
          rw [hW9]
          have HWb9 : Hid (W9.heap[w.heap.size + 1]? = some (.cells #[.int .i64 2, .int .i64 1, .int .i64 0, .int .i64 0, .int .i64 0] 32 (0, 0))) := by show _ = _; rw [← hW9]; exact cells_set (cells_set HWb8.out (.int .i64 1)) (.int .i64 2)
          have hM9 : Moves (fun k => k = w.heap.size + 1) w8 W9 := by rw [← hW9]; exact ((Moves.refl (fun k => k = w.heap.size + 1) w8).setCell ⟨w.heap.size + 1, 1, none⟩ (fun _ => rfl) _).setCell ⟨w.heap.size + 1, 0, none⟩ (fun _ => rfl) _
          have HR9 := Lib.hid (HR8.out.stays hM9 (fun k hk e => by subst e; rcases hk with h | h; omega; exact cells_not_row HWb8.out (by decide) HR8.out.2.2 h))
          have hT9 : Texts W9 w.heap.size (.slice A8 1 c8) [bOf [111, 107]] := hM9.row HT8.out (fun k hk e => by subst e; exact cells_not_row HWb8.out (by decide) HT8.out hk)
          have HB9 := Lib.hid (HB8.out.trans (hM9.below HB8.out.size (fun k hk => by omega)))
          clear hM9 hW9 HWb8 HR8 HB8 HT8 b0 b1 f0 f1 hz8
          have hz9 := (Array.getElem?_eq_some_iff.1 HWb9.out).1
          have hA9 : Below W9.heap.size W9 (W9.alloc (.cells #[.string ⟨#[111, 107]⟩] 9)) := (Below.refl _ _).alloc (Nat.le_refl _) _
          have HSa : Hid (Strs (W9.alloc (.cells #[.string ⟨#[111, 107]⟩] 9)) (W9.alloc (.cells #[.string ⟨#[111, 107]⟩] 9)).heap.size A8 1 [bOf [111, 107]]) := ((hT9.strs (by intro u hu; rw [List.mem_singleton.1 hu]; decide)).below hA9).more hA9.size
          have HSb : Hid (Strs (W9.alloc (.cells #[.string ⟨#[111, 107]⟩] 9)) (W9.alloc (.cells #[.string ⟨#[111, 107]⟩] 9)).heap.size (some ⟨W9.heap.size, 0, none⟩) 1 [bOf [111, 107]]) := strs_one W9 ⟨#[111, 107]⟩ _ (by decide)
          have HWbA := Lib.hid ((hA9.block _ hz9).trans HWb9.out)
          have HRA := Lib.hid (HR9.out.below hA9)
          have HBA := Lib.hid (HB9.out.trans (hA9.mono HB9.out.size))
          have hzA : w.heap.size + 1 < (W9.alloc (.cells #[.string ⟨#[111, 107]⟩] 9)).heap.size := Nat.lt_of_lt_of_le hz9 hA9.size
          clear hT9 hA9
          have b0 : W9.cell? ⟨w.heap.size + 1, 0, none⟩ = some (.int .i64 2) := (cellR HWb9.out 0).1
          have b1 : W9.cell? ⟨w.heap.size + 1, 1, none⟩ = some (.int .i64 1) := (cellR HWb9.out 1).1
          have b2 : W9.cell? ⟨w.heap.size + 1, 2, none⟩ = some (.int .i64 0) := (cellR HWb9.out 2).1
          have b3 : W9.cell? ⟨w.heap.size + 1, 3, none⟩ = some (.int .i64 0) := (cellR HWb9.out 3).1
          have b4 : W9.cell? ⟨w.heap.size + 1, 4, none⟩ = some (.int .i64 0) := (cellR HWb9.out 4).1
          have q0 : (W9.alloc (.cells #[.string ⟨#[111, 107]⟩] 9)).cell? ⟨w.heap.size + 1, 0, none⟩ = some (.int .i64 2) := (cellR HWbA.out 0).1
          have q1 : (W9.alloc (.cells #[.string ⟨#[111, 107]⟩] 9)).cell? ⟨w.heap.size + 1, 1, none⟩ = some (.int .i64 1) := (cellR HWbA.out 1).1
          have q2 : (W9.alloc (.cells #[.string ⟨#[111, 107]⟩] 9)).cell? ⟨w.heap.size + 1, 2, none⟩ = some (.int .i64 0) := (cellR HWbA.out 2).1
          have q3 : (W9.alloc (.cells #[.string ⟨#[111, 107]⟩] 9)).cell? ⟨w.heap.size + 1, 3, none⟩ = some (.int .i64 0) := (cellR HWbA.out 3).1
          have q4 : (W9.alloc (.cells #[.string ⟨#[111, 107]⟩] 9)).cell? ⟨w.heap.size + 1, 4, none⟩ = some (.int .i64 0) := (cellR HWbA.out 4).1
          go_region_held3 (fun w' => w'.cell? ⟨w.heap.size + 1, 0, none⟩ = some (.int .i64 2) ∧ w'.cell? ⟨w.heap.size + 1, 1, none⟩ = some (.int .i64 1) ∧ w'.cell? ⟨w.heap.size + 1, 2, none⟩ = some (.int .i64 0) ∧ w'.cell? ⟨w.heap.size + 1, 3, none⟩ = some (.int .i64 0) ∧ w'.cell? ⟨w.heap.size + 1, 4, none⟩ = some (.int .i64 0))
            (first | exact ⟨b0, b1, b2, b3, b4⟩ | exact ⟨q0, q1, q2, q3, q4⟩ | exact ⟨d0, d1, d2, d3, d4⟩ | exact ⟨k0, k1, k2, k3, k4⟩ | exact ⟨l0, l1, l2, l3, l4⟩)
            (first
              | (go_at_call 18; (refine (same_q A8 (some ⟨W9.heap.size, 0, none⟩) 1 1 c8 1 [bOf [111, 107]] [bOf [111, 107]] _ true (by decide) (by exact HSa.out) (by exact HSb.out) (decide_eq_true rfl)).mono ?_; rintro e wB ⟨rfl, hbB⟩; have HRB : Hid (Recv wB w.heap.size w.heap.size (((r1.bump 1).ends.bump 0).ends) v8) := Recv.below (w := W9.alloc (.cells #[.string ⟨#[111, 107]⟩] 9)) HRA.out ⟨hbB.os, hbB.tape, hbB.output, hbB.size, hbB.block⟩; have HBB : Hid (Below w.heap.size w wB) := HBA.out.trans ⟨hbB.os, hbB.tape, hbB.output, hbB.size, fun k hk => hbB.block k (Nat.lt_of_lt_of_le hk HBA.out.size)⟩; have HWbB : Hid (wB.heap[w.heap.size + 1]? = some (.cells #[.int .i64 2, .int .i64 1, .int .i64 0, .int .i64 0, .int .i64 0] 32 (0, 0))) := (hbB.block _ hzA).trans HWbA.out; clear hbB; have hzB := (Array.getElem?_eq_some_iff.1 HWbB.out).1; have d0 : wB.cell? ⟨w.heap.size + 1, 0, none⟩ = some (.int .i64 2) := (cellR HWbB.out 0).1; have d1 : wB.cell? ⟨w.heap.size + 1, 1, none⟩ = some (.int .i64 1) := (cellR HWbB.out 1).1; have d2 : wB.cell? ⟨w.heap.size + 1, 2, none⟩ = some (.int .i64 0) := (cellR HWbB.out 2).1; have d3 : wB.cell? ⟨w.heap.size + 1, 3, none⟩ = some (.int .i64 0) := (cellR HWbB.out 3).1; have d4 : wB.cell? ⟨w.heap.size + 1, 4, none⟩ = some (.int .i64 0) := (cellR HWbB.out 4).1))
              | (go_at_call 11; (refine (heard_any w.heap.size w.heap.size (((r1.bump 1).ends.bump 0).ends) v8 _ (by exact HRB.out)).mono ?_; rw [HV2.out]; rintro e wC ⟨rfl, hbC⟩; have HBC : Hid (Below w.heap.size w wC) := HBB.out.trans ⟨hbC.os, hbC.tape, hbC.output, hbC.size, fun k hk => hbC.block k (Nat.lt_of_lt_of_le hk HBB.out.size)⟩; have HWbC : Hid (wC.heap[w.heap.size + 1]? = some (.cells #[.int .i64 2, .int .i64 1, .int .i64 0, .int .i64 0, .int .i64 0] 32 (0, 0))) := (hbC.block _ hzB).trans HWbB.out; clear hbC; have hzC := (Array.getElem?_eq_some_iff.1 HWbC.out).1; have k0 : wC.cell? ⟨w.heap.size + 1, 0, none⟩ = some (.int .i64 2) := (cellR HWbC.out 0).1; have k1 : wC.cell? ⟨w.heap.size + 1, 1, none⟩ = some (.int .i64 1) := (cellR HWbC.out 1).1; have k2 : wC.cell? ⟨w.heap.size + 1, 2, none⟩ = some (.int .i64 0) := (cellR HWbC.out 2).1; have k3 : wC.cell? ⟨w.heap.size + 1, 3, none⟩ = some (.int .i64 0) := (cellR HWbC.out 3).1; have k4 : wC.cell? ⟨w.heap.size + 1, 4, none⟩ = some (.int .i64 0) := (cellR HWbC.out 4).1))
              | (go_at_call 8; (refine (alive_any _).mono ?_; rintro e wD ⟨rfl, hbD⟩; have HBD : Hid (Below w.heap.size w wD) := HBC.out.trans ⟨hbD.os, hbD.tape, hbD.output, hbD.size, fun k hk => hbD.block k (Nat.lt_of_lt_of_le hk HBC.out.size)⟩; have HWbD : Hid (wD.heap[w.heap.size + 1]? = some (.cells #[.int .i64 2, .int .i64 1, .int .i64 0, .int .i64 0, .int .i64 0] 32 (0, 0))) := (hbD.block _ hzC).trans HWbC.out; clear hbD; have l0 : wD.cell? ⟨w.heap.size + 1, 0, none⟩ = some (.int .i64 2) := (cellR HWbD.out 0).1; have l1 : wD.cell? ⟨w.heap.size + 1, 1, none⟩ = some (.int .i64 1) := (cellR HWbD.out 1).1; have l2 : wD.cell? ⟨w.heap.size + 1, 2, none⟩ = some (.int .i64 0) := (cellR HWbD.out 2).1; have l3 : wD.cell? ⟨w.heap.size + 1, 3, none⟩ = some (.int .i64 0) := (cellR HWbD.out 3).1; have l4 : wD.cell? ⟨w.heap.size + 1, 4, none⟩ = some (.int .i64 0) := (cellR HWbD.out 4).1)))
          all_goals
            go_wp2_with fail
            go_ret
            exact ⟨rfl, HBD.out⟩

set_option maxRecDepth 100000 in
theorem lifted (os : Os) (started : os.Started) (H : Type) (enc : TypeId × Value → H) :
    ReturnsInHanded {} Try.checked os 6 .any (Rows.hdlcRefusesSpec.pre6 enc Try.prog Try.f6 Rows.hdlcRefusesRow.domain false) (Rows.hdlcRefusesSpec.post enc Try.prog Try.f6 false true false false) := by
  refine returnsInHanded_of_change (C := Try.checked) own started (by kernel_rfl) Try.func6
    (ChangeSpec.witness6 (enc := enc) (C := Try.checked) false ⟨#[], #[.string ByteArray.empty, .int .u32 0, .int .u16 0, .int .u16 0], []⟩ 8 (by kernel_rfl) (by kernel_rfl) (by kernel_rfl) (by kernel_rfl)) ?_
  intro W base args ds gs before hval0 hW hcnd _
  have hval : ∀ (j : Nat) t v, Try.f6.params[j]? = some t → args[j]? = some v → Value.okWide Try.prog W .any base t v := hval0
  have hW' := hW
  obtain ⟨p, q, hA0, hV, rfl, hfz, hnd⟩ := hW
  have hlt := hW'.lt
  have hA : DataW.TrodAll enc Try.prog W 0 (fun _ => true) true Try.f6.params.toList args.toList ds p := hA0
  rw [Try.params6] at hA hval
  obtain ⟨v0, vs0, d0, ds0, p0, q0, hargs, rfl, rfl, h0, r0⟩ := trodAll_cons hA
  obtain ⟨v1, vs1, d1, ds1, p1, q1, rfl, rfl, rfl, h1, r1⟩ := trodAll_cons r0
  obtain ⟨v2, vs2, d2, ds2, p2, q2, rfl, rfl, rfl, h2, r2⟩ := trodAll_cons r1
  obtain ⟨v3, vs3, d3, ds3, p3, q3, rfl, rfl, rfl, h3, r3⟩ := trodAll_cons r2
  obtain ⟨rfl, rfl, rfl⟩ := trodAll_nil r3
  obtain rfl : args = #[v0, v1, v2, v3] := by cases args; simp_all
  obtain ⟨rfl, rfl⟩ := trodVars_none hV
  obtain ⟨a0, rfl, rfl, rfl, w0⟩ := open_string Try.underlying9 (hval 0 9 v0 rfl rfl) h0
  obtain ⟨z1, rfl, rfl, rfl, w1⟩ := open_int Try.underlying22 (hval 1 22 v1 rfl rfl) h1
  obtain ⟨a1, rfl⟩ : ∃ n : Nat, z1 = n := ⟨z1.toNat, by have := bounds_u32 w1; omega⟩
  have b1 := bounds_u32 w1
  obtain ⟨z2, rfl, rfl, rfl, w2⟩ := open_int Try.underlying51 (hval 2 51 v2 rfl rfl) h2
  obtain ⟨a2, rfl⟩ : ∃ n : Nat, z2 = n := ⟨z2.toNat, by have := bounds_u16 w2; omega⟩
  have b2 := bounds_u16 w2
  obtain ⟨z3, rfl, rfl, rfl, w3⟩ := open_int Try.underlying51 (hval 3 51 v3 rfl rfl) h3
  obtain ⟨a3, rfl⟩ : ∃ n : Nat, z3 = n := ⟨z3.toNat, by have := bounds_u16 w3; omega⟩
  have b3 := bounds_u16 w3
  clear hA0 hval0
  exact (walk a0 a1 a2 a3 w0 (by omega) (by omega) (by omega) W).mono fun e W' ⟨he, hb⟩ => ⟨_, he, law_post (t := 4) laidOut (by kernel_rfl) rfl rfl Try.underlying4 ⟨rfl, rfl, rfl⟩ hW' hb⟩

theorem over : Rows.hdlcRefusesRow.holds Try.pinned (OpenSpec.ofChange Rows.hdlcRefusesSpec) :=
  OpenClaim.holds_of_wide 6 Try.f6 rfl rfl rfl rfl rfl rfl rfl ⟨rfl, rfl, rfl, rfl, rfl⟩ rfl rfl rfl rfl rfl (by kernel_rfl) Try.func6 (by kernel_rfl)
    (of_decide_eq_true (by kernel_rfl)) (by unfold Func.isWrapper; first | (rw [if_pos (by decide +kernel)]; kernel_rfl) | (rw [if_neg (by decide +kernel)]; exact ⟨rfl, rfl⟩))
    (fun os started H enc _ => lifted os started H enc)

theorem proved : Rows.HdlcRefusesSaid :=
  over
#print axioms proved
end Go.Proofs.Ytfcmpnfdgfdclaa.HdlcRefuses
