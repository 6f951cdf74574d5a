/- PROVED: 'halyardlaw04.HdlcBack' returns true for every informations, every map, whatever stands ahead, whatever mapped bytes come between, whatever number of bytes a piece has, and with one flag or two between frames, and leaves them as they were. No condition. -/
import Derived.Test.YtfcmpnfdgfdclaaHdlL
import Derived.Test.YtfcmpnfdgfdclaaLaw
import Derived.Test.YtfcmpnfdgfdclaaRows
namespace Go.Proofs.Ytfcmpnfdgfdclaa.HdlcBack
open Go.ChangeShapes Go.WideShapes Go.ChangeAt Go.RowKit Go.Proofs.Ytfcmpnfdgfdclaa.Oct Go.Proofs.Ytfcmpnfdgfdclaa.Row Go.Proofs.Ytfcmpnfdgfdclaa.Esc Go.Proofs.Ytfcmpnfdgfdclaa.Fcs Go.Proofs.Ytfcmpnfdgfdclaa.Hdl Go.Proofs.Ytfcmpnfdgfdclaa.Law
open Go.ChangeMaps (open_string shut_string)

set_option maxHeartbeats 8000000 in
set_option maxRecDepth 100000 in
theorem walk (A : Option Addr) (n c : Nat) (l : List ByteArray) (a : Nat) (ah : ByteArray) (An : Option Addr) (nn cn : Nat) (p : Nat) (sh : Bool) (hn : n ≤ maxLen) (ha : a < 4294967296) (has : ah.size ≤ maxLen) (hnn : nn ≤ maxLen) (hp : p < 256) (w : World) (hl : Strs w w.heap.size A n l) (hI : Ints w w.heap.size An nn .u8) :
    Calls Try.prog 4 #[.slice A n c, .int .u32 a, .string ah, .slice An nn cn, .int .u8 p, .bool sh] w fun e w' => e = .returned (.bool true) ∧ Below w.heap.size w w' := by
  obtain ⟨i0, hi, hz0, hz1, hz2⟩ := info_parts Try.info9
  obtain ⟨j0, hj, hy0, hy1, hy2⟩ := info_parts Hdl.Try.info5
  have Hl := Lib.hid hl
  have HI := Lib.hid hI; clear hI
  have Ha := Lib.hid ha; clear ha
  have Hn := Lib.hid hn
  unfold maxLen at hn has hnn
  go_enter Try.func4, Try.ntmps4
  go_wp2_with fail
  refine (fits_any A n c l _ hl Hn.out).mono ?_
  clear hl
  rintro e w1 ⟨b, rfl, hF, rfl⟩
  have HF := Lib.hid hF; clear hF
  cases b
  · go_wp2_with fail
    refine (alive_any _).mono ?_
    rintro e w1 ⟨rfl, hb1⟩
    go_wp2
    go_ret
    exact ⟨rfl, hb1⟩
  · have HFits := Lib.hid (HF.out rfl); clear HF
    by_cases h1 : 1024 < (ah.size : Int)
    · go_wp2_with fail
      refine (alive_any _).mono ?_
      rintro e w1 ⟨rfl, hb1⟩
      go_wp2
      go_ret
      exact ⟨rfl, hb1⟩
    · by_cases h2 : 1024 < (nn : Int)
      · go_wp2_with fail
        refine (alive_any _).mono ?_
        rintro e w1 ⟨rfl, hb1⟩
        go_wp2
        go_ret
        exact ⟨rfl, hb1⟩
      · have hn60 : n ≤ 60 := by rw [← Hl.out.1]; exact HFits.out.1
        have hd1 : decide (1024 < (ah.size : Int)) = false := decide_eq_false h1
        have hd2 : decide (1024 < (nn : Int)) = false := decide_eq_false h2
        go_wp2_with fail
        refine (new_yes 1508 a _ (by omega) (by omega)).mono ?_
        rintro e w1 ⟨rfl, hR1, hb1, hq1⟩
        have HR1 := Lib.hid hR1; clear hR1
        have Hb1 := Lib.hid hb1; clear hb1 hq1
        go_wp2_with fail
        refine (clean_any ah _ (by omega)).mono ?_
        rintro e w2 ⟨rfl, hb2⟩
        have HR2 := Lib.hid (HR1.out.below hb2)
        have Hb2 := Lib.hid (Hb1.out.trans (hb2.mono Hb1.out.size)); clear hb2
        have HG0 : Hid (Got (fresh 1508 a) a 0 (bOf (cleaned ah.toList)).toList []) := got_start a _ (by rw [toList_bOf]; exact cleaned_ne _)
        have hc0 : (bOf (cleaned ah.toList)).size ≤ 1024 := by have := cleaned_le ah.toList; rw [size_bOf]; rw [← size_toList] at this; omega
        have HI0 := Lib.hid (fresh_inv (m := 1508) (a := a) (by omega) (by omega) Ha.out)
        have HS0 := Lib.hid (fresh_small 1508 a)
        have HAcc : Hid ((fresh 1508 a).accm = a) := rfl
        generalize fresh 1508 a = r0 at *
        generalize bOf (cleaned ah.toList) = S0 at *
        go_wp2
        go_loopg [15, 16] n (fun gk sv i wr => ∃ (k : Nat) (S : ByteArray), k ≤ n ∧ gk = n - k ∧ i = .int .i64 k ∧ sv = .string S ∧ S.size ≤ 1024 + 3022 * k ∧ Hid (Got r0 a k S.toList (l.take k)) ∧ Hid (Below w2.heap.size w2 wr))
        case atStart => exact ⟨0, S0, Nat.zero_le _, rfl, rfl, rfl, hc0, HG0, Below.refl _ _⟩
        case round =>
          obtain ⟨k, S, hk, hgk, rfl, rfl, hSs, HG, HB⟩ := hrel
          have Hgk := Lib.hid hgk; clear hgk
          have HBw := Lib.hid (Hb2.out.trans (HB.out.mono Hb2.out.size))
          by_cases hlt : k < n
          · obtain ⟨ad, u, rfl, hB, hu, hul, hc⟩ := (Hl.out.below HBw.out).at_ hlt
            have HN := Lib.hid (take_next hu)
            have hok := HFits.out.2.2 u (List.mem_of_getElem? hu)
            clear hu hul
            obtain ⟨hok1, hok2⟩ := hok
            obtain ⟨Fr, hFr⟩ : ∃ Fr, bOf (126 :: (put a (seal_ u.toList) ++ [126])) = Fr := ⟨_, rfl⟩
            have hF1 : Fr.toList.isEmpty = false := by rw [← hFr, toList_bOf]; rfl
            have hF2 : ¬ Fr.toList = [] := by intro h; rw [h] at hF1; cases hF1
            have hF3 : Fr.size ≤ 3022 := by
              have h1 := (put_le a (seal_ u.toList)).2
              rw [seal_length, ← size_toList] at h1
              rw [← hFr, size_bOf]
              simp
              omega
            have hF4 : 1 ≤ Fr.size := by rw [← hFr, size_bOf]; simp
            have HFr := Lib.hid hFr; clear hFr
            have HGW : Hid (Got r0 a (k + 1) (S ++ Fr).toList (l.take (k + 1))) := by
              show Got _ _ _ _ _
              rw [HN.out, append_bOf, toList_bOf, ← HFr.out, toList_bOf]
              exact got_whole HG.out u hok1 hok2
            have HGT : Hid (0 < k → Got r0 a (k + 1) (S ++ Fr.extract 1 Fr.size).toList (l.take (k + 1))) := by
              intro h0
              rw [HN.out, append_bOf, toList_bOf, extract_rest, toList_bOf, ← HFr.out, toList_bOf]
              exact got_tail HG.out h0 u hok1 hok2
            have hsz1 : (S ++ Fr).size ≤ 1024 + 3022 * (k + 1) := by rw [ByteArray.size_append]; omega
            have hsz2 : (S ++ Fr.extract 1 Fr.size).size ≤ 1024 + 3022 * (k + 1) := by rw [ByteArray.size_append, ByteArray.size_extract]; omega
            cases sh
            · go_wp2_with fail
              refine (frame_any u a _ (by omega) Ha.out).mono ?_
              rw [HFr.out]
              rintro e w3 ⟨rfl, hb3⟩
              have HB3 : Hid (Below w2.heap.size w2 w3) := HB.out.trans (hb3.mono HB.out.size)
              clear hb3
              go_wp2
              go_roundg (n - (k + 1))
              case measure => rw [Hgk.out]; omega
              case rel => exact ⟨k + 1, _, by omega, rfl, by go_num, rfl, hsz1, HGW, HB3⟩
            · by_cases hk0 : 0 < k
              · have HGT' := Lib.hid (HGT.out hk0)
                have hk0' : (0 : Int) < k := by omega
                go_wp2_with fail
                refine (frame_any u a _ (by omega) Ha.out).mono ?_
                rw [HFr.out]
                rintro e w3 ⟨rfl, hb3⟩
                have HB3 : Hid (Below w2.heap.size w2 w3) := HB.out.trans (hb3.mono HB.out.size)
                clear hb3
                have hF5 : (Fr.extract 1 Fr.size).size ≤ 3022 := by rw [ByteArray.size_extract]; omega
                go_wp2
                go_roundg (n - (k + 1))
                case measure => rw [Hgk.out]; omega
                case rel => exact ⟨k + 1, _, by omega, rfl, by go_num, rfl, hsz2, HGT', HB3⟩
              · have hk0' : decide ((0 : Int) < k) = false := decide_eq_false (by omega)
                go_wp2_with fail
                refine (frame_any u a _ (by omega) Ha.out).mono ?_
                rw [HFr.out]
                rintro e w3 ⟨rfl, hb3⟩
                have HB3 : Hid (Below w2.heap.size w2 w3) := HB.out.trans (hb3.mono HB.out.size)
                clear hb3
                go_wp2
                go_roundg (n - (k + 1))
                case measure => rw [Hgk.out]; omega
                case rel => exact ⟨k + 1, _, by omega, rfl, by go_num, rfl, hsz1, HGW, HB3⟩
          · obtain rfl : k = n := by omega
            rw [show l.take k = l from List.take_of_length_le (by rw [Hl.out.1]; exact Nat.le_refl _)] at HG
            clear Hgk hc0 HG0
            obtain ⟨w3, rfl⟩ : ∃ x, x = wr := ⟨_, rfl⟩
            have HR3 := Lib.hid (HR2.out.below HB.out)
            clear HR2 HR1 Hb1 hd1 hd2
            have hSs' : S.size ≤ 182344 := by omega
            go_wp2
            go_loopg [18, 19] S.size (fun gk v i wr => ∃ (q : Nat) (L : List UInt8), q ≤ S.size ∧ gk = S.size - q ∧ i = .int .i64 q ∧ L.length ≤ 2 * q ∧ Hid (wr.ownsRow w3.heap.size 5 1 v L.length (bytesV L) ∧ Below w3.heap.size w3 wr) ∧ Hid (feeds r0 L = feeds r0 (S.toList.take q) ∧ outs r0 L = outs r0 (S.toList.take q)))
            case atStart => exact ⟨0, [], Nat.zero_le _, rfl, rfl, Nat.zero_le _, ⟨World.ownsRow_nil _ _ _ _, Below.refl _ _⟩, rfl, rfl⟩
            case round =>
              obtain ⟨q, L, hq, hgk, rfl, hLq, HO, HE⟩ := hrel
              have Hgk := Lib.hid hgk; clear hgk
              have hsz := HO.out.2.size
              by_cases hlt2 : q < S.size
              · obtain ⟨x, hsx⟩ : ∃ x, S[q] = x := ⟨_, rfl⟩
                have HT : Hid (S.toList.take (q + 1) = S.toList.take q ++ [x]) := by show _ = _; rw [at_take S q hlt2, hsx]
                have HEx : Hid (feeds r0 (L ++ [x]) = feeds r0 (S.toList.take (q + 1)) ∧ outs r0 (L ++ [x]) = outs r0 (S.toList.take (q + 1))) := by
                  show _ ∧ _
                  rw [HT.out, feeds_snoc, feeds_snoc, outs_snoc, outs_snoc, HE.out.1, HE.out.2]
                  exact ⟨rfl, rfl⟩
                have hL1 : L.length + 1 ≤ 1000000 := by omega
                by_cases hn0 : 0 < nn
                · have hn0' : (0 : Int) < nn := by omega
                  have hqm : q % nn < nn := Nat.mod_lt _ hn0
                  obtain ⟨ad, z, rfl, hB, hc, hwf⟩ := (HI.out.below (HBw.out.trans (HO.out.2.mono HBw.out.size))) (q % nn) hqm
                  have hzb := bounds_u8 hwf
                  obtain ⟨y, rfl⟩ : ∃ y : UInt8, (y.toNat : Int) = z := ⟨UInt8.ofNat z.toNat, by rw [UInt8.toNat_ofNat']; omega⟩
                  clear hwf hzb
                  have hL2 : (L ++ [y]).length + 1 ≤ 1000000 := by rw [List.length_append, List.length_singleton]; omega
                  cases hmy : mapped a y
                  · have HM := Lib.hid hmy; clear hmy
                    go_wp2_with fail
                    refine (mapped_any a y _ Ha.out).mono ?_
                    rw [HM.out]
                    rintro e w4 ⟨rfl, rfl⟩
                    go_wp2_with (at_builtin; refine wpList_append_own _ rfl _ _ 46 rfl w3.heap.size 5 j0 (.int .u8 0) 1 1 Try.underlying46 hj hy0 hy1 hy2 rfl (by decide) u18 L.length (bytesV L) rfl (HO.out.1.alloc _) ⟨wr.heap.size, 0, none⟩ 1 1 (bytesV [x]) rfl rfl (cells_new _ _ _) (bytesV_one _) (by unfold maxLen; omega) (by omega) (by simp; omega) ?_; intro v5 w5 hown5 hgr5 _; rw [← bytesV_append, show L.length + 1 = (L ++ [x]).length from (by simp)] at hown5; have Hown5 := Lib.hid hown5; clear hown5; have Hbb5 := Lib.hid ((HO.out.2.alloc hsz (.cells (bytesV [x]).toArray 5)).grown hgr5 (by simp; omega) (fun q hq => (HO.out.1.lt q hq).1)); clear hgr5)
                    go_roundg (S.size - (q + 1))
                    case measure => rw [Hgk.out]; omega
                    case rel => exact ⟨q + 1, L ++ [x], by omega, rfl, by go_num, by simp; omega, ⟨Hown5.out, Hbb5.out⟩, HEx⟩
                  · have HM := Lib.hid hmy
                    have HEy : Hid (feeds r0 ((L ++ [y]) ++ [x]) = feeds r0 (S.toList.take (q + 1)) ∧ outs r0 ((L ++ [y]) ++ [x]) = outs r0 (S.toList.take (q + 1))) := by
                      have hacc : mapped (feeds r0 L).accm y = true := by rw [(feeds_fix r0 L).2, HAcc.out]; exact hmy
                      have hfm := feed_mapped hacc
                      have h := HEx.out
                      rw [feeds_snoc, outs_snoc] at h
                      show _ ∧ _
                      rw [feeds_snoc, outs_snoc, feeds_snoc, outs_snoc, hfm.1, hfm.2, List.append_nil]
                      exact h
                    clear hmy
                    go_wp2_with fail
                    refine (mapped_any a y _ Ha.out).mono ?_
                    rw [HM.out]
                    rintro e w4 ⟨rfl, rfl⟩
                    go_wp2_with (first
                      | (at_builtin; refine wpList_append_own _ rfl _ _ 46 rfl w3.heap.size 5 j0 (.int .u8 0) 1 1 Try.underlying46 hj hy0 hy1 hy2 rfl (by decide) u18 L.length (bytesV L) rfl (HO.out.1.alloc _) ⟨wr.heap.size, 0, none⟩ 1 1 (bytesV [y]) rfl rfl (cells_new _ _ _) (bytesV_one _) (by unfold maxLen; omega) (by omega) (by simp; omega) ?_; intro v5 w5 hown5 hgr5 _; rw [← bytesV_append, show L.length + 1 = (L ++ [y]).length from (by simp)] at hown5; have Hown5 := Lib.hid hown5; clear hown5; have Hbb5 := Lib.hid ((HO.out.2.alloc hsz (.cells (bytesV [y]).toArray 5)).grown hgr5 (by simp; omega) (fun q hq => (HO.out.1.lt q hq).1)); clear hgr5; have hsz5 := Hbb5.out.size)
                      | (at_builtin; refine wpList_append_own _ rfl _ _ 46 rfl w3.heap.size 5 j0 (.int .u8 0) 1 1 Try.underlying46 hj hy0 hy1 hy2 rfl (by decide) v5 (L ++ [y]).length (bytesV (L ++ [y])) rfl (Hown5.out.alloc _) ⟨w5.heap.size, 0, none⟩ 1 1 (bytesV [x]) rfl rfl (cells_new _ _ _) (bytesV_one _) (by unfold maxLen; omega) (by omega) (by simp; omega) ?_; intro v6 w6 hown6 hgr6 _; rw [← bytesV_append, show (L ++ [y]).length + 1 = ((L ++ [y]) ++ [x]).length from (by simp)] at hown6; have Hown6 := Lib.hid hown6; clear hown6; have Hbb6 := Lib.hid ((Hbb5.out.alloc hsz5 (.cells (bytesV [x]).toArray 5)).grown hgr6 (by simp; omega) (fun q hq => (Hown5.out.lt q hq).1)); clear hgr6))
                    go_roundg (S.size - (q + 1))
                    case measure => rw [Hgk.out]; omega
                    case rel => exact ⟨q + 1, (L ++ [y]) ++ [x], by omega, rfl, by go_num, by simp; omega, ⟨Hown6.out, Hbb6.out⟩, HEy⟩
                · have hn0' : decide ((0 : Int) < nn) = false := decide_eq_false (by omega)
                  go_wp2_with (at_builtin; refine wpList_append_own _ rfl _ _ 46 rfl w3.heap.size 5 j0 (.int .u8 0) 1 1 Try.underlying46 hj hy0 hy1 hy2 rfl (by decide) u18 L.length (bytesV L) rfl (HO.out.1.alloc _) ⟨wr.heap.size, 0, none⟩ 1 1 (bytesV [x]) rfl rfl (cells_new _ _ _) (bytesV_one _) (by unfold maxLen; omega) (by omega) (by simp; omega) ?_; intro v5 w5 hown5 hgr5 _; rw [← bytesV_append, show L.length + 1 = (L ++ [x]).length from (by simp)] at hown5; have Hown5 := Lib.hid hown5; clear hown5; have Hbb5 := Lib.hid ((HO.out.2.alloc hsz (.cells (bytesV [x]).toArray 5)).grown hgr5 (by simp; omega) (fun q hq => (HO.out.1.lt q hq).1)); clear hgr5)
                  go_roundg (S.size - (q + 1))
                  case measure => rw [Hgk.out]; omega
                  case rel => exact ⟨q + 1, L ++ [x], by omega, rfl, by go_num, by simp; omega, ⟨Hown5.out, Hbb5.out⟩, HEx⟩
              · obtain rfl : q = S.size := by omega
                rw [take_all] at HE
                have HG2 : Hid (Got r0 a k L l) := by
                  show Got _ _ _ _ _
                  have h := HG.out
                  unfold Got at h ⊢
                  rw [HE.out.1, HE.out.2]
                  exact h
                clear HE Hgk HG
                obtain ⟨w4, rfl⟩ : ∃ x, x = wr := ⟨_, rfl⟩
                have HR4 := Lib.hid (HR3.out.below HO.out.2)
                have HB4 := Lib.hid (HBw.out.trans (HO.out.2.mono HBw.out.size))
                have hg3 := HR3.out.lt
                have hLs : L.length ≤ 364688 := by omega
                have HOw := Lib.hid HO.out.1
                clear HO HR3 HB
                generalize hQ : L.length = Q at *
                obtain ⟨A4, c4, rfl⟩ := own_slice HOw.out
                go_wp2
                go_loopg [21, 22] (Q + 1) (fun gk u i wr => ∃ j : Nat, j ≤ Q + 256 ∧ gk = Q + 1 - j ∧ i = .int .i64 j ∧ PieS w.heap.size w4 w.heap.size r0 (L.take j) u wr)
                case atStart => exact ⟨0, Nat.zero_le _, rfl, rfl, _, HR4.out, Moves.refl _ _, (fun k hk => by cases hk), World.ownsRow_nil _ _ _ _⟩
                case round =>
                  obtain ⟨j, hj2, hgk, rfl, va, hRa, hM, hV, hT⟩ := hrel
                  have Hgk := Lib.hid hgk; clear hgk
                  have HRa := Lib.hid hRa; clear hRa
                  have HM := Lib.hid hM; clear hM
                  have HV := Lib.hid hV; clear hV
                  have HT := Lib.hid hT; clear hT
                  have hll : (L.take j).length ≤ 364688 := by rw [List.length_take]; omega
                  have HIj := Lib.hid (feeds_inv HI0.out (L.take j))
                  have HSm : Hid (Small (feeds r0 (L.take j)) 364688) := small_mono (feeds_small HS0.out (L.take j)) (by omega)
                  have hol := outs_le r0 (L.take j)
                  by_cases hlt3 : j < Q
                  · have HTk := Lib.hid (take_piece L j (1 + p))
                    obtain ⟨g4, rfl⟩ : ∃ g4, A4 = some ⟨g4, 0, none⟩ := by
                      rcases HOw.out.2 with ⟨h, h0⟩ | ⟨gg, cap, cur, h, _⟩
                      · omega
                      · cases h; exact ⟨gg, rfl⟩
                    have hcap := own_cap HOw.out
                    have HOr : Hid (wr.ownsRow w3.heap.size 5 1 (.slice (some ⟨g4, 0, none⟩) Q c4) Q (bytesV L)) := HM.out.row HOw.out fun k hk h => by subst h; have := (HOw.out.lt _ hk).1; omega
                    have HRd := Lib.hid (reads_own HOr.out)
                    unfold maxLen at hcap
                    by_cases hmn : j + (1 + p) ≤ Q
                    · have hmi : (j : Int) + (1 + (p : Int)) ≤ (Q : Int) := by omega
                      have hcv := conv_part (j := j) (m := 1 + p) (c := c4 - j) Try.underlying46 Try.underlying5 Try.underlying9 HRd.out (by rw [hQ]; exact hmn)
                      have HXs : Hid ((bOf ((L.drop j).take (1 + p))).size ≤ 256) := by show _ ≤ _; rw [size_bOf, List.length_take]; omega
                      generalize L.take j = l1 at *
                      go_wp2_with fail
                      refine (push_q _ _ _ _ _ _ HRa.out HIj.out 364688 HSm.out (by have := HXs.out; omega) (by have := HXs.out; omega)).mono ?_
                      rw [toList_bOf]
                      rintro e w5 ⟨A5, c5, v1, rfl, hT5, hR5, hM5, hW5⟩
                      have HR5 := Lib.hid hR5; clear hR5
                      have HM5 := Lib.hid hM5; clear hM5
                      have HW5 := Lib.hid hW5; clear hW5
                      have hol2 := outs_le (feeds r0 l1) ((L.drop j).take (1 + p))
                      have hpl : ((L.drop j).take (1 + p)).length ≤ 256 := by rw [List.length_take]; omega
                      have hsz5 : w4.heap.size ≤ w5.heap.size := Nat.le_trans HM.out.size HM5.out.size
                      have HT5' := Lib.hid (HT.out.past HRa.out HM5.out)
                      rcases hT5.2 with ⟨hnil, hl0⟩ | ⟨gg, cap, cur, heq, _⟩
                      · obtain ⟨rfl, _, rfl⟩ : A5 = none ∧ True ∧ c5 = 0 := by cases A5 with | none => exact ⟨rfl, trivial, by simp at hnil; exact hnil.2⟩ | some x => simp at hnil
                        rw [hl0]
                        have Hl0 := Lib.hid hl0; clear hl0 hnil hT5
                        go_wp2_with (at_builtin; refine wpList_append_own_none rfl _ _ 27 rfl w4.heap.size 9 i0 1 Try.underlying27 hi u21 (outs r0 l1).length (textsV (outs r0 l1)) rfl HT5'.out rfl ?_)
                        go_roundg (Q + 1 - (j + (1 + p)))
                        case measure => rw [Hgk.out]; omega
                        case rel =>
                          refine ⟨j + (1 + p), by omega, rfl, by go_num, ?_⟩
                          rw [HTk.out]
                          exact pies_none HRa.out HV.out HM.out HT.out Hl0.out HR5.out HM5.out HW5.out
                      · obtain ⟨rfl, rfl⟩ : A5 = some ⟨gg, 0, none⟩ ∧ c5 = cap := by simp at heq; exact heq
                        have HT5 := Lib.hid hT5; clear hT5 heq
                        go_wp2_with (at_builtin; refine wpList_append_own _ rfl _ _ 27 rfl w4.heap.size 9 i0 (.string ByteArray.empty) 1 16 Try.underlying27 hi hz0 hz1 hz2 rfl (by decide) u21 (outs r0 l1).length (textsV (outs r0 l1)) rfl HT5'.out ⟨gg, 0, none⟩ (outs (feeds r0 l1) ((L.drop j).take (1 + p))).length c5 (textsV (outs (feeds r0 l1) ((L.drop j).take (1 + p)))) rfl (by rw [textsV_length, Nat.mul_one]) (HT5.out.cells rfl) (texts_one _) (by unfold maxLen; omega) (by omega) (by omega) ?_; intro u4 w6 hown6 hgr6 _; have Hown6 := Lib.hid hown6; clear hown6; have Hgr6 := Lib.hid hgr6; clear hgr6)
                        go_roundg (Q + 1 - (j + (1 + p)))
                        case measure => rw [Hgk.out]; omega
                        case rel =>
                          refine ⟨j + (1 + p), by omega, rfl, by go_num, ?_⟩
                          rw [HTk.out]
                          exact pies_some HRa.out HV.out HM.out HT.out HR5.out HM5.out HW5.out Hgr6.out Hown6.out
                    · have hmi : ¬ (j : Int) + (1 + (p : Int)) ≤ (Q : Int) := by omega
                      have HDr : Hid ((L.drop j).take (Q - j) = (L.drop j).take (1 + p)) := by
                        show _ = _
                        rw [List.take_of_length_le (by rw [List.length_drop]; omega), List.take_of_length_le (by rw [List.length_drop]; omega)]
                      have hcv := conv_part (j := j) (m := Q - j) (c := c4 - j) Try.underlying46 Try.underlying5 Try.underlying9 HRd.out (by rw [hQ]; omega)
                      rw [HDr.out] at hcv
                      have HXs : Hid ((bOf ((L.drop j).take (1 + p))).size ≤ 256) := by show _ ≤ _; rw [size_bOf, List.length_take]; omega
                      generalize L.take j = l1 at *
                      go_wp2_with fail
                      refine (push_q _ _ _ _ _ _ HRa.out HIj.out 364688 HSm.out (by have := HXs.out; omega) (by have := HXs.out; omega)).mono ?_
                      rw [toList_bOf]
                      rintro e w5 ⟨A5, c5, v1, rfl, hT5, hR5, hM5, hW5⟩
                      have HR5 := Lib.hid hR5; clear hR5
                      have HM5 := Lib.hid hM5; clear hM5
                      have HW5 := Lib.hid hW5; clear hW5
                      have hol2 := outs_le (feeds r0 l1) ((L.drop j).take (1 + p))
                      have hpl : ((L.drop j).take (1 + p)).length ≤ 256 := by rw [List.length_take]; omega
                      have hsz5 : w4.heap.size ≤ w5.heap.size := Nat.le_trans HM.out.size HM5.out.size
                      have HT5' := Lib.hid (HT.out.past HRa.out HM5.out)
                      rcases hT5.2 with ⟨hnil, hl0⟩ | ⟨gg, cap, cur, heq, _⟩
                      · obtain ⟨rfl, _, rfl⟩ : A5 = none ∧ True ∧ c5 = 0 := by cases A5 with | none => exact ⟨rfl, trivial, by simp at hnil; exact hnil.2⟩ | some x => simp at hnil
                        rw [hl0]
                        have Hl0 := Lib.hid hl0; clear hl0 hnil hT5
                        go_wp2_with (at_builtin; refine wpList_append_own_none rfl _ _ 27 rfl w4.heap.size 9 i0 1 Try.underlying27 hi u21 (outs r0 l1).length (textsV (outs r0 l1)) rfl HT5'.out rfl ?_)
                        go_roundg (Q + 1 - (j + (1 + p)))
                        case measure => rw [Hgk.out]; omega
                        case rel =>
                          refine ⟨j + (1 + p), by omega, rfl, by go_num, ?_⟩
                          rw [HTk.out]
                          exact pies_none HRa.out HV.out HM.out HT.out Hl0.out HR5.out HM5.out HW5.out
                      · obtain ⟨rfl, rfl⟩ : A5 = some ⟨gg, 0, none⟩ ∧ c5 = cap := by simp at heq; exact heq
                        have HT5 := Lib.hid hT5; clear hT5 heq
                        go_wp2_with (at_builtin; refine wpList_append_own _ rfl _ _ 27 rfl w4.heap.size 9 i0 (.string ByteArray.empty) 1 16 Try.underlying27 hi hz0 hz1 hz2 rfl (by decide) u21 (outs r0 l1).length (textsV (outs r0 l1)) rfl HT5'.out ⟨gg, 0, none⟩ (outs (feeds r0 l1) ((L.drop j).take (1 + p))).length c5 (textsV (outs (feeds r0 l1) ((L.drop j).take (1 + p)))) rfl (by rw [textsV_length, Nat.mul_one]) (HT5.out.cells rfl) (texts_one _) (by unfold maxLen; omega) (by omega) (by omega) ?_; intro u4 w6 hown6 hgr6 _; have Hown6 := Lib.hid hown6; clear hown6; have Hgr6 := Lib.hid hgr6; clear hgr6)
                        go_roundg (Q + 1 - (j + (1 + p)))
                        case measure => rw [Hgk.out]; omega
                        case rel =>
                          refine ⟨j + (1 + p), by omega, rfl, by go_num, ?_⟩
                          rw [HTk.out]
                          exact pies_some HRa.out HV.out HM.out HT.out HR5.out HM5.out HW5.out Hgr6.out Hown6.out
                  · have HAll : Hid (L.take j = L) := List.take_of_length_le (by omega)
                    rw [HAll.out] at HRa HT hol
                    have hgot := HG2.out
                    unfold Got at hgot
                    obtain ⟨g1, g2, g3, g4, g5, g6, g7, g8, g9, g10⟩ := hgot
                    have HV : Hid (heardV (feeds r0 L) = .agg #[.int .i64 k, .int .i64 0, .int .i64 0, .int .i64 0, .int .i64 0]) := by
                      show _ = _
                      unfold heardV
                      rw [g2, g3, g4, g5, g6]
                      rfl
                    have HIn : Hid (inside (feeds r0 L) = false) := by show _ = _; unfold inside; rw [g1]; rfl
                    rw [g10] at HT hol
                    clear g1 g2 g3 g4 g5 g6 g7 g8 g9 g10
                    have HBf := Lib.hid (HB4.out.trans (HM.out.below HB4.out.size fun k hk => by omega))
                    have HSt := Lib.hid (Hl.out.below HBf.out)
                    obtain ⟨A', c', rfl⟩ := HT.out.form
                    have hlk := Hl.out.1
                    have Hlk := Lib.hid hlk; clear hlk
                    rw [Hlk.out]
                    clear hll HIj HSm HG2
                    go_wp2_with fail
                    refine (same_q _ _ _ _ _ _ l l _ true Hn.out (by have := HT.out.strs HSt.out.2.1; rw [Hlk.out] at this; exact this) (HSt.out.more HBf.out.size) (decide_eq_true rfl)).mono ?_
                    rintro e w5 ⟨rfl, hb5⟩
                    have HR5 := Lib.hid (HRa.out.below hb5)
                    have HB5 := Lib.hid (HBf.out.trans (hb5.mono HBf.out.size)); clear hb5
                    go_wp2_with fail
                    refine (heard_any _ _ _ _ _ HR5.out).mono ?_
                    rw [HV.out]
                    rintro e w6 ⟨rfl, hb6⟩
                    have HR6 := Lib.hid (HR5.out.below hb6)
                    have HB6 := Lib.hid (HB5.out.trans (hb6.mono HB5.out.size)); clear hb6
                    go_wp2_with fail
                    refine (inside_any _ _ _ _ _ HR6.out).mono ?_
                    rw [HIn.out]
                    rintro e w7 ⟨rfl, rfl⟩
                    go_wp2_with fail
                    refine (alive_any _).mono ?_
                    rintro e w8 ⟨rfl, hb8⟩
                    go_wp2
                    go_ret
                    exact ⟨rfl, HB6.out.trans (hb8.mono HB6.out.size)⟩

set_option maxRecDepth 100000 in
theorem lifted (os : Os) (started : os.Started) (H : Type) (enc : TypeId × Value → H) :
    ReturnsInHanded {} Try.checked os 4 .any (Rows.hdlcBackSpec.pre6 enc Try.prog Try.f4 Rows.hdlcBackRow.domain false) (Rows.hdlcBackSpec.post enc Try.prog Try.f4 false true false false) := by
  refine returnsInHanded_of_change (C := Try.checked) own started (by kernel_rfl) Try.func4
    (ChangeSpec.witness6 (enc := enc) (C := Try.checked) false ⟨#[], #[.slice none 0 0, .int .u32 0, .string ByteArray.empty, .slice none 0 0, .int .u8 0, .bool false], []⟩ 8 (by kernel_rfl) (by kernel_rfl) (by kernel_rfl) (by kernel_rfl)) ?_
  intro W base args ds gs before hval0 hW hcnd _
  have hval : ∀ (j : Nat) t v, Try.f4.params[j]? = some t → args[j]? = some v → Value.okWide Try.prog W .any base t v := hval0
  have hW' := hW
  obtain ⟨p, q, hA0, hV, rfl, hfz, hnd⟩ := hW
  have hlt := hW'.lt
  have hA : DataW.TrodAll enc Try.prog W 0 (fun _ => true) true Try.f4.params.toList args.toList ds p := hA0
  rw [Try.params4] at hA hval
  obtain ⟨v0, vs0, d0, ds0, p0, q0, hargs, rfl, rfl, h0, r0⟩ := trodAll_cons hA
  obtain ⟨v1, vs1, d1, ds1, p1, q1, rfl, rfl, rfl, h1, r1⟩ := trodAll_cons r0
  obtain ⟨v2, vs2, d2, ds2, p2, q2, rfl, rfl, rfl, h2, r2⟩ := trodAll_cons r1
  obtain ⟨v3, vs3, d3, ds3, p3, q3, rfl, rfl, rfl, h3, r3⟩ := trodAll_cons r2
  obtain ⟨v4, vs4, d4, ds4, p4, q4, rfl, rfl, rfl, h4, r4⟩ := trodAll_cons r3
  obtain ⟨v5, vs5, d5, ds5, p5, q5, rfl, rfl, rfl, h5, r5⟩ := trodAll_cons r4
  obtain ⟨rfl, rfl, rfl⟩ := trodAll_nil r5
  obtain rfl : args = #[v0, v1, v2, v3, v4, v5] := by cases args; simp_all
  obtain ⟨rfl, rfl⟩ := trodVars_none hV
  obtain ⟨A0, n0, c0, rfl, m0, l0, hS0⟩ := strs_of Try.underlying27 Try.underlying9 (by kernel_rfl) (hval 0 27 v0 rfl rfl) h0
  obtain ⟨z1, rfl, rfl, rfl, w1⟩ := open_int Try.underlying22 (hval 1 22 v1 rfl rfl) h1
  obtain ⟨a1, rfl⟩ : ∃ n : Nat, z1 = n := ⟨z1.toNat, by have := bounds_u32 w1; omega⟩
  have b1 := bounds_u32 w1
  obtain ⟨a2, rfl, rfl, rfl, w2⟩ := open_string Try.underlying9 (hval 2 9 v2 rfl rfl) h2
  obtain ⟨A3, n3, c3, rfl, m3, hI3⟩ := ints_of Try.underlying46 Try.underlying5 (by kernel_rfl) (hval 3 46 v3 rfl rfl) h3
  obtain ⟨z4, rfl, rfl, rfl, w4⟩ := open_int Try.underlying5 (hval 4 5 v4 rfl rfl) h4
  obtain ⟨a4, rfl⟩ : ∃ n : Nat, z4 = n := ⟨z4.toNat, by have := bounds_u8 w4; omega⟩
  have b4 := bounds_u8 w4
  obtain ⟨a5, rfl, rfl, rfl⟩ := open_bool Try.underlying4 (hval 5 4 v5 rfl rfl) h5
  clear hA0 hval0
  exact (walk A0 n0 c0 l0 a1 a2 A3 n3 c3 a4 a5 m0 (by omega) w2 m3 (by omega) W hS0 hI3).mono fun e W' ⟨he, hb⟩ => ⟨_, he, law_post (t := 4) laidOut (by kernel_rfl) rfl rfl Try.underlying4 ⟨rfl, rfl, rfl⟩ hW' hb⟩

theorem over : Rows.hdlcBackRow.holds Try.pinned (OpenSpec.ofChange Rows.hdlcBackSpec) :=
  OpenClaim.holds_of_wide 4 Try.f4 rfl rfl rfl rfl rfl rfl rfl ⟨rfl, rfl, rfl, rfl, rfl⟩ rfl rfl rfl rfl rfl (by kernel_rfl) Try.func4 (by kernel_rfl)
    (of_decide_eq_true (by kernel_rfl)) (by unfold Func.isWrapper; first | (rw [if_pos (by decide +kernel)]; kernel_rfl) | (rw [if_neg (by decide +kernel)]; exact ⟨rfl, rfl⟩))
    (fun os started H enc _ => lifted os started H enc)

theorem proved : Rows.HdlcBackSaid :=
  over
#print axioms proved
end Go.Proofs.Ytfcmpnfdgfdclaa.HdlcBack
