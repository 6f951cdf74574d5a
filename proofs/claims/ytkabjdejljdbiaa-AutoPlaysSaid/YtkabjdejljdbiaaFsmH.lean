/- Contract of the document's Next where a combination can be. -/
import Derived.Test.YtkabjdejljdbiaaFsmG
namespace Go.Proofs.Ytkabjdejljdbiaa.Fsm
open Go.RowKit Go.Proofs.Ytkabjdejljdbiaa.Oct Go.Proofs.Ytkabjdejljdbiaa.Row Go.Proofs.Ytkabjdejljdbiaa.Mem

theorem dig : ∀ n, n < 10 → (48 + UInt8.ofNat n).toNat = 48 + n := by decide
set_option maxHeartbeats 2000000 in
set_option maxRecDepth 100000 in
theorem rnext_one (s e n : Nat) (w : World) (hs : s < 10) (he : e < 16) (hc : ¬ (cellB e s).toList = [45]) (hh : (halfB (cellB e s)).length = 1) (hL : (lastB (cellB e s)).toList = [48 + UInt8.ofNat n]) (hn : n < 10) :
    Calls Try.prog 29 #[.int .u8 s, .int .u8 e] w fun x w' => x = .returned (.tuple #[.int .u16 0, .int .u8 n, .int .i64 0]) ∧ Below w.heap.size w w' := by
  obtain ⟨k1, k2, k3⟩ := line_ok e he
  have HL := Lib.hid (fun w => lines_any w)
  have HP := Lib.hid (fun w => parts_any (lineB e) 32 w (by omega))
  have HE := Lib.hid (show linesL[e]? = some (lineB e) by unfold lineB; rw [List.getD_eq_getElem?_getD, List.getElem?_eq_getElem (show e < linesL.length from he)]; rfl)
  have hC0 : (pcs (lineB e) 32)[s]? = some (cellB e s) := by unfold cellB; rw [List.getD_eq_getElem?_getD, List.getElem?_eq_getElem (show s < (pcs (lineB e) 32).length by omega)]; rfl
  have HC := Lib.hid hC0
  have HZ := Lib.hid (k3 _ (List.mem_of_getElem? hC0))
  have HK := Lib.hid k2
  have h1 : (s : Int) < 10 := by omega
  have h2 : (e : Int) < 16 := by omega
  have h3 : (0 : Int) ≤ s := Int.natCast_nonneg s
  have h4 : (0 : Int) ≤ e := Int.natCast_nonneg e
  have hcc : ((cellB e s).toList == [45]) = false := by rw [beq_eq_false_iff_ne]; exact hc
  have HH := Lib.hid hh
  have HLast := Lib.hid hL
  clear k1 k2 k3 hc hC0 hh hL
  generalize cellB e s = C at *
  have HP2 := Lib.hid (fun w => parts_any C 47 w (by have := HZ.out.1; omega))
  have HH0 : Hid ((halfB C)[0]? = some (lastB C)) := by
    show _ = _
    unfold lastB
    rw [List.getD_eq_getElem?_getD, HH.out, List.getElem?_eq_getElem (show 0 < (halfB C).length by rw [HH.out]; decide)]
    rfl
  go_enter Try.func29, Try.ntmps29
  go_wp2_with fail
  refine (HL.out _).mono ?_
  rintro x w1 ⟨rfl, hw1⟩
  have hc1 : w1.cell? ⟨w.heap.size, e, none⟩ = some (.string (lineB e)) := by rw [hw1, texts_at, HE.out]; rfl
  have HB1 : Hid (Below w.heap.size w w1) := by rw [hw1]; exact (Below.refl _ w).alloc (Nat.le_refl _) _
  clear hw1
  go_wp2_with fail
  refine (HP.out _).mono ?_
  rintro x w2 ⟨v, rfl, hown, hb⟩
  have HB2 := Lib.hid (HB1.out.trans (hb.mono HB1.out.size))
  obtain ⟨g, c, rfl, hat⟩ := own_at hown (by rw [HK.out]; decide)
  have c1 := hat s C HC.out
  rw [HK.out]
  clear hown hb hat hc1
  go_wp2_with fail
  refine (HP2.out _).mono ?_
  rintro x w3 ⟨v, rfl, hown, hb⟩
  have HB3 := Lib.hid (HB2.out.trans (hb.mono HB2.out.size))
  obtain ⟨g3, c3, rfl, hat⟩ := own_at hown (by show 0 < (halfB C).length; rw [HH.out]; decide)
  have d0 := hat 0 (lastB C) HH0.out
  rw [show (pcs C 47).length = 1 from HH.out]
  clear hown hb hat c1
  have hz : (lastB C).size = 1 := by rw [size_toList, HLast.out]; rfl
  have hz0 : 0 < (lastB C).size := by omega
  have HN : Hid (((lastB C)[0]'hz0).toNat = 48 + n) := by
    show _ = _
    rw [getElem_toList]
    simp only [HLast.out, List.getElem_cons_zero]
    exact dig n hn
  generalize lastB C = L at *
  have HZ1 := Lib.hid hz
  clear hz
  have hn0 : (0 : Int) ≤ n := Int.natCast_nonneg n
  have hn1 : (n : Int) < 10 := by omega
  have HV : Hid ((((L[0]'hz0).toNat : Int) - 48) % 256 = n) := by
    show _ = _
    rw [HN.out]
    omega
  go_wp2
  go_quiet (fail)
  go_wp2
  rw [HV.out]
  go_ret3
  exact ⟨rfl, HB3.out.drewN' _⟩
theorem prt_ne (b : UInt8) : ∀ (L cur : List UInt8), prt b cur L ≠ []
  | [], cur => by simp [prt]
  | c :: L, cur => by
    rw [prt]
    split
    · simp
    · exact prt_ne b L _
theorem pcs_pos (s : ByteArray) (b : UInt8) : 0 < (pcs s b).length := by
  unfold pcs
  rw [List.length_map]
  exact List.length_pos_iff.2 (prt_ne b _ _)
theorem stays {w w' : World} {p : Addr} {v : Value} (hb : Below w.heap.size w w') (h : w.cell? p = some v) : w'.cell? p = some v := (hb.cell (World.block_lt_of_cell? w _ h)).trans h
/-- Among the names. -/
def InNames (w wr : World) (g3 g4 : Nat) (L : ByteArray) (N : List ByteArray) : Prop :=
  Below w.heap.size w wr ∧ wr.cell? ⟨g3, 1, none⟩ = some (.string L) ∧ ∀ (j : Nat) (t : ByteArray), N[j]? = some t → wr.cell? ⟨g4, j, none⟩ = some (.string t)
theorem InNames.callee {w wr wn : World} {g3 g4 : Nat} {L : ByteArray} {N : List ByteArray} (h : InNames w wr g3 g4 L N) (hb : Below wr.heap.size wr wn) : InNames w wn g3 g4 L N :=
  ⟨h.1.trans (hb.mono h.1.size), stays hb h.2.1, fun j t hj => stays hb (h.2.2 j t hj)⟩
set_option maxHeartbeats 2000000 in
set_option maxRecDepth 100000 in
theorem rnext_two (s e n : Nat) (w : World) (hs : s < 10) (he : e < 16) (hc : ¬ (cellB e s).toList = [45]) (hh : (halfB (cellB e s)).length = 2) (hL : (lastB (cellB e s)).toList = [48 + UInt8.ofNat n]) (hn : n < 10) (hm : (namesB (cellB e s)).length ≤ 10) :
    Calls Try.prog 29 #[.int .u8 s, .int .u8 e] w fun x w' => x = .returned (.tuple #[.int .u16 (ors ((namesB (cellB e s)).map actB)), .int .u8 n, .int .i64 0]) ∧ Below w.heap.size w w' := by
  obtain ⟨k1, k2, k3⟩ := line_ok e he
  have HL := Lib.hid (fun w => lines_any w)
  have HP := Lib.hid (fun w => parts_any (lineB e) 32 w (by omega))
  have HE := Lib.hid (show linesL[e]? = some (lineB e) by unfold lineB; rw [List.getD_eq_getElem?_getD, List.getElem?_eq_getElem (show e < linesL.length from he)]; rfl)
  have hC0 : (pcs (lineB e) 32)[s]? = some (cellB e s) := by unfold cellB; rw [List.getD_eq_getElem?_getD, List.getElem?_eq_getElem (show s < (pcs (lineB e) 32).length by omega)]; rfl
  have HC := Lib.hid hC0
  have HZ := Lib.hid (k3 _ (List.mem_of_getElem? hC0))
  have HK := Lib.hid k2
  have h1 : (s : Int) < 10 := by omega
  have h2 : (e : Int) < 16 := by omega
  have h3 : (0 : Int) ≤ s := Int.natCast_nonneg s
  have h4 : (0 : Int) ≤ e := Int.natCast_nonneg e
  have hcc : ((cellB e s).toList == [45]) = false := by rw [beq_eq_false_iff_ne]; exact hc
  have HH := Lib.hid hh
  have HLast := Lib.hid hL
  have HM := Lib.hid hm
  clear k1 k2 k3 hc hC0 hh hL hm
  generalize cellB e s = C at *
  have HP2 := Lib.hid (fun w => parts_any C 47 w (by have := HZ.out.1; omega))
  have HH1 : Hid ((halfB C)[1]? = some (lastB C)) := by
    show _ = _
    unfold lastB
    rw [List.getD_eq_getElem?_getD, HH.out, List.getElem?_eq_getElem (show 1 < (halfB C).length by rw [HH.out]; decide)]
    rfl
  have hH0 : (halfB C)[0]? = some ((halfB C).getD 0 ⟨#[]⟩) := by
    rw [List.getD_eq_getElem?_getD, List.getElem?_eq_getElem (show 0 < (halfB C).length by rw [HH.out]; decide)]
    rfl
  have HH0 := Lib.hid hH0
  have hz4 := HZ.out.2 _ (List.mem_of_getElem? hH0)
  have HP3 := Lib.hid (fun w => parts_any ((halfB C).getD 0 ⟨#[]⟩) 44 w (by omega))
  have HNm : Hid (namesB C = pcs ((halfB C).getD 0 ⟨#[]⟩) 44) := rfl
  have HQ : Hid (0 < (namesB C).length) := pcs_pos _ _
  clear hH0 hz4
  generalize (halfB C).getD 0 ⟨#[]⟩ = H0 at *
  have HR : Hid (∀ x, x ∈ (namesB C).map actB → x < 65536) := fun x hx => by obtain ⟨t, _, rfl⟩ := List.mem_map.1 hx; exact actB_lt t
  generalize namesB C = NL at *
  obtain ⟨m, hm⟩ : ∃ m, NL.length = m := ⟨_, rfl⟩
  have hm1 : m ≤ 10 := by rw [← hm]; exact HM.out
  have Hm := Lib.hid hm
  clear HM hm
  have hd1 : decide ((10 : Int) ≤ (s : Int)) = false := decide_eq_false (by omega)
  have hd2 : decide ((16 : Int) ≤ (e : Int)) = false := decide_eq_false (by omega)
  go_enter Try.func29, Try.ntmps29
  go_wp2_with fail
  refine (HL.out _).mono ?_
  rintro x w1 ⟨rfl, hw1⟩
  have hc1 : w1.cell? ⟨w.heap.size, e, none⟩ = some (.string (lineB e)) := by rw [hw1, texts_at, HE.out]; rfl
  have HB1 : Hid (Below w.heap.size w w1) := by rw [hw1]; exact (Below.refl _ w).alloc (Nat.le_refl _) _
  clear hw1
  go_wp2_with fail
  refine (HP.out _).mono ?_
  rintro x w2 ⟨v, rfl, hown, hb⟩
  have HB2 := Lib.hid (HB1.out.trans (hb.mono HB1.out.size))
  obtain ⟨g, c, rfl, hat⟩ := own_at hown (by rw [HK.out]; decide)
  have c1 := hat s C HC.out
  rw [HK.out]
  clear hown hb hat hc1
  go_wp2_with fail
  refine (HP2.out _).mono ?_
  rintro x w3 ⟨v, rfl, hown, hb⟩
  have HB3 := Lib.hid (HB2.out.trans (hb.mono HB2.out.size))
  obtain ⟨g3, c3, rfl, hat⟩ := own_at hown (by show 0 < (halfB C).length; rw [HH.out]; decide)
  have d0 := hat 0 H0 HH0.out
  have D1 := Lib.hid (hat 1 (lastB C) HH1.out)
  rw [show (pcs C 47).length = 2 from HH.out]
  clear hown hb hat c1
  have hz : (lastB C).size = 1 := by rw [size_toList, HLast.out]; rfl
  have hz0 : 0 < (lastB C).size := by omega
  have HN : Hid (((lastB C)[0]'hz0).toNat = 48 + n) := by
    show _ = _
    rw [getElem_toList]
    simp only [HLast.out, List.getElem_cons_zero]
    exact dig n hn
  have hn0 : (0 : Int) ≤ n := Int.natCast_nonneg n
  have hn1 : (n : Int) < 10 := by omega
  have HV : Hid ((((lastB C)[0]'hz0).toNat - 48 : Int) % 256 = n) := by
    show _ = _
    rw [HN.out]
    omega
  generalize lastB C = L at *
  have HZ1 := Lib.hid hz
  clear hz
  go_wp2_with fail
  refine (HP3.out _).mono ?_
  rintro x w4 ⟨v, rfl, hown, hb⟩
  rw [← HNm.out] at hown
  obtain ⟨g4, c4, rfl, hat⟩ := own_at hown HQ.out
  have HI : Hid (InNames w w4 g3 g4 L NL) := ⟨HB3.out.trans (hb.mono HB3.out.size), stays hb D1.out, hat⟩
  rw [Hm.out]
  clear hown hb hat d0 D1 HP3 HNm HP HP2 HL HE HC HK HB1 HB2 HB3 HQ
  go_wp2
  go_loopw [8, 11] (fun u i wr => ∃ k : Nat, k ≤ m ∧ u = .int .u16 (ors ((NL.take k).map actB) : Nat) ∧ i = .int .i64 k ∧ Hid (InNames w wr g3 g4 L NL)) (fun _ i _ => m - (intOf i).toNat)
  case atStart => exact ⟨0, Nat.zero_le _, rfl, rfl, HI⟩
  case round =>
    obtain ⟨k, hk, rfl, rfl, HF⟩ := hrel
    by_cases hlt : k < m
    · have hkl : k < NL.length := by rw [Hm.out]; exact hlt
      have hc := HF.out.2.2 k NL[k] (List.getElem?_eq_getElem hkl)
      have HO : Hid (ors ((NL.take (k + 1)).map actB) = ors ((NL.take k).map actB) ||| actB NL[k]) := by
        show _ = _
        rw [List.take_succ_eq_append_getElem hkl, List.map_append]
        unfold ors
        rw [List.foldl_append]
        rfl
      have HX : Hid (bits .or .u16 (ors ((NL.take k).map actB) : Int) (actB NL[k] : Int) = ((ors ((NL.take k).map actB) ||| actB NL[k] : Nat) : Int)) :=
        u16_or_nat _ _ (ors_lt _ fun x hx => by obtain ⟨t, _, rfl⟩ := List.mem_map.1 hx; exact actB_lt t) (actB_lt _)
      generalize ors ((NL.take k).map actB) = q at *
      have HA := Lib.hid (fun w => action_any NL[k] w)
      generalize actB NL[k] = y at *
      generalize NL[k] = T at *
      go_wp2_with fail
      refine (HA.out _).mono ?_
      rintro x w5 ⟨rfl, hb⟩
      have HF2 := Lib.hid (HF.out.callee hb)
      clear hb hc HA
      go_wp2
      rw [HX.out]
      go_roundw
      case rel => exact ⟨k + 1, by omega, by rw [HO.out], by go_num, HF2⟩
      case measure => simp [intOf]; omega
    · obtain rfl : k = m := by omega
      rw [List.take_of_length_le (by rw [Hm.out]; exact Nat.le_refl _)]
      have c1 := HF.out.2.1
      go_wp2
      go_quiet (fail)
      go_wp2
      rw [HV.out]
      go_ret3
      exact ⟨rfl, HF.out.1.drewN' _⟩

theorem rnext_any (s e : Nat) (w : World) : Calls Try.prog 29 #[.int .u8 s, .int .u8 e] w fun x w' => x = .returned (nR s e) ∧ Below w.heap.size w w' := by
  unfold nR nA nN nE
  by_cases hb : 10 ≤ s ∨ 16 ≤ e
  · simp only [if_pos hb]
    exact rnext_bad s e w hb
  · simp only [if_neg hb]
    have hx := cells_say e (by omega) s (by omega)
    by_cases hc : (cellB e s).toList = [45]
    · rw [says_no hx hc]
      exact rnext_no s e w (by omega) (by omega) hc
    · obtain ⟨h1, h2, h3, h4, h5⟩ := says_yes hx hc
      rw [h1]
      simp only [if_true]
      rcases h2 with ⟨hh, ha⟩ | ⟨hh, ha⟩
      · rw [ha]
        exact rnext_one s e _ w (by omega) (by omega) hc hh h3 h4
      · rw [← ha]
        exact rnext_two s e _ w (by omega) (by omega) hc hh h3 h4 h5
end Go.Proofs.Ytkabjdejljdbiaa.Fsm
