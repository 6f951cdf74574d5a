/- Contracts of chap's Read, Answered and Check. -/
import Derived.Test.YtpfbknbloeilmaaDoorChpB
import Derived.OrdersHeld
import Derived.Deep.RegionHeld3
namespace Go.Proofs.YtpfbknbloeilmaaDoor.Chp
open Go.RowKit Go.Proofs.YtpfbknbloeilmaaDoor.Oct Go.Proofs.YtpfbknbloeilmaaDoor.Row Go.Proofs.YtpfbknbloeilmaaDoor.Mem Go.Proofs.YtpfbknbloeilmaaDoor.Md5

theorem empty_no (v : List UInt8) (h : v ≠ []) : (bOf v).toList.isEmpty = false := by
  rw [toList_bOf]
  cases v with
  | nil => exact absurd rfl h
  | cons => rfl
theorem empty_yes : (bOf []).toList.isEmpty = true := by rw [toList_bOf]; rfl
theorem in_two {c a b : UInt8} : c ∈ [a, b] ↔ (c = a ∨ c = b) := by simp
/-- The codes of a kind, in a block that is new. -/
theorem two_cells (W : World) (a b : UInt8) : (⟨W.heap.size, 0, none⟩ : Addr).block < (W.alloc (.cells #[.int .u8 a.toNat, .int .u8 b.toNat] 5)).heap.size ∧ ∀ (j : Nat) (x : UInt8), [a, b][j]? = some x → (W.alloc (.cells #[.int .u8 a.toNat, .int .u8 b.toNat] 5)).cell? ((⟨W.heap.size, 0, none⟩ : Addr).add j) = some (.int .u8 x.toNat) :=
  ⟨by rw [World.size_alloc]; exact Nat.lt_succ_self _, fun j x hx => cells_new W #[.int .u8 a.toNat, .int .u8 b.toNat] 5 j _ (by match j, hx with | 0, h => cases h; rfl | 1, h => cases h; rfl)⟩
theorem one_cell (W : World) (a : UInt8) : (⟨W.heap.size, 0, none⟩ : Addr).block < (W.alloc (.cells #[.int .u8 a.toNat] 5)).heap.size ∧ ∀ (j : Nat) (x : UInt8), [a][j]? = some x → (W.alloc (.cells #[.int .u8 a.toNat] 5)).cell? ((⟨W.heap.size, 0, none⟩ : Addr).add j) = some (.int .u8 x.toNat) :=
  ⟨by rw [World.size_alloc]; exact Nat.lt_succ_self _, fun j x hx => cells_new W #[.int .u8 a.toNat] 5 j _ (by match j, hx with | 0, h => cases h; rfl)⟩
theorem kinds_two (a b : UInt8) (W : World) : Calls Tryd.prog 29 #[.slice (some ⟨W.heap.size, 0, none⟩) 2 2] (W.alloc (.cells #[.int .u8 a.toNat, .int .u8 b.toNat] 5)) fun e w' => e = .returned (kinF (W.heap.size + 1)) ∧ Kin w' (W.heap.size + 1) [a, b] ∧ Below W.heap.size W w' := by
  have h := kinds_any [a, b] ⟨W.heap.size, 0, none⟩ 2 _ (two_cells W a b).1 (two_cells W a b).2
  refine h.mono ?_
  rintro e w1 ⟨rfl, hk, hb⟩
  rw [World.size_alloc] at hk
  exact ⟨by rw [World.size_alloc], hk, ((Below.refl _ W).alloc (Nat.le_refl _) _).trans (hb.mono (by rw [World.size_alloc]; omega))⟩
theorem kinds_one (a : UInt8) (W : World) : Calls Tryd.prog 29 #[.slice (some ⟨W.heap.size, 0, none⟩) 1 1] (W.alloc (.cells #[.int .u8 a.toNat] 5)) fun e w' => e = .returned (kinF (W.heap.size + 1)) ∧ Kin w' (W.heap.size + 1) [a] ∧ Below W.heap.size W w' := by
  have h := kinds_any [a] ⟨W.heap.size, 0, none⟩ 1 _ (one_cell W a).1 (one_cell W a).2
  refine h.mono ?_
  rintro e w1 ⟨rfl, hk, hb⟩
  rw [World.size_alloc] at hk
  exact ⟨by rw [World.size_alloc], hk, ((Below.refl _ W).alloc (Nat.le_refl _) _).trans (hb.mono (by rw [World.size_alloc]; omega))⟩
set_option maxHeartbeats 2000000 in
set_option maxRecDepth 100000 in
theorem read_any (c i : UInt8) (d : ByteArray) (w : World) (hd : d.size ≤ maxLen) :
    Calls Tryd.prog 10 #[.agg #[.int .u8 c.toNat, .int .u8 i.toNat, .string d]] w fun e w' => e = .returned (rdV c d) ∧ Below w.heap.size w w' := by
  have HP : Hid (Blk (w.alloc (.cells #[.int .u8 c.toNat, .int .u8 i.toNat, .string d] 46)) w.heap.size [.int .u8 c.toNat, .int .u8 i.toNat, .string d] 46) := blk_new w _ _
  have HB : Hid (Below w.heap.size w (w.alloc (.cells #[.int .u8 c.toNat, .int .u8 i.toNat, .string d] 46))) := (Below.refl _ w).alloc (Nat.le_refl _) _
  have KT := Lib.hid (kinds_two 1 2 (w.alloc (.cells #[.int .u8 c.toNat, .int .u8 i.toNat, .string d] 46)))
  rw [World.size_alloc] at KT
  have KD := Lib.hid (fun g W (h : Kin W g [1, 2]) => kind_any c i d [1, 2] g W (by decide) h)
  have RD := Lib.hid (fun W => read8_any d W hd)
  have Hdz := Lib.hid hd
  clear hd
  by_cases hc : c = 1 ∨ c = 2
  · rw [decide_eq_true (in_two.2 hc)] at KD
    rcases hr : r8 d.toList with _ | ⟨v, r⟩
    · have R1 := read_none d hr
      rw [R1.1, R1.2.1, R1.2.2] at RD
      rw [rdV_bad (rd_end hc hr) (by decide)]
      clear R1 hr hc
      go_enter Tryd.func10, Tryd.ntmps10
      go_wp2_with fail
      refine KT.out.mono ?_
      rintro e w1 ⟨rfl, hk, hb⟩
      have HP1 := Lib.hid (HP.out.callee (by rw [World.size_alloc]; exact hb))
      have HB1 := Lib.hid (HB.out.trans (hb.mono (Nat.le_succ _)))
      have HK := Lib.hid hk
      clear hk hb
      have p0 := HP1.out.at_ 0
      have p1 := HP1.out.at_ 1
      have p2 := HP1.out.at_ 2
      simp only [List.getElem?_cons_zero, List.getElem?_cons_succ] at p0 p1 p2
      unfold kinF
      go_wp2_with fail
      refine (KD.out _ _ HK.out).mono ?_
      rintro e w2 ⟨rfl, hb⟩
      have HP2 := Lib.hid (HP1.out.callee hb)
      have HB2 := Lib.hid (HB1.out.trans (hb.mono HB1.out.size))
      clear hb p0 p1 p2
      have p0 := HP2.out.at_ 0
      have p1 := HP2.out.at_ 1
      have p2 := HP2.out.at_ 2
      simp only [List.getElem?_cons_zero, List.getElem?_cons_succ] at p0 p1 p2
      go_wp2_with fail
      refine (RD.out _).mono ?_
      rintro e w3 ⟨rfl, q, rfl⟩
      go_wp2
      go_ret3
      exact ⟨rfl, HB2.out.drewN' q⟩
    · have R1 := read_some d v r hr
      rw [R1.1, R1.2.1, R1.2.2] at RD
      have hl := r8_len hr
      have hz : (bOf r).size ≤ maxLen := by rw [size_bOf]; have h1 := Hdz.out; rw [size_toList] at h1; omega
      unfold maxLen at hz
      by_cases hv : v = []
      · subst hv
        rw [rdV_bad (rd_form hc hr) (by decide)]
        have hz1 := empty_yes
        clear R1 hr hc hl hz
        go_enter Tryd.func10, Tryd.ntmps10
        go_wp2_with fail
        refine KT.out.mono ?_
        rintro e w1 ⟨rfl, hk, hb⟩
        have HP1 := Lib.hid (HP.out.callee (by rw [World.size_alloc]; exact hb))
        have HB1 := Lib.hid (HB.out.trans (hb.mono (Nat.le_succ _)))
        have HK := Lib.hid hk
        clear hk hb
        have p0 := HP1.out.at_ 0
        have p1 := HP1.out.at_ 1
        have p2 := HP1.out.at_ 2
        simp only [List.getElem?_cons_zero, List.getElem?_cons_succ] at p0 p1 p2
        unfold kinF
        go_wp2_with fail
        refine (KD.out _ _ HK.out).mono ?_
        rintro e w2 ⟨rfl, hb⟩
        have HP2 := Lib.hid (HP1.out.callee hb)
        have HB2 := Lib.hid (HB1.out.trans (hb.mono HB1.out.size))
        clear hb p0 p1 p2
        have p0 := HP2.out.at_ 0
        have p1 := HP2.out.at_ 1
        have p2 := HP2.out.at_ 2
        simp only [List.getElem?_cons_zero, List.getElem?_cons_succ] at p0 p1 p2
        go_wp2_with fail
        refine (RD.out _).mono ?_
        rintro e w3 ⟨rfl, q, rfl⟩
        go_wp2
        go_ret3
        exact ⟨rfl, HB2.out.drewN' q⟩
      · have hv1 := empty_no v hv
        by_cases h5 : 255 < r.length
        · have h6 : (255 : Int) < ((bOf r).size : Int) := by rw [size_bOf]; omega
          rw [rdV_bad (rd_long hc hr hv h5) (by decide)]
          clear R1 hr hc hl h5 hv
          go_enter Tryd.func10, Tryd.ntmps10
          go_wp2_with fail
          refine KT.out.mono ?_
          rintro e w1 ⟨rfl, hk, hb⟩
          have HP1 := Lib.hid (HP.out.callee (by rw [World.size_alloc]; exact hb))
          have HB1 := Lib.hid (HB.out.trans (hb.mono (Nat.le_succ _)))
          have HK := Lib.hid hk
          clear hk hb
          have p0 := HP1.out.at_ 0
          have p1 := HP1.out.at_ 1
          have p2 := HP1.out.at_ 2
          simp only [List.getElem?_cons_zero, List.getElem?_cons_succ] at p0 p1 p2
          unfold kinF
          go_wp2_with fail
          refine (KD.out _ _ HK.out).mono ?_
          rintro e w2 ⟨rfl, hb⟩
          have HP2 := Lib.hid (HP1.out.callee hb)
          have HB2 := Lib.hid (HB1.out.trans (hb.mono HB1.out.size))
          clear hb p0 p1 p2
          have p0 := HP2.out.at_ 0
          have p1 := HP2.out.at_ 1
          have p2 := HP2.out.at_ 2
          simp only [List.getElem?_cons_zero, List.getElem?_cons_succ] at p0 p1 p2
          go_wp2_with fail
          refine (RD.out _).mono ?_
          rintro e w3 ⟨rfl, q, rfl⟩
          go_wp2
          go_ret3
          exact ⟨rfl, HB2.out.drewN' q⟩
        · have h6 : ¬ (255 : Int) < ((bOf r).size : Int) := by rw [size_bOf]; omega
          rw [rdV_ok hc hr hv h5]
          clear R1 hr hc hl h5 hv
          go_enter Tryd.func10, Tryd.ntmps10
          go_wp2_with fail
          refine KT.out.mono ?_
          rintro e w1 ⟨rfl, hk, hb⟩
          have HP1 := Lib.hid (HP.out.callee (by rw [World.size_alloc]; exact hb))
          have HB1 := Lib.hid (HB.out.trans (hb.mono (Nat.le_succ _)))
          have HK := Lib.hid hk
          clear hk hb
          have p0 := HP1.out.at_ 0
          have p1 := HP1.out.at_ 1
          have p2 := HP1.out.at_ 2
          simp only [List.getElem?_cons_zero, List.getElem?_cons_succ] at p0 p1 p2
          unfold kinF
          go_wp2_with fail
          refine (KD.out _ _ HK.out).mono ?_
          rintro e w2 ⟨rfl, hb⟩
          have HP2 := Lib.hid (HP1.out.callee hb)
          have HB2 := Lib.hid (HB1.out.trans (hb.mono HB1.out.size))
          clear hb p0 p1 p2
          have p0 := HP2.out.at_ 0
          have p1 := HP2.out.at_ 1
          have p2 := HP2.out.at_ 2
          simp only [List.getElem?_cons_zero, List.getElem?_cons_succ] at p0 p1 p2
          go_wp2_with fail
          refine (RD.out _).mono ?_
          rintro e w3 ⟨rfl, q, rfl⟩
          go_wp2
          go_ret3
          exact ⟨rfl, HB2.out.drewN' q⟩
  · rw [decide_eq_false (fun e => hc (in_two.1 e))] at KD
    rw [rdV_bad (rd_type d hc) (by decide)]
    clear hc
    go_enter Tryd.func10, Tryd.ntmps10
    go_wp2_with fail
    refine KT.out.mono ?_
    rintro e w1 ⟨rfl, hk, hb⟩
    have HP1 := Lib.hid (HP.out.callee (by rw [World.size_alloc]; exact hb))
    have HB1 := Lib.hid (HB.out.trans (hb.mono (Nat.le_succ _)))
    have HK := Lib.hid hk
    clear hk hb
    have p0 := HP1.out.at_ 0
    have p1 := HP1.out.at_ 1
    have p2 := HP1.out.at_ 2
    simp only [List.getElem?_cons_zero, List.getElem?_cons_succ] at p0 p1 p2
    unfold kinF
    go_wp2_with fail
    refine (KD.out _ _ HK.out).mono ?_
    rintro e w2 ⟨rfl, hb⟩
    have HP2 := Lib.hid (HP1.out.callee hb)
    have HB2 := Lib.hid (HB1.out.trans (hb.mono HB1.out.size))
    clear hb p0 p1 p2
    have p0 := HP2.out.at_ 0
    have p1 := HP2.out.at_ 1
    have p2 := HP2.out.at_ 2
    simp only [List.getElem?_cons_zero, List.getElem?_cons_succ] at p0 p1 p2
    go_wp2
    go_ret3
    exact ⟨rfl, HB2.out⟩
set_option maxHeartbeats 2000000 in
set_option maxRecDepth 100000 in
theorem answered_any (c i : UInt8) (d : ByteArray) (w : World) (hd : d.size ≤ maxLen) :
    Calls Tryd.prog 98 #[.agg #[.int .u8 c.toNat, .int .u8 i.toNat, .string d]] w fun e w' => e = .returned (anV c d) ∧ Below w.heap.size w w' := by
  have HP : Hid (Blk (w.alloc (.cells #[.int .u8 c.toNat, .int .u8 i.toNat, .string d] 46)) w.heap.size [.int .u8 c.toNat, .int .u8 i.toNat, .string d] 46) := blk_new w _ _
  have HB : Hid (Below w.heap.size w (w.alloc (.cells #[.int .u8 c.toNat, .int .u8 i.toNat, .string d] 46))) := (Below.refl _ w).alloc (Nat.le_refl _) _
  have KT := Lib.hid (kinds_two 3 4 (w.alloc (.cells #[.int .u8 c.toNat, .int .u8 i.toNat, .string d] 46)))
  rw [World.size_alloc] at KT
  have KO := Lib.hid (fun W => kinds_one 3 W)
  have KD := Lib.hid (fun g W (h : Kin W g [3, 4]) => kind_any c i d [3, 4] g W (by decide) h)
  have KE := Lib.hid (fun g W (h : Kin W g [3]) => kind_any c i d [3] g W (by decide) h)
  unfold maxLen at hd
  by_cases hc : c = 3 ∨ c = 4
  · rw [decide_eq_true (in_two.2 hc)] at KD
    by_cases h5 : 255 < d.size
    · have h6 : (255 : Int) < (d.size : Int) := by omega
      rw [anV_bad (an_long hc h5) (by decide)]
      clear hc h5
      go_enter Tryd.func98, Tryd.ntmps98
      go_wp2_with fail
      refine KT.out.mono ?_
      rintro e w1 ⟨rfl, hk, hb⟩
      have HP1 := Lib.hid (HP.out.callee (by rw [World.size_alloc]; exact hb))
      have HB1 := Lib.hid (HB.out.trans (hb.mono (Nat.le_succ _)))
      have HK := Lib.hid hk
      clear hk hb
      go_wp2_with fail
      refine (KO.out _).mono ?_
      rintro e w2 ⟨rfl, hk, hb⟩
      have HP2 := Lib.hid (HP1.out.callee hb)
      have HB2 := Lib.hid (HB1.out.trans (hb.mono HB1.out.size))
      have HK2 := Lib.hid (HK.out.callee hb)
      have HL2 := Lib.hid hk
      clear hk hb
      have p0 := HP2.out.at_ 0
      have p1 := HP2.out.at_ 1
      have p2 := HP2.out.at_ 2
      simp only [List.getElem?_cons_zero, List.getElem?_cons_succ] at p0 p1 p2
      unfold kinF
      generalize w1.heap.size + 1 = gB at *
      go_wp2_with fail
      refine (KD.out _ _ HK2.out).mono ?_
      rintro e w3 ⟨rfl, hb⟩
      have HP3 := Lib.hid (HP2.out.callee hb)
      have HB3 := Lib.hid (HB2.out.trans (hb.mono HB2.out.size))
      have HL3 := Lib.hid (HL2.out.callee hb)
      clear hb p0 p1 p2
      have p0 := HP3.out.at_ 0
      have p1 := HP3.out.at_ 1
      have p2 := HP3.out.at_ 2
      simp only [List.getElem?_cons_zero, List.getElem?_cons_succ] at p0 p1 p2
      go_wp2
      go_ret3
      exact ⟨rfl, HB3.out⟩
    · have h6 : ¬ (255 : Int) < (d.size : Int) := by omega
      rw [anV_ok (an_ok hc h5)]
      rw [show decide (c ∈ [(3 : UInt8)]) = decide (c = 3) by simp] at KE
      generalize decide (c = 3) = b at *
      clear hc h5
      go_enter Tryd.func98, Tryd.ntmps98
      go_wp2_with fail
      refine KT.out.mono ?_
      rintro e w1 ⟨rfl, hk, hb⟩
      have HP1 := Lib.hid (HP.out.callee (by rw [World.size_alloc]; exact hb))
      have HB1 := Lib.hid (HB.out.trans (hb.mono (Nat.le_succ _)))
      have HK := Lib.hid hk
      clear hk hb
      go_wp2_with fail
      refine (KO.out _).mono ?_
      rintro e w2 ⟨rfl, hk, hb⟩
      have HP2 := Lib.hid (HP1.out.callee hb)
      have HB2 := Lib.hid (HB1.out.trans (hb.mono HB1.out.size))
      have HK2 := Lib.hid (HK.out.callee hb)
      have HL2 := Lib.hid hk
      clear hk hb
      have p0 := HP2.out.at_ 0
      have p1 := HP2.out.at_ 1
      have p2 := HP2.out.at_ 2
      simp only [List.getElem?_cons_zero, List.getElem?_cons_succ] at p0 p1 p2
      unfold kinF
      generalize w1.heap.size + 1 = gB at *
      go_wp2_with fail
      refine (KD.out _ _ HK2.out).mono ?_
      rintro e w3 ⟨rfl, hb⟩
      have HP3 := Lib.hid (HP2.out.callee hb)
      have HB3 := Lib.hid (HB2.out.trans (hb.mono HB2.out.size))
      have HL3 := Lib.hid (HL2.out.callee hb)
      clear hb p0 p1 p2
      have p0 := HP3.out.at_ 0
      have p1 := HP3.out.at_ 1
      have p2 := HP3.out.at_ 2
      simp only [List.getElem?_cons_zero, List.getElem?_cons_succ] at p0 p1 p2
      go_wp2
      have q0 : w3.drew.cell? ⟨w.heap.size, 0, none⟩ = _ := p0
      have q1 : w3.drew.cell? ⟨w.heap.size, 1, none⟩ = _ := p1
      have q2 : w3.drew.cell? ⟨w.heap.size, 2, none⟩ = _ := p2
      have HK4 := Lib.hid (HL3.out.callee ((Below.refl _ w3).drew))
      have HP4 := Lib.hid (HP3.out.drew)
      have HB4 := Lib.hid (HB3.out.drew)
      clear p0 p1 p2
      go_region_held3 (fun w' => w'.cell? ⟨w.heap.size, 0, none⟩ = some (.int .u8 c.toNat) ∧ w'.cell? ⟨w.heap.size, 1, none⟩ = some (.int .u8 i.toNat) ∧ w'.cell? ⟨w.heap.size, 2, none⟩ = some (.string d))
        (first | (with_reducible assumption) | (refine ⟨?_, ?_, ?_⟩ <;> with_reducible assumption) | (go_split_ands; refine ⟨?_, ?_, ?_⟩ <;> with_reducible assumption))
        (first
          | (go_at_call 52; (refine (KE.out _ _ HK4.out).mono ?_; rintro e w7 ⟨rfl, hb7⟩; replace q0 := (hb7.cell (p := ⟨w.heap.size, 0, none⟩) (World.block_lt_of_cell? _ _ q0)).trans q0; replace q1 := (hb7.cell (p := ⟨w.heap.size, 1, none⟩) (World.block_lt_of_cell? _ _ q1)).trans q1; replace q2 := (hb7.cell (p := ⟨w.heap.size, 2, none⟩) (World.block_lt_of_cell? _ _ q2)).trans q2; have HB7 := Lib.hid (HB4.out.trans (hb7.mono HB4.out.size))))
          | fail)
      all_goals (go_wp2; go_ret3; exact ⟨rfl, HB7.out⟩)
  · rw [decide_eq_false (fun e => hc (in_two.1 e))] at KD
    rw [anV_bad (an_type d hc) (by decide)]
    clear hc
    go_enter Tryd.func98, Tryd.ntmps98
    go_wp2_with fail
    refine KT.out.mono ?_
    rintro e w1 ⟨rfl, hk, hb⟩
    have HP1 := Lib.hid (HP.out.callee (by rw [World.size_alloc]; exact hb))
    have HB1 := Lib.hid (HB.out.trans (hb.mono (Nat.le_succ _)))
    have HK := Lib.hid hk
    clear hk hb
    go_wp2_with fail
    refine (KO.out _).mono ?_
    rintro e w2 ⟨rfl, hk, hb⟩
    have HP2 := Lib.hid (HP1.out.callee hb)
    have HB2 := Lib.hid (HB1.out.trans (hb.mono HB1.out.size))
    have HK2 := Lib.hid (HK.out.callee hb)
    have HL2 := Lib.hid hk
    clear hk hb
    have p0 := HP2.out.at_ 0
    have p1 := HP2.out.at_ 1
    have p2 := HP2.out.at_ 2
    simp only [List.getElem?_cons_zero, List.getElem?_cons_succ] at p0 p1 p2
    unfold kinF
    generalize w1.heap.size + 1 = gB at *
    go_wp2_with fail
    refine (KD.out _ _ HK2.out).mono ?_
    rintro e w3 ⟨rfl, hb⟩
    have HP3 := Lib.hid (HP2.out.callee hb)
    have HB3 := Lib.hid (HB2.out.trans (hb.mono HB2.out.size))
    have HL3 := Lib.hid (HL2.out.callee hb)
    clear hb p0 p1 p2
    have p0 := HP3.out.at_ 0
    have p1 := HP3.out.at_ 1
    have p2 := HP3.out.at_ 2
    simp only [List.getElem?_cons_zero, List.getElem?_cons_succ] at p0 p1 p2
    go_wp2
    go_ret3
    exact ⟨rfl, HB3.out⟩
set_option maxHeartbeats 2000000 in
set_option maxRecDepth 100000 in
theorem check_any (c i : UInt8) (d : ByteArray) (id : UInt8) (s v : ByteArray) (w : World) (hd : d.size ≤ maxLen) (hs : s.size ≤ 8192) (hv : v.size ≤ 8192) (hG : Globs w) :
    Calls Tryd.prog 86 #[.agg #[.int .u8 c.toNat, .int .u8 i.toNat, .string d], .int .u8 id.toNat, .string s, .string v] w fun e w' => e = .returned (.bool (ckB c i d id s v)) ∧ Below w.heap.size w w' := by
  have HP : Hid (Blk (w.alloc (.cells #[.int .u8 c.toNat, .int .u8 i.toNat, .string d] 46)) w.heap.size [.int .u8 c.toNat, .int .u8 i.toNat, .string d] 46) := blk_new w _ _
  have HB : Hid (Below w.heap.size w (w.alloc (.cells #[.int .u8 c.toNat, .int .u8 i.toNat, .string d] 46))) := (Below.refl _ w).alloc (Nat.le_refl _) _
  have KO := Lib.hid (kinds_one 2 (w.alloc (.cells #[.int .u8 c.toNat, .int .u8 i.toNat, .string d] 46)))
  rw [World.size_alloc] at KO
  have KE := Lib.hid (fun g W (h : Kin W g [2]) => kind_any c i d [2] g W (by decide) h)
  have KR := Lib.hid (fun W => read_any c i d W hd)
  have KQ := Lib.hid (fun W (h : Globs W) => proof_any id s v W hs hv h)
  have HG := Lib.hid hG
  clear hd hs hv hG
  rw [show decide (c ∈ [(2 : UInt8)]) = decide (c = 2) by simp] at KE
  by_cases h0 : rdE c d = 0
  · have hV : rdV c d = .tuple #[.string (rdA c d), .string (rdB c d), .int .i64 0] := by rw [rdV, h0]
    rw [hV] at KR
    clear hV
    by_cases h2 : c = 2
    · rw [decide_eq_true h2] at KE
      by_cases h3 : i = id
      · subst h3
        have hE := str_eq (rdA c d) (dg i s v)
        have hid : ((i.toNat : Int) == i.toNat) = true := by simp
        rw [show ckB c i d i s v = decide (rdA c d = dg i s v) from by subst h2; exact ck_val h0 i s v]
        generalize decide (rdA c d = dg i s v) = r at *
        generalize dg i s v = D at *
        generalize rdA c d = x at *
        generalize rdB c d = y at *
        clear h0 h2
        go_enter Tryd.func86, Tryd.ntmps86
        go_wp2_with fail
        refine KO.out.mono ?_
        rintro e w1 ⟨rfl, hk, hb⟩
        have HP1 := Lib.hid (HP.out.callee (by rw [World.size_alloc]; exact hb))
        have HB1 := Lib.hid (HB.out.trans (hb.mono (Nat.le_succ _)))
        have HK := Lib.hid hk
        clear hk hb
        have p0 := HP1.out.at_ 0
        have p1 := HP1.out.at_ 1
        have p2 := HP1.out.at_ 2
        simp only [List.getElem?_cons_zero, List.getElem?_cons_succ] at p0 p1 p2
        unfold kinF
        go_wp2_with fail
        refine (KR.out _).mono ?_
        rintro e w2 ⟨rfl, hb⟩
        have HP2 := Lib.hid (HP1.out.callee hb)
        have HB2 := Lib.hid (HB1.out.trans (hb.mono HB1.out.size))
        have HK2 := Lib.hid (HK.out.callee hb)
        clear hb p0 p1 p2
        have p0 := HP2.out.at_ 0
        have p1 := HP2.out.at_ 1
        have p2 := HP2.out.at_ 2
        simp only [List.getElem?_cons_zero, List.getElem?_cons_succ] at p0 p1 p2
        go_wp2_with fail
        refine (KE.out _ _ HK2.out).mono ?_
        rintro e w3 ⟨rfl, hb⟩
        have HP3 := Lib.hid (HP2.out.callee hb)
        have HB3 := Lib.hid (HB2.out.trans (hb.mono HB2.out.size))
        clear hb p0 p1 p2
        have p0 := HP3.out.at_ 0
        have p1 := HP3.out.at_ 1
        have p2 := HP3.out.at_ 2
        simp only [List.getElem?_cons_zero, List.getElem?_cons_succ] at p0 p1 p2
        go_wp2_with fail
        refine (KQ.out _ (HG.out.below HB3.out)).mono ?_
        rintro e w4 ⟨rfl, hb⟩
        have HB4 := Lib.hid (HB3.out.trans (hb.mono HB3.out.size))
        clear hb
        go_wp2
        go_ret
        exact ⟨rfl, HB4.out⟩
      · rw [ck_id h3]
        have hid : ((i.toNat : Int) == id.toNat) = false := by
          rw [beq_eq_false_iff_ne]; intro e; exact h3 (UInt8.toNat_inj.1 (by omega))
        generalize rdA c d = x at *
        generalize rdB c d = y at *
        clear h0 h2 h3
        go_enter Tryd.func86, Tryd.ntmps86
        go_wp2_with fail
        refine KO.out.mono ?_
        rintro e w1 ⟨rfl, hk, hb⟩
        have HP1 := Lib.hid (HP.out.callee (by rw [World.size_alloc]; exact hb))
        have HB1 := Lib.hid (HB.out.trans (hb.mono (Nat.le_succ _)))
        have HK := Lib.hid hk
        clear hk hb
        have p0 := HP1.out.at_ 0
        have p1 := HP1.out.at_ 1
        have p2 := HP1.out.at_ 2
        simp only [List.getElem?_cons_zero, List.getElem?_cons_succ] at p0 p1 p2
        unfold kinF
        go_wp2_with fail
        refine (KR.out _).mono ?_
        rintro e w2 ⟨rfl, hb⟩
        have HP2 := Lib.hid (HP1.out.callee hb)
        have HB2 := Lib.hid (HB1.out.trans (hb.mono HB1.out.size))
        have HK2 := Lib.hid (HK.out.callee hb)
        clear hb p0 p1 p2
        have p0 := HP2.out.at_ 0
        have p1 := HP2.out.at_ 1
        have p2 := HP2.out.at_ 2
        simp only [List.getElem?_cons_zero, List.getElem?_cons_succ] at p0 p1 p2
        go_wp2_with fail
        refine (KE.out _ _ HK2.out).mono ?_
        rintro e w3 ⟨rfl, hb⟩
        have HP3 := Lib.hid (HP2.out.callee hb)
        have HB3 := Lib.hid (HB2.out.trans (hb.mono HB2.out.size))
        clear hb p0 p1 p2
        have p0 := HP3.out.at_ 0
        have p1 := HP3.out.at_ 1
        have p2 := HP3.out.at_ 2
        simp only [List.getElem?_cons_zero, List.getElem?_cons_succ] at p0 p1 p2
        go_wp2
        go_ret
        exact ⟨rfl, HB3.out⟩
    · rw [ck_code h2]
      rw [decide_eq_false h2] at KE
      generalize rdA c d = x at *
      generalize rdB c d = y at *
      clear h0 h2
      go_enter Tryd.func86, Tryd.ntmps86
      go_wp2_with fail
      refine KO.out.mono ?_
      rintro e w1 ⟨rfl, hk, hb⟩
      have HP1 := Lib.hid (HP.out.callee (by rw [World.size_alloc]; exact hb))
      have HB1 := Lib.hid (HB.out.trans (hb.mono (Nat.le_succ _)))
      have HK := Lib.hid hk
      clear hk hb
      have p0 := HP1.out.at_ 0
      have p1 := HP1.out.at_ 1
      have p2 := HP1.out.at_ 2
      simp only [List.getElem?_cons_zero, List.getElem?_cons_succ] at p0 p1 p2
      unfold kinF
      go_wp2_with fail
      refine (KR.out _).mono ?_
      rintro e w2 ⟨rfl, hb⟩
      have HP2 := Lib.hid (HP1.out.callee hb)
      have HB2 := Lib.hid (HB1.out.trans (hb.mono HB1.out.size))
      have HK2 := Lib.hid (HK.out.callee hb)
      clear hb p0 p1 p2
      have p0 := HP2.out.at_ 0
      have p1 := HP2.out.at_ 1
      have p2 := HP2.out.at_ 2
      simp only [List.getElem?_cons_zero, List.getElem?_cons_succ] at p0 p1 p2
      go_wp2_with fail
      refine (KE.out _ _ HK2.out).mono ?_
      rintro e w3 ⟨rfl, hb⟩
      have HP3 := Lib.hid (HP2.out.callee hb)
      have HB3 := Lib.hid (HB2.out.trans (hb.mono HB2.out.size))
      clear hb p0 p1 p2
      have p0 := HP3.out.at_ 0
      have p1 := HP3.out.at_ 1
      have p2 := HP3.out.at_ 2
      simp only [List.getElem?_cons_zero, List.getElem?_cons_succ] at p0 p1 p2
      go_wp2
      go_ret
      exact ⟨rfl, HB3.out⟩
  · rw [ck_bad h0]
    have h1 : (rdE c d == 0) = false := by rw [beq_eq_false_iff_ne]; exact h0
    unfold rdV at KR
    generalize rdA c d = x at *
    generalize rdB c d = y at *
    generalize rdE c d = E at *
    clear h0
    go_enter Tryd.func86, Tryd.ntmps86
    go_wp2_with fail
    refine KO.out.mono ?_
    rintro e w1 ⟨rfl, hk, hb⟩
    have HP1 := Lib.hid (HP.out.callee (by rw [World.size_alloc]; exact hb))
    have HB1 := Lib.hid (HB.out.trans (hb.mono (Nat.le_succ _)))
    have HK := Lib.hid hk
    clear hk hb
    have p0 := HP1.out.at_ 0
    have p1 := HP1.out.at_ 1
    have p2 := HP1.out.at_ 2
    simp only [List.getElem?_cons_zero, List.getElem?_cons_succ] at p0 p1 p2
    unfold kinF
    go_wp2_with fail
    refine (KR.out _).mono ?_
    rintro e w2 ⟨rfl, hb⟩
    have HP2 := Lib.hid (HP1.out.callee hb)
    have HB2 := Lib.hid (HB1.out.trans (hb.mono HB1.out.size))
    have HK2 := Lib.hid (HK.out.callee hb)
    clear hb p0 p1 p2
    have p0 := HP2.out.at_ 0
    have p1 := HP2.out.at_ 1
    have p2 := HP2.out.at_ 2
    simp only [List.getElem?_cons_zero, List.getElem?_cons_succ] at p0 p1 p2
    go_wp2
    go_ret
    exact ⟨rfl, HB2.out⟩
end Go.Proofs.YtpfbknbloeilmaaDoor.Chp
