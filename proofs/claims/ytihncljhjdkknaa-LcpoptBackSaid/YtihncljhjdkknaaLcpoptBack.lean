/- PROVED: 'halyardlaw09.LcpoptBack' returns true for every value and every row. No condition. -/
import Derived.Test.YtihncljhjdkknaaLcoS
import Derived.Test.YtihncljhjdkknaaLaw
import Derived.Test.YtihncljhjdkknaaRows
import Derived.SizedLaws
import Derived.Test.YtihncljhjdkknaaLcoT
import Derived.Deep.QuietTactic
import Derived.Deep.Quiet
import Derived.BigQuiet
namespace Go.Proofs.Ytihncljhjdkknaa.LcpoptBack
open Go.ChangeShapes Go.WideShapes Go.ChangeAt Go.RowKit Go.Proofs.Ytihncljhjdkknaa.Oct Go.Proofs.Ytihncljhjdkknaa.Row Go.Proofs.Ytihncljhjdkknaa.Mem Go.Proofs.Ytihncljhjdkknaa.Opt Go.Proofs.Ytihncljhjdkknaa.Lco Go.Proofs.Ytihncljhjdkknaa.Law
open Go.ChangeMaps (open_string shut_string)

set_option maxHeartbeats 4000000 in
set_option maxRecDepth 100000 in
theorem walk (x : Lcp) (A : Option Addr) (n c : Nat) (l : List Opt) (hn : n ≤ maxLen) (w : World) (hl : Opts w w.heap.size A n l) :
    Calls Try.prog 4 #[.agg (lv x).toArray, .slice A n c] w fun e w' => e = .returned (.bool true) ∧ Below w.heap.size w w' := by
  show Calls Try.prog 4 #[.agg #[Value.bool x.hm, .int .u16 x.mru.toNat, .bool x.ha, .int .u32 x.accm.toNat, .int .u8 x.auth.toNat, .bool x.hg, .int .u32 x.magic.toNat, .bool x.pfc, .bool x.acfc], .slice A n c] w fun e w' => e = .returned (.bool true) ∧ Below w.heap.size w w'
  obtain ⟨W, hW, HW⟩ := boxL w x
  have HX := Lib.hid HW.out.1
  have HH := Lib.hid HW.out.2.1
  have HL := Lib.hid (hl.next HW.out.2.1)
  have Hll := Lib.hid hl.1
  clear hl HW
  go_enter Try.func4, Try.ntmps4
  go_wp2_with fail
  refine (long_row l A n c _ HL.out hn).mono ?_
  rintro e w' ⟨b, rfl, hq1, rfl⟩
  clear hW
  cases b
  case true =>
    clear hq1
    go_wp2_with fail
    refine (alive_any _).mono ?_
    rintro e w1 ⟨rfl, hb1⟩
    have HH := Lib.hid (HH.out.trans (hb1.mono HH.out.size))
    clear hb1
    go_wp2
    go_ret
    exact ⟨rfl, HH.out⟩
  case false =>
    obtain ⟨hn70, hd⟩ := hq1 rfl
    clear hq1 hd
    have Hn1 := Lib.hid (show n ≤ 1000 by omega)
    have p0 : W.cell? ⟨w.heap.size, 0, none⟩ = some (Value.bool x.hm) := HX.out.c 0
    have p1 : W.cell? ⟨w.heap.size, 1, none⟩ = some (.int .u16 x.mru.toNat) := HX.out.c 1
    have p2 : W.cell? ⟨w.heap.size, 2, none⟩ = some (.bool x.ha) := HX.out.c 2
    have p3 : W.cell? ⟨w.heap.size, 3, none⟩ = some (.int .u32 x.accm.toNat) := HX.out.c 3
    have p4 : W.cell? ⟨w.heap.size, 4, none⟩ = some (.int .u8 x.auth.toNat) := HX.out.c 4
    have p5 : W.cell? ⟨w.heap.size, 5, none⟩ = some (.bool x.hg) := HX.out.c 5
    have p6 : W.cell? ⟨w.heap.size, 6, none⟩ = some (.int .u32 x.magic.toNat) := HX.out.c 6
    have p7 : W.cell? ⟨w.heap.size, 7, none⟩ = some (.bool x.pfc) := HX.out.c 7
    have p8 : W.cell? ⟨w.heap.size, 8, none⟩ = some (.bool x.acfc) := HX.out.c 8
    cases hx : may x
    case false =>
      clear HX
      go_wp2_with fail
      refine (put_no x _ hx).mono ?_
      rintro e w1 ⟨rfl, hb1⟩
      have HL := Lib.hid (HL.out.next hb1)
      have HH := Lib.hid (HH.out.trans (hb1.mono HH.out.size))
      clear hb1
      clear p0 p1 p2 p3 p4 p5 p6 p7 p8
      clear hx
      rcases hst : st l with _ | ⟨y, odd⟩
      · have S1 := Lib.hid (get_none' hst)
        clear hst
        go_wp2_with fail
        refine (S1.out A n c _ HL.out Hn1.out).mono ?_
        rintro e w2 ⟨A2, c2, rfl, hb2⟩
        have HL := Lib.hid (HL.out.next hb2)
        have HH := Lib.hid (HH.out.trans (hb2.mono HH.out.size))
        clear hb2
        have HL := Lib.hid (HL.out.laid (.cells #[Value.bool false, .int .u16 0, .bool false, .int .u32 0, .int .u8 0, .bool false, .int .u32 0, .bool false, .bool false] 25))
        have HY : Hid (LAt (w2.alloc (.cells #[Value.bool false, .int .u16 0, .bool false, .int .u32 0, .int .u8 0, .bool false, .int .u32 0, .bool false, .bool false] 25)) w2.heap.size lz) := lat_new w2 lz
        have HH := Lib.hid (HH.out.alloc HH.out.size (.cells #[Value.bool false, .int .u16 0, .bool false, .int .u32 0, .int .u8 0, .bool false, .int .u32 0, .bool false, .bool false] 25))
        have y0 : (w2.alloc (.cells #[Value.bool false, .int .u16 0, .bool false, .int .u32 0, .int .u8 0, .bool false, .int .u32 0, .bool false, .bool false] 25)).cell? ⟨w2.heap.size, 0, none⟩ = some (Value.bool false) := HY.out.c 0
        have y1 : (w2.alloc (.cells #[Value.bool false, .int .u16 0, .bool false, .int .u32 0, .int .u8 0, .bool false, .int .u32 0, .bool false, .bool false] 25)).cell? ⟨w2.heap.size, 1, none⟩ = some (.int .u16 0) := HY.out.c 1
        have y2 : (w2.alloc (.cells #[Value.bool false, .int .u16 0, .bool false, .int .u32 0, .int .u8 0, .bool false, .int .u32 0, .bool false, .bool false] 25)).cell? ⟨w2.heap.size, 2, none⟩ = some (.bool false) := HY.out.c 2
        have y3 : (w2.alloc (.cells #[Value.bool false, .int .u16 0, .bool false, .int .u32 0, .int .u8 0, .bool false, .int .u32 0, .bool false, .bool false] 25)).cell? ⟨w2.heap.size, 3, none⟩ = some (.int .u32 0) := HY.out.c 3
        have y4 : (w2.alloc (.cells #[Value.bool false, .int .u16 0, .bool false, .int .u32 0, .int .u8 0, .bool false, .int .u32 0, .bool false, .bool false] 25)).cell? ⟨w2.heap.size, 4, none⟩ = some (.int .u8 0) := HY.out.c 4
        have y5 : (w2.alloc (.cells #[Value.bool false, .int .u16 0, .bool false, .int .u32 0, .int .u8 0, .bool false, .int .u32 0, .bool false, .bool false] 25)).cell? ⟨w2.heap.size, 5, none⟩ = some (.bool false) := HY.out.c 5
        have y6 : (w2.alloc (.cells #[Value.bool false, .int .u16 0, .bool false, .int .u32 0, .int .u8 0, .bool false, .int .u32 0, .bool false, .bool false] 25)).cell? ⟨w2.heap.size, 6, none⟩ = some (.int .u32 0) := HY.out.c 6
        have y7 : (w2.alloc (.cells #[Value.bool false, .int .u16 0, .bool false, .int .u32 0, .int .u8 0, .bool false, .int .u32 0, .bool false, .bool false] 25)).cell? ⟨w2.heap.size, 7, none⟩ = some (.bool false) := HY.out.c 7
        have y8 : (w2.alloc (.cells #[Value.bool false, .int .u16 0, .bool false, .int .u32 0, .int .u8 0, .bool false, .int .u32 0, .bool false, .bool false] 25)).cell? ⟨w2.heap.size, 8, none⟩ = some (.bool false) := HY.out.c 8
        go_wp2_with fail
        refine (alive_any _).mono ?_
        rintro e w3 ⟨rfl, hb3⟩
        have HL := Lib.hid (HL.out.next hb3)
        have HY := Lib.hid (HY.out.callee hb3)
        have HH := Lib.hid (HH.out.trans (hb3.mono HH.out.size))
        clear hb3
        go_wp2
        go_ret
        exact ⟨rfl, HH.out⟩
      · have S1 := Lib.hid (get_some' hst)
        by_cases ho : odd.length = 0
        · obtain rfl : odd = [] := List.length_eq_zero_iff.1 ho
          have hg := got_put hst
          have S2 := Lib.hid (fun w => put_n (n := n) hg.1 (by rw [hg.2.2, Hll.out]) w)
          have S3 := Lib.hid hg.2.1
          clear hst hg ho
          go_wp2_with fail
          refine (S1.out A n c _ HL.out Hn1.out).mono ?_
          rintro e w2 ⟨A2, c2, rfl, hb2⟩
          have HL := Lib.hid (HL.out.next hb2)
          have HH := Lib.hid (HH.out.trans (hb2.mono HH.out.size))
          clear hb2
          have HL := Lib.hid (HL.out.laid (.cells #[Value.bool y.hm, .int .u16 y.mru.toNat, .bool y.ha, .int .u32 y.accm.toNat, .int .u8 y.auth.toNat, .bool y.hg, .int .u32 y.magic.toNat, .bool y.pfc, .bool y.acfc] 25))
          have HY : Hid (LAt (w2.alloc (.cells #[Value.bool y.hm, .int .u16 y.mru.toNat, .bool y.ha, .int .u32 y.accm.toNat, .int .u8 y.auth.toNat, .bool y.hg, .int .u32 y.magic.toNat, .bool y.pfc, .bool y.acfc] 25)) w2.heap.size y) := lat_new w2 y
          have HH := Lib.hid (HH.out.alloc HH.out.size (.cells #[Value.bool y.hm, .int .u16 y.mru.toNat, .bool y.ha, .int .u32 y.accm.toNat, .int .u8 y.auth.toNat, .bool y.hg, .int .u32 y.magic.toNat, .bool y.pfc, .bool y.acfc] 25))
          have y0 : (w2.alloc (.cells #[Value.bool y.hm, .int .u16 y.mru.toNat, .bool y.ha, .int .u32 y.accm.toNat, .int .u8 y.auth.toNat, .bool y.hg, .int .u32 y.magic.toNat, .bool y.pfc, .bool y.acfc] 25)).cell? ⟨w2.heap.size, 0, none⟩ = some (Value.bool y.hm) := HY.out.c 0
          have y1 : (w2.alloc (.cells #[Value.bool y.hm, .int .u16 y.mru.toNat, .bool y.ha, .int .u32 y.accm.toNat, .int .u8 y.auth.toNat, .bool y.hg, .int .u32 y.magic.toNat, .bool y.pfc, .bool y.acfc] 25)).cell? ⟨w2.heap.size, 1, none⟩ = some (.int .u16 y.mru.toNat) := HY.out.c 1
          have y2 : (w2.alloc (.cells #[Value.bool y.hm, .int .u16 y.mru.toNat, .bool y.ha, .int .u32 y.accm.toNat, .int .u8 y.auth.toNat, .bool y.hg, .int .u32 y.magic.toNat, .bool y.pfc, .bool y.acfc] 25)).cell? ⟨w2.heap.size, 2, none⟩ = some (.bool y.ha) := HY.out.c 2
          have y3 : (w2.alloc (.cells #[Value.bool y.hm, .int .u16 y.mru.toNat, .bool y.ha, .int .u32 y.accm.toNat, .int .u8 y.auth.toNat, .bool y.hg, .int .u32 y.magic.toNat, .bool y.pfc, .bool y.acfc] 25)).cell? ⟨w2.heap.size, 3, none⟩ = some (.int .u32 y.accm.toNat) := HY.out.c 3
          have y4 : (w2.alloc (.cells #[Value.bool y.hm, .int .u16 y.mru.toNat, .bool y.ha, .int .u32 y.accm.toNat, .int .u8 y.auth.toNat, .bool y.hg, .int .u32 y.magic.toNat, .bool y.pfc, .bool y.acfc] 25)).cell? ⟨w2.heap.size, 4, none⟩ = some (.int .u8 y.auth.toNat) := HY.out.c 4
          have y5 : (w2.alloc (.cells #[Value.bool y.hm, .int .u16 y.mru.toNat, .bool y.ha, .int .u32 y.accm.toNat, .int .u8 y.auth.toNat, .bool y.hg, .int .u32 y.magic.toNat, .bool y.pfc, .bool y.acfc] 25)).cell? ⟨w2.heap.size, 5, none⟩ = some (.bool y.hg) := HY.out.c 5
          have y6 : (w2.alloc (.cells #[Value.bool y.hm, .int .u16 y.mru.toNat, .bool y.ha, .int .u32 y.accm.toNat, .int .u8 y.auth.toNat, .bool y.hg, .int .u32 y.magic.toNat, .bool y.pfc, .bool y.acfc] 25)).cell? ⟨w2.heap.size, 6, none⟩ = some (.int .u32 y.magic.toNat) := HY.out.c 6
          have y7 : (w2.alloc (.cells #[Value.bool y.hm, .int .u16 y.mru.toNat, .bool y.ha, .int .u32 y.accm.toNat, .int .u8 y.auth.toNat, .bool y.hg, .int .u32 y.magic.toNat, .bool y.pfc, .bool y.acfc] 25)).cell? ⟨w2.heap.size, 7, none⟩ = some (.bool y.pfc) := HY.out.c 7
          have y8 : (w2.alloc (.cells #[Value.bool y.hm, .int .u16 y.mru.toNat, .bool y.ha, .int .u32 y.accm.toNat, .int .u8 y.auth.toNat, .bool y.hg, .int .u32 y.magic.toNat, .bool y.pfc, .bool y.acfc] 25)).cell? ⟨w2.heap.size, 8, none⟩ = some (.bool y.acfc) := HY.out.c 8
          go_wp2_with fail
          refine (S2.out _).mono ?_
          rintro e w3 ⟨A3, c3, rfl, hO3, hb3⟩
          clear HY
          have HL := Lib.hid (HL.out.next hb3)
          have HH := Lib.hid (HH.out.trans (hb3.mono HH.out.size))
          clear hb3
          have HB := Lib.hid hO3
          clear hO3
          clear y0 y1 y2 y3 y4 y5 y6 y7 y8
          go_wp2
          go_loopw [16] (fun ii wr => ∃ (j : Nat), j ≤ n ∧ ii = .int .i64 j ∧ Hid (Below w3.heap.size w3 wr)) (fun i _ => n - (intOf i).toNat)
          case atStart => exact ⟨0, Nat.zero_le _, rfl, (Below.refl _ _ : Below w3.heap.size w3 w3)⟩
          case round =>
            obtain ⟨j, hj, rfl, hbv⟩ := hrel
            have HBV := Lib.hid hbv.out
            clear hbv
            by_cases hlt : j < n
            · obtain ⟨adb, o, ea, _, hob, _, _, _⟩ := (HB.out.below HBV.out).at_ hlt
              subst ea
              have HM : Hid (∃ q, q < n ∧ l[q]? = some o) := by
                obtain ⟨q, hq⟩ := List.getElem?_of_mem ((S3.out o).1 (List.mem_of_getElem? hob))
                exact ⟨q, by have h1 := (List.getElem?_eq_some_iff.1 hq).1; have h2 := Hll.out; omega, hq⟩
              have HOB := Lib.hid hob
              clear hob
              go_wp2
              go_loopw [17, 18] (fun vf vk wr => ∃ (f : Bool) (k : Nat), k ≤ n ∧ vf = .bool f ∧ vk = .int .i64 k ∧ Hid ((∃ q, q < k ∧ l[q]? = some o) → f = true) ∧ Hid (Below w3.heap.size w3 wr)) (fun _ i _ => n - (intOf i).toNat)
              case atStart => exact ⟨false, 0, Nat.zero_le _, rfl, rfl, (fun ⟨q, h, _⟩ => absurd h (Nat.not_lt_zero _)), HBV⟩
              case round =>
                obtain ⟨f, k, hk, rfl, rfl, HF, hbv⟩ := hrel
                have HB2 := Lib.hid hbv.out
                clear hbv
                by_cases hkl : k < n
                · obtain ⟨ad1, o1, rfl, h1B, ho1, h1S, hc0, hc1⟩ := (HL.out.below HB2.out).at_ hkl
                  obtain ⟨ad2, o2, e2, h2B, ho2, h2S, hd0, hd1⟩ := (HB.out.below HB2.out).at_ hlt
                  cases e2
                  obtain rfl : o2 = o := by have h := HOB.out; rw [ho2] at h; exact Option.some.inj h
                  have hk1 : ¬ (n : Int) ≤ (k : Int) := by omega
                  have hk2 : decide ((n : Int) ≤ (k : Int)) = false := decide_eq_false hk1
                  have hk3 : ¬ (n : Int) ≤ (j : Int) := by omega
                  have hk4 : decide ((n : Int) ≤ (j : Int)) = false := decide_eq_false hk3
                  have HO1 := Lib.hid ho1
                  clear ho1 ho2
                  cases f
                  · obtain ⟨r, hr⟩ : ∃ r, decide (o1 = o2) = r := ⟨_, rfl⟩
                    have HR := Lib.hid hr
                    have r0 : ∀ W, (Op.equalIn 10000 28 (.agg #[.int .u8 o1.1.toNat, .string o1.2]) (.agg #[.int .u8 o2.1.toNat, .string o2.2])).run Try.prog W = .ok r W := opt_eq hr
                    have r1 : ∀ W, (binOp .eql 28 (.agg #[.int .u8 o1.1.toNat, .string o1.2]) (.agg #[.int .u8 o2.1.toNat, .string o2.2])).run Try.prog W = .ok (.bool r) W := opt_eql hr
                    clear hr
                    go_wp2
                    go_quiet (fail)
                    go_wp2
                    go_roundw
                    case rel =>
                      refine ⟨r, k + 1, by omega, rfl, by go_num, ?_, HB2.out.drewN' _⟩
                      rintro ⟨q, hq, hlq⟩
                      by_cases hqk : q < k
                      · exact absurd (HF.out ⟨q, hqk, hlq⟩) (by decide)
                      · obtain rfl : q = k := by omega
                        rw [HO1.out] at hlq
                        rw [← HR.out, Option.some.inj hlq]
                        exact decide_eq_true rfl
                    case measure => simp [intOf]; omega
                  · go_wp2
                    go_quiet (fail)
                    go_wp2
                    go_roundw
                    case rel => exact ⟨true, k + 1, by omega, rfl, by go_num, (fun _ => rfl), HB2.out.drewN' _⟩
                    case measure => simp [intOf]; omega
                · obtain rfl : k = n := by omega
                  obtain rfl : f = true := HF.out HM.out
                  go_wp2
                  go_roundw
                  case rel => exact ⟨j + 1, by omega, by go_num, HB2.out⟩
                  case measure => simp [intOf]; omega
            · obtain rfl : j = n := by omega
              have HZ := Lib.hid (HH.out.trans (HBV.out.mono HH.out.size))
              go_wp2_with fail
              refine (alive_any _).mono ?_
              rintro e w99 ⟨rfl, hb99⟩
              have HZ9 := Lib.hid (HZ.out.trans (hb99.mono HZ.out.size))
              clear hb99
              go_wp2
              go_ret
              exact ⟨rfl, HZ9.out⟩
        · have ho1 : ¬ (odd.length : Int) = 0 := by omega
          have ho2 : ((odd.length : Int) != 0) = true := bne_iff_ne.2 ho1
          have ho3 : ((odd.length : Int) == 0) = false := beq_eq_false_iff_ne.2 ho1
          generalize odd.length = m at *
          clear hst
          go_wp2_with fail
          refine (S1.out A n c _ HL.out Hn1.out).mono ?_
          rintro e w2 ⟨A2, c2, rfl, hb2⟩
          have HL := Lib.hid (HL.out.next hb2)
          have HH := Lib.hid (HH.out.trans (hb2.mono HH.out.size))
          clear hb2
          have HL := Lib.hid (HL.out.laid (.cells #[Value.bool y.hm, .int .u16 y.mru.toNat, .bool y.ha, .int .u32 y.accm.toNat, .int .u8 y.auth.toNat, .bool y.hg, .int .u32 y.magic.toNat, .bool y.pfc, .bool y.acfc] 25))
          have HY : Hid (LAt (w2.alloc (.cells #[Value.bool y.hm, .int .u16 y.mru.toNat, .bool y.ha, .int .u32 y.accm.toNat, .int .u8 y.auth.toNat, .bool y.hg, .int .u32 y.magic.toNat, .bool y.pfc, .bool y.acfc] 25)) w2.heap.size y) := lat_new w2 y
          have HH := Lib.hid (HH.out.alloc HH.out.size (.cells #[Value.bool y.hm, .int .u16 y.mru.toNat, .bool y.ha, .int .u32 y.accm.toNat, .int .u8 y.auth.toNat, .bool y.hg, .int .u32 y.magic.toNat, .bool y.pfc, .bool y.acfc] 25))
          go_wp2_with fail
          refine (alive_any _).mono ?_
          rintro e w3 ⟨rfl, hb3⟩
          have HL := Lib.hid (HL.out.next hb3)
          have HY := Lib.hid (HY.out.callee hb3)
          have HH := Lib.hid (HH.out.trans (hb3.mono HH.out.size))
          clear hb3
          go_wp2
          go_ret
          exact ⟨rfl, HH.out⟩
    case true =>
      have R1 := Lib.hid (put_rise x)
      have S0 := Lib.hid (get_put hx)
      go_wp2_with fail
      refine (put_yes x _ hx).mono ?_
      rintro e w1 ⟨A1, c1, rfl, hO1, hb1⟩
      have HL := Lib.hid (HL.out.next hb1)
      have HX := Lib.hid (HX.out.callee hb1)
      have HH := Lib.hid (HH.out.trans (hb1.mono HH.out.size))
      clear hb1
      have HP := Lib.hid hO1
      clear hO1
      clear p0 p1 p2 p3 p4 p5 p6 p7 p8
      clear hx
      go_wp2_with fail
      refine (S0.out A1 c1 _ HP.out).mono ?_
      rintro e w2 ⟨A2, c2, rfl, hb2⟩
      have HL := Lib.hid (HL.out.next hb2)
      have HP := Lib.hid (HP.out.next hb2)
      have HX := Lib.hid (HX.out.callee hb2)
      have HH := Lib.hid (HH.out.trans (hb2.mono HH.out.size))
      clear hb2
      have HL := Lib.hid (HL.out.laid (.cells #[Value.bool x.hm, .int .u16 x.mru.toNat, .bool x.ha, .int .u32 x.accm.toNat, .int .u8 x.auth.toNat, .bool x.hg, .int .u32 x.magic.toNat, .bool x.pfc, .bool x.acfc] 25))
      have HP := Lib.hid (HP.out.laid (.cells #[Value.bool x.hm, .int .u16 x.mru.toNat, .bool x.ha, .int .u32 x.accm.toNat, .int .u8 x.auth.toNat, .bool x.hg, .int .u32 x.magic.toNat, .bool x.pfc, .bool x.acfc] 25))
      have HX := Lib.hid (HX.out.alloc (.cells #[Value.bool x.hm, .int .u16 x.mru.toNat, .bool x.ha, .int .u32 x.accm.toNat, .int .u8 x.auth.toNat, .bool x.hg, .int .u32 x.magic.toNat, .bool x.pfc, .bool x.acfc] 25))
      have HQ : Hid (LAt (w2.alloc (.cells #[Value.bool x.hm, .int .u16 x.mru.toNat, .bool x.ha, .int .u32 x.accm.toNat, .int .u8 x.auth.toNat, .bool x.hg, .int .u32 x.magic.toNat, .bool x.pfc, .bool x.acfc] 25)) w2.heap.size x) := lat_new w2 x
      have HH := Lib.hid (HH.out.alloc HH.out.size (.cells #[Value.bool x.hm, .int .u16 x.mru.toNat, .bool x.ha, .int .u32 x.accm.toNat, .int .u8 x.auth.toNat, .bool x.hg, .int .u32 x.magic.toNat, .bool x.pfc, .bool x.acfc] 25))
      have q0 : (w2.alloc (.cells #[Value.bool x.hm, .int .u16 x.mru.toNat, .bool x.ha, .int .u32 x.accm.toNat, .int .u8 x.auth.toNat, .bool x.hg, .int .u32 x.magic.toNat, .bool x.pfc, .bool x.acfc] 25)).cell? ⟨w2.heap.size, 0, none⟩ = some (Value.bool x.hm) := HQ.out.c 0
      have q1 : (w2.alloc (.cells #[Value.bool x.hm, .int .u16 x.mru.toNat, .bool x.ha, .int .u32 x.accm.toNat, .int .u8 x.auth.toNat, .bool x.hg, .int .u32 x.magic.toNat, .bool x.pfc, .bool x.acfc] 25)).cell? ⟨w2.heap.size, 1, none⟩ = some (.int .u16 x.mru.toNat) := HQ.out.c 1
      have q2 : (w2.alloc (.cells #[Value.bool x.hm, .int .u16 x.mru.toNat, .bool x.ha, .int .u32 x.accm.toNat, .int .u8 x.auth.toNat, .bool x.hg, .int .u32 x.magic.toNat, .bool x.pfc, .bool x.acfc] 25)).cell? ⟨w2.heap.size, 2, none⟩ = some (.bool x.ha) := HQ.out.c 2
      have q3 : (w2.alloc (.cells #[Value.bool x.hm, .int .u16 x.mru.toNat, .bool x.ha, .int .u32 x.accm.toNat, .int .u8 x.auth.toNat, .bool x.hg, .int .u32 x.magic.toNat, .bool x.pfc, .bool x.acfc] 25)).cell? ⟨w2.heap.size, 3, none⟩ = some (.int .u32 x.accm.toNat) := HQ.out.c 3
      have q4 : (w2.alloc (.cells #[Value.bool x.hm, .int .u16 x.mru.toNat, .bool x.ha, .int .u32 x.accm.toNat, .int .u8 x.auth.toNat, .bool x.hg, .int .u32 x.magic.toNat, .bool x.pfc, .bool x.acfc] 25)).cell? ⟨w2.heap.size, 4, none⟩ = some (.int .u8 x.auth.toNat) := HQ.out.c 4
      have q5 : (w2.alloc (.cells #[Value.bool x.hm, .int .u16 x.mru.toNat, .bool x.ha, .int .u32 x.accm.toNat, .int .u8 x.auth.toNat, .bool x.hg, .int .u32 x.magic.toNat, .bool x.pfc, .bool x.acfc] 25)).cell? ⟨w2.heap.size, 5, none⟩ = some (.bool x.hg) := HQ.out.c 5
      have q6 : (w2.alloc (.cells #[Value.bool x.hm, .int .u16 x.mru.toNat, .bool x.ha, .int .u32 x.accm.toNat, .int .u8 x.auth.toNat, .bool x.hg, .int .u32 x.magic.toNat, .bool x.pfc, .bool x.acfc] 25)).cell? ⟨w2.heap.size, 6, none⟩ = some (.int .u32 x.magic.toNat) := HQ.out.c 6
      have q7 : (w2.alloc (.cells #[Value.bool x.hm, .int .u16 x.mru.toNat, .bool x.ha, .int .u32 x.accm.toNat, .int .u8 x.auth.toNat, .bool x.hg, .int .u32 x.magic.toNat, .bool x.pfc, .bool x.acfc] 25)).cell? ⟨w2.heap.size, 7, none⟩ = some (.bool x.pfc) := HQ.out.c 7
      have q8 : (w2.alloc (.cells #[Value.bool x.hm, .int .u16 x.mru.toNat, .bool x.ha, .int .u32 x.accm.toNat, .int .u8 x.auth.toNat, .bool x.hg, .int .u32 x.magic.toNat, .bool x.pfc, .bool x.acfc] 25)).cell? ⟨w2.heap.size, 8, none⟩ = some (.bool x.acfc) := HQ.out.c 8
      have p0 : (w2.alloc (.cells #[Value.bool x.hm, .int .u16 x.mru.toNat, .bool x.ha, .int .u32 x.accm.toNat, .int .u8 x.auth.toNat, .bool x.hg, .int .u32 x.magic.toNat, .bool x.pfc, .bool x.acfc] 25)).cell? ⟨w.heap.size, 0, none⟩ = some (Value.bool x.hm) := HX.out.c 0
      have p1 : (w2.alloc (.cells #[Value.bool x.hm, .int .u16 x.mru.toNat, .bool x.ha, .int .u32 x.accm.toNat, .int .u8 x.auth.toNat, .bool x.hg, .int .u32 x.magic.toNat, .bool x.pfc, .bool x.acfc] 25)).cell? ⟨w.heap.size, 1, none⟩ = some (.int .u16 x.mru.toNat) := HX.out.c 1
      have p2 : (w2.alloc (.cells #[Value.bool x.hm, .int .u16 x.mru.toNat, .bool x.ha, .int .u32 x.accm.toNat, .int .u8 x.auth.toNat, .bool x.hg, .int .u32 x.magic.toNat, .bool x.pfc, .bool x.acfc] 25)).cell? ⟨w.heap.size, 2, none⟩ = some (.bool x.ha) := HX.out.c 2
      have p3 : (w2.alloc (.cells #[Value.bool x.hm, .int .u16 x.mru.toNat, .bool x.ha, .int .u32 x.accm.toNat, .int .u8 x.auth.toNat, .bool x.hg, .int .u32 x.magic.toNat, .bool x.pfc, .bool x.acfc] 25)).cell? ⟨w.heap.size, 3, none⟩ = some (.int .u32 x.accm.toNat) := HX.out.c 3
      have p4 : (w2.alloc (.cells #[Value.bool x.hm, .int .u16 x.mru.toNat, .bool x.ha, .int .u32 x.accm.toNat, .int .u8 x.auth.toNat, .bool x.hg, .int .u32 x.magic.toNat, .bool x.pfc, .bool x.acfc] 25)).cell? ⟨w.heap.size, 4, none⟩ = some (.int .u8 x.auth.toNat) := HX.out.c 4
      have p5 : (w2.alloc (.cells #[Value.bool x.hm, .int .u16 x.mru.toNat, .bool x.ha, .int .u32 x.accm.toNat, .int .u8 x.auth.toNat, .bool x.hg, .int .u32 x.magic.toNat, .bool x.pfc, .bool x.acfc] 25)).cell? ⟨w.heap.size, 5, none⟩ = some (.bool x.hg) := HX.out.c 5
      have p6 : (w2.alloc (.cells #[Value.bool x.hm, .int .u16 x.mru.toNat, .bool x.ha, .int .u32 x.accm.toNat, .int .u8 x.auth.toNat, .bool x.hg, .int .u32 x.magic.toNat, .bool x.pfc, .bool x.acfc] 25)).cell? ⟨w.heap.size, 6, none⟩ = some (.int .u32 x.magic.toNat) := HX.out.c 6
      have p7 : (w2.alloc (.cells #[Value.bool x.hm, .int .u16 x.mru.toNat, .bool x.ha, .int .u32 x.accm.toNat, .int .u8 x.auth.toNat, .bool x.hg, .int .u32 x.magic.toNat, .bool x.pfc, .bool x.acfc] 25)).cell? ⟨w.heap.size, 7, none⟩ = some (.bool x.pfc) := HX.out.c 7
      have p8 : (w2.alloc (.cells #[Value.bool x.hm, .int .u16 x.mru.toNat, .bool x.ha, .int .u32 x.accm.toNat, .int .u8 x.auth.toNat, .bool x.hg, .int .u32 x.magic.toNat, .bool x.pfc, .bool x.acfc] 25)).cell? ⟨w.heap.size, 8, none⟩ = some (.bool x.acfc) := HX.out.c 8
      have r0 : ∀ W, (Op.equalIn 10000 25 (.agg #[Value.bool x.hm, .int .u16 x.mru.toNat, .bool x.ha, .int .u32 x.accm.toNat, .int .u8 x.auth.toNat, .bool x.hg, .int .u32 x.magic.toNat, .bool x.pfc, .bool x.acfc]) (.agg #[Value.bool x.hm, .int .u16 x.mru.toNat, .bool x.ha, .int .u32 x.accm.toNat, .int .u8 x.auth.toNat, .bool x.hg, .int .u32 x.magic.toNat, .bool x.pfc, .bool x.acfc])).run Try.prog W = .ok true W := lcp_eq (decide_eq_true rfl)
      have r1 : ∀ W, (binOp .neq 25 (.agg #[Value.bool x.hm, .int .u16 x.mru.toNat, .bool x.ha, .int .u32 x.accm.toNat, .int .u8 x.auth.toNat, .bool x.hg, .int .u32 x.magic.toNat, .bool x.pfc, .bool x.acfc]) (.agg #[Value.bool x.hm, .int .u16 x.mru.toNat, .bool x.ha, .int .u32 x.accm.toNat, .int .u8 x.auth.toNat, .bool x.hg, .int .u32 x.magic.toNat, .bool x.pfc, .bool x.acfc])).run Try.prog W = .ok (.bool false) W := lcp_neq (decide_eq_true rfl)
      go_wp2
      obtain ⟨V, hV⟩ : ∃ V, (w2.alloc (.cells #[Value.bool x.hm, .int .u16 x.mru.toNat, .bool x.ha, .int .u32 x.accm.toNat, .int .u8 x.auth.toNat, .bool x.hg, .int .u32 x.magic.toNat, .bool x.pfc, .bool x.acfc] 25)) = V := ⟨_, rfl⟩
      have HLv : Hid (Opts V V.heap.size A n l) := by rw [← hV]; exact HL.out
      have HPv : Hid (Opts V V.heap.size A1 (put x).length (put x)) := by rw [← hV]; exact HP.out
      have HHv : Hid (Below w.heap.size w V) := by rw [← hV]; exact HH.out
      rw [hV]
      clear hV HL HP HH HX HQ S0 r0 r1
      clear p0 p1 p2 p3 p4 p5 p6 p7 p8
      clear q0 q1 q2 q3 q4 q5 q6 q7 q8
      have hm6 := put_len x
      generalize put x = a at *
      generalize hm : a.length = m at *
      have Hm := Lib.hid hm
      clear hm
      generalize w2.heap.size = bq at *
      go_loopw [10] (fun ii wr => ∃ (j : Nat), 1 ≤ j ∧ ii = .int .i64 j ∧ Hid (Below V.heap.size V wr)) (fun i _ => m + 1 - (intOf i).toNat)
      case atStart => exact ⟨1, Nat.le_refl _, rfl, (Below.refl _ _ : Below V.heap.size V V)⟩
      case round =>
        obtain ⟨j, hj1, rfl, hbv⟩ := hrel
        have HBV := Lib.hid hbv.out
        clear hbv
        by_cases hlt : j < m
        · obtain ⟨q, hq⟩ : ∃ q, j = q + 1 := ⟨j - 1, by omega⟩
          obtain ⟨ad, o1, rfl, h1B, ho1, h1S, hc0, hc1⟩ := (HPv.out.below HBV.out).at_ hlt
          obtain ⟨ad2, o0, e2, h2B, ho0, h2S, hd0, hd1⟩ := (HPv.out.below HBV.out).at_ (show q < m by omega)
          cases e2
          have hr := rise_at R1.out ho0 (by rw [← hq]; exact ho1)
          clear ho1 ho0
          have hk1 : ¬ (m : Int) ≤ (j : Int) := by omega
          have hk2 : ¬ (m : Int) ≤ (q : Int) := by omega
          have hk6 : decide ((m : Int) ≤ (j : Int)) = false := decide_eq_false hk1
          have hk7 : decide ((m : Int) ≤ (q : Int)) = false := decide_eq_false hk2
          have hk3 : (j : Int) - 1 = (q : Int) := by omega
          have hk4 : ¬ ((o1.1.toNat : Int) ≤ (o0.1.toNat : Int)) := by omega
          have hk5 : decide ((o1.1.toNat : Int) ≤ (o0.1.toNat : Int)) = false := decide_eq_false hk4
          have HQ1 := Lib.hid hq
          clear hq
          go_wp2
          go_quiet (fail)
          go_wp2
          go_roundw
          case rel => exact ⟨j + 1, by omega, by go_num, HBV.out.drewN' _⟩
          case measure => simp [intOf]; omega
        · have HLw := Lib.hid ((HLv.out.next HBV.out))
          have HHw := Lib.hid (HHv.out.trans (HBV.out.mono HHv.out.size))
          clear HLv HHv HPv HBV
          have HL := HLw
          have HH := HHw
          clear HLw HHw
          rcases hst : st l with _ | ⟨y, odd⟩
          · have S1 := Lib.hid (get_none' hst)
            clear hst
            go_wp2_with fail
            refine (S1.out A n c _ HL.out Hn1.out).mono ?_
            rintro e w4 ⟨A4, c4, rfl, hb4⟩
            have HL := Lib.hid (HL.out.next hb4)
            have HH := Lib.hid (HH.out.trans (hb4.mono HH.out.size))
            clear hb4
            have HL := Lib.hid (HL.out.laid (.cells #[Value.bool false, .int .u16 0, .bool false, .int .u32 0, .int .u8 0, .bool false, .int .u32 0, .bool false, .bool false] 25))
            have HY : Hid (LAt (w4.alloc (.cells #[Value.bool false, .int .u16 0, .bool false, .int .u32 0, .int .u8 0, .bool false, .int .u32 0, .bool false, .bool false] 25)) w4.heap.size lz) := lat_new w4 lz
            have HH := Lib.hid (HH.out.alloc HH.out.size (.cells #[Value.bool false, .int .u16 0, .bool false, .int .u32 0, .int .u8 0, .bool false, .int .u32 0, .bool false, .bool false] 25))
            have y0 : (w4.alloc (.cells #[Value.bool false, .int .u16 0, .bool false, .int .u32 0, .int .u8 0, .bool false, .int .u32 0, .bool false, .bool false] 25)).cell? ⟨w4.heap.size, 0, none⟩ = some (Value.bool false) := HY.out.c 0
            have y1 : (w4.alloc (.cells #[Value.bool false, .int .u16 0, .bool false, .int .u32 0, .int .u8 0, .bool false, .int .u32 0, .bool false, .bool false] 25)).cell? ⟨w4.heap.size, 1, none⟩ = some (.int .u16 0) := HY.out.c 1
            have y2 : (w4.alloc (.cells #[Value.bool false, .int .u16 0, .bool false, .int .u32 0, .int .u8 0, .bool false, .int .u32 0, .bool false, .bool false] 25)).cell? ⟨w4.heap.size, 2, none⟩ = some (.bool false) := HY.out.c 2
            have y3 : (w4.alloc (.cells #[Value.bool false, .int .u16 0, .bool false, .int .u32 0, .int .u8 0, .bool false, .int .u32 0, .bool false, .bool false] 25)).cell? ⟨w4.heap.size, 3, none⟩ = some (.int .u32 0) := HY.out.c 3
            have y4 : (w4.alloc (.cells #[Value.bool false, .int .u16 0, .bool false, .int .u32 0, .int .u8 0, .bool false, .int .u32 0, .bool false, .bool false] 25)).cell? ⟨w4.heap.size, 4, none⟩ = some (.int .u8 0) := HY.out.c 4
            have y5 : (w4.alloc (.cells #[Value.bool false, .int .u16 0, .bool false, .int .u32 0, .int .u8 0, .bool false, .int .u32 0, .bool false, .bool false] 25)).cell? ⟨w4.heap.size, 5, none⟩ = some (.bool false) := HY.out.c 5
            have y6 : (w4.alloc (.cells #[Value.bool false, .int .u16 0, .bool false, .int .u32 0, .int .u8 0, .bool false, .int .u32 0, .bool false, .bool false] 25)).cell? ⟨w4.heap.size, 6, none⟩ = some (.int .u32 0) := HY.out.c 6
            have y7 : (w4.alloc (.cells #[Value.bool false, .int .u16 0, .bool false, .int .u32 0, .int .u8 0, .bool false, .int .u32 0, .bool false, .bool false] 25)).cell? ⟨w4.heap.size, 7, none⟩ = some (.bool false) := HY.out.c 7
            have y8 : (w4.alloc (.cells #[Value.bool false, .int .u16 0, .bool false, .int .u32 0, .int .u8 0, .bool false, .int .u32 0, .bool false, .bool false] 25)).cell? ⟨w4.heap.size, 8, none⟩ = some (.bool false) := HY.out.c 8
            go_wp2_with fail
            refine (alive_any _).mono ?_
            rintro e w5 ⟨rfl, hb5⟩
            have HL := Lib.hid (HL.out.next hb5)
            have HY := Lib.hid (HY.out.callee hb5)
            have HH := Lib.hid (HH.out.trans (hb5.mono HH.out.size))
            clear hb5
            go_wp2
            go_ret
            exact ⟨rfl, HH.out⟩
          · have S1 := Lib.hid (get_some' hst)
            by_cases ho : odd.length = 0
            · obtain rfl : odd = [] := List.length_eq_zero_iff.1 ho
              have hg := got_put hst
              have S2 := Lib.hid (fun w => put_n (n := n) hg.1 (by rw [hg.2.2, Hll.out]) w)
              have S3 := Lib.hid hg.2.1
              clear hst hg ho
              go_wp2_with fail
              refine (S1.out A n c _ HL.out Hn1.out).mono ?_
              rintro e w4 ⟨A4, c4, rfl, hb4⟩
              have HL := Lib.hid (HL.out.next hb4)
              have HH := Lib.hid (HH.out.trans (hb4.mono HH.out.size))
              clear hb4
              have HL := Lib.hid (HL.out.laid (.cells #[Value.bool y.hm, .int .u16 y.mru.toNat, .bool y.ha, .int .u32 y.accm.toNat, .int .u8 y.auth.toNat, .bool y.hg, .int .u32 y.magic.toNat, .bool y.pfc, .bool y.acfc] 25))
              have HY : Hid (LAt (w4.alloc (.cells #[Value.bool y.hm, .int .u16 y.mru.toNat, .bool y.ha, .int .u32 y.accm.toNat, .int .u8 y.auth.toNat, .bool y.hg, .int .u32 y.magic.toNat, .bool y.pfc, .bool y.acfc] 25)) w4.heap.size y) := lat_new w4 y
              have HH := Lib.hid (HH.out.alloc HH.out.size (.cells #[Value.bool y.hm, .int .u16 y.mru.toNat, .bool y.ha, .int .u32 y.accm.toNat, .int .u8 y.auth.toNat, .bool y.hg, .int .u32 y.magic.toNat, .bool y.pfc, .bool y.acfc] 25))
              have y0 : (w4.alloc (.cells #[Value.bool y.hm, .int .u16 y.mru.toNat, .bool y.ha, .int .u32 y.accm.toNat, .int .u8 y.auth.toNat, .bool y.hg, .int .u32 y.magic.toNat, .bool y.pfc, .bool y.acfc] 25)).cell? ⟨w4.heap.size, 0, none⟩ = some (Value.bool y.hm) := HY.out.c 0
              have y1 : (w4.alloc (.cells #[Value.bool y.hm, .int .u16 y.mru.toNat, .bool y.ha, .int .u32 y.accm.toNat, .int .u8 y.auth.toNat, .bool y.hg, .int .u32 y.magic.toNat, .bool y.pfc, .bool y.acfc] 25)).cell? ⟨w4.heap.size, 1, none⟩ = some (.int .u16 y.mru.toNat) := HY.out.c 1
              have y2 : (w4.alloc (.cells #[Value.bool y.hm, .int .u16 y.mru.toNat, .bool y.ha, .int .u32 y.accm.toNat, .int .u8 y.auth.toNat, .bool y.hg, .int .u32 y.magic.toNat, .bool y.pfc, .bool y.acfc] 25)).cell? ⟨w4.heap.size, 2, none⟩ = some (.bool y.ha) := HY.out.c 2
              have y3 : (w4.alloc (.cells #[Value.bool y.hm, .int .u16 y.mru.toNat, .bool y.ha, .int .u32 y.accm.toNat, .int .u8 y.auth.toNat, .bool y.hg, .int .u32 y.magic.toNat, .bool y.pfc, .bool y.acfc] 25)).cell? ⟨w4.heap.size, 3, none⟩ = some (.int .u32 y.accm.toNat) := HY.out.c 3
              have y4 : (w4.alloc (.cells #[Value.bool y.hm, .int .u16 y.mru.toNat, .bool y.ha, .int .u32 y.accm.toNat, .int .u8 y.auth.toNat, .bool y.hg, .int .u32 y.magic.toNat, .bool y.pfc, .bool y.acfc] 25)).cell? ⟨w4.heap.size, 4, none⟩ = some (.int .u8 y.auth.toNat) := HY.out.c 4
              have y5 : (w4.alloc (.cells #[Value.bool y.hm, .int .u16 y.mru.toNat, .bool y.ha, .int .u32 y.accm.toNat, .int .u8 y.auth.toNat, .bool y.hg, .int .u32 y.magic.toNat, .bool y.pfc, .bool y.acfc] 25)).cell? ⟨w4.heap.size, 5, none⟩ = some (.bool y.hg) := HY.out.c 5
              have y6 : (w4.alloc (.cells #[Value.bool y.hm, .int .u16 y.mru.toNat, .bool y.ha, .int .u32 y.accm.toNat, .int .u8 y.auth.toNat, .bool y.hg, .int .u32 y.magic.toNat, .bool y.pfc, .bool y.acfc] 25)).cell? ⟨w4.heap.size, 6, none⟩ = some (.int .u32 y.magic.toNat) := HY.out.c 6
              have y7 : (w4.alloc (.cells #[Value.bool y.hm, .int .u16 y.mru.toNat, .bool y.ha, .int .u32 y.accm.toNat, .int .u8 y.auth.toNat, .bool y.hg, .int .u32 y.magic.toNat, .bool y.pfc, .bool y.acfc] 25)).cell? ⟨w4.heap.size, 7, none⟩ = some (.bool y.pfc) := HY.out.c 7
              have y8 : (w4.alloc (.cells #[Value.bool y.hm, .int .u16 y.mru.toNat, .bool y.ha, .int .u32 y.accm.toNat, .int .u8 y.auth.toNat, .bool y.hg, .int .u32 y.magic.toNat, .bool y.pfc, .bool y.acfc] 25)).cell? ⟨w4.heap.size, 8, none⟩ = some (.bool y.acfc) := HY.out.c 8
              go_wp2_with fail
              refine (S2.out _).mono ?_
              rintro e w5 ⟨A5, c5, rfl, hO5, hb5⟩
              clear HY
              have HL := Lib.hid (HL.out.next hb5)
              have HH := Lib.hid (HH.out.trans (hb5.mono HH.out.size))
              clear hb5
              have HB := Lib.hid hO5
              clear hO5
              clear y0 y1 y2 y3 y4 y5 y6 y7 y8
              go_wp2
              go_loopw [16] (fun ii wr => ∃ (j : Nat), j ≤ n ∧ ii = .int .i64 j ∧ Hid (Below w5.heap.size w5 wr)) (fun i _ => n - (intOf i).toNat)
              case atStart => exact ⟨0, Nat.zero_le _, rfl, (Below.refl _ _ : Below w5.heap.size w5 w5)⟩
              case round =>
                obtain ⟨j, hj, rfl, hbv⟩ := hrel
                have HBV := Lib.hid hbv.out
                clear hbv
                by_cases hlt : j < n
                · obtain ⟨adb, o, ea, _, hob, _, _, _⟩ := (HB.out.below HBV.out).at_ hlt
                  subst ea
                  have HM : Hid (∃ q, q < n ∧ l[q]? = some o) := by
                    obtain ⟨q, hq⟩ := List.getElem?_of_mem ((S3.out o).1 (List.mem_of_getElem? hob))
                    exact ⟨q, by have h1 := (List.getElem?_eq_some_iff.1 hq).1; have h2 := Hll.out; omega, hq⟩
                  have HOB := Lib.hid hob
                  clear hob
                  go_wp2
                  go_loopw [17, 18] (fun vf vk wr => ∃ (f : Bool) (k : Nat), k ≤ n ∧ vf = .bool f ∧ vk = .int .i64 k ∧ Hid ((∃ q, q < k ∧ l[q]? = some o) → f = true) ∧ Hid (Below w5.heap.size w5 wr)) (fun _ i _ => n - (intOf i).toNat)
                  case atStart => exact ⟨false, 0, Nat.zero_le _, rfl, rfl, (fun ⟨q, h, _⟩ => absurd h (Nat.not_lt_zero _)), HBV⟩
                  case round =>
                    obtain ⟨f, k, hk, rfl, rfl, HF, hbv⟩ := hrel
                    have HB2 := Lib.hid hbv.out
                    clear hbv
                    by_cases hkl : k < n
                    · obtain ⟨ad1, o1, rfl, h1B, ho1, h1S, hc0, hc1⟩ := (HL.out.below HB2.out).at_ hkl
                      obtain ⟨ad2, o2, e2, h2B, ho2, h2S, hd0, hd1⟩ := (HB.out.below HB2.out).at_ hlt
                      cases e2
                      obtain rfl : o2 = o := by have h := HOB.out; rw [ho2] at h; exact Option.some.inj h
                      have hk1 : ¬ (n : Int) ≤ (k : Int) := by omega
                      have hk2 : decide ((n : Int) ≤ (k : Int)) = false := decide_eq_false hk1
                      have hk3 : ¬ (n : Int) ≤ (j : Int) := by omega
                      have hk4 : decide ((n : Int) ≤ (j : Int)) = false := decide_eq_false hk3
                      have HO1 := Lib.hid ho1
                      clear ho1 ho2
                      cases f
                      · obtain ⟨r, hr⟩ : ∃ r, decide (o1 = o2) = r := ⟨_, rfl⟩
                        have HR := Lib.hid hr
                        have r0 : ∀ W, (Op.equalIn 10000 28 (.agg #[.int .u8 o1.1.toNat, .string o1.2]) (.agg #[.int .u8 o2.1.toNat, .string o2.2])).run Try.prog W = .ok r W := opt_eq hr
                        have r1 : ∀ W, (binOp .eql 28 (.agg #[.int .u8 o1.1.toNat, .string o1.2]) (.agg #[.int .u8 o2.1.toNat, .string o2.2])).run Try.prog W = .ok (.bool r) W := opt_eql hr
                        clear hr
                        go_wp2
                        go_quiet (fail)
                        go_wp2
                        go_roundw
                        case rel =>
                          refine ⟨r, k + 1, by omega, rfl, by go_num, ?_, HB2.out.drewN' _⟩
                          rintro ⟨q, hq, hlq⟩
                          by_cases hqk : q < k
                          · exact absurd (HF.out ⟨q, hqk, hlq⟩) (by decide)
                          · obtain rfl : q = k := by omega
                            rw [HO1.out] at hlq
                            rw [← HR.out, Option.some.inj hlq]
                            exact decide_eq_true rfl
                        case measure => simp [intOf]; omega
                      · go_wp2
                        go_quiet (fail)
                        go_wp2
                        go_roundw
                        case rel => exact ⟨true, k + 1, by omega, rfl, by go_num, (fun _ => rfl), HB2.out.drewN' _⟩
                        case measure => simp [intOf]; omega
                    · obtain rfl : k = n := by omega
                      obtain rfl : f = true := HF.out HM.out
                      go_wp2
                      go_roundw
                      case rel => exact ⟨j + 1, by omega, by go_num, HB2.out⟩
                      case measure => simp [intOf]; omega
                · obtain rfl : j = n := by omega
                  have HZ := Lib.hid (HH.out.trans (HBV.out.mono HH.out.size))
                  go_wp2_with fail
                  refine (alive_any _).mono ?_
                  rintro e w99 ⟨rfl, hb99⟩
                  have HZ9 := Lib.hid (HZ.out.trans (hb99.mono HZ.out.size))
                  clear hb99
                  go_wp2
                  go_ret
                  exact ⟨rfl, HZ9.out⟩
            · have ho1 : ¬ (odd.length : Int) = 0 := by omega
              have ho2 : ((odd.length : Int) != 0) = true := bne_iff_ne.2 ho1
              have ho3 : ((odd.length : Int) == 0) = false := beq_eq_false_iff_ne.2 ho1
              generalize odd.length = m at *
              clear hst
              go_wp2_with fail
              refine (S1.out A n c _ HL.out Hn1.out).mono ?_
              rintro e w4 ⟨A4, c4, rfl, hb4⟩
              have HL := Lib.hid (HL.out.next hb4)
              have HH := Lib.hid (HH.out.trans (hb4.mono HH.out.size))
              clear hb4
              have HL := Lib.hid (HL.out.laid (.cells #[Value.bool y.hm, .int .u16 y.mru.toNat, .bool y.ha, .int .u32 y.accm.toNat, .int .u8 y.auth.toNat, .bool y.hg, .int .u32 y.magic.toNat, .bool y.pfc, .bool y.acfc] 25))
              have HY : Hid (LAt (w4.alloc (.cells #[Value.bool y.hm, .int .u16 y.mru.toNat, .bool y.ha, .int .u32 y.accm.toNat, .int .u8 y.auth.toNat, .bool y.hg, .int .u32 y.magic.toNat, .bool y.pfc, .bool y.acfc] 25)) w4.heap.size y) := lat_new w4 y
              have HH := Lib.hid (HH.out.alloc HH.out.size (.cells #[Value.bool y.hm, .int .u16 y.mru.toNat, .bool y.ha, .int .u32 y.accm.toNat, .int .u8 y.auth.toNat, .bool y.hg, .int .u32 y.magic.toNat, .bool y.pfc, .bool y.acfc] 25))
              go_wp2_with fail
              refine (alive_any _).mono ?_
              rintro e w5 ⟨rfl, hb5⟩
              have HL := Lib.hid (HL.out.next hb5)
              have HY := Lib.hid (HY.out.callee hb5)
              have HH := Lib.hid (HH.out.trans (hb5.mono HH.out.size))
              clear hb5
              go_wp2
              go_ret
              exact ⟨rfl, HH.out⟩

set_option maxRecDepth 100000 in
theorem lifted (os : Os) (started : os.Started) (H : Type) (enc : TypeId × Value → H) :
    ReturnsInHanded {} Try.checked os 4 .any (Rows.lcpoptBackSpec.pre6 enc Try.prog Try.f4 Rows.lcpoptBackRow.domain false) (Rows.lcpoptBackSpec.post enc Try.prog Try.f4 false true false false) := by
  refine returnsInHanded_of_change_sized (C := Try.checked) own started (by kernel_rfl) Try.func4
    (ChangeSpec.witness6 (enc := enc) (C := Try.checked) false ⟨#[], #[.agg #[.bool false, .int .u16 0, .bool false, .int .u32 0, .int .u8 0, .bool false, .int .u32 0, .bool false, .bool false], .slice none 0 0], []⟩ 8 (by kernel_rfl) (by kernel_rfl) (by kernel_rfl) (by kernel_rfl)) ?_
  intro W base args ds gs before hval0 hW hcnd hsz0 _
  have hsz : (DataW.weightsEach Try.prog (Try.f4.params.toList ++ Rows.lcpoptBackSpec.plain.varTypes Try.prog) (ds ++ gs)).all (· ≤ reachBytes) = true := hsz0
  have hval : ∀ (j : Nat) t v, Try.f4.params[j]? = some t → args[j]? = some v → Value.okWide Try.prog W .any base t v := hval0
  have hW' := hW
  obtain ⟨p, q, hA0, hV, rfl, hfz, hnd⟩ := hW
  have hlt := hW'.lt
  have hA : DataW.TrodAll enc Try.prog W 0 (fun _ => true) true Try.f4.params.toList args.toList ds p := hA0
  rw [Try.params4] at hA hval hsz
  obtain ⟨v0, vs0, d0, ds0, p0, q0, hargs, rfl, rfl, h0, r0⟩ := trodAll_cons hA
  obtain ⟨v1, vs1, d1, ds1, p1, q1, rfl, rfl, rfl, h1, r1⟩ := trodAll_cons r0
  obtain ⟨rfl, rfl, rfl⟩ := trodAll_nil r1
  obtain rfl : args = #[v0, v1] := by cases args; simp_all
  obtain ⟨rfl, rfl⟩ := trodVars_none hV
  obtain ⟨a0, rfl⟩ := lcp_of Try.underlying25 (by kernel_rfl) (by kernel_rfl) Try.underlying4 Try.underlying22 Try.underlying4 Try.underlying23 Try.underlying5 Try.underlying4 Try.underlying23 Try.underlying4 Try.underlying4 (hval 0 25 v0 rfl rfl) h0
  obtain ⟨A1, n1, c1, rfl, m1, hA1, l1, hO1⟩ := opts_of Try.underlying26 Try.underlying28 (by kernel_rfl) (by kernel_rfl) Try.underlying5 Try.underlying9 (hval 1 26 v1 rfl rfl) h1 (fun n hn => of_decide_eq_true (List.all_eq_true.1 hsz n (DataW.weights_mem_each (j := 1) (t := 26) rfl rfl n hn)))
  clear hA0 hval0 hsz0
  exact (walk a0 A1 n1 c1 l1 m1 W hO1).mono fun e W' ⟨he, hb⟩ => ⟨_, he, law_post (t := 4) laidOut (by kernel_rfl) rfl rfl Try.underlying4 ⟨rfl, rfl, rfl⟩ hW' hb⟩

theorem over : Rows.lcpoptBackRow.holds Try.pinned (OpenSpec.ofChange Rows.lcpoptBackSpec) :=
  OpenClaim.holds_of_wide 4 Try.f4 rfl rfl rfl rfl rfl rfl rfl ⟨rfl, rfl, rfl, rfl, rfl⟩ rfl rfl rfl rfl rfl (by kernel_rfl) Try.func4 (by kernel_rfl)
    (of_decide_eq_true (by kernel_rfl)) (by unfold Func.isWrapper; first | (rw [if_pos (by decide +kernel)]; kernel_rfl) | (rw [if_neg (by decide +kernel)]; exact ⟨rfl, rfl⟩))
    (fun os started H enc _ => lifted os started H enc)

theorem proved : Rows.LcpoptBackSaid :=
  over
#print axioms proved
end Go.Proofs.Ytihncljhjdkknaa.LcpoptBack
