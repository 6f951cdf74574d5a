/- PROVED: 'halyardlaw09.LcpoptApart' returns true for every two values. No condition. -/
import Derived.Test.YtihncljhjdkknaaLcoS
import Derived.Test.YtihncljhjdkknaaLaw
import Derived.Test.YtihncljhjdkknaaRows
import Derived.SizedLaws
namespace Go.Proofs.Ytihncljhjdkknaa.LcpoptApart
open Go.ChangeShapes Go.WideShapes Go.ChangeAt Go.RowKit Go.Proofs.Ytihncljhjdkknaa.Oct Go.Proofs.Ytihncljhjdkknaa.Row Go.Proofs.Ytihncljhjdkknaa.Mem Go.Proofs.Ytihncljhjdkknaa.Opt Go.Proofs.Ytihncljhjdkknaa.Lco Go.Proofs.Ytihncljhjdkknaa.Law
open Go.ChangeMaps (open_string shut_string)

set_option maxHeartbeats 4000000 in
set_option maxRecDepth 100000 in
theorem walk (x y : Lcp) (w : World) : Calls Try.prog 6 #[.agg (lv x).toArray, .agg (lv y).toArray] w fun e w' => e = .returned (.bool true) ∧ Below w.heap.size w w' := by
  show Calls Try.prog 6 #[.agg #[Value.bool x.hm, .int .u16 x.mru.toNat, .bool x.ha, .int .u32 x.accm.toNat, .int .u8 x.auth.toNat, .bool x.hg, .int .u32 x.magic.toNat, .bool x.pfc, .bool x.acfc], .agg #[Value.bool y.hm, .int .u16 y.mru.toNat, .bool y.ha, .int .u32 y.accm.toNat, .int .u8 y.auth.toNat, .bool y.hg, .int .u32 y.magic.toNat, .bool y.pfc, .bool y.acfc]] w fun e w' => e = .returned (.bool true) ∧ Below w.heap.size w w'
  obtain ⟨W, hW, HW⟩ := boxLL w x y
  have HX := Lib.hid HW.out.1
  have HY := Lib.hid HW.out.2.1
  have HH := Lib.hid HW.out.2.2
  cases hx : may x
  case false =>
    cases hy : may y
    case false =>
      have p0 : W.cell? ⟨w.heap.size, 0, none⟩ = some (Value.bool x.hm) := HX.out.c 0
      have p1 : W.cell? ⟨w.heap.size, 1, none⟩ = some (.int .u16 x.mru.toNat) := HX.out.c 1
      have p2 : W.cell? ⟨w.heap.size, 2, none⟩ = some (.bool x.ha) := HX.out.c 2
      have p3 : W.cell? ⟨w.heap.size, 3, none⟩ = some (.int .u32 x.accm.toNat) := HX.out.c 3
      have p4 : W.cell? ⟨w.heap.size, 4, none⟩ = some (.int .u8 x.auth.toNat) := HX.out.c 4
      have p5 : W.cell? ⟨w.heap.size, 5, none⟩ = some (.bool x.hg) := HX.out.c 5
      have p6 : W.cell? ⟨w.heap.size, 6, none⟩ = some (.int .u32 x.magic.toNat) := HX.out.c 6
      have p7 : W.cell? ⟨w.heap.size, 7, none⟩ = some (.bool x.pfc) := HX.out.c 7
      have p8 : W.cell? ⟨w.heap.size, 8, none⟩ = some (.bool x.acfc) := HX.out.c 8
      go_enter Try.func6, Try.ntmps6
      go_wp2_with fail
      refine (put_no x _ hx).mono ?_
      rintro e w1 ⟨rfl, hb1⟩
      have HX := Lib.hid (HX.out.callee hb1)
      have HY := Lib.hid (HY.out.callee hb1)
      have HH := Lib.hid (HH.out.trans (hb1.mono HH.out.size))
      clear hb1
      clear hW HW
      have q0 : w1.cell? ⟨w.heap.size + 1, 0, none⟩ = some (Value.bool y.hm) := HY.out.c 0
      have q1 : w1.cell? ⟨w.heap.size + 1, 1, none⟩ = some (.int .u16 y.mru.toNat) := HY.out.c 1
      have q2 : w1.cell? ⟨w.heap.size + 1, 2, none⟩ = some (.bool y.ha) := HY.out.c 2
      have q3 : w1.cell? ⟨w.heap.size + 1, 3, none⟩ = some (.int .u32 y.accm.toNat) := HY.out.c 3
      have q4 : w1.cell? ⟨w.heap.size + 1, 4, none⟩ = some (.int .u8 y.auth.toNat) := HY.out.c 4
      have q5 : w1.cell? ⟨w.heap.size + 1, 5, none⟩ = some (.bool y.hg) := HY.out.c 5
      have q6 : w1.cell? ⟨w.heap.size + 1, 6, none⟩ = some (.int .u32 y.magic.toNat) := HY.out.c 6
      have q7 : w1.cell? ⟨w.heap.size + 1, 7, none⟩ = some (.bool y.pfc) := HY.out.c 7
      have q8 : w1.cell? ⟨w.heap.size + 1, 8, none⟩ = some (.bool y.acfc) := HY.out.c 8
      go_wp2_with fail
      refine (put_no y _ hy).mono ?_
      rintro e w2 ⟨rfl, hb2⟩
      have HX := Lib.hid (HX.out.callee hb2)
      have HY := Lib.hid (HY.out.callee hb2)
      have HH := Lib.hid (HH.out.trans (hb2.mono HH.out.size))
      clear hb2
      clear p0 p1 p2 p3 p4 p5 p6 p7 p8
      clear q0 q1 q2 q3 q4 q5 q6 q7 q8
      go_wp2_with fail
      refine (alive_any _).mono ?_
      rintro e w3 ⟨rfl, hb3⟩
      have HX := Lib.hid (HX.out.callee hb3)
      have HY := Lib.hid (HY.out.callee hb3)
      have HH := Lib.hid (HH.out.trans (hb3.mono HH.out.size))
      clear hb3
      go_wp2
      go_ret
      exact ⟨rfl, HH.out⟩
    case true =>
      have p0 : W.cell? ⟨w.heap.size, 0, none⟩ = some (Value.bool x.hm) := HX.out.c 0
      have p1 : W.cell? ⟨w.heap.size, 1, none⟩ = some (.int .u16 x.mru.toNat) := HX.out.c 1
      have p2 : W.cell? ⟨w.heap.size, 2, none⟩ = some (.bool x.ha) := HX.out.c 2
      have p3 : W.cell? ⟨w.heap.size, 3, none⟩ = some (.int .u32 x.accm.toNat) := HX.out.c 3
      have p4 : W.cell? ⟨w.heap.size, 4, none⟩ = some (.int .u8 x.auth.toNat) := HX.out.c 4
      have p5 : W.cell? ⟨w.heap.size, 5, none⟩ = some (.bool x.hg) := HX.out.c 5
      have p6 : W.cell? ⟨w.heap.size, 6, none⟩ = some (.int .u32 x.magic.toNat) := HX.out.c 6
      have p7 : W.cell? ⟨w.heap.size, 7, none⟩ = some (.bool x.pfc) := HX.out.c 7
      have p8 : W.cell? ⟨w.heap.size, 8, none⟩ = some (.bool x.acfc) := HX.out.c 8
      go_enter Try.func6, Try.ntmps6
      go_wp2_with fail
      refine (put_no x _ hx).mono ?_
      rintro e w1 ⟨rfl, hb1⟩
      have HX := Lib.hid (HX.out.callee hb1)
      have HY := Lib.hid (HY.out.callee hb1)
      have HH := Lib.hid (HH.out.trans (hb1.mono HH.out.size))
      clear hb1
      clear hW HW
      have q0 : w1.cell? ⟨w.heap.size + 1, 0, none⟩ = some (Value.bool y.hm) := HY.out.c 0
      have q1 : w1.cell? ⟨w.heap.size + 1, 1, none⟩ = some (.int .u16 y.mru.toNat) := HY.out.c 1
      have q2 : w1.cell? ⟨w.heap.size + 1, 2, none⟩ = some (.bool y.ha) := HY.out.c 2
      have q3 : w1.cell? ⟨w.heap.size + 1, 3, none⟩ = some (.int .u32 y.accm.toNat) := HY.out.c 3
      have q4 : w1.cell? ⟨w.heap.size + 1, 4, none⟩ = some (.int .u8 y.auth.toNat) := HY.out.c 4
      have q5 : w1.cell? ⟨w.heap.size + 1, 5, none⟩ = some (.bool y.hg) := HY.out.c 5
      have q6 : w1.cell? ⟨w.heap.size + 1, 6, none⟩ = some (.int .u32 y.magic.toNat) := HY.out.c 6
      have q7 : w1.cell? ⟨w.heap.size + 1, 7, none⟩ = some (.bool y.pfc) := HY.out.c 7
      have q8 : w1.cell? ⟨w.heap.size + 1, 8, none⟩ = some (.bool y.acfc) := HY.out.c 8
      go_wp2_with fail
      refine (put_yes y _ hy).mono ?_
      rintro e w2 ⟨A2, c2, rfl, hO2, hb2⟩
      have HX := Lib.hid (HX.out.callee hb2)
      have HY := Lib.hid (HY.out.callee hb2)
      have HH := Lib.hid (HH.out.trans (hb2.mono HH.out.size))
      clear hb2
      have HQ := Lib.hid hO2
      clear hO2
      clear p0 p1 p2 p3 p4 p5 p6 p7 p8
      clear q0 q1 q2 q3 q4 q5 q6 q7 q8
      go_wp2_with fail
      refine (alive_any _).mono ?_
      rintro e w3 ⟨rfl, hb3⟩
      have HQ := Lib.hid (HQ.out.next hb3)
      have HX := Lib.hid (HX.out.callee hb3)
      have HY := Lib.hid (HY.out.callee hb3)
      have HH := Lib.hid (HH.out.trans (hb3.mono HH.out.size))
      clear hb3
      go_wp2
      go_ret
      exact ⟨rfl, HH.out⟩
  case true =>
    cases hy : may y
    case false =>
      have p0 : W.cell? ⟨w.heap.size, 0, none⟩ = some (Value.bool x.hm) := HX.out.c 0
      have p1 : W.cell? ⟨w.heap.size, 1, none⟩ = some (.int .u16 x.mru.toNat) := HX.out.c 1
      have p2 : W.cell? ⟨w.heap.size, 2, none⟩ = some (.bool x.ha) := HX.out.c 2
      have p3 : W.cell? ⟨w.heap.size, 3, none⟩ = some (.int .u32 x.accm.toNat) := HX.out.c 3
      have p4 : W.cell? ⟨w.heap.size, 4, none⟩ = some (.int .u8 x.auth.toNat) := HX.out.c 4
      have p5 : W.cell? ⟨w.heap.size, 5, none⟩ = some (.bool x.hg) := HX.out.c 5
      have p6 : W.cell? ⟨w.heap.size, 6, none⟩ = some (.int .u32 x.magic.toNat) := HX.out.c 6
      have p7 : W.cell? ⟨w.heap.size, 7, none⟩ = some (.bool x.pfc) := HX.out.c 7
      have p8 : W.cell? ⟨w.heap.size, 8, none⟩ = some (.bool x.acfc) := HX.out.c 8
      go_enter Try.func6, Try.ntmps6
      go_wp2_with fail
      refine (put_yes x _ hx).mono ?_
      rintro e w1 ⟨A1, c1, rfl, hO1, hb1⟩
      have HX := Lib.hid (HX.out.callee hb1)
      have HY := Lib.hid (HY.out.callee hb1)
      have HH := Lib.hid (HH.out.trans (hb1.mono HH.out.size))
      clear hb1
      clear hW HW
      have HP := Lib.hid hO1
      clear hO1
      have q0 : w1.cell? ⟨w.heap.size + 1, 0, none⟩ = some (Value.bool y.hm) := HY.out.c 0
      have q1 : w1.cell? ⟨w.heap.size + 1, 1, none⟩ = some (.int .u16 y.mru.toNat) := HY.out.c 1
      have q2 : w1.cell? ⟨w.heap.size + 1, 2, none⟩ = some (.bool y.ha) := HY.out.c 2
      have q3 : w1.cell? ⟨w.heap.size + 1, 3, none⟩ = some (.int .u32 y.accm.toNat) := HY.out.c 3
      have q4 : w1.cell? ⟨w.heap.size + 1, 4, none⟩ = some (.int .u8 y.auth.toNat) := HY.out.c 4
      have q5 : w1.cell? ⟨w.heap.size + 1, 5, none⟩ = some (.bool y.hg) := HY.out.c 5
      have q6 : w1.cell? ⟨w.heap.size + 1, 6, none⟩ = some (.int .u32 y.magic.toNat) := HY.out.c 6
      have q7 : w1.cell? ⟨w.heap.size + 1, 7, none⟩ = some (.bool y.pfc) := HY.out.c 7
      have q8 : w1.cell? ⟨w.heap.size + 1, 8, none⟩ = some (.bool y.acfc) := HY.out.c 8
      go_wp2_with fail
      refine (put_no y _ hy).mono ?_
      rintro e w2 ⟨rfl, hb2⟩
      have HP := Lib.hid (HP.out.next hb2)
      have HX := Lib.hid (HX.out.callee hb2)
      have HY := Lib.hid (HY.out.callee hb2)
      have HH := Lib.hid (HH.out.trans (hb2.mono HH.out.size))
      clear hb2
      clear p0 p1 p2 p3 p4 p5 p6 p7 p8
      clear q0 q1 q2 q3 q4 q5 q6 q7 q8
      go_wp2_with fail
      refine (alive_any _).mono ?_
      rintro e w3 ⟨rfl, hb3⟩
      have HP := Lib.hid (HP.out.next hb3)
      have HX := Lib.hid (HX.out.callee hb3)
      have HY := Lib.hid (HY.out.callee hb3)
      have HH := Lib.hid (HH.out.trans (hb3.mono HH.out.size))
      clear hb3
      go_wp2
      go_ret
      exact ⟨rfl, HH.out⟩
    case true =>
      have p0 : W.cell? ⟨w.heap.size, 0, none⟩ = some (Value.bool x.hm) := HX.out.c 0
      have p1 : W.cell? ⟨w.heap.size, 1, none⟩ = some (.int .u16 x.mru.toNat) := HX.out.c 1
      have p2 : W.cell? ⟨w.heap.size, 2, none⟩ = some (.bool x.ha) := HX.out.c 2
      have p3 : W.cell? ⟨w.heap.size, 3, none⟩ = some (.int .u32 x.accm.toNat) := HX.out.c 3
      have p4 : W.cell? ⟨w.heap.size, 4, none⟩ = some (.int .u8 x.auth.toNat) := HX.out.c 4
      have p5 : W.cell? ⟨w.heap.size, 5, none⟩ = some (.bool x.hg) := HX.out.c 5
      have p6 : W.cell? ⟨w.heap.size, 6, none⟩ = some (.int .u32 x.magic.toNat) := HX.out.c 6
      have p7 : W.cell? ⟨w.heap.size, 7, none⟩ = some (.bool x.pfc) := HX.out.c 7
      have p8 : W.cell? ⟨w.heap.size, 8, none⟩ = some (.bool x.acfc) := HX.out.c 8
      go_enter Try.func6, Try.ntmps6
      go_wp2_with fail
      refine (put_yes x _ hx).mono ?_
      rintro e w1 ⟨A1, c1, rfl, hO1, hb1⟩
      have HX := Lib.hid (HX.out.callee hb1)
      have HY := Lib.hid (HY.out.callee hb1)
      have HH := Lib.hid (HH.out.trans (hb1.mono HH.out.size))
      clear hb1
      clear hW HW
      have HP := Lib.hid hO1
      clear hO1
      have q0 : w1.cell? ⟨w.heap.size + 1, 0, none⟩ = some (Value.bool y.hm) := HY.out.c 0
      have q1 : w1.cell? ⟨w.heap.size + 1, 1, none⟩ = some (.int .u16 y.mru.toNat) := HY.out.c 1
      have q2 : w1.cell? ⟨w.heap.size + 1, 2, none⟩ = some (.bool y.ha) := HY.out.c 2
      have q3 : w1.cell? ⟨w.heap.size + 1, 3, none⟩ = some (.int .u32 y.accm.toNat) := HY.out.c 3
      have q4 : w1.cell? ⟨w.heap.size + 1, 4, none⟩ = some (.int .u8 y.auth.toNat) := HY.out.c 4
      have q5 : w1.cell? ⟨w.heap.size + 1, 5, none⟩ = some (.bool y.hg) := HY.out.c 5
      have q6 : w1.cell? ⟨w.heap.size + 1, 6, none⟩ = some (.int .u32 y.magic.toNat) := HY.out.c 6
      have q7 : w1.cell? ⟨w.heap.size + 1, 7, none⟩ = some (.bool y.pfc) := HY.out.c 7
      have q8 : w1.cell? ⟨w.heap.size + 1, 8, none⟩ = some (.bool y.acfc) := HY.out.c 8
      go_wp2_with fail
      refine (put_yes y _ hy).mono ?_
      rintro e w2 ⟨A2, c2, rfl, hO2, hb2⟩
      have HP := Lib.hid (HP.out.next hb2)
      have HX := Lib.hid (HX.out.callee hb2)
      have HY := Lib.hid (HY.out.callee hb2)
      have HH := Lib.hid (HH.out.trans (hb2.mono HH.out.size))
      clear hb2
      have HQ := Lib.hid hO2
      clear hO2
      clear p0 p1 p2 p3 p4 p5 p6 p7 p8
      clear q0 q1 q2 q3 q4 q5 q6 q7 q8
      go_wp2_with fail
      refine (oput_row x A1 c1 _ HP.out).mono ?_
      rintro e w3 ⟨rfl, hb3⟩
      have HP := Lib.hid (HP.out.next hb3)
      have HQ := Lib.hid (HQ.out.next hb3)
      have HX := Lib.hid (HX.out.callee hb3)
      have HY := Lib.hid (HY.out.callee hb3)
      have HH := Lib.hid (HH.out.trans (hb3.mono HH.out.size))
      clear hb3
      go_wp2_with fail
      refine (oput_row y A2 c2 _ HQ.out).mono ?_
      rintro e w4 ⟨rfl, hb4⟩
      have HP := Lib.hid (HP.out.next hb4)
      have HQ := Lib.hid (HQ.out.next hb4)
      have HX := Lib.hid (HX.out.callee hb4)
      have HY := Lib.hid (HY.out.callee hb4)
      have HH := Lib.hid (HH.out.trans (hb4.mono HH.out.size))
      clear hb4
      have P1 := Lib.hid (fun W (h : Opts W W.heap.size A1 (put x).length (put x)) (h' : Opts W W.heap.size A2 (put y).length (put y)) => alike_rows (put x) (put y) A1 A2 _ _ c1 c2 W h h' (by have := put_len x; unfold maxLen; omega) (by have := put_len y; unfold maxLen; omega))
      have p0 : w4.cell? ⟨w.heap.size, 0, none⟩ = some (Value.bool x.hm) := HX.out.c 0
      have p1 : w4.cell? ⟨w.heap.size, 1, none⟩ = some (.int .u16 x.mru.toNat) := HX.out.c 1
      have p2 : w4.cell? ⟨w.heap.size, 2, none⟩ = some (.bool x.ha) := HX.out.c 2
      have p3 : w4.cell? ⟨w.heap.size, 3, none⟩ = some (.int .u32 x.accm.toNat) := HX.out.c 3
      have p4 : w4.cell? ⟨w.heap.size, 4, none⟩ = some (.int .u8 x.auth.toNat) := HX.out.c 4
      have p5 : w4.cell? ⟨w.heap.size, 5, none⟩ = some (.bool x.hg) := HX.out.c 5
      have p6 : w4.cell? ⟨w.heap.size, 6, none⟩ = some (.int .u32 x.magic.toNat) := HX.out.c 6
      have p7 : w4.cell? ⟨w.heap.size, 7, none⟩ = some (.bool x.pfc) := HX.out.c 7
      have p8 : w4.cell? ⟨w.heap.size, 8, none⟩ = some (.bool x.acfc) := HX.out.c 8
      have q0 : w4.cell? ⟨w.heap.size + 1, 0, none⟩ = some (Value.bool y.hm) := HY.out.c 0
      have q1 : w4.cell? ⟨w.heap.size + 1, 1, none⟩ = some (.int .u16 y.mru.toNat) := HY.out.c 1
      have q2 : w4.cell? ⟨w.heap.size + 1, 2, none⟩ = some (.bool y.ha) := HY.out.c 2
      have q3 : w4.cell? ⟨w.heap.size + 1, 3, none⟩ = some (.int .u32 y.accm.toNat) := HY.out.c 3
      have q4 : w4.cell? ⟨w.heap.size + 1, 4, none⟩ = some (.int .u8 y.auth.toNat) := HY.out.c 4
      have q5 : w4.cell? ⟨w.heap.size + 1, 5, none⟩ = some (.bool y.hg) := HY.out.c 5
      have q6 : w4.cell? ⟨w.heap.size + 1, 6, none⟩ = some (.int .u32 y.magic.toNat) := HY.out.c 6
      have q7 : w4.cell? ⟨w.heap.size + 1, 7, none⟩ = some (.bool y.pfc) := HY.out.c 7
      have q8 : w4.cell? ⟨w.heap.size + 1, 8, none⟩ = some (.bool y.acfc) := HY.out.c 8
      by_cases hxy : x = y
      · subst hxy
        rw [sm_self] at P1
        have hq1 := beq_self (bOf (pA (put x)))
        generalize bOf (pA (put x)) = s at *
        have dp0 : w4.drew.cell? ⟨w.heap.size, 0, none⟩ = some (Value.bool x.hm) := p0
        have dp1 : w4.drew.cell? ⟨w.heap.size, 1, none⟩ = some (.int .u16 x.mru.toNat) := p1
        have dp2 : w4.drew.cell? ⟨w.heap.size, 2, none⟩ = some (.bool x.ha) := p2
        have dp3 : w4.drew.cell? ⟨w.heap.size, 3, none⟩ = some (.int .u32 x.accm.toNat) := p3
        have dp4 : w4.drew.cell? ⟨w.heap.size, 4, none⟩ = some (.int .u8 x.auth.toNat) := p4
        have dp5 : w4.drew.cell? ⟨w.heap.size, 5, none⟩ = some (.bool x.hg) := p5
        have dp6 : w4.drew.cell? ⟨w.heap.size, 6, none⟩ = some (.int .u32 x.magic.toNat) := p6
        have dp7 : w4.drew.cell? ⟨w.heap.size, 7, none⟩ = some (.bool x.pfc) := p7
        have dp8 : w4.drew.cell? ⟨w.heap.size, 8, none⟩ = some (.bool x.acfc) := p8
        have dq0 : w4.drew.cell? ⟨w.heap.size + 1, 0, none⟩ = some (Value.bool x.hm) := q0
        have dq1 : w4.drew.cell? ⟨w.heap.size + 1, 1, none⟩ = some (.int .u16 x.mru.toNat) := q1
        have dq2 : w4.drew.cell? ⟨w.heap.size + 1, 2, none⟩ = some (.bool x.ha) := q2
        have dq3 : w4.drew.cell? ⟨w.heap.size + 1, 3, none⟩ = some (.int .u32 x.accm.toNat) := q3
        have dq4 : w4.drew.cell? ⟨w.heap.size + 1, 4, none⟩ = some (.int .u8 x.auth.toNat) := q4
        have dq5 : w4.drew.cell? ⟨w.heap.size + 1, 5, none⟩ = some (.bool x.hg) := q5
        have dq6 : w4.drew.cell? ⟨w.heap.size + 1, 6, none⟩ = some (.int .u32 x.magic.toNat) := q6
        have dq7 : w4.drew.cell? ⟨w.heap.size + 1, 7, none⟩ = some (.bool x.pfc) := q7
        have dq8 : w4.drew.cell? ⟨w.heap.size + 1, 8, none⟩ = some (.bool x.acfc) := q8
        have HPd : Hid (Opts w4.drew w4.drew.heap.size A1 (put x).length (put x)) := HP.out
        have HQd : Hid (Opts w4.drew w4.drew.heap.size A2 (put x).length (put x)) := HQ.out
        have HHd := Lib.hid HH.out.drew
        go_wp2
        clear HP HQ HX HY HH
        go_region_held3 (fun w' => w'.cell? ⟨w.heap.size, 0, none⟩ = some (Value.bool x.hm) ∧ w'.cell? ⟨w.heap.size, 1, none⟩ = some (.int .u16 x.mru.toNat) ∧ w'.cell? ⟨w.heap.size, 2, none⟩ = some (.bool x.ha) ∧ w'.cell? ⟨w.heap.size, 3, none⟩ = some (.int .u32 x.accm.toNat) ∧ w'.cell? ⟨w.heap.size, 4, none⟩ = some (.int .u8 x.auth.toNat) ∧ w'.cell? ⟨w.heap.size, 5, none⟩ = some (.bool x.hg) ∧ w'.cell? ⟨w.heap.size, 6, none⟩ = some (.int .u32 x.magic.toNat) ∧ w'.cell? ⟨w.heap.size, 7, none⟩ = some (.bool x.pfc) ∧ w'.cell? ⟨w.heap.size, 8, none⟩ = some (.bool x.acfc) ∧ w'.cell? ⟨w.heap.size + 1, 0, none⟩ = some (Value.bool x.hm) ∧ w'.cell? ⟨w.heap.size + 1, 1, none⟩ = some (.int .u16 x.mru.toNat) ∧ w'.cell? ⟨w.heap.size + 1, 2, none⟩ = some (.bool x.ha) ∧ w'.cell? ⟨w.heap.size + 1, 3, none⟩ = some (.int .u32 x.accm.toNat) ∧ w'.cell? ⟨w.heap.size + 1, 4, none⟩ = some (.int .u8 x.auth.toNat) ∧ w'.cell? ⟨w.heap.size + 1, 5, none⟩ = some (.bool x.hg) ∧ w'.cell? ⟨w.heap.size + 1, 6, none⟩ = some (.int .u32 x.magic.toNat) ∧ w'.cell? ⟨w.heap.size + 1, 7, none⟩ = some (.bool x.pfc) ∧ w'.cell? ⟨w.heap.size + 1, 8, none⟩ = some (.bool x.acfc))
          (first | assumption | (refine ⟨?_, ?_, ?_, ?_, ?_, ?_, ?_, ?_, ?_, ?_, ?_, ?_, ?_, ?_, ?_, ?_, ?_, ?_⟩ <;> assumption) | (go_split_ands; refine ⟨?_, ?_, ?_, ?_, ?_, ?_, ?_, ?_, ?_, ?_, ?_, ?_, ?_, ?_, ?_, ?_, ?_, ?_⟩ <;> assumption))
          (first
            | (go_at_call 20; (refine (P1.out _ HPd.out HQd.out).mono ?_; clear P1; rintro e w5 ⟨rfl, hb5⟩; have HH5 := Lib.hid (HHd.out.trans (hb5.mono HHd.out.size)); have yp0 := (hb5.cell (p := ⟨w.heap.size, 0, none⟩) (World.block_lt_of_cell? _ _ dp0)).trans dp0; have yp1 := (hb5.cell (p := ⟨w.heap.size, 1, none⟩) (World.block_lt_of_cell? _ _ dp1)).trans dp1; have yp2 := (hb5.cell (p := ⟨w.heap.size, 2, none⟩) (World.block_lt_of_cell? _ _ dp2)).trans dp2; have yp3 := (hb5.cell (p := ⟨w.heap.size, 3, none⟩) (World.block_lt_of_cell? _ _ dp3)).trans dp3; have yp4 := (hb5.cell (p := ⟨w.heap.size, 4, none⟩) (World.block_lt_of_cell? _ _ dp4)).trans dp4; have yp5 := (hb5.cell (p := ⟨w.heap.size, 5, none⟩) (World.block_lt_of_cell? _ _ dp5)).trans dp5; have yp6 := (hb5.cell (p := ⟨w.heap.size, 6, none⟩) (World.block_lt_of_cell? _ _ dp6)).trans dp6; have yp7 := (hb5.cell (p := ⟨w.heap.size, 7, none⟩) (World.block_lt_of_cell? _ _ dp7)).trans dp7; have yp8 := (hb5.cell (p := ⟨w.heap.size, 8, none⟩) (World.block_lt_of_cell? _ _ dp8)).trans dp8; have yq0 := (hb5.cell (p := ⟨w.heap.size + 1, 0, none⟩) (World.block_lt_of_cell? _ _ dq0)).trans dq0; have yq1 := (hb5.cell (p := ⟨w.heap.size + 1, 1, none⟩) (World.block_lt_of_cell? _ _ dq1)).trans dq1; have yq2 := (hb5.cell (p := ⟨w.heap.size + 1, 2, none⟩) (World.block_lt_of_cell? _ _ dq2)).trans dq2; have yq3 := (hb5.cell (p := ⟨w.heap.size + 1, 3, none⟩) (World.block_lt_of_cell? _ _ dq3)).trans dq3; have yq4 := (hb5.cell (p := ⟨w.heap.size + 1, 4, none⟩) (World.block_lt_of_cell? _ _ dq4)).trans dq4; have yq5 := (hb5.cell (p := ⟨w.heap.size + 1, 5, none⟩) (World.block_lt_of_cell? _ _ dq5)).trans dq5; have yq6 := (hb5.cell (p := ⟨w.heap.size + 1, 6, none⟩) (World.block_lt_of_cell? _ _ dq6)).trans dq6; have yq7 := (hb5.cell (p := ⟨w.heap.size + 1, 7, none⟩) (World.block_lt_of_cell? _ _ dq7)).trans dq7; have yq8 := (hb5.cell (p := ⟨w.heap.size + 1, 8, none⟩) (World.block_lt_of_cell? _ _ dq8)).trans dq8))
            | (go_at_call 8; (refine (alive_any _).mono ?_; rintro e w6 ⟨rfl, hb6⟩; have HH6 := Lib.hid (HH5.out.trans (hb6.mono HH5.out.size)); have zp0 := (hb6.cell (p := ⟨w.heap.size, 0, none⟩) (World.block_lt_of_cell? _ _ yp0)).trans yp0; have zp1 := (hb6.cell (p := ⟨w.heap.size, 1, none⟩) (World.block_lt_of_cell? _ _ yp1)).trans yp1; have zp2 := (hb6.cell (p := ⟨w.heap.size, 2, none⟩) (World.block_lt_of_cell? _ _ yp2)).trans yp2; have zp3 := (hb6.cell (p := ⟨w.heap.size, 3, none⟩) (World.block_lt_of_cell? _ _ yp3)).trans yp3; have zp4 := (hb6.cell (p := ⟨w.heap.size, 4, none⟩) (World.block_lt_of_cell? _ _ yp4)).trans yp4; have zp5 := (hb6.cell (p := ⟨w.heap.size, 5, none⟩) (World.block_lt_of_cell? _ _ yp5)).trans yp5; have zp6 := (hb6.cell (p := ⟨w.heap.size, 6, none⟩) (World.block_lt_of_cell? _ _ yp6)).trans yp6; have zp7 := (hb6.cell (p := ⟨w.heap.size, 7, none⟩) (World.block_lt_of_cell? _ _ yp7)).trans yp7; have zp8 := (hb6.cell (p := ⟨w.heap.size, 8, none⟩) (World.block_lt_of_cell? _ _ yp8)).trans yp8; have zq0 := (hb6.cell (p := ⟨w.heap.size + 1, 0, none⟩) (World.block_lt_of_cell? _ _ yq0)).trans yq0; have zq1 := (hb6.cell (p := ⟨w.heap.size + 1, 1, none⟩) (World.block_lt_of_cell? _ _ yq1)).trans yq1; have zq2 := (hb6.cell (p := ⟨w.heap.size + 1, 2, none⟩) (World.block_lt_of_cell? _ _ yq2)).trans yq2; have zq3 := (hb6.cell (p := ⟨w.heap.size + 1, 3, none⟩) (World.block_lt_of_cell? _ _ yq3)).trans yq3; have zq4 := (hb6.cell (p := ⟨w.heap.size + 1, 4, none⟩) (World.block_lt_of_cell? _ _ yq4)).trans yq4; have zq5 := (hb6.cell (p := ⟨w.heap.size + 1, 5, none⟩) (World.block_lt_of_cell? _ _ yq5)).trans yq5; have zq6 := (hb6.cell (p := ⟨w.heap.size + 1, 6, none⟩) (World.block_lt_of_cell? _ _ yq6)).trans yq6; have zq7 := (hb6.cell (p := ⟨w.heap.size + 1, 7, none⟩) (World.block_lt_of_cell? _ _ yq7)).trans yq7; have zq8 := (hb6.cell (p := ⟨w.heap.size + 1, 8, none⟩) (World.block_lt_of_cell? _ _ yq8)).trans yq8))
            | fail)
        go_wp2
        go_ret
        exact ⟨rfl, HH6.out⟩
      · rw [put_apart hx hy hxy] at P1
        have hq1 : ((bOf (pA (put x))).toList == (bOf (pA (put y))).toList) = false := beq_eq_false_iff_ne.2 (pA_apart hx hy hxy)
        have r0 : ∀ W, (Op.equalIn 10000 25 (.agg #[Value.bool x.hm, .int .u16 x.mru.toNat, .bool x.ha, .int .u32 x.accm.toNat, .int .u8 x.auth.toNat, .bool x.hg, .int .u32 x.magic.toNat, .bool x.pfc, .bool x.acfc]) (.agg #[Value.bool y.hm, .int .u16 y.mru.toNat, .bool y.ha, .int .u32 y.accm.toNat, .int .u8 y.auth.toNat, .bool y.hg, .int .u32 y.magic.toNat, .bool y.pfc, .bool y.acfc])).run Try.prog W = .ok false W := lcp_eq (decide_eq_false hxy)
        have r1 : ∀ W, (binOp .eql 25 (.agg #[Value.bool x.hm, .int .u16 x.mru.toNat, .bool x.ha, .int .u32 x.accm.toNat, .int .u8 x.auth.toNat, .bool x.hg, .int .u32 x.magic.toNat, .bool x.pfc, .bool x.acfc]) (.agg #[Value.bool y.hm, .int .u16 y.mru.toNat, .bool y.ha, .int .u32 y.accm.toNat, .int .u8 y.auth.toNat, .bool y.hg, .int .u32 y.magic.toNat, .bool y.pfc, .bool y.acfc])).run Try.prog W = .ok (.bool false) W := lcp_eql (decide_eq_false hxy)
        generalize bOf (pA (put x)) = s at *
        generalize bOf (pA (put y)) = s2 at *
        have dp0 : w4.drew.cell? ⟨w.heap.size, 0, none⟩ = some (Value.bool x.hm) := p0
        have dp1 : w4.drew.cell? ⟨w.heap.size, 1, none⟩ = some (.int .u16 x.mru.toNat) := p1
        have dp2 : w4.drew.cell? ⟨w.heap.size, 2, none⟩ = some (.bool x.ha) := p2
        have dp3 : w4.drew.cell? ⟨w.heap.size, 3, none⟩ = some (.int .u32 x.accm.toNat) := p3
        have dp4 : w4.drew.cell? ⟨w.heap.size, 4, none⟩ = some (.int .u8 x.auth.toNat) := p4
        have dp5 : w4.drew.cell? ⟨w.heap.size, 5, none⟩ = some (.bool x.hg) := p5
        have dp6 : w4.drew.cell? ⟨w.heap.size, 6, none⟩ = some (.int .u32 x.magic.toNat) := p6
        have dp7 : w4.drew.cell? ⟨w.heap.size, 7, none⟩ = some (.bool x.pfc) := p7
        have dp8 : w4.drew.cell? ⟨w.heap.size, 8, none⟩ = some (.bool x.acfc) := p8
        have dq0 : w4.drew.cell? ⟨w.heap.size + 1, 0, none⟩ = some (Value.bool y.hm) := q0
        have dq1 : w4.drew.cell? ⟨w.heap.size + 1, 1, none⟩ = some (.int .u16 y.mru.toNat) := q1
        have dq2 : w4.drew.cell? ⟨w.heap.size + 1, 2, none⟩ = some (.bool y.ha) := q2
        have dq3 : w4.drew.cell? ⟨w.heap.size + 1, 3, none⟩ = some (.int .u32 y.accm.toNat) := q3
        have dq4 : w4.drew.cell? ⟨w.heap.size + 1, 4, none⟩ = some (.int .u8 y.auth.toNat) := q4
        have dq5 : w4.drew.cell? ⟨w.heap.size + 1, 5, none⟩ = some (.bool y.hg) := q5
        have dq6 : w4.drew.cell? ⟨w.heap.size + 1, 6, none⟩ = some (.int .u32 y.magic.toNat) := q6
        have dq7 : w4.drew.cell? ⟨w.heap.size + 1, 7, none⟩ = some (.bool y.pfc) := q7
        have dq8 : w4.drew.cell? ⟨w.heap.size + 1, 8, none⟩ = some (.bool y.acfc) := q8
        have HPd : Hid (Opts w4.drew w4.drew.heap.size A1 (put x).length (put x)) := HP.out
        have HQd : Hid (Opts w4.drew w4.drew.heap.size A2 (put y).length (put y)) := HQ.out
        have HHd := Lib.hid HH.out.drew
        go_wp2
        clear HP HQ HX HY HH
        go_region_held3 (fun w' => w'.cell? ⟨w.heap.size, 0, none⟩ = some (Value.bool x.hm) ∧ w'.cell? ⟨w.heap.size, 1, none⟩ = some (.int .u16 x.mru.toNat) ∧ w'.cell? ⟨w.heap.size, 2, none⟩ = some (.bool x.ha) ∧ w'.cell? ⟨w.heap.size, 3, none⟩ = some (.int .u32 x.accm.toNat) ∧ w'.cell? ⟨w.heap.size, 4, none⟩ = some (.int .u8 x.auth.toNat) ∧ w'.cell? ⟨w.heap.size, 5, none⟩ = some (.bool x.hg) ∧ w'.cell? ⟨w.heap.size, 6, none⟩ = some (.int .u32 x.magic.toNat) ∧ w'.cell? ⟨w.heap.size, 7, none⟩ = some (.bool x.pfc) ∧ w'.cell? ⟨w.heap.size, 8, none⟩ = some (.bool x.acfc) ∧ w'.cell? ⟨w.heap.size + 1, 0, none⟩ = some (Value.bool y.hm) ∧ w'.cell? ⟨w.heap.size + 1, 1, none⟩ = some (.int .u16 y.mru.toNat) ∧ w'.cell? ⟨w.heap.size + 1, 2, none⟩ = some (.bool y.ha) ∧ w'.cell? ⟨w.heap.size + 1, 3, none⟩ = some (.int .u32 y.accm.toNat) ∧ w'.cell? ⟨w.heap.size + 1, 4, none⟩ = some (.int .u8 y.auth.toNat) ∧ w'.cell? ⟨w.heap.size + 1, 5, none⟩ = some (.bool y.hg) ∧ w'.cell? ⟨w.heap.size + 1, 6, none⟩ = some (.int .u32 y.magic.toNat) ∧ w'.cell? ⟨w.heap.size + 1, 7, none⟩ = some (.bool y.pfc) ∧ w'.cell? ⟨w.heap.size + 1, 8, none⟩ = some (.bool y.acfc))
          (first | assumption | (refine ⟨?_, ?_, ?_, ?_, ?_, ?_, ?_, ?_, ?_, ?_, ?_, ?_, ?_, ?_, ?_, ?_, ?_, ?_⟩ <;> assumption) | (go_split_ands; refine ⟨?_, ?_, ?_, ?_, ?_, ?_, ?_, ?_, ?_, ?_, ?_, ?_, ?_, ?_, ?_, ?_, ?_, ?_⟩ <;> assumption))
          (first
            | (go_at_call 20; (refine (P1.out _ HPd.out HQd.out).mono ?_; clear P1; rintro e w5 ⟨rfl, hb5⟩; have HH5 := Lib.hid (HHd.out.trans (hb5.mono HHd.out.size)); have yp0 := (hb5.cell (p := ⟨w.heap.size, 0, none⟩) (World.block_lt_of_cell? _ _ dp0)).trans dp0; have yp1 := (hb5.cell (p := ⟨w.heap.size, 1, none⟩) (World.block_lt_of_cell? _ _ dp1)).trans dp1; have yp2 := (hb5.cell (p := ⟨w.heap.size, 2, none⟩) (World.block_lt_of_cell? _ _ dp2)).trans dp2; have yp3 := (hb5.cell (p := ⟨w.heap.size, 3, none⟩) (World.block_lt_of_cell? _ _ dp3)).trans dp3; have yp4 := (hb5.cell (p := ⟨w.heap.size, 4, none⟩) (World.block_lt_of_cell? _ _ dp4)).trans dp4; have yp5 := (hb5.cell (p := ⟨w.heap.size, 5, none⟩) (World.block_lt_of_cell? _ _ dp5)).trans dp5; have yp6 := (hb5.cell (p := ⟨w.heap.size, 6, none⟩) (World.block_lt_of_cell? _ _ dp6)).trans dp6; have yp7 := (hb5.cell (p := ⟨w.heap.size, 7, none⟩) (World.block_lt_of_cell? _ _ dp7)).trans dp7; have yp8 := (hb5.cell (p := ⟨w.heap.size, 8, none⟩) (World.block_lt_of_cell? _ _ dp8)).trans dp8; have yq0 := (hb5.cell (p := ⟨w.heap.size + 1, 0, none⟩) (World.block_lt_of_cell? _ _ dq0)).trans dq0; have yq1 := (hb5.cell (p := ⟨w.heap.size + 1, 1, none⟩) (World.block_lt_of_cell? _ _ dq1)).trans dq1; have yq2 := (hb5.cell (p := ⟨w.heap.size + 1, 2, none⟩) (World.block_lt_of_cell? _ _ dq2)).trans dq2; have yq3 := (hb5.cell (p := ⟨w.heap.size + 1, 3, none⟩) (World.block_lt_of_cell? _ _ dq3)).trans dq3; have yq4 := (hb5.cell (p := ⟨w.heap.size + 1, 4, none⟩) (World.block_lt_of_cell? _ _ dq4)).trans dq4; have yq5 := (hb5.cell (p := ⟨w.heap.size + 1, 5, none⟩) (World.block_lt_of_cell? _ _ dq5)).trans dq5; have yq6 := (hb5.cell (p := ⟨w.heap.size + 1, 6, none⟩) (World.block_lt_of_cell? _ _ dq6)).trans dq6; have yq7 := (hb5.cell (p := ⟨w.heap.size + 1, 7, none⟩) (World.block_lt_of_cell? _ _ dq7)).trans dq7; have yq8 := (hb5.cell (p := ⟨w.heap.size + 1, 8, none⟩) (World.block_lt_of_cell? _ _ dq8)).trans dq8))
            | (go_at_call 8; (refine (alive_any _).mono ?_; rintro e w6 ⟨rfl, hb6⟩; have HH6 := Lib.hid (HH5.out.trans (hb6.mono HH5.out.size)); have zp0 := (hb6.cell (p := ⟨w.heap.size, 0, none⟩) (World.block_lt_of_cell? _ _ yp0)).trans yp0; have zp1 := (hb6.cell (p := ⟨w.heap.size, 1, none⟩) (World.block_lt_of_cell? _ _ yp1)).trans yp1; have zp2 := (hb6.cell (p := ⟨w.heap.size, 2, none⟩) (World.block_lt_of_cell? _ _ yp2)).trans yp2; have zp3 := (hb6.cell (p := ⟨w.heap.size, 3, none⟩) (World.block_lt_of_cell? _ _ yp3)).trans yp3; have zp4 := (hb6.cell (p := ⟨w.heap.size, 4, none⟩) (World.block_lt_of_cell? _ _ yp4)).trans yp4; have zp5 := (hb6.cell (p := ⟨w.heap.size, 5, none⟩) (World.block_lt_of_cell? _ _ yp5)).trans yp5; have zp6 := (hb6.cell (p := ⟨w.heap.size, 6, none⟩) (World.block_lt_of_cell? _ _ yp6)).trans yp6; have zp7 := (hb6.cell (p := ⟨w.heap.size, 7, none⟩) (World.block_lt_of_cell? _ _ yp7)).trans yp7; have zp8 := (hb6.cell (p := ⟨w.heap.size, 8, none⟩) (World.block_lt_of_cell? _ _ yp8)).trans yp8; have zq0 := (hb6.cell (p := ⟨w.heap.size + 1, 0, none⟩) (World.block_lt_of_cell? _ _ yq0)).trans yq0; have zq1 := (hb6.cell (p := ⟨w.heap.size + 1, 1, none⟩) (World.block_lt_of_cell? _ _ yq1)).trans yq1; have zq2 := (hb6.cell (p := ⟨w.heap.size + 1, 2, none⟩) (World.block_lt_of_cell? _ _ yq2)).trans yq2; have zq3 := (hb6.cell (p := ⟨w.heap.size + 1, 3, none⟩) (World.block_lt_of_cell? _ _ yq3)).trans yq3; have zq4 := (hb6.cell (p := ⟨w.heap.size + 1, 4, none⟩) (World.block_lt_of_cell? _ _ yq4)).trans yq4; have zq5 := (hb6.cell (p := ⟨w.heap.size + 1, 5, none⟩) (World.block_lt_of_cell? _ _ yq5)).trans yq5; have zq6 := (hb6.cell (p := ⟨w.heap.size + 1, 6, none⟩) (World.block_lt_of_cell? _ _ yq6)).trans yq6; have zq7 := (hb6.cell (p := ⟨w.heap.size + 1, 7, none⟩) (World.block_lt_of_cell? _ _ yq7)).trans yq7; have zq8 := (hb6.cell (p := ⟨w.heap.size + 1, 8, none⟩) (World.block_lt_of_cell? _ _ yq8)).trans yq8))
            | fail)
        go_wp2
        go_ret
        exact ⟨rfl, HH6.out⟩

set_option maxRecDepth 100000 in
theorem lifted (os : Os) (started : os.Started) (H : Type) (enc : TypeId × Value → H) :
    ReturnsInHanded {} Try.checked os 6 .any (Rows.lcpoptApartSpec.pre6 enc Try.prog Try.f6 Rows.lcpoptApartRow.domain false) (Rows.lcpoptApartSpec.post enc Try.prog Try.f6 false true false false) := by
  refine returnsInHanded_of_change_sized (C := Try.checked) own started (by kernel_rfl) Try.func6
    (ChangeSpec.witness6 (enc := enc) (C := Try.checked) false ⟨#[], #[.agg #[.bool false, .int .u16 0, .bool false, .int .u32 0, .int .u8 0, .bool false, .int .u32 0, .bool false, .bool false], .agg #[.bool false, .int .u16 0, .bool false, .int .u32 0, .int .u8 0, .bool false, .int .u32 0, .bool false, .bool false]], []⟩ 8 (by kernel_rfl) (by kernel_rfl) (by kernel_rfl) (by kernel_rfl)) ?_
  intro W base args ds gs before hval0 hW hcnd hsz0 _
  have hsz : (DataW.weightsEach Try.prog (Try.f6.params.toList ++ Rows.lcpoptApartSpec.plain.varTypes Try.prog) (ds ++ gs)).all (· ≤ reachBytes) = true := hsz0
  have hval : ∀ (j : Nat) t v, Try.f6.params[j]? = some t → args[j]? = some v → Value.okWide Try.prog W .any base t v := hval0
  have hW' := hW
  obtain ⟨p, q, hA0, hV, rfl, hfz, hnd⟩ := hW
  have hlt := hW'.lt
  have hA : DataW.TrodAll enc Try.prog W 0 (fun _ => true) true Try.f6.params.toList args.toList ds p := hA0
  rw [Try.params6] at hA hval hsz
  obtain ⟨v0, vs0, d0, ds0, p0, q0, hargs, rfl, rfl, h0, r0⟩ := trodAll_cons hA
  obtain ⟨v1, vs1, d1, ds1, p1, q1, rfl, rfl, rfl, h1, r1⟩ := trodAll_cons r0
  obtain ⟨rfl, rfl, rfl⟩ := trodAll_nil r1
  obtain rfl : args = #[v0, v1] := by cases args; simp_all
  obtain ⟨rfl, rfl⟩ := trodVars_none hV
  obtain ⟨a0, rfl⟩ := lcp_of Try.underlying25 (by kernel_rfl) (by kernel_rfl) Try.underlying4 Try.underlying22 Try.underlying4 Try.underlying23 Try.underlying5 Try.underlying4 Try.underlying23 Try.underlying4 Try.underlying4 (hval 0 25 v0 rfl rfl) h0
  obtain ⟨a1, rfl⟩ := lcp_of Try.underlying25 (by kernel_rfl) (by kernel_rfl) Try.underlying4 Try.underlying22 Try.underlying4 Try.underlying23 Try.underlying5 Try.underlying4 Try.underlying23 Try.underlying4 Try.underlying4 (hval 1 25 v1 rfl rfl) h1
  clear hA0 hval0 hsz0
  exact (walk a0 a1 W).mono fun e W' ⟨he, hb⟩ => ⟨_, he, law_post (t := 4) laidOut (by kernel_rfl) rfl rfl Try.underlying4 ⟨rfl, rfl, rfl⟩ hW' hb⟩

theorem over : Rows.lcpoptApartRow.holds Try.pinned (OpenSpec.ofChange Rows.lcpoptApartSpec) :=
  OpenClaim.holds_of_wide 6 Try.f6 rfl rfl rfl rfl rfl rfl rfl ⟨rfl, rfl, rfl, rfl, rfl⟩ rfl rfl rfl rfl rfl (by kernel_rfl) Try.func6 (by kernel_rfl)
    (of_decide_eq_true (by kernel_rfl)) (by unfold Func.isWrapper; first | (rw [if_pos (by decide +kernel)]; kernel_rfl) | (rw [if_neg (by decide +kernel)]; exact ⟨rfl, rfl⟩))
    (fun os started H enc _ => lifted os started H enc)

theorem proved : Rows.LcpoptApartSaid :=
  over
#print axioms proved
end Go.Proofs.Ytihncljhjdkknaa.LcpoptApart
