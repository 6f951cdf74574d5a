/- PROVED: 'halyardlaw11.RejectTells' returns true for every packet, every text, every protocol and every three numbers, and leaves them as they were. No condition. -/
import Derived.Test.YtfcndljbijcbkaaRejF
import Derived.Test.YtfcndljbijcbkaaPk3
import Derived.Test.YtfcndljbijcbkaaLaw
import Derived.Test.YtfcndljbijcbkaaRows
import Derived.SizedLaws
namespace Go.Proofs.Ytfcndljbijcbkaa.RejectTells
open Go.ChangeShapes Go.WideShapes Go.ChangeAt Go.RowKit Go.Proofs.Ytfcndljbijcbkaa.Oct Go.Proofs.Ytfcndljbijcbkaa.Row Go.Proofs.Ytfcndljbijcbkaa.Pkt Go.Proofs.Ytfcndljbijcbkaa.Rej Go.Proofs.Ytfcndljbijcbkaa.Mem Go.Proofs.Ytfcndljbijcbkaa.Law
open Go.ChangeMaps (open_string shut_string)

set_option maxHeartbeats 4000000 in
set_option maxRecDepth 100000 in
theorem walk (id c i : UInt8) (d s : ByteArray) (p : Nat) (m : Int) (k : UInt8) (hp : p < 65536) (hd : d.size ≤ 140737488351232) (hs : s.size ≤ 140737488351232) (w : World) :
    Calls Try.prog 3 #[.int .u8 id.toNat, .agg #[.int .u8 c.toNat, .int .u8 i.toNat, .string d], .int .u16 p, .string s, .int .i64 m, .int .u8 k.toNat] w fun e w' => e = .returned (.bool true) ∧ Below w.heap.size w w' := by
  by_cases h : 16384 < (d.size : Int) + (s.size : Int)
  · have HH0 := Lib.hid (Below.refl w.heap.size w)
    have HP := Lib.hid (at_new w c i d : At (w.alloc (.cells #[.int .u8 c.toNat, .int .u8 i.toNat, .string d] 23)) w.heap.size c i d)
    have HH0 := Lib.hid (HH0.out.alloc HH0.out.size _ : Below w.heap.size w (w.alloc (.cells #[.int .u8 c.toNat, .int .u8 i.toNat, .string d] 23)))
    go_enter Try.func3, Try.ntmps3
    go_wp2_with fail
    refine (alive_any _).mono ?_
    rintro e w1 ⟨rfl, hb1⟩
    have HP := Lib.hid (HP.out.callee hb1)
    have HH1 := Lib.hid (HH0.out.trans (hb1.mono HH0.out.size))
    clear hb1
    go_wp2
    go_ret
    exact ⟨rfl, HH1.out⟩
  · cases hm : may m
    · by_cases hl : 1496 < s.size
      · have HH0 := Lib.hid (Below.refl w.heap.size w)
        have HP := Lib.hid (at_new w c i d : At (w.alloc (.cells #[.int .u8 c.toNat, .int .u8 i.toNat, .string d] 23)) w.heap.size c i d)
        have HH0 := Lib.hid (HH0.out.alloc HH0.out.size _ : Below w.heap.size w (w.alloc (.cells #[.int .u8 c.toNat, .int .u8 i.toNat, .string d] 23)))
        obtain ⟨n, t, E1, hr1, hr2⟩ := rejected_same c i d (by omega)
        obtain ⟨CX, IX, DX, E2, hi1, hi2⟩ := inner_same c i d (by omega)
        have HR1 := Lib.hid hr1
        have HR2 := Lib.hid hr2
        have HI1 := Lib.hid hi1
        have HI2 := Lib.hid hi2
        clear hr1 hr2 hi1 hi2
        have hxt := beq_self t
        have hx0 : ∀ W, (Op.equalIn 10000 23 (.agg #[.int .u8 CX.toNat, .int .u8 IX.toNat, .string DX]) (.agg #[.int .u8 CX.toNat, .int .u8 IX.toNat, .string DX])).run Try.prog W = .ok true W := pk_eq (pk_same _ _ _)
        have hx1 : ∀ W, (binOp .eql 23 (.agg #[.int .u8 CX.toNat, .int .u8 IX.toNat, .string DX]) (.agg #[.int .u8 CX.toNat, .int .u8 IX.toNat, .string DX])).run Try.prog W = .ok (.bool true) W := pk_eql (pk_same _ _ _)
        have hx2 : ∀ W, (binOp .neq 23 (.agg #[.int .u8 CX.toNat, .int .u8 IX.toNat, .string DX]) (.agg #[.int .u8 CX.toNat, .int .u8 IX.toNat, .string DX])).run Try.prog W = .ok (.bool false) W := pk_neq (pk_same _ _ _)
        have M := Lib.hid (fun w => calls_below_eq (rmay_any m w))
        rw [hm] at M
        have RE := Lib.hid (fun w => reply_long c i d s k.toNat w (by omega))
        have hl1 : 1496 < (s.size : Int) := by omega
        have HC1 := Lib.hid (fun w => code_bad id c i d m w hm)
        have HP1 := Lib.hid (fun w => proto_bad id p s m w hm)
        clear hm
        go_enter Try.func3, Try.ntmps3
        go_wp2_with fail
        refine (HC1.out _).mono ?_
        rintro e w1 ⟨rfl, hb1⟩
        have HP := Lib.hid (HP.out.callee hb1)
        have HH1 := Lib.hid (HH0.out.trans (hb1.mono HH0.out.size))
        clear hb1
        have HP := Lib.hid (HP.out.alloc _ : At (w1.alloc (.cells #[.int .u8 0, .int .u8 0, .string ⟨#[]⟩] 23)) w.heap.size c i d)
        have HA := Lib.hid (at_new w1 (0 : UInt8) (0 : UInt8) ⟨#[]⟩ : At (w1.alloc (.cells #[.int .u8 0, .int .u8 0, .string ⟨#[]⟩] 23)) w1.heap.size (0 : UInt8) (0 : UInt8) ⟨#[]⟩)
        have HH1 := Lib.hid (HH1.out.alloc HH1.out.size _ : Below w.heap.size w (w1.alloc (.cells #[.int .u8 0, .int .u8 0, .string ⟨#[]⟩] 23)))
        go_wp2_with fail
        refine (HP1.out _).mono ?_
        rintro e w2 ⟨rfl, hb2⟩
        have HP := Lib.hid (HP.out.callee hb2)
        have HA := Lib.hid (HA.out.callee hb2)
        have HH2 := Lib.hid (HH1.out.trans (hb2.mono HH1.out.size))
        clear hb2
        have HP := Lib.hid (HP.out.alloc _ : At (w2.alloc (.cells #[.int .u8 0, .int .u8 0, .string ⟨#[]⟩] 23)) w.heap.size c i d)
        have HA := Lib.hid (HA.out.alloc _ : At (w2.alloc (.cells #[.int .u8 0, .int .u8 0, .string ⟨#[]⟩] 23)) w1.heap.size (0 : UInt8) (0 : UInt8) ⟨#[]⟩)
        have HB := Lib.hid (at_new w2 (0 : UInt8) (0 : UInt8) ⟨#[]⟩ : At (w2.alloc (.cells #[.int .u8 0, .int .u8 0, .string ⟨#[]⟩] 23)) w2.heap.size (0 : UInt8) (0 : UInt8) ⟨#[]⟩)
        have HH2 := Lib.hid (HH2.out.alloc HH2.out.size _ : Below w.heap.size w (w2.alloc (.cells #[.int .u8 0, .int .u8 0, .string ⟨#[]⟩] 23)))
        have cP0 := HP.out.c0
        have cP1 := HP.out.c1
        have cP2 := HP.out.c2
        go_wp2_with fail
        refine (HR1.out _).mono ?_
        rintro e w3 ⟨rfl, hb3⟩
        have HP := Lib.hid (HP.out.callee hb3)
        have HA := Lib.hid (HA.out.callee hb3)
        have HB := Lib.hid (HB.out.callee hb3)
        have HH3 := Lib.hid (HH2.out.trans (hb3.mono HH2.out.size))
        clear hb3
        have cP0 := HP.out.c0
        have cP1 := HP.out.c1
        have cP2 := HP.out.c2
        go_wp2_with fail
        refine (HR2.out _).mono ?_
        rintro e w4 ⟨rfl, hb4⟩
        have HP := Lib.hid (HP.out.callee hb4)
        have HA := Lib.hid (HA.out.callee hb4)
        have HB := Lib.hid (HB.out.callee hb4)
        have HH4 := Lib.hid (HH3.out.trans (hb4.mono HH3.out.size))
        clear hb4
        have cP0 := HP.out.c0
        have cP1 := HP.out.c1
        have cP2 := HP.out.c2
        go_wp2_with fail
        refine (HI1.out _).mono ?_
        rintro e w5 ⟨rfl, hb5⟩
        have HP := Lib.hid (HP.out.callee hb5)
        have HA := Lib.hid (HA.out.callee hb5)
        have HB := Lib.hid (HB.out.callee hb5)
        have HH5 := Lib.hid (HH4.out.trans (hb5.mono HH4.out.size))
        clear hb5
        have HP := Lib.hid (HP.out.alloc _ : At (w5.alloc (.cells #[.int .u8 CX.toNat, .int .u8 IX.toNat, .string DX] 23)) w.heap.size c i d)
        have HA := Lib.hid (HA.out.alloc _ : At (w5.alloc (.cells #[.int .u8 CX.toNat, .int .u8 IX.toNat, .string DX] 23)) w1.heap.size (0 : UInt8) (0 : UInt8) ⟨#[]⟩)
        have HB := Lib.hid (HB.out.alloc _ : At (w5.alloc (.cells #[.int .u8 CX.toNat, .int .u8 IX.toNat, .string DX] 23)) w2.heap.size (0 : UInt8) (0 : UInt8) ⟨#[]⟩)
        have HX := Lib.hid (at_new w5 CX IX DX : At (w5.alloc (.cells #[.int .u8 CX.toNat, .int .u8 IX.toNat, .string DX] 23)) w5.heap.size CX IX DX)
        have HH5 := Lib.hid (HH5.out.alloc HH5.out.size _ : Below w.heap.size w (w5.alloc (.cells #[.int .u8 CX.toNat, .int .u8 IX.toNat, .string DX] 23)))
        have cP0 := HP.out.c0
        have cP1 := HP.out.c1
        have cP2 := HP.out.c2
        go_wp2_with fail
        refine (HI2.out _).mono ?_
        rintro e w6 ⟨rfl, hb6⟩
        have HP := Lib.hid (HP.out.callee hb6)
        have HA := Lib.hid (HA.out.callee hb6)
        have HB := Lib.hid (HB.out.callee hb6)
        have HX := Lib.hid (HX.out.callee hb6)
        have HH6 := Lib.hid (HH5.out.trans (hb6.mono HH5.out.size))
        clear hb6
        have HP := Lib.hid (HP.out.alloc _ : At (w6.alloc (.cells #[.int .u8 CX.toNat, .int .u8 IX.toNat, .string DX] 23)) w.heap.size c i d)
        have HA := Lib.hid (HA.out.alloc _ : At (w6.alloc (.cells #[.int .u8 CX.toNat, .int .u8 IX.toNat, .string DX] 23)) w1.heap.size (0 : UInt8) (0 : UInt8) ⟨#[]⟩)
        have HB := Lib.hid (HB.out.alloc _ : At (w6.alloc (.cells #[.int .u8 CX.toNat, .int .u8 IX.toNat, .string DX] 23)) w2.heap.size (0 : UInt8) (0 : UInt8) ⟨#[]⟩)
        have HX := Lib.hid (HX.out.alloc _ : At (w6.alloc (.cells #[.int .u8 CX.toNat, .int .u8 IX.toNat, .string DX] 23)) w5.heap.size CX IX DX)
        have HY := Lib.hid (at_new w6 CX IX DX : At (w6.alloc (.cells #[.int .u8 CX.toNat, .int .u8 IX.toNat, .string DX] 23)) w6.heap.size CX IX DX)
        have HH6 := Lib.hid (HH6.out.alloc HH6.out.size _ : Below w.heap.size w (w6.alloc (.cells #[.int .u8 CX.toNat, .int .u8 IX.toNat, .string DX] 23)))
        have cP0 := HP.out.c0
        have cP1 := HP.out.c1
        have cP2 := HP.out.c2
        go_wp2_with fail
        refine (RE.out _).mono ?_
        rintro e w7 ⟨rfl, hb7⟩
        have HP := Lib.hid (HP.out.callee hb7)
        have HA := Lib.hid (HA.out.callee hb7)
        have HB := Lib.hid (HB.out.callee hb7)
        have HX := Lib.hid (HX.out.callee hb7)
        have HY := Lib.hid (HY.out.callee hb7)
        have HH7 := Lib.hid (HH6.out.trans (hb7.mono HH6.out.size))
        clear hb7
        have HP := Lib.hid (HP.out.alloc _ : At (w7.alloc (.cells #[.int .u8 0, .int .u8 0, .string ⟨#[]⟩] 23)) w.heap.size c i d)
        have HA := Lib.hid (HA.out.alloc _ : At (w7.alloc (.cells #[.int .u8 0, .int .u8 0, .string ⟨#[]⟩] 23)) w1.heap.size (0 : UInt8) (0 : UInt8) ⟨#[]⟩)
        have HB := Lib.hid (HB.out.alloc _ : At (w7.alloc (.cells #[.int .u8 0, .int .u8 0, .string ⟨#[]⟩] 23)) w2.heap.size (0 : UInt8) (0 : UInt8) ⟨#[]⟩)
        have HX := Lib.hid (HX.out.alloc _ : At (w7.alloc (.cells #[.int .u8 0, .int .u8 0, .string ⟨#[]⟩] 23)) w5.heap.size CX IX DX)
        have HY := Lib.hid (HY.out.alloc _ : At (w7.alloc (.cells #[.int .u8 0, .int .u8 0, .string ⟨#[]⟩] 23)) w6.heap.size CX IX DX)
        have HZ := Lib.hid (at_new w7 (0 : UInt8) (0 : UInt8) ⟨#[]⟩ : At (w7.alloc (.cells #[.int .u8 0, .int .u8 0, .string ⟨#[]⟩] 23)) w7.heap.size (0 : UInt8) (0 : UInt8) ⟨#[]⟩)
        have HH7 := Lib.hid (HH7.out.alloc HH7.out.size _ : Below w.heap.size w (w7.alloc (.cells #[.int .u8 0, .int .u8 0, .string ⟨#[]⟩] 23)))
        have cP0 := HP.out.c0
        have cP1 := HP.out.c1
        have cP2 := HP.out.c2
        have cX0 := HX.out.c0
        have cX1 := HX.out.c1
        have cX2 := HX.out.c2
        have cY0 := HY.out.c0
        have cY1 := HY.out.c1
        have cY2 := HY.out.c2
        have cZ0 := HZ.out.c0
        have cZ1 := HZ.out.c1
        have cZ2 := HZ.out.c2
        go_wp2_with fail
        refine (M.out _).mono ?_
        rintro e w8 ⟨rfl, hb8⟩
        have HP := Lib.hid (HP.out.callee hb8)
        have HA := Lib.hid (HA.out.callee hb8)
        have HB := Lib.hid (HB.out.callee hb8)
        have HX := Lib.hid (HX.out.callee hb8)
        have HY := Lib.hid (HY.out.callee hb8)
        have HZ := Lib.hid (HZ.out.callee hb8)
        have HH8 := Lib.hid (HH7.out.trans (hb8.mono HH7.out.size))
        clear hb8
        have cA0 := HA.out.c0
        have cA1 := HA.out.c1
        have cA2 := HA.out.c2
        have cB0 := HB.out.c0
        have cB1 := HB.out.c1
        have cB2 := HB.out.c2
        go_wp2_with fail
        refine (alive_any _).mono ?_
        rintro e w9 ⟨rfl, hb9⟩
        have HP := Lib.hid (HP.out.callee hb9)
        have HA := Lib.hid (HA.out.callee hb9)
        have HB := Lib.hid (HB.out.callee hb9)
        have HX := Lib.hid (HX.out.callee hb9)
        have HY := Lib.hid (HY.out.callee hb9)
        have HZ := Lib.hid (HZ.out.callee hb9)
        have HH9 := Lib.hid (HH8.out.trans (hb9.mono HH8.out.size))
        clear hb9
        go_wp2
        go_ret
        exact ⟨rfl, HH9.out⟩
      · have HH0 := Lib.hid (Below.refl w.heap.size w)
        have HP := Lib.hid (at_new w c i d : At (w.alloc (.cells #[.int .u8 c.toNat, .int .u8 i.toNat, .string d] 23)) w.heap.size c i d)
        have HH0 := Lib.hid (HH0.out.alloc HH0.out.size _ : Below w.heap.size w (w.alloc (.cells #[.int .u8 c.toNat, .int .u8 i.toNat, .string d] 23)))
        obtain ⟨n, t, E1, hr1, hr2⟩ := rejected_same c i d (by omega)
        obtain ⟨CX, IX, DX, E2, hi1, hi2⟩ := inner_same c i d (by omega)
        have HR1 := Lib.hid hr1
        have HR2 := Lib.hid hr2
        have HI1 := Lib.hid hi1
        have HI2 := Lib.hid hi2
        clear hr1 hr2 hi1 hi2
        have hxt := beq_self t
        have hx0 : ∀ W, (Op.equalIn 10000 23 (.agg #[.int .u8 CX.toNat, .int .u8 IX.toNat, .string DX]) (.agg #[.int .u8 CX.toNat, .int .u8 IX.toNat, .string DX])).run Try.prog W = .ok true W := pk_eq (pk_same _ _ _)
        have hx1 : ∀ W, (binOp .eql 23 (.agg #[.int .u8 CX.toNat, .int .u8 IX.toNat, .string DX]) (.agg #[.int .u8 CX.toNat, .int .u8 IX.toNat, .string DX])).run Try.prog W = .ok (.bool true) W := pk_eql (pk_same _ _ _)
        have hx2 : ∀ W, (binOp .neq 23 (.agg #[.int .u8 CX.toNat, .int .u8 IX.toNat, .string DX]) (.agg #[.int .u8 CX.toNat, .int .u8 IX.toNat, .string DX])).run Try.prog W = .ok (.bool false) W := pk_neq (pk_same _ _ _)
        have M := Lib.hid (fun w => calls_below_eq (rmay_any m w))
        rw [hm] at M
        have RE := Lib.hid (fun w => reply_ok c i d s k.toNat w (by omega))
        have hl1 : ¬ 1496 < (s.size : Int) := by omega
        have hz0 : ∀ W, (Op.equalIn 10000 23 (.agg #[.int .u8 k.toNat, .int .u8 i.toNat, .string s]) (.agg #[.int .u8 k.toNat, .int .u8 i.toNat, .string s])).run Try.prog W = .ok true W := pk_eq (pk_same _ _ _)
        have hz1 : ∀ W, (binOp .eql 23 (.agg #[.int .u8 k.toNat, .int .u8 i.toNat, .string s]) (.agg #[.int .u8 k.toNat, .int .u8 i.toNat, .string s])).run Try.prog W = .ok (.bool true) W := pk_eql (pk_same _ _ _)
        have hz2 : ∀ W, (binOp .neq 23 (.agg #[.int .u8 k.toNat, .int .u8 i.toNat, .string s]) (.agg #[.int .u8 k.toNat, .int .u8 i.toNat, .string s])).run Try.prog W = .ok (.bool false) W := pk_neq (pk_same _ _ _)
        have HC1 := Lib.hid (fun w => code_bad id c i d m w hm)
        have HP1 := Lib.hid (fun w => proto_bad id p s m w hm)
        clear hm
        go_enter Try.func3, Try.ntmps3
        go_wp2_with fail
        refine (HC1.out _).mono ?_
        rintro e w1 ⟨rfl, hb1⟩
        have HP := Lib.hid (HP.out.callee hb1)
        have HH1 := Lib.hid (HH0.out.trans (hb1.mono HH0.out.size))
        clear hb1
        have HP := Lib.hid (HP.out.alloc _ : At (w1.alloc (.cells #[.int .u8 0, .int .u8 0, .string ⟨#[]⟩] 23)) w.heap.size c i d)
        have HA := Lib.hid (at_new w1 (0 : UInt8) (0 : UInt8) ⟨#[]⟩ : At (w1.alloc (.cells #[.int .u8 0, .int .u8 0, .string ⟨#[]⟩] 23)) w1.heap.size (0 : UInt8) (0 : UInt8) ⟨#[]⟩)
        have HH1 := Lib.hid (HH1.out.alloc HH1.out.size _ : Below w.heap.size w (w1.alloc (.cells #[.int .u8 0, .int .u8 0, .string ⟨#[]⟩] 23)))
        go_wp2_with fail
        refine (HP1.out _).mono ?_
        rintro e w2 ⟨rfl, hb2⟩
        have HP := Lib.hid (HP.out.callee hb2)
        have HA := Lib.hid (HA.out.callee hb2)
        have HH2 := Lib.hid (HH1.out.trans (hb2.mono HH1.out.size))
        clear hb2
        have HP := Lib.hid (HP.out.alloc _ : At (w2.alloc (.cells #[.int .u8 0, .int .u8 0, .string ⟨#[]⟩] 23)) w.heap.size c i d)
        have HA := Lib.hid (HA.out.alloc _ : At (w2.alloc (.cells #[.int .u8 0, .int .u8 0, .string ⟨#[]⟩] 23)) w1.heap.size (0 : UInt8) (0 : UInt8) ⟨#[]⟩)
        have HB := Lib.hid (at_new w2 (0 : UInt8) (0 : UInt8) ⟨#[]⟩ : At (w2.alloc (.cells #[.int .u8 0, .int .u8 0, .string ⟨#[]⟩] 23)) w2.heap.size (0 : UInt8) (0 : UInt8) ⟨#[]⟩)
        have HH2 := Lib.hid (HH2.out.alloc HH2.out.size _ : Below w.heap.size w (w2.alloc (.cells #[.int .u8 0, .int .u8 0, .string ⟨#[]⟩] 23)))
        have cP0 := HP.out.c0
        have cP1 := HP.out.c1
        have cP2 := HP.out.c2
        go_wp2_with fail
        refine (HR1.out _).mono ?_
        rintro e w3 ⟨rfl, hb3⟩
        have HP := Lib.hid (HP.out.callee hb3)
        have HA := Lib.hid (HA.out.callee hb3)
        have HB := Lib.hid (HB.out.callee hb3)
        have HH3 := Lib.hid (HH2.out.trans (hb3.mono HH2.out.size))
        clear hb3
        have cP0 := HP.out.c0
        have cP1 := HP.out.c1
        have cP2 := HP.out.c2
        go_wp2_with fail
        refine (HR2.out _).mono ?_
        rintro e w4 ⟨rfl, hb4⟩
        have HP := Lib.hid (HP.out.callee hb4)
        have HA := Lib.hid (HA.out.callee hb4)
        have HB := Lib.hid (HB.out.callee hb4)
        have HH4 := Lib.hid (HH3.out.trans (hb4.mono HH3.out.size))
        clear hb4
        have cP0 := HP.out.c0
        have cP1 := HP.out.c1
        have cP2 := HP.out.c2
        go_wp2_with fail
        refine (HI1.out _).mono ?_
        rintro e w5 ⟨rfl, hb5⟩
        have HP := Lib.hid (HP.out.callee hb5)
        have HA := Lib.hid (HA.out.callee hb5)
        have HB := Lib.hid (HB.out.callee hb5)
        have HH5 := Lib.hid (HH4.out.trans (hb5.mono HH4.out.size))
        clear hb5
        have HP := Lib.hid (HP.out.alloc _ : At (w5.alloc (.cells #[.int .u8 CX.toNat, .int .u8 IX.toNat, .string DX] 23)) w.heap.size c i d)
        have HA := Lib.hid (HA.out.alloc _ : At (w5.alloc (.cells #[.int .u8 CX.toNat, .int .u8 IX.toNat, .string DX] 23)) w1.heap.size (0 : UInt8) (0 : UInt8) ⟨#[]⟩)
        have HB := Lib.hid (HB.out.alloc _ : At (w5.alloc (.cells #[.int .u8 CX.toNat, .int .u8 IX.toNat, .string DX] 23)) w2.heap.size (0 : UInt8) (0 : UInt8) ⟨#[]⟩)
        have HX := Lib.hid (at_new w5 CX IX DX : At (w5.alloc (.cells #[.int .u8 CX.toNat, .int .u8 IX.toNat, .string DX] 23)) w5.heap.size CX IX DX)
        have HH5 := Lib.hid (HH5.out.alloc HH5.out.size _ : Below w.heap.size w (w5.alloc (.cells #[.int .u8 CX.toNat, .int .u8 IX.toNat, .string DX] 23)))
        have cP0 := HP.out.c0
        have cP1 := HP.out.c1
        have cP2 := HP.out.c2
        go_wp2_with fail
        refine (HI2.out _).mono ?_
        rintro e w6 ⟨rfl, hb6⟩
        have HP := Lib.hid (HP.out.callee hb6)
        have HA := Lib.hid (HA.out.callee hb6)
        have HB := Lib.hid (HB.out.callee hb6)
        have HX := Lib.hid (HX.out.callee hb6)
        have HH6 := Lib.hid (HH5.out.trans (hb6.mono HH5.out.size))
        clear hb6
        have HP := Lib.hid (HP.out.alloc _ : At (w6.alloc (.cells #[.int .u8 CX.toNat, .int .u8 IX.toNat, .string DX] 23)) w.heap.size c i d)
        have HA := Lib.hid (HA.out.alloc _ : At (w6.alloc (.cells #[.int .u8 CX.toNat, .int .u8 IX.toNat, .string DX] 23)) w1.heap.size (0 : UInt8) (0 : UInt8) ⟨#[]⟩)
        have HB := Lib.hid (HB.out.alloc _ : At (w6.alloc (.cells #[.int .u8 CX.toNat, .int .u8 IX.toNat, .string DX] 23)) w2.heap.size (0 : UInt8) (0 : UInt8) ⟨#[]⟩)
        have HX := Lib.hid (HX.out.alloc _ : At (w6.alloc (.cells #[.int .u8 CX.toNat, .int .u8 IX.toNat, .string DX] 23)) w5.heap.size CX IX DX)
        have HY := Lib.hid (at_new w6 CX IX DX : At (w6.alloc (.cells #[.int .u8 CX.toNat, .int .u8 IX.toNat, .string DX] 23)) w6.heap.size CX IX DX)
        have HH6 := Lib.hid (HH6.out.alloc HH6.out.size _ : Below w.heap.size w (w6.alloc (.cells #[.int .u8 CX.toNat, .int .u8 IX.toNat, .string DX] 23)))
        have cP0 := HP.out.c0
        have cP1 := HP.out.c1
        have cP2 := HP.out.c2
        go_wp2_with fail
        refine (RE.out _).mono ?_
        rintro e w7 ⟨rfl, hb7⟩
        have HP := Lib.hid (HP.out.callee hb7)
        have HA := Lib.hid (HA.out.callee hb7)
        have HB := Lib.hid (HB.out.callee hb7)
        have HX := Lib.hid (HX.out.callee hb7)
        have HY := Lib.hid (HY.out.callee hb7)
        have HH7 := Lib.hid (HH6.out.trans (hb7.mono HH6.out.size))
        clear hb7
        have HP := Lib.hid (HP.out.alloc _ : At (w7.alloc (.cells #[.int .u8 k.toNat, .int .u8 i.toNat, .string s] 23)) w.heap.size c i d)
        have HA := Lib.hid (HA.out.alloc _ : At (w7.alloc (.cells #[.int .u8 k.toNat, .int .u8 i.toNat, .string s] 23)) w1.heap.size (0 : UInt8) (0 : UInt8) ⟨#[]⟩)
        have HB := Lib.hid (HB.out.alloc _ : At (w7.alloc (.cells #[.int .u8 k.toNat, .int .u8 i.toNat, .string s] 23)) w2.heap.size (0 : UInt8) (0 : UInt8) ⟨#[]⟩)
        have HX := Lib.hid (HX.out.alloc _ : At (w7.alloc (.cells #[.int .u8 k.toNat, .int .u8 i.toNat, .string s] 23)) w5.heap.size CX IX DX)
        have HY := Lib.hid (HY.out.alloc _ : At (w7.alloc (.cells #[.int .u8 k.toNat, .int .u8 i.toNat, .string s] 23)) w6.heap.size CX IX DX)
        have HZ := Lib.hid (at_new w7 k i s : At (w7.alloc (.cells #[.int .u8 k.toNat, .int .u8 i.toNat, .string s] 23)) w7.heap.size k i s)
        have HH7 := Lib.hid (HH7.out.alloc HH7.out.size _ : Below w.heap.size w (w7.alloc (.cells #[.int .u8 k.toNat, .int .u8 i.toNat, .string s] 23)))
        have cP0 := HP.out.c0
        have cP1 := HP.out.c1
        have cP2 := HP.out.c2
        have cX0 := HX.out.c0
        have cX1 := HX.out.c1
        have cX2 := HX.out.c2
        have cY0 := HY.out.c0
        have cY1 := HY.out.c1
        have cY2 := HY.out.c2
        have cZ0 := HZ.out.c0
        have cZ1 := HZ.out.c1
        have cZ2 := HZ.out.c2
        go_wp2_with fail
        refine (M.out _).mono ?_
        rintro e w8 ⟨rfl, hb8⟩
        have HP := Lib.hid (HP.out.callee hb8)
        have HA := Lib.hid (HA.out.callee hb8)
        have HB := Lib.hid (HB.out.callee hb8)
        have HX := Lib.hid (HX.out.callee hb8)
        have HY := Lib.hid (HY.out.callee hb8)
        have HZ := Lib.hid (HZ.out.callee hb8)
        have HH8 := Lib.hid (HH7.out.trans (hb8.mono HH7.out.size))
        clear hb8
        have cA0 := HA.out.c0
        have cA1 := HA.out.c1
        have cA2 := HA.out.c2
        have cB0 := HB.out.c0
        have cB1 := HB.out.c1
        have cB2 := HB.out.c2
        go_wp2_with fail
        refine (alive_any _).mono ?_
        rintro e w9 ⟨rfl, hb9⟩
        have HP := Lib.hid (HP.out.callee hb9)
        have HA := Lib.hid (HA.out.callee hb9)
        have HB := Lib.hid (HB.out.callee hb9)
        have HX := Lib.hid (HX.out.callee hb9)
        have HY := Lib.hid (HY.out.callee hb9)
        have HZ := Lib.hid (HZ.out.callee hb9)
        have HH9 := Lib.hid (HH8.out.trans (hb9.mono HH8.out.size))
        clear hb9
        go_wp2
        go_ret
        exact ⟨rfl, HH9.out⟩
    · by_cases hl : 1496 < s.size
      · have HH0 := Lib.hid (Below.refl w.heap.size w)
        have HP := Lib.hid (at_new w c i d : At (w.alloc (.cells #[.int .u8 c.toNat, .int .u8 i.toNat, .string d] 23)) w.heap.size c i d)
        have HH0 := Lib.hid (HH0.out.alloc HH0.out.size _ : Below w.heap.size w (w.alloc (.cells #[.int .u8 c.toNat, .int .u8 i.toNat, .string d] 23)))
        obtain ⟨n, t, E1, hr1, hr2⟩ := rejected_same c i d (by omega)
        obtain ⟨CX, IX, DX, E2, hi1, hi2⟩ := inner_same c i d (by omega)
        have HR1 := Lib.hid hr1
        have HR2 := Lib.hid hr2
        have HI1 := Lib.hid hi1
        have HI2 := Lib.hid hi2
        clear hr1 hr2 hi1 hi2
        have hxt := beq_self t
        have hx0 : ∀ W, (Op.equalIn 10000 23 (.agg #[.int .u8 CX.toNat, .int .u8 IX.toNat, .string DX]) (.agg #[.int .u8 CX.toNat, .int .u8 IX.toNat, .string DX])).run Try.prog W = .ok true W := pk_eq (pk_same _ _ _)
        have hx1 : ∀ W, (binOp .eql 23 (.agg #[.int .u8 CX.toNat, .int .u8 IX.toNat, .string DX]) (.agg #[.int .u8 CX.toNat, .int .u8 IX.toNat, .string DX])).run Try.prog W = .ok (.bool true) W := pk_eql (pk_same _ _ _)
        have hx2 : ∀ W, (binOp .neq 23 (.agg #[.int .u8 CX.toNat, .int .u8 IX.toNat, .string DX]) (.agg #[.int .u8 CX.toNat, .int .u8 IX.toNat, .string DX])).run Try.prog W = .ok (.bool false) W := pk_neq (pk_same _ _ _)
        have M := Lib.hid (fun w => calls_below_eq (rmay_any m w))
        rw [hm] at M
        have RE := Lib.hid (fun w => reply_long c i d s k.toNat w (by omega))
        have hl1 : 1496 < (s.size : Int) := by omega
        obtain ⟨q, rfl, hq0, hq1⟩ := may_no hm
        obtain ⟨CA, IA, DA, E3, hc1, hc2⟩ := code_same id c i d q hq0 hq1
        have HC1 := Lib.hid hc1
        have HC2 := Lib.hid hc2
        have HP1 := Lib.hid (fun w => proto_ok id p s q w hp hq0 hq1 (by unfold maxLen; omega))
        have HP2 := Lib.hid (fun w => rproto_ok id p s q w hp hq0 hq1 (by omega))
        generalize bOf ((numS p 2 ++ s.toList).take (sp q)) = DB at *
        clear hc1 hc2
        have ha0 : ∀ W, (Op.equalIn 10000 23 (.agg #[.int .u8 CA.toNat, .int .u8 IA.toNat, .string DA]) (.agg #[.int .u8 CA.toNat, .int .u8 IA.toNat, .string DA])).run Try.prog W = .ok true W := pk_eq (pk_same _ _ _)
        have ha1 : ∀ W, (binOp .eql 23 (.agg #[.int .u8 CA.toNat, .int .u8 IA.toNat, .string DA]) (.agg #[.int .u8 CA.toNat, .int .u8 IA.toNat, .string DA])).run Try.prog W = .ok (.bool true) W := pk_eql (pk_same _ _ _)
        have ha2 : ∀ W, (binOp .neq 23 (.agg #[.int .u8 CA.toNat, .int .u8 IA.toNat, .string DA]) (.agg #[.int .u8 CA.toNat, .int .u8 IA.toNat, .string DA])).run Try.prog W = .ok (.bool false) W := pk_neq (pk_same _ _ _)
        have hb0 : ∀ W, (Op.equalIn 10000 23 (.agg #[.int .u8 8, .int .u8 id.toNat, .string DB]) (.agg #[.int .u8 8, .int .u8 id.toNat, .string DB])).run Try.prog W = .ok true W := pk_eq (c := 8) (c' := 8) (pk_same _ _ _)
        have hb1 : ∀ W, (binOp .eql 23 (.agg #[.int .u8 8, .int .u8 id.toNat, .string DB]) (.agg #[.int .u8 8, .int .u8 id.toNat, .string DB])).run Try.prog W = .ok (.bool true) W := pk_eql (c := 8) (c' := 8) (pk_same _ _ _)
        have hb2 : ∀ W, (binOp .neq 23 (.agg #[.int .u8 8, .int .u8 id.toNat, .string DB]) (.agg #[.int .u8 8, .int .u8 id.toNat, .string DB])).run Try.prog W = .ok (.bool false) W := pk_neq (c := 8) (c' := 8) (pk_same _ _ _)
        clear hm
        go_enter Try.func3, Try.ntmps3
        go_wp2_with fail
        refine (HC1.out _).mono ?_
        rintro e w1 ⟨rfl, hb1⟩
        have HP := Lib.hid (HP.out.callee hb1)
        have HH1 := Lib.hid (HH0.out.trans (hb1.mono HH0.out.size))
        clear hb1
        have HP := Lib.hid (HP.out.alloc _ : At (w1.alloc (.cells #[.int .u8 CA.toNat, .int .u8 IA.toNat, .string DA] 23)) w.heap.size c i d)
        have HA := Lib.hid (at_new w1 CA IA DA : At (w1.alloc (.cells #[.int .u8 CA.toNat, .int .u8 IA.toNat, .string DA] 23)) w1.heap.size CA IA DA)
        have HH1 := Lib.hid (HH1.out.alloc HH1.out.size _ : Below w.heap.size w (w1.alloc (.cells #[.int .u8 CA.toNat, .int .u8 IA.toNat, .string DA] 23)))
        go_wp2_with fail
        refine (HP1.out _).mono ?_
        rintro e w2 ⟨rfl, hb2⟩
        have HP := Lib.hid (HP.out.callee hb2)
        have HA := Lib.hid (HA.out.callee hb2)
        have HH2 := Lib.hid (HH1.out.trans (hb2.mono HH1.out.size))
        clear hb2
        have HP := Lib.hid (HP.out.alloc _ : At (w2.alloc (.cells #[.int .u8 8, .int .u8 id.toNat, .string DB] 23)) w.heap.size c i d)
        have HA := Lib.hid (HA.out.alloc _ : At (w2.alloc (.cells #[.int .u8 8, .int .u8 id.toNat, .string DB] 23)) w1.heap.size CA IA DA)
        have HB := Lib.hid (at_new w2 (8 : UInt8) id DB : At (w2.alloc (.cells #[.int .u8 8, .int .u8 id.toNat, .string DB] 23)) w2.heap.size (8 : UInt8) id DB)
        have HH2 := Lib.hid (HH2.out.alloc HH2.out.size _ : Below w.heap.size w (w2.alloc (.cells #[.int .u8 8, .int .u8 id.toNat, .string DB] 23)))
        have cP0 := HP.out.c0
        have cP1 := HP.out.c1
        have cP2 := HP.out.c2
        go_wp2_with fail
        refine (HR1.out _).mono ?_
        rintro e w3 ⟨rfl, hb3⟩
        have HP := Lib.hid (HP.out.callee hb3)
        have HA := Lib.hid (HA.out.callee hb3)
        have HB := Lib.hid (HB.out.callee hb3)
        have HH3 := Lib.hid (HH2.out.trans (hb3.mono HH2.out.size))
        clear hb3
        have cP0 := HP.out.c0
        have cP1 := HP.out.c1
        have cP2 := HP.out.c2
        go_wp2_with fail
        refine (HR2.out _).mono ?_
        rintro e w4 ⟨rfl, hb4⟩
        have HP := Lib.hid (HP.out.callee hb4)
        have HA := Lib.hid (HA.out.callee hb4)
        have HB := Lib.hid (HB.out.callee hb4)
        have HH4 := Lib.hid (HH3.out.trans (hb4.mono HH3.out.size))
        clear hb4
        have cP0 := HP.out.c0
        have cP1 := HP.out.c1
        have cP2 := HP.out.c2
        go_wp2_with fail
        refine (HI1.out _).mono ?_
        rintro e w5 ⟨rfl, hb5⟩
        have HP := Lib.hid (HP.out.callee hb5)
        have HA := Lib.hid (HA.out.callee hb5)
        have HB := Lib.hid (HB.out.callee hb5)
        have HH5 := Lib.hid (HH4.out.trans (hb5.mono HH4.out.size))
        clear hb5
        have HP := Lib.hid (HP.out.alloc _ : At (w5.alloc (.cells #[.int .u8 CX.toNat, .int .u8 IX.toNat, .string DX] 23)) w.heap.size c i d)
        have HA := Lib.hid (HA.out.alloc _ : At (w5.alloc (.cells #[.int .u8 CX.toNat, .int .u8 IX.toNat, .string DX] 23)) w1.heap.size CA IA DA)
        have HB := Lib.hid (HB.out.alloc _ : At (w5.alloc (.cells #[.int .u8 CX.toNat, .int .u8 IX.toNat, .string DX] 23)) w2.heap.size (8 : UInt8) id DB)
        have HX := Lib.hid (at_new w5 CX IX DX : At (w5.alloc (.cells #[.int .u8 CX.toNat, .int .u8 IX.toNat, .string DX] 23)) w5.heap.size CX IX DX)
        have HH5 := Lib.hid (HH5.out.alloc HH5.out.size _ : Below w.heap.size w (w5.alloc (.cells #[.int .u8 CX.toNat, .int .u8 IX.toNat, .string DX] 23)))
        have cP0 := HP.out.c0
        have cP1 := HP.out.c1
        have cP2 := HP.out.c2
        go_wp2_with fail
        refine (HI2.out _).mono ?_
        rintro e w6 ⟨rfl, hb6⟩
        have HP := Lib.hid (HP.out.callee hb6)
        have HA := Lib.hid (HA.out.callee hb6)
        have HB := Lib.hid (HB.out.callee hb6)
        have HX := Lib.hid (HX.out.callee hb6)
        have HH6 := Lib.hid (HH5.out.trans (hb6.mono HH5.out.size))
        clear hb6
        have HP := Lib.hid (HP.out.alloc _ : At (w6.alloc (.cells #[.int .u8 CX.toNat, .int .u8 IX.toNat, .string DX] 23)) w.heap.size c i d)
        have HA := Lib.hid (HA.out.alloc _ : At (w6.alloc (.cells #[.int .u8 CX.toNat, .int .u8 IX.toNat, .string DX] 23)) w1.heap.size CA IA DA)
        have HB := Lib.hid (HB.out.alloc _ : At (w6.alloc (.cells #[.int .u8 CX.toNat, .int .u8 IX.toNat, .string DX] 23)) w2.heap.size (8 : UInt8) id DB)
        have HX := Lib.hid (HX.out.alloc _ : At (w6.alloc (.cells #[.int .u8 CX.toNat, .int .u8 IX.toNat, .string DX] 23)) w5.heap.size CX IX DX)
        have HY := Lib.hid (at_new w6 CX IX DX : At (w6.alloc (.cells #[.int .u8 CX.toNat, .int .u8 IX.toNat, .string DX] 23)) w6.heap.size CX IX DX)
        have HH6 := Lib.hid (HH6.out.alloc HH6.out.size _ : Below w.heap.size w (w6.alloc (.cells #[.int .u8 CX.toNat, .int .u8 IX.toNat, .string DX] 23)))
        have cP0 := HP.out.c0
        have cP1 := HP.out.c1
        have cP2 := HP.out.c2
        go_wp2_with fail
        refine (RE.out _).mono ?_
        rintro e w7 ⟨rfl, hb7⟩
        have HP := Lib.hid (HP.out.callee hb7)
        have HA := Lib.hid (HA.out.callee hb7)
        have HB := Lib.hid (HB.out.callee hb7)
        have HX := Lib.hid (HX.out.callee hb7)
        have HY := Lib.hid (HY.out.callee hb7)
        have HH7 := Lib.hid (HH6.out.trans (hb7.mono HH6.out.size))
        clear hb7
        have HP := Lib.hid (HP.out.alloc _ : At (w7.alloc (.cells #[.int .u8 0, .int .u8 0, .string ⟨#[]⟩] 23)) w.heap.size c i d)
        have HA := Lib.hid (HA.out.alloc _ : At (w7.alloc (.cells #[.int .u8 0, .int .u8 0, .string ⟨#[]⟩] 23)) w1.heap.size CA IA DA)
        have HB := Lib.hid (HB.out.alloc _ : At (w7.alloc (.cells #[.int .u8 0, .int .u8 0, .string ⟨#[]⟩] 23)) w2.heap.size (8 : UInt8) id DB)
        have HX := Lib.hid (HX.out.alloc _ : At (w7.alloc (.cells #[.int .u8 0, .int .u8 0, .string ⟨#[]⟩] 23)) w5.heap.size CX IX DX)
        have HY := Lib.hid (HY.out.alloc _ : At (w7.alloc (.cells #[.int .u8 0, .int .u8 0, .string ⟨#[]⟩] 23)) w6.heap.size CX IX DX)
        have HZ := Lib.hid (at_new w7 (0 : UInt8) (0 : UInt8) ⟨#[]⟩ : At (w7.alloc (.cells #[.int .u8 0, .int .u8 0, .string ⟨#[]⟩] 23)) w7.heap.size (0 : UInt8) (0 : UInt8) ⟨#[]⟩)
        have HH7 := Lib.hid (HH7.out.alloc HH7.out.size _ : Below w.heap.size w (w7.alloc (.cells #[.int .u8 0, .int .u8 0, .string ⟨#[]⟩] 23)))
        have cP0 := HP.out.c0
        have cP1 := HP.out.c1
        have cP2 := HP.out.c2
        have cX0 := HX.out.c0
        have cX1 := HX.out.c1
        have cX2 := HX.out.c2
        have cY0 := HY.out.c0
        have cY1 := HY.out.c1
        have cY2 := HY.out.c2
        have cZ0 := HZ.out.c0
        have cZ1 := HZ.out.c1
        have cZ2 := HZ.out.c2
        go_wp2_with fail
        refine (M.out _).mono ?_
        rintro e w8 ⟨rfl, hb8⟩
        have HP := Lib.hid (HP.out.callee hb8)
        have HA := Lib.hid (HA.out.callee hb8)
        have HB := Lib.hid (HB.out.callee hb8)
        have HX := Lib.hid (HX.out.callee hb8)
        have HY := Lib.hid (HY.out.callee hb8)
        have HZ := Lib.hid (HZ.out.callee hb8)
        have HH8 := Lib.hid (HH7.out.trans (hb8.mono HH7.out.size))
        clear hb8
        have cP0 := HP.out.c0
        have cP1 := HP.out.c1
        have cP2 := HP.out.c2
        go_wp2_with fail
        refine (HC2.out _).mono ?_
        rintro e w9 ⟨rfl, hb9⟩
        have HP := Lib.hid (HP.out.callee hb9)
        have HA := Lib.hid (HA.out.callee hb9)
        have HB := Lib.hid (HB.out.callee hb9)
        have HX := Lib.hid (HX.out.callee hb9)
        have HY := Lib.hid (HY.out.callee hb9)
        have HZ := Lib.hid (HZ.out.callee hb9)
        have HH9 := Lib.hid (HH8.out.trans (hb9.mono HH8.out.size))
        clear hb9
        have HP := Lib.hid (HP.out.alloc _ : At (w9.alloc (.cells #[.int .u8 CA.toNat, .int .u8 IA.toNat, .string DA] 23)) w.heap.size c i d)
        have HA := Lib.hid (HA.out.alloc _ : At (w9.alloc (.cells #[.int .u8 CA.toNat, .int .u8 IA.toNat, .string DA] 23)) w1.heap.size CA IA DA)
        have HB := Lib.hid (HB.out.alloc _ : At (w9.alloc (.cells #[.int .u8 CA.toNat, .int .u8 IA.toNat, .string DA] 23)) w2.heap.size (8 : UInt8) id DB)
        have HX := Lib.hid (HX.out.alloc _ : At (w9.alloc (.cells #[.int .u8 CA.toNat, .int .u8 IA.toNat, .string DA] 23)) w5.heap.size CX IX DX)
        have HY := Lib.hid (HY.out.alloc _ : At (w9.alloc (.cells #[.int .u8 CA.toNat, .int .u8 IA.toNat, .string DA] 23)) w6.heap.size CX IX DX)
        have HZ := Lib.hid (HZ.out.alloc _ : At (w9.alloc (.cells #[.int .u8 CA.toNat, .int .u8 IA.toNat, .string DA] 23)) w7.heap.size (0 : UInt8) (0 : UInt8) ⟨#[]⟩)
        have HV := Lib.hid (at_new w9 CA IA DA : At (w9.alloc (.cells #[.int .u8 CA.toNat, .int .u8 IA.toNat, .string DA] 23)) w9.heap.size CA IA DA)
        have HH9 := Lib.hid (HH9.out.alloc HH9.out.size _ : Below w.heap.size w (w9.alloc (.cells #[.int .u8 CA.toNat, .int .u8 IA.toNat, .string DA] 23)))
        obtain ⟨U, hU⟩ : ∃ U, (w9.alloc (.cells #[.int .u8 CA.toNat, .int .u8 IA.toNat, .string DA] 23)) = U := ⟨_, rfl⟩
        rw [hU] at HA HB HV HH9
        have dA0 : U.drew.cell? ⟨w1.heap.size, 0, none⟩ = some (.int .u8 CA.toNat) := HA.out.c0
        have dA1 : U.drew.cell? ⟨w1.heap.size, 1, none⟩ = some (.int .u8 IA.toNat) := HA.out.c1
        have dA2 : U.drew.cell? ⟨w1.heap.size, 2, none⟩ = some (.string DA) := HA.out.c2
        have dB0 : U.drew.cell? ⟨w2.heap.size, 0, none⟩ = some (.int .u8 8) := HB.out.c0
        have dB1 : U.drew.cell? ⟨w2.heap.size, 1, none⟩ = some (.int .u8 id.toNat) := HB.out.c1
        have dB2 : U.drew.cell? ⟨w2.heap.size, 2, none⟩ = some (.string DB) := HB.out.c2
        have dV0 : U.drew.cell? ⟨w9.heap.size, 0, none⟩ = some (.int .u8 CA.toNat) := HV.out.c0
        have dV1 : U.drew.cell? ⟨w9.heap.size, 1, none⟩ = some (.int .u8 IA.toNat) := HV.out.c1
        have dV2 : U.drew.cell? ⟨w9.heap.size, 2, none⟩ = some (.string DA) := HV.out.c2
        have HHd := Lib.hid HH9.out.drew
        clear HA HB HV HX HY HZ HP
        go_wp2
        clear hU
        go_region_held3 (fun w' => w'.cell? ⟨w1.heap.size, 0, none⟩ = some (.int .u8 CA.toNat) ∧ w'.cell? ⟨w1.heap.size, 1, none⟩ = some (.int .u8 IA.toNat) ∧ w'.cell? ⟨w1.heap.size, 2, none⟩ = some (.string DA) ∧ w'.cell? ⟨w2.heap.size, 0, none⟩ = some (.int .u8 8) ∧ w'.cell? ⟨w2.heap.size, 1, none⟩ = some (.int .u8 id.toNat) ∧ w'.cell? ⟨w2.heap.size, 2, none⟩ = some (.string DB) ∧ w'.cell? ⟨w9.heap.size, 0, none⟩ = some (.int .u8 CA.toNat) ∧ w'.cell? ⟨w9.heap.size, 1, none⟩ = some (.int .u8 IA.toNat) ∧ w'.cell? ⟨w9.heap.size, 2, none⟩ = some (.string DA))
          (first | assumption | (refine ⟨?_, ?_, ?_, ?_, ?_, ?_, ?_, ?_, ?_⟩ <;> assumption) | (go_split_ands; refine ⟨?_, ?_, ?_, ?_, ?_, ?_, ?_, ?_, ?_⟩ <;> assumption))
          (first
            | (go_at_call 16; (refine (HP2.out _).mono ?_; clear HP2; rintro e w10 ⟨rfl, hb10⟩; have HH10 := Lib.hid (HHd.out.trans (hb10.mono HHd.out.size)); have yA0 := (hb10.cell (p := ⟨w1.heap.size, 0, none⟩) (World.block_lt_of_cell? _ _ dA0)).trans dA0; have yA1 := (hb10.cell (p := ⟨w1.heap.size, 1, none⟩) (World.block_lt_of_cell? _ _ dA1)).trans dA1; have yA2 := (hb10.cell (p := ⟨w1.heap.size, 2, none⟩) (World.block_lt_of_cell? _ _ dA2)).trans dA2; have yB0 := (hb10.cell (p := ⟨w2.heap.size, 0, none⟩) (World.block_lt_of_cell? _ _ dB0)).trans dB0; have yB1 := (hb10.cell (p := ⟨w2.heap.size, 1, none⟩) (World.block_lt_of_cell? _ _ dB1)).trans dB1; have yB2 := (hb10.cell (p := ⟨w2.heap.size, 2, none⟩) (World.block_lt_of_cell? _ _ dB2)).trans dB2; have yV0 := (hb10.cell (p := ⟨w9.heap.size, 0, none⟩) (World.block_lt_of_cell? _ _ dV0)).trans dV0; have yV1 := (hb10.cell (p := ⟨w9.heap.size, 1, none⟩) (World.block_lt_of_cell? _ _ dV1)).trans dV1; have yV2 := (hb10.cell (p := ⟨w9.heap.size, 2, none⟩) (World.block_lt_of_cell? _ _ dV2)).trans dV2))
            | (go_at_call 6; (refine (alive_any _).mono ?_; rintro e w11 ⟨rfl, hb11⟩; have HH11 := Lib.hid (HH10.out.trans (hb11.mono HH10.out.size)); have zA0 := (hb11.cell (p := ⟨w1.heap.size, 0, none⟩) (World.block_lt_of_cell? _ _ yA0)).trans yA0; have zA1 := (hb11.cell (p := ⟨w1.heap.size, 1, none⟩) (World.block_lt_of_cell? _ _ yA1)).trans yA1; have zA2 := (hb11.cell (p := ⟨w1.heap.size, 2, none⟩) (World.block_lt_of_cell? _ _ yA2)).trans yA2; have zB0 := (hb11.cell (p := ⟨w2.heap.size, 0, none⟩) (World.block_lt_of_cell? _ _ yB0)).trans yB0; have zB1 := (hb11.cell (p := ⟨w2.heap.size, 1, none⟩) (World.block_lt_of_cell? _ _ yB1)).trans yB1; have zB2 := (hb11.cell (p := ⟨w2.heap.size, 2, none⟩) (World.block_lt_of_cell? _ _ yB2)).trans yB2; have zV0 := (hb11.cell (p := ⟨w9.heap.size, 0, none⟩) (World.block_lt_of_cell? _ _ yV0)).trans yV0; have zV1 := (hb11.cell (p := ⟨w9.heap.size, 1, none⟩) (World.block_lt_of_cell? _ _ yV1)).trans yV1; have zV2 := (hb11.cell (p := ⟨w9.heap.size, 2, none⟩) (World.block_lt_of_cell? _ _ yV2)).trans yV2))
            | fail)
        go_wp2
        go_ret
        exact ⟨rfl, HH11.out⟩
      · have HH0 := Lib.hid (Below.refl w.heap.size w)
        have HP := Lib.hid (at_new w c i d : At (w.alloc (.cells #[.int .u8 c.toNat, .int .u8 i.toNat, .string d] 23)) w.heap.size c i d)
        have HH0 := Lib.hid (HH0.out.alloc HH0.out.size _ : Below w.heap.size w (w.alloc (.cells #[.int .u8 c.toNat, .int .u8 i.toNat, .string d] 23)))
        obtain ⟨n, t, E1, hr1, hr2⟩ := rejected_same c i d (by omega)
        obtain ⟨CX, IX, DX, E2, hi1, hi2⟩ := inner_same c i d (by omega)
        have HR1 := Lib.hid hr1
        have HR2 := Lib.hid hr2
        have HI1 := Lib.hid hi1
        have HI2 := Lib.hid hi2
        clear hr1 hr2 hi1 hi2
        have hxt := beq_self t
        have hx0 : ∀ W, (Op.equalIn 10000 23 (.agg #[.int .u8 CX.toNat, .int .u8 IX.toNat, .string DX]) (.agg #[.int .u8 CX.toNat, .int .u8 IX.toNat, .string DX])).run Try.prog W = .ok true W := pk_eq (pk_same _ _ _)
        have hx1 : ∀ W, (binOp .eql 23 (.agg #[.int .u8 CX.toNat, .int .u8 IX.toNat, .string DX]) (.agg #[.int .u8 CX.toNat, .int .u8 IX.toNat, .string DX])).run Try.prog W = .ok (.bool true) W := pk_eql (pk_same _ _ _)
        have hx2 : ∀ W, (binOp .neq 23 (.agg #[.int .u8 CX.toNat, .int .u8 IX.toNat, .string DX]) (.agg #[.int .u8 CX.toNat, .int .u8 IX.toNat, .string DX])).run Try.prog W = .ok (.bool false) W := pk_neq (pk_same _ _ _)
        have M := Lib.hid (fun w => calls_below_eq (rmay_any m w))
        rw [hm] at M
        have RE := Lib.hid (fun w => reply_ok c i d s k.toNat w (by omega))
        have hl1 : ¬ 1496 < (s.size : Int) := by omega
        have hz0 : ∀ W, (Op.equalIn 10000 23 (.agg #[.int .u8 k.toNat, .int .u8 i.toNat, .string s]) (.agg #[.int .u8 k.toNat, .int .u8 i.toNat, .string s])).run Try.prog W = .ok true W := pk_eq (pk_same _ _ _)
        have hz1 : ∀ W, (binOp .eql 23 (.agg #[.int .u8 k.toNat, .int .u8 i.toNat, .string s]) (.agg #[.int .u8 k.toNat, .int .u8 i.toNat, .string s])).run Try.prog W = .ok (.bool true) W := pk_eql (pk_same _ _ _)
        have hz2 : ∀ W, (binOp .neq 23 (.agg #[.int .u8 k.toNat, .int .u8 i.toNat, .string s]) (.agg #[.int .u8 k.toNat, .int .u8 i.toNat, .string s])).run Try.prog W = .ok (.bool false) W := pk_neq (pk_same _ _ _)
        obtain ⟨q, rfl, hq0, hq1⟩ := may_no hm
        obtain ⟨CA, IA, DA, E3, hc1, hc2⟩ := code_same id c i d q hq0 hq1
        have HC1 := Lib.hid hc1
        have HC2 := Lib.hid hc2
        have HP1 := Lib.hid (fun w => proto_ok id p s q w hp hq0 hq1 (by unfold maxLen; omega))
        have HP2 := Lib.hid (fun w => rproto_ok id p s q w hp hq0 hq1 (by omega))
        generalize bOf ((numS p 2 ++ s.toList).take (sp q)) = DB at *
        clear hc1 hc2
        have ha0 : ∀ W, (Op.equalIn 10000 23 (.agg #[.int .u8 CA.toNat, .int .u8 IA.toNat, .string DA]) (.agg #[.int .u8 CA.toNat, .int .u8 IA.toNat, .string DA])).run Try.prog W = .ok true W := pk_eq (pk_same _ _ _)
        have ha1 : ∀ W, (binOp .eql 23 (.agg #[.int .u8 CA.toNat, .int .u8 IA.toNat, .string DA]) (.agg #[.int .u8 CA.toNat, .int .u8 IA.toNat, .string DA])).run Try.prog W = .ok (.bool true) W := pk_eql (pk_same _ _ _)
        have ha2 : ∀ W, (binOp .neq 23 (.agg #[.int .u8 CA.toNat, .int .u8 IA.toNat, .string DA]) (.agg #[.int .u8 CA.toNat, .int .u8 IA.toNat, .string DA])).run Try.prog W = .ok (.bool false) W := pk_neq (pk_same _ _ _)
        have hb0 : ∀ W, (Op.equalIn 10000 23 (.agg #[.int .u8 8, .int .u8 id.toNat, .string DB]) (.agg #[.int .u8 8, .int .u8 id.toNat, .string DB])).run Try.prog W = .ok true W := pk_eq (c := 8) (c' := 8) (pk_same _ _ _)
        have hb1 : ∀ W, (binOp .eql 23 (.agg #[.int .u8 8, .int .u8 id.toNat, .string DB]) (.agg #[.int .u8 8, .int .u8 id.toNat, .string DB])).run Try.prog W = .ok (.bool true) W := pk_eql (c := 8) (c' := 8) (pk_same _ _ _)
        have hb2 : ∀ W, (binOp .neq 23 (.agg #[.int .u8 8, .int .u8 id.toNat, .string DB]) (.agg #[.int .u8 8, .int .u8 id.toNat, .string DB])).run Try.prog W = .ok (.bool false) W := pk_neq (c := 8) (c' := 8) (pk_same _ _ _)
        clear hm
        go_enter Try.func3, Try.ntmps3
        go_wp2_with fail
        refine (HC1.out _).mono ?_
        rintro e w1 ⟨rfl, hb1⟩
        have HP := Lib.hid (HP.out.callee hb1)
        have HH1 := Lib.hid (HH0.out.trans (hb1.mono HH0.out.size))
        clear hb1
        have HP := Lib.hid (HP.out.alloc _ : At (w1.alloc (.cells #[.int .u8 CA.toNat, .int .u8 IA.toNat, .string DA] 23)) w.heap.size c i d)
        have HA := Lib.hid (at_new w1 CA IA DA : At (w1.alloc (.cells #[.int .u8 CA.toNat, .int .u8 IA.toNat, .string DA] 23)) w1.heap.size CA IA DA)
        have HH1 := Lib.hid (HH1.out.alloc HH1.out.size _ : Below w.heap.size w (w1.alloc (.cells #[.int .u8 CA.toNat, .int .u8 IA.toNat, .string DA] 23)))
        go_wp2_with fail
        refine (HP1.out _).mono ?_
        rintro e w2 ⟨rfl, hb2⟩
        have HP := Lib.hid (HP.out.callee hb2)
        have HA := Lib.hid (HA.out.callee hb2)
        have HH2 := Lib.hid (HH1.out.trans (hb2.mono HH1.out.size))
        clear hb2
        have HP := Lib.hid (HP.out.alloc _ : At (w2.alloc (.cells #[.int .u8 8, .int .u8 id.toNat, .string DB] 23)) w.heap.size c i d)
        have HA := Lib.hid (HA.out.alloc _ : At (w2.alloc (.cells #[.int .u8 8, .int .u8 id.toNat, .string DB] 23)) w1.heap.size CA IA DA)
        have HB := Lib.hid (at_new w2 (8 : UInt8) id DB : At (w2.alloc (.cells #[.int .u8 8, .int .u8 id.toNat, .string DB] 23)) w2.heap.size (8 : UInt8) id DB)
        have HH2 := Lib.hid (HH2.out.alloc HH2.out.size _ : Below w.heap.size w (w2.alloc (.cells #[.int .u8 8, .int .u8 id.toNat, .string DB] 23)))
        have cP0 := HP.out.c0
        have cP1 := HP.out.c1
        have cP2 := HP.out.c2
        go_wp2_with fail
        refine (HR1.out _).mono ?_
        rintro e w3 ⟨rfl, hb3⟩
        have HP := Lib.hid (HP.out.callee hb3)
        have HA := Lib.hid (HA.out.callee hb3)
        have HB := Lib.hid (HB.out.callee hb3)
        have HH3 := Lib.hid (HH2.out.trans (hb3.mono HH2.out.size))
        clear hb3
        have cP0 := HP.out.c0
        have cP1 := HP.out.c1
        have cP2 := HP.out.c2
        go_wp2_with fail
        refine (HR2.out _).mono ?_
        rintro e w4 ⟨rfl, hb4⟩
        have HP := Lib.hid (HP.out.callee hb4)
        have HA := Lib.hid (HA.out.callee hb4)
        have HB := Lib.hid (HB.out.callee hb4)
        have HH4 := Lib.hid (HH3.out.trans (hb4.mono HH3.out.size))
        clear hb4
        have cP0 := HP.out.c0
        have cP1 := HP.out.c1
        have cP2 := HP.out.c2
        go_wp2_with fail
        refine (HI1.out _).mono ?_
        rintro e w5 ⟨rfl, hb5⟩
        have HP := Lib.hid (HP.out.callee hb5)
        have HA := Lib.hid (HA.out.callee hb5)
        have HB := Lib.hid (HB.out.callee hb5)
        have HH5 := Lib.hid (HH4.out.trans (hb5.mono HH4.out.size))
        clear hb5
        have HP := Lib.hid (HP.out.alloc _ : At (w5.alloc (.cells #[.int .u8 CX.toNat, .int .u8 IX.toNat, .string DX] 23)) w.heap.size c i d)
        have HA := Lib.hid (HA.out.alloc _ : At (w5.alloc (.cells #[.int .u8 CX.toNat, .int .u8 IX.toNat, .string DX] 23)) w1.heap.size CA IA DA)
        have HB := Lib.hid (HB.out.alloc _ : At (w5.alloc (.cells #[.int .u8 CX.toNat, .int .u8 IX.toNat, .string DX] 23)) w2.heap.size (8 : UInt8) id DB)
        have HX := Lib.hid (at_new w5 CX IX DX : At (w5.alloc (.cells #[.int .u8 CX.toNat, .int .u8 IX.toNat, .string DX] 23)) w5.heap.size CX IX DX)
        have HH5 := Lib.hid (HH5.out.alloc HH5.out.size _ : Below w.heap.size w (w5.alloc (.cells #[.int .u8 CX.toNat, .int .u8 IX.toNat, .string DX] 23)))
        have cP0 := HP.out.c0
        have cP1 := HP.out.c1
        have cP2 := HP.out.c2
        go_wp2_with fail
        refine (HI2.out _).mono ?_
        rintro e w6 ⟨rfl, hb6⟩
        have HP := Lib.hid (HP.out.callee hb6)
        have HA := Lib.hid (HA.out.callee hb6)
        have HB := Lib.hid (HB.out.callee hb6)
        have HX := Lib.hid (HX.out.callee hb6)
        have HH6 := Lib.hid (HH5.out.trans (hb6.mono HH5.out.size))
        clear hb6
        have HP := Lib.hid (HP.out.alloc _ : At (w6.alloc (.cells #[.int .u8 CX.toNat, .int .u8 IX.toNat, .string DX] 23)) w.heap.size c i d)
        have HA := Lib.hid (HA.out.alloc _ : At (w6.alloc (.cells #[.int .u8 CX.toNat, .int .u8 IX.toNat, .string DX] 23)) w1.heap.size CA IA DA)
        have HB := Lib.hid (HB.out.alloc _ : At (w6.alloc (.cells #[.int .u8 CX.toNat, .int .u8 IX.toNat, .string DX] 23)) w2.heap.size (8 : UInt8) id DB)
        have HX := Lib.hid (HX.out.alloc _ : At (w6.alloc (.cells #[.int .u8 CX.toNat, .int .u8 IX.toNat, .string DX] 23)) w5.heap.size CX IX DX)
        have HY := Lib.hid (at_new w6 CX IX DX : At (w6.alloc (.cells #[.int .u8 CX.toNat, .int .u8 IX.toNat, .string DX] 23)) w6.heap.size CX IX DX)
        have HH6 := Lib.hid (HH6.out.alloc HH6.out.size _ : Below w.heap.size w (w6.alloc (.cells #[.int .u8 CX.toNat, .int .u8 IX.toNat, .string DX] 23)))
        have cP0 := HP.out.c0
        have cP1 := HP.out.c1
        have cP2 := HP.out.c2
        go_wp2_with fail
        refine (RE.out _).mono ?_
        rintro e w7 ⟨rfl, hb7⟩
        have HP := Lib.hid (HP.out.callee hb7)
        have HA := Lib.hid (HA.out.callee hb7)
        have HB := Lib.hid (HB.out.callee hb7)
        have HX := Lib.hid (HX.out.callee hb7)
        have HY := Lib.hid (HY.out.callee hb7)
        have HH7 := Lib.hid (HH6.out.trans (hb7.mono HH6.out.size))
        clear hb7
        have HP := Lib.hid (HP.out.alloc _ : At (w7.alloc (.cells #[.int .u8 k.toNat, .int .u8 i.toNat, .string s] 23)) w.heap.size c i d)
        have HA := Lib.hid (HA.out.alloc _ : At (w7.alloc (.cells #[.int .u8 k.toNat, .int .u8 i.toNat, .string s] 23)) w1.heap.size CA IA DA)
        have HB := Lib.hid (HB.out.alloc _ : At (w7.alloc (.cells #[.int .u8 k.toNat, .int .u8 i.toNat, .string s] 23)) w2.heap.size (8 : UInt8) id DB)
        have HX := Lib.hid (HX.out.alloc _ : At (w7.alloc (.cells #[.int .u8 k.toNat, .int .u8 i.toNat, .string s] 23)) w5.heap.size CX IX DX)
        have HY := Lib.hid (HY.out.alloc _ : At (w7.alloc (.cells #[.int .u8 k.toNat, .int .u8 i.toNat, .string s] 23)) w6.heap.size CX IX DX)
        have HZ := Lib.hid (at_new w7 k i s : At (w7.alloc (.cells #[.int .u8 k.toNat, .int .u8 i.toNat, .string s] 23)) w7.heap.size k i s)
        have HH7 := Lib.hid (HH7.out.alloc HH7.out.size _ : Below w.heap.size w (w7.alloc (.cells #[.int .u8 k.toNat, .int .u8 i.toNat, .string s] 23)))
        have cP0 := HP.out.c0
        have cP1 := HP.out.c1
        have cP2 := HP.out.c2
        have cX0 := HX.out.c0
        have cX1 := HX.out.c1
        have cX2 := HX.out.c2
        have cY0 := HY.out.c0
        have cY1 := HY.out.c1
        have cY2 := HY.out.c2
        have cZ0 := HZ.out.c0
        have cZ1 := HZ.out.c1
        have cZ2 := HZ.out.c2
        go_wp2_with fail
        refine (M.out _).mono ?_
        rintro e w8 ⟨rfl, hb8⟩
        have HP := Lib.hid (HP.out.callee hb8)
        have HA := Lib.hid (HA.out.callee hb8)
        have HB := Lib.hid (HB.out.callee hb8)
        have HX := Lib.hid (HX.out.callee hb8)
        have HY := Lib.hid (HY.out.callee hb8)
        have HZ := Lib.hid (HZ.out.callee hb8)
        have HH8 := Lib.hid (HH7.out.trans (hb8.mono HH7.out.size))
        clear hb8
        have cP0 := HP.out.c0
        have cP1 := HP.out.c1
        have cP2 := HP.out.c2
        go_wp2_with fail
        refine (HC2.out _).mono ?_
        rintro e w9 ⟨rfl, hb9⟩
        have HP := Lib.hid (HP.out.callee hb9)
        have HA := Lib.hid (HA.out.callee hb9)
        have HB := Lib.hid (HB.out.callee hb9)
        have HX := Lib.hid (HX.out.callee hb9)
        have HY := Lib.hid (HY.out.callee hb9)
        have HZ := Lib.hid (HZ.out.callee hb9)
        have HH9 := Lib.hid (HH8.out.trans (hb9.mono HH8.out.size))
        clear hb9
        have HP := Lib.hid (HP.out.alloc _ : At (w9.alloc (.cells #[.int .u8 CA.toNat, .int .u8 IA.toNat, .string DA] 23)) w.heap.size c i d)
        have HA := Lib.hid (HA.out.alloc _ : At (w9.alloc (.cells #[.int .u8 CA.toNat, .int .u8 IA.toNat, .string DA] 23)) w1.heap.size CA IA DA)
        have HB := Lib.hid (HB.out.alloc _ : At (w9.alloc (.cells #[.int .u8 CA.toNat, .int .u8 IA.toNat, .string DA] 23)) w2.heap.size (8 : UInt8) id DB)
        have HX := Lib.hid (HX.out.alloc _ : At (w9.alloc (.cells #[.int .u8 CA.toNat, .int .u8 IA.toNat, .string DA] 23)) w5.heap.size CX IX DX)
        have HY := Lib.hid (HY.out.alloc _ : At (w9.alloc (.cells #[.int .u8 CA.toNat, .int .u8 IA.toNat, .string DA] 23)) w6.heap.size CX IX DX)
        have HZ := Lib.hid (HZ.out.alloc _ : At (w9.alloc (.cells #[.int .u8 CA.toNat, .int .u8 IA.toNat, .string DA] 23)) w7.heap.size k i s)
        have HV := Lib.hid (at_new w9 CA IA DA : At (w9.alloc (.cells #[.int .u8 CA.toNat, .int .u8 IA.toNat, .string DA] 23)) w9.heap.size CA IA DA)
        have HH9 := Lib.hid (HH9.out.alloc HH9.out.size _ : Below w.heap.size w (w9.alloc (.cells #[.int .u8 CA.toNat, .int .u8 IA.toNat, .string DA] 23)))
        obtain ⟨U, hU⟩ : ∃ U, (w9.alloc (.cells #[.int .u8 CA.toNat, .int .u8 IA.toNat, .string DA] 23)) = U := ⟨_, rfl⟩
        rw [hU] at HA HB HV HH9
        have dA0 : U.drew.cell? ⟨w1.heap.size, 0, none⟩ = some (.int .u8 CA.toNat) := HA.out.c0
        have dA1 : U.drew.cell? ⟨w1.heap.size, 1, none⟩ = some (.int .u8 IA.toNat) := HA.out.c1
        have dA2 : U.drew.cell? ⟨w1.heap.size, 2, none⟩ = some (.string DA) := HA.out.c2
        have dB0 : U.drew.cell? ⟨w2.heap.size, 0, none⟩ = some (.int .u8 8) := HB.out.c0
        have dB1 : U.drew.cell? ⟨w2.heap.size, 1, none⟩ = some (.int .u8 id.toNat) := HB.out.c1
        have dB2 : U.drew.cell? ⟨w2.heap.size, 2, none⟩ = some (.string DB) := HB.out.c2
        have dV0 : U.drew.cell? ⟨w9.heap.size, 0, none⟩ = some (.int .u8 CA.toNat) := HV.out.c0
        have dV1 : U.drew.cell? ⟨w9.heap.size, 1, none⟩ = some (.int .u8 IA.toNat) := HV.out.c1
        have dV2 : U.drew.cell? ⟨w9.heap.size, 2, none⟩ = some (.string DA) := HV.out.c2
        have HHd := Lib.hid HH9.out.drew
        clear HA HB HV HX HY HZ HP
        go_wp2
        clear hU
        go_region_held3 (fun w' => w'.cell? ⟨w1.heap.size, 0, none⟩ = some (.int .u8 CA.toNat) ∧ w'.cell? ⟨w1.heap.size, 1, none⟩ = some (.int .u8 IA.toNat) ∧ w'.cell? ⟨w1.heap.size, 2, none⟩ = some (.string DA) ∧ w'.cell? ⟨w2.heap.size, 0, none⟩ = some (.int .u8 8) ∧ w'.cell? ⟨w2.heap.size, 1, none⟩ = some (.int .u8 id.toNat) ∧ w'.cell? ⟨w2.heap.size, 2, none⟩ = some (.string DB) ∧ w'.cell? ⟨w9.heap.size, 0, none⟩ = some (.int .u8 CA.toNat) ∧ w'.cell? ⟨w9.heap.size, 1, none⟩ = some (.int .u8 IA.toNat) ∧ w'.cell? ⟨w9.heap.size, 2, none⟩ = some (.string DA))
          (first | assumption | (refine ⟨?_, ?_, ?_, ?_, ?_, ?_, ?_, ?_, ?_⟩ <;> assumption) | (go_split_ands; refine ⟨?_, ?_, ?_, ?_, ?_, ?_, ?_, ?_, ?_⟩ <;> assumption))
          (first
            | (go_at_call 16; (refine (HP2.out _).mono ?_; clear HP2; rintro e w10 ⟨rfl, hb10⟩; have HH10 := Lib.hid (HHd.out.trans (hb10.mono HHd.out.size)); have yA0 := (hb10.cell (p := ⟨w1.heap.size, 0, none⟩) (World.block_lt_of_cell? _ _ dA0)).trans dA0; have yA1 := (hb10.cell (p := ⟨w1.heap.size, 1, none⟩) (World.block_lt_of_cell? _ _ dA1)).trans dA1; have yA2 := (hb10.cell (p := ⟨w1.heap.size, 2, none⟩) (World.block_lt_of_cell? _ _ dA2)).trans dA2; have yB0 := (hb10.cell (p := ⟨w2.heap.size, 0, none⟩) (World.block_lt_of_cell? _ _ dB0)).trans dB0; have yB1 := (hb10.cell (p := ⟨w2.heap.size, 1, none⟩) (World.block_lt_of_cell? _ _ dB1)).trans dB1; have yB2 := (hb10.cell (p := ⟨w2.heap.size, 2, none⟩) (World.block_lt_of_cell? _ _ dB2)).trans dB2; have yV0 := (hb10.cell (p := ⟨w9.heap.size, 0, none⟩) (World.block_lt_of_cell? _ _ dV0)).trans dV0; have yV1 := (hb10.cell (p := ⟨w9.heap.size, 1, none⟩) (World.block_lt_of_cell? _ _ dV1)).trans dV1; have yV2 := (hb10.cell (p := ⟨w9.heap.size, 2, none⟩) (World.block_lt_of_cell? _ _ dV2)).trans dV2))
            | (go_at_call 6; (refine (alive_any _).mono ?_; rintro e w11 ⟨rfl, hb11⟩; have HH11 := Lib.hid (HH10.out.trans (hb11.mono HH10.out.size)); have zA0 := (hb11.cell (p := ⟨w1.heap.size, 0, none⟩) (World.block_lt_of_cell? _ _ yA0)).trans yA0; have zA1 := (hb11.cell (p := ⟨w1.heap.size, 1, none⟩) (World.block_lt_of_cell? _ _ yA1)).trans yA1; have zA2 := (hb11.cell (p := ⟨w1.heap.size, 2, none⟩) (World.block_lt_of_cell? _ _ yA2)).trans yA2; have zB0 := (hb11.cell (p := ⟨w2.heap.size, 0, none⟩) (World.block_lt_of_cell? _ _ yB0)).trans yB0; have zB1 := (hb11.cell (p := ⟨w2.heap.size, 1, none⟩) (World.block_lt_of_cell? _ _ yB1)).trans yB1; have zB2 := (hb11.cell (p := ⟨w2.heap.size, 2, none⟩) (World.block_lt_of_cell? _ _ yB2)).trans yB2; have zV0 := (hb11.cell (p := ⟨w9.heap.size, 0, none⟩) (World.block_lt_of_cell? _ _ yV0)).trans yV0; have zV1 := (hb11.cell (p := ⟨w9.heap.size, 1, none⟩) (World.block_lt_of_cell? _ _ yV1)).trans yV1; have zV2 := (hb11.cell (p := ⟨w9.heap.size, 2, none⟩) (World.block_lt_of_cell? _ _ yV2)).trans yV2))
            | fail)
        go_wp2
        go_ret
        exact ⟨rfl, HH11.out⟩

set_option maxRecDepth 100000 in
theorem lifted (os : Os) (started : os.Started) (H : Type) (enc : TypeId × Value → H) :
    ReturnsInHanded {} Try.checked os 3 .any (Rows.rejectTellsSpec.pre6 enc Try.prog Try.f3 Rows.rejectTellsRow.domain false) (Rows.rejectTellsSpec.post enc Try.prog Try.f3 false true false false) := by
  refine returnsInHanded_of_change_sized (C := Try.checked) own started (by kernel_rfl) Try.func3
    (ChangeSpec.witness6 (enc := enc) (C := Try.checked) false ⟨#[], #[.int .u8 0, .agg #[.int .u8 0, .int .u8 0, .string ByteArray.empty], .int .u16 0, .string ByteArray.empty, .int .i64 0, .int .u8 0], []⟩ 8 (by kernel_rfl) (by kernel_rfl) (by kernel_rfl) (by kernel_rfl)) ?_
  intro W base args ds gs before hval0 hW hcnd hsz0 _
  have hsz : (DataW.weightsEach Try.prog (Try.f3.params.toList ++ Rows.rejectTellsSpec.plain.varTypes Try.prog) (ds ++ gs)).all (· ≤ reachBytes) = true := hsz0
  have hval : ∀ (j : Nat) t v, Try.f3.params[j]? = some t → args[j]? = some v → Value.okWide Try.prog W .any base t v := hval0
  have hW' := hW
  obtain ⟨p, q, hA0, hV, rfl, hfz, hnd⟩ := hW
  have hlt := hW'.lt
  have hA : DataW.TrodAll enc Try.prog W 0 (fun _ => true) true Try.f3.params.toList args.toList ds p := hA0
  rw [Try.params3] at hA hval hsz
  obtain ⟨v0, vs0, d0, ds0, p0, q0, hargs, rfl, rfl, h0, r0⟩ := trodAll_cons hA
  obtain ⟨v1, vs1, d1, ds1, p1, q1, rfl, rfl, rfl, h1, r1⟩ := trodAll_cons r0
  obtain ⟨v2, vs2, d2, ds2, p2, q2, rfl, rfl, rfl, h2, r2⟩ := trodAll_cons r1
  obtain ⟨v3, vs3, d3, ds3, p3, q3, rfl, rfl, rfl, h3, r3⟩ := trodAll_cons r2
  obtain ⟨v4, vs4, d4, ds4, p4, q4, rfl, rfl, rfl, h4, r4⟩ := trodAll_cons r3
  obtain ⟨v5, vs5, d5, ds5, p5, q5, rfl, rfl, rfl, h5, r5⟩ := trodAll_cons r4
  obtain ⟨rfl, rfl, rfl⟩ := trodAll_nil r5
  obtain rfl : args = #[v0, v1, v2, v3, v4, v5] := by cases args; simp_all
  obtain ⟨rfl, rfl⟩ := trodVars_none hV
  obtain ⟨z0, rfl, rfl, rfl, w0⟩ := open_int Try.underlying5 (hval 0 5 v0 rfl rfl) h0
  have b0 := bounds_u8 w0
  obtain ⟨a0, rfl⟩ := u8_of (z := z0) (by omega) (by omega)
  obtain ⟨c1, i1, a1, rfl, z1⟩ := pk3_of Try.underlying23 (by kernel_rfl) (by kernel_rfl) Try.underlying5 Try.underlying5 Try.underlying9 (hval 1 23 v1 rfl rfl) h1 (fun n hn => of_decide_eq_true (List.all_eq_true.1 hsz n (DataW.weights_mem_each (j := 1) (t := 23) rfl rfl n hn)))
  obtain ⟨z2, rfl, rfl, rfl, w2⟩ := open_int Try.underlying24 (hval 2 24 v2 rfl rfl) h2
  obtain ⟨a2, rfl⟩ : ∃ n : Nat, z2 = n := ⟨z2.toNat, by have := bounds_u16 w2; omega⟩
  have b2 := bounds_u16 w2
  obtain ⟨a3, rfl, rfl, rfl, w3⟩ := open_string Try.underlying9 (hval 3 9 v3 rfl rfl) h3
  obtain ⟨a4, rfl, rfl, rfl, w4⟩ := open_int Try.underlying3 (hval 4 3 v4 rfl rfl) h4
  obtain ⟨z5, rfl, rfl, rfl, w5⟩ := open_int Try.underlying5 (hval 5 5 v5 rfl rfl) h5
  have b5 := bounds_u8 w5
  obtain ⟨a5, rfl⟩ := u8_of (z := z5) (by omega) (by omega)
  have z3 : a3.size ≤ 140737488351232 := by have h := sized_string hsz (j := 3) (t := 9) rfl rfl; rw [Array.length_toList] at h; exact h
  clear hA0 hval0 hsz0
  exact (walk a0 c1 i1 a1 a3 a2 a4 a5 (by omega) z1 z3 W).mono fun e W' ⟨he, hb⟩ => ⟨_, he, law_post (t := 4) laidOut (by kernel_rfl) rfl rfl Try.underlying4 ⟨rfl, rfl, rfl⟩ hW' hb⟩

theorem over : Rows.rejectTellsRow.holds Try.pinned (OpenSpec.ofChange Rows.rejectTellsSpec) :=
  OpenClaim.holds_of_wide 3 Try.f3 rfl rfl rfl rfl rfl rfl rfl ⟨rfl, rfl, rfl, rfl, rfl⟩ rfl rfl rfl rfl rfl (by kernel_rfl) Try.func3 (by kernel_rfl)
    (of_decide_eq_true (by kernel_rfl)) (by unfold Func.isWrapper; first | (rw [if_pos (by decide +kernel)]; kernel_rfl) | (rw [if_neg (by decide +kernel)]; exact ⟨rfl, rfl⟩))
    (fun os started H enc _ => lifted os started H enc)

theorem proved : Rows.RejectTellsSaid :=
  over
#print axioms proved
end Go.Proofs.Ytfcndljbijcbkaa.RejectTells
