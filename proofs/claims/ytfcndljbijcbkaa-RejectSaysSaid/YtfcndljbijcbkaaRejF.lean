/- The laws' own examples ('alive'); what the program and the document both answer. -/
import Derived.Test.YtfcndljbijcbkaaRejE
import Derived.Test.YtfcndljbijcbkaaPktAt
import Derived.Test.YtfcndljbijcbkaaPktEq
namespace Go.Proofs.Ytfcndljbijcbkaa.Rej
open Go.RowKit Go.Proofs.Ytfcndljbijcbkaa.Oct Go.Proofs.Ytfcndljbijcbkaa.Row Go.Proofs.Ytfcndljbijcbkaa.Mem Go.Proofs.Ytfcndljbijcbkaa.Pkt

theorem ex_code (w : World) : Calls Try.prog 7 #[.int .u8 3, .agg #[.int .u8 99, .int .u8 1, .string ⟨#[97, 98]⟩], .int .i64 1500] w fun e w' => e = .returned (.tuple #[.agg #[.int .u8 7, .int .u8 3, .string ⟨#[99, 1, 0, 6, 97, 98]⟩], .int .i64 0]) ∧ Below w.heap.size w w' := by
  have h := code_ok 3 99 1 (bOf [97, 98]) 1500 w (by decide) (by decide) (by decide)
  rw [toList_bOf, show (enc 99 1 [97, 98]).take (sp 1500) = [99, 1, 0, 6, 97, 98] by decide +kernel] at h
  exact h
theorem ex_proto (w : World) : Calls Try.prog 8 #[.int .u8 4, .int .u16 87, .string ⟨#[120]⟩, .int .i64 64] w fun e w' => e = .returned (.tuple #[.agg #[.int .u8 8, .int .u8 4, .string ⟨#[0, 87, 120]⟩], .int .i64 0]) ∧ Below w.heap.size w w' := by
  have h := proto_ok 4 87 (bOf [120]) 64 w (by decide) (by decide) (by decide) (by decide)
  rw [toList_bOf, show List.take (sp 64) (numS 87 2 ++ ([120] : List UInt8)) = ([0, 87, 120] : List UInt8) by decide +kernel] at h
  exact h
theorem ex_bad (w : World) : Calls Try.prog 7 #[.int .u8 1, .agg #[.int .u8 0, .int .u8 0, .string ⟨#[]⟩], .int .i64 63] w fun e w' => e = .returned (.tuple #[.agg #[.int .u8 0, .int .u8 0, .string ⟨#[]⟩], .int .i64 2]) ∧ Below w.heap.size w w' :=
  code_bad 1 0 0 ⟨#[]⟩ 63 w rfl
theorem ex_rej (w : World) : Calls Try.prog 9 #[.agg #[.int .u8 7, .int .u8 3, .string ⟨#[99, 1, 0, 6, 97, 98]⟩]] w fun e w' => e = .returned (.tuple #[.int .u16 0, .string ⟨#[]⟩, .int .i64 2]) ∧ Below w.heap.size w w' :=
  rejected_no 7 3 ⟨#[99, 1, 0, 6, 97, 98]⟩ w rfl

set_option maxHeartbeats 4000000 in
set_option maxRecDepth 100000 in
theorem alive_any (w : World) : Calls Try.prog 6 #[] w fun e w' => e = .returned (.bool true) ∧ Below w.heap.size w w' := by
  have HH0 := Lib.hid (Below.refl w.heap.size w)
  go_enter Try.func6, Try.ntmps6
  go_wp2_with fail
  refine (ex_code _).mono ?_
  rintro e w1 ⟨rfl, hb1⟩
  have HH1 := Lib.hid (HH0.out.trans (hb1.mono HH0.out.size))
  clear hb1
  have HX := Lib.hid (at_new w1 (7 : UInt8) (3 : UInt8) ⟨#[99, 1, 0, 6, 97, 98]⟩ : At (w1.alloc (.cells #[.int .u8 7, .int .u8 3, .string ⟨#[99, 1, 0, 6, 97, 98]⟩] 23)) w1.heap.size (7 : UInt8) (3 : UInt8) ⟨#[99, 1, 0, 6, 97, 98]⟩)
  have HH1 := Lib.hid (HH1.out.alloc HH1.out.size _ : Below w.heap.size w (w1.alloc (.cells #[.int .u8 7, .int .u8 3, .string ⟨#[99, 1, 0, 6, 97, 98]⟩] 23)))
  go_wp2_with fail
  refine (ex_proto _).mono ?_
  rintro e w2 ⟨rfl, hb2⟩
  have HX := Lib.hid (HX.out.callee hb2)
  have HH2 := Lib.hid (HH1.out.trans (hb2.mono HH1.out.size))
  clear hb2
  have HX := Lib.hid (HX.out.alloc _ : At (w2.alloc (.cells #[.int .u8 8, .int .u8 4, .string ⟨#[0, 87, 120]⟩] 23)) w1.heap.size (7 : UInt8) (3 : UInt8) ⟨#[99, 1, 0, 6, 97, 98]⟩)
  have HY := Lib.hid (at_new w2 (8 : UInt8) (4 : UInt8) ⟨#[0, 87, 120]⟩ : At (w2.alloc (.cells #[.int .u8 8, .int .u8 4, .string ⟨#[0, 87, 120]⟩] 23)) w2.heap.size (8 : UInt8) (4 : UInt8) ⟨#[0, 87, 120]⟩)
  have HH2 := Lib.hid (HH2.out.alloc HH2.out.size _ : Below w.heap.size w (w2.alloc (.cells #[.int .u8 8, .int .u8 4, .string ⟨#[0, 87, 120]⟩] 23)))
  go_wp2_with fail
  refine (ex_bad _).mono ?_
  rintro e w3 ⟨rfl, hb3⟩
  have HX := Lib.hid (HX.out.callee hb3)
  have HY := Lib.hid (HY.out.callee hb3)
  have HH3 := Lib.hid (HH2.out.trans (hb3.mono HH2.out.size))
  clear hb3
  have HX := Lib.hid (HX.out.alloc _ : At (w3.alloc (.cells #[.int .u8 0, .int .u8 0, .string ⟨#[]⟩] 23)) w1.heap.size (7 : UInt8) (3 : UInt8) ⟨#[99, 1, 0, 6, 97, 98]⟩)
  have HY := Lib.hid (HY.out.alloc _ : At (w3.alloc (.cells #[.int .u8 0, .int .u8 0, .string ⟨#[]⟩] 23)) w2.heap.size (8 : UInt8) (4 : UInt8) ⟨#[0, 87, 120]⟩)
  have HZ := Lib.hid (at_new w3 (0 : UInt8) (0 : UInt8) ⟨#[]⟩ : At (w3.alloc (.cells #[.int .u8 0, .int .u8 0, .string ⟨#[]⟩] 23)) w3.heap.size (0 : UInt8) (0 : UInt8) ⟨#[]⟩)
  have HH3 := Lib.hid (HH3.out.alloc HH3.out.size _ : Below w.heap.size w (w3.alloc (.cells #[.int .u8 0, .int .u8 0, .string ⟨#[]⟩] 23)))
  have cX0 : (w3.alloc (.cells #[.int .u8 0, .int .u8 0, .string ⟨#[]⟩] 23)).cell? ⟨w1.heap.size, 0, none⟩ = some (.int .u8 7) := HX.out.c0
  have cX1 : (w3.alloc (.cells #[.int .u8 0, .int .u8 0, .string ⟨#[]⟩] 23)).cell? ⟨w1.heap.size, 1, none⟩ = some (.int .u8 3) := HX.out.c1
  have cX2 : (w3.alloc (.cells #[.int .u8 0, .int .u8 0, .string ⟨#[]⟩] 23)).cell? ⟨w1.heap.size, 2, none⟩ = some (.string ⟨#[99, 1, 0, 6, 97, 98]⟩) := HX.out.c2
  go_wp2_with fail
  refine (ex_rej _).mono ?_
  rintro e w4 ⟨rfl, hb4⟩
  have HX := Lib.hid (HX.out.callee hb4)
  have HY := Lib.hid (HY.out.callee hb4)
  have HH4 := Lib.hid (HH3.out.trans (hb4.mono HH3.out.size))
  clear hb4
  have cX0 : w4.cell? ⟨w1.heap.size, 0, none⟩ = some (.int .u8 7) := HX.out.c0
  have cX1 : w4.cell? ⟨w1.heap.size, 1, none⟩ = some (.int .u8 3) := HX.out.c1
  have cX2 : w4.cell? ⟨w1.heap.size, 2, none⟩ = some (.string ⟨#[99, 1, 0, 6, 97, 98]⟩) := HX.out.c2
  have cY0 : w4.cell? ⟨w2.heap.size, 0, none⟩ = some (.int .u8 8) := HY.out.c0
  have cY1 : w4.cell? ⟨w2.heap.size, 1, none⟩ = some (.int .u8 4) := HY.out.c1
  have cY2 : w4.cell? ⟨w2.heap.size, 2, none⟩ = some (.string ⟨#[0, 87, 120]⟩) := HY.out.c2
  go_wp2
  go_ret
  exact ⟨rfl, HH4.out⟩

/-- What both answer. -/
theorem rejected_same (c i : UInt8) (d : ByteArray) (hs : d.size ≤ 1048576) : ∃ (n : Nat) (t : ByteArray) (e : Nat),
    (∀ w, Calls Try.prog 9 #[.agg #[.int .u8 c.toNat, .int .u8 i.toNat, .string d]] w fun x w' => x = .returned (.tuple #[.int .u16 n, .string t, .int .i64 e]) ∧ Below w.heap.size w w') ∧
    (∀ w, Calls Try.prog 10 #[.agg #[.int .u8 c.toNat, .int .u8 i.toNat, .string d]] w fun x w' => x = .returned (.tuple #[.int .u16 n, .string t, .int .i64 e]) ∧ Below w.heap.size w w') := by
  cases hc : ((c.toNat : Int) != 8)
  · by_cases hd : d.size < 2
    · exact ⟨0, ⟨#[]⟩, 6, fun w => rejected_short c i d w hc hd, fun w => rrejected_short c i d w hc hd⟩
    · exact ⟨_, _, 0, fun w => rejected_ok c i d _ _ w hc (by omega) (by unfold maxLen; omega) rfl rfl, fun w => rrejected_ok c i d _ _ w hc (by omega) (by unfold maxLen; omega) rfl rfl⟩
  · exact ⟨0, ⟨#[]⟩, 2, fun w => rejected_no c i d w hc, fun w => rrejected_no c i d w hc⟩
theorem inner_same (c i : UInt8) (d : ByteArray) (hs : d.size ≤ 1048576) : ∃ (C I : UInt8) (D : ByteArray) (e : Nat),
    (∀ w, Calls Try.prog 11 #[.agg #[.int .u8 c.toNat, .int .u8 i.toNat, .string d]] w fun x w' => x = .returned (.tuple #[.agg #[.int .u8 C.toNat, .int .u8 I.toNat, .string D], .int .i64 e]) ∧ Below w.heap.size w w') ∧
    (∀ w, Calls Try.prog 12 #[.agg #[.int .u8 c.toNat, .int .u8 i.toNat, .string d]] w fun x w' => x = .returned (.tuple #[.agg #[.int .u8 C.toNat, .int .u8 I.toNat, .string D], .int .i64 e]) ∧ Below w.heap.size w w') := by
  cases hc : ((c.toNat : Int) != 7)
  · by_cases hd : d.size < 4
    · exact ⟨0, 0, ⟨#[]⟩, 6, fun w => inner_short c i d w hc hd, fun w => rinner_short c i d w hc hd⟩
    · exact ⟨_, _, _, 0, fun w => inner_ok c i d _ _ w hc (by omega) (by unfold maxLen; omega) rfl rfl, fun w => rinner_ok c i d _ _ w hc (by omega) (by unfold maxLen; omega) rfl rfl⟩
  · exact ⟨0, 0, ⟨#[]⟩, 2, fun w => inner_no c i d w hc, fun w => rinner_no c i d w hc⟩
theorem code_same (id c i : UInt8) (d : ByteArray) (m : Nat) (hm0 : 64 ≤ m) (hm1 : m ≤ 65535) : ∃ (C I : UInt8) (D : ByteArray) (e : Nat),
    (∀ w, Calls Try.prog 7 #[.int .u8 id.toNat, .agg #[.int .u8 c.toNat, .int .u8 i.toNat, .string d], .int .i64 m] w fun x w' => x = .returned (.tuple #[.agg #[.int .u8 C.toNat, .int .u8 I.toNat, .string D], .int .i64 e]) ∧ Below w.heap.size w w') ∧
    (∀ w, Calls Try.prog 15 #[.int .u8 id.toNat, .agg #[.int .u8 c.toNat, .int .u8 i.toNat, .string d], .int .i64 m] w fun x w' => x = .returned (.tuple #[.agg #[.int .u8 C.toNat, .int .u8 I.toNat, .string D], .int .i64 e]) ∧ Below w.heap.size w w') := by
  by_cases hd : 1496 < d.size
  · exact ⟨0, 0, ⟨#[]⟩, 5, fun w => code_long id c i d m w (may_yes hm0 hm1) hd, fun w => rcode_long id c i d m w hd⟩
  · exact ⟨7, id, _, 0, fun w => code_ok id c i d m w hm0 hm1 (by omega), fun w => rcode_ok id c i d m w hm0 hm1 (by omega)⟩
theorem may_no {m : Int} (h : may m = true) : ∃ k : Nat, m = k ∧ 64 ≤ k ∧ k ≤ 65535 := by
  simp only [may, Bool.and_eq_true, decide_eq_true_eq] at h
  exact ⟨m.toNat, by omega, by omega, by omega⟩
end Go.Proofs.Ytfcndljbijcbkaa.Rej
