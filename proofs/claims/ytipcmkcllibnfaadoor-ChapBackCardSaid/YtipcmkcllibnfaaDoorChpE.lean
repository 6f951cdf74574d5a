/- Contract of layer 19's alive. -/
import Derived.Test.YtipcmkcllibnfaaDoorChpC
import Derived.Test.YtipcmkcllibnfaaDoorPktEq
import Derived.Test.YtipcmkcllibnfaaDoorPktAt
namespace Go.Proofs.YtipcmkcllibnfaaDoor.Chp
open Go.RowKit Go.Proofs.YtipcmkcllibnfaaDoor.Oct Go.Proofs.YtipcmkcllibnfaaDoor.Row Go.Proofs.YtipcmkcllibnfaaDoor.Mem Go.Proofs.YtipcmkcllibnfaaDoor.Md5 Go.Proofs.YtipcmkcllibnfaaDoor.Pkt

theorem vn_xy : vn (bOf [120, 121]) (bOf [109, 101]) = ⟨#[2, 120, 121, 109, 101]⟩ := by
  refine toList_inj ?_
  rw [vn_list (by decide), toList_bOf, toList_bOf]
  rw [show (⟨#[2, 120, 121, 109, 101]⟩ : ByteArray) = bOf [2, 120, 121, 109, 101] from rfl, toList_bOf]
  rfl
theorem ex_chal (w : World) : Calls Tryd.prog 8 #[.int .u8 1, .string ⟨#[120, 121]⟩, .string ⟨#[109, 101]⟩] w fun e w' => e = .returned (.tuple #[.agg #[.int .u8 1, .int .u8 1, .string ⟨#[2, 120, 121, 109, 101]⟩], .int .i64 0]) ∧ Below w.heap.size w w' := by
  have h := challenge_any 1 (bOf [120, 121]) (bOf [109, 101]) w (by decide) (by decide)
  rw [pkV_ok (by decide), vn_xy] at h
  exact h
theorem ex_end (w : World) : Calls Tryd.prog 14 #[.agg #[.int .u8 1, .int .u8 1, .string ⟨#[3, 120]⟩]] w fun e w' => e = .returned (.tuple #[.string (bOf []), .string (bOf []), .int .i64 6]) ∧ Below w.heap.size w w' := by
  have h := read_any 1 1 (bOf [3, 120]) w (by decide)
  rw [rdV_bad (rd_end (.inl rfl) (by rw [toList_bOf]; decide)) (by decide)] at h
  exact h
theorem ex_form (w : World) : Calls Tryd.prog 14 #[.agg #[.int .u8 1, .int .u8 1, .string ⟨#[0]⟩]] w fun e w' => e = .returned (.tuple #[.string (bOf []), .string (bOf []), .int .i64 7]) ∧ Below w.heap.size w w' := by
  have h := read_any 1 1 (bOf [0]) w (by decide)
  rw [rdV_bad (rd_form (.inl rfl) (r := []) (by rw [toList_bOf]; decide)) (by decide)] at h
  exact h
theorem vn_dg : vn (dg 1 (bOf [115]) (bOf [120, 121])) (bOf [109, 101]) = ((⟨#[16]⟩ : ByteArray) ++ dg 1 (bOf [115]) (bOf [120, 121]) ++ (⟨#[109, 101]⟩ : ByteArray)) := by
  rw [vn, dg_size]; rfl
theorem ex_resp (w : World) (hG : Globs w) : Calls Tryd.prog 10 #[.int .u8 1, .string ⟨#[115]⟩, .string ⟨#[120, 121]⟩, .string ⟨#[109, 101]⟩] w fun e w' => e = .returned (.tuple #[.agg #[.int .u8 2, .int .u8 1, .string ((⟨#[16]⟩ : ByteArray) ++ dg 1 (bOf [115]) (bOf [120, 121]) ++ (⟨#[109, 101]⟩ : ByteArray))], .int .i64 0]) ∧ Below w.heap.size w w' := by
  have h := response_any 1 (bOf [115]) (bOf [120, 121]) (bOf [109, 101]) w (by decide) (by decide) (by decide) hG
  rw [pkV_ok (by decide), vn_dg] at h
  exact h
theorem ex_rd : rdE 2 ((⟨#[16]⟩ : ByteArray) ++ dg 1 (bOf [115]) (bOf [120, 121]) ++ (⟨#[109, 101]⟩ : ByteArray)) = 0 ∧ rdA 2 ((⟨#[16]⟩ : ByteArray) ++ dg 1 (bOf [115]) (bOf [120, 121]) ++ (⟨#[109, 101]⟩ : ByteArray)) = dg 1 (bOf [115]) (bOf [120, 121]) := by
  rw [← vn_dg]
  have h := put_read (c := 2) (.inr rfl) (v := dg 1 (bOf [115]) (bOf [120, 121])) (n := bOf [109, 101]) (by rw [dg_size]; omega) (by rw [dg_size]; omega) (by decide)
  exact ⟨h.1, h.2.1⟩
theorem ex_size : (((⟨#[16]⟩ : ByteArray) ++ dg 1 (bOf [115]) (bOf [120, 121]) ++ (⟨#[109, 101]⟩ : ByteArray)) : ByteArray).size ≤ 100 := by rw [← vn_dg, vn_size, dg_size, size_bOf]; decide
theorem ex_yes (w : World) (hG : Globs w) : Calls Tryd.prog 18 #[.agg #[.int .u8 2, .int .u8 1, .string ((⟨#[16]⟩ : ByteArray) ++ dg 1 (bOf [115]) (bOf [120, 121]) ++ (⟨#[109, 101]⟩ : ByteArray))], .int .u8 1, .string ⟨#[115]⟩, .string ⟨#[120, 121]⟩] w fun e w' => e = .returned (.bool true) ∧ Below w.heap.size w w' := by
  have h := check_any 2 1 ((⟨#[16]⟩ : ByteArray) ++ dg 1 (bOf [115]) (bOf [120, 121]) ++ (⟨#[109, 101]⟩ : ByteArray)) 1 (bOf [115]) (bOf [120, 121]) w (by have := ex_size; unfold maxLen; omega) (by decide) (by decide) hG
  rw [ck_val ex_rd.1, decide_eq_true ex_rd.2] at h
  exact h
theorem ex_no (w : World) (hG : Globs w) : Calls Tryd.prog 18 #[.agg #[.int .u8 2, .int .u8 1, .string ((⟨#[16]⟩ : ByteArray) ++ dg 1 (bOf [115]) (bOf [120, 121]) ++ (⟨#[109, 101]⟩ : ByteArray))], .int .u8 2, .string ⟨#[115]⟩, .string ⟨#[120, 121]⟩] w fun e w' => e = .returned (.bool false) ∧ Below w.heap.size w w' := by
  have h := check_any 2 1 ((⟨#[16]⟩ : ByteArray) ++ dg 1 (bOf [115]) (bOf [120, 121]) ++ (⟨#[109, 101]⟩ : ByteArray)) 2 (bOf [115]) (bOf [120, 121]) w (by have := ex_size; unfold maxLen; omega) (by decide) (by decide) hG
  rw [ck_id (by decide)] at h
  exact h
theorem ex_sum {b : Nat} (W : World) (hc : W.cell? ⟨b, 0, none⟩ = some (.string ⟨#[1, 115, 120, 121]⟩)) (hG : Globs W) : Calls Tryd.prog 20 #[.slice (some ⟨b, 0, none⟩) 1 1] W fun e w' => e = .returned (.string (dg 1 (bOf [115]) (bOf [120, 121]))) ∧ Below W.heap.size W w' := by
  have h := sum_one b (bOf [1, 115, 120, 121]) W hc (by decide) hG
  rw [show bOf (md5 (bOf [1, 115, 120, 121]).toList) = dg 1 (bOf [115]) (bOf [120, 121]) by rw [dg, toList_bOf, toList_bOf, toList_bOf]; rfl] at h
  exact h
set_option maxHeartbeats 8000000 in
set_option maxRecDepth 100000 in
theorem alive_any (w : World) (hG : Globs w) : Calls Tryd.prog 7 #[] w fun e w' => e = .returned (.bool true) ∧ Below w.heap.size w w' := by
  have HG := Lib.hid hG; clear hG
  have HH0 := Lib.hid (Below.refl w.heap.size w)
  have hp0 : ∀ W, (Op.equalIn 10000 23 (.agg #[.int .u8 1, .int .u8 1, .string ⟨#[2, 120, 121, 109, 101]⟩]) (.agg #[.int .u8 1, .int .u8 1, .string ⟨#[2, 120, 121, 109, 101]⟩])).run Tryd.prog W = .ok true W := pk_eq (c := 1) (c' := 1) (i := 1) (i' := 1) (pk_same _ _ _)
  have hp1 : ∀ W, (binOp .eql 23 (.agg #[.int .u8 1, .int .u8 1, .string ⟨#[2, 120, 121, 109, 101]⟩]) (.agg #[.int .u8 1, .int .u8 1, .string ⟨#[2, 120, 121, 109, 101]⟩])).run Tryd.prog W = .ok (.bool true) W := pk_eql (c := 1) (c' := 1) (i := 1) (i' := 1) (pk_same _ _ _)
  have KR := Lib.hid (fun W (h : Globs W) => ex_resp W h)
  have KY := Lib.hid (fun W (h : Globs W) => ex_yes W h)
  have KN := Lib.hid (fun W (h : Globs W) => ex_no W h)
  have KS := Lib.hid (fun b W hc (h : Globs W) => ex_sum (b := b) W hc h)
  have hDz : (dg 1 (bOf [115]) (bOf [120, 121])).size ≤ 16 := by rw [dg_size]; omega
  have hn0 : ¬ 9223372036854775807 < 1 + (dg 1 (bOf [115]) (bOf [120, 121])).size := by omega
  have hn2 : ¬ 9223372036854775807 < 1 + (dg 1 (bOf [115]) (bOf [120, 121])).size + 2 := by omega
  generalize dg 1 (bOf [115]) (bOf [120, 121]) = D at *
  obtain ⟨X, hX⟩ : ∃ X, ((⟨#[16]⟩ : ByteArray) ++ D ++ (⟨#[109, 101]⟩ : ByteArray)) = X := ⟨_, rfl⟩
  have hq0 : ∀ W, (Op.equalIn 10000 23 (.agg #[.int .u8 2, .int .u8 1, .string X]) (.agg #[.int .u8 2, .int .u8 1, .string ((⟨#[16]⟩ : ByteArray) ++ D ++ (⟨#[109, 101]⟩ : ByteArray))])).run Tryd.prog W = .ok true W := pk_eq (c := 2) (c' := 2) (i := 1) (i' := 1) (s := X) (by rw [hX]; exact pk_same _ _ _)
  have hq1 : ∀ W, (binOp .eql 23 (.agg #[.int .u8 2, .int .u8 1, .string X]) (.agg #[.int .u8 2, .int .u8 1, .string ((⟨#[16]⟩ : ByteArray) ++ D ++ (⟨#[109, 101]⟩ : ByteArray))])).run Tryd.prog W = .ok (.bool true) W := pk_eql (c := 2) (c' := 2) (i := 1) (i' := 1) (s := X) (by rw [hX]; exact pk_same _ _ _)
  rw [hX] at KR KY KN
  clear hX
  go_enter Tryd.func7, Tryd.ntmps7
  go_wp2_with fail
  refine (ex_chal _).mono ?_
  rintro e w1 ⟨rfl, hb1⟩
  have HH1 := Lib.hid (HH0.out.trans (hb1.mono HH0.out.size))
  clear hb1
  have HP := Lib.hid (at_new w1 (1 : UInt8) (1 : UInt8) ⟨#[2, 120, 121, 109, 101]⟩ : At (w1.alloc (.cells #[.int .u8 1, .int .u8 1, .string ⟨#[2, 120, 121, 109, 101]⟩] 23)) w1.heap.size (1 : UInt8) (1 : UInt8) ⟨#[2, 120, 121, 109, 101]⟩)
  have HH1 := Lib.hid (HH1.out.alloc HH1.out.size _ : Below w.heap.size w (w1.alloc (.cells #[.int .u8 1, .int .u8 1, .string ⟨#[2, 120, 121, 109, 101]⟩] 23)))
  go_wp2_with fail
  refine (ex_end _).mono ?_
  rintro e w2 ⟨rfl, hb2⟩
  have HP := Lib.hid (HP.out.callee hb2)
  have HH2 := Lib.hid (HH1.out.trans (hb2.mono HH1.out.size))
  clear hb2
  go_wp2_with fail
  refine (ex_form _).mono ?_
  rintro e w3 ⟨rfl, hb3⟩
  have HP := Lib.hid (HP.out.callee hb3)
  have HH3 := Lib.hid (HH2.out.trans (hb3.mono HH2.out.size))
  clear hb3
  go_wp2_with fail
  refine (KR.out _ (HG.out.below HH3.out)).mono ?_
  rintro e w4 ⟨rfl, hb4⟩
  have HP := Lib.hid (HP.out.callee hb4)
  have HH4 := Lib.hid (HH3.out.trans (hb4.mono HH3.out.size))
  clear hb4
  have HP := Lib.hid (HP.out.alloc _ : At (w4.alloc (.cells #[.int .u8 2, .int .u8 1, .string X] 23)) w1.heap.size (1 : UInt8) (1 : UInt8) ⟨#[2, 120, 121, 109, 101]⟩)
  have HQ := Lib.hid (at_new w4 (2 : UInt8) (1 : UInt8) X : At (w4.alloc (.cells #[.int .u8 2, .int .u8 1, .string X] 23)) w4.heap.size (2 : UInt8) (1 : UInt8) X)
  have HH4 := Lib.hid (HH4.out.alloc HH4.out.size _ : Below w.heap.size w (w4.alloc (.cells #[.int .u8 2, .int .u8 1, .string X] 23)))
  go_wp2_with fail
  generalize w1.heap.size = gP at *
  generalize w4.heap.size = gQ at *
  obtain ⟨V, hV⟩ : ∃ V, (w4.alloc (.cells #[.int .u8 2, .int .u8 1, .string X] 23)) = V := ⟨_, rfl⟩
  have HPv : Hid (At V gP (1 : UInt8) (1 : UInt8) ⟨#[2, 120, 121, 109, 101]⟩) := by rw [← hV]; exact HP.out
  have HQv : Hid (At V gQ (2 : UInt8) (1 : UInt8) X) := by rw [← hV]; exact HQ.out
  have HHv : Hid (Below w.heap.size w V) := by rw [← hV]; exact HH4.out
  rw [hV]
  clear hV HP HQ HH4
  refine wp_region_held_drew (S := (fun w' => w'.cell? ⟨gP, 0, none⟩ = some (Value.int .u8 1) ∧ w'.cell? ⟨gP, 1, none⟩ = some (Value.int .u8 1) ∧ w'.cell? ⟨gP, 2, none⟩ = some (Value.string ⟨#[2, 120, 121, 109, 101]⟩) ∧ w'.cell? ⟨gQ, 0, none⟩ = some (Value.int .u8 2) ∧ w'.cell? ⟨gQ, 1, none⟩ = some (Value.int .u8 1) ∧ w'.cell? ⟨gQ, 2, none⟩ = some (Value.string X))) (by kernel_rfl) ⟨At.c0 (HPv.out : At V.drew _ _ _ _), At.c1 (HPv.out : At V.drew _ _ _ _), At.c2 (HPv.out : At V.drew _ _ _ _), At.c0 (HQv.out : At V.drew _ _ _ _), At.c1 (HQv.out : At V.drew _ _ _ _), At.c2 (HQv.out : At V.drew _ _ _ _)⟩ (fun hHeld => ?_)
  refine wpAnyH_take (i := 0) (v := ?vv0_1) rfl (by kernel_rfl) (by kernel_rfl) (by kernel_rfl) (fun _ _ _ h => h) (Or.inl ⟨by rfl, ?yy0_1⟩) (by assumption) ?rr0_1
  case yy0_1 => (intro w hSw; (try dsimp only at hSw); (try simp only [List.getElem_toArray, List.getElem_cons_succ, List.getElem_cons_zero, Act.put, List.setIfInBounds_toArray, List.set_cons_zero, List.set_cons_succ]); go_simp; (try (with_reducible rfl)))
  try simp only [List.getElem_toArray, List.getElem_cons_succ, List.getElem_cons_zero, Act.put, List.setIfInBounds_toArray, List.set_cons_zero, List.set_cons_succ]
  refine wpAnyH_take (i := 1) (v := ?vv1_2) rfl (by kernel_rfl) (by kernel_rfl) (by kernel_rfl) (fun _ _ _ h => h) (Or.inl ⟨by rfl, ?yy1_2⟩) (by assumption) ?rr1_2
  case yy1_2 => (intro w hSw; (try dsimp only at hSw); (try simp only [List.getElem_toArray, List.getElem_cons_succ, List.getElem_cons_zero, Act.put, List.setIfInBounds_toArray, List.set_cons_zero, List.set_cons_succ]); go_simp; (try (with_reducible rfl)))
  try simp only [List.getElem_toArray, List.getElem_cons_succ, List.getElem_cons_zero, Act.put, List.setIfInBounds_toArray, List.set_cons_zero, List.set_cons_succ]
  refine wpAnyH_take (i := 2) (v := ?vv2_3) rfl (by kernel_rfl) (by kernel_rfl) (by kernel_rfl) (fun _ _ _ h => h) (Or.inl ⟨by rfl, ?yy2_3⟩) (by assumption) ?rr2_3
  case yy2_3 => (intro w hSw; (try dsimp only at hSw); (try simp only [List.getElem_toArray, List.getElem_cons_succ, List.getElem_cons_zero, Act.put, List.setIfInBounds_toArray, List.set_cons_zero, List.set_cons_succ]); go_simp; (try (with_reducible rfl)))
  try simp only [List.getElem_toArray, List.getElem_cons_succ, List.getElem_cons_zero, Act.put, List.setIfInBounds_toArray, List.set_cons_zero, List.set_cons_succ]
  refine wpAnyH_take (i := 3) (v := ?vv3_4) rfl (by kernel_rfl) (by kernel_rfl) (by kernel_rfl) (fun _ _ _ h => h) (Or.inl ⟨by rfl, ?yy3_4⟩) (by assumption) ?rr3_4
  case yy3_4 => (intro w hSw; (try dsimp only at hSw); (try simp only [List.getElem_toArray, List.getElem_cons_succ, List.getElem_cons_zero, Act.put, List.setIfInBounds_toArray, List.set_cons_zero, List.set_cons_succ]); go_simp; (try (with_reducible rfl)))
  try simp only [List.getElem_toArray, List.getElem_cons_succ, List.getElem_cons_zero, Act.put, List.setIfInBounds_toArray, List.set_cons_zero, List.set_cons_succ]
  refine wpAnyH_take (i := 4) (v := ?vv4_5) rfl (by kernel_rfl) (by kernel_rfl) (by kernel_rfl) (fun _ _ _ h => h) (Or.inl ⟨by rfl, ?yy4_5⟩) (by assumption) ?rr4_5
  case yy4_5 => (intro w hSw; (try dsimp only at hSw); (try simp only [List.getElem_toArray, List.getElem_cons_succ, List.getElem_cons_zero, Act.put, List.setIfInBounds_toArray, List.set_cons_zero, List.set_cons_succ]); go_simp; (try (with_reducible rfl)))
  try simp only [List.getElem_toArray, List.getElem_cons_succ, List.getElem_cons_zero, Act.put, List.setIfInBounds_toArray, List.set_cons_zero, List.set_cons_succ]
  refine wpAnyH_take (i := 5) (v := ?vv5_6) rfl (by kernel_rfl) (by kernel_rfl) (by kernel_rfl) (fun _ _ _ h => h) (Or.inl ⟨by rfl, ?yy5_6⟩) (by assumption) ?rr5_6
  case yy5_6 => (intro w hSw; (try dsimp only at hSw); (try simp only [List.getElem_toArray, List.getElem_cons_succ, List.getElem_cons_zero, Act.put, List.setIfInBounds_toArray, List.set_cons_zero, List.set_cons_succ]); go_simp; (try (with_reducible rfl)))
  try simp only [List.getElem_toArray, List.getElem_cons_succ, List.getElem_cons_zero, Act.put, List.setIfInBounds_toArray, List.set_cons_zero, List.set_cons_succ]
  refine wpAnyH_take (i := 6) (v := ?vv6_7) rfl (by kernel_rfl) (by kernel_rfl) (by kernel_rfl) (fun _ _ _ h => h) (Or.inl ⟨by rfl, ?yy6_7⟩) (by assumption) ?rr6_7
  case yy6_7 => (intro w hSw; (try dsimp only at hSw); (try simp only [List.getElem_toArray, List.getElem_cons_succ, List.getElem_cons_zero, Act.put, List.setIfInBounds_toArray, List.set_cons_zero, List.set_cons_succ]); go_simp; (try (with_reducible rfl)))
  try simp only [List.getElem_toArray, List.getElem_cons_succ, List.getElem_cons_zero, Act.put, List.setIfInBounds_toArray, List.set_cons_zero, List.set_cons_succ]
  refine wpAnyH_take (i := 7) (v := ?vv7_8) rfl (by kernel_rfl) (by kernel_rfl) (by kernel_rfl) (fun _ _ _ h => h) (Or.inl ⟨by rfl, ?yy7_8⟩) (by assumption) ?rr7_8
  case yy7_8 => (intro w hSw; (try dsimp only at hSw); (try simp only [List.getElem_toArray, List.getElem_cons_succ, List.getElem_cons_zero, Act.put, List.setIfInBounds_toArray, List.set_cons_zero, List.set_cons_succ]); go_simp; (try (with_reducible rfl)))
  try simp only [List.getElem_toArray, List.getElem_cons_succ, List.getElem_cons_zero, Act.put, List.setIfInBounds_toArray, List.set_cons_zero, List.set_cons_succ]
  refine wpAnyH_take (i := 8) (v := ?vv8_9) rfl (by kernel_rfl) (by kernel_rfl) (by kernel_rfl) (fun _ _ _ h => h) (Or.inl ⟨by rfl, ?yy8_9⟩) (by assumption) ?rr8_9
  case yy8_9 => (intro w hSw; (try dsimp only at hSw); (try simp only [List.getElem_toArray, List.getElem_cons_succ, List.getElem_cons_zero, Act.put, List.setIfInBounds_toArray, List.set_cons_zero, List.set_cons_succ]); go_simp; (try (with_reducible rfl)))
  try simp only [List.getElem_toArray, List.getElem_cons_succ, List.getElem_cons_zero, Act.put, List.setIfInBounds_toArray, List.set_cons_zero, List.set_cons_succ]
  refine wpAnyH_take (i := 9) (v := ?vv9_10) rfl (by kernel_rfl) (by kernel_rfl) (by kernel_rfl) (fun _ _ _ h => h) (Or.inl ⟨by rfl, ?yy9_10⟩) (by assumption) ?rr9_10
  case yy9_10 => (intro w hSw; (try dsimp only at hSw); (try simp only [List.getElem_toArray, List.getElem_cons_succ, List.getElem_cons_zero, Act.put, List.setIfInBounds_toArray, List.set_cons_zero, List.set_cons_succ]); go_simp; (try (with_reducible rfl)))
  try simp only [List.getElem_toArray, List.getElem_cons_succ, List.getElem_cons_zero, Act.put, List.setIfInBounds_toArray, List.set_cons_zero, List.set_cons_succ]
  refine wpAnyH_take (i := 10) (v := ?vv10_11) rfl (by kernel_rfl) (by kernel_rfl) (by kernel_rfl) (fun _ _ _ h => h) (Or.inl ⟨by rfl, ?yy10_11⟩) (by assumption) ?rr10_11
  case yy10_11 => (intro w hSw; (try dsimp only at hSw); (try simp only [List.getElem_toArray, List.getElem_cons_succ, List.getElem_cons_zero, Act.put, List.setIfInBounds_toArray, List.set_cons_zero, List.set_cons_succ]); go_simp; (try (with_reducible rfl)))
  try simp only [List.getElem_toArray, List.getElem_cons_succ, List.getElem_cons_zero, Act.put, List.setIfInBounds_toArray, List.set_cons_zero, List.set_cons_succ]
  refine wpAnyH_take (i := 11) (v := ?vv11_12) rfl (by kernel_rfl) (by kernel_rfl) (by kernel_rfl) (fun _ _ _ h => h) (Or.inl ⟨by rfl, ?yy11_12⟩) (by assumption) ?rr11_12
  case yy11_12 => (intro w hSw; (try dsimp only at hSw); (try simp only [List.getElem_toArray, List.getElem_cons_succ, List.getElem_cons_zero, Act.put, List.setIfInBounds_toArray, List.set_cons_zero, List.set_cons_succ]); go_simp; (try (with_reducible rfl)))
  try simp only [List.getElem_toArray, List.getElem_cons_succ, List.getElem_cons_zero, Act.put, List.setIfInBounds_toArray, List.set_cons_zero, List.set_cons_succ]
  refine wpAnyH_take (i := 12) (v := ?vv12_13) rfl (by kernel_rfl) (by kernel_rfl) (by kernel_rfl) (fun _ _ _ h => h) (Or.inl ⟨by rfl, ?yy12_13⟩) (by assumption) ?rr12_13
  case yy12_13 => (intro w hSw; (try dsimp only at hSw); (try simp only [List.getElem_toArray, List.getElem_cons_succ, List.getElem_cons_zero, Act.put, List.setIfInBounds_toArray, List.set_cons_zero, List.set_cons_succ]); go_simp; (try (with_reducible rfl)))
  try simp only [List.getElem_toArray, List.getElem_cons_succ, List.getElem_cons_zero, Act.put, List.setIfInBounds_toArray, List.set_cons_zero, List.set_cons_succ]
  refine wpAnyH_take (i := 13) (v := ?vv13_14) rfl (by kernel_rfl) (by kernel_rfl) (by kernel_rfl) (fun _ _ _ h => h) (Or.inl ⟨by rfl, ?yy13_14⟩) (by assumption) ?rr13_14
  case yy13_14 => (intro w hSw; (try dsimp only at hSw); (try simp only [List.getElem_toArray, List.getElem_cons_succ, List.getElem_cons_zero, Act.put, List.setIfInBounds_toArray, List.set_cons_zero, List.set_cons_succ]); go_simp; (try (with_reducible rfl)))
  try simp only [List.getElem_toArray, List.getElem_cons_succ, List.getElem_cons_zero, Act.put, List.setIfInBounds_toArray, List.set_cons_zero, List.set_cons_succ]
  refine wpAnyH_take (i := 14) (v := ?vv14_15) rfl (by kernel_rfl) (by kernel_rfl) (by kernel_rfl) (fun _ _ _ h => h) (Or.inl ⟨by rfl, ?yy14_15⟩) (by assumption) ?rr14_15
  case yy14_15 => (intro w hSw; (try dsimp only at hSw); (try simp only [List.getElem_toArray, List.getElem_cons_succ, List.getElem_cons_zero, Act.put, List.setIfInBounds_toArray, List.set_cons_zero, List.set_cons_succ]); go_simp; (try (with_reducible rfl)))
  try simp only [List.getElem_toArray, List.getElem_cons_succ, List.getElem_cons_zero, Act.put, List.setIfInBounds_toArray, List.set_cons_zero, List.set_cons_succ]
  refine wpAnyH_take (i := 15) (v := ?vv15_16) rfl (by kernel_rfl) (by kernel_rfl) (by kernel_rfl) (fun _ _ _ h => h) (Or.inl ⟨by rfl, ?yy15_16⟩) (by assumption) ?rr15_16
  case yy15_16 => (intro w hSw; (try dsimp only at hSw); (try simp only [List.getElem_toArray, List.getElem_cons_succ, List.getElem_cons_zero, Act.put, List.setIfInBounds_toArray, List.set_cons_zero, List.set_cons_succ]); go_simp; (try (with_reducible rfl)))
  try simp only [List.getElem_toArray, List.getElem_cons_succ, List.getElem_cons_zero, Act.put, List.setIfInBounds_toArray, List.set_cons_zero, List.set_cons_succ]
  refine wpAnyH_take (i := 16) (v := ?vv16_17) rfl (by kernel_rfl) (by kernel_rfl) (by kernel_rfl) (fun _ _ _ h => h) (Or.inl ⟨by rfl, ?yy16_17⟩) (by assumption) ?rr16_17
  case yy16_17 => (intro w hSw; (try dsimp only at hSw); (try simp only [List.getElem_toArray, List.getElem_cons_succ, List.getElem_cons_zero, Act.put, List.setIfInBounds_toArray, List.set_cons_zero, List.set_cons_succ]); go_simp; (try (with_reducible rfl)))
  try simp only [List.getElem_toArray, List.getElem_cons_succ, List.getElem_cons_zero, Act.put, List.setIfInBounds_toArray, List.set_cons_zero, List.set_cons_succ]
  have HP1 : Hid (At (V.drew.alloc (.cells #[.string ⟨#[1, 115, 120, 121]⟩] 9)) gP (1 : UInt8) (1 : UInt8) ⟨#[2, 120, 121, 109, 101]⟩) := At.alloc (W := V.drew) HPv.out _
  have HQ1 : Hid (At (V.drew.alloc (.cells #[.string ⟨#[1, 115, 120, 121]⟩] 9)) gQ (2 : UInt8) (1 : UInt8) X) := At.alloc (W := V.drew) HQv.out _
  have HH5 : Hid (Below w.heap.size w (V.drew.alloc (.cells #[.string ⟨#[1, 115, 120, 121]⟩] 9))) := HHv.out.drew.alloc HHv.out.size _
  have HC1 : Hid ((V.drew.alloc (.cells #[.string ⟨#[1, 115, 120, 121]⟩] 9)).cell? ⟨V.heap.size, 0, none⟩ = some (.string ⟨#[1, 115, 120, 121]⟩)) := World.cell?_alloc_new V.drew _ _ 0
  refine wpAnyH_ready (rs := [17]) (by kernel_rfl) (by simp) ?_
  refine AllReadyH.cons (o := _) rfl (fun K hK => ?_) AllReadyH.nil
  try simp only [List.getElem_toArray, List.getElem_cons_succ, List.getElem_cons_zero, Act.put, List.setIfInBounds_toArray, List.set_cons_zero, List.set_cons_succ]
  go_simp
  refine hK.out _ _ ⟨At.c0 HP1.out, At.c1 HP1.out, At.c2 HP1.out, At.c0 HQ1.out, At.c1 HQ1.out, At.c2 HQ1.out⟩ (fun hHeld => ?_)
  clear hK K
  try simp only [List.getElem_toArray, List.getElem_cons_succ, List.getElem_cons_zero, Act.put, List.setIfInBounds_toArray, List.set_cons_zero, List.set_cons_succ]
  refine wpAnyH_ready (rs := [18]) (by kernel_rfl) (by simp) ?_
  refine AllReadyH.cons (o := _) rfl (fun K hK => ?_) AllReadyH.nil
  try simp only [List.getElem_toArray, List.getElem_cons_succ, List.getElem_cons_zero, Act.put, List.setIfInBounds_toArray, List.set_cons_zero, List.set_cons_succ]
  go_simp
  refine (KS.out _ _ HC1.out (HG.out.below HH5.out)).mono ?_
  rintro e x2 ⟨rfl, hb⟩
  have HP2 := Lib.hid (HP1.out.callee hb)
  have HQ2 := Lib.hid (HQ1.out.callee hb)
  have HH6 := Lib.hid (HH5.out.trans (hb.mono HH5.out.size))
  clear hb
  refine hK.out _ _ ⟨At.c0 HP2.out, At.c1 HP2.out, At.c2 HP2.out, At.c0 HQ2.out, At.c1 HQ2.out, At.c2 HQ2.out⟩ (fun hHeld => ?_)
  clear hK K
  try simp only [List.getElem_toArray, List.getElem_cons_succ, List.getElem_cons_zero, Act.put, List.setIfInBounds_toArray, List.set_cons_zero, List.set_cons_succ]
  refine wpAnyH_take (i := 19) (v := ?vv19_18) rfl (by kernel_rfl) (by kernel_rfl) (by kernel_rfl) (fun _ _ _ h => h) (Or.inl ⟨by rfl, ?yy19_18⟩) (by assumption) ?rr19_18
  case yy19_18 => (intro w hSw; (try dsimp only at hSw); (try simp only [List.getElem_toArray, List.getElem_cons_succ, List.getElem_cons_zero, Act.put, List.setIfInBounds_toArray, List.set_cons_zero, List.set_cons_succ]); go_simp; (try (with_reducible rfl)))
  try simp only [List.getElem_toArray, List.getElem_cons_succ, List.getElem_cons_zero, Act.put, List.setIfInBounds_toArray, List.set_cons_zero, List.set_cons_succ]
  refine wpAnyH_take (i := 20) (v := ?vv20_19) rfl (by kernel_rfl) (by kernel_rfl) (by kernel_rfl) (fun _ _ _ h => h) (Or.inl ⟨by rfl, ?yy20_19⟩) (by assumption) ?rr20_19
  case yy20_19 => (intro w hSw; (try dsimp only at hSw); (try simp only [List.getElem_toArray, List.getElem_cons_succ, List.getElem_cons_zero, Act.put, List.setIfInBounds_toArray, List.set_cons_zero, List.set_cons_succ]); go_simp; (try (with_reducible rfl)))
  try simp only [List.getElem_toArray, List.getElem_cons_succ, List.getElem_cons_zero, Act.put, List.setIfInBounds_toArray, List.set_cons_zero, List.set_cons_succ]
  refine wpAnyH_take (i := 21) (v := ?vv21_20) rfl (by kernel_rfl) (by kernel_rfl) (by kernel_rfl) (fun _ _ _ h => h) (Or.inl ⟨by rfl, ?yy21_20⟩) (by assumption) ?rr21_20
  case yy21_20 => (intro w hSw; (try dsimp only at hSw); (try simp only [List.getElem_toArray, List.getElem_cons_succ, List.getElem_cons_zero, Act.put, List.setIfInBounds_toArray, List.set_cons_zero, List.set_cons_succ]); go_simp; (try (with_reducible rfl)))
  try simp only [List.getElem_toArray, List.getElem_cons_succ, List.getElem_cons_zero, Act.put, List.setIfInBounds_toArray, List.set_cons_zero, List.set_cons_succ]
  refine wpAnyH_take (i := 22) (v := ?vv22_21) rfl (by kernel_rfl) (by kernel_rfl) (by kernel_rfl) (fun _ _ _ h => h) (Or.inl ⟨by rfl, ?yy22_21⟩) (by assumption) ?rr22_21
  case yy22_21 => (intro w hSw; (try dsimp only at hSw); (try simp only [List.getElem_toArray, List.getElem_cons_succ, List.getElem_cons_zero, Act.put, List.setIfInBounds_toArray, List.set_cons_zero, List.set_cons_succ]); go_simp; (try (with_reducible rfl)))
  try simp only [List.getElem_toArray, List.getElem_cons_succ, List.getElem_cons_zero, Act.put, List.setIfInBounds_toArray, List.set_cons_zero, List.set_cons_succ]
  refine wpAnyH_take (i := 23) (v := ?vv23_22) rfl (by kernel_rfl) (by kernel_rfl) (by kernel_rfl) (fun _ _ _ h => h) (Or.inl ⟨by rfl, ?yy23_22⟩) (by assumption) ?rr23_22
  case yy23_22 => (intro w hSw; (try dsimp only at hSw); (try simp only [List.getElem_toArray, List.getElem_cons_succ, List.getElem_cons_zero, Act.put, List.setIfInBounds_toArray, List.set_cons_zero, List.set_cons_succ]); go_simp; (try (with_reducible rfl)))
  try simp only [List.getElem_toArray, List.getElem_cons_succ, List.getElem_cons_zero, Act.put, List.setIfInBounds_toArray, List.set_cons_zero, List.set_cons_succ]
  refine wpAnyH_take (i := 24) (v := ?vv24_23) rfl (by kernel_rfl) (by kernel_rfl) (by kernel_rfl) (fun _ _ _ h => h) (Or.inl ⟨by rfl, ?yy24_23⟩) (by assumption) ?rr24_23
  case yy24_23 => (intro w hSw; (try dsimp only at hSw); (try simp only [List.getElem_toArray, List.getElem_cons_succ, List.getElem_cons_zero, Act.put, List.setIfInBounds_toArray, List.set_cons_zero, List.set_cons_succ]); go_simp; (try (with_reducible rfl)))
  try simp only [List.getElem_toArray, List.getElem_cons_succ, List.getElem_cons_zero, Act.put, List.setIfInBounds_toArray, List.set_cons_zero, List.set_cons_succ]
  refine wpAnyH_take (i := 25) (v := ?vv25_24) rfl (by kernel_rfl) (by kernel_rfl) (by kernel_rfl) (fun _ _ _ h => h) (Or.inl ⟨by rfl, ?yy25_24⟩) (by assumption) ?rr25_24
  case yy25_24 => (intro w hSw; (try dsimp only at hSw); (try simp only [List.getElem_toArray, List.getElem_cons_succ, List.getElem_cons_zero, Act.put, List.setIfInBounds_toArray, List.set_cons_zero, List.set_cons_succ]); go_simp; (try (with_reducible rfl)))
  try simp only [List.getElem_toArray, List.getElem_cons_succ, List.getElem_cons_zero, Act.put, List.setIfInBounds_toArray, List.set_cons_zero, List.set_cons_succ]
  refine wpAnyH_take (i := 26) (v := ?vv26_25) rfl (by kernel_rfl) (by kernel_rfl) (by kernel_rfl) (fun _ _ _ h => h) (Or.inl ⟨by rfl, ?yy26_25⟩) (by assumption) ?rr26_25
  case yy26_25 => (intro w hSw; (try dsimp only at hSw); (try simp only [List.getElem_toArray, List.getElem_cons_succ, List.getElem_cons_zero, Act.put, List.setIfInBounds_toArray, List.set_cons_zero, List.set_cons_succ]); go_simp; (try (with_reducible rfl)))
  try simp only [List.getElem_toArray, List.getElem_cons_succ, List.getElem_cons_zero, Act.put, List.setIfInBounds_toArray, List.set_cons_zero, List.set_cons_succ]
  refine wpAnyH_take (i := 27) (v := ?vv27_26) rfl (by kernel_rfl) (by kernel_rfl) (by kernel_rfl) (fun _ _ _ h => h) (Or.inl ⟨by rfl, ?yy27_26⟩) (by assumption) ?rr27_26
  case yy27_26 => (intro w hSw; (try dsimp only at hSw); (try simp only [List.getElem_toArray, List.getElem_cons_succ, List.getElem_cons_zero, Act.put, List.setIfInBounds_toArray, List.set_cons_zero, List.set_cons_succ]); go_simp; (try (with_reducible rfl)))
  try simp only [List.getElem_toArray, List.getElem_cons_succ, List.getElem_cons_zero, Act.put, List.setIfInBounds_toArray, List.set_cons_zero, List.set_cons_succ]
  refine wpAnyH_take (i := 28) (v := ?vv28_27) rfl (by kernel_rfl) (by kernel_rfl) (by kernel_rfl) (fun _ _ _ h => h) (Or.inl ⟨by rfl, ?yy28_27⟩) (by assumption) ?rr28_27
  case yy28_27 => (intro w hSw; (try dsimp only at hSw); (try simp only [List.getElem_toArray, List.getElem_cons_succ, List.getElem_cons_zero, Act.put, List.setIfInBounds_toArray, List.set_cons_zero, List.set_cons_succ]); go_simp; (try (with_reducible rfl)))
  try simp only [List.getElem_toArray, List.getElem_cons_succ, List.getElem_cons_zero, Act.put, List.setIfInBounds_toArray, List.set_cons_zero, List.set_cons_succ]
  refine wpAnyH_take (i := 29) (v := ?vv29_28) rfl (by kernel_rfl) (by kernel_rfl) (by kernel_rfl) (fun _ _ _ h => h) (Or.inl ⟨by rfl, ?yy29_28⟩) (by assumption) ?rr29_28
  case yy29_28 => (intro w hSw; (try dsimp only at hSw); (try simp only [List.getElem_toArray, List.getElem_cons_succ, List.getElem_cons_zero, Act.put, List.setIfInBounds_toArray, List.set_cons_zero, List.set_cons_succ]); go_simp; (try (with_reducible rfl)))
  try simp only [List.getElem_toArray, List.getElem_cons_succ, List.getElem_cons_zero, Act.put, List.setIfInBounds_toArray, List.set_cons_zero, List.set_cons_succ]
  refine wpAnyH_ready (rs := [30]) (by kernel_rfl) (by simp) ?_
  refine AllReadyH.cons (o := _) rfl (fun K hK => ?_) AllReadyH.nil
  try simp only [List.getElem_toArray, List.getElem_cons_succ, List.getElem_cons_zero, Act.put, List.setIfInBounds_toArray, List.set_cons_zero, List.set_cons_succ]
  go_simp
  refine (KY.out _ (HG.out.below HH6.out)).mono ?_
  rintro e x3 ⟨rfl, hb⟩
  have HP3 := Lib.hid (HP2.out.callee hb)
  have HQ3 := Lib.hid (HQ2.out.callee hb)
  have HH7 := Lib.hid (HH6.out.trans (hb.mono HH6.out.size))
  clear hb
  refine hK.out _ _ ⟨At.c0 HP3.out, At.c1 HP3.out, At.c2 HP3.out, At.c0 HQ3.out, At.c1 HQ3.out, At.c2 HQ3.out⟩ (fun hHeld => ?_)
  clear hK K
  try simp only [List.getElem_toArray, List.getElem_cons_succ, List.getElem_cons_zero, Act.put, List.setIfInBounds_toArray, List.set_cons_zero, List.set_cons_succ]
  refine wpAnyH_take (i := 31) (v := ?vv31_29) rfl (by kernel_rfl) (by kernel_rfl) (by kernel_rfl) (fun _ _ _ h => h) (Or.inl ⟨by rfl, ?yy31_29⟩) (by assumption) ?rr31_29
  case yy31_29 => (intro w hSw; (try dsimp only at hSw); (try simp only [List.getElem_toArray, List.getElem_cons_succ, List.getElem_cons_zero, Act.put, List.setIfInBounds_toArray, List.set_cons_zero, List.set_cons_succ]); go_simp; (try (with_reducible rfl)))
  try simp only [List.getElem_toArray, List.getElem_cons_succ, List.getElem_cons_zero, Act.put, List.setIfInBounds_toArray, List.set_cons_zero, List.set_cons_succ]
  refine wpAnyH_take (i := 32) (v := ?vv32_30) rfl (by kernel_rfl) (by kernel_rfl) (by kernel_rfl) (fun _ _ _ h => h) (Or.inl ⟨by rfl, ?yy32_30⟩) (by assumption) ?rr32_30
  case yy32_30 => (intro w hSw; (try dsimp only at hSw); (try simp only [List.getElem_toArray, List.getElem_cons_succ, List.getElem_cons_zero, Act.put, List.setIfInBounds_toArray, List.set_cons_zero, List.set_cons_succ]); go_simp; (try (with_reducible rfl)))
  try simp only [List.getElem_toArray, List.getElem_cons_succ, List.getElem_cons_zero, Act.put, List.setIfInBounds_toArray, List.set_cons_zero, List.set_cons_succ]
  refine wpAnyH_take (i := 33) (v := ?vv33_31) rfl (by kernel_rfl) (by kernel_rfl) (by kernel_rfl) (fun _ _ _ h => h) (Or.inl ⟨by rfl, ?yy33_31⟩) (by assumption) ?rr33_31
  case yy33_31 => (intro w hSw; (try dsimp only at hSw); (try simp only [List.getElem_toArray, List.getElem_cons_succ, List.getElem_cons_zero, Act.put, List.setIfInBounds_toArray, List.set_cons_zero, List.set_cons_succ]); go_simp; (try (with_reducible rfl)))
  try simp only [List.getElem_toArray, List.getElem_cons_succ, List.getElem_cons_zero, Act.put, List.setIfInBounds_toArray, List.set_cons_zero, List.set_cons_succ]
  refine wpAnyH_ready (rs := [34]) (by kernel_rfl) (by simp) ?_
  refine AllReadyH.cons (o := _) rfl (fun K hK => ?_) AllReadyH.nil
  try simp only [List.getElem_toArray, List.getElem_cons_succ, List.getElem_cons_zero, Act.put, List.setIfInBounds_toArray, List.set_cons_zero, List.set_cons_succ]
  go_simp
  refine (KN.out _ (HG.out.below HH7.out)).mono ?_
  rintro e x4 ⟨rfl, hb⟩
  have HP4 := Lib.hid (HP3.out.callee hb)
  have HQ4 := Lib.hid (HQ3.out.callee hb)
  have HH8 := Lib.hid (HH7.out.trans (hb.mono HH7.out.size))
  clear hb
  refine hK.out _ _ ⟨At.c0 HP4.out, At.c1 HP4.out, At.c2 HP4.out, At.c0 HQ4.out, At.c1 HQ4.out, At.c2 HQ4.out⟩ (fun hHeld => ?_)
  clear hK K
  try simp only [List.getElem_toArray, List.getElem_cons_succ, List.getElem_cons_zero, Act.put, List.setIfInBounds_toArray, List.set_cons_zero, List.set_cons_succ]
  refine wpAnyH_take (i := 35) (v := ?vv35_32) rfl (by kernel_rfl) (by kernel_rfl) (by kernel_rfl) (fun _ _ _ h => h) (Or.inl ⟨by rfl, ?yy35_32⟩) (by assumption) ?rr35_32
  case yy35_32 => (intro w hSw; (try dsimp only at hSw); (try simp only [List.getElem_toArray, List.getElem_cons_succ, List.getElem_cons_zero, Act.put, List.setIfInBounds_toArray, List.set_cons_zero, List.set_cons_succ]); go_simp; (try (with_reducible rfl)))
  try simp only [List.getElem_toArray, List.getElem_cons_succ, List.getElem_cons_zero, Act.put, List.setIfInBounds_toArray, List.set_cons_zero, List.set_cons_succ]
  refine wpAnyH_take (i := 36) (v := ?vv36_33) rfl (by kernel_rfl) (by kernel_rfl) (by kernel_rfl) (fun _ _ _ h => h) (Or.inl ⟨by rfl, ?yy36_33⟩) (by assumption) ?rr36_33
  case yy36_33 => (intro w hSw; (try dsimp only at hSw); (try simp only [List.getElem_toArray, List.getElem_cons_succ, List.getElem_cons_zero, Act.put, List.setIfInBounds_toArray, List.set_cons_zero, List.set_cons_succ]); go_simp; (try (with_reducible rfl)))
  try simp only [List.getElem_toArray, List.getElem_cons_succ, List.getElem_cons_zero, Act.put, List.setIfInBounds_toArray, List.set_cons_zero, List.set_cons_succ]
  refine wpAnyH_take (i := 37) (v := ?vv37_34) rfl (by kernel_rfl) (by kernel_rfl) (by kernel_rfl) (fun _ _ _ h => h) (Or.inl ⟨by rfl, ?yy37_34⟩) (by assumption) ?rr37_34
  case yy37_34 => (intro w hSw; (try dsimp only at hSw); (try simp only [List.getElem_toArray, List.getElem_cons_succ, List.getElem_cons_zero, Act.put, List.setIfInBounds_toArray, List.set_cons_zero, List.set_cons_succ]); go_simp; (try (with_reducible rfl)))
  try simp only [List.getElem_toArray, List.getElem_cons_succ, List.getElem_cons_zero, Act.put, List.setIfInBounds_toArray, List.set_cons_zero, List.set_cons_succ]
  refine wpAnyH_done (by kernel_rfl) ?_ _
  go_wp2_with fail
  go_ret
  exact ⟨rfl, HH8.out⟩
end Go.Proofs.YtipcmkcllibnfaaDoor.Chp
