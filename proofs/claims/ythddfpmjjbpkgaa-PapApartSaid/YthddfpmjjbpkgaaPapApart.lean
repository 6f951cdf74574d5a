/- PROVED: 'halyardlaw18.PapApart' returns true for every two names, every two secrets and wherever the packet is cut, and leaves them as they were. No condition. -/
import Derived.Test.YthddfpmjjbpkgaaPapF
import Derived.Test.YthddfpmjjbpkgaaPapG
import Derived.Test.YthddfpmjjbpkgaaPk3
import Derived.Test.YthddfpmjjbpkgaaLaw
import Derived.Test.YthddfpmjjbpkgaaRows
import Derived.SizedLaws
import Derived.StillTailTactics
namespace Go.Proofs.Ythddfpmjjbpkgaa.PapApart
open Go.ChangeShapes Go.WideShapes Go.ChangeAt Go.RowKit Go.Proofs.Ythddfpmjjbpkgaa.Oct Go.Proofs.Ythddfpmjjbpkgaa.Row Go.Proofs.Ythddfpmjjbpkgaa.Pkt Go.Proofs.Ythddfpmjjbpkgaa.Pap Go.Proofs.Ythddfpmjjbpkgaa.Mem Go.Proofs.Ythddfpmjjbpkgaa.Law
open Go.ChangeMaps (open_string shut_string)

theorem cut_at {n s : ByteArray} (h : joinE [n, s] = 0) (k : Nat) : ∃ j : Nat, (k : Int) % ((joinS [n, s]).size : Int) = (j : Int) ∧ (0 : Int) < ((joinS [n, s]).size : Int) ∧ (j : Int) ≤ ((joinS [n, s]).size : Int) ∧ j < (joinS [n, s]).size := by
  have hp := (join_pos h).1
  have hj := Nat.mod_lt k hp
  exact ⟨k % (joinS [n, s]).size, rfl, by omega, by omega, hj⟩
theorem Blk.other' {w : World} {g g' i : Nat} {cs : List Value} {t : TypeId} (h : Blk w g cs t) (hne : g ≠ g') (v : Value) : Blk (w.setCell ⟨g', i, none⟩ v) g cs t := Pap.Blk.other h hne v
theorem at_set {W : World} {g : Nat} {c i : UInt8} {s : ByteArray} (h : At W g c i s) (u : ByteArray) : At (W.setCell ⟨g, 2, none⟩ (.string u)) g c i u := Blk.set h 2 (.string u)
theorem at_other {W : World} {g g' : Nat} {c i : UInt8} {s : ByteArray} (h : At W g c i s) (hne : g ≠ g') (v : Value) : At (W.setCell ⟨g', 2, none⟩ v) g c i s := Pap.Blk.other h hne v
theorem At.lt {W : World} {g : Nat} {c i : UInt8} {s : ByteArray} (h : At W g c i s) : g < W.heap.size := Blk.lt h
theorem At.f {W : World} {g : Nat} {c i : UInt8} {s : ByteArray} (h : At W g c i s) (j : Nat) : W.frozen? ⟨g, j, none⟩ = false := Blk.frozen h j
set_option maxHeartbeats 8000000 in
set_option maxRecDepth 100000 in
theorem w_bad1 (n m s t : ByteArray) (k : Nat) (w : World) (hn : n.size ≤ 4096) (hm : m.size ≤ 4096) (hs : s.size ≤ 4096) (ht : t.size ≤ 4096) (hall : (n.size : Int) + (m.size : Int) + (s.size : Int) + (t.size : Int) ≤ 4096) (hk : k < 65536) (h1 : joinE [n, s] ≠ 0) :
    Calls Try.prog 5 #[.string n, .string m, .string s, .string t, .int .u16 k] w fun e w' => e = .returned (.bool true) ∧ Below w.heap.size w w' := by
  have HH0 := Lib.hid (Below.refl w.heap.size w)
  have KQ := Lib.hid (fun w => request_any 1 n s w (by unfold maxLen; omega) (by unfold maxLen; omega))
  have KR := Lib.hid (fun w => request_any 1 m t w (by unfold maxLen; omega) (by unfold maxLen; omega))
  have g3 : ¬ 4096 < (n.size : Int) + (m.size : Int) + (s.size : Int) + (t.size : Int) := by omega
  have g5 : (0 : Int) ≤ k := by omega
  have g6 : (k : Int) ≤ 65535 := by omega
  rw [pkV_no h1] at KQ
  unfold pkV at KR
  generalize pkB [m, t] 1 = C2 at *
  generalize joinS [m, t] = D2 at *
  generalize joinE [m, t] = E2 at *
  clear h1
  go_enter Try.func5, Try.ntmps5
  go_wp2_with fail
  refine (KQ.out _).mono ?_
  rintro e w1 ⟨rfl, hb1⟩
  have HH1 := Lib.hid (HH0.out.trans (hb1.mono HH0.out.size))
  clear hb1
  have HA := Lib.hid (at_new w1 (0 : UInt8) (0 : UInt8) (bOf []) : At (w1.alloc (.cells #[.int .u8 0, .int .u8 0, .string (bOf [])] 23)) w1.heap.size (0 : UInt8) (0 : UInt8) (bOf []))
  have HH1 := Lib.hid (HH1.out.alloc HH1.out.size _ : Below w.heap.size w (w1.alloc (.cells #[.int .u8 0, .int .u8 0, .string (bOf [])] 23)))
  go_wp2_with fail
  refine (KR.out _).mono ?_
  rintro e w2 ⟨rfl, hb2⟩
  have HA := Lib.hid (HA.out.callee hb2)
  have HH2 := Lib.hid (HH1.out.trans (hb2.mono HH1.out.size))
  clear hb2
  have HA := Lib.hid (HA.out.alloc _ : At (w2.alloc (.cells #[.int .u8 C2.toNat, .int .u8 C2.toNat, .string D2] 23)) w1.heap.size (0 : UInt8) (0 : UInt8) (bOf []))
  have HB := Lib.hid (at_new w2 C2 C2 D2 : At (w2.alloc (.cells #[.int .u8 C2.toNat, .int .u8 C2.toNat, .string D2] 23)) w2.heap.size C2 C2 D2)
  have HH2 := Lib.hid (HH2.out.alloc HH2.out.size _ : Below w.heap.size w (w2.alloc (.cells #[.int .u8 C2.toNat, .int .u8 C2.toNat, .string D2] 23)))
  go_wp2_with fail
  refine (alive_any _).mono ?_
  rintro e w3 ⟨rfl, hb3⟩
  have HA := Lib.hid (HA.out.callee hb3)
  have HB := Lib.hid (HB.out.callee hb3)
  have HH3 := Lib.hid (HH2.out.trans (hb3.mono HH2.out.size))
  clear hb3
  go_wp2
  go_ret
  exact ⟨rfl, HH3.out⟩

set_option maxHeartbeats 8000000 in
set_option maxRecDepth 100000 in
theorem w_bad2 (n m s t : ByteArray) (k : Nat) (w : World) (hn : n.size ≤ 4096) (hm : m.size ≤ 4096) (hs : s.size ≤ 4096) (ht : t.size ≤ 4096) (hall : (n.size : Int) + (m.size : Int) + (s.size : Int) + (t.size : Int) ≤ 4096) (hk : k < 65536) (h1 : joinE [n, s] = 0) (h2 : joinE [m, t] ≠ 0) :
    Calls Try.prog 5 #[.string n, .string m, .string s, .string t, .int .u16 k] w fun e w' => e = .returned (.bool true) ∧ Below w.heap.size w w' := by
  have HH0 := Lib.hid (Below.refl w.heap.size w)
  have KQ := Lib.hid (fun w => request_any 1 n s w (by unfold maxLen; omega) (by unfold maxLen; omega))
  have KR := Lib.hid (fun w => request_any 1 m t w (by unfold maxLen; omega) (by unfold maxLen; omega))
  have g3 : ¬ 4096 < (n.size : Int) + (m.size : Int) + (s.size : Int) + (t.size : Int) := by omega
  have g5 : (0 : Int) ≤ k := by omega
  have g6 : (k : Int) ≤ 65535 := by omega
  rw [pkV_ok h1] at KQ
  rw [pkV_no h2] at KR
  generalize joinS [n, s] = D1 at *
  clear h1 h2
  go_enter Try.func5, Try.ntmps5
  go_wp2_with fail
  refine (KQ.out _).mono ?_
  rintro e w1 ⟨rfl, hb1⟩
  have HH1 := Lib.hid (HH0.out.trans (hb1.mono HH0.out.size))
  clear hb1
  have HA := Lib.hid (at_new w1 (1 : UInt8) (1 : UInt8) D1 : At (w1.alloc (.cells #[.int .u8 1, .int .u8 1, .string D1] 23)) w1.heap.size (1 : UInt8) (1 : UInt8) D1)
  have HH1 := Lib.hid (HH1.out.alloc HH1.out.size _ : Below w.heap.size w (w1.alloc (.cells #[.int .u8 1, .int .u8 1, .string D1] 23)))
  go_wp2_with fail
  refine (KR.out _).mono ?_
  rintro e w2 ⟨rfl, hb2⟩
  have HA := Lib.hid (HA.out.callee hb2)
  have HH2 := Lib.hid (HH1.out.trans (hb2.mono HH1.out.size))
  clear hb2
  have HA := Lib.hid (HA.out.alloc _ : At (w2.alloc (.cells #[.int .u8 0, .int .u8 0, .string (bOf [])] 23)) w1.heap.size (1 : UInt8) (1 : UInt8) D1)
  have HB := Lib.hid (at_new w2 (0 : UInt8) (0 : UInt8) (bOf []) : At (w2.alloc (.cells #[.int .u8 0, .int .u8 0, .string (bOf [])] 23)) w2.heap.size (0 : UInt8) (0 : UInt8) (bOf []))
  have HH2 := Lib.hid (HH2.out.alloc HH2.out.size _ : Below w.heap.size w (w2.alloc (.cells #[.int .u8 0, .int .u8 0, .string (bOf [])] 23)))
  go_wp2_with fail
  refine (alive_any _).mono ?_
  rintro e w3 ⟨rfl, hb3⟩
  have HA := Lib.hid (HA.out.callee hb3)
  have HB := Lib.hid (HB.out.callee hb3)
  have HH3 := Lib.hid (HH2.out.trans (hb3.mono HH2.out.size))
  clear hb3
  go_wp2
  go_ret
  exact ⟨rfl, HH3.out⟩

set_option maxHeartbeats 8000000 in
set_option maxRecDepth 100000 in
theorem w_both (n m s t : ByteArray) (k : Nat) (w : World) (hn : n.size ≤ 4096) (hm : m.size ≤ 4096) (hs : s.size ≤ 4096) (ht : t.size ≤ 4096) (hall : (n.size : Int) + (m.size : Int) + (s.size : Int) + (t.size : Int) ≤ 4096) (hk : k < 65536) (h1 : joinE [n, s] = 0) (h2 : joinE [m, t] = 0) (e1 : n = m) (e2 : s = t) :
    Calls Try.prog 5 #[.string n, .string m, .string s, .string t, .int .u16 k] w fun e w' => e = .returned (.bool true) ∧ Below w.heap.size w w' := by
  have HH0 := Lib.hid (Below.refl w.heap.size w)
  have KQ := Lib.hid (fun w => request_any 1 n s w (by unfold maxLen; omega) (by unfold maxLen; omega))
  have KR := Lib.hid (fun w => request_any 1 m t w (by unfold maxLen; omega) (by unfold maxLen; omega))
  have g3 : ¬ 4096 < (n.size : Int) + (m.size : Int) + (s.size : Int) + (t.size : Int) := by omega
  have g5 : (0 : Int) ≤ k := by omega
  have g6 : (k : Int) ≤ 65535 := by omega
  rw [pkV_ok h1] at KQ
  rw [pkV_ok h2] at KR
  have z1 := join_size h1
  simp at z1
  have KK := Lib.hid (fun w => check_any 1 1 (joinS [n, s]) m t w (by unfold maxLen; omega))
  rw [ck_same h1] at KK
  obtain ⟨j, hj1, hj2, hj3, hj⟩ := cut_at h1 k
  have KC := Lib.hid (fun w => asked_any 1 1 ((joinS [n, s]).extract 0 j) w (by unfold maxLen; rw [extract_front, size_bOf, List.length_take, ← size_toList]; omega))
  rw [as_cut h1 hj] at KC
  have KD := Lib.hid (fun w => asked_any 1 1 (joinS [n, s] ++ ⟨#[0]⟩) w (by unfold maxLen; rw [ByteArray.size_append]; show _ + 1 ≤ _; omega))
  rw [as_more h1] at KD
  have KE := Lib.hid (fun w => check_any 1 1 ((joinS [n, s]).extract 0 j) n s w (by unfold maxLen; rw [extract_front, size_bOf, List.length_take, ← size_toList]; omega))
  rw [ck_end (as_cut h1 hj) (by decide)] at KE
  have KF := Lib.hid (fun w => check_any 1 1 (joinS [n, s] ++ ⟨#[0]⟩) n s w (by unfold maxLen; rw [ByteArray.size_append]; show _ + 1 ≤ _; omega))
  rw [ck_end (as_more h1) (by decide)] at KF
  have g7 := (join_pos h1).2
  subst e1
  subst e2
  rw [decide_eq_true ⟨rfl, rfl⟩] at KK
  have b1 := beq_self n
  have b2 := beq_self s
  generalize joinS [n, s] = D1 at *
  have hq0 : ∀ W, (Op.equalIn 10000 23 (.agg #[.int .u8 1, .int .u8 1, .string D1]) (.agg #[.int .u8 1, .int .u8 1, .string D1])).run Try.prog W = .ok true W := pk_eq (c := (1 : UInt8)) (c' := (1 : UInt8)) (i := (1 : UInt8)) (i' := (1 : UInt8)) (s := D1) (s' := D1) (pk_same _ _ _)
  have hq1 : ∀ W, (binOp .eql 23 (.agg #[.int .u8 1, .int .u8 1, .string D1]) (.agg #[.int .u8 1, .int .u8 1, .string D1])).run Try.prog W = .ok (.bool true) W := pk_eql (c := (1 : UInt8)) (c' := (1 : UInt8)) (i := (1 : UInt8)) (i' := (1 : UInt8)) (s := D1) (s' := D1) (pk_same _ _ _)
  have hq2 : ∀ W, (binOp .neq 23 (.agg #[.int .u8 1, .int .u8 1, .string D1]) (.agg #[.int .u8 1, .int .u8 1, .string D1])).run Try.prog W = .ok (.bool false) W := pk_neq (c := (1 : UInt8)) (c' := (1 : UInt8)) (i := (1 : UInt8)) (i' := (1 : UInt8)) (s := D1) (s' := D1) (pk_same _ _ _)
  clear h2
  have hz : 0 < D1.size := by omega
  have hz2 : ¬ (D1.size : Int) = 0 := by omega
  have hz3 : (k : Int).tmod (D1.size : Int) = (j : Int) := by rw [Int.tmod_eq_emod_of_nonneg (by omega)]; exact hj1
  have hz4 : ¬ D1 = ByteArray.empty := by intro e; rw [e] at hz; exact absurd hz (by decide)
  have hz5 : (IntKind.i64.wrap (k : Int)).tmod (D1.size : Int) = (j : Int) := by rw [show IntKind.i64.wrap (k : Int) = (k : Int) from by simp only [IntKind.wrap_i64]; omega]; exact hz3
  clear h1 hj
  have g9 : (D1.size : Int) ≤ 512 := by omega
  go_enter Try.func5, Try.ntmps5
  go_wp2_with fail
  refine (KQ.out _).mono ?_
  rintro e w1 ⟨rfl, hb1⟩
  have HH1 := Lib.hid (HH0.out.trans (hb1.mono HH0.out.size))
  clear hb1
  have HA := Lib.hid (at_new w1 (1 : UInt8) (1 : UInt8) D1 : At (w1.alloc (.cells #[.int .u8 1, .int .u8 1, .string D1] 23)) w1.heap.size (1 : UInt8) (1 : UInt8) D1)
  have HH1 := Lib.hid (HH1.out.alloc HH1.out.size _ : Below w.heap.size w (w1.alloc (.cells #[.int .u8 1, .int .u8 1, .string D1] 23)))
  go_wp2_with fail
  refine (KQ.out _).mono ?_
  rintro e w2 ⟨rfl, hb2⟩
  have HA := Lib.hid (HA.out.callee hb2)
  have HH2 := Lib.hid (HH1.out.trans (hb2.mono HH1.out.size))
  clear hb2
  have HA := Lib.hid (HA.out.alloc _ : At (w2.alloc (.cells #[.int .u8 1, .int .u8 1, .string D1] 23)) w1.heap.size (1 : UInt8) (1 : UInt8) D1)
  have HB := Lib.hid (at_new w2 (1 : UInt8) (1 : UInt8) D1 : At (w2.alloc (.cells #[.int .u8 1, .int .u8 1, .string D1] 23)) w2.heap.size (1 : UInt8) (1 : UInt8) D1)
  have HH2 := Lib.hid (HH2.out.alloc HH2.out.size _ : Below w.heap.size w (w2.alloc (.cells #[.int .u8 1, .int .u8 1, .string D1] 23)))
  have cA0 := HA.out.c0
  have cA1 := HA.out.c1
  have cA2 := HA.out.c2
  have cB0 := HB.out.c0
  have cB1 := HB.out.c1
  have cB2 := HB.out.c2
  go_wp2_with fail
  refine (KK.out _).mono ?_
  rintro e w3 ⟨rfl, hb3⟩
  clear HB
  have HA := Lib.hid (HA.out.callee hb3)
  have HH3 := Lib.hid (HH2.out.trans (hb3.mono HH2.out.size))
  clear hb3
  have cA0 := HA.out.c0
  have cA1 := HA.out.c1
  have cA2 := HA.out.c2
  have HHn : Hid (w.heap.size ≤ w3.heap.size) := HH3.out.size
  go_wp2_with fail
  have hAC : w1.heap.size ≠ w3.heap.size := by have := At.lt HA.out; omega
  have HA := Lib.hid (HA.out.alloc _ : At (w3.alloc (.cells #[.int .u8 1, .int .u8 1, .string D1] 23)) w1.heap.size (1 : UInt8) (1 : UInt8) D1)
  have HC := Lib.hid (at_new w3 (1 : UInt8) (1 : UInt8) D1 : At (w3.alloc (.cells #[.int .u8 1, .int .u8 1, .string D1] 23)) w3.heap.size (1 : UInt8) (1 : UInt8) D1)
  have HH3 := Lib.hid (HH3.out.alloc HH3.out.size _ : Below w.heap.size w (w3.alloc (.cells #[.int .u8 1, .int .u8 1, .string D1] 23)))
  have hsz := World.size_alloc w3 (.cells #[.int .u8 1, .int .u8 1, .string D1] 23)
  obtain ⟨wq, hwq⟩ : ∃ wq, (w3.alloc (.cells #[.int .u8 1, .int .u8 1, .string D1] 23)) = wq := ⟨_, rfl⟩
  rw [hwq] at hsz
  have HA : Hid (At wq w1.heap.size 1 1 D1) := by show At _ _ _ _ _; rw [← hwq]; exact HA.out
  have HC : Hid (At wq w3.heap.size 1 1 D1) := by show At _ _ _ _ _; rw [← hwq]; exact HC.out
  have HHq : Hid (Below w.heap.size w wq) := by show Below _ _ _; rw [← hwq]; exact HH3.out
  have hwn : w.heap.size ≤ w3.heap.size := HHn.out
  rw [hwq]
  clear hwq hsz
  have cA0 := HA.out.c0
  have cA1 := HA.out.c1
  have cA2 := HA.out.c2
  have cC0 := HC.out.c0
  have cC1 := HC.out.c1
  have cC2 := HC.out.c2
  go_still_tail 10, (by kernel_rfl)
  change wpList _ _ _ _ _ wq.drew
  generalize hd : wq.drew = wd
  have HA : Hid (At wd w1.heap.size 1 1 D1) := by show At _ _ _ _ _; rw [← hd]; exact HA.out
  have HC : Hid (At wd w3.heap.size 1 1 D1) := by show At _ _ _ _ _; rw [← hd]; exact HC.out
  have HHd : Hid (Below w.heap.size w wd) := by show Below _ _ _; rw [← hd]; exact HHq.out.drew
  clear hd cA0 cA1 cA2 cC0 cC1 cC2
  have cC0 := HC.out.c0
  have cC1 := HC.out.c1
  have cC2 := HC.out.c2
  have fC := At.f HC.out 2
  have HA : Hid (At (wd.setCell ⟨w3.heap.size, 2, none⟩ (.string (D1.extract 0 j))) w1.heap.size 1 1 D1) := at_other HA.out hAC _
  have HC : Hid (At (wd.setCell ⟨w3.heap.size, 2, none⟩ (.string (D1.extract 0 j))) w3.heap.size 1 1 (D1.extract 0 j)) := at_set HC.out _
  have HHe : Hid (Below w.heap.size w (wd.setCell ⟨w3.heap.size, 2, none⟩ (.string (D1.extract 0 j)))) := HHd.out.setCell (p := ⟨w3.heap.size, 2, none⟩) hwn _
  have eC0 := HC.out.c0
  have eC1 := HC.out.c1
  have eC2 := HC.out.c2
  go_wp2_with fail
  refine (KC.out _).mono ?_
  rintro e w4 ⟨rfl, hb4⟩
  have HA := Lib.hid (HA.out.callee hb4)
  have HC := Lib.hid (HC.out.callee hb4)
  have HH4 := Lib.hid (HHe.out.trans (hb4.mono HHe.out.size))
  clear hb4
  have cA0 := HA.out.c0
  have cA1 := HA.out.c1
  have cA2 := HA.out.c2
  have HA9 := Lib.hid (HA.out.alloc _ : At (w4.alloc (.cells #[.int .u8 1, .int .u8 1, .string D1] 23)) w1.heap.size 1 1 D1)
  have HX9 := Lib.hid (at_new w4 1 1 D1 : At (w4.alloc (.cells #[.int .u8 1, .int .u8 1, .string D1] 23)) w4.heap.size 1 1 D1)
  have a90 := HA9.out.c0
  have x90 := HX9.out.c0
  have a91 := HA9.out.c1
  have x91 := HX9.out.c1
  have a92 := HA9.out.c2
  have x92 := HX9.out.c2
  have f9 := At.f HX9.out 2
  have HA := Lib.hid (HA.out.alloc _ : At (w4.alloc (.cells #[.int .u8 1, .int .u8 1, .string (D1 ++ (⟨#[0]⟩ : ByteArray))] 23)) w1.heap.size 1 1 D1)
  have HC := Lib.hid (HC.out.alloc _ : At (w4.alloc (.cells #[.int .u8 1, .int .u8 1, .string (D1 ++ (⟨#[0]⟩ : ByteArray))] 23)) w3.heap.size 1 1 (D1.extract 0 j))
  have HX := Lib.hid (at_new w4 (1 : UInt8) (1 : UInt8) (D1 ++ (⟨#[0]⟩ : ByteArray)) : At (w4.alloc (.cells #[.int .u8 1, .int .u8 1, .string (D1 ++ (⟨#[0]⟩ : ByteArray))] 23)) w4.heap.size (1 : UInt8) (1 : UInt8) (D1 ++ (⟨#[0]⟩ : ByteArray)))
  have HH4 := Lib.hid (HH4.out.alloc HH4.out.size _ : Below w.heap.size w (w4.alloc (.cells #[.int .u8 1, .int .u8 1, .string (D1 ++ (⟨#[0]⟩ : ByteArray))] 23)))
  have cX0 := HX.out.c0
  have cX1 := HX.out.c1
  have cX2 := HX.out.c2
  have cC0 := HC.out.c0
  have cC1 := HC.out.c1
  have cC2 := HC.out.c2
  have cA0 := HA.out.c0
  have cA1 := HA.out.c1
  have cA2 := HA.out.c2
  go_wp2_with fail
  refine (KD.out _).mono ?_
  rintro e w5 ⟨rfl, hb5⟩
  clear HA
  have HC := Lib.hid (HC.out.callee hb5)
  have HX := Lib.hid (HX.out.callee hb5)
  have HH5 := Lib.hid (HH4.out.trans (hb5.mono HH4.out.size))
  clear hb5
  have cC0 := HC.out.c0
  have cC1 := HC.out.c1
  have cC2 := HC.out.c2
  have cX0 := HX.out.c0
  have cX1 := HX.out.c1
  have cX2 := HX.out.c2
  go_wp2_with fail
  refine (KE.out _).mono ?_
  rintro e w6 ⟨rfl, hb6⟩
  have HC := Lib.hid (HC.out.callee hb6)
  have HX := Lib.hid (HX.out.callee hb6)
  have HH6 := Lib.hid (HH5.out.trans (hb6.mono HH5.out.size))
  clear hb6
  have cC0 := HC.out.c0
  have cC1 := HC.out.c1
  have cC2 := HC.out.c2
  have cX0 := HX.out.c0
  have cX1 := HX.out.c1
  have cX2 := HX.out.c2
  go_wp2_with fail
  refine (KF.out _).mono ?_
  rintro e w7 ⟨rfl, hb7⟩
  clear HC
  clear HX
  have HH7 := Lib.hid (HH6.out.trans (hb7.mono HH6.out.size))
  clear hb7
  go_wp2_with fail
  refine (alive_any _).mono ?_
  rintro e w8 ⟨rfl, hb8⟩
  have HH8 := Lib.hid (HH7.out.trans (hb8.mono HH7.out.size))
  clear hb8
  go_wp2
  go_ret
  exact ⟨rfl, HH8.out⟩

set_option maxHeartbeats 8000000 in
set_option maxRecDepth 100000 in
theorem w_less (n m s t : ByteArray) (k : Nat) (w : World) (hn : n.size ≤ 4096) (hm : m.size ≤ 4096) (hs : s.size ≤ 4096) (ht : t.size ≤ 4096) (hall : (n.size : Int) + (m.size : Int) + (s.size : Int) + (t.size : Int) ≤ 4096) (hk : k < 65536) (h1 : joinE [n, s] = 0) (h2 : joinE [m, t] = 0) (e1 : n = m) (e2 : s ≠ t) :
    Calls Try.prog 5 #[.string n, .string m, .string s, .string t, .int .u16 k] w fun e w' => e = .returned (.bool true) ∧ Below w.heap.size w w' := by
  have HH0 := Lib.hid (Below.refl w.heap.size w)
  have KQ := Lib.hid (fun w => request_any 1 n s w (by unfold maxLen; omega) (by unfold maxLen; omega))
  have KR := Lib.hid (fun w => request_any 1 m t w (by unfold maxLen; omega) (by unfold maxLen; omega))
  have g3 : ¬ 4096 < (n.size : Int) + (m.size : Int) + (s.size : Int) + (t.size : Int) := by omega
  have g5 : (0 : Int) ≤ k := by omega
  have g6 : (k : Int) ≤ 65535 := by omega
  rw [pkV_ok h1] at KQ
  rw [pkV_ok h2] at KR
  have z1 := join_size h1
  simp at z1
  have KK := Lib.hid (fun w => check_any 1 1 (joinS [n, s]) m t w (by unfold maxLen; omega))
  rw [ck_same h1] at KK
  obtain ⟨j, hj1, hj2, hj3, hj⟩ := cut_at h1 k
  have KC := Lib.hid (fun w => asked_any 1 1 ((joinS [n, s]).extract 0 j) w (by unfold maxLen; rw [extract_front, size_bOf, List.length_take, ← size_toList]; omega))
  rw [as_cut h1 hj] at KC
  have KD := Lib.hid (fun w => asked_any 1 1 (joinS [n, s] ++ ⟨#[0]⟩) w (by unfold maxLen; rw [ByteArray.size_append]; show _ + 1 ≤ _; omega))
  rw [as_more h1] at KD
  have KE := Lib.hid (fun w => check_any 1 1 ((joinS [n, s]).extract 0 j) n s w (by unfold maxLen; rw [extract_front, size_bOf, List.length_take, ← size_toList]; omega))
  rw [ck_end (as_cut h1 hj) (by decide)] at KE
  have KF := Lib.hid (fun w => check_any 1 1 (joinS [n, s] ++ ⟨#[0]⟩) n s w (by unfold maxLen; rw [ByteArray.size_append]; show _ + 1 ≤ _; omega))
  rw [ck_end (as_more h1) (by decide)] at KF
  have g7 := (join_pos h1).2
  have hne : ¬ (joinS [n, s] = joinS [m, t]) := fun e => e2 (join_inj h1 h2 e).2
  rw [decide_eq_false (fun e => e2 e.2)] at KK
  subst e1
  have b1 := beq_self n
  have b2 := str_eq s t
  rw [decide_eq_false e2] at b2
  clear e2
  generalize joinS [n, s] = D1 at *
  generalize joinS [n, t] = D2 at *
  have hq0 : ∀ W, (Op.equalIn 10000 23 (.agg #[.int .u8 1, .int .u8 1, .string D1]) (.agg #[.int .u8 1, .int .u8 1, .string D2])).run Try.prog W = .ok false W := pk_eq (c := (1 : UInt8)) (c' := (1 : UInt8)) (i := (1 : UInt8)) (i' := (1 : UInt8)) (s := D1) (s' := D2) (decide_eq_false fun e => hne e.2.2)
  have hq1 : ∀ W, (binOp .eql 23 (.agg #[.int .u8 1, .int .u8 1, .string D1]) (.agg #[.int .u8 1, .int .u8 1, .string D2])).run Try.prog W = .ok (.bool false) W := pk_eql (c := (1 : UInt8)) (c' := (1 : UInt8)) (i := (1 : UInt8)) (i' := (1 : UInt8)) (s := D1) (s' := D2) (decide_eq_false fun e => hne e.2.2)
  have hq2 : ∀ W, (binOp .neq 23 (.agg #[.int .u8 1, .int .u8 1, .string D1]) (.agg #[.int .u8 1, .int .u8 1, .string D2])).run Try.prog W = .ok (.bool true) W := pk_neq (c := (1 : UInt8)) (c' := (1 : UInt8)) (i := (1 : UInt8)) (i' := (1 : UInt8)) (s := D1) (s' := D2) (decide_eq_false fun e => hne e.2.2)
  clear hne h2
  have hz : 0 < D1.size := by omega
  have hz2 : ¬ (D1.size : Int) = 0 := by omega
  have hz3 : (k : Int).tmod (D1.size : Int) = (j : Int) := by rw [Int.tmod_eq_emod_of_nonneg (by omega)]; exact hj1
  have hz4 : ¬ D1 = ByteArray.empty := by intro e; rw [e] at hz; exact absurd hz (by decide)
  have hz5 : (IntKind.i64.wrap (k : Int)).tmod (D1.size : Int) = (j : Int) := by rw [show IntKind.i64.wrap (k : Int) = (k : Int) from by simp only [IntKind.wrap_i64]; omega]; exact hz3
  clear h1 hj
  have g9 : (D1.size : Int) ≤ 512 := by omega
  go_enter Try.func5, Try.ntmps5
  go_wp2_with fail
  refine (KQ.out _).mono ?_
  rintro e w1 ⟨rfl, hb1⟩
  have HH1 := Lib.hid (HH0.out.trans (hb1.mono HH0.out.size))
  clear hb1
  have HA := Lib.hid (at_new w1 (1 : UInt8) (1 : UInt8) D1 : At (w1.alloc (.cells #[.int .u8 1, .int .u8 1, .string D1] 23)) w1.heap.size (1 : UInt8) (1 : UInt8) D1)
  have HH1 := Lib.hid (HH1.out.alloc HH1.out.size _ : Below w.heap.size w (w1.alloc (.cells #[.int .u8 1, .int .u8 1, .string D1] 23)))
  go_wp2_with fail
  refine (KR.out _).mono ?_
  rintro e w2 ⟨rfl, hb2⟩
  have HA := Lib.hid (HA.out.callee hb2)
  have HH2 := Lib.hid (HH1.out.trans (hb2.mono HH1.out.size))
  clear hb2
  have HA := Lib.hid (HA.out.alloc _ : At (w2.alloc (.cells #[.int .u8 1, .int .u8 1, .string D2] 23)) w1.heap.size (1 : UInt8) (1 : UInt8) D1)
  have HB := Lib.hid (at_new w2 (1 : UInt8) (1 : UInt8) D2 : At (w2.alloc (.cells #[.int .u8 1, .int .u8 1, .string D2] 23)) w2.heap.size (1 : UInt8) (1 : UInt8) D2)
  have HH2 := Lib.hid (HH2.out.alloc HH2.out.size _ : Below w.heap.size w (w2.alloc (.cells #[.int .u8 1, .int .u8 1, .string D2] 23)))
  have cA0 := HA.out.c0
  have cA1 := HA.out.c1
  have cA2 := HA.out.c2
  have cB0 := HB.out.c0
  have cB1 := HB.out.c1
  have cB2 := HB.out.c2
  go_wp2_with fail
  refine (KK.out _).mono ?_
  rintro e w3 ⟨rfl, hb3⟩
  clear HB
  have HA := Lib.hid (HA.out.callee hb3)
  have HH3 := Lib.hid (HH2.out.trans (hb3.mono HH2.out.size))
  clear hb3
  have cA0 := HA.out.c0
  have cA1 := HA.out.c1
  have cA2 := HA.out.c2
  have HHn : Hid (w.heap.size ≤ w3.heap.size) := HH3.out.size
  go_wp2_with fail
  have hAC : w1.heap.size ≠ w3.heap.size := by have := At.lt HA.out; omega
  have HA := Lib.hid (HA.out.alloc _ : At (w3.alloc (.cells #[.int .u8 1, .int .u8 1, .string D1] 23)) w1.heap.size (1 : UInt8) (1 : UInt8) D1)
  have HC := Lib.hid (at_new w3 (1 : UInt8) (1 : UInt8) D1 : At (w3.alloc (.cells #[.int .u8 1, .int .u8 1, .string D1] 23)) w3.heap.size (1 : UInt8) (1 : UInt8) D1)
  have HH3 := Lib.hid (HH3.out.alloc HH3.out.size _ : Below w.heap.size w (w3.alloc (.cells #[.int .u8 1, .int .u8 1, .string D1] 23)))
  have hsz := World.size_alloc w3 (.cells #[.int .u8 1, .int .u8 1, .string D1] 23)
  obtain ⟨wq, hwq⟩ : ∃ wq, (w3.alloc (.cells #[.int .u8 1, .int .u8 1, .string D1] 23)) = wq := ⟨_, rfl⟩
  rw [hwq] at hsz
  have HA : Hid (At wq w1.heap.size 1 1 D1) := by show At _ _ _ _ _; rw [← hwq]; exact HA.out
  have HC : Hid (At wq w3.heap.size 1 1 D1) := by show At _ _ _ _ _; rw [← hwq]; exact HC.out
  have HHq : Hid (Below w.heap.size w wq) := by show Below _ _ _; rw [← hwq]; exact HH3.out
  have hwn : w.heap.size ≤ w3.heap.size := HHn.out
  rw [hwq]
  clear hwq hsz
  have cA0 := HA.out.c0
  have cA1 := HA.out.c1
  have cA2 := HA.out.c2
  have cC0 := HC.out.c0
  have cC1 := HC.out.c1
  have cC2 := HC.out.c2
  go_still_tail 10, (by kernel_rfl)
  change wpList _ _ _ _ _ wq.drew
  generalize hd : wq.drew = wd
  have HA : Hid (At wd w1.heap.size 1 1 D1) := by show At _ _ _ _ _; rw [← hd]; exact HA.out
  have HC : Hid (At wd w3.heap.size 1 1 D1) := by show At _ _ _ _ _; rw [← hd]; exact HC.out
  have HHd : Hid (Below w.heap.size w wd) := by show Below _ _ _; rw [← hd]; exact HHq.out.drew
  clear hd cA0 cA1 cA2 cC0 cC1 cC2
  have cC0 := HC.out.c0
  have cC1 := HC.out.c1
  have cC2 := HC.out.c2
  have fC := At.f HC.out 2
  have HA : Hid (At (wd.setCell ⟨w3.heap.size, 2, none⟩ (.string (D1.extract 0 j))) w1.heap.size 1 1 D1) := at_other HA.out hAC _
  have HC : Hid (At (wd.setCell ⟨w3.heap.size, 2, none⟩ (.string (D1.extract 0 j))) w3.heap.size 1 1 (D1.extract 0 j)) := at_set HC.out _
  have HHe : Hid (Below w.heap.size w (wd.setCell ⟨w3.heap.size, 2, none⟩ (.string (D1.extract 0 j)))) := HHd.out.setCell (p := ⟨w3.heap.size, 2, none⟩) hwn _
  have eC0 := HC.out.c0
  have eC1 := HC.out.c1
  have eC2 := HC.out.c2
  go_wp2_with fail
  refine (KC.out _).mono ?_
  rintro e w4 ⟨rfl, hb4⟩
  have HA := Lib.hid (HA.out.callee hb4)
  have HC := Lib.hid (HC.out.callee hb4)
  have HH4 := Lib.hid (HHe.out.trans (hb4.mono HHe.out.size))
  clear hb4
  have cA0 := HA.out.c0
  have cA1 := HA.out.c1
  have cA2 := HA.out.c2
  have HA9 := Lib.hid (HA.out.alloc _ : At (w4.alloc (.cells #[.int .u8 1, .int .u8 1, .string D1] 23)) w1.heap.size 1 1 D1)
  have HX9 := Lib.hid (at_new w4 1 1 D1 : At (w4.alloc (.cells #[.int .u8 1, .int .u8 1, .string D1] 23)) w4.heap.size 1 1 D1)
  have a90 := HA9.out.c0
  have x90 := HX9.out.c0
  have a91 := HA9.out.c1
  have x91 := HX9.out.c1
  have a92 := HA9.out.c2
  have x92 := HX9.out.c2
  have f9 := At.f HX9.out 2
  have HA := Lib.hid (HA.out.alloc _ : At (w4.alloc (.cells #[.int .u8 1, .int .u8 1, .string (D1 ++ (⟨#[0]⟩ : ByteArray))] 23)) w1.heap.size 1 1 D1)
  have HC := Lib.hid (HC.out.alloc _ : At (w4.alloc (.cells #[.int .u8 1, .int .u8 1, .string (D1 ++ (⟨#[0]⟩ : ByteArray))] 23)) w3.heap.size 1 1 (D1.extract 0 j))
  have HX := Lib.hid (at_new w4 (1 : UInt8) (1 : UInt8) (D1 ++ (⟨#[0]⟩ : ByteArray)) : At (w4.alloc (.cells #[.int .u8 1, .int .u8 1, .string (D1 ++ (⟨#[0]⟩ : ByteArray))] 23)) w4.heap.size (1 : UInt8) (1 : UInt8) (D1 ++ (⟨#[0]⟩ : ByteArray)))
  have HH4 := Lib.hid (HH4.out.alloc HH4.out.size _ : Below w.heap.size w (w4.alloc (.cells #[.int .u8 1, .int .u8 1, .string (D1 ++ (⟨#[0]⟩ : ByteArray))] 23)))
  have cX0 := HX.out.c0
  have cX1 := HX.out.c1
  have cX2 := HX.out.c2
  have cC0 := HC.out.c0
  have cC1 := HC.out.c1
  have cC2 := HC.out.c2
  have cA0 := HA.out.c0
  have cA1 := HA.out.c1
  have cA2 := HA.out.c2
  go_wp2_with fail
  refine (KD.out _).mono ?_
  rintro e w5 ⟨rfl, hb5⟩
  clear HA
  have HC := Lib.hid (HC.out.callee hb5)
  have HX := Lib.hid (HX.out.callee hb5)
  have HH5 := Lib.hid (HH4.out.trans (hb5.mono HH4.out.size))
  clear hb5
  have cC0 := HC.out.c0
  have cC1 := HC.out.c1
  have cC2 := HC.out.c2
  have cX0 := HX.out.c0
  have cX1 := HX.out.c1
  have cX2 := HX.out.c2
  go_wp2_with fail
  refine (KE.out _).mono ?_
  rintro e w6 ⟨rfl, hb6⟩
  have HC := Lib.hid (HC.out.callee hb6)
  have HX := Lib.hid (HX.out.callee hb6)
  have HH6 := Lib.hid (HH5.out.trans (hb6.mono HH5.out.size))
  clear hb6
  have cC0 := HC.out.c0
  have cC1 := HC.out.c1
  have cC2 := HC.out.c2
  have cX0 := HX.out.c0
  have cX1 := HX.out.c1
  have cX2 := HX.out.c2
  go_wp2_with fail
  refine (KF.out _).mono ?_
  rintro e w7 ⟨rfl, hb7⟩
  clear HC
  clear HX
  have HH7 := Lib.hid (HH6.out.trans (hb7.mono HH6.out.size))
  clear hb7
  go_wp2_with fail
  refine (alive_any _).mono ?_
  rintro e w8 ⟨rfl, hb8⟩
  have HH8 := Lib.hid (HH7.out.trans (hb8.mono HH7.out.size))
  clear hb8
  go_wp2
  go_ret
  exact ⟨rfl, HH8.out⟩

set_option maxHeartbeats 8000000 in
set_option maxRecDepth 100000 in
theorem w_none (n m s t : ByteArray) (k : Nat) (w : World) (hn : n.size ≤ 4096) (hm : m.size ≤ 4096) (hs : s.size ≤ 4096) (ht : t.size ≤ 4096) (hall : (n.size : Int) + (m.size : Int) + (s.size : Int) + (t.size : Int) ≤ 4096) (hk : k < 65536) (h1 : joinE [n, s] = 0) (h2 : joinE [m, t] = 0) (e1 : n ≠ m) :
    Calls Try.prog 5 #[.string n, .string m, .string s, .string t, .int .u16 k] w fun e w' => e = .returned (.bool true) ∧ Below w.heap.size w w' := by
  have HH0 := Lib.hid (Below.refl w.heap.size w)
  have KQ := Lib.hid (fun w => request_any 1 n s w (by unfold maxLen; omega) (by unfold maxLen; omega))
  have KR := Lib.hid (fun w => request_any 1 m t w (by unfold maxLen; omega) (by unfold maxLen; omega))
  have g3 : ¬ 4096 < (n.size : Int) + (m.size : Int) + (s.size : Int) + (t.size : Int) := by omega
  have g5 : (0 : Int) ≤ k := by omega
  have g6 : (k : Int) ≤ 65535 := by omega
  rw [pkV_ok h1] at KQ
  rw [pkV_ok h2] at KR
  have z1 := join_size h1
  simp at z1
  have KK := Lib.hid (fun w => check_any 1 1 (joinS [n, s]) m t w (by unfold maxLen; omega))
  rw [ck_same h1] at KK
  obtain ⟨j, hj1, hj2, hj3, hj⟩ := cut_at h1 k
  have KC := Lib.hid (fun w => asked_any 1 1 ((joinS [n, s]).extract 0 j) w (by unfold maxLen; rw [extract_front, size_bOf, List.length_take, ← size_toList]; omega))
  rw [as_cut h1 hj] at KC
  have KD := Lib.hid (fun w => asked_any 1 1 (joinS [n, s] ++ ⟨#[0]⟩) w (by unfold maxLen; rw [ByteArray.size_append]; show _ + 1 ≤ _; omega))
  rw [as_more h1] at KD
  have KE := Lib.hid (fun w => check_any 1 1 ((joinS [n, s]).extract 0 j) n s w (by unfold maxLen; rw [extract_front, size_bOf, List.length_take, ← size_toList]; omega))
  rw [ck_end (as_cut h1 hj) (by decide)] at KE
  have KF := Lib.hid (fun w => check_any 1 1 (joinS [n, s] ++ ⟨#[0]⟩) n s w (by unfold maxLen; rw [ByteArray.size_append]; show _ + 1 ≤ _; omega))
  rw [ck_end (as_more h1) (by decide)] at KF
  have g7 := (join_pos h1).2
  have hne : ¬ (joinS [n, s] = joinS [m, t]) := fun e => e1 (join_inj h1 h2 e).1
  rw [decide_eq_false (fun e => e1 e.1)] at KK
  have b1 := str_eq n m
  rw [decide_eq_false e1] at b1
  clear e1
  generalize joinS [n, s] = D1 at *
  generalize joinS [m, t] = D2 at *
  have hq0 : ∀ W, (Op.equalIn 10000 23 (.agg #[.int .u8 1, .int .u8 1, .string D1]) (.agg #[.int .u8 1, .int .u8 1, .string D2])).run Try.prog W = .ok false W := pk_eq (c := (1 : UInt8)) (c' := (1 : UInt8)) (i := (1 : UInt8)) (i' := (1 : UInt8)) (s := D1) (s' := D2) (decide_eq_false fun e => hne e.2.2)
  have hq1 : ∀ W, (binOp .eql 23 (.agg #[.int .u8 1, .int .u8 1, .string D1]) (.agg #[.int .u8 1, .int .u8 1, .string D2])).run Try.prog W = .ok (.bool false) W := pk_eql (c := (1 : UInt8)) (c' := (1 : UInt8)) (i := (1 : UInt8)) (i' := (1 : UInt8)) (s := D1) (s' := D2) (decide_eq_false fun e => hne e.2.2)
  have hq2 : ∀ W, (binOp .neq 23 (.agg #[.int .u8 1, .int .u8 1, .string D1]) (.agg #[.int .u8 1, .int .u8 1, .string D2])).run Try.prog W = .ok (.bool true) W := pk_neq (c := (1 : UInt8)) (c' := (1 : UInt8)) (i := (1 : UInt8)) (i' := (1 : UInt8)) (s := D1) (s' := D2) (decide_eq_false fun e => hne e.2.2)
  clear hne h2
  have hz : 0 < D1.size := by omega
  have hz2 : ¬ (D1.size : Int) = 0 := by omega
  have hz3 : (k : Int).tmod (D1.size : Int) = (j : Int) := by rw [Int.tmod_eq_emod_of_nonneg (by omega)]; exact hj1
  have hz4 : ¬ D1 = ByteArray.empty := by intro e; rw [e] at hz; exact absurd hz (by decide)
  have hz5 : (IntKind.i64.wrap (k : Int)).tmod (D1.size : Int) = (j : Int) := by rw [show IntKind.i64.wrap (k : Int) = (k : Int) from by simp only [IntKind.wrap_i64]; omega]; exact hz3
  clear h1 hj
  have g9 : (D1.size : Int) ≤ 512 := by omega
  go_enter Try.func5, Try.ntmps5
  go_wp2_with fail
  refine (KQ.out _).mono ?_
  rintro e w1 ⟨rfl, hb1⟩
  have HH1 := Lib.hid (HH0.out.trans (hb1.mono HH0.out.size))
  clear hb1
  have HA := Lib.hid (at_new w1 (1 : UInt8) (1 : UInt8) D1 : At (w1.alloc (.cells #[.int .u8 1, .int .u8 1, .string D1] 23)) w1.heap.size (1 : UInt8) (1 : UInt8) D1)
  have HH1 := Lib.hid (HH1.out.alloc HH1.out.size _ : Below w.heap.size w (w1.alloc (.cells #[.int .u8 1, .int .u8 1, .string D1] 23)))
  go_wp2_with fail
  refine (KR.out _).mono ?_
  rintro e w2 ⟨rfl, hb2⟩
  have HA := Lib.hid (HA.out.callee hb2)
  have HH2 := Lib.hid (HH1.out.trans (hb2.mono HH1.out.size))
  clear hb2
  have HA := Lib.hid (HA.out.alloc _ : At (w2.alloc (.cells #[.int .u8 1, .int .u8 1, .string D2] 23)) w1.heap.size (1 : UInt8) (1 : UInt8) D1)
  have HB := Lib.hid (at_new w2 (1 : UInt8) (1 : UInt8) D2 : At (w2.alloc (.cells #[.int .u8 1, .int .u8 1, .string D2] 23)) w2.heap.size (1 : UInt8) (1 : UInt8) D2)
  have HH2 := Lib.hid (HH2.out.alloc HH2.out.size _ : Below w.heap.size w (w2.alloc (.cells #[.int .u8 1, .int .u8 1, .string D2] 23)))
  have cA0 := HA.out.c0
  have cA1 := HA.out.c1
  have cA2 := HA.out.c2
  have cB0 := HB.out.c0
  have cB1 := HB.out.c1
  have cB2 := HB.out.c2
  go_wp2_with fail
  refine (KK.out _).mono ?_
  rintro e w3 ⟨rfl, hb3⟩
  clear HB
  have HA := Lib.hid (HA.out.callee hb3)
  have HH3 := Lib.hid (HH2.out.trans (hb3.mono HH2.out.size))
  clear hb3
  have cA0 := HA.out.c0
  have cA1 := HA.out.c1
  have cA2 := HA.out.c2
  have HHn : Hid (w.heap.size ≤ w3.heap.size) := HH3.out.size
  go_wp2_with fail
  have hAC : w1.heap.size ≠ w3.heap.size := by have := At.lt HA.out; omega
  have HA := Lib.hid (HA.out.alloc _ : At (w3.alloc (.cells #[.int .u8 1, .int .u8 1, .string D1] 23)) w1.heap.size (1 : UInt8) (1 : UInt8) D1)
  have HC := Lib.hid (at_new w3 (1 : UInt8) (1 : UInt8) D1 : At (w3.alloc (.cells #[.int .u8 1, .int .u8 1, .string D1] 23)) w3.heap.size (1 : UInt8) (1 : UInt8) D1)
  have HH3 := Lib.hid (HH3.out.alloc HH3.out.size _ : Below w.heap.size w (w3.alloc (.cells #[.int .u8 1, .int .u8 1, .string D1] 23)))
  have hsz := World.size_alloc w3 (.cells #[.int .u8 1, .int .u8 1, .string D1] 23)
  obtain ⟨wq, hwq⟩ : ∃ wq, (w3.alloc (.cells #[.int .u8 1, .int .u8 1, .string D1] 23)) = wq := ⟨_, rfl⟩
  rw [hwq] at hsz
  have HA : Hid (At wq w1.heap.size 1 1 D1) := by show At _ _ _ _ _; rw [← hwq]; exact HA.out
  have HC : Hid (At wq w3.heap.size 1 1 D1) := by show At _ _ _ _ _; rw [← hwq]; exact HC.out
  have HHq : Hid (Below w.heap.size w wq) := by show Below _ _ _; rw [← hwq]; exact HH3.out
  have hwn : w.heap.size ≤ w3.heap.size := HHn.out
  rw [hwq]
  clear hwq hsz
  have cA0 := HA.out.c0
  have cA1 := HA.out.c1
  have cA2 := HA.out.c2
  have cC0 := HC.out.c0
  have cC1 := HC.out.c1
  have cC2 := HC.out.c2
  go_still_tail 10, (by kernel_rfl)
  change wpList _ _ _ _ _ wq.drew
  generalize hd : wq.drew = wd
  have HA : Hid (At wd w1.heap.size 1 1 D1) := by show At _ _ _ _ _; rw [← hd]; exact HA.out
  have HC : Hid (At wd w3.heap.size 1 1 D1) := by show At _ _ _ _ _; rw [← hd]; exact HC.out
  have HHd : Hid (Below w.heap.size w wd) := by show Below _ _ _; rw [← hd]; exact HHq.out.drew
  clear hd cA0 cA1 cA2 cC0 cC1 cC2
  have cC0 := HC.out.c0
  have cC1 := HC.out.c1
  have cC2 := HC.out.c2
  have fC := At.f HC.out 2
  have HA : Hid (At (wd.setCell ⟨w3.heap.size, 2, none⟩ (.string (D1.extract 0 j))) w1.heap.size 1 1 D1) := at_other HA.out hAC _
  have HC : Hid (At (wd.setCell ⟨w3.heap.size, 2, none⟩ (.string (D1.extract 0 j))) w3.heap.size 1 1 (D1.extract 0 j)) := at_set HC.out _
  have HHe : Hid (Below w.heap.size w (wd.setCell ⟨w3.heap.size, 2, none⟩ (.string (D1.extract 0 j)))) := HHd.out.setCell (p := ⟨w3.heap.size, 2, none⟩) hwn _
  have eC0 := HC.out.c0
  have eC1 := HC.out.c1
  have eC2 := HC.out.c2
  go_wp2_with fail
  refine (KC.out _).mono ?_
  rintro e w4 ⟨rfl, hb4⟩
  have HA := Lib.hid (HA.out.callee hb4)
  have HC := Lib.hid (HC.out.callee hb4)
  have HH4 := Lib.hid (HHe.out.trans (hb4.mono HHe.out.size))
  clear hb4
  have cA0 := HA.out.c0
  have cA1 := HA.out.c1
  have cA2 := HA.out.c2
  have HA9 := Lib.hid (HA.out.alloc _ : At (w4.alloc (.cells #[.int .u8 1, .int .u8 1, .string D1] 23)) w1.heap.size 1 1 D1)
  have HX9 := Lib.hid (at_new w4 1 1 D1 : At (w4.alloc (.cells #[.int .u8 1, .int .u8 1, .string D1] 23)) w4.heap.size 1 1 D1)
  have a90 := HA9.out.c0
  have x90 := HX9.out.c0
  have a91 := HA9.out.c1
  have x91 := HX9.out.c1
  have a92 := HA9.out.c2
  have x92 := HX9.out.c2
  have f9 := At.f HX9.out 2
  have HA := Lib.hid (HA.out.alloc _ : At (w4.alloc (.cells #[.int .u8 1, .int .u8 1, .string (D1 ++ (⟨#[0]⟩ : ByteArray))] 23)) w1.heap.size 1 1 D1)
  have HC := Lib.hid (HC.out.alloc _ : At (w4.alloc (.cells #[.int .u8 1, .int .u8 1, .string (D1 ++ (⟨#[0]⟩ : ByteArray))] 23)) w3.heap.size 1 1 (D1.extract 0 j))
  have HX := Lib.hid (at_new w4 (1 : UInt8) (1 : UInt8) (D1 ++ (⟨#[0]⟩ : ByteArray)) : At (w4.alloc (.cells #[.int .u8 1, .int .u8 1, .string (D1 ++ (⟨#[0]⟩ : ByteArray))] 23)) w4.heap.size (1 : UInt8) (1 : UInt8) (D1 ++ (⟨#[0]⟩ : ByteArray)))
  have HH4 := Lib.hid (HH4.out.alloc HH4.out.size _ : Below w.heap.size w (w4.alloc (.cells #[.int .u8 1, .int .u8 1, .string (D1 ++ (⟨#[0]⟩ : ByteArray))] 23)))
  have cX0 := HX.out.c0
  have cX1 := HX.out.c1
  have cX2 := HX.out.c2
  have cC0 := HC.out.c0
  have cC1 := HC.out.c1
  have cC2 := HC.out.c2
  have cA0 := HA.out.c0
  have cA1 := HA.out.c1
  have cA2 := HA.out.c2
  go_wp2_with fail
  refine (KD.out _).mono ?_
  rintro e w5 ⟨rfl, hb5⟩
  clear HA
  have HC := Lib.hid (HC.out.callee hb5)
  have HX := Lib.hid (HX.out.callee hb5)
  have HH5 := Lib.hid (HH4.out.trans (hb5.mono HH4.out.size))
  clear hb5
  have cC0 := HC.out.c0
  have cC1 := HC.out.c1
  have cC2 := HC.out.c2
  have cX0 := HX.out.c0
  have cX1 := HX.out.c1
  have cX2 := HX.out.c2
  go_wp2_with fail
  refine (KE.out _).mono ?_
  rintro e w6 ⟨rfl, hb6⟩
  have HC := Lib.hid (HC.out.callee hb6)
  have HX := Lib.hid (HX.out.callee hb6)
  have HH6 := Lib.hid (HH5.out.trans (hb6.mono HH5.out.size))
  clear hb6
  have cC0 := HC.out.c0
  have cC1 := HC.out.c1
  have cC2 := HC.out.c2
  have cX0 := HX.out.c0
  have cX1 := HX.out.c1
  have cX2 := HX.out.c2
  go_wp2_with fail
  refine (KF.out _).mono ?_
  rintro e w7 ⟨rfl, hb7⟩
  clear HC
  clear HX
  have HH7 := Lib.hid (HH6.out.trans (hb7.mono HH6.out.size))
  clear hb7
  go_wp2_with fail
  refine (alive_any _).mono ?_
  rintro e w8 ⟨rfl, hb8⟩
  have HH8 := Lib.hid (HH7.out.trans (hb8.mono HH7.out.size))
  clear hb8
  go_wp2
  go_ret
  exact ⟨rfl, HH8.out⟩

set_option maxHeartbeats 8000000 in
set_option maxRecDepth 100000 in
theorem walk (n m s t : ByteArray) (k : Nat) (hn : n.size ≤ 140737488351232) (hm : m.size ≤ 140737488351232) (hs : s.size ≤ 140737488351232) (ht : t.size ≤ 140737488351232) (hk : k < 65536) (w : World) :
    Calls Try.prog 5 #[.string n, .string m, .string s, .string t, .int .u16 k] w fun e w' => e = .returned (.bool true) ∧ Below w.heap.size w w' := by
  by_cases h : 4096 < (n.size : Int) + (m.size : Int) + (s.size : Int) + (t.size : Int)
  · have HH0 := Lib.hid (Below.refl w.heap.size w)
    go_enter Try.func5, Try.ntmps5
    go_wp2_with fail
    refine (alive_any _).mono ?_
    rintro e w1 ⟨rfl, hb1⟩
    have HH1 := Lib.hid (HH0.out.trans (hb1.mono HH0.out.size))
    clear hb1
    go_wp2
    go_ret
    exact ⟨rfl, HH1.out⟩
  · by_cases h1 : joinE [n, s] = 0
    · by_cases h2 : joinE [m, t] = 0
      · by_cases e1 : n = m
        · by_cases e2 : s = t
          · exact w_both n m s t k w (by omega) (by omega) (by omega) (by omega) (by omega) hk h1 h2 e1 e2
          · exact w_less n m s t k w (by omega) (by omega) (by omega) (by omega) (by omega) hk h1 h2 e1 e2
        · exact w_none n m s t k w (by omega) (by omega) (by omega) (by omega) (by omega) hk h1 h2 e1
      · exact w_bad2 n m s t k w (by omega) (by omega) (by omega) (by omega) (by omega) hk h1 h2
    · exact w_bad1 n m s t k w (by omega) (by omega) (by omega) (by omega) (by omega) hk h1

set_option maxRecDepth 100000 in
theorem lifted (os : Os) (started : os.Started) (H : Type) (enc : TypeId × Value → H) :
    ReturnsInHanded {} Try.checked os 5 .any (Rows.papApartSpec.pre6 enc Try.prog Try.f5 Rows.papApartRow.domain false) (Rows.papApartSpec.post enc Try.prog Try.f5 false true false false) := by
  refine returnsInHanded_of_change_sized (C := Try.checked) own started (by kernel_rfl) Try.func5
    (ChangeSpec.witness6 (enc := enc) (C := Try.checked) false ⟨#[], #[.string ByteArray.empty, .string ByteArray.empty, .string ByteArray.empty, .string ByteArray.empty, .int .u16 0], []⟩ 8 (by kernel_rfl) (by kernel_rfl) (by kernel_rfl) (by kernel_rfl)) ?_
  intro W base args ds gs before hval0 hW hcnd hsz0 _
  have hsz : (DataW.weightsEach Try.prog (Try.f5.params.toList ++ Rows.papApartSpec.plain.varTypes Try.prog) (ds ++ gs)).all (· ≤ reachBytes) = true := hsz0
  have hval : ∀ (j : Nat) t v, Try.f5.params[j]? = some t → args[j]? = some v → Value.okWide Try.prog W .any base t v := hval0
  have hW' := hW
  obtain ⟨p, q, hA0, hV, rfl, hfz, hnd⟩ := hW
  have hlt := hW'.lt
  have hA : DataW.TrodAll enc Try.prog W 0 (fun _ => true) true Try.f5.params.toList args.toList ds p := hA0
  rw [Try.params5] at hA hval hsz
  obtain ⟨v0, vs0, d0, ds0, p0, q0, hargs, rfl, rfl, h0, r0⟩ := trodAll_cons hA
  obtain ⟨v1, vs1, d1, ds1, p1, q1, rfl, rfl, rfl, h1, r1⟩ := trodAll_cons r0
  obtain ⟨v2, vs2, d2, ds2, p2, q2, rfl, rfl, rfl, h2, r2⟩ := trodAll_cons r1
  obtain ⟨v3, vs3, d3, ds3, p3, q3, rfl, rfl, rfl, h3, r3⟩ := trodAll_cons r2
  obtain ⟨v4, vs4, d4, ds4, p4, q4, rfl, rfl, rfl, h4, r4⟩ := trodAll_cons r3
  obtain ⟨rfl, rfl, rfl⟩ := trodAll_nil r4
  obtain rfl : args = #[v0, v1, v2, v3, v4] := by cases args; simp_all
  obtain ⟨rfl, rfl⟩ := trodVars_none hV
  obtain ⟨a0, rfl, rfl, rfl, w0⟩ := open_string Try.underlying9 (hval 0 9 v0 rfl rfl) h0
  obtain ⟨a1, rfl, rfl, rfl, w1⟩ := open_string Try.underlying9 (hval 1 9 v1 rfl rfl) h1
  obtain ⟨a2, rfl, rfl, rfl, w2⟩ := open_string Try.underlying9 (hval 2 9 v2 rfl rfl) h2
  obtain ⟨a3, rfl, rfl, rfl, w3⟩ := open_string Try.underlying9 (hval 3 9 v3 rfl rfl) h3
  obtain ⟨z4, rfl, rfl, rfl, w4⟩ := open_int Try.underlying35 (hval 4 35 v4 rfl rfl) h4
  obtain ⟨a4, rfl⟩ : ∃ n : Nat, z4 = n := ⟨z4.toNat, by have := bounds_u16 w4; omega⟩
  have b4 := bounds_u16 w4
  have z0 : a0.size ≤ 140737488351232 := by have h := sized_string hsz (j := 0) (t := 9) rfl rfl; rw [Array.length_toList] at h; exact h
  have z1 : a1.size ≤ 140737488351232 := by have h := sized_string hsz (j := 1) (t := 9) rfl rfl; rw [Array.length_toList] at h; exact h
  have z2 : a2.size ≤ 140737488351232 := by have h := sized_string hsz (j := 2) (t := 9) rfl rfl; rw [Array.length_toList] at h; exact h
  have z3 : a3.size ≤ 140737488351232 := by have h := sized_string hsz (j := 3) (t := 9) rfl rfl; rw [Array.length_toList] at h; exact h
  clear hA0 hval0 hsz0
  exact (walk a0 a1 a2 a3 a4 z0 z1 z2 z3 (by omega) W).mono fun e W' ⟨he, hb⟩ => ⟨_, he, law_post (t := 4) laidOut (by kernel_rfl) rfl rfl Try.underlying4 ⟨rfl, rfl, rfl⟩ hW' hb⟩

theorem over : Rows.papApartRow.holds Try.pinned (OpenSpec.ofChange Rows.papApartSpec) :=
  OpenClaim.holds_of_wide 5 Try.f5 rfl rfl rfl rfl rfl rfl rfl ⟨rfl, rfl, rfl, rfl, rfl⟩ rfl rfl rfl rfl rfl (by kernel_rfl) Try.func5 (by kernel_rfl)
    (of_decide_eq_true (by kernel_rfl)) (by unfold Func.isWrapper; first | (rw [if_pos (by decide +kernel)]; kernel_rfl) | (rw [if_neg (by decide +kernel)]; exact ⟨rfl, rfl⟩))
    (fun os started H enc _ => lifted os started H enc)

theorem proved : Rows.PapApartSaid :=
  over
#print axioms proved
end Go.Proofs.Ythddfpmjjbpkgaa.PapApart
