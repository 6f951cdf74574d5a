/- Put together: RejC, RejE. -/
import Derived.Test.YtgefodpnhifmdaaGreatGRejA
import Derived.Test.YtgefodpnhifmdaaGreatPktB
import Derived.Test.YtgefodpnhifmdaaGreatRes
import Derived.Test.YtgefodpnhifmdaaGreatCut
import Derived.Test.YtgefodpnhifmdaaGreatGet16

/- Contracts of package reject's Code, and of the document's. -/
namespace Go.Proofs.YtgefodpnhifmdaaGreat.Rej
open Go.RowKit Go.Proofs.YtgefodpnhifmdaaGreat.Oct Go.Proofs.YtgefodpnhifmdaaGreat.Row Go.Proofs.YtgefodpnhifmdaaGreat.Mem Go.Proofs.YtgefodpnhifmdaaGreat.Pkt Go.Proofs.YtgefodpnhifmdaaGreat.Bld

theorem may_yes {m : Nat} (h0 : 64 ≤ m) (h1 : m ≤ 65535) : may m = true := by simp [may]; omega
set_option maxHeartbeats 2000000 in
set_option maxRecDepth 100000 in
theorem code_bad (id c i : UInt8) (d : ByteArray) (m : Int) (w : World) (hm : may m = false) :
    Calls Tryz.prog 71 #[.int .u8 id.toNat, .agg #[.int .u8 c.toNat, .int .u8 i.toNat, .string d], .int .i64 m] w fun e w' => e = .returned (.tuple #[.agg #[.int .u8 0, .int .u8 0, .string ⟨#[]⟩], .int .i64 2]) ∧ Below w.heap.size w w' := by
  obtain ⟨W, hW, HW⟩ := res_two w c i d
  obtain ⟨g, hg⟩ : ∃ g, w.heap.size = g := ⟨_, rfl⟩
  rw [hg] at HW
  have HR := Lib.hid HW.out.1
  have M := Lib.hid (fun w => mru_any m w)
  rw [hm] at M
  have c0 := HR.out.c0
  have c1 := HR.out.c1
  have c2 := HR.out.c2
  have f0 := HR.out.f 0
  have f1 := HR.out.f 1
  have f2 := HR.out.f 2
  clear hm HW
  go_enter Tryz.func71, Tryz.ntmps71
  go_wp2_with fail
  refine (M.out _).mono ?_
  rintro e w1 ⟨rfl, rfl⟩
  clear hW
  go_wp2
  have HP := HR.out.put 0 0 ⟨#[]⟩
  (try simp only [Exit.inBlock, Exit.then])
  refine bodyPost_ret (results_row1 rfl _ _ (g + 1) _ _ _ rfl HP.1 Tryz.underlying51 rfl (by kernel_rfl)) rfl ?_
  exact ⟨rfl, by first | exact HP.2 | (have h2 := HP.2; rw [hg] at h2; exact h2)⟩

set_option maxHeartbeats 2000000 in
set_option maxRecDepth 100000 in
theorem code_long (id c i : UInt8) (d : ByteArray) (m : Int) (w : World) (hm : may m = true) (hd : 1496 < d.size) :
    Calls Tryz.prog 71 #[.int .u8 id.toNat, .agg #[.int .u8 c.toNat, .int .u8 i.toNat, .string d], .int .i64 m] w fun e w' => e = .returned (.tuple #[.agg #[.int .u8 0, .int .u8 0, .string ⟨#[]⟩], .int .i64 5]) ∧ Below w.heap.size w w' := by
  obtain ⟨W, hW, HW⟩ := res_two w c i d
  obtain ⟨g, hg⟩ : ∃ g, w.heap.size = g := ⟨_, rfl⟩
  rw [hg] at HW
  have HR := Lib.hid HW.out.1
  have M := Lib.hid (fun w => mru_any m w)
  rw [hm] at M
  have P := Lib.hid (fun w => put_long c i d w hd)
  have p0 : W.cell? ⟨g, 0, none⟩ = some (.int .u8 c.toNat) := HW.out.2.at_ 0
  have p1 : W.cell? ⟨g, 1, none⟩ = some (.int .u8 i.toNat) := HW.out.2.at_ 1
  have p2 : W.cell? ⟨g, 2, none⟩ = some (.string d) := HW.out.2.at_ 2
  clear hm HW hd
  go_enter Tryz.func71, Tryz.ntmps71
  go_wp2_with fail
  refine (M.out _).mono ?_
  rintro e w1 ⟨rfl, rfl⟩
  clear hW
  go_wp2_with fail
  refine (P.out _).mono ?_
  rintro e w2 ⟨rfl, hb2⟩
  have HR2 := Lib.hid (HR.out.callee hb2)
  clear hb2
  have c0 := HR2.out.c0
  have c1 := HR2.out.c1
  have c2 := HR2.out.c2
  have f0 := HR2.out.f 0
  have f1 := HR2.out.f 1
  have f2 := HR2.out.f 2
  go_wp2
  have HP := HR2.out.put 0 0 ⟨#[]⟩
  (try simp only [Exit.inBlock, Exit.then])
  refine bodyPost_ret (results_row1 rfl _ _ (g + 1) _ _ _ rfl HP.1 Tryz.underlying51 rfl (by kernel_rfl)) rfl ?_
  exact ⟨rfl, by first | exact HP.2 | (have h2 := HP.2; rw [hg] at h2; exact h2)⟩

set_option maxHeartbeats 2000000 in
set_option maxRecDepth 100000 in
theorem code_ok (id c i : UInt8) (d : ByteArray) (m : Nat) (w : World) (hm0 : 64 ≤ m) (hm1 : m ≤ 65535) (hd : d.size ≤ 1496) :
    Calls Tryz.prog 71 #[.int .u8 id.toNat, .agg #[.int .u8 c.toNat, .int .u8 i.toNat, .string d], .int .i64 m] w fun e w' => e = .returned (.tuple #[.agg #[.int .u8 7, .int .u8 id.toNat, .string (bOf ((enc c i d.toList).take (sp m)))], .int .i64 0]) ∧ Below w.heap.size w w' := by
  obtain ⟨W, hW, HW⟩ := res_two w c i d
  obtain ⟨g, hg⟩ : ∃ g, w.heap.size = g := ⟨_, rfl⟩
  rw [hg] at HW
  have HR := Lib.hid HW.out.1
  have M := Lib.hid (fun w => mru_any m w)
  rw [may_yes hm0 hm1] at M
  have P := Lib.hid (fun w => put_ok c i d w hd)
  obtain ⟨X, hX⟩ : ∃ X, bOf (enc c i d.toList) = X := ⟨_, rfl⟩
  have HXs : Hid (X.size ≤ maxLen) := by show _ ≤ _; rw [← hX, size_bOf, enc_length, ← size_toList]; unfold maxLen; omega
  have F := Lib.hid (fun A w hl => fill_any m A 1 1 [X] w hm0 hm1 (by decide) hl)
  have HY : bOf ((cat [X]).take (sp m)) = bOf ((enc c i d.toList).take (sp m)) := by rw [cat_one, ← hX, toList_bOf]
  rw [HY] at F
  rw [hX] at P
  generalize bOf ((enc c i d.toList).take (sp m)) = Y at *
  have p0 : W.cell? ⟨g, 0, none⟩ = some (.int .u8 c.toNat) := HW.out.2.at_ 0
  have p1 : W.cell? ⟨g, 1, none⟩ = some (.int .u8 i.toNat) := HW.out.2.at_ 1
  have p2 : W.cell? ⟨g, 2, none⟩ = some (.string d) := HW.out.2.at_ 2
  clear hX HY HW hd
  go_enter Tryz.func71, Tryz.ntmps71
  go_wp2_with fail
  refine (M.out _).mono ?_
  rintro e w1 ⟨rfl, rfl⟩
  clear hW
  go_wp2_with fail
  refine (P.out _).mono ?_
  rintro e w2 ⟨rfl, hb2⟩
  have HR2 := Lib.hid (HR.out.callee hb2)
  clear hb2 p0 p1 p2
  go_wp2_with fail
  refine (F.out _ _ (strs_one_new w2 X _ HXs.out)).mono ?_
  rintro e w3 ⟨rfl, hb3⟩
  have HR3 := Lib.hid ((HR2.out.alloc _).callee hb3)
  clear hb3
  have c0 := HR3.out.c0
  have c1 := HR3.out.c1
  have c2 := HR3.out.c2
  have f0 := HR3.out.f 0
  have f1 := HR3.out.f 1
  have f2 := HR3.out.f 2
  go_wp2
  have HP := HR3.out.put 7 id.toNat Y
  (try simp only [Exit.inBlock, Exit.then])
  refine bodyPost_ret (results_row1 rfl _ _ (g + 1) _ _ _ rfl HP.1 Tryz.underlying51 rfl (by kernel_rfl)) rfl ?_
  exact ⟨rfl, by first | exact HP.2 | (have h2 := HP.2; rw [hg] at h2; exact h2)⟩

end Go.Proofs.YtgefodpnhifmdaaGreat.Rej

/- Contracts of package reject's Rejected, Inner and Reply, and of the document's. -/
namespace Go.Proofs.YtgefodpnhifmdaaGreat.Rej
open Go.RowKit Go.Proofs.YtgefodpnhifmdaaGreat.Oct Go.Proofs.YtgefodpnhifmdaaGreat.Row Go.Proofs.YtgefodpnhifmdaaGreat.Mem Go.Proofs.YtgefodpnhifmdaaGreat.Pkt Go.Proofs.YtgefodpnhifmdaaGreat.Bld
set_option linter.unusedVariables false

theorem box_one (w : World) (c i : UInt8) (d : ByteArray) : ∃ W, w.alloc (.cells #[.int .u8 c.toNat, .int .u8 i.toNat, .string d] 51) = W ∧ Hid (Below w.heap.size w W ∧ Blk W w.heap.size [.int .u8 c.toNat, .int .u8 i.toNat, .string d] 51) :=
  ⟨_, rfl, (Below.refl w.heap.size w).alloc (Nat.le_refl _) _, blk_new w [.int .u8 c.toNat, .int .u8 i.toNat, .string d] _⟩
theorem two_of {d : ByteArray} {a b : UInt8} (h : 2 ≤ d.size) (i0 : d[0]'(by omega) = a) (i1 : d[1]'(by omega) = b) : d.toList.take 2 = [a, b] := by
  obtain ⟨l, rfl⟩ : ∃ l, d = bOf l := ⟨d.toList, (bOf_toList d).symm⟩
  rw [toList_bOf]
  match l, h, i0, i1 with
  | x :: y :: r, _, i0, i1 =>
    have e0 : x = a := i0
    have e1 : y = b := i1
    rw [e0, e1]; rfl
  | [], h, _, _ | [_], h, _, _ => rw [size_bOf] at h; simp at h
theorem get_two {d : ByteArray} {a b : UInt8} (h : 2 ≤ d.size) (i0 : d[0]'(by omega) = a) (i1 : d[1]'(by omega) = b) : getN 2 (bOf (d.toList.take 2)) = a.toNat * 256 + b.toNat ∧ getE 2 (bOf (d.toList.take 2)) = 0 := by
  rw [two_of h i0 i1]
  unfold getN getE
  rw [size_bOf, if_neg (by simp), if_neg (by simp), if_neg (by simp), if_neg (by simp), toList_bOf]
  exact ⟨by simp [val], rfl⟩
set_option maxHeartbeats 2000000 in
set_option maxRecDepth 100000 in
theorem rejected_no (c i : UInt8) (d : ByteArray) (w : World) (hc : ((c.toNat : Int) != 8) = true) :
    Calls Tryz.prog 60 #[.agg #[.int .u8 c.toNat, .int .u8 i.toNat, .string d]] w fun e w' => e = .returned (.tuple #[.int .u16 0, .string ⟨#[]⟩, .int .i64 2]) ∧ Below w.heap.size w w' := by
  obtain ⟨W, hW, HW⟩ := box_one w c i d
  obtain ⟨g, hg⟩ : ∃ g, w.heap.size = g := ⟨_, rfl⟩
  rw [hg] at HW
  have p0 : W.cell? ⟨g, 0, none⟩ = some (.int .u8 c.toNat) := HW.out.2.at_ 0
  have p1 : W.cell? ⟨g, 1, none⟩ = some (.int .u8 i.toNat) := HW.out.2.at_ 1
  have p2 : W.cell? ⟨g, 2, none⟩ = some (.string d) := HW.out.2.at_ 2
  have HB := Lib.hid HW.out.1
  clear HW
  go_enter Tryz.func60, Tryz.ntmps60
  go_wp2
  go_ret3
  exact ⟨rfl, by rw [hg]; exact HB.out⟩

set_option maxHeartbeats 2000000 in
set_option maxRecDepth 100000 in
theorem rejected_short (c i : UInt8) (d : ByteArray) (w : World) (hc : ((c.toNat : Int) != 8) = false) (hd : d.size < 2) :
    Calls Tryz.prog 60 #[.agg #[.int .u8 c.toNat, .int .u8 i.toNat, .string d]] w fun e w' => e = .returned (.tuple #[.int .u16 0, .string ⟨#[]⟩, .int .i64 6]) ∧ Below w.heap.size w w' := by
  obtain ⟨W, hW, HW⟩ := box_one w c i d
  obtain ⟨g, hg⟩ : ∃ g, w.heap.size = g := ⟨_, rfl⟩
  rw [hg] at HW
  have p0 : W.cell? ⟨g, 0, none⟩ = some (.int .u8 c.toNat) := HW.out.2.at_ 0
  have p1 : W.cell? ⟨g, 1, none⟩ = some (.int .u8 i.toNat) := HW.out.2.at_ 1
  have p2 : W.cell? ⟨g, 2, none⟩ = some (.string d) := HW.out.2.at_ 2
  have HB := Lib.hid HW.out.1
  have C := Lib.hid (fun w => cut_v d 2 w (by unfold maxLen; omega))
  rw [cutV_end d 2 (by omega) (by omega)] at C
  clear HW hd
  go_enter Tryz.func60, Tryz.ntmps60
  go_wp2_with fail
  refine (C.out _).mono ?_
  rintro e w1 ⟨rfl, k, rfl⟩
  go_wp2
  go_ret3
  exact ⟨rfl, by rw [hg]; exact HB.out.drewN' k⟩

set_option maxHeartbeats 2000000 in
set_option maxRecDepth 100000 in
theorem rejected_ok (c i : UInt8) (d : ByteArray) (a b : UInt8) (w : World) (hc : ((c.toNat : Int) != 8) = false) (hd : 2 ≤ d.size) (hs : d.size ≤ maxLen) (i0 : d[0]'(by omega) = a) (i1 : d[1]'(by omega) = b) :
    Calls Tryz.prog 60 #[.agg #[.int .u8 c.toNat, .int .u8 i.toNat, .string d]] w fun e w' => e = .returned (.tuple #[.int .u16 (a.toNat * 256 + b.toNat : Nat), .string (bOf (d.toList.drop 2)), .int .i64 0]) ∧ Below w.heap.size w w' := by
  obtain ⟨W, hW, HW⟩ := box_one w c i d
  obtain ⟨g, hg⟩ : ∃ g, w.heap.size = g := ⟨_, rfl⟩
  rw [hg] at HW
  have p0 : W.cell? ⟨g, 0, none⟩ = some (.int .u8 c.toNat) := HW.out.2.at_ 0
  have p1 : W.cell? ⟨g, 1, none⟩ = some (.int .u8 i.toNat) := HW.out.2.at_ 1
  have p2 : W.cell? ⟨g, 2, none⟩ = some (.string d) := HW.out.2.at_ 2
  have HB := Lib.hid HW.out.1
  have C := Lib.hid (fun w => cut_v d 2 w hs)
  rw [cutV_ok d 2 (by omega) (by omega)] at C
  have G := Lib.hid (fun w => get16_any (bOf (d.toList.take 2)) w (by rw [size_bOf]; exact Nat.le_trans (List.length_take_le _ _) (by decide)))
  rw [(get_two hd i0 i1).1, (get_two hd i0 i1).2] at G
  rw [show (2 : Int).toNat = 2 from rfl] at C
  generalize bOf (d.toList.take 2) = X at *
  generalize bOf (d.toList.drop 2) = Y at *
  generalize a.toNat * 256 + b.toNat = n at *
  clear HW i0 i1
  go_enter Tryz.func60, Tryz.ntmps60
  go_wp2_with fail
  refine (C.out _).mono ?_
  rintro e w1 ⟨rfl, k, rfl⟩
  go_wp2_with fail
  refine (G.out _).mono ?_
  rintro e w1 ⟨rfl, k2, rfl⟩
  go_wp2
  go_ret3
  exact ⟨rfl, by rw [hg]; exact HB.out.drewN' (k + k2)⟩

set_option maxHeartbeats 2000000 in
set_option maxRecDepth 100000 in
theorem inner_no (c i : UInt8) (d : ByteArray) (w : World) (hc : ((c.toNat : Int) != 7) = true) :
    Calls Tryz.prog 59 #[.agg #[.int .u8 c.toNat, .int .u8 i.toNat, .string d]] w fun e w' => e = .returned (.tuple #[.agg #[.int .u8 0, .int .u8 0, .string ⟨#[]⟩], .int .i64 2]) ∧ Below w.heap.size w w' := by
  obtain ⟨W, hW, HW⟩ := res_two w c i d
  obtain ⟨g, hg⟩ : ∃ g, w.heap.size = g := ⟨_, rfl⟩
  rw [hg] at HW
  have HR := Lib.hid HW.out.1
  have p0 : W.cell? ⟨g, 0, none⟩ = some (.int .u8 c.toNat) := HW.out.2.at_ 0
  have p1 : W.cell? ⟨g, 1, none⟩ = some (.int .u8 i.toNat) := HW.out.2.at_ 1
  have p2 : W.cell? ⟨g, 2, none⟩ = some (.string d) := HW.out.2.at_ 2
  have c0 := HR.out.c0
  have c1 := HR.out.c1
  have c2 := HR.out.c2
  have f0 := HR.out.f 0
  have f1 := HR.out.f 1
  have f2 := HR.out.f 2
  clear HW
  go_enter Tryz.func59, Tryz.ntmps59
  go_wp2
  have HP := HR.out.put 0 0 ⟨#[]⟩
  (try simp only [Exit.inBlock, Exit.then])
  refine bodyPost_ret (results_row1 rfl _ _ (g + 1) _ _ _ rfl HP.1 Tryz.underlying51 rfl (by kernel_rfl)) rfl ?_
  exact ⟨rfl, by first | exact HP.2 | (have h2 := HP.2; rw [hg] at h2; exact h2)⟩

set_option maxHeartbeats 2000000 in
set_option maxRecDepth 100000 in
theorem inner_short (c i : UInt8) (d : ByteArray) (w : World) (hc : ((c.toNat : Int) != 7) = false) (hd : d.size < 4) :
    Calls Tryz.prog 59 #[.agg #[.int .u8 c.toNat, .int .u8 i.toNat, .string d]] w fun e w' => e = .returned (.tuple #[.agg #[.int .u8 0, .int .u8 0, .string ⟨#[]⟩], .int .i64 6]) ∧ Below w.heap.size w w' := by
  obtain ⟨W, hW, HW⟩ := res_two w c i d
  obtain ⟨g, hg⟩ : ∃ g, w.heap.size = g := ⟨_, rfl⟩
  rw [hg] at HW
  have HR := Lib.hid HW.out.1
  have p0 : W.cell? ⟨g, 0, none⟩ = some (.int .u8 c.toNat) := HW.out.2.at_ 0
  have p1 : W.cell? ⟨g, 1, none⟩ = some (.int .u8 i.toNat) := HW.out.2.at_ 1
  have p2 : W.cell? ⟨g, 2, none⟩ = some (.string d) := HW.out.2.at_ 2
  have C := Lib.hid (fun w => cut_v d 4 w (by unfold maxLen; omega))
  rw [cutV_end d 4 (by omega) (by omega)] at C
  clear HW hd
  go_enter Tryz.func59, Tryz.ntmps59
  go_wp2_with fail
  refine (C.out _).mono ?_
  rintro e w1 ⟨rfl, k, rfl⟩
  clear hW
  have HR2 : Hid (Res w (W.drewN k) (g + 1)) := ⟨HR.out.1.drewN k, HR.out.2.1.drewN' k, HR.out.2.2⟩
  have c0 := HR2.out.c0
  have c1 := HR2.out.c1
  have c2 := HR2.out.c2
  have f0 := HR2.out.f 0
  have f1 := HR2.out.f 1
  have f2 := HR2.out.f 2
  go_wp2
  have HP := HR2.out.put 0 0 ⟨#[]⟩
  (try simp only [Exit.inBlock, Exit.then])
  refine bodyPost_ret (results_row1 rfl _ _ (g + 1) _ _ _ rfl HP.1 Tryz.underlying51 rfl (by kernel_rfl)) rfl ?_
  exact ⟨rfl, by first | exact HP.2 | (have h2 := HP.2; rw [hg] at h2; exact h2)⟩

theorem front_of {d : ByteArray} {a b : UInt8} (h : 4 ≤ d.size) (i0 : d[0]'(by omega) = a) (i1 : d[1]'(by omega) = b) : ∃ X, bOf (d.toList.take 4) = X ∧ X.size = 4 ∧ ∃ (h0 : 0 < X.size) (h1 : 1 < X.size), X[0] = a ∧ X[1] = b := by
  obtain ⟨l, rfl⟩ : ∃ l, d = bOf l := ⟨d.toList, (bOf_toList d).symm⟩
  rw [toList_bOf]
  match l, h, i0, i1 with
  | x :: y :: z :: u :: r, _, i0, i1 => exact ⟨_, rfl, rfl, by show 0 < 4; omega, by show 1 < 4; omega, i0, i1⟩
  | [], h, _, _ | [_], h, _, _ | [_, _], h, _, _ | [_, _, _], h, _, _ => rw [size_bOf] at h; simp at h
set_option maxHeartbeats 2000000 in
set_option maxRecDepth 100000 in
theorem inner_ok (c i : UInt8) (d : ByteArray) (a b : UInt8) (w : World) (hc : ((c.toNat : Int) != 7) = false) (hd : 4 ≤ d.size) (hs : d.size ≤ maxLen) (i0 : d[0]'(by omega) = a) (i1 : d[1]'(by omega) = b) :
    Calls Tryz.prog 59 #[.agg #[.int .u8 c.toNat, .int .u8 i.toNat, .string d]] w fun e w' => e = .returned (.tuple #[.agg #[.int .u8 a.toNat, .int .u8 b.toNat, .string (bOf (d.toList.drop 4))], .int .i64 0]) ∧ Below w.heap.size w w' := by
  obtain ⟨W, hW, HW⟩ := res_two w c i d
  obtain ⟨g, hg⟩ : ∃ g, w.heap.size = g := ⟨_, rfl⟩
  rw [hg] at HW
  have HR := Lib.hid HW.out.1
  have p0 : W.cell? ⟨g, 0, none⟩ = some (.int .u8 c.toNat) := HW.out.2.at_ 0
  have p1 : W.cell? ⟨g, 1, none⟩ = some (.int .u8 i.toNat) := HW.out.2.at_ 1
  have p2 : W.cell? ⟨g, 2, none⟩ = some (.string d) := HW.out.2.at_ 2
  have C := Lib.hid (fun w => cut_v d 4 w hs)
  rw [cutV_ok d 4 (by omega) (by omega), show (4 : Int).toNat = 4 from rfl] at C
  obtain ⟨X, hX, hz, x0, x1, e0, e1⟩ := front_of hd i0 i1
  rw [hX] at C
  have hz1 : (X.size : Int) = 4 := by omega
  generalize bOf (d.toList.drop 4) = Y at *
  clear HW i0 i1 hX hd hs hz
  go_enter Tryz.func59, Tryz.ntmps59
  go_wp2_with fail
  refine (C.out _).mono ?_
  rintro e w1 ⟨rfl, k, rfl⟩
  clear hW
  have HR2 : Hid (Res w (W.drewN k) (g + 1)) := ⟨HR.out.1.drewN k, HR.out.2.1.drewN' k, HR.out.2.2⟩
  generalize W.drewN k = W2 at *
  have c0 := HR2.out.c0
  have c1 := HR2.out.c1
  have c2 := HR2.out.c2
  have f0 := HR2.out.f 0
  have f1 := HR2.out.f 1
  have f2 := HR2.out.f 2
  go_wp2
  go_region
  go_wp2
  have HP := HR2.out.put a.toNat b.toNat Y
  (try simp only [Exit.inBlock, Exit.then])
  refine bodyPost_ret (results_row1 rfl _ _ (g + 1) _ _ _ rfl HP.1.drew Tryz.underlying51 rfl (by kernel_rfl)) rfl ?_
  exact ⟨rfl, by first | exact HP.2.drew | (have h2 := HP.2.drew; rw [hg] at h2; exact h2)⟩

set_option maxHeartbeats 2000000 in
set_option maxRecDepth 100000 in
theorem reply_long (c i : UInt8) (d s : ByteArray) (k : Int) (w : World) (hs : 1496 < s.size) :
    Calls Tryz.prog 70 #[.agg #[.int .u8 c.toNat, .int .u8 i.toNat, .string d], .int .u8 k, .string s] w fun e w' => e = .returned (.tuple #[.agg #[.int .u8 0, .int .u8 0, .string ⟨#[]⟩], .int .i64 5]) ∧ Below w.heap.size w w' := by
  obtain ⟨W, hW, HW⟩ := res_two w c i d
  obtain ⟨g, hg⟩ : ∃ g, w.heap.size = g := ⟨_, rfl⟩
  rw [hg] at HW
  have HR := Lib.hid HW.out.1
  have p0 : W.cell? ⟨g, 0, none⟩ = some (.int .u8 c.toNat) := HW.out.2.at_ 0
  have p1 : W.cell? ⟨g, 1, none⟩ = some (.int .u8 i.toNat) := HW.out.2.at_ 1
  have p2 : W.cell? ⟨g, 2, none⟩ = some (.string d) := HW.out.2.at_ 2
  have c0 := HR.out.c0
  have c1 := HR.out.c1
  have c2 := HR.out.c2
  have f0 := HR.out.f 0
  have f1 := HR.out.f 1
  have f2 := HR.out.f 2
  have h1 : 1496 < (s.size : Int) := by omega
  clear HW hs
  go_enter Tryz.func70, Tryz.ntmps70
  go_wp2
  have HP := HR.out.put 0 0 ⟨#[]⟩
  (try simp only [Exit.inBlock, Exit.then])
  refine bodyPost_ret (results_row1 rfl _ _ (g + 1) _ _ _ rfl HP.1 Tryz.underlying51 rfl (by kernel_rfl)) rfl ?_
  exact ⟨rfl, by first | exact HP.2 | (have h2 := HP.2; rw [hg] at h2; exact h2)⟩

set_option maxHeartbeats 2000000 in
set_option maxRecDepth 100000 in
theorem reply_ok (c i : UInt8) (d s : ByteArray) (k : Int) (w : World) (hs : s.size ≤ 1496) :
    Calls Tryz.prog 70 #[.agg #[.int .u8 c.toNat, .int .u8 i.toNat, .string d], .int .u8 k, .string s] w fun e w' => e = .returned (.tuple #[.agg #[.int .u8 k, .int .u8 i.toNat, .string s], .int .i64 0]) ∧ Below w.heap.size w w' := by
  obtain ⟨W, hW, HW⟩ := res_two w c i d
  obtain ⟨g, hg⟩ : ∃ g, w.heap.size = g := ⟨_, rfl⟩
  rw [hg] at HW
  have HR := Lib.hid HW.out.1
  have p0 : W.cell? ⟨g, 0, none⟩ = some (.int .u8 c.toNat) := HW.out.2.at_ 0
  have p1 : W.cell? ⟨g, 1, none⟩ = some (.int .u8 i.toNat) := HW.out.2.at_ 1
  have p2 : W.cell? ⟨g, 2, none⟩ = some (.string d) := HW.out.2.at_ 2
  have c0 := HR.out.c0
  have c1 := HR.out.c1
  have c2 := HR.out.c2
  have f0 := HR.out.f 0
  have f1 := HR.out.f 1
  have f2 := HR.out.f 2
  have h1 : ¬ 1496 < (s.size : Int) := by omega
  clear HW hs
  go_enter Tryz.func70, Tryz.ntmps70
  go_wp2
  have HP := HR.out.put k i.toNat s
  (try simp only [Exit.inBlock, Exit.then])
  refine bodyPost_ret (results_row1 rfl _ _ (g + 1) _ _ _ rfl HP.1 Tryz.underlying51 rfl (by kernel_rfl)) rfl ?_
  exact ⟨rfl, by first | exact HP.2 | (have h2 := HP.2; rw [hg] at h2; exact h2)⟩

end Go.Proofs.YtgefodpnhifmdaaGreat.Rej
