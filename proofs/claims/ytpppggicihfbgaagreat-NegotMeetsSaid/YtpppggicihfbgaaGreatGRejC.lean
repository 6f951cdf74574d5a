/- Put together: RejC, RejE. -/
import Derived.Test.YtpppggicihfbgaaGreatGRejA
import Derived.Test.YtpppggicihfbgaaGreatGPut16
import Derived.Test.YtpppggicihfbgaaGreatRes
import Derived.Test.YtpppggicihfbgaaGreatCut
import Derived.Test.YtpppggicihfbgaaGreatGHasEx

/- Contracts of package reject's Code, and of the document's. -/
namespace Go.Proofs.YtpppggicihfbgaaGreat.Rej
open Go.RowKit Go.Proofs.YtpppggicihfbgaaGreat.Oct Go.Proofs.YtpppggicihfbgaaGreat.Row Go.Proofs.YtpppggicihfbgaaGreat.Mem Go.Proofs.YtpppggicihfbgaaGreat.Pkt Go.Proofs.YtpppggicihfbgaaGreat.Bld

theorem may_yes {m : Nat} (h0 : 64 ≤ m) (h1 : m ≤ 65535) : may m = true := by simp [may]; omega

set_option maxHeartbeats 2000000 in
set_option maxRecDepth 100000 in
theorem code_long (id c i : UInt8) (d : ByteArray) (m : Int) (w : World) (hm : may m = true) (hd : 1496 < d.size) :
    Calls Tryz.prog 80 #[.int .u8 id.toNat, .agg #[.int .u8 c.toNat, .int .u8 i.toNat, .string d], .int .i64 m] w fun e w' => e = .returned (.tuple #[.agg #[.int .u8 0, .int .u8 0, .string ⟨#[]⟩], .int .i64 5]) ∧ Below w.heap.size w w' := by
  obtain ⟨W, hW, HW⟩ := res_two w c i d
  obtain ⟨g, hg⟩ : ∃ g, w.heap.size = g := ⟨_, rfl⟩
  rw [hg] at HW
  have HR := Lib.hid HW.out.1
  have M := Lib.hid (fun w => mru_any m w)
  rw [hm] at M
  have P := Lib.hid (fun w => put_long c i d w hd)
  have p0 : W.cell? ⟨g, 0, none⟩ = some (.int .u8 c.toNat) := HW.out.2.at_ 0
  have p1 : W.cell? ⟨g, 1, none⟩ = some (.int .u8 i.toNat) := HW.out.2.at_ 1
  have p2 : W.cell? ⟨g, 2, none⟩ = some (.string d) := HW.out.2.at_ 2
  clear hm HW hd
  go_enter Tryz.func80, Tryz.ntmps80
  go_wp2_with fail
  refine (M.out _).mono ?_
  rintro e w1 ⟨rfl, rfl⟩
  clear hW
  go_wp2_with fail
  refine (P.out _).mono ?_
  rintro e w2 ⟨rfl, hb2⟩
  have HR2 := Lib.hid (HR.out.callee hb2)
  clear hb2
  have c0 := HR2.out.c0
  have c1 := HR2.out.c1
  have c2 := HR2.out.c2
  have f0 := HR2.out.f 0
  have f1 := HR2.out.f 1
  have f2 := HR2.out.f 2
  go_wp2
  have HP := HR2.out.put 0 0 ⟨#[]⟩
  (try simp only [Exit.inBlock, Exit.then])
  refine bodyPost_ret (results_row1 rfl _ _ (g + 1) _ _ _ rfl HP.1 Tryz.underlying56 rfl (by kernel_rfl)) rfl ?_
  exact ⟨rfl, by first | exact HP.2 | (have h2 := HP.2; rw [hg] at h2; exact h2)⟩

set_option maxHeartbeats 2000000 in
set_option maxRecDepth 100000 in
theorem code_ok (id c i : UInt8) (d : ByteArray) (m : Nat) (w : World) (hm0 : 64 ≤ m) (hm1 : m ≤ 65535) (hd : d.size ≤ 1496) :
    Calls Tryz.prog 80 #[.int .u8 id.toNat, .agg #[.int .u8 c.toNat, .int .u8 i.toNat, .string d], .int .i64 m] w fun e w' => e = .returned (.tuple #[.agg #[.int .u8 7, .int .u8 id.toNat, .string (bOf ((enc c i d.toList).take (sp m)))], .int .i64 0]) ∧ Below w.heap.size w w' := by
  obtain ⟨W, hW, HW⟩ := res_two w c i d
  obtain ⟨g, hg⟩ : ∃ g, w.heap.size = g := ⟨_, rfl⟩
  rw [hg] at HW
  have HR := Lib.hid HW.out.1
  have M := Lib.hid (fun w => mru_any m w)
  rw [may_yes hm0 hm1] at M
  have P := Lib.hid (fun w => put_ok c i d w hd)
  obtain ⟨X, hX⟩ : ∃ X, bOf (enc c i d.toList) = X := ⟨_, rfl⟩
  have HXs : Hid (X.size ≤ maxLen) := by show _ ≤ _; rw [← hX, size_bOf, enc_length, ← size_toList]; unfold maxLen; omega
  have F := Lib.hid (fun A w hl => fill_any m A 1 1 [X] w hm0 hm1 (by decide) hl)
  have HY : bOf ((cat [X]).take (sp m)) = bOf ((enc c i d.toList).take (sp m)) := by rw [cat_one, ← hX, toList_bOf]
  rw [HY] at F
  rw [hX] at P
  generalize bOf ((enc c i d.toList).take (sp m)) = Y at *
  have p0 : W.cell? ⟨g, 0, none⟩ = some (.int .u8 c.toNat) := HW.out.2.at_ 0
  have p1 : W.cell? ⟨g, 1, none⟩ = some (.int .u8 i.toNat) := HW.out.2.at_ 1
  have p2 : W.cell? ⟨g, 2, none⟩ = some (.string d) := HW.out.2.at_ 2
  clear hX HY HW hd
  go_enter Tryz.func80, Tryz.ntmps80
  go_wp2_with fail
  refine (M.out _).mono ?_
  rintro e w1 ⟨rfl, rfl⟩
  clear hW
  go_wp2_with fail
  refine (P.out _).mono ?_
  rintro e w2 ⟨rfl, hb2⟩
  have HR2 := Lib.hid (HR.out.callee hb2)
  clear hb2 p0 p1 p2
  go_wp2_with fail
  refine (F.out _ _ (strs_one_new w2 X _ HXs.out)).mono ?_
  rintro e w3 ⟨rfl, hb3⟩
  have HR3 := Lib.hid ((HR2.out.alloc _).callee hb3)
  clear hb3
  have c0 := HR3.out.c0
  have c1 := HR3.out.c1
  have c2 := HR3.out.c2
  have f0 := HR3.out.f 0
  have f1 := HR3.out.f 1
  have f2 := HR3.out.f 2
  go_wp2
  have HP := HR3.out.put 7 id.toNat Y
  (try simp only [Exit.inBlock, Exit.then])
  refine bodyPost_ret (results_row1 rfl _ _ (g + 1) _ _ _ rfl HP.1 Tryz.underlying56 rfl (by kernel_rfl)) rfl ?_
  exact ⟨rfl, by first | exact HP.2 | (have h2 := HP.2; rw [hg] at h2; exact h2)⟩

end Go.Proofs.YtpppggicihfbgaaGreat.Rej

/- Contracts of package reject's Rejected, Inner and Reply, and of the document's. -/
namespace Go.Proofs.YtpppggicihfbgaaGreat.Rej
open Go.RowKit Go.Proofs.YtpppggicihfbgaaGreat.Oct Go.Proofs.YtpppggicihfbgaaGreat.Row Go.Proofs.YtpppggicihfbgaaGreat.Mem Go.Proofs.YtpppggicihfbgaaGreat.Pkt Go.Proofs.YtpppggicihfbgaaGreat.Bld
set_option linter.unusedVariables false








set_option maxHeartbeats 2000000 in
set_option maxRecDepth 100000 in
theorem reply_ok (c i : UInt8) (d s : ByteArray) (k : Int) (w : World) (hs : s.size ≤ 1496) :
    Calls Tryz.prog 79 #[.agg #[.int .u8 c.toNat, .int .u8 i.toNat, .string d], .int .u8 k, .string s] w fun e w' => e = .returned (.tuple #[.agg #[.int .u8 k, .int .u8 i.toNat, .string s], .int .i64 0]) ∧ Below w.heap.size w w' := by
  obtain ⟨W, hW, HW⟩ := res_two w c i d
  obtain ⟨g, hg⟩ : ∃ g, w.heap.size = g := ⟨_, rfl⟩
  rw [hg] at HW
  have HR := Lib.hid HW.out.1
  have p0 : W.cell? ⟨g, 0, none⟩ = some (.int .u8 c.toNat) := HW.out.2.at_ 0
  have p1 : W.cell? ⟨g, 1, none⟩ = some (.int .u8 i.toNat) := HW.out.2.at_ 1
  have p2 : W.cell? ⟨g, 2, none⟩ = some (.string d) := HW.out.2.at_ 2
  have c0 := HR.out.c0
  have c1 := HR.out.c1
  have c2 := HR.out.c2
  have f0 := HR.out.f 0
  have f1 := HR.out.f 1
  have f2 := HR.out.f 2
  have h1 : ¬ 1496 < (s.size : Int) := by omega
  clear HW hs
  go_enter Tryz.func79, Tryz.ntmps79
  go_wp2
  have HP := HR.out.put k i.toNat s
  (try simp only [Exit.inBlock, Exit.then])
  refine bodyPost_ret (results_row1 rfl _ _ (g + 1) _ _ _ rfl HP.1 Tryz.underlying56 rfl (by kernel_rfl)) rfl ?_
  exact ⟨rfl, by first | exact HP.2 | (have h2 := HP.2; rw [hg] at h2; exact h2)⟩

end Go.Proofs.YtpppggicihfbgaaGreat.Rej
