/- Contracts of package reject's Proto, and of the document's. -/
import Derived.Test.YtfcndljbijcbkaaRejC
import Derived.Test.YtfcndljbijcbkaaPut16
namespace Go.Proofs.Ytfcndljbijcbkaa.Rej
open Go.RowKit Go.Proofs.Ytfcndljbijcbkaa.Oct Go.Proofs.Ytfcndljbijcbkaa.Row Go.Proofs.Ytfcndljbijcbkaa.Mem Go.Proofs.Ytfcndljbijcbkaa.Pkt Go.Proofs.Ytfcndljbijcbkaa.Bld

set_option maxHeartbeats 2000000 in
set_option maxRecDepth 100000 in
theorem proto_bad (id : UInt8) (p : Nat) (s : ByteArray) (m : Int) (w : World) (hm : may m = false) :
    Calls Try.prog 8 #[.int .u8 id.toNat, .int .u16 p, .string s, .int .i64 m] w fun e w' => e = .returned (.tuple #[.agg #[.int .u8 0, .int .u8 0, .string ⟨#[]⟩], .int .i64 2]) ∧ Below w.heap.size w w' := by
  obtain ⟨W, hW, HW⟩ := res_one w
  obtain ⟨g, hg⟩ : ∃ g, w.heap.size = g := ⟨_, rfl⟩
  rw [hg] at HW
  have HR := HW
  have M := Lib.hid (fun w => mru_any m w)
  rw [hm] at M
  have c0 := HR.out.c0
  have c1 := HR.out.c1
  have c2 := HR.out.c2
  have f0 := HR.out.f 0
  have f1 := HR.out.f 1
  have f2 := HR.out.f 2
  clear hm HW
  go_enter Try.func8, Try.ntmps8
  go_wp2_with fail
  refine (M.out _).mono ?_
  rintro e w1 ⟨rfl, rfl⟩
  clear hW
  go_wp2
  have HP := HR.out.put 0 0 ⟨#[]⟩
  (try simp only [Exit.inBlock, Exit.then])
  refine bodyPost_ret (results_row1 rfl _ _ g _ _ _ rfl HP.1 Try.underlying23 rfl (by kernel_rfl)) rfl ?_
  exact ⟨rfl, by first | exact HP.2 | (have h2 := HP.2; rw [hg] at h2; exact h2)⟩

set_option maxHeartbeats 2000000 in
set_option maxRecDepth 100000 in
theorem proto_ok (id : UInt8) (p : Nat) (s : ByteArray) (m : Nat) (w : World) (hp : p < 65536) (hm0 : 64 ≤ m) (hm1 : m ≤ 65535) (hs : s.size ≤ maxLen) :
    Calls Try.prog 8 #[.int .u8 id.toNat, .int .u16 p, .string s, .int .i64 m] w fun e w' => e = .returned (.tuple #[.agg #[.int .u8 8, .int .u8 id.toNat, .string (bOf ((numS p 2 ++ s.toList).take (sp m)))], .int .i64 0]) ∧ Below w.heap.size w w' := by
  obtain ⟨W, hW, HW⟩ := res_one w
  obtain ⟨g, hg⟩ : ∃ g, w.heap.size = g := ⟨_, rfl⟩
  rw [hg] at HW
  have HR := HW
  have M := Lib.hid (fun w => mru_any m w)
  rw [may_yes hm0 hm1] at M
  have P := Lib.hid (fun w => put16_any p w hp)
  obtain ⟨X, hX⟩ : ∃ X, bOf (numS p 2) = X := ⟨_, rfl⟩
  have HXs : Hid (X.size ≤ maxLen ∧ s.size ≤ maxLen) := ⟨by rw [← hX, size_bOf, numS_length]; decide, hs⟩
  have F := Lib.hid (fun A w hl => fill_any m A 2 2 [X, s] w hm0 hm1 (by decide) hl)
  have HY : bOf ((cat [X, s]).take (sp m)) = bOf ((numS p 2 ++ s.toList).take (sp m)) := by rw [cat_two, ← hX, toList_bOf]
  rw [HY] at F
  rw [hX] at P
  generalize bOf ((numS p 2 ++ s.toList).take (sp m)) = Y at *
  clear hX HY HW hp hs
  go_enter Try.func8, Try.ntmps8
  go_wp2_with fail
  refine (M.out _).mono ?_
  rintro e w1 ⟨rfl, rfl⟩
  clear hW
  go_wp2_with fail
  refine (P.out _).mono ?_
  rintro e w2 ⟨rfl, hb2⟩
  have HR2 := Lib.hid (HR.out.callee hb2)
  clear hb2
  go_wp2_with fail
  refine (F.out _ _ (strs_two_new w2 X s _ HXs.out.1 HXs.out.2)).mono ?_
  rintro e w3 ⟨rfl, hb3⟩
  have HR3 := Lib.hid ((HR2.out.alloc _).callee hb3)
  clear hb3
  have c0 := HR3.out.c0
  have c1 := HR3.out.c1
  have c2 := HR3.out.c2
  have f0 := HR3.out.f 0
  have f1 := HR3.out.f 1
  have f2 := HR3.out.f 2
  go_wp2
  have HP := HR3.out.put 8 id.toNat Y
  (try simp only [Exit.inBlock, Exit.then])
  refine bodyPost_ret (results_row1 rfl _ _ g _ _ _ rfl HP.1 Try.underlying23 rfl (by kernel_rfl)) rfl ?_
  exact ⟨rfl, by first | exact HP.2 | (have h2 := HP.2; rw [hg] at h2; exact h2)⟩

set_option maxHeartbeats 2000000 in
set_option maxRecDepth 100000 in
theorem rproto_ok (id : UInt8) (p : Nat) (s : ByteArray) (m : Nat) (w : World) (hp : p < 65536) (hm0 : 64 ≤ m) (hm1 : m ≤ 65535) (hs : s.size ≤ 1048576) :
    Calls Try.prog 16 #[.int .u8 id.toNat, .int .u16 p, .string s, .int .i64 m] w fun e w' => e = .returned (.agg #[.int .u8 8, .int .u8 id.toNat, .string (bOf ((numS p 2 ++ s.toList).take (sp m)))]) ∧ Below w.heap.size w w' := by
  obtain ⟨W, hW, HW⟩ := res_one w
  obtain ⟨g, hg⟩ : ∃ g, w.heap.size = g := ⟨_, rfl⟩
  rw [hg] at HW
  have HR := HW
  have hcv := conv_new (P := Try.prog) W 47 9 5 5 Try.underlying47 Try.underlying5 Try.underlying9 [(p : Int) / 256, (p : Int) % 256] 2
  simp only [List.length_cons, List.length_nil, List.map_cons, List.map_nil] at hcv
  have hx : strOfNums [(p : Int) / 256, (p : Int) % 256] = bOf (numS p 2) := by
    rw [nums_bOf, numS_two]
    congr 1
    simp only [List.map_cons, List.map_nil]
    congr 1
    · congr 1; omega
  rw [hx] at hcv
  have HXs : Hid ((bOf (numS p 2) ++ s).size ≤ maxLen) := by show _ ≤ _; rw [ByteArray.size_append, size_bOf, numS_length]; unfold maxLen; omega
  have hq : ¬ 9223372036854775807 < (bOf (numS p 2)).size + s.size := by rw [size_bOf, numS_length]; omega
  have F := Lib.hid (fun w => rcut_any (bOf (numS p 2) ++ s) m w hm0 hm1 HXs.out)
  rw [show (bOf (numS p 2) ++ s).toList = numS p 2 ++ s.toList by rw [append_bOf, toList_bOf, toList_bOf]] at F
  generalize bOf ((numS p 2 ++ s.toList).take (sp m)) = Y at *
  clear hx
  generalize bOf (numS p 2) = X at *
  have h1 : (0 : Int) ≤ p := by omega
  have h2 : (p : Int) ≤ 65535 := by omega
  clear HW hp hs
  go_enter Try.func16, Try.ntmps16
  go_wp2_with fail
  refine (F.out _).mono ?_
  rintro e w3 ⟨rfl, rfl⟩
  clear hW hcv
  have HR2 := Lib.hid (HR.out.alloc (.cells #[.int .u8 ((p : Int) / 256), .int .u8 ((p : Int) % 256)] 5))
  generalize W.alloc (.cells #[.int .u8 ((p : Int) / 256), .int .u8 ((p : Int) % 256)] 5) = W2 at *
  have c0 := HR2.out.c0
  have c1 := HR2.out.c1
  have c2 := HR2.out.c2
  have f0 := HR2.out.f 0
  have f1 := HR2.out.f 1
  have f2 := HR2.out.f 2
  go_wp2
  have HP := HR2.out.put 8 id.toNat Y
  (try simp only [Exit.inBlock, Exit.then])
  refine bodyPost_ret (results_cell_row rfl _ _ g _ _ _ _ rfl HP.1 Try.underlying23 rfl (by kernel_rfl)) rfl ?_
  exact ⟨rfl, HP.2⟩
end Go.Proofs.Ytfcndljbijcbkaa.Rej
