/- Contracts of pap's build, and of Request and Answer, of both. -/
import Derived.Test.YtpfbknbloeilmaaDoorPapPure
import Derived.Test.YtpfbknbloeilmaaDoorPapDef
import Derived.Test.YtpfbknbloeilmaaDoorJoin8
import Derived.Test.YtpfbknbloeilmaaDoorRes
namespace Go.Proofs.YtpfbknbloeilmaaDoor.Pap
open Go.RowKit Go.Proofs.YtpfbknbloeilmaaDoor.Oct Go.Proofs.YtpfbknbloeilmaaDoor.Row Go.Proofs.YtpfbknbloeilmaaDoor.Mem

set_option maxHeartbeats 2000000 in
set_option maxRecDepth 100000 in
theorem build_any (c i : UInt8) (A : Option Addr) (n cap : Nat) (l : List ByteArray) (w : World) (hl : Strs w w.heap.size A n l) (hn : n ≤ 1000000) :
    Calls Tryd.prog 48 #[.int .u8 c.toNat, .int .u8 i.toNat, .slice A n cap] w fun e w' => e = .returned (pkV c i l) ∧ Below w.heap.size w w' := by
  obtain ⟨W, hW, HW⟩ := res_one w
  obtain ⟨g, hg⟩ : ∃ g, w.heap.size = g := ⟨_, rfl⟩
  rw [hg] at HW
  have HR := HW
  clear HW
  have J : Hid (Calls Tryd.prog 65 #[.slice A n cap] W fun e w' => e = .returned (.tuple #[.string (joinS l), .int .i64 (joinE l)]) ∧ Below W.heap.size W w') :=
    join8_any A n cap l W ((hl.below HR.out.2.1).more HR.out.size) hn
  clear hl hn
  by_cases h0 : joinE l = 0
  · rw [pkV_ok h0]
    rw [h0] at J
    clear h0
    generalize joinS l = D at *
    go_enter Tryd.func48, Tryd.ntmps48
    go_wp2_with fail
    refine J.out.mono ?_
    rintro e w1 ⟨rfl, hb⟩
    clear hW
    have HR2 := Lib.hid (HR.out.callee hb)
    clear hb
    have c0 := HR2.out.c0
    have c1 := HR2.out.c1
    have c2 := HR2.out.c2
    have f0 := HR2.out.f 0
    have f1 := HR2.out.f 1
    have f2 := HR2.out.f 2
    go_wp2
    have HP := HR2.out.put c.toNat i.toNat D
    (try simp only [Exit.inBlock, Exit.then])
    refine bodyPost_ret (results_row1 rfl _ _ g _ _ _ rfl HP.1 Tryd.underlying46 rfl (by kernel_rfl)) rfl ?_
    exact ⟨rfl, by first | exact HP.2 | (have h2 := HP.2; rw [hg] at h2; exact h2)⟩
  · rw [pkV_no h0]
    rw [(join_bad h0).1, (join_bad h0).2] at J
    clear h0
    go_enter Tryd.func48, Tryd.ntmps48
    go_wp2_with fail
    refine J.out.mono ?_
    rintro e w1 ⟨rfl, hb⟩
    clear hW
    have HR2 := Lib.hid (HR.out.callee hb)
    clear hb
    have c0 := HR2.out.c0
    have c1 := HR2.out.c1
    have c2 := HR2.out.c2
    have f0 := HR2.out.f 0
    have f1 := HR2.out.f 1
    have f2 := HR2.out.f 2
    go_wp2
    have HP := HR2.out.put 0 0 (bOf [])
    (try simp only [Exit.inBlock, Exit.then])
    refine bodyPost_ret (results_row1 rfl _ _ g _ _ _ rfl HP.1 Tryd.underlying46 rfl (by kernel_rfl)) rfl ?_
    exact ⟨rfl, by first | exact HP.2 | (have h2 := HP.2; rw [hg] at h2; exact h2)⟩

set_option maxHeartbeats 2000000 in
set_option maxRecDepth 100000 in
theorem request_any (i : UInt8) (a b : ByteArray) (w : World) (ha : a.size ≤ maxLen) (hb : b.size ≤ maxLen) :
    Calls Tryd.prog 24 #[.int .u8 i.toNat, .string a, .string b] w fun e w' => e = .returned (pkV 1 i [a, b]) ∧ Below w.heap.size w w' := by
  obtain ⟨W, hW, HW⟩ := res_one w
  obtain ⟨g, hg⟩ : ∃ g, w.heap.size = g := ⟨_, rfl⟩
  rw [hg] at HW
  have HR := HW
  clear HW
  obtain ⟨G, hG⟩ : ∃ G, W.heap.size = G := ⟨_, rfl⟩
  have hWs : w.heap.size + 1 = G := by rw [← hG, ← hW, World.size_alloc]
  have J : Hid (∀ w', W.alloc (.cells #[.string a, .string b] 9) = w' → Calls Tryd.prog 48 #[.int .u8 1, .int .u8 i.toNat, .slice (some ⟨G, 0, none⟩) 2 2] w' fun e w'' => e = .returned (pkV 1 i [a, b]) ∧ Below w'.heap.size w' w'') := by
    rintro w' rfl
    have := build_any 1 i _ 2 2 [a, b] _ (strs_two_new W a b 9 ha hb) (by decide)
    rw [hG] at this
    exact this
  have HR1 := Lib.hid (HR.out.alloc (.cells #[.string a, .string b] 9))
  unfold pkV at *
  generalize pkB [a, b] 1 = C at *
  generalize pkB [a, b] i = I at *
  generalize joinS [a, b] = D at *
  generalize joinE [a, b] = E at *
  clear ha hb HR
  go_enter Tryd.func24, Tryd.ntmps24
  go_wp2_with fail
  refine (J.out _ (by rw [← hW])).mono ?_
  rintro e w1 ⟨rfl, hb⟩
  have HR2 := Lib.hid (HR1.out.callee (by first | exact hb | (rw [← hW]; exact hb)))
  clear hW hb hWs hG J HR1
  have c0 := HR2.out.c0
  have c1 := HR2.out.c1
  have c2 := HR2.out.c2
  have f0 := HR2.out.f 0
  have f1 := HR2.out.f 1
  have f2 := HR2.out.f 2
  go_wp2
  have HP := HR2.out.put C.toNat I.toNat D
  (try simp only [Exit.inBlock, Exit.then])
  refine bodyPost_ret (results_row1 rfl _ _ g _ _ _ rfl HP.1 Tryd.underlying46 rfl (by kernel_rfl)) rfl ?_
  exact ⟨rfl, by first | exact HP.2 | (have h2 := HP.2; rw [hg] at h2; exact h2)⟩

set_option maxHeartbeats 2000000 in
set_option maxRecDepth 100000 in
theorem answer_any (i : UInt8) (v : Bool) (a : ByteArray) (w : World) (ha : a.size ≤ maxLen) :
    Calls Tryd.prog 87 #[.int .u8 i.toNat, .bool v, .string a] w fun e w' => e = .returned (pkV (if v then 2 else 3) i [a]) ∧ Below w.heap.size w w' := by
  obtain ⟨W, hW, HW⟩ := res_one w
  obtain ⟨g, hg⟩ : ∃ g, w.heap.size = g := ⟨_, rfl⟩
  rw [hg] at HW
  have HR := HW
  clear HW
  obtain ⟨G, hG⟩ : ∃ G, W.heap.size = G := ⟨_, rfl⟩
  have hWs : w.heap.size + 1 = G := by rw [← hG, ← hW, World.size_alloc]
  have HR1 := Lib.hid (HR.out.alloc (.cells #[.string a] 9))
  cases v
  · have J : Hid (∀ w', W.alloc (.cells #[.string a] 9) = w' → Calls Tryd.prog 48 #[.int .u8 3, .int .u8 i.toNat, .slice (some ⟨G, 0, none⟩) 1 1] w' fun e w'' => e = .returned (pkV 3 i [a]) ∧ Below w'.heap.size w' w'') := by
      rintro w' rfl
      have := build_any 3 i _ 1 1 [a] _ (strs_one_new W a 9 ha) (by decide)
      rw [hG] at this
      exact this
    simp only [if_true, Bool.false_eq_true, if_false]
    unfold pkV at *
    generalize pkB [a] 3 = C at *
    generalize pkB [a] i = I at *
    generalize joinS [a] = D at *
    generalize joinE [a] = E at *
    clear ha HR
    go_enter Tryd.func87, Tryd.ntmps87
    go_wp2_with fail
    refine (J.out _ (by rw [← hW])).mono ?_
    rintro e w1 ⟨rfl, hb⟩
    have HR2 := Lib.hid (HR1.out.callee (by first | exact hb | (rw [← hW]; exact hb)))
    clear hW hb hWs hG J HR1
    have c0 := HR2.out.c0
    have c1 := HR2.out.c1
    have c2 := HR2.out.c2
    have f0 := HR2.out.f 0
    have f1 := HR2.out.f 1
    have f2 := HR2.out.f 2
    go_wp2
    have HP := HR2.out.put C.toNat I.toNat D
    (try simp only [Exit.inBlock, Exit.then])
    refine bodyPost_ret (results_row1 rfl _ _ g _ _ _ rfl HP.1 Tryd.underlying46 rfl (by kernel_rfl)) rfl ?_
    exact ⟨rfl, by first | exact HP.2 | (have h2 := HP.2; rw [hg] at h2; exact h2)⟩
  · have J : Hid (∀ w', W.alloc (.cells #[.string a] 9) = w' → Calls Tryd.prog 48 #[.int .u8 2, .int .u8 i.toNat, .slice (some ⟨G, 0, none⟩) 1 1] w' fun e w'' => e = .returned (pkV 2 i [a]) ∧ Below w'.heap.size w' w'') := by
      rintro w' rfl
      have := build_any 2 i _ 1 1 [a] _ (strs_one_new W a 9 ha) (by decide)
      rw [hG] at this
      exact this
    simp only [if_true, Bool.false_eq_true, if_false]
    unfold pkV at *
    generalize pkB [a] 2 = C at *
    generalize pkB [a] i = I at *
    generalize joinS [a] = D at *
    generalize joinE [a] = E at *
    clear ha HR
    go_enter Tryd.func87, Tryd.ntmps87
    go_wp2_with fail
    refine (J.out _ (by rw [← hW])).mono ?_
    rintro e w1 ⟨rfl, hb⟩
    have HR2 := Lib.hid (HR1.out.callee (by first | exact hb | (rw [← hW]; exact hb)))
    clear hW hb hWs hG J HR1
    have c0 := HR2.out.c0
    have c1 := HR2.out.c1
    have c2 := HR2.out.c2
    have f0 := HR2.out.f 0
    have f1 := HR2.out.f 1
    have f2 := HR2.out.f 2
    go_wp2
    have HP := HR2.out.put C.toNat I.toNat D
    (try simp only [Exit.inBlock, Exit.then])
    refine bodyPost_ret (results_row1 rfl _ _ g _ _ _ rfl HP.1 Tryd.underlying46 rfl (by kernel_rfl)) rfl ?_
    exact ⟨rfl, by first | exact HP.2 | (have h2 := HP.2; rw [hg] at h2; exact h2)⟩

end Go.Proofs.YtpfbknbloeilmaaDoor.Pap
