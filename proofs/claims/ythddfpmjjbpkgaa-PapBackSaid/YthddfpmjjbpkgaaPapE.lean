/- Contracts of pap's build, and of Request and Answer, of both. -/
import Derived.Test.YthddfpmjjbpkgaaPapPure
import Derived.Test.YthddfpmjjbpkgaaRjoin8
import Derived.Test.YthddfpmjjbpkgaaRes
namespace Go.Proofs.Ythddfpmjjbpkgaa.Pap
open Go.RowKit Go.Proofs.Ythddfpmjjbpkgaa.Oct Go.Proofs.Ythddfpmjjbpkgaa.Row Go.Proofs.Ythddfpmjjbpkgaa.Mem

/-- A packet of the texts l, or none. -/
def pkB (l : List ByteArray) (c : UInt8) : UInt8 := if joinE l = 0 then c else 0
def pkV (c i : UInt8) (l : List ByteArray) : Value := .tuple #[.agg #[.int .u8 (pkB l c).toNat, .int .u8 (pkB l i).toNat, .string (joinS l)], .int .i64 (joinE l)]
theorem join_bad {l : List ByteArray} (h : joinE l ≠ 0) : joinE l = 5 ∧ joinS l = bOf [] := by
  unfold joinE joinS at *
  split at h
  · exact absurd rfl h
  · rename_i ha
    rw [if_neg ha, if_neg ha]
    exact ⟨rfl, rfl⟩
theorem pkV_no {c i : UInt8} {l : List ByteArray} (h : joinE l ≠ 0) : pkV c i l = .tuple #[.agg #[.int .u8 0, .int .u8 0, .string (bOf [])], .int .i64 5] := by
  simp [pkV, pkB, h, (join_bad h).1, (join_bad h).2]
theorem pkV_ok {c i : UInt8} {l : List ByteArray} (h : joinE l = 0) : pkV c i l = .tuple #[.agg #[.int .u8 c.toNat, .int .u8 i.toNat, .string (joinS l)], .int .i64 0] := by
  simp [pkV, pkB, h]

set_option maxHeartbeats 2000000 in
set_option maxRecDepth 100000 in
theorem build_any (c i : UInt8) (A : Option Addr) (n cap : Nat) (l : List ByteArray) (w : World) (hl : Strs w w.heap.size A n l) (hn : n ≤ 1000000) :
    Calls Try.prog 16 #[.int .u8 c.toNat, .int .u8 i.toNat, .slice A n cap] w fun e w' => e = .returned (pkV c i l) ∧ Below w.heap.size w w' := by
  obtain ⟨W, hW, HW⟩ := res_one w
  obtain ⟨g, hg⟩ : ∃ g, w.heap.size = g := ⟨_, rfl⟩
  rw [hg] at HW
  have HR := HW
  clear HW
  have J : Hid (Calls Try.prog 21 #[.slice A n cap] W fun e w' => e = .returned (.tuple #[.string (joinS l), .int .i64 (joinE l)]) ∧ Below W.heap.size W w') :=
    join8_any A n cap l W ((hl.below HR.out.2.1).more HR.out.size) hn
  clear hl hn
  by_cases h0 : joinE l = 0
  · rw [pkV_ok h0]
    rw [h0] at J
    clear h0
    generalize joinS l = D at *
    go_enter Try.func16, Try.ntmps16
    go_wp2_with fail
    refine J.out.mono ?_
    rintro e w1 ⟨rfl, hb⟩
    clear hW
    have HR2 := Lib.hid (HR.out.callee hb)
    clear hb
    have c0 := HR2.out.c0
    have c1 := HR2.out.c1
    have c2 := HR2.out.c2
    have f0 := HR2.out.f 0
    have f1 := HR2.out.f 1
    have f2 := HR2.out.f 2
    go_wp2
    have HP := HR2.out.put c.toNat i.toNat D
    (try simp only [Exit.inBlock, Exit.then])
    refine bodyPost_ret (results_row1 rfl _ _ g _ _ _ rfl HP.1 Try.underlying23 rfl (by kernel_rfl)) rfl ?_
    exact ⟨rfl, by first | exact HP.2 | (have h2 := HP.2; rw [hg] at h2; exact h2)⟩
  · rw [pkV_no h0]
    rw [(join_bad h0).1, (join_bad h0).2] at J
    clear h0
    go_enter Try.func16, Try.ntmps16
    go_wp2_with fail
    refine J.out.mono ?_
    rintro e w1 ⟨rfl, hb⟩
    clear hW
    have HR2 := Lib.hid (HR.out.callee hb)
    clear hb
    have c0 := HR2.out.c0
    have c1 := HR2.out.c1
    have c2 := HR2.out.c2
    have f0 := HR2.out.f 0
    have f1 := HR2.out.f 1
    have f2 := HR2.out.f 2
    go_wp2
    have HP := HR2.out.put 0 0 (bOf [])
    (try simp only [Exit.inBlock, Exit.then])
    refine bodyPost_ret (results_row1 rfl _ _ g _ _ _ rfl HP.1 Try.underlying23 rfl (by kernel_rfl)) rfl ?_
    exact ⟨rfl, by first | exact HP.2 | (have h2 := HP.2; rw [hg] at h2; exact h2)⟩

set_option maxHeartbeats 2000000 in
set_option maxRecDepth 100000 in
theorem request_any (i : UInt8) (a b : ByteArray) (w : World) (ha : a.size ≤ maxLen) (hb : b.size ≤ maxLen) :
    Calls Try.prog 7 #[.int .u8 i.toNat, .string a, .string b] w fun e w' => e = .returned (pkV 1 i [a, b]) ∧ Below w.heap.size w w' := by
  obtain ⟨W, hW, HW⟩ := res_one w
  obtain ⟨g, hg⟩ : ∃ g, w.heap.size = g := ⟨_, rfl⟩
  rw [hg] at HW
  have HR := HW
  clear HW
  obtain ⟨G, hG⟩ : ∃ G, W.heap.size = G := ⟨_, rfl⟩
  have hWs : w.heap.size + 1 = G := by rw [← hG, ← hW, World.size_alloc]
  have J : Hid (∀ w', W.alloc (.cells #[.string a, .string b] 9) = w' → Calls Try.prog 16 #[.int .u8 1, .int .u8 i.toNat, .slice (some ⟨G, 0, none⟩) 2 2] w' fun e w'' => e = .returned (pkV 1 i [a, b]) ∧ Below w'.heap.size w' w'') := by
    rintro w' rfl
    have := build_any 1 i _ 2 2 [a, b] _ (strs_two_new W a b 9 ha hb) (by decide)
    rw [hG] at this
    exact this
  have HR1 := Lib.hid (HR.out.alloc (.cells #[.string a, .string b] 9))
  unfold pkV at *
  generalize pkB [a, b] 1 = C at *
  generalize pkB [a, b] i = I at *
  generalize joinS [a, b] = D at *
  generalize joinE [a, b] = E at *
  clear ha hb HR
  go_enter Try.func7, Try.ntmps7
  go_wp2_with fail
  refine (J.out _ (by rw [← hW])).mono ?_
  rintro e w1 ⟨rfl, hb⟩
  have HR2 := Lib.hid (HR1.out.callee (by first | exact hb | (rw [← hW]; exact hb)))
  clear hW hb hWs hG J HR1
  have c0 := HR2.out.c0
  have c1 := HR2.out.c1
  have c2 := HR2.out.c2
  have f0 := HR2.out.f 0
  have f1 := HR2.out.f 1
  have f2 := HR2.out.f 2
  go_wp2
  have HP := HR2.out.put C.toNat I.toNat D
  (try simp only [Exit.inBlock, Exit.then])
  refine bodyPost_ret (results_row1 rfl _ _ g _ _ _ rfl HP.1 Try.underlying23 rfl (by kernel_rfl)) rfl ?_
  exact ⟨rfl, by first | exact HP.2 | (have h2 := HP.2; rw [hg] at h2; exact h2)⟩

set_option maxHeartbeats 2000000 in
set_option maxRecDepth 100000 in
theorem answer_any (i : UInt8) (v : Bool) (a : ByteArray) (w : World) (ha : a.size ≤ maxLen) :
    Calls Try.prog 9 #[.int .u8 i.toNat, .bool v, .string a] w fun e w' => e = .returned (pkV (if v then 2 else 3) i [a]) ∧ Below w.heap.size w w' := by
  obtain ⟨W, hW, HW⟩ := res_one w
  obtain ⟨g, hg⟩ : ∃ g, w.heap.size = g := ⟨_, rfl⟩
  rw [hg] at HW
  have HR := HW
  clear HW
  obtain ⟨G, hG⟩ : ∃ G, W.heap.size = G := ⟨_, rfl⟩
  have hWs : w.heap.size + 1 = G := by rw [← hG, ← hW, World.size_alloc]
  have HR1 := Lib.hid (HR.out.alloc (.cells #[.string a] 9))
  cases v
  · have J : Hid (∀ w', W.alloc (.cells #[.string a] 9) = w' → Calls Try.prog 16 #[.int .u8 3, .int .u8 i.toNat, .slice (some ⟨G, 0, none⟩) 1 1] w' fun e w'' => e = .returned (pkV 3 i [a]) ∧ Below w'.heap.size w' w'') := by
      rintro w' rfl
      have := build_any 3 i _ 1 1 [a] _ (strs_one_new W a 9 ha) (by decide)
      rw [hG] at this
      exact this
    simp only [if_true, Bool.false_eq_true, if_false]
    unfold pkV at *
    generalize pkB [a] 3 = C at *
    generalize pkB [a] i = I at *
    generalize joinS [a] = D at *
    generalize joinE [a] = E at *
    clear ha HR
    go_enter Try.func9, Try.ntmps9
    go_wp2_with fail
    refine (J.out _ (by rw [← hW])).mono ?_
    rintro e w1 ⟨rfl, hb⟩
    have HR2 := Lib.hid (HR1.out.callee (by first | exact hb | (rw [← hW]; exact hb)))
    clear hW hb hWs hG J HR1
    have c0 := HR2.out.c0
    have c1 := HR2.out.c1
    have c2 := HR2.out.c2
    have f0 := HR2.out.f 0
    have f1 := HR2.out.f 1
    have f2 := HR2.out.f 2
    go_wp2
    have HP := HR2.out.put C.toNat I.toNat D
    (try simp only [Exit.inBlock, Exit.then])
    refine bodyPost_ret (results_row1 rfl _ _ g _ _ _ rfl HP.1 Try.underlying23 rfl (by kernel_rfl)) rfl ?_
    exact ⟨rfl, by first | exact HP.2 | (have h2 := HP.2; rw [hg] at h2; exact h2)⟩
  · have J : Hid (∀ w', W.alloc (.cells #[.string a] 9) = w' → Calls Try.prog 16 #[.int .u8 2, .int .u8 i.toNat, .slice (some ⟨G, 0, none⟩) 1 1] w' fun e w'' => e = .returned (pkV 2 i [a]) ∧ Below w'.heap.size w' w'') := by
      rintro w' rfl
      have := build_any 2 i _ 1 1 [a] _ (strs_one_new W a 9 ha) (by decide)
      rw [hG] at this
      exact this
    simp only [if_true, Bool.false_eq_true, if_false]
    unfold pkV at *
    generalize pkB [a] 2 = C at *
    generalize pkB [a] i = I at *
    generalize joinS [a] = D at *
    generalize joinE [a] = E at *
    clear ha HR
    go_enter Try.func9, Try.ntmps9
    go_wp2_with fail
    refine (J.out _ (by rw [← hW])).mono ?_
    rintro e w1 ⟨rfl, hb⟩
    have HR2 := Lib.hid (HR1.out.callee (by first | exact hb | (rw [← hW]; exact hb)))
    clear hW hb hWs hG J HR1
    have c0 := HR2.out.c0
    have c1 := HR2.out.c1
    have c2 := HR2.out.c2
    have f0 := HR2.out.f 0
    have f1 := HR2.out.f 1
    have f2 := HR2.out.f 2
    go_wp2
    have HP := HR2.out.put C.toNat I.toNat D
    (try simp only [Exit.inBlock, Exit.then])
    refine bodyPost_ret (results_row1 rfl _ _ g _ _ _ rfl HP.1 Try.underlying23 rfl (by kernel_rfl)) rfl ?_
    exact ⟨rfl, by first | exact HP.2 | (have h2 := HP.2; rw [hg] at h2; exact h2)⟩

set_option maxHeartbeats 2000000 in
set_option maxRecDepth 100000 in
theorem rrequest_any (i : UInt8) (a b : ByteArray) (w : World) (ha : a.size ≤ maxLen) (hb : b.size ≤ maxLen) :
    Calls Try.prog 8 #[.int .u8 i.toNat, .string a, .string b] w fun e w' => e = .returned (pkV 1 i [a, b]) ∧ Below w.heap.size w w' := by
  obtain ⟨W, hW, HW⟩ := res_one w
  obtain ⟨g, hg⟩ : ∃ g, w.heap.size = g := ⟨_, rfl⟩
  rw [hg] at HW
  have HR := HW
  clear HW
  obtain ⟨G, hG⟩ : ∃ G, W.heap.size = G := ⟨_, rfl⟩
  have hWs : w.heap.size + 1 = G := by rw [← hG, ← hW, World.size_alloc]
  have J : Hid (∀ w', W.alloc (.cells #[.string a, .string b] 9) = w' → Calls Try.prog 17 #[.slice (some ⟨G, 0, none⟩) 2 2] w' fun e w'' => e = .returned (.tuple #[.string (joinS [a, b]), .int .i64 (joinE [a, b])]) ∧ Below w'.heap.size w' w'') := by
    rintro w' rfl
    have := rjoin8_any _ 2 2 [a, b] _ (strs_two_new W a b 9 ha hb) (by decide)
    rw [hG] at this
    exact this
  have HR1 := Lib.hid (HR.out.alloc (.cells #[.string a, .string b] 9))
  clear ha hb HR
  by_cases h0 : joinE [a, b] = 0
  · rw [pkV_ok h0]
    rw [h0] at J
    clear h0
    generalize joinS [a, b] = D at *
    go_enter Try.func8, Try.ntmps8
    go_wp2_with fail
    refine (J.out _ (by rw [← hW])).mono ?_
    rintro e w1 ⟨rfl, hb⟩
    have HR2 := Lib.hid (HR1.out.callee (by first | exact hb | (rw [← hW]; exact hb)))
    clear hW hb hWs hG J HR1
    have c0 := HR2.out.c0
    have c1 := HR2.out.c1
    have c2 := HR2.out.c2
    have f0 := HR2.out.f 0
    have f1 := HR2.out.f 1
    have f2 := HR2.out.f 2
    go_wp2
    have HP := HR2.out.put 1 i.toNat D
    (try simp only [Exit.inBlock, Exit.then])
    refine bodyPost_ret (results_row1 rfl _ _ g _ _ _ rfl HP.1 Try.underlying23 rfl (by kernel_rfl)) rfl ?_
    exact ⟨rfl, by first | exact HP.2 | (have h2 := HP.2; rw [hg] at h2; exact h2)⟩
  · rw [pkV_no h0]
    rw [(join_bad h0).1, (join_bad h0).2] at J
    clear h0
    go_enter Try.func8, Try.ntmps8
    go_wp2_with fail
    refine (J.out _ (by rw [← hW])).mono ?_
    rintro e w1 ⟨rfl, hb⟩
    have HR2 := Lib.hid (HR1.out.callee (by first | exact hb | (rw [← hW]; exact hb)))
    clear hW hb hWs hG J HR1
    have c0 := HR2.out.c0
    have c1 := HR2.out.c1
    have c2 := HR2.out.c2
    have f0 := HR2.out.f 0
    have f1 := HR2.out.f 1
    have f2 := HR2.out.f 2
    go_wp2
    have HP := HR2.out.put 0 0 (bOf [])
    (try simp only [Exit.inBlock, Exit.then])
    refine bodyPost_ret (results_row1 rfl _ _ g _ _ _ rfl HP.1 Try.underlying23 rfl (by kernel_rfl)) rfl ?_
    exact ⟨rfl, by first | exact HP.2 | (have h2 := HP.2; rw [hg] at h2; exact h2)⟩

set_option maxHeartbeats 2000000 in
set_option maxRecDepth 100000 in
theorem ranswer_any (i : UInt8) (v : Bool) (a : ByteArray) (w : World) (ha : a.size ≤ maxLen) :
    Calls Try.prog 10 #[.int .u8 i.toNat, .bool v, .string a] w fun e w' => e = .returned (pkV (if v then 2 else 3) i [a]) ∧ Below w.heap.size w w' := by
  obtain ⟨W, hW, HW⟩ := res_one w
  obtain ⟨g, hg⟩ : ∃ g, w.heap.size = g := ⟨_, rfl⟩
  rw [hg] at HW
  have HR := HW
  clear HW
  have J : Hid (Calls Try.prog 18 #[.string a] W fun e w' => e = .returned (.tuple #[.string (joinS [a]), .int .i64 (joinE [a])]) ∧ Below W.heap.size W w') := rtext8_any a W ha
  clear ha
  by_cases h0 : joinE [a] = 0
  · rw [pkV_ok h0]
    rw [h0] at J
    clear h0
    generalize joinS [a] = D at *
    cases v
    · go_enter Try.func10, Try.ntmps10
      go_wp2_with fail
      refine J.out.mono ?_
      rintro e w1 ⟨rfl, hb⟩
      clear hW
      have HR2 := Lib.hid (HR.out.callee hb)
      clear hb
      have c0 := HR2.out.c0
      have c1 := HR2.out.c1
      have c2 := HR2.out.c2
      have f0 := HR2.out.f 0
      have f1 := HR2.out.f 1
      have f2 := HR2.out.f 2
      go_wp2
      have HP := HR2.out.put 3 i.toNat D
      (try simp only [Exit.inBlock, Exit.then])
      refine bodyPost_ret (results_row1 rfl _ _ g _ _ _ rfl HP.1 Try.underlying23 rfl (by kernel_rfl)) rfl ?_
      exact ⟨rfl, by first | exact HP.2 | (have h2 := HP.2; rw [hg] at h2; exact h2)⟩
    · go_enter Try.func10, Try.ntmps10
      go_wp2_with fail
      refine J.out.mono ?_
      rintro e w1 ⟨rfl, hb⟩
      clear hW
      have HR2 := Lib.hid (HR.out.callee hb)
      clear hb
      have c0 := HR2.out.c0
      have c1 := HR2.out.c1
      have c2 := HR2.out.c2
      have f0 := HR2.out.f 0
      have f1 := HR2.out.f 1
      have f2 := HR2.out.f 2
      go_wp2
      have HP := HR2.out.put 2 i.toNat D
      (try simp only [Exit.inBlock, Exit.then])
      refine bodyPost_ret (results_row1 rfl _ _ g _ _ _ rfl HP.1 Try.underlying23 rfl (by kernel_rfl)) rfl ?_
      exact ⟨rfl, by first | exact HP.2 | (have h2 := HP.2; rw [hg] at h2; exact h2)⟩
  · rw [pkV_no h0]
    rw [(join_bad h0).1, (join_bad h0).2] at J
    clear h0
    go_enter Try.func10, Try.ntmps10
    go_wp2_with fail
    refine J.out.mono ?_
    rintro e w1 ⟨rfl, hb⟩
    clear hW
    have HR2 := Lib.hid (HR.out.callee hb)
    clear hb
    have c0 := HR2.out.c0
    have c1 := HR2.out.c1
    have c2 := HR2.out.c2
    have f0 := HR2.out.f 0
    have f1 := HR2.out.f 1
    have f2 := HR2.out.f 2
    go_wp2
    have HP := HR2.out.put 0 0 (bOf [])
    (try simp only [Exit.inBlock, Exit.then])
    refine bodyPost_ret (results_row1 rfl _ _ g _ _ _ rfl HP.1 Try.underlying23 rfl (by kernel_rfl)) rfl ?_
    exact ⟨rfl, by first | exact HP.2 | (have h2 := HP.2; rw [hg] at h2; exact h2)⟩
end Go.Proofs.Ythddfpmjjbpkgaa.Pap
