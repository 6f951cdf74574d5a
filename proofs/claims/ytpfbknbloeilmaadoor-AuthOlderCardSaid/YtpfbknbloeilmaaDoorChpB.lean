/- Contracts of chap's proof and build, of Challenge, Response and Answer. -/
import Derived.Test.YtpfbknbloeilmaaDoorChpA
import Derived.Test.YtpfbknbloeilmaaDoorMd5So
import Derived.Test.YtpfbknbloeilmaaDoorRes
namespace Go.Proofs.YtpfbknbloeilmaaDoor.Chp
open Go.RowKit Go.Proofs.YtpfbknbloeilmaaDoor.Oct Go.Proofs.YtpfbknbloeilmaaDoor.Row Go.Proofs.YtpfbknbloeilmaaDoor.Mem Go.Proofs.YtpfbknbloeilmaaDoor.Md5

theorem one_byte (i : UInt8) : strOfNums [(i.toNat : Int)] = bOf [i] := by
  rw [nums_bOf]
  simp
theorem strs_three_new (w : World) (s u v : ByteArray) (t : TypeId) (hs : s.size ≤ maxLen) (hu : u.size ≤ maxLen) (hv : v.size ≤ maxLen) : Strs (w.alloc (.cells #[.string s, .string u, .string v] t)) (w.alloc (.cells #[.string s, .string u, .string v] t)).heap.size (some ⟨w.heap.size, 0, none⟩) 3 [s, u, v] := by
  refine ⟨rfl, by simp [hs, hu, hv], fun _ => ⟨_, rfl, by show w.heap.size < _; rw [World.size_alloc]; exact Nat.lt_succ_self _, fun j hj => ?_⟩⟩
  exact cells_new w #[.string s, .string u, .string v] t j _ (by match j, hj with | 0, _ => rfl | 1, _ => rfl | 2, _ => rfl)
theorem cat_three (i : UInt8) (s v : ByteArray) : bOf (md5 (cat [bOf [i], s, v])) = dg i s v := by
  rw [dg]; congr 2; simp [cat, toList_bOf]

set_option maxHeartbeats 2000000 in
set_option maxRecDepth 100000 in
theorem proof_any (i : UInt8) (s v : ByteArray) (w : World) (hs : s.size ≤ 8192) (hv : v.size ≤ 8192) (hG : Globs w) :
    Calls Tryd.prog 40 #[.int .u8 i.toNat, .string s, .string v] w fun e w' => e = .returned (.string (dg i s v)) ∧ Below w.heap.size w w' := by
  have HB : Hid (Below w.heap.size w (w.alloc (.cells #[.int .u8 i.toNat] 5))) := (Below.refl _ w).alloc (Nat.le_refl _) _
  have HB2 : Hid (Below w.heap.size w ((w.alloc (.cells #[.int .u8 i.toNat] 5)).alloc (.cells #[.string (bOf [i]), .string s, .string v] 9))) := HB.out.alloc HB.out.size _
  have HS : Hid (Calls Tryd.prog 11 #[.slice (some ⟨w.heap.size + 1, 0, none⟩) 3 3] ((w.alloc (.cells #[.int .u8 i.toNat] 5)).alloc (.cells #[.string (bOf [i]), .string s, .string v] 9)) fun e w' => e = .returned (.string (dg i s v)) ∧ Below ((w.alloc (.cells #[.int .u8 i.toNat] 5)).alloc (.cells #[.string (bOf [i]), .string s, .string v] 9)).heap.size ((w.alloc (.cells #[.int .u8 i.toNat] 5)).alloc (.cells #[.string (bOf [i]), .string s, .string v] 9)) w') := by
    have h := sum_any (some ⟨(w.alloc (.cells #[.int .u8 i.toNat] 5)).heap.size, 0, none⟩) 3 3 [bOf [i], s, v] ((w.alloc (.cells #[.int .u8 i.toNat] 5)).alloc (.cells #[.string (bOf [i]), .string s, .string v] 9)) (by unfold maxLen; omega)
      (strs_three_new _ _ _ _ _ (by rw [size_bOf]; unfold maxLen; simp) (by unfold maxLen; omega) (by unfold maxLen; omega)) (hG.below HB2.out) (by simp [cat, toList_bOf]; rw [← size_toList, ← size_toList]; omega)
    rw [cat_three, World.size_alloc] at h
    exact h
  have hcv := conv_new (P := Tryd.prog) w 47 9 5 5 (by kernel_rfl) (by kernel_rfl) (by kernel_rfl) [(i.toNat : Int)] 1
  rw [one_byte] at hcv
  simp only [List.length_cons, List.length_nil, List.map_cons, List.map_nil] at hcv
  have hz : (bOf [i]).size ≤ 1 := by rw [size_bOf]; exact Nat.le_refl _
  generalize dg i s v = D at *
  generalize bOf [i] = I at *
  clear hG hs hv
  go_enter Tryd.func40, Tryd.ntmps40
  go_wp2_with fail
  refine HS.out.mono ?_
  rintro e w1 ⟨rfl, hb⟩
  have HB3 := Lib.hid (HB2.out.trans (hb.mono HB2.out.size))
  clear hb
  go_wp2
  go_ret
  exact ⟨rfl, HB3.out⟩

set_option maxHeartbeats 2000000 in
set_option maxRecDepth 100000 in
theorem build_any (c i : UInt8) (n : ByteArray) (A : Option Addr) (m cap : Nat) (l : List ByteArray) (w : World) (hl : Strs w w.heap.size A m l) (hm : m ≤ 1000000) (hn : n.size ≤ 140737488351232) (hz : (joinS l).size ≤ 1000) :
    Calls Tryd.prog 39 #[.int .u8 c.toNat, .int .u8 i.toNat, .string n, .slice A m cap] w fun e w' => e = .returned (pkV (laE n) c i (joinS l ++ n)) ∧ Below w.heap.size w w' := by
  obtain ⟨W, hW, HW⟩ := res_one w
  obtain ⟨g, hg⟩ : ∃ g, w.heap.size = g := ⟨_, rfl⟩
  rw [hg] at HW
  have HR := HW
  clear HW
  have J : Hid (Calls Tryd.prog 65 #[.slice A m cap] W fun e w' => e = .returned (.tuple #[.string (joinS l), .int .i64 (joinE l)]) ∧ Below W.heap.size W w') :=
    join8_any A m cap l W ((hl.below HR.out.2.1).more HR.out.size) hm
  clear hl hm
  by_cases h0 : 255 < n.size
  · rw [pkV_no (by rw [laE, if_pos h0]; decide), laE, if_pos h0]
    have hi : (255 : Int) < (n.size : Int) := by omega
    clear h0 J
    have c0 := HR.out.c0
    have c1 := HR.out.c1
    have c2 := HR.out.c2
    have f0 := HR.out.f 0
    have f1 := HR.out.f 1
    have f2 := HR.out.f 2
    go_enter Tryd.func39, Tryd.ntmps39
    go_wp2_with fail
    have HP := HR.out.put 0 0 (bOf [])
    (try simp only [Exit.inBlock, Exit.then])
    refine bodyPost_ret (results_row1 rfl _ _ g _ _ _ rfl HP.1 Tryd.underlying46 rfl (by kernel_rfl)) rfl ?_
    exact ⟨rfl, by first | exact HP.2 | (have h2 := HP.2; rw [hg] at h2; exact h2)⟩
  · rw [pkV_ok (by rw [laE, if_neg h0])]
    have hi : ¬ (255 : Int) < (n.size : Int) := by omega
    clear h0
    generalize joinS l = D at *
    generalize joinE l = E at *
    go_enter Tryd.func39, Tryd.ntmps39
    go_wp2_with fail
    refine J.out.mono ?_
    rintro e w1 ⟨rfl, hb⟩
    clear hW
    have HR2 := Lib.hid (HR.out.callee hb)
    clear hb
    have c0 := HR2.out.c0
    have c1 := HR2.out.c1
    have c2 := HR2.out.c2
    have f0 := HR2.out.f 0
    have f1 := HR2.out.f 1
    have f2 := HR2.out.f 2
    go_wp2
    have HP := HR2.out.put c.toNat i.toNat (D ++ n)
    (try simp only [Exit.inBlock, Exit.then])
    refine bodyPost_ret (results_row1 rfl _ _ g _ _ _ rfl HP.1 Tryd.underlying46 rfl (by kernel_rfl)) rfl ?_
    exact ⟨rfl, by first | exact HP.2 | (have h2 := HP.2; rw [hg] at h2; exact h2)⟩

theorem strs_nil (w : World) : Strs w w.heap.size none 0 [] := ⟨rfl, (fun _ h => by cases h), fun h => absurd h (Nat.lt_irrefl 0)⟩
set_option maxHeartbeats 2000000 in
set_option maxRecDepth 100000 in
theorem answer_any (i : UInt8) (b : Bool) (n : ByteArray) (w : World) (hn : n.size ≤ 140737488351232) :
    Calls Tryd.prog 88 #[.int .u8 i.toNat, .bool b, .string n] w fun e w' => e = .returned (pkV (laE n) (if b = true then 3 else 4) i n) ∧ Below w.heap.size w w' := by
  obtain ⟨W, hW, HW⟩ := res_one w
  obtain ⟨g, hg⟩ : ∃ g, w.heap.size = g := ⟨_, rfl⟩
  rw [hg] at HW
  have HR := HW
  clear HW
  have J : Hid (∀ c : UInt8, Calls Tryd.prog 39 #[.int .u8 c.toNat, .int .u8 i.toNat, .string n, .slice none 0 0] W fun e w' => e = .returned (pkV (laE n) c i n) ∧ Below W.heap.size W w') := fun c => by
    have h := build_any c i n none 0 0 [] W (strs_nil W) (by omega) hn (by show (bOf []).size ≤ _; rw [size_bOf]; simp)
    rw [append_none] at h
    exact h
  clear hn
  obtain ⟨a3, b3, s3, hp3, -⟩ := pkV_any (laE n) 3 i n
  obtain ⟨a4, b4, s4, hp4, -⟩ := pkV_any (laE n) 4 i n
  have J3 := Lib.hid (J.out 3)
  have J4 := Lib.hid (J.out 4)
  rw [hp3] at J3
  rw [hp4] at J4
  clear J
  cases b
  · rw [if_neg (by decide), hp4]
    clear hp3 hp4 J3
    generalize laE n = E at *
    go_enter Tryd.func88, Tryd.ntmps88
    go_wp2_with fail
    refine J4.out.mono ?_
    rintro e w1 ⟨rfl, hb⟩
    clear hW
    have HR2 := Lib.hid (HR.out.callee hb)
    clear hb
    have c0 := HR2.out.c0
    have c1 := HR2.out.c1
    have c2 := HR2.out.c2
    have f0 := HR2.out.f 0
    have f1 := HR2.out.f 1
    have f2 := HR2.out.f 2
    go_wp2
    have HP := HR2.out.put a4.toNat b4.toNat s4
    (try simp only [Exit.inBlock, Exit.then])
    refine bodyPost_ret (results_row1 rfl _ _ g _ _ _ rfl HP.1 Tryd.underlying46 rfl (by kernel_rfl)) rfl ?_
    exact ⟨rfl, by first | exact HP.2 | (have h2 := HP.2; rw [hg] at h2; exact h2)⟩
  · rw [if_pos rfl, hp3]
    clear hp3 hp4 J4
    generalize laE n = E at *
    go_enter Tryd.func88, Tryd.ntmps88
    go_wp2_with fail
    refine J3.out.mono ?_
    rintro e w1 ⟨rfl, hb⟩
    clear hW
    have HR2 := Lib.hid (HR.out.callee hb)
    clear hb
    have c0 := HR2.out.c0
    have c1 := HR2.out.c1
    have c2 := HR2.out.c2
    have f0 := HR2.out.f 0
    have f1 := HR2.out.f 1
    have f2 := HR2.out.f 2
    go_wp2
    have HP := HR2.out.put a3.toNat b3.toNat s3
    (try simp only [Exit.inBlock, Exit.then])
    refine bodyPost_ret (results_row1 rfl _ _ g _ _ _ rfl HP.1 Tryd.underlying46 rfl (by kernel_rfl)) rfl ?_
    exact ⟨rfl, by first | exact HP.2 | (have h2 := HP.2; rw [hg] at h2; exact h2)⟩

set_option maxHeartbeats 2000000 in
set_option maxRecDepth 100000 in
theorem challenge_any (i : UInt8) (v n : ByteArray) (w : World) (hv : v.size ≤ maxLen) (hn : n.size ≤ 140737488351232) :
    Calls Tryd.prog 89 #[.int .u8 i.toNat, .string v, .string n] w fun e w' => e = .returned (pkV (chE v n) 1 i (vn v n)) ∧ Below w.heap.size w w' := by
  obtain ⟨W, hW, HW⟩ := res_one w
  obtain ⟨g, hg⟩ : ∃ g, w.heap.size = g := ⟨_, rfl⟩
  rw [hg] at HW
  have HR := HW
  clear HW
  by_cases h : v.size < 1 ∨ 255 < v.size
  · have HV := Lib.hid (fun W => isvalue_no v W hv h)
    rw [chE_arg h, pkV_no (by decide)]
    clear h hv hn
    go_enter Tryd.func89, Tryd.ntmps89
    go_wp2_with fail
    refine (HV.out _).mono ?_
    rintro e w1 ⟨rfl, rfl⟩
    clear hW
    have c0 := HR.out.c0
    have c1 := HR.out.c1
    have c2 := HR.out.c2
    have f0 := HR.out.f 0
    have f1 := HR.out.f 1
    have f2 := HR.out.f 2
    go_wp2
    have HP := HR.out.put 0 0 (bOf [])
    (try simp only [Exit.inBlock, Exit.then])
    refine bodyPost_ret (results_row1 rfl _ _ g _ _ _ rfl HP.1 Tryd.underlying46 rfl (by kernel_rfl)) rfl ?_
    exact ⟨rfl, by first | exact HP.2 | (have h2 := HP.2; rw [hg] at h2; exact h2)⟩
  · have HV := Lib.hid (fun W => isvalue_yes v W h)
    have hz : v.size ≤ 255 := by omega
    have J : Hid (Calls Tryd.prog 39 #[.int .u8 1, .int .u8 i.toNat, .string n, .slice (some ⟨W.heap.size, 0, none⟩) 1 1] (W.alloc (.cells #[.string v] 9)) fun e w' => e = .returned (pkV (chE v n) 1 i (vn v n)) ∧ Below (W.alloc (.cells #[.string v] 9)).heap.size (W.alloc (.cells #[.string v] 9)) w') := by
      have h2 := build_any 1 i n _ 1 1 [v] _ (strs_one_new W v 9 hv) (by omega) hn (by rw [(join_one_yes v hz).2, ByteArray.size_append, size_bOf, numS_length]; omega)
      rw [vn_join hz] at h2
      rw [chE_la h]
      exact h2
    obtain ⟨a3, b3, s3, hp3, -⟩ := pkV_any (chE v n) 1 i (vn v n)
    rw [hp3] at J
    rw [hp3]
    have HR1 := Lib.hid (HR.out.alloc (.cells #[.string v] 9))
    generalize chE v n = E at *
    clear h hv hn hz hp3
    go_enter Tryd.func89, Tryd.ntmps89
    go_wp2_with fail
    refine (HV.out _).mono ?_
    rintro e w1 ⟨rfl, rfl⟩
    go_wp2_with fail
    first | refine J.out.mono ?_ | (rw [hW]; refine J.out.mono ?_)
    rintro e w1 ⟨rfl, hb⟩
    clear hW
    have HR2 := Lib.hid (HR1.out.callee hb)
    clear hb
    have c0 := HR2.out.c0
    have c1 := HR2.out.c1
    have c2 := HR2.out.c2
    have f0 := HR2.out.f 0
    have f1 := HR2.out.f 1
    have f2 := HR2.out.f 2
    go_wp2
    have HP := HR2.out.put a3.toNat b3.toNat s3
    (try simp only [Exit.inBlock, Exit.then])
    refine bodyPost_ret (results_row1 rfl _ _ g _ _ _ rfl HP.1 Tryd.underlying46 rfl (by kernel_rfl)) rfl ?_
    exact ⟨rfl, by first | exact HP.2 | (have h2 := HP.2; rw [hg] at h2; exact h2)⟩

set_option maxHeartbeats 2000000 in
set_option maxRecDepth 100000 in
theorem response_any (i : UInt8) (s v n : ByteArray) (w : World) (hs : s.size ≤ 8192) (hv : v.size ≤ 8192) (hn : n.size ≤ 140737488351232) (hG : Globs w) :
    Calls Tryd.prog 18 #[.int .u8 i.toNat, .string s, .string v, .string n] w fun e w' => e = .returned (pkV (chE v n) 2 i (vn (dg i s v) n)) ∧ Below w.heap.size w w' := by
  obtain ⟨W, hW, HW⟩ := res_one w
  obtain ⟨g, hg⟩ : ∃ g, w.heap.size = g := ⟨_, rfl⟩
  have HGW := Lib.hid (hG.below HW.out.2.1)
  rw [hg] at HW
  have HR := HW
  clear HW hG
  by_cases h : v.size < 1 ∨ 255 < v.size
  · have HV := Lib.hid (fun W => isvalue_no v W (by unfold maxLen; omega) h)
    rw [chE_arg h, pkV_no (by decide)]
    clear h hv hn hs
    go_enter Tryd.func18, Tryd.ntmps18
    go_wp2_with fail
    refine (HV.out _).mono ?_
    rintro e w1 ⟨rfl, rfl⟩
    clear hW
    have c0 := HR.out.c0
    have c1 := HR.out.c1
    have c2 := HR.out.c2
    have f0 := HR.out.f 0
    have f1 := HR.out.f 1
    have f2 := HR.out.f 2
    go_wp2
    have HP := HR.out.put 0 0 (bOf [])
    (try simp only [Exit.inBlock, Exit.then])
    refine bodyPost_ret (results_row1 rfl _ _ g _ _ _ rfl HP.1 Tryd.underlying46 rfl (by kernel_rfl)) rfl ?_
    exact ⟨rfl, by first | exact HP.2 | (have h2 := HP.2; rw [hg] at h2; exact h2)⟩
  · have HV := Lib.hid (fun W => isvalue_yes v W h)
    have HQ := Lib.hid (proof_any i s v W hs hv HGW.out)
    have hz := dg_size i s v
    have J : Hid (∀ W : World, Calls Tryd.prog 39 #[.int .u8 2, .int .u8 i.toNat, .string n, .slice (some ⟨W.heap.size, 0, none⟩) 1 1] (W.alloc (.cells #[.string (dg i s v)] 9)) fun e w' => e = .returned (pkV (chE v n) 2 i (vn (dg i s v) n)) ∧ Below (W.alloc (.cells #[.string (dg i s v)] 9)).heap.size (W.alloc (.cells #[.string (dg i s v)] 9)) w') := fun W => by
      have h2 := build_any 2 i n _ 1 1 [dg i s v] _ (strs_one_new W (dg i s v) 9 (by unfold maxLen; omega)) (by omega) hn (by rw [(join_one_yes _ (by omega)).2, ByteArray.size_append, size_bOf, numS_length]; omega)
      rw [vn_join (by omega)] at h2
      rw [chE_la h]
      exact h2
    obtain ⟨a3, b3, s3, hp3, -⟩ := pkV_any (chE v n) 2 i (vn (dg i s v) n)
    rw [hp3] at J
    rw [hp3]
    generalize chE v n = E at *
    clear h hv hn hz hp3 hs
    generalize dg i s v = D at *
    go_enter Tryd.func18, Tryd.ntmps18
    go_wp2_with fail
    refine (HV.out _).mono ?_
    rintro e w1 ⟨rfl, rfl⟩
    go_wp2_with fail
    first | refine HQ.out.mono ?_ | (rw [hW]; refine HQ.out.mono ?_)
    rintro e w1 ⟨rfl, hb⟩
    clear hW
    have HR2 := Lib.hid ((HR.out.callee hb).alloc (.cells #[.string D] 9))
    clear hb
    go_wp2_with fail
    refine (J.out _).mono ?_
    rintro e w2 ⟨rfl, hb⟩
    have HR3 := Lib.hid (HR2.out.callee hb)
    clear hb HR2
    have c0 := HR3.out.c0
    have c1 := HR3.out.c1
    have c2 := HR3.out.c2
    have f0 := HR3.out.f 0
    have f1 := HR3.out.f 1
    have f2 := HR3.out.f 2
    go_wp2
    have HP := HR3.out.put a3.toNat b3.toNat s3
    (try simp only [Exit.inBlock, Exit.then])
    refine bodyPost_ret (results_row1 rfl _ _ g _ _ _ rfl HP.1 Tryd.underlying46 rfl (by kernel_rfl)) rfl ?_
    exact ⟨rfl, by first | exact HP.2 | (have h2 := HP.2; rw [hg] at h2; exact h2)⟩
end Go.Proofs.YtpfbknbloeilmaaDoor.Chp
