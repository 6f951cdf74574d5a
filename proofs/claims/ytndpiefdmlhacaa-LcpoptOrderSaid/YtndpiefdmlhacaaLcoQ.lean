/- The contracts row by row for the laws of layer 9, and 'alive'. -/
import Derived.Test.YtndpiefdmlhacaaLcoE
import Derived.Test.YtndpiefdmlhacaaLcoO
import Derived.Test.YtndpiefdmlhacaaLcoP
import Derived.Test.YtndpiefdmlhacaaOptE
import Derived.Test.YtndpiefdmlhacaaOptsApp
namespace Go.Proofs.Ytndpiefdmlhacaa.Lco
open Go.RowKit Go.Proofs.Ytndpiefdmlhacaa.Oct Go.Proofs.Ytndpiefdmlhacaa.Row Go.Proofs.Ytndpiefdmlhacaa.Mem Go.Proofs.Ytndpiefdmlhacaa.Opt

theorem get_row (l : List Opt) (A : Option Addr) (n c : Nat) (w : World) (hl : Opts w w.heap.size A n l) (hn : n ≤ 1000) : Calls Try.prog 10 #[.slice A n c] w (GetQ l w) := get_any l _ A n c w hl hn (Nat.le_refl _)
theorem rget_row (l : List Opt) (A : Option Addr) (n c : Nat) (w : World) (hl : Opts w w.heap.size A n l) (hn : n ≤ 1000) : Calls Try.prog 11 #[.slice A n c] w (GetQ l w) := rget_any l _ A n c w hl hn (Nat.le_refl _)
theorem getQ_some {l : List Opt} {x : Lcp} {odd : List Opt} (h : st l = some (x, odd)) {w : World} {e : Ending} {w' : World} (hq : GetQ l w e w') : ∃ A c, e = .returned (.tuple #[.agg (lv x).toArray, .slice A odd.length c, .int .i64 0]) ∧ Opts w' w'.heap.size A odd.length odd ∧ Below w.heap.size w w' := by
  unfold GetQ at hq
  rw [(get_some h).1, (get_some h).2.1, (get_some h).2.2] at hq
  exact hq
theorem same_rows (a b : List Opt) (A A' : Option Addr) (n m c c' : Nat) (w : World) (ha : Opts w w.heap.size A n a) (hb : Opts w w.heap.size A' m b) (hn : n ≤ maxLen) (hm : m ≤ maxLen) :
    Calls Try.prog 12 #[.slice A n c, .slice A' m c'] w fun e w' => e = .returned (.bool (sm a b)) ∧ Below w.heap.size w w' := rsame_any a b _ A A' n m c c' w ha hb hn hm (Nat.le_refl _)
theorem same_self (a : List Opt) (A A' : Option Addr) (n m c c' : Nat) (w : World) (ha : Opts w w.heap.size A n a) (hb : Opts w w.heap.size A' m a) (hn : n ≤ maxLen) (hm : m ≤ maxLen) :
    Calls Try.prog 12 #[.slice A n c, .slice A' m c'] w fun e w' => e = .returned (.bool true) ∧ Below w.heap.size w w' := by
  have h := same_rows a a A A' n m c c' w ha hb hn hm
  rw [sm_self] at h
  exact h
theorem alike_rows (a b : List Opt) (A A' : Option Addr) (n m c c' : Nat) (w : World) (ha : Opts w w.heap.size A n a) (hb : Opts w w.heap.size A' m b) (hn : n ≤ maxLen) (hm : m ≤ maxLen) :
    Calls Try.prog 20 #[.slice A n c, .slice A' m c'] w fun e w' => e = .returned (.bool (sm a b)) ∧ Below w.heap.size w w' := alike_any a b _ A A' n m c c' w ha hb hn hm (Nat.le_refl _)
theorem long_row (l : List Opt) (A : Option Addr) (n c : Nat) (w : World) (hl : Opts w w.heap.size A n l) (hn : n ≤ maxLen) : Calls Try.prog 7 #[.slice A n c] w (LongQ l n w) := long_any l _ A n c w hl hn

/-! ### the chapter's examples -/
def exl : List Opt := [((1 : UInt8), bOf [5, 220]), ((7 : UInt8), bOf [])]
theorem ex_put : put ⟨true, 1500, false, 0, 0, false, 0, true, false⟩ = exl := by
  show [((1 : UInt8), bOf (numS 1500 2)), ((7 : UInt8), bOf [])] = exl
  rw [numS_two]; rfl
theorem ex_put1 (w : World) : Calls Try.prog 9 #[.agg #[Value.bool true, .int .u16 1500, .bool false, .int .u32 0, .int .u8 0, .bool false, .int .u32 0, .bool true, .bool false]] w fun e w' => ∃ A c, e = .returned (.tuple #[.slice A 2 c, .int .i64 0]) ∧ Opts w' w'.heap.size A 2 exl ∧ Below w.heap.size w w' := by
  have h : Calls Try.prog 9 #[.agg #[Value.bool true, .int .u16 1500, .bool false, .int .u32 0, .int .u8 0, .bool false, .int .u32 0, .bool true, .bool false]] w (PutQ ⟨true, 1500, false, 0, 0, false, 0, true, false⟩ w) := put_yes ⟨true, 1500, false, 0, 0, false, 0, true, false⟩ w rfl
  unfold PutQ at h
  rw [ex_put] at h
  exact h
theorem ex_put3 (w : World) : Calls Try.prog 9 #[.agg #[Value.bool false, .int .u16 0, .bool false, .int .u32 0, .int .u8 3, .bool false, .int .u32 0, .bool false, .bool false]] w fun e w' => e = .returned (.tuple #[.slice none 0 0, .int .i64 2]) ∧ Below w.heap.size w w' := put_no ⟨false, 0, false, 0, 3, false, 0, false, false⟩ w rfl
theorem ex_st1 : st [((3 : UInt8), bOf [192, 35])] = some (⟨false, 0, false, 0, 1, false, 0, false, false⟩, []) := by
  have h := st_snoc [] ((3 : UInt8), bOf [192, 35])
  rw [List.nil_append, st_nil] at h
  have hg : good ((3 : UInt8), bOf [192, 35]) = true := rfl
  have hh : has 3 lz = false := rfl
  rw [h]
  simp only [step, hg, hh, if_true, Bool.false_eq_true, if_false]
  rfl
theorem ex_st2 : st [((3 : UInt8), bOf [192, 34])] = some (lz, [((3 : UInt8), bOf [192, 34])]) := by
  have h := st_snoc [] ((3 : UInt8), bOf [192, 34])
  rw [List.nil_append, st_nil] at h
  have n1 : bOf [192, 34] ≠ bOf [192, 35] := fun e => by have := bOf_inj e; simp at this
  have n2 : bOf [192, 34] ≠ bOf [194, 35, 5] := fun e => by have := congrArg List.length (bOf_inj e); cases this
  have hg : good ((3 : UInt8), bOf [192, 34]) = false := by
    show (authK (bOf [192, 34]) != 0) = false
    unfold authK
    rw [if_neg n1, if_neg n2]
    rfl
  rw [h]
  simp only [step, hg, if_true, Bool.false_eq_true, if_false]
  rfl
theorem one_opt (w : World) (o : Opt) (hz : o.2.size ≤ 140737488351232) : Opts (w.alloc (.cells #[.int .u8 o.1.toNat, .string o.2] 28)) (w.alloc (.cells #[.int .u8 o.1.toNat, .string o.2] 28)).heap.size (some ⟨w.heap.size, 0, none⟩) 1 [o] := by
  refine ⟨rfl, fun p hp => by rw [List.mem_singleton] at hp; rw [hp]; exact hz, fun _ => ⟨_, rfl, by simp, fun j hj => ?_⟩⟩
  obtain rfl : j = 0 := by simp at hj; omega
  have h := at_new w o.1 o.2
  exact ⟨h.c0, h.c1⟩
theorem ex_get1 (w : World) : Calls Try.prog 10 #[.slice (some ⟨w.heap.size, 0, none⟩) 1 1] (w.alloc (.cells #[.int .u8 3, .string ⟨#[192, 35]⟩] 28)) fun e w' => ∃ A c, e = .returned (.tuple #[.agg #[Value.bool false, .int .u16 0, .bool false, .int .u32 0, .int .u8 1, .bool false, .int .u32 0, .bool false, .bool false], .slice A 0 c, .int .i64 0]) ∧ Below w.heap.size w w' := by
  have h := get_row [((3 : UInt8), bOf [192, 35])] (some ⟨w.heap.size, 0, none⟩) 1 1 _ (one_opt w ((3 : UInt8), bOf [192, 35]) (by decide)) (by omega)
  refine Calls.mono h fun e w' hq => ?_
  obtain ⟨A, c, he, _, hb⟩ := getQ_some ex_st1 hq
  have hb0 := (Below.refl w.heap.size w).alloc (Nat.le_refl _) (.cells #[.int .u8 3, .string ⟨#[192, 35]⟩] 28)
  exact ⟨A, c, he, hb0.trans (hb.mono hb0.size)⟩
theorem ex_get2 (w : World) (g : Nat) (hg : g = w.heap.size) : Calls Try.prog 10 #[.slice (some ⟨g, 0, none⟩) 1 1] (w.alloc (.cells #[.int .u8 3, .string ⟨#[192, 34]⟩] 28)) fun e w' => ∃ A c, e = .returned (.tuple #[.agg #[Value.bool false, .int .u16 0, .bool false, .int .u32 0, .int .u8 0, .bool false, .int .u32 0, .bool false, .bool false], .slice A 1 c, .int .i64 0]) ∧ Below w.heap.size w w' := by
  subst hg
  have h := get_row [((3 : UInt8), bOf [192, 34])] (some ⟨w.heap.size, 0, none⟩) 1 1 _ (one_opt w ((3 : UInt8), bOf [192, 34]) (by decide)) (by omega)
  refine Calls.mono h fun e w' hq => ?_
  obtain ⟨A, c, he, _, hb⟩ := getQ_some ex_st2 hq
  have hb0 := (Below.refl w.heap.size w).alloc (Nat.le_refl _) (.cells #[.int .u8 3, .string ⟨#[192, 34]⟩] 28)
  exact ⟨A, c, he, hb0.trans (hb.mono hb0.size)⟩
theorem ex_get3 (w : World) : Calls Try.prog 10 #[.slice none 0 0] w fun e w' => ∃ A c, e = .returned (.tuple #[.agg #[Value.bool false, .int .u16 0, .bool false, .int .u32 0, .int .u8 0, .bool false, .int .u32 0, .bool false, .bool false], .slice A 0 c, .int .i64 0]) ∧ Below w.heap.size w w' := by
  refine Calls.mono (get_row [] none 0 0 w (opts_nil _ _) (by omega)) fun e w' hq => ?_
  obtain ⟨A, c, he, _, hb⟩ := getQ_some st_nil hq
  exact ⟨A, c, he, hb⟩
theorem ex_row (w : World) : Opts (w.alloc (.cells #[.int .u8 1, .string ⟨#[5, 220]⟩, .int .u8 7, .string ⟨#[]⟩] 28)) (w.alloc (.cells #[.int .u8 1, .string ⟨#[5, 220]⟩, .int .u8 7, .string ⟨#[]⟩] 28)).heap.size (some ⟨w.heap.size, 0, none⟩) 2 exl := by
  have h : Blk (w.alloc (.cells #[.int .u8 1, .string ⟨#[5, 220]⟩, .int .u8 7, .string ⟨#[]⟩] 28)) w.heap.size [.int .u8 1, .string ⟨#[5, 220]⟩, .int .u8 7, .string ⟨#[]⟩] 28 := blk_new w [.int .u8 1, .string ⟨#[5, 220]⟩, .int .u8 7, .string ⟨#[]⟩] _
  refine ⟨rfl, fun p hp => ?_, fun _ => ⟨_, rfl, by simp, fun j hj => ?_⟩⟩
  · simp [exl] at hp
    rcases hp with rfl | rfl <;> decide
  · have hj' : j = 0 ∨ j = 1 := by simp [exl] at hj; omega
    rcases hj' with rfl | rfl
    · exact ⟨h.at_ 0, h.at_ 1⟩
    · exact ⟨h.at_ 2, h.at_ 3⟩
theorem ex_same (w : World) (A : Option Addr) (c B : Nat) (h : Opts w B A 2 exl) (hB : B ≤ w.heap.size) (g : Nat) (hg : g = w.heap.size) :
    Calls Try.prog 12 #[.slice A 2 c, .slice (some ⟨g, 0, none⟩) 2 2] (w.alloc (.cells #[.int .u8 1, .string ⟨#[5, 220]⟩, .int .u8 7, .string ⟨#[]⟩] 28)) fun e w' => e = .returned (.bool true) ∧ Below w.heap.size w w' := by
  subst hg
  have hb0 := (Below.refl w.heap.size w).alloc (Nat.le_refl _) (.cells #[.int .u8 1, .string ⟨#[5, 220]⟩, .int .u8 7, .string ⟨#[]⟩] 28)
  exact (same_self exl A _ 2 2 c 2 _ (((h.more hB).below hb0).more hb0.size) (ex_row w) (by decide) (by decide)).mono fun e w' ⟨he, hb⟩ => ⟨he, hb0.trans (hb.mono hb0.size)⟩
set_option maxHeartbeats 4000000 in
set_option maxRecDepth 100000 in
theorem alive_any (w : World) : Calls Try.prog 8 #[] w fun e w' => e = .returned (.bool true) ∧ Below w.heap.size w w' := by
  go_enter Try.func8, Try.ntmps8
  go_wp2_with fail
  refine (ex_put1 _).mono ?_
  rintro e w1 ⟨A1, c1, rfl, hO1, hb1⟩
  have HB1 := Lib.hid hb1
  have HO1 := Lib.hid hO1
  clear hb1 hO1
  go_wp2_with fail
  refine (ex_get1 w1).mono ?_
  rintro e w2 ⟨A2, c2, rfl, hb2⟩
  have HO2 := Lib.hid ((HO1.out.next hb2).laid (.cells #[Value.bool false, .int .u16 0, .bool false, .int .u32 0, .int .u8 1, .bool false, .int .u32 0, .bool false, .bool false] 25))
  have HB2 := Lib.hid ((HB1.out.trans (hb2.mono HB1.out.size)).alloc (Nat.le_trans HB1.out.size hb2.size) (.cells #[Value.bool false, .int .u16 0, .bool false, .int .u32 0, .int .u8 1, .bool false, .int .u32 0, .bool false, .bool false] 25))
  have HL2 : Hid (LAt (w2.alloc (.cells #[Value.bool false, .int .u16 0, .bool false, .int .u32 0, .int .u8 1, .bool false, .int .u32 0, .bool false, .bool false] 25)) w2.heap.size ⟨false, 0, false, 0, 1, false, 0, false, false⟩) := lat_new w2 ⟨false, 0, false, 0, 1, false, 0, false, false⟩
  clear hb2 HO1 HB1
  go_wp2_with fail
  refine (ex_get2 (w2.alloc (.cells #[Value.bool false, .int .u16 0, .bool false, .int .u32 0, .int .u8 1, .bool false, .int .u32 0, .bool false, .bool false] 25)) _ (by simp)).mono ?_
  rintro e w3 ⟨A3, c3, rfl, hb3⟩
  have HO3 := Lib.hid ((HO2.out.next hb3).laid (.cells #[Value.bool false, .int .u16 0, .bool false, .int .u32 0, .int .u8 0, .bool false, .int .u32 0, .bool false, .bool false] 25))
  have HB3 := Lib.hid ((HB2.out.trans (hb3.mono HB2.out.size)).alloc (Nat.le_trans HB2.out.size hb3.size) (.cells #[Value.bool false, .int .u16 0, .bool false, .int .u32 0, .int .u8 0, .bool false, .int .u32 0, .bool false, .bool false] 25))
  have HL3 := Lib.hid ((HL2.out.callee hb3).alloc (.cells #[Value.bool false, .int .u16 0, .bool false, .int .u32 0, .int .u8 0, .bool false, .int .u32 0, .bool false, .bool false] 25))
  clear hb3 HO2 HB2 HL2
  go_wp2_with fail
  refine (ex_get3 (w3.alloc (.cells #[Value.bool false, .int .u16 0, .bool false, .int .u32 0, .int .u8 0, .bool false, .int .u32 0, .bool false, .bool false] 25))).mono ?_
  rintro e w4 ⟨A4, c4, rfl, hb4⟩
  have HO4 := Lib.hid ((HO3.out.next hb4).laid (.cells #[Value.bool false, .int .u16 0, .bool false, .int .u32 0, .int .u8 0, .bool false, .int .u32 0, .bool false, .bool false] 25))
  have HB4 := Lib.hid ((HB3.out.trans (hb4.mono HB3.out.size)).alloc (Nat.le_trans HB3.out.size hb4.size) (.cells #[Value.bool false, .int .u16 0, .bool false, .int .u32 0, .int .u8 0, .bool false, .int .u32 0, .bool false, .bool false] 25))
  have HL4 := Lib.hid ((HL3.out.callee hb4).alloc (.cells #[Value.bool false, .int .u16 0, .bool false, .int .u32 0, .int .u8 0, .bool false, .int .u32 0, .bool false, .bool false] 25))
  clear hb4 HO3 HB3 HL3
  go_wp2_with fail
  refine (ex_put3 _).mono ?_
  rintro e w5 ⟨rfl, hb5⟩
  have HO5 := Lib.hid (HO4.out.next hb5)
  have HB5 := Lib.hid (HB4.out.trans (hb5.mono HB4.out.size))
  have HL5 := Lib.hid (HL4.out.callee hb5)
  clear hb5 HO4 HB4 HL4
  go_wp2_with fail
  refine (ex_same w5 A1 c1 _ HO5.out (Nat.le_refl _) _ rfl).mono ?_
  rintro e w6 ⟨rfl, hb6⟩
  have HB6 := Lib.hid (HB5.out.trans (hb6.mono HB5.out.size))
  have HL6 := Lib.hid (HL5.out.callee hb6)
  have l0 : w6.cell? ⟨w2.heap.size, 0, none⟩ = some (.bool false) := HL6.out.c 0
  have l1 : w6.cell? ⟨w2.heap.size, 1, none⟩ = some (.int .u16 0) := HL6.out.c 1
  have l2 : w6.cell? ⟨w2.heap.size, 2, none⟩ = some (.bool false) := HL6.out.c 2
  have l3 : w6.cell? ⟨w2.heap.size, 3, none⟩ = some (.int .u32 0) := HL6.out.c 3
  have l4 : w6.cell? ⟨w2.heap.size, 4, none⟩ = some (.int .u8 1) := HL6.out.c 4
  have l5 : w6.cell? ⟨w2.heap.size, 5, none⟩ = some (.bool false) := HL6.out.c 5
  have l6 : w6.cell? ⟨w2.heap.size, 6, none⟩ = some (.int .u32 0) := HL6.out.c 6
  have l7 : w6.cell? ⟨w2.heap.size, 7, none⟩ = some (.bool false) := HL6.out.c 7
  have l8 : w6.cell? ⟨w2.heap.size, 8, none⟩ = some (.bool false) := HL6.out.c 8
  clear hb6 HO5 HB5 HL5
  go_wp2
  go_ret
  exact ⟨rfl, HB6.out⟩
end Go.Proofs.Ytndpiefdmlhacaa.Lco
