/- The contracts row by row for the laws of layer 10, and 'alive'. -/
import Derived.Test.YtlbnbbpokphgbaaDoorIpcF
import Derived.Test.YtlbnbbpokphgbaaDoorIpcH
import Derived.Test.YtlbnbbpokphgbaaDoorIpcR
import Derived.Test.YtlbnbbpokphgbaaDoorIpcT
import Derived.Test.YtlbnbbpokphgbaaDoorOptAs
import Derived.Test.YtlbnbbpokphgbaaDoorOptsApp
namespace Go.Proofs.YtlbnbbpokphgbaaDoor.Ipc
open Go.RowKit Go.Proofs.YtlbnbbpokphgbaaDoor.Oct Go.Proofs.YtlbnbbpokphgbaaDoor.Row Go.Proofs.YtlbnbbpokphgbaaDoor.Mem Go.Proofs.YtlbnbbpokphgbaaDoor.Opt

theorem get_row (l : List Opt) (A : Option Addr) (n c : Nat) (w : World) (hl : Opts w w.heap.size A n l) (hn : n ≤ 1001) : Calls Tryd.prog 10 #[.slice A n c] w (GetQ l w) := get_any l _ A n c w hl hn (Nat.le_refl _)
theorem rget_row (l : List Opt) (A : Option Addr) (n c : Nat) (w : World) (hl : Opts w w.heap.size A n l) (hn : n ≤ 1001) : Calls Tryd.prog 11 #[.slice A n c] w (GetQ l w) := rget_any l _ A n c w hl hn (Nat.le_refl _)
theorem getQ_some {l : List Opt} {x : Ipc} {odd : List Opt} (h : st l = some (x, odd)) {w : World} {e : Ending} {w' : World} (hq : GetQ l w e w') : ∃ A c, e = .returned (.tuple #[.agg (lv x).toArray, .slice A odd.length c, .int .i64 0]) ∧ Opts w' w'.heap.size A odd.length odd ∧ Below w.heap.size w w' := by
  unfold GetQ at hq
  rw [(get_some h).1, (get_some h).2.1, (get_some h).2.2] at hq
  exact hq
theorem same_rows (a b : List Opt) (A A' : Option Addr) (n m c c' : Nat) (w : World) (ha : Opts w w.heap.size A n a) (hb : Opts w w.heap.size A' m b) (hn : n ≤ maxLen) (hm : m ≤ maxLen) :
    Calls Tryd.prog 12 #[.slice A n c, .slice A' m c'] w fun e w' => e = .returned (.bool (sm a b)) ∧ Below w.heap.size w w' := rsame_any a b _ A A' n m c c' w ha hb hn hm (Nat.le_refl _)
theorem same_self (a : List Opt) (A A' : Option Addr) (n m c c' : Nat) (w : World) (ha : Opts w w.heap.size A n a) (hb : Opts w w.heap.size A' m a) (hn : n ≤ maxLen) (hm : m ≤ maxLen) :
    Calls Tryd.prog 12 #[.slice A n c, .slice A' m c'] w fun e w' => e = .returned (.bool true) ∧ Below w.heap.size w w' := by
  have h := same_rows a a A A' n m c c' w ha hb hn hm
  rw [sm_self] at h
  exact h

/-! ### the chapter's examples -/
/-- 'numb', as it is computed. -/
def numb3 (w : List UInt8) : Option UInt8 :=
  match Lib.parseUintB 8 w with
  | .ok u => if dec3 u = w then some (UInt8.ofNat u) else none
  | _ => none
theorem numb_eq (w : List UInt8) : numb w = numb3 w := by
  unfold numb numb3
  split
  · rename_i u hu
    have := parse_le hu
    rw [dec3_eq (by omega), hu]
  · rename_i h
    split
    · rename_i u hu; exact absurd hu (h u)
    · rfl
def rdn3 : Nat → List UInt8 → Bool → Option (List UInt8)
  | 0, _, m => if m then none else some []
  | n + 1, r, _ => match numb3 (cutD r).1 with
    | none => none
    | some b => (rdn3 n (cutD r).2.1 (cutD r).2.2).map (b :: ·)
theorem rdn_eq : ∀ (n : Nat) (r : List UInt8) (m : Bool), rdn n r m = rdn3 n r m
  | 0, _, _ => rfl
  | n + 1, r, m => by
    rw [rdn, rdn3, numb_eq]
    cases numb3 (cutD r).1 with
    | none => rfl
    | some b => simp only; rw [rdn_eq n]
theorem rd_of {l : List UInt8} {bs : List UInt8} (h : rdn3 4 l true = some bs) : rd (bOf l) = some bs := by unfold rd; rw [toList_bOf, rdn_eq, h]
theorem rd_not {l : List UInt8} (h : rdn3 4 l true = none) : rd (bOf l) = none := by unfold rd; rw [toList_bOf, rdn_eq, h]
def t1 : List UInt8 := [49, 48, 46, 48, 46, 48, 46, 49]
theorem ex1 : (rdV (bOf t1)).toNat = 167772161 ∧ rdE (bOf t1) = 0 := by
  have h := rd_some (rd_of (l := t1) (bs := [10, 0, 0, 1]) (by decide +kernel))
  exact ⟨h.1.trans (by decide +kernel), h.2⟩
theorem ex2 : (rdV (bOf [49, 48, 46, 48, 46, 48, 46, 50, 53, 54])).toNat = 0 ∧ rdE (bOf [49, 48, 46, 48, 46, 48, 46, 50, 53, 54]) = 7 := rd_none (rd_not (by decide +kernel))
theorem ex3 : (rdV (bOf [49, 48, 46, 48, 46, 48, 46, 48, 49])).toNat = 0 ∧ rdE (bOf [49, 48, 46, 48, 46, 48, 46, 48, 49]) = 7 := rd_none (rd_not (by decide +kernel))
theorem ex4 : txt 167772161 = bOf t1 := by
  have h : rdV (bOf t1) = 167772161 := UInt32.toNat_inj.1 (by rw [ex1.1]; rfl)
  rw [← h]
  exact txt_rd ex1.2
def exl : List Opt := [((3 : UInt8), bOf [10, 0, 0, 1])]
theorem ex_put : put ⟨true, 167772161, false, 0, false, 0⟩ = exl := by
  show [((3 : UInt8), bOf (numS 167772161 4))] = exl
  rw [numS_four]; rfl
theorem ex_put1 (w : World) : Calls Tryd.prog 9 #[.agg #[Value.bool true, .int .u32 167772161, .bool false, .int .u32 0, .bool false, .int .u32 0]] w fun e w' => ∃ A c, e = .returned (.tuple #[.slice A 1 c, .int .i64 0]) ∧ Opts w' w'.heap.size A 1 exl ∧ Below w.heap.size w w' := by
  have h : Calls Tryd.prog 9 #[.agg #[Value.bool true, .int .u32 167772161, .bool false, .int .u32 0, .bool false, .int .u32 0]] w (PutQ ⟨true, 167772161, false, 0, false, 0⟩ w) := put_any ⟨true, 167772161, false, 0, false, 0⟩ w
  unfold PutQ at h
  rw [(pL_yes (x := ⟨true, 167772161, false, 0, false, 0⟩) rfl).1, (pL_yes (x := ⟨true, 167772161, false, 0, false, 0⟩) rfl).2, ex_put] at h
  exact h.mono fun e w' ⟨A, c, he, _, hO, hb⟩ => ⟨A, c, he, hO, hb⟩
theorem ex_put2 (w : World) : Calls Tryd.prog 9 #[.agg #[Value.bool false, .int .u32 1, .bool false, .int .u32 0, .bool false, .int .u32 0]] w fun e w' => ∃ A c, e = .returned (.tuple #[.slice A 0 c, .int .i64 2]) ∧ Below w.heap.size w w' := by
  have h : Calls Tryd.prog 9 #[.agg #[Value.bool false, .int .u32 1, .bool false, .int .u32 0, .bool false, .int .u32 0]] w (PutQ ⟨false, 1, false, 0, false, 0⟩ w) := put_any ⟨false, 1, false, 0, false, 0⟩ w
  unfold PutQ at h
  rw [(pL_no (x := ⟨false, 1, false, 0, false, 0⟩) rfl).1, (pL_no (x := ⟨false, 1, false, 0, false, 0⟩) rfl).2] at h
  exact h.mono fun e w' ⟨A, c, he, _, _, hb⟩ => ⟨A, c, he, hb⟩
theorem ex_row (w : World) : Opts (w.alloc (.cells #[.int .u8 3, .string ⟨#[10, 0, 0, 1]⟩] 27)) (w.alloc (.cells #[.int .u8 3, .string ⟨#[10, 0, 0, 1]⟩] 27)).heap.size (some ⟨w.heap.size, 0, none⟩) 1 exl := by
  refine ⟨rfl, fun p hp => ?_, fun _ => ⟨_, rfl, by simp, fun j hj => ?_⟩⟩
  · simp [exl] at hp
    rcases hp with rfl
    decide
  · obtain rfl : j = 0 := by simp [exl] at hj; omega
    have h := at_new w 3 (bOf [10, 0, 0, 1])
    exact ⟨h.c0, h.c1⟩
theorem ex_same (w : World) (A : Option Addr) (c : Nat) (h : Opts w w.heap.size A 1 exl) :
    Calls Tryd.prog 12 #[.slice A 1 c, .slice (some ⟨w.heap.size, 0, none⟩) 1 1] (w.alloc (.cells #[.int .u8 3, .string ⟨#[10, 0, 0, 1]⟩] 27)) fun e w' => e = .returned (.bool true) ∧ Below w.heap.size w w' := by
  have hb0 := (Below.refl w.heap.size w).alloc (Nat.le_refl _) (.cells #[.int .u8 3, .string ⟨#[10, 0, 0, 1]⟩] 27)
  exact (same_self exl A _ 1 1 c 1 _ ((h.below hb0).more hb0.size) (ex_row w) (by decide) (by decide)).mono fun e w' ⟨he, hb⟩ => ⟨he, hb0.trans (hb.mono hb0.size)⟩
set_option maxHeartbeats 4000000 in
set_option maxRecDepth 100000 in
theorem alive_any (w : World) {B : Nat} (hG : Glb B w) : Calls Tryd.prog 8 #[] w fun e w' => e = .returned (.bool true) ∧ Below w.heap.size w w' := by
  have R1 : Hid (∀ W, Glb B W → Calls Tryd.prog 17 #[.string ⟨#[49, 48, 46, 48, 46, 48, 46, 49]⟩] W fun e w' => e = .returned (.tuple #[.int .u32 167772161, .int .i64 0]) ∧ Below W.heap.size W w') := fun W hW => by
    have h := read_any (bOf t1) W hW (by decide)
    rw [ex1.1, ex1.2] at h
    exact h
  have R2 : Hid (∀ W, Glb B W → Calls Tryd.prog 17 #[.string ⟨#[49, 48, 46, 48, 46, 48, 46, 50, 53, 54]⟩] W fun e w' => e = .returned (.tuple #[.int .u32 0, .int .i64 7]) ∧ Below W.heap.size W w') := fun W hW => by
    have h := read_any (bOf [49, 48, 46, 48, 46, 48, 46, 50, 53, 54]) W hW (by decide)
    rw [ex2.1, ex2.2] at h
    exact h
  have R3 : Hid (∀ W, Glb B W → Calls Tryd.prog 17 #[.string ⟨#[49, 48, 46, 48, 46, 48, 46, 48, 49]⟩] W fun e w' => e = .returned (.tuple #[.int .u32 0, .int .i64 7]) ∧ Below W.heap.size W w') := fun W hW => by
    have h := read_any (bOf [49, 48, 46, 48, 46, 48, 46, 48, 49]) W hW (by decide)
    rw [ex3.1, ex3.2] at h
    exact h
  have T1 : Hid (∀ W, Glb B W → Calls Tryd.prog 19 #[.int .u32 167772161] W fun e w' => e = .returned (.string (bOf t1)) ∧ Below W.heap.size W w') := fun W hW => by
    have h := text_any 167772161 W hW
    rw [ex4] at h
    exact h
  have ht : ((bOf t1).toList == [49, 48, 46, 48, 46, 48, 46, 49]) = true := by rw [toList_bOf]; rfl
  have HG := Lib.hid hG; clear hG
  generalize bOf t1 = tt at *
  go_enter Tryd.func8, Tryd.ntmps8
  go_wp2_with fail
  refine (R1.out _ HG.out).mono ?_
  rintro e w1 ⟨rfl, hb1⟩
  have HB1 := Lib.hid hb1; clear hb1
  go_wp2_with fail
  refine (R2.out _ (HG.out.callee HB1.out)).mono ?_
  rintro e w2 ⟨rfl, hb2⟩
  have HB2 := Lib.hid (HB1.out.trans (hb2.mono HB1.out.size)); clear hb2
  go_wp2_with fail
  refine (R3.out _ (HG.out.callee HB2.out)).mono ?_
  rintro e w3 ⟨rfl, hb3⟩
  have HB3 := Lib.hid (HB2.out.trans (hb3.mono HB2.out.size)); clear hb3
  clear R1 R2 R3 HB1 HB2
  go_wp2_with fail
  refine (ex_put1 _).mono ?_
  rintro e w4 ⟨A4, c4, rfl, hO4, hb4⟩
  have HB4 := Lib.hid (HB3.out.trans (hb4.mono HB3.out.size))
  have HO4 := Lib.hid hO4
  clear hb4 hO4 HB3
  go_wp2_with fail
  refine (ex_put2 _).mono ?_
  rintro e w5 ⟨A5, c5, rfl, hb5⟩
  have HB5 := Lib.hid (HB4.out.trans (hb5.mono HB4.out.size))
  have HO5 := Lib.hid (HO4.out.next hb5)
  clear hb5 HO4 HB4
  go_wp2_with fail
  refine (T1.out _ (HG.out.callee HB5.out)).mono ?_
  rintro e w6 ⟨rfl, hb6⟩
  have HB6 := Lib.hid (HB5.out.trans (hb6.mono HB5.out.size))
  have HO6 := Lib.hid (HO5.out.next hb6)
  clear hb6 HO5 HB5 T1
  go_wp2_with fail
  refine (ex_same w6 A4 c4 HO6.out).mono ?_
  rintro e w7 ⟨rfl, hb7⟩
  have HB7 := Lib.hid (HB6.out.trans (hb7.mono HB6.out.size))
  clear hb7 HO6 HB6
  go_wp2
  go_ret
  exact ⟨rfl, HB7.out⟩
end Go.Proofs.YtlbnbbpokphgbaaDoor.Ipc
