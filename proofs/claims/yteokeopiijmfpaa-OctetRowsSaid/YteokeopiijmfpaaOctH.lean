/- Contracts in one form (nothing that was there is changed), and the law's own examples ('alive'). -/
import Derived.Test.YteokeopiijmfpaaOctG
namespace Go.Proofs.Yteokeopiijmfpaa.Oct
open Go.RowKit

theorem below_drewN' (w : World) (k : Nat) : Below w.heap.size w (w.drewN k) := ⟨rfl, rfl, rfl, Nat.le_refl _, fun _ _ => rfl⟩
theorem calls_below {f : FuncId} {args : Array Value} {w : World} {v : Value} (h : Calls Try.prog f args w fun e w' => e = .returned v ∧ ∃ k, w' = w.drewN k) : Calls Try.prog f args w fun e w' => e = .returned v ∧ Below w.heap.size w w' :=
  h.mono fun _ _ ⟨he, k, hk⟩ => ⟨he, by rw [hk]; exact below_drewN' w k⟩
theorem calls_below_eq {f : FuncId} {args : Array Value} {w : World} {v : Value} (h : Calls Try.prog f args w fun e w' => e = .returned v ∧ w = w') : Calls Try.prog f args w fun e w' => e = .returned v ∧ Below w.heap.size w w' :=
  h.mono fun _ _ ⟨he, hk⟩ => ⟨he, by rw [← hk]; exact Below.refl _ _⟩

/-- What Split8 leaves: a row of texts. -/
def SplitQ (w : World) (s : ByteArray) (e : Ending) (w' : World) : Prop :=
  ∃ A c, e = .returned (.tuple #[.slice A (splitL s).length c, .int .i64 (splitE s)]) ∧ Strs w' w'.heap.size A (splitL s).length (splitL s) ∧ Below w.heap.size w w'
theorem splitQ_of {w : World} {s : ByteArray} {e : Ending} {w' : World} (h : SplitP w s e w') : SplitQ w s e w' := by
  obtain ⟨v, rfl, ho, hb⟩ := h
  obtain ⟨A, c, rfl, hS⟩ := strs_own ho (fun t ht => by have := split_small s t ht; unfold maxLen; omega)
  exact ⟨A, c, rfl, hS, hb⟩
theorem split8_q (s : ByteArray) (w : World) (hs : s.size ≤ 1048576) : Calls Try.prog 19 #[.string s] w (SplitQ w s) := (split8_any s w hs).mono fun _ _ => splitQ_of
theorem rsplit8_q (s : ByteArray) (w : World) (hs : s.size ≤ 1048576) : Calls Try.prog 20 #[.string s] w (SplitQ w s) := (rsplit8_any s w hs).mono fun _ _ => splitQ_of

theorem ex_get1 (w : World) : Calls Try.prog 8 #[.string ⟨#[1]⟩] w fun e w' => e = .returned (.tuple #[.int .u16 0, .int .i64 6]) ∧ Below w.heap.size w w' :=
  calls_below (get16_any ⟨#[1]⟩ w (by decide))
theorem ex_get2 (w : World) : Calls Try.prog 8 #[.string ⟨#[1, 2, 3]⟩] w fun e w' => e = .returned (.tuple #[.int .u16 0, .int .i64 7]) ∧ Below w.heap.size w w' :=
  calls_below (get16_any ⟨#[1, 2, 3]⟩ w (by decide))
theorem ex_cut1 (w : World) : Calls Try.prog 14 #[.string ⟨#[97, 98, 99]⟩, .int .i64 1] w fun e w' => e = .returned (.tuple #[.string ⟨#[97]⟩, .string ⟨#[98, 99]⟩, .int .i64 0]) ∧ Below w.heap.size w w' := by
  have h := calls_below (cut_any (bOf [97, 98, 99]) 1 w (by decide))
  have e1 : cutA (bOf [97, 98, 99]) 1 = bOf [97] := by simp [cutA, toList_bOf, size_bOf]
  have e2 : cutB (bOf [97, 98, 99]) 1 = bOf [98, 99] := by simp [cutB, toList_bOf, size_bOf]
  rw [e1, e2] at h
  exact h
theorem ex_cut2 (w : World) : Calls Try.prog 14 #[.string ⟨#[97, 98, 99]⟩, .int .i64 4] w fun e w' => e = .returned (.tuple #[.string ⟨#[]⟩, .string ⟨#[]⟩, .int .i64 6]) ∧ Below w.heap.size w w' :=
  calls_below (cut_any (bOf [97, 98, 99]) 4 w (by decide))
theorem ex_text (w : World) : Calls Try.prog 23 #[.string ⟨#[97, 98]⟩] w fun e w' => e = .returned (.tuple #[.string ⟨#[2, 97, 98]⟩, .int .i64 0]) ∧ Below w.heap.size w w' := by
  have h := text8_any (bOf [97, 98]) w (by decide)
  have e1 := join_yes (l := [bOf [97, 98]]) (fun u hu => by simp [toList_bOf] at hu; subst hu; decide)
  have e2 : jn8 ([bOf [97, 98]].map (·.toList)) = [2, 97, 98] := by simp [toList_bOf, jn8]
  rw [e1.1, e1.2, e2] at h
  exact h
theorem ex_read (w : World) : Calls Try.prog 21 #[.string ⟨#[1, 97, 98]⟩] w fun e w' => e = .returned (.tuple #[.string ⟨#[97]⟩, .string ⟨#[98]⟩, .int .i64 0]) ∧ Below w.heap.size w w' := by
  have h := calls_below (read8_any (bOf [1, 97, 98]) w (by decide))
  have e1 := read_some (bOf [1, 97, 98]) [97] [98] (by rw [toList_bOf]; decide)
  rw [e1.1, e1.2.1, e1.2.2] at h
  exact h
def ExSplit (w : World) (e : Ending) (w' : World) : Prop := ∃ A c, e = .returned (.tuple #[.slice A 2 c, .int .i64 0]) ∧ Strs w' w'.heap.size A 2 [⟨#[97]⟩, ⟨#[]⟩] ∧ Below w.heap.size w w'
theorem ex_split1 (w : World) : Calls Try.prog 19 #[.string ⟨#[1, 97, 0]⟩] w (ExSplit w) := by
  refine (split8_q (bOf [1, 97, 0]) w (by decide)).mono fun e w' h => ?_
  have e1 := split_yes (s := bOf [1, 97, 0]) (l := [[97], []]) (by rw [toList_bOf]; decide)
  unfold SplitQ at h
  rw [e1.1, e1.2] at h
  exact h
def ExSplit' (w : World) (e : Ending) (w' : World) : Prop := ∃ A c, e = .returned (.tuple #[.slice A 0 c, .int .i64 6]) ∧ Below w.heap.size w w'
theorem ex_split2 (w : World) : Calls Try.prog 19 #[.string ⟨#[2, 97]⟩] w (ExSplit' w) := by
  refine (split8_q (bOf [2, 97]) w (by decide)).mono fun e w' h => ?_
  have e1 := split_no (s := bOf [2, 97]) (by rw [toList_bOf]; decide)
  unfold SplitQ at h
  rw [e1.1, e1.2] at h
  obtain ⟨A, c, h1, _, h3⟩ := h
  exact ⟨A, c, h1, h3⟩
theorem ex_put16 (w : World) : Calls Try.prog 11 #[.int .u16 258] w fun e w' => e = .returned (.string ⟨#[1, 2]⟩) ∧ Below w.heap.size w w' := put16_any 258 w (by omega)
theorem ex_put32 (w : World) : Calls Try.prog 13 #[.int .u32 258] w fun e w' => e = .returned (.string ⟨#[0, 0, 1, 2]⟩) ∧ Below w.heap.size w w' := put32_any 258 w (by omega)
theorem strs_two (w : World) (s t : ByteArray) (ty : TypeId) (hs : s.size ≤ maxLen) (ht : t.size ≤ maxLen) : Strs (w.alloc (.cells #[.string s, .string t] ty)) (w.alloc (.cells #[.string s, .string t] ty)).heap.size (some ⟨w.heap.size, 0, none⟩) 2 [s, t] := by
  refine ⟨rfl, fun u hu => by simp at hu; rcases hu with rfl | rfl <;> assumption, fun _ => ⟨_, rfl, by simp, fun j hj => ?_⟩⟩
  have h1 : (⟨w.heap.size, 0, none⟩ : Addr).add j = ⟨w.heap.size, j, none⟩ := by unfold Addr.add; split <;> simp_all
  rw [h1, World.cell?_alloc_new]
  match j, hj with
  | 0, _ => rfl
  | 1, _ => rfl
theorem ex_same (A : Option Addr) (c : Nat) (w : World) (h : Strs w w.heap.size A 2 [⟨#[97]⟩, ⟨#[]⟩]) :
    Calls Try.prog 25 #[.slice A 2 c, .slice (some ⟨w.heap.size, 0, none⟩) 2 2] (w.alloc (.cells #[.string ⟨#[97]⟩, .string ⟨#[]⟩] 9)) fun e w' => e = .returned (.bool true) ∧ Below w.heap.size w w' := by
  have h1 : Strs (w.alloc (.cells #[.string ⟨#[97]⟩, .string ⟨#[]⟩] 9)) (w.alloc (.cells #[.string ⟨#[97]⟩, .string ⟨#[]⟩] 9)).heap.size A 2 [⟨#[97]⟩, ⟨#[]⟩] :=
    (h.below ((Below.refl _ _).alloc (Nat.le_refl _) _)).more (by simp)
  refine (calls_below (same_any A (some ⟨w.heap.size, 0, none⟩) 2 2 c 2 [⟨#[97]⟩, ⟨#[]⟩] [⟨#[97]⟩, ⟨#[]⟩] _ (by decide) h1 (strs_two w _ _ _ (by decide) (by decide)))).mono ?_
  rintro e w' ⟨rfl, hb⟩
  exact ⟨by simp, ((Below.refl _ _).alloc (Nat.le_refl _) _).trans (hb.mono (by simp))⟩

set_option maxHeartbeats 2000000 in
set_option maxRecDepth 100000 in
theorem alive_any (w : World) : Calls Try.prog 7 #[] w fun e w' => e = .returned (.bool true) ∧ Below w.heap.size w w' := by
  go_enter Try.func7, Try.ntmps7
  go_wp2_with fail
  refine (ex_get1 _).mono ?_
  rintro e w1 ⟨rfl, hb1⟩
  go_wp2_with fail
  refine (ex_get2 _).mono ?_
  rintro e w2 ⟨rfl, hb2⟩
  go_wp2_with fail
  refine (ex_cut1 _).mono ?_
  rintro e w3 ⟨rfl, hb3⟩
  go_wp2_with fail
  refine (ex_cut2 _).mono ?_
  rintro e w4 ⟨rfl, hb4⟩
  go_wp2_with fail
  refine (ex_text _).mono ?_
  rintro e w5 ⟨rfl, hb5⟩
  go_wp2_with fail
  refine (ex_read _).mono ?_
  rintro e w6 ⟨rfl, hb6⟩
  go_wp2_with fail
  refine (ex_split1 _).mono ?_
  rintro e w7 ⟨A, c, rfl, hS, hb7⟩
  have HS := Lib.hid hS; clear hS
  go_wp2_with fail
  refine (ex_split2 _).mono ?_
  rintro e w8 ⟨A', c', rfl, hb8⟩
  go_wp2_with fail
  refine (ex_put16 _).mono ?_
  rintro e w9 ⟨rfl, hb9⟩
  go_wp2_with fail
  refine (ex_put32 _).mono ?_
  rintro e w10 ⟨rfl, hb10⟩
  go_wp2_with fail
  refine (ex_same A c w10 (((HS.out.below hb8).more hb8.size |>.below hb9).more hb9.size |>.below hb10 |>.more hb10.size)).mono ?_
  rintro e w11 ⟨rfl, hb11⟩
  go_wp2_with fail
  go_ret
  have B2 := hb1.trans (hb2.mono hb1.size)
  have B3 := B2.trans (hb3.mono B2.size)
  have B4 := B3.trans (hb4.mono B3.size)
  have B5 := B4.trans (hb5.mono B4.size)
  have B6 := B5.trans (hb6.mono B5.size)
  have B7 := B6.trans (hb7.mono B6.size)
  have B8 := B7.trans (hb8.mono B7.size)
  have B9 := B8.trans (hb9.mono B8.size)
  have B10 := B9.trans (hb10.mono B9.size)
  exact ⟨rfl, B10.trans (hb11.mono B10.size)⟩
end Go.Proofs.Yteokeopiijmfpaa.Oct
