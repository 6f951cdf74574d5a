/- What laws over receivers share: Push with its row, rows of texts, 'alive'. -/
import Derived.Test.YtfcmpnfdgfdclaaHdlI
import Derived.Test.YtfcmpnfdgfdclaaLaw
namespace Go.Proofs.Ytfcmpnfdgfdclaa.Hdl
open Go.RowKit Go.Proofs.Ytfcmpnfdgfdclaa.Oct Go.Proofs.Ytfcmpnfdgfdclaa.Row Go.Proofs.Ytfcmpnfdgfdclaa.Esc Go.Proofs.Ytfcmpnfdgfdclaa.Fcs

theorem own : ownKnob Try.prog.godebug = none := by kernel_rfl
theorem laidOut : laidOutB Try.prog = true := by kernel_rfl
theorem beq_self (s : ByteArray) : (s.toList == s.toList) = true := by simp

/-- The row of texts l, of the call's own from base on. -/
def Texts (w : World) (base : Nat) (v : Value) (l : List ByteArray) : Prop := w.ownsRow base 9 1 v l.length (textsV l)
theorem Texts.strs {w : World} {base : Nat} {A : Option Addr} {n c : Nat} {l : List ByteArray} (h : Texts w base (.slice A n c) l) (hz : ∀ s ∈ l, s.size ≤ maxLen) : Strs w w.heap.size A n l := by
  obtain ⟨A', c', e, hs⟩ := strs_own h hz
  cases e
  exact hs
theorem Texts.form {w : World} {base : Nat} {v : Value} {l : List ByteArray} (h : Texts w base v l) : ∃ A c, v = .slice A l.length c := own_slice h
theorem Recv.lower {w : World} {n₀ n₁ g : Nat} {r : St} {v : Value} (h : Recv w n₀ g r v) (hn : n₁ ≤ n₀) : Recv w n₁ g r v := by
  refine ⟨Nat.le_trans hn h.1, h.2.1, h.2.2.1, ?_⟩
  rcases h.2.2.2 with h' | ⟨gg, cap, cur, e, hb, rest⟩
  · exact .inl h'
  · exact .inr ⟨gg, cap, cur, e, Nat.le_trans hn hb, rest⟩
theorem Texts.lower {w : World} {n₀ n₁ : Nat} {v : Value} {l : List ByteArray} (h : Texts w n₀ v l) (hn : n₁ ≤ n₀) : Texts w n₁ v l := by
  refine ⟨h.1, ?_⟩
  rcases h.2 with h' | ⟨gg, cap, cur, e, hb, rest⟩
  · exact .inl h'
  · exact .inr ⟨gg, cap, cur, e, Nat.le_trans hn hb, rest⟩
/-- A row of texts lies on behind a Push. -/
theorem Texts.past {w w1 : World} {n₀ g base : Nat} {r : St} {u v : Value} {l : List ByteArray} (h : Texts w base u l) (hR : Recv w n₀ g r v) (hM : Moves (Foot g v) w w1) : Texts w1 base u l :=
  hM.row h fun k hk hf => by
    rcases hf with rfl | hf
    · exact cells_not_row hR.2.1 (by decide) h hk
    · exact rows_apart (by decide) h hR.2.2 k hk hf
/-- A receiver lies on behind what is done to another one. -/
theorem Recv.past {w w1 : World} {n₀ n₁ g g' : Nat} {r r' : St} {v v' : Value} (h : Recv w n₀ g r v) (hR : Recv w n₁ g' r' v') (hg : g ≠ g') (hv : ∀ k, v.ownBlock = some k → v'.ownBlock ≠ some k) (hM : Moves (Foot g' v') w w1) : Recv w1 n₀ g r v :=
  h.stays hM fun k hk hf => by
    rcases hk with rfl | hk
    · rcases hf with hf | hf
      · exact hg hf
      · exact cells_not_row h.2.1 (by decide) hR.2.2 hf
    · rcases hf with rfl | hf
      · exact cells_not_row hR.2.1 (by decide) h.2.2 hk
      · exact hv k hk hf
/-- A receiver lies on behind an append to a row of texts. -/
theorem Recv.grown {w w1 : World} {n₀ g base : Nat} {r : St} {v u : Value} {l : List ByteArray} (h : Recv w n₀ g r v) (hu : Texts w base u l) (hg : w.grownBy w1 u.ownBlock) : Recv w1 n₀ g r v :=
  h.stays (S := fun k => u.ownBlock = some k) (Moves.of_grown hg fun k hk _ => hk) fun k hk hf => by
    rcases hk with rfl | hk
    · exact cells_not_row h.2.1 (by decide) hu hf
    · exact rows_apart (by decide) h.2.2 hu k hk hf

def PushQ (n₀ g : Nat) (r : St) (v : Value) (l : List UInt8) (w : World) (e : Ending) (w' : World) : Prop :=
  ∃ A c v', e = .returned (.slice A (outs r l).length c) ∧ Texts w' w.heap.size (.slice A (outs r l).length c) (outs r l) ∧ Recv w' n₀ g (feeds r l) v' ∧ Moves (Foot g v) w w' ∧ Within w v v'
theorem push_q (n₀ g : Nat) (r : St) (v : Value) (s : ByteArray) (w : World) (hR : Recv w n₀ g r v) (hI : Inv r) (N : Nat) (hN : Small r N) (hN2 : N + s.size ≤ 1000000000) (hs : s.size ≤ 1048576) :
    Calls Try.prog 9 #[.pointer (some ⟨g, 0, none⟩), .string s] w (PushQ n₀ g r v s.toList w) :=
  (push_any n₀ g r v s w hR hI N hN hN2 hs).mono fun e w' ⟨u, v', he, ho, h1, h2, h3⟩ => by
    obtain ⟨A, c, rfl⟩ := own_slice ho
    exact ⟨A, c, v', he, ho, h1, h2, h3⟩
theorem outs_small {r : St} (h : Inv r) (l : List UInt8) : ∀ s ∈ outs r l, s.size ≤ maxLen := fun s hs => by
  have := outs_size h l s hs
  unfold maxLen
  omega

/-- Same of two rows, as a row of blocks that were. -/
theorem same_q (A A' : Option Addr) (n n' c c' : Nat) (l l' : List ByteArray) (w : World) (b : Bool) (hn : n ≤ maxLen) (hl : Strs w w.heap.size A n l) (hl' : Strs w w.heap.size A' n' l') (hb : decide (l = l') = b) :
    Calls Try.prog 18 #[.slice A n c, .slice A' n' c'] w fun e w' => e = .returned (.bool b) ∧ Below w.heap.size w w' :=
  (same_any A A' n n' c c' l l' w hn hl hl').mono fun e w' ⟨he, k, hk⟩ => ⟨by rw [he, hb], by rw [hk]; exact below_drewN' w k⟩
theorem strs_one (w : World) (s : ByteArray) (ty : TypeId) (hs : s.size ≤ maxLen) : Strs (w.alloc (.cells #[.string s] ty)) (w.alloc (.cells #[.string s] ty)).heap.size (some ⟨w.heap.size, 0, none⟩) 1 [s] := by
  refine ⟨rfl, fun t ht => by rw [List.mem_singleton.1 ht]; exact hs, fun _ => ⟨_, rfl, by simp, fun j hj => ?_⟩⟩
  obtain rfl : j = 0 := by simp at hj; omega
  have := cell_one_new w (.string s) ty 0 (.string s) rfl
  exact this

def abText : List UInt8 := [126, 120, 125, 126, 120, 126, 126, 126] ++ (126 :: (put 0 (seal_ [97, 98]) ++ [126]))
theorem ab_outs : outs (fresh 2 0) abText = [⟨#[97, 98]⟩] := by decide +kernel
theorem ab_state : (feeds (fresh 2 0) abText).c0 = 1 ∧ (feeds (fresh 2 0) abText).c1 = 1 ∧ (feeds (fresh 2 0) abText).c2 = 0 ∧ (feeds (fresh 2 0) abText).c3 = 1 ∧ (feeds (fresh 2 0) abText).c4 = 0 ∧ (feeds (fresh 2 0) abText).piece = [] := by decide +kernel
theorem ab_size : (bOf abText).size = 14 := by decide +kernel

set_option maxHeartbeats 2000000 in
set_option maxRecDepth 100000 in
theorem alive_any (w : World) : Calls Try.prog 8 #[] w fun e w' => e = .returned (.bool true) ∧ Below w.heap.size w w' := by
  have HE : Hid (((⟨#[126, 120, 125, 126, 120, 126, 126, 126]⟩ : ByteArray) ++ bOf (126 :: (put 0 (seal_ (⟨#[97, 98]⟩ : ByteArray).toList) ++ [126]))) = bOf abText) := by
    show _ = _
    rw [show (⟨#[97, 98]⟩ : ByteArray).toList = [97, 98] from toList_bOf [97, 98], show (⟨#[126, 120, 125, 126, 120, 126, 126, 126]⟩ : ByteArray) = bOf [126, 120, 125, 126, 120, 126, 126, 126] from rfl, append_bOf, toList_bOf, toList_bOf]
    rfl
  have HS : Hid ((bOf (126 :: (put 0 (seal_ (⟨#[97, 98]⟩ : ByteArray).toList) ++ [126]))).size ≤ 100) := by
    show _ ≤ _
    rw [show (⟨#[97, 98]⟩ : ByteArray).toList = [97, 98] from toList_bOf [97, 98]]
    decide +kernel
  obtain ⟨F, hF⟩ : ∃ F, bOf (126 :: (put 0 (seal_ (⟨#[97, 98]⟩ : ByteArray).toList) ++ [126])) = F := ⟨_, rfl⟩
  rw [hF] at HE HS
  have hFs := HS.out
  have HF := Lib.hid hF; clear hF
  have HV : Hid (heardV (feeds (fresh 2 0) abText) = .agg #[.int .i64 1, .int .i64 1, .int .i64 0, .int .i64 1, .int .i64 0]) := by
    show _ = _
    unfold heardV
    rw [ab_state.1, ab_state.2.1, ab_state.2.2.1, ab_state.2.2.2.1, ab_state.2.2.2.2.1]
    rfl
  have HIn : Hid (inside (feeds (fresh 2 0) abText) = false) := by show _ = _; unfold inside; rw [ab_state.2.2.2.2.2]; rfl
  go_enter Try.func8, Try.ntmps8
  go_wp2_with fail
  refine (new_yes 2 0 _ (by omega) (by omega)).mono ?_
  rintro e w1 ⟨rfl, hR1, hb1, hz1⟩
  have HR1 := Lib.hid hR1; clear hR1
  have Hb1 := Lib.hid hb1; clear hb1
  have hz1' : w.heap.size + 1 ≤ w1.heap.size := by omega
  clear hz1
  go_wp2_with fail
  refine (new_no 1 0 _ rfl).mono ?_
  rintro e w' ⟨rfl, rfl⟩
  go_wp2_with fail
  refine (frame_any ⟨#[97, 98]⟩ 0 _ (by decide) (by omega)).mono ?_
  rw [HF.out]
  rintro e w2 ⟨rfl, hb2⟩
  have HR2 := Lib.hid (HR1.out.below hb2)
  have Hb2 := Lib.hid (Hb1.out.trans (hb2.mono (by omega))); clear hb2
  go_wp2_with fail
  rw [HE.out]
  refine (push_q _ _ _ _ (bOf abText) _ HR2.out (fresh_inv (by omega) (by omega) (by omega)) 0 (fresh_small _ _) (by rw [ab_size]; omega) (by rw [ab_size]; omega)).mono ?_
  rw [toList_bOf]
  rintro e w3 ⟨A, c, v3, rfl, hT3, hR3, hM3, _⟩
  rw [ab_outs] at hT3 ⊢
  have HR3 := Lib.hid hR3; clear hR3
  have HT3 := Lib.hid hT3; clear hT3
  have Hb3 := Lib.hid (Hb2.out.trans (hM3.below (by have := Hb2.out.size; omega) (fun k hk => (HR2.out.low k hk).1))); clear hM3
  go_wp2_with fail
  refine (same_q A _ _ _ _ _ [⟨#[97, 98]⟩] [⟨#[97, 98]⟩] _ true (by decide) (((HT3.out.strs (by intro s hs; rw [List.mem_singleton.1 hs]; decide)).below ((Below.refl _ _).alloc (Nat.le_refl _) _)).more (by simp)) (strs_one w3 ⟨#[97, 98]⟩ _ (by decide)) (decide_eq_true rfl)).mono ?_
  rintro e w4 ⟨rfl, hb4⟩
  have hB4 : Below w3.heap.size w3 w4 := ((Below.refl _ w3).alloc (Nat.le_refl _) _).trans (hb4.mono (by simp))
  have HR4 := Lib.hid (HR3.out.below hB4)
  have Hb4 := Lib.hid (Hb3.out.trans (hB4.mono Hb3.out.size)); clear hb4 hB4
  go_wp2_with fail
  refine (heard_any _ _ _ _ _ HR4.out).mono ?_
  rw [HV.out]
  rintro e w5 ⟨rfl, hb5⟩
  have HR5 := Lib.hid (HR4.out.below hb5)
  have Hb5 := Lib.hid (Hb4.out.trans (hb5.mono Hb4.out.size)); clear hb5
  go_wp2_with fail
  refine (inside_any _ _ _ _ _ HR5.out).mono ?_
  rw [HIn.out]
  rintro e w6 ⟨rfl, rfl⟩
  go_wp2
  go_ret
  exact ⟨rfl, Hb5.out⟩
end Go.Proofs.Ytfcmpnfdgfdclaa.Hdl
