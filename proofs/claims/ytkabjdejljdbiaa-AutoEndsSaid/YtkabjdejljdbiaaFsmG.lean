/- Contracts of the document's lines, action, Next. -/
import Derived.Test.YtkabjdejljdbiaaFsmLines
namespace Go.Proofs.Ytkabjdejljdbiaa.Fsm
open Go.RowKit Go.Proofs.Ytkabjdejljdbiaa.Oct Go.Proofs.Ytkabjdejljdbiaa.Row Go.Proofs.Ytkabjdejljdbiaa.Mem

set_option maxHeartbeats 2000000 in
set_option maxRecDepth 100000 in
theorem lines_any (w : World) : Calls Try.prog 36 #[] w fun x w' => x = .returned (.slice (some ⟨w.heap.size, 0, none⟩) 16 16) ∧ w' = w.alloc (.cells (textsV linesL).toArray 9) := by
  go_enter Try.func36, Try.ntmps36
  go_wp2
  go_ret
  exact ⟨rfl, rfl⟩

/-- The texts of a block, one by one. -/
theorem texts_at (w : World) (l : List ByteArray) (t : TypeId) (j : Nat) : (w.alloc (.cells (textsV l).toArray t)).cell? ⟨w.heap.size, j, none⟩ = (l[j]?).map Value.string := by
  rw [(blk_new w (textsV l) t).at_ j]
  unfold textsV
  rw [List.getElem?_map]
/-- Nothing ahead of the k-th name is it. -/
def NoAct (s : ByteArray) (k : Nat) : Prop := ∀ j, j < k → ∀ t, actsL[j]? = some t → (t.toList == s.toList) = false
theorem actB_at (s : ByteArray) (k : Nat) (hk : k < actsL.length) (h : NoAct s k) (he : (actsL[k].toList == s.toList) = true) : actB s = 2 ^ k := by
  unfold actB
  have : actsL.findIdx? (fun t => t.toList == s.toList) = some k := by
    rw [List.findIdx?_eq_some_iff_getElem]
    exact ⟨hk, he, fun j hj => by rw [h j hj _ (List.getElem?_eq_getElem (by omega))]; exact Bool.false_ne_true⟩
  rw [this]
theorem actB_none (s : ByteArray) (h : NoAct s 13) : actB s = 0 := by
  unfold actB
  have : actsL.findIdx? (fun t => t.toList == s.toList) = none := by
    rw [List.findIdx?_eq_none_iff]
    intro t ht
    obtain ⟨j, hj, e⟩ := List.mem_iff_getElem.1 ht
    exact h j hj t (by rw [List.getElem?_eq_getElem hj, e])
  rw [this]
theorem actB_lt (s : ByteArray) : actB s < 65536 := by
  unfold actB
  split
  · rename_i i h
    have hi : i < 13 := by
      have := List.findIdx?_eq_some_iff_getElem.1 h
      exact this.1
    exact Nat.lt_of_le_of_lt (Nat.pow_le_pow_right (n := 2) (by omega) (show i ≤ 12 by omega)) (by decide)
  · decide

set_option maxHeartbeats 2000000 in
set_option maxRecDepth 100000 in
theorem action_any (s : ByteArray) (w : World) : Calls Try.prog 37 #[.string s] w fun x w' => x = .returned (.int .u16 (actB s)) ∧ Below w.heap.size w w' := by
  obtain ⟨W, hW, HA, HB⟩ : ∃ W, w.alloc (.cells (textsV actsL).toArray 9) = W ∧ Hid (∀ j, W.cell? ⟨w.heap.size, j, none⟩ = (actsL[j]?).map Value.string) ∧ Hid (Below w.heap.size w W) := ⟨_, rfl, texts_at w actsL _, (Below.refl _ w).alloc (Nat.le_refl _) _⟩
  unfold textsV actsL at hW
  simp only [List.map_cons, List.map_nil] at hW
  go_enter Try.func37, Try.ntmps37
  go_wp2
  clear hW
  go_loopw [4] (fun i wr => ∃ k : Nat, k ≤ 13 ∧ i = .int .i64 k ∧ Hid (NoAct s k) ∧ wr = W) (fun i _ => 13 - (intOf i).toNat)
  case atStart => exact ⟨0, Nat.zero_le _, rfl, fun j hj => absurd hj (Nat.not_lt_zero _), rfl⟩
  case round =>
    obtain ⟨k, hk, rfl, HN, rfl⟩ := hrel
    by_cases hlt : k < 13
    · have h2 : (k : Int) < 13 := by omega
      have hkl : k < actsL.length := hlt
      have HG := Lib.hid (List.getElem?_eq_getElem hkl)
      have hc := HA.out k
      rw [HG.out, Option.map_some] at hc
      have HE := Lib.hid (actB_at s k hkl HN.out)
      have HW := Lib.hid (wrap_pow k (by omega))
      have HS : (actsL[k].toList == s.toList) = false → Hid (NoAct s (k + 1)) := fun hf j hj t ht => by
        by_cases hjk : j < k
        · exact HN.out j hjk t ht
        · obtain rfl : j = k := by omega
          rw [HG.out] at ht
          cases ht
          exact hf
      generalize actsL[k] = T at *
      cases hq : (T.toList == s.toList)
      · have HS2 := HS hq
        clear HS HE
        go_wp2
        go_roundw
        case rel => exact ⟨k + 1, by omega, by go_num, HS2, trivial⟩
        case measure => simp [intOf]; omega
      · have HE2 := Lib.hid (HE.out hq)
        clear HS HE
        go_wp2
        rw [HW.out, ← HE2.out]
        go_ret
        exact ⟨rfl, HB.out⟩
    · obtain rfl : k = 13 := by omega
      have HE := Lib.hid (actB_none s HN.out)
      go_wp2
      go_ret
      rw [HE.out]
      exact ⟨rfl, HB.out⟩

/-- A row of texts of the call's own: nil, or a block. -/
theorem own_at {w : World} {base n : Nat} {e : TypeId} {v : Value} {l : List ByteArray} (h : w.ownsRow base e 1 v n (textsV l)) (hn : 0 < n) :
    ∃ g c, v = .slice (some ⟨g, 0, none⟩) n c ∧ ∀ (j : Nat) (t : ByteArray), l[j]? = some t → w.cell? ⟨g, j, none⟩ = some (.string t) := by
  rcases h.2 with ⟨_, h0⟩ | ⟨g, cap, cur, rfl, _⟩
  · omega
  · refine ⟨g, cap, rfl, fun j t hj => ?_⟩
    have hl : l.length = n := by have := h.1; simpa [textsV] using this
    rw [h.cellAt j (by have := (List.getElem?_eq_some_iff.1 hj).1; omega)]
    unfold textsV
    rw [List.getElem?_map, hj]
    rfl

theorem says_no {c : ByteArray} {x : Cl} (h : says c x = true) (hc : c.toList = [45]) : x.c = false := by
  unfold says at h
  rw [if_pos hc] at h
  simpa using h
theorem says_yes {c : ByteArray} {x : Cl} (h : says c x = true) (hc : ¬ c.toList = [45]) :
    x.c = true ∧ ((halfB c).length = 1 ∧ x.a = 0 ∨ (halfB c).length = 2 ∧ ors ((namesB c).map actB) = x.a) ∧ (lastB c).toList = [48 + UInt8.ofNat x.n] ∧ x.n < 10 ∧ (namesB c).length ≤ 10 := by
  unfold says at h
  rw [if_neg hc] at h
  simp only [Bool.and_eq_true, decide_eq_true_eq] at h
  obtain ⟨⟨⟨⟨⟨h1, h2⟩, h3⟩, h4⟩, h5⟩, h6⟩ := h
  refine ⟨h1, ?_, h4, h5, h6⟩
  rcases h2 with h2 | h2
  · rw [if_neg (by omega)] at h3
    exact .inl ⟨h2, of_decide_eq_true h3⟩
  · rw [if_pos h2] at h3
    exact .inr ⟨h2, of_decide_eq_true h3⟩
theorem line_ok (e : Nat) (he : e < 16) : (lineB e).size ≤ 200 ∧ (pcs (lineB e) 32).length = 10 ∧ ∀ c ∈ pcs (lineB e) 32, c.size ≤ 100 ∧ ∀ h ∈ pcs c 47, h.size ≤ 100 := by
  have h := lines_ok e he
  unfold lineOk at h
  simp only [Bool.and_eq_true, decide_eq_true_eq, List.all_eq_true] at h
  exact ⟨h.1.1, h.1.2, h.2⟩

set_option maxHeartbeats 2000000 in
set_option maxRecDepth 100000 in
theorem rnext_bad (s e : Nat) (w : World) (hb : 10 ≤ s ∨ 16 ≤ e) :
    Calls Try.prog 29 #[.int .u8 s, .int .u8 e] w fun x w' => x = .returned (.tuple #[.int .u16 0, .int .u8 0, .int .i64 2]) ∧ Below w.heap.size w w' := by
  by_cases h : 10 ≤ s
  · have h1 : (10 : Int) ≤ (s : Int) := by omega
    clear hb h
    go_enter Try.func29, Try.ntmps29
    go_wp2
    go_ret3
    exact ⟨rfl, Below.refl _ _⟩
  · have h1 : (s : Int) < 10 := by omega
    have h2 : (16 : Int) ≤ (e : Int) := by omega
    clear hb h
    go_enter Try.func29, Try.ntmps29
    go_wp2
    go_ret3
    exact ⟨rfl, Below.refl _ _⟩

set_option maxHeartbeats 2000000 in
set_option maxRecDepth 100000 in
theorem rnext_no (s e : Nat) (w : World) (hs : s < 10) (he : e < 16) (hc : (cellB e s).toList = [45]) :
    Calls Try.prog 29 #[.int .u8 s, .int .u8 e] w fun x w' => x = .returned (.tuple #[.int .u16 0, .int .u8 0, .int .i64 120]) ∧ Below w.heap.size w w' := by
  obtain ⟨k1, k2, k3⟩ := line_ok e he
  have HL := Lib.hid (fun w => lines_any w)
  have HP := Lib.hid (fun w => parts_any (lineB e) 32 w (by omega))
  have HE := Lib.hid (show linesL[e]? = some (lineB e) by unfold lineB; rw [List.getD_eq_getElem?_getD, List.getElem?_eq_getElem (show e < linesL.length from he)]; rfl)
  have HC := Lib.hid (show (pcs (lineB e) 32)[s]? = some (cellB e s) by unfold cellB; rw [List.getD_eq_getElem?_getD, List.getElem?_eq_getElem (show s < (pcs (lineB e) 32).length by omega)]; rfl)
  have HK := Lib.hid k2
  have h1 : (s : Int) < 10 := by omega
  have h2 : (e : Int) < 16 := by omega
  have h3 : (0 : Int) ≤ s := Int.natCast_nonneg s
  have h4 : (0 : Int) ≤ e := Int.natCast_nonneg e
  have hcc : ((cellB e s).toList == [45]) = true := by rw [hc]; rfl
  clear k1 k2 k3 hc
  generalize cellB e s = C at *
  go_enter Try.func29, Try.ntmps29
  go_wp2_with fail
  refine (HL.out _).mono ?_
  rintro x w1 ⟨rfl, hw1⟩
  have hc1 : w1.cell? ⟨w.heap.size, e, none⟩ = some (.string (lineB e)) := by rw [hw1, texts_at, HE.out]; rfl
  have HB1 : Hid (Below w.heap.size w w1) := by rw [hw1]; exact (Below.refl _ w).alloc (Nat.le_refl _) _
  clear hw1
  go_wp2_with fail
  refine (HP.out _).mono ?_
  rintro x w2 ⟨v, rfl, hown, hb⟩
  have HB2 := Lib.hid (HB1.out.trans (hb.mono HB1.out.size))
  obtain ⟨g, c, rfl, hat⟩ := own_at hown (by rw [HK.out]; decide)
  have c1 := hat s C HC.out
  rw [HK.out]
  clear hown hb hat
  go_wp2
  go_ret3
  exact ⟨rfl, HB2.out⟩
end Go.Proofs.Ytkabjdejljdbiaa.Fsm
