/- What was asked, and answered, is told as it was; what is told makes the packet that it was; what is cut, or longer, is none. Plain mathematics. -/
import Derived.Test.YtpfbknbloeilmaaDoorPapDef
namespace Go.Proofs.YtpfbknbloeilmaaDoor.Pap
open Go.RowKit Go.Proofs.YtpfbknbloeilmaaDoor.Oct Go.Proofs.YtpfbknbloeilmaaDoor.Row

theorem join_zero {l : List ByteArray} (h : joinE l = 0) : ok8 (l.map (·.toList)) ∧ joinS l = bOf (jn8 (l.map (·.toList))) := by
  have ha : allOk l = true := by
    unfold joinE at h
    split at h
    · assumption
    · cases h
  have ho : ok8 (l.map (·.toList)) := by
    intro t ht
    obtain ⟨s, hs, rfl⟩ := List.mem_map.1 ht
    have := List.all_eq_true.1 ha s hs
    rw [decide_eq_true_eq] at this
    rw [← size_toList]; exact this
  exact ⟨ho, (join_yes ho).2⟩
theorem join_size {l : List ByteArray} (h : joinE l = 0) : (joinS l).size ≤ 256 * l.length := by
  have hz := join_zero h
  rw [hz.2, size_bOf]
  have := jn8_len _ hz.1
  rwa [List.length_map] at this
theorem as_back {n s : ByteArray} (h : joinE [n, s] = 0) : asV 1 (joinS [n, s]) = .tuple #[.string n, .string s, .int .i64 0] ∧ asE 1 (joinS [n, s]) = 0 ∧ asT 1 (joinS [n, s]) 0 = n ∧ asT 1 (joinS [n, s]) 1 = s := by
  have hz := join_zero h
  have hr := rdN_jn _ [] hz.1
  rw [List.append_nil] at hr
  have hr2 : rdN 2 (joinS [n, s]).toList = some ([n.toList, s.toList], []) := by rw [hz.2, toList_bOf]; exact hr
  have hv := asV_ok hr2
  rw [bOf_toList, bOf_toList] at hv
  refine ⟨hv, ?_⟩
  unfold asV at hv
  simp only [Value.tuple.injEq, Array.mk.injEq, List.cons.injEq, Value.string.injEq, Value.int.injEq, true_and, and_true] at hv
  exact ⟨hv.2.2, hv.1, hv.2.1⟩
theorem an_back {c : UInt8} (hc : c = 2 ∨ c = 3) {s : ByteArray} (h : joinE [s] = 0) : anV c (joinS [s]) = .tuple #[.bool (decide (c = 2)), .string s, .int .i64 0] := by
  have hz := join_zero h
  have hr := rdN_jn _ [] hz.1
  rw [List.append_nil] at hr
  have hr2 : rdN 1 (joinS [s]).toList = some ([s.toList], []) := by rw [hz.2, toList_bOf]; exact hr
  have hv := anV_ok hc hr2
  rw [bOf_toList] at hv
  exact hv
theorem as_zero {c : UInt8} {d : ByteArray} (h : asE c d = 0) : c = 1 ∧ joinE [asT c d 0, asT c d 1] = 0 ∧ joinS [asT c d 0, asT c d 1] = d ∧ (asT c d 0).size ≤ 255 ∧ (asT c d 1).size ≤ 255 := by
  by_cases hc : c = 1
  · subst hc
    have h1 : rdE 2 d.toList = 0 := h
    obtain ⟨ts, hts, hl, ho, hd⟩ := rdE_zero h1
    match ts, hl with
    | [t, t'], _ =>
      have h2 : asT 1 d 0 = bOf t ∧ asT 1 d 1 = bOf t' := by simp [asT, (rd_ok hts).2]
      rw [h2.1, h2.2]
      have ho' : ok8 ([bOf t, bOf t'].map (·.toList)) := by simpa [toList_bOf] using ho
      have hj := join_yes ho'
      refine ⟨rfl, hj.1, ?_, ?_, ?_⟩
      · rw [hj.2]
        simp only [List.map_cons, List.map_nil, toList_bOf]
        rw [← hd, bOf_toList]
      · rw [size_bOf]; exact ho t (by simp)
      · rw [size_bOf]; exact ho t' (by simp)
  · exfalso
    unfold asE at h
    rw [if_neg hc] at h
    cases h
theorem as_non {c : UInt8} {d : ByteArray} (h : asE c d ≠ 0) : asT c d 0 = bOf [] ∧ asT c d 1 = bOf [] := by
  unfold asE at h
  unfold asT
  by_cases hc : c = 1
  · rw [if_pos hc] at h
    rw [if_pos hc, if_pos hc, rdT_bad h]
    exact ⟨rfl, rfl⟩
  · rw [if_neg hc, if_neg hc]
    exact ⟨rfl, rfl⟩
theorem an_zero {c : UInt8} {d : ByteArray} (h : anE c d = 0) : (c = 2 ∨ c = 3) ∧ anW c d = decide (c = 2) ∧ (if anW c d = true then (2 : UInt8) else 3) = c ∧ joinE [anT c d] = 0 ∧ joinS [anT c d] = d ∧ (anT c d).size ≤ 255 := by
  by_cases hc : c = 2 ∨ c = 3
  · have h1 : rdE 1 d.toList = 0 := by unfold anE at h; rwa [if_pos hc] at h
    obtain ⟨ts, hts, hl, ho, hd⟩ := rdE_zero h1
    match ts, hl with
    | [t], _ =>
      have h2 : anT c d = bOf t := by simp [anT, hc, (rd_ok hts).2]
      have hw : anW c d = decide (c = 2) := by simp [anW, h1]
      rw [h2, hw]
      have ho' : ok8 ([bOf t].map (·.toList)) := by simpa [toList_bOf] using ho
      have hj := join_yes ho'
      refine ⟨hc, rfl, ?_, hj.1, ?_, ?_⟩
      · rcases hc with rfl | rfl <;> rfl
      · rw [hj.2]
        simp only [List.map_cons, List.map_nil, toList_bOf]
        rw [← hd, bOf_toList]
      · rw [size_bOf]; exact ho t (by simp)
  · exfalso
    unfold anE at h
    rw [if_neg hc] at h
    cases h
theorem an_non {c : UInt8} {d : ByteArray} (h : anE c d ≠ 0) : anW c d = false ∧ anT c d = bOf [] := by
  unfold anE at h
  unfold anW anT
  by_cases hc : c = 2 ∨ c = 3
  · rw [if_pos hc] at h
    rw [if_pos hc, rdT_bad h, decide_eq_false h, Bool.and_false]
    exact ⟨rfl, rfl⟩
  · rw [if_neg hc, decide_eq_false (fun e => hc (.inl e))]
    exact ⟨rfl, rfl⟩

theorem r8_take {t r : List UInt8} (h : t.length ≤ 255) (j : Nat) (hj : j < 1 + t.length) : r8 ((UInt8.ofNat t.length :: (t ++ r)).take j) = none := by
  cases j with
  | zero => rfl
  | succ k =>
    have e : (UInt8.ofNat t.length).toNat = t.length := by rw [UInt8.toNat_ofNat']; omega
    rw [List.take_succ_cons]
    simp only [r8, e]
    rw [if_pos (by rw [List.length_take]; omega)]
theorem rdN_cut : ∀ (ts : List (List UInt8)) (j : Nat), ok8 ts → j < (jn8 ts).length → rdN ts.length ((jn8 ts).take j) = none
  | [], j, _, hj => absurd hj (Nat.not_lt_zero j)
  | t :: ts, j, h, hj => by
    have ht := h t (by simp)
    rw [jn8] at hj ⊢
    rw [List.length_cons]
    by_cases h1 : j < 1 + t.length
    · exact rdN_bad (r8_take ht j h1)
    · obtain ⟨k, rfl⟩ : ∃ k, j = 1 + t.length + k := ⟨j - (1 + t.length), by omega⟩
      have e : (UInt8.ofNat t.length :: (t ++ jn8 ts)).take (1 + t.length + k) = UInt8.ofNat t.length :: (t ++ (jn8 ts).take k) := by
        rw [show 1 + t.length + k = (t.length + k) + 1 by omega, List.take_succ_cons, List.take_append, List.take_of_length_le (Nat.le_add_right _ _)]
        congr 3
        omega
      rw [e, rdN_step (r8_jn t _ ht), rdN_cut ts k (fun u hu => h u (by simp [hu])) (by simp at hj; omega)]
      rfl
theorem as_cut {n s : ByteArray} (h : joinE [n, s] = 0) {j : Nat} (hj : j < (joinS [n, s]).size) : asV 1 ((joinS [n, s]).extract 0 j) = .tuple #[.string (bOf []), .string (bOf []), .int .i64 6] := by
  have hz := join_zero h
  refine asV_end ?_
  rw [extract_front, toList_bOf]
  rw [hz.2, size_bOf] at hj
  rw [hz.2, toList_bOf]
  exact rdN_cut _ j hz.1 hj
theorem as_more {n s : ByteArray} (h : joinE [n, s] = 0) : asV 1 (joinS [n, s] ++ ⟨#[0]⟩) = .tuple #[.string (bOf []), .string (bOf []), .int .i64 7] := by
  have hz := join_zero h
  have hr := rdN_jn _ [0] hz.1
  refine asV_form (ts := [n.toList, s.toList]) (r := [0]) ?_ (by decide)
  rw [append_bOf, toList_bOf, hz.2, toList_bOf, show (⟨#[0]⟩ : ByteArray) = bOf [0] from rfl, toList_bOf]
  exact hr
theorem ck_end {d a b : ByteArray} {E : Int} {c : UInt8} (h : asV c d = .tuple #[.string (bOf []), .string (bOf []), .int .i64 E]) (hE : E ≠ 0) : ckB c d a b = false := by
  unfold asV at h
  simp only [Value.tuple.injEq, Array.mk.injEq, List.cons.injEq, Value.string.injEq, Value.int.injEq, true_and, and_true] at h
  unfold ckB
  rw [h.2.2]
  exact decide_eq_false fun e => hE e.1
theorem ck_same {n s m t : ByteArray} (h : joinE [n, s] = 0) : ckB 1 (joinS [n, s]) m t = decide (n = m ∧ s = t) := by
  unfold ckB
  rw [(as_back h).2.1, (as_back h).2.2.1, (as_back h).2.2.2]
  simp
theorem join_inj {n s m t : ByteArray} (h : joinE [n, s] = 0) (h' : joinE [m, t] = 0) (e : joinS [n, s] = joinS [m, t]) : n = m ∧ s = t := by
  have h1 := (as_back h).2.2
  rw [e] at h1
  exact ⟨h1.1.symm.trans (as_back h').2.2.1, h1.2.symm.trans (as_back h').2.2.2⟩
theorem join_pos {n s : ByteArray} (h : joinE [n, s] = 0) : 0 < (joinS [n, s]).size ∧ (joinS [n, s]).toList.isEmpty = false := by
  have hz := join_zero h
  rw [hz.2, size_bOf, toList_bOf]
  exact ⟨by simp [jn8], rfl⟩
end Go.Proofs.YtpfbknbloeilmaaDoor.Pap
