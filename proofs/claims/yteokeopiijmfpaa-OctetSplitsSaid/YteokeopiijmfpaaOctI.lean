/- A []string among the arguments; a copy of it; what is joined, and split again. -/
import Derived.Test.YteokeopiijmfpaaOctH
import Derived.Laws.AppendOwnNone
import Derived.ProofKit
import Derived.SliceStrings
namespace Go.Proofs.Yteokeopiijmfpaa.Oct
open Go.ChangeShapes Go.WideShapes Go.RowKit

theorem strs_of {H : Type} {enc : TypeId × Value → H} {P : Program} {W : World} {base : Nat} {t e : TypeId} {v : Value} {d : DataW H} {p : List MemPlace} (ht : P.underlying t = some (.slice e)) (he : P.underlying e = some .string) (hc : P.cellsOf e = 1)
    (hv : Value.okWide P W .any base t v) (h : DataW.Trod enc P W 0 (fun _ => true) true t v d p) : ∃ A n c, v = .slice A n c ∧ n ≤ maxLen ∧ ∃ l, Strs W W.heap.size A n l := by
  obtain ⟨a0, len, cap, rfl⟩ := okWide_slice ht hv
  obtain ⟨fuel, hf⟩ := h
  rcases open_strings ht he hc hf with ⟨hcs, hx⟩ | ⟨a, len', cap', ss, hcs, _, hl, hm, hz, hx, hcell, hws⟩
  · simp [Value.cells] at hcs
    obtain ⟨rfl, rfl, rfl⟩ := hcs
    exact ⟨none, 0, 0, rfl, by simp [maxLen], [], rfl, (fun _ h => by cases h), (fun h => by omega)⟩
  · simp [Value.cells] at hcs
    obtain ⟨rfl, rfl, rfl⟩ := hcs
    simp at hz
    refine ⟨some a, len, cap, rfl, by omega, ss.take len, by rw [List.length_take]; omega, fun s hs => hws s (List.mem_of_mem_take hs), fun h0 => ⟨a, rfl, ?_, fun j hj => ?_⟩⟩
    · have h1 := hcell 0 (by omega)
      rcases Nat.lt_or_ge a.block W.heap.size with hlt | hge
      · exact hlt
      · have hb : (a.add 0).block = a.block := block_add a 0
        have hn : W.heap[(a.add 0).block]? = none := by rw [hb]; exact Array.getElem?_eq_none hge
        simp [World.cell?, hn] at h1
    · rw [List.length_take] at hj
      rw [hcell j (by omega), List.getElem_take]
      simp [List.getElem?_eq_getElem (show j < ss.length by omega)]

theorem strs_cells {w : World} {B n : Nat} {ad : Addr} {l : List ByteArray} (h : Strs w B (some ad) n l) : ∀ j u, (textsV l)[j]? = some u → w.cell? (ad.add j) = some u := by
  intro j u hu
  have hj : j < l.length := by
    rcases Nat.lt_or_ge j l.length with hj | hj
    · exact hj
    · rw [List.getElem?_eq_none (by simpa [textsV] using hj)] at hu
      cases hu
  obtain ⟨ad', e, _, hc⟩ := h.2.2 (by have := h.1; omega)
  cases e
  rw [hc j hj]
  simpa [textsV, List.getElem?_eq_getElem hj] using hu
theorem texts_one (l : List ByteArray) : ∀ u ∈ textsV l, u.oneCell' = true := by
  intro u hu
  obtain ⟨s, _, rfl⟩ := List.mem_map.1 hu
  rfl
theorem joinS_size (l : List ByteArray) (n : Nat) (hl : l.length = n) (hn : n ≤ 300) : (joinS l).size ≤ 1048576 := by
  unfold joinS
  split
  · rename_i h
    have ho : ok8 (l.map (·.toList)) := by
      intro t ht
      obtain ⟨s, hs, rfl⟩ := List.mem_map.1 ht
      have := List.all_eq_true.1 h s hs
      rw [← size_toList]
      simpa using this
    have := jn8_len _ ho
    rw [List.length_map] at this
    rw [size_bOf]
    omega
  · rw [size_bOf]; simp
theorem ok_of_all {l : List ByteArray} (h : allOk l = true) : ok8 (l.map (·.toList)) := by
  intro t ht
  obtain ⟨s, hs, rfl⟩ := List.mem_map.1 ht
  have := List.all_eq_true.1 h s hs
  rw [← size_toList]
  simpa using this
theorem map_back (l : List ByteArray) : (l.map (·.toList)).map bOf = l := by
  rw [List.map_map]
  conv => rhs; rw [← List.map_id l]
  apply List.map_congr_left
  intro s _
  exact bOf_toList s
theorem split_join {l : List ByteArray} (h : allOk l = true) : splitE (joinS l) = 0 ∧ splitL (joinS l) = l := by
  have hj : joinS l = bOf (jn8 (l.map (·.toList))) := by simp [joinS, h]
  have hs := split_yes (s := joinS l) (by rw [hj, toList_bOf]; exact split_jn _ (ok_of_all h))
  exact ⟨hs.1, by rw [hs.2, map_back]⟩
theorem map_inj {l m : List ByteArray} (h : l.map (·.toList) = m.map (·.toList)) : l = m := by rw [← map_back l, h, map_back]
theorem join_eq {l m : List ByteArray} (h : allOk l = true) (h' : allOk m = true) : ((joinS l).toList == (joinS m).toList) = decide (l = m) := by
  have hj : joinS l = bOf (jn8 (l.map (·.toList))) := by simp [joinS, h]
  have hj' : joinS m = bOf (jn8 (m.map (·.toList))) := by simp [joinS, h']
  rw [beq_toList, hj, hj', toList_bOf, toList_bOf]
  by_cases e : l = m
  · subst e; simp
  · have : ¬ jn8 (l.map (·.toList)) = jn8 (m.map (·.toList)) := fun h1 => e (map_inj (jn8_inj (ok_of_all h) (ok_of_all h') h1))
    simp [e, this]
theorem join_split {s : ByteArray} {l : List (List UInt8)} (h : split s.toList = some l) : joinE (splitL s) = 0 ∧ joinS (splitL s) = s := by
  have hs := split_some _ s.toList l (Nat.le_refl _) h
  have hy := split_yes h
  have e : (splitL s).map (·.toList) = l := by
    rw [hy.2, List.map_map]
    conv => rhs; rw [← List.map_id l]
    apply List.map_congr_left
    intro t _
    exact toList_bOf t
  have hj := join_yes (l := splitL s) (by rw [e]; exact hs.2)
  exact ⟨hj.1, by rw [hj.2, e, hs.1, bOf_toList]⟩
theorem split_len (s : ByteArray) (hs : s.size ≤ 32768) : (splitL s).length ≤ 32768 := by
  unfold splitL
  cases h : split s.toList with
  | none => simp
  | some l =>
    have hj := (split_some _ s.toList l (Nat.le_refl _) h).1
    have : ∀ l : List (List UInt8), l.length ≤ (jn8 l).length := by
      intro l
      induction l with
      | nil => simp
      | cons t l ih => simp only [jn8, List.length_cons, List.length_append]; omega
    have h2 := this l
    rw [hj, ← size_toList] at h2
    simp only [List.length_map]
    omega
end Go.Proofs.Yteokeopiijmfpaa.Oct
