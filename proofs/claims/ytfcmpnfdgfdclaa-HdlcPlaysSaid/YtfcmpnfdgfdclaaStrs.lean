/- Rows of texts in memory: a []string of the arguments, a row of the call's own; contract of Same. -/
import Derived.Test.YtfcmpnfdgfdclaaProg
import Derived.Test.YtfcmpnfdgfdclaaPure
import Derived.Test.YtfcmpnfdgfdclaaRow
import Derived.WalkKit
import Derived.WalkSpells
import Derived.WalkLawsBesides
import Derived.RegionTactic
import Derived.Deep.QuietTactic
import Derived.Deep.Quiet
import Derived.BigQuiet
import Derived.Lib.Hide
import Derived.Below
import Derived.OwnWalk
import Derived.Maps.AppendAt
import Derived.ProofKit
import Derived.SliceStrings
namespace Go.Proofs.Ytfcmpnfdgfdclaa.Oct
open Go.ChangeShapes Go.WideShapes Go.RowKit

/-- The slice '.slice A n c' holds the texts l, in blocks below B. -/
def Strs (w : World) (B : Nat) (A : Option Addr) (n : Nat) (l : List ByteArray) : Prop :=
  l.length = n ∧ (∀ s ∈ l, s.size ≤ maxLen) ∧ (0 < n → ∃ ad, A = some ad ∧ ad.block < B ∧ ∀ j (h : j < l.length), w.cell? (ad.add j) = some (.string l[j]))

theorem block_add (a : Addr) (n : Nat) : (a.add n).block = a.block := by unfold Addr.add; split <;> rfl
theorem Strs.below {w w' : World} {B : Nat} {A : Option Addr} {n : Nat} {l : List ByteArray} (h : Strs w B A n l) (hb : Below B w w') : Strs w' B A n l :=
  ⟨h.1, h.2.1, fun hn => by
    obtain ⟨ad, e, hB, hc⟩ := h.2.2 hn
    exact ⟨ad, e, hB, fun j hj => (hb.cell (by rw [block_add]; exact hB)).trans (hc j hj)⟩⟩
theorem Strs.more {w : World} {B B' : Nat} {A : Option Addr} {n : Nat} {l : List ByteArray} (h : Strs w B A n l) (hb : B ≤ B') : Strs w B' A n l :=
  ⟨h.1, h.2.1, fun hn => by
    obtain ⟨ad, e, hB, hc⟩ := h.2.2 hn
    exact ⟨ad, e, by omega, hc⟩⟩
theorem Strs.at_ {w : World} {B : Nat} {A : Option Addr} {n k : Nat} {l : List ByteArray} (h : Strs w B A n l) (hk : k < n) :
    ∃ ad t, A = some ad ∧ ad.block < B ∧ l[k]? = some t ∧ t.size ≤ maxLen ∧ w.cell? (ad.add k) = some (.string t) := by
  obtain ⟨ad, e, hB, hc⟩ := h.2.2 (by omega)
  have hl : k < l.length := by rw [h.1]; exact hk
  exact ⟨ad, l[k], e, hB, List.getElem?_eq_getElem hl, h.2.1 _ (List.getElem_mem hl), hc k hl⟩

def textsV (l : List ByteArray) : List Value := l.map Value.string
theorem strs_own {w : World} {base n : Nat} {e : TypeId} {v : Value} {l : List ByteArray} (h : w.ownsRow base e 1 v n (textsV l)) (hz : ∀ s ∈ l, s.size ≤ maxLen) :
    ∃ A c, v = .slice A n c ∧ Strs w w.heap.size A n l := by
  have hl : l.length = n := by have := h.1; simpa [textsV] using this
  rcases h.2 with ⟨rfl, rfl⟩ | ⟨g, cap, cur, rfl, hg, hh, _⟩
  · exact ⟨none, 0, rfl, hl, hz, fun h0 => absurd h0 (by omega)⟩
  · have hlt : g < w.heap.size := by
      rcases Nat.lt_or_ge g w.heap.size with hlt | hge
      · exact hlt
      · rw [Array.getElem?_eq_none hge] at hh; cases hh
    refine ⟨some ⟨g, 0, none⟩, cap, rfl, hl, hz, fun _ => ⟨_, rfl, hlt, fun j hj => ?_⟩⟩
    exact h.cells (g := g) rfl j _ (by simp [textsV, List.getElem?_eq_getElem hj])
theorem drewN_strs {w : World} {B n k : Nat} {A : Option Addr} {l : List ByteArray} (h : Strs w B A n l) : Strs (w.drewN k) B A n l := h

theorem take_more {l l' : List ByteArray} {k : Nat} {t : ByteArray} (h : l.take k = l'.take k) (h1 : l[k]? = some t) (h2 : l'[k]? = some t) : Hid (l.take (k + 1) = l'.take (k + 1)) := by
  obtain ⟨hk, e⟩ := List.getElem?_eq_some_iff.1 h1
  obtain ⟨hk', e'⟩ := List.getElem?_eq_some_iff.1 h2
  show _ = _
  rw [List.take_succ_eq_append_getElem hk, List.take_succ_eq_append_getElem hk', h, e, e']

set_option maxHeartbeats 1000000 in
theorem same_any (A A' : Option Addr) (n n' c c' : Nat) (l l' : List ByteArray) (w : World) (hn : n ≤ maxLen) (hl : Strs w w.heap.size A n l) (hl' : Strs w w.heap.size A' n' l') :
    Calls Try.prog 18 #[.slice A n c, .slice A' n' c'] w fun e w' => e = .returned (.bool (decide (l = l'))) ∧ ∃ k, w' = w.drewN k := by
  have Hl := Lib.hid hl; clear hl
  have Hl' := Lib.hid hl'; clear hl'
  unfold maxLen at hn
  by_cases hnn : n = n'
  · subst hnn
    go_enter Try.func18, Try.ntmps18
    go_wp2
    go_loopw [5] (fun i wr => ∃ (k q : Nat), k ≤ n ∧ i = .int .i64 k ∧ Hid (l.take k = l'.take k) ∧ wr = w.drewN q) (fun i _ => n - (intOf i).toNat)
    case atStart => exact ⟨0, 0, Nat.zero_le _, rfl, rfl, rfl⟩
    case round =>
      obtain ⟨k, q, hk, rfl, Hk, rfl⟩ := hrel
      by_cases hlt : k < n
      · obtain ⟨ad, t, rfl, hB, ht, htl, hc⟩ := Hl.out.at_ hlt
        obtain ⟨ad', t', rfl, hB', ht', htl', hc'⟩ := Hl'.out.at_ hlt
        have Ht := Lib.hid ht; clear ht
        have Ht' := Lib.hid ht'; clear ht'
        by_cases he : t = t'
        · have h1 : (t.toList == t'.toList) = true := by rw [he]; simp
          have He := Lib.hid he; clear he
          go_wp2
          go_quiet (fail)
          go_wp2
          go_roundw
          case rel => exact ⟨k + 1, q + nq, by omega, by go_num, take_more Hk.out Ht.out (He.out ▸ Ht'.out), rfl⟩
          case measure => simp [intOf]; omega
        · have h1 : (t.toList == t'.toList) = false := by
            rw [beq_toList]
            exact decide_eq_false fun h => he (toList_inj h)
          have He := Lib.hid he; clear he
          go_wp2
          go_quiet (fail)
          go_wp2
          go_ret
          have hne : ¬ l = l' := by
            rintro rfl
            have h2 := Ht.out
            rw [Ht'.out] at h2
            exact He.out (Option.some.inj h2).symm
          rw [decide_eq_false hne]
          exact ⟨rfl, _, World.drewN_drewN _ _ _⟩
      · obtain rfl : k = n := by omega
        go_wp2
        go_ret
        have h2 := Hk.out
        rw [List.take_of_length_le (by rw [Hl.out.1]; exact Nat.le_refl _), List.take_of_length_le (by rw [Hl'.out.1]; exact Nat.le_refl _)] at h2
        rw [decide_eq_true h2]
        exact ⟨rfl, q, rfl⟩
  · have h1 : ((n : Int) != n') = true := by simp; omega
    have Hnn := Lib.hid hnn; clear hnn
    go_enter Try.func18, Try.ntmps18
    go_wp2
    go_ret
    have hne : ¬ l = l' := by
      rintro rfl
      exact Hnn.out (Hl.out.1.symm.trans Hl'.out.1)
    rw [decide_eq_false hne]
    exact ⟨rfl, 0, rfl⟩

theorem strs_of {H : Type} {enc : TypeId × Value → H} {P : Program} {W : World} {base : Nat} {t e : TypeId} {v : Value} {d : DataW H} {p : List MemPlace} (ht : P.underlying t = some (.slice e)) (he : P.underlying e = some .string) (hc : P.cellsOf e = 1)
    (hv : Value.okWide P W .any base t v) (h : DataW.Trod enc P W 0 (fun _ => true) true t v d p) : ∃ A n c, v = .slice A n c ∧ n ≤ maxLen ∧ ∃ l, Strs W W.heap.size A n l := by
  obtain ⟨a0, len, cap, rfl⟩ := okWide_slice ht hv
  obtain ⟨fuel, hf⟩ := h
  rcases open_strings ht he hc hf with ⟨hcs, hx⟩ | ⟨a, len', cap', ss, hcs, _, hl, hm, hz, hx, hcell, hws⟩
  · simp [Value.cells] at hcs
    obtain ⟨rfl, rfl, rfl⟩ := hcs
    exact ⟨none, 0, 0, rfl, by simp [maxLen], [], rfl, (fun _ h => by cases h), (fun h => by omega)⟩
  · simp [Value.cells] at hcs
    obtain ⟨rfl, rfl, rfl⟩ := hcs
    simp at hz
    refine ⟨some a, len, cap, rfl, by omega, ss.take len, by rw [List.length_take]; omega, fun s hs => hws s (List.mem_of_mem_take hs), fun h0 => ⟨a, rfl, ?_, fun j hj => ?_⟩⟩
    · have h1 := hcell 0 (by omega)
      rcases Nat.lt_or_ge a.block W.heap.size with hlt | hge
      · exact hlt
      · have hb : (a.add 0).block = a.block := block_add a 0
        have hn : W.heap[(a.add 0).block]? = none := by rw [hb]; exact Array.getElem?_eq_none hge
        simp [World.cell?, hn] at h1
    · rw [List.length_take] at hj
      rw [hcell j (by omega), List.getElem_take]
      simp [List.getElem?_eq_getElem (show j < ss.length by omega)]

theorem strs_cells {w : World} {B n : Nat} {ad : Addr} {l : List ByteArray} (h : Strs w B (some ad) n l) : ∀ j u, (textsV l)[j]? = some u → w.cell? (ad.add j) = some u := by
  intro j u hu
  have hj : j < l.length := by
    rcases Nat.lt_or_ge j l.length with hj | hj
    · exact hj
    · rw [List.getElem?_eq_none (by simpa [textsV] using hj)] at hu
      cases hu
  obtain ⟨ad', e, _, hc⟩ := h.2.2 (by have := h.1; omega)
  cases e
  rw [hc j hj]
  simpa [textsV, List.getElem?_eq_getElem hj] using hu
theorem texts_one (l : List ByteArray) : ∀ u ∈ textsV l, u.oneCell' = true := by
  intro u hu
  obtain ⟨s, _, rfl⟩ := List.mem_map.1 hu
  rfl
theorem below_drewN' (w : World) (k : Nat) : Below w.heap.size w (w.drewN k) := ⟨rfl, rfl, rfl, Nat.le_refl _, fun _ _ => rfl⟩
end Go.Proofs.Ytfcmpnfdgfdclaa.Oct
