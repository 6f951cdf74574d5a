/- Rows of texts in memory: a []string of the arguments, a row of the call's own. Of no function. -/
import Derived.Test.YtpfbknbloeilmaaDoorProg
import Derived.Test.YtpfbknbloeilmaaDoorPure
import Derived.Test.YtpfbknbloeilmaaDoorRow
import Derived.WalkKit
import Derived.WalkSpells
import Derived.WalkLawsBesides
import Derived.RegionTactic
import Derived.Deep.QuietTactic
import Derived.Deep.Quiet
import Derived.BigQuiet
import Derived.Lib.Hide
import Derived.Below
import Derived.OwnWalk
import Derived.Maps.AppendAt
import Derived.ProofKit
import Derived.SliceStrings
namespace Go.Proofs.YtpfbknbloeilmaaDoor.Oct
open Go.ChangeShapes Go.WideShapes Go.RowKit

/-- The slice '.slice A n c' holds the texts l, in blocks below B. -/
def Strs (w : World) (B : Nat) (A : Option Addr) (n : Nat) (l : List ByteArray) : Prop :=
  l.length = n ∧ (∀ s ∈ l, s.size ≤ maxLen) ∧ (0 < n → ∃ ad, A = some ad ∧ ad.block < B ∧ ∀ j (h : j < l.length), w.cell? (ad.add j) = some (.string l[j]))

theorem block_add (a : Addr) (n : Nat) : (a.add n).block = a.block := by unfold Addr.add; split <;> rfl
theorem Strs.below {w w' : World} {B : Nat} {A : Option Addr} {n : Nat} {l : List ByteArray} (h : Strs w B A n l) (hb : Below B w w') : Strs w' B A n l :=
  ⟨h.1, h.2.1, fun hn => by
    obtain ⟨ad, e, hB, hc⟩ := h.2.2 hn
    exact ⟨ad, e, hB, fun j hj => (hb.cell (by rw [block_add]; exact hB)).trans (hc j hj)⟩⟩
theorem Strs.more {w : World} {B B' : Nat} {A : Option Addr} {n : Nat} {l : List ByteArray} (h : Strs w B A n l) (hb : B ≤ B') : Strs w B' A n l :=
  ⟨h.1, h.2.1, fun hn => by
    obtain ⟨ad, e, hB, hc⟩ := h.2.2 hn
    exact ⟨ad, e, by omega, hc⟩⟩
theorem Strs.at_ {w : World} {B : Nat} {A : Option Addr} {n k : Nat} {l : List ByteArray} (h : Strs w B A n l) (hk : k < n) :
    ∃ ad t, A = some ad ∧ ad.block < B ∧ l[k]? = some t ∧ t.size ≤ maxLen ∧ w.cell? (ad.add k) = some (.string t) := by
  obtain ⟨ad, e, hB, hc⟩ := h.2.2 (by omega)
  have hl : k < l.length := by rw [h.1]; exact hk
  exact ⟨ad, l[k], e, hB, List.getElem?_eq_getElem hl, h.2.1 _ (List.getElem_mem hl), hc k hl⟩

def textsV (l : List ByteArray) : List Value := l.map Value.string
theorem strs_own {w : World} {base n : Nat} {e : TypeId} {v : Value} {l : List ByteArray} (h : w.ownsRow base e 1 v n (textsV l)) (hz : ∀ s ∈ l, s.size ≤ maxLen) :
    ∃ A c, v = .slice A n c ∧ Strs w w.heap.size A n l := by
  have hl : l.length = n := by have := h.1; simpa [textsV] using this
  rcases h.2 with ⟨rfl, rfl⟩ | ⟨g, cap, cur, rfl, hg, hh, _⟩
  · exact ⟨none, 0, rfl, hl, hz, fun h0 => absurd h0 (by omega)⟩
  · have hlt : g < w.heap.size := by
      rcases Nat.lt_or_ge g w.heap.size with hlt | hge
      · exact hlt
      · rw [Array.getElem?_eq_none hge] at hh; cases hh
    refine ⟨some ⟨g, 0, none⟩, cap, rfl, hl, hz, fun _ => ⟨_, rfl, hlt, fun j hj => ?_⟩⟩
    exact h.cells (g := g) rfl j _ (by simp [textsV, List.getElem?_eq_getElem hj])
theorem drewN_strs {w : World} {B n k : Nat} {A : Option Addr} {l : List ByteArray} (h : Strs w B A n l) : Strs (w.drewN k) B A n l := h

theorem strs_of {H : Type} {enc : TypeId × Value → H} {P : Program} {W : World} {base : Nat} {t e : TypeId} {v : Value} {d : DataW H} {p : List MemPlace} (ht : P.underlying t = some (.slice e)) (he : P.underlying e = some .string) (hc : P.cellsOf e = 1)
    (hv : Value.okWide P W .any base t v) (h : DataW.Trod enc P W 0 (fun _ => true) true t v d p) : ∃ A n c, v = .slice A n c ∧ n ≤ maxLen ∧ ∃ l, Strs W W.heap.size A n l := by
  obtain ⟨a0, len, cap, rfl⟩ := okWide_slice ht hv
  obtain ⟨fuel, hf⟩ := h
  rcases open_strings ht he hc hf with ⟨hcs, hx⟩ | ⟨a, len', cap', ss, hcs, _, hl, hm, hz, hx, hcell, hws⟩
  · simp [Value.cells] at hcs
    obtain ⟨rfl, rfl, rfl⟩ := hcs
    exact ⟨none, 0, 0, rfl, by simp [maxLen], [], rfl, (fun _ h => by cases h), (fun h => by omega)⟩
  · simp [Value.cells] at hcs
    obtain ⟨rfl, rfl, rfl⟩ := hcs
    simp at hz
    refine ⟨some a, len, cap, rfl, by omega, ss.take len, by rw [List.length_take]; omega, fun s hs => hws s (List.mem_of_mem_take hs), fun h0 => ⟨a, rfl, ?_, fun j hj => ?_⟩⟩
    · have h1 := hcell 0 (by omega)
      rcases Nat.lt_or_ge a.block W.heap.size with hlt | hge
      · exact hlt
      · have hb : (a.add 0).block = a.block := block_add a 0
        have hn : W.heap[(a.add 0).block]? = none := by rw [hb]; exact Array.getElem?_eq_none hge
        simp [World.cell?, hn] at h1
    · rw [List.length_take] at hj
      rw [hcell j (by omega), List.getElem_take]
      simp [List.getElem?_eq_getElem (show j < ss.length by omega)]

theorem strs_cells {w : World} {B n : Nat} {ad : Addr} {l : List ByteArray} (h : Strs w B (some ad) n l) : ∀ j u, (textsV l)[j]? = some u → w.cell? (ad.add j) = some u := by
  intro j u hu
  have hj : j < l.length := by
    rcases Nat.lt_or_ge j l.length with hj | hj
    · exact hj
    · rw [List.getElem?_eq_none (by simpa [textsV] using hj)] at hu
      cases hu
  obtain ⟨ad', e, _, hc⟩ := h.2.2 (by have := h.1; omega)
  cases e
  rw [hc j hj]
  simpa [textsV, List.getElem?_eq_getElem hj] using hu
theorem texts_one (l : List ByteArray) : ∀ u ∈ textsV l, u.oneCell' = true := by
  intro u hu
  obtain ⟨s, _, rfl⟩ := List.mem_map.1 hu
  rfl
theorem below_drewN' (w : World) (k : Nat) : Below w.heap.size w (w.drewN k) := ⟨rfl, rfl, rfl, Nat.le_refl _, fun _ _ => rfl⟩
end Go.Proofs.YtpfbknbloeilmaaDoor.Oct
