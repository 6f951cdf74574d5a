/- What a row is put as, step by step: plain mathematics for Put of both. -/
import Derived.Test.YtikcgcgbcolndaaGreatOptA
namespace Go.Proofs.YtikcgcgbcolndaaGreat.Opt
open Go.RowKit Go.Proofs.YtikcgcgbcolndaaGreat.Oct Go.Proofs.YtikcgcgbcolndaaGreat.Row Go.Proofs.YtikcgcgbcolndaaGreat.Mem

theorem put_step {l : List Opt} {k : Nat} {o : Opt} (h : l[k]? = some o) (hb : big (l.take k) = false) : (253 < o.2.size → big l = true) ∧
    (o.2.size ≤ 253 → big (l.take (k + 1)) = false ∧ bOf (enc (l.take k)) ++ bOf [o.1, UInt8.ofNat (2 + o.2.size)] ++ o.2 = bOf (enc (l.take (k + 1))) ∧ wt (l.take (k + 1)) = wt (l.take k) + (2 + o.2.size)) := by
  obtain ⟨hk, rfl⟩ := List.getElem?_eq_some_iff.1 h
  refine ⟨fun e => big_of_take (k := k + 1) ?_, fun e => ⟨?_, ?_, take_wt l k hk⟩⟩
  · rw [take_big l k hk, decide_eq_true e]; simp
  · rw [take_big l k hk, hb, decide_eq_false (by omega)]; rfl
  · rw [take_enc l k hk, append_bOf, append_bOf, toList_bOf, toList_bOf, toList_bOf, encO]
    simp
theorem put_big {l : List Opt} (hl : l.length ≤ 64) (h : big l = true) : pE l = 2 ∧ pA l = [] := by
  have e : pE l = 2 := by unfold pE; rw [if_neg (by omega), if_pos h]
  exact ⟨e, pA_no (by rw [e]; decide)⟩
theorem put_full {l : List Opt} (hl : 64 < l.length) : pE l = 4 ∧ pA l = [] := by
  have e : pE l = 4 := by unfold pE; rw [if_pos hl]
  exact ⟨e, pA_no (by rw [e]; decide)⟩
theorem put_long {l : List Opt} (hl : l.length ≤ 64) (h : big l = false) (hw : 1496 < wt l) : pE l = 5 ∧ pA l = [] := by
  have e : pE l = 5 := by unfold pE; rw [if_neg (by omega), if_neg (by rw [h]; decide), if_pos hw]
  exact ⟨e, pA_no (by rw [e]; decide)⟩
theorem put_ok {l : List Opt} (hl : l.length ≤ 64) (h : big l = false) (hw : wt l ≤ 1496) : pE l = 0 ∧ pA l = enc l := by
  have e : pE l = 0 := pE_zero.2 ⟨hl, h, hw⟩
  exact ⟨e, pA_yes e⟩

end Go.Proofs.YtikcgcgbcolndaaGreat.Opt
