/- Two options of a row of the call's own change places; a part of a row. -/
import Derived.Test.YtndpiefdmlhacaaLcoT
import Derived.Laws.OwnMore
namespace Go.Proofs.Ytndpiefdmlhacaa.Lco
open Go.RowKit Go.Joins Go.Deep Go.Proofs.Ytndpiefdmlhacaa.Oct Go.Proofs.Ytndpiefdmlhacaa.Row Go.Proofs.Ytndpiefdmlhacaa.Mem Go.Proofs.Ytndpiefdmlhacaa.Opt

theorem optsV_set : ∀ (l : List Opt) (a : Nat) (o : Opt), optsV (l.set a o) = ((optsV l).set (a * 2) (.int .u8 o.1.toNat)).set (a * 2 + 1) (.string o.2)
  | [], _, _ => rfl
  | _ :: _, 0, _ => rfl
  | p :: l, a + 1, o => by
    have e : optsV (p :: l) = .int .u8 p.1.toNat :: .string p.2 :: optsV l := rfl
    have e' : optsV (p :: l.set a o) = .int .u8 p.1.toNat :: .string p.2 :: optsV (l.set a o) := rfl
    rw [List.set_cons_succ, e', optsV_set l a o, e, show (a + 1) * 2 = a * 2 + 1 + 1 by omega]
    rfl
/-- The option at place a is written over. -/
theorem own_set {w : World} {base g n cap : Nat} {l : List Opt} {e : TypeId} (h : w.ownsRow base e 2 (.slice (some ⟨g, 0, none⟩) n cap) n (optsV l)) (a : Nat) (o : Opt) :
    ((w.setCell ⟨g, a * 2, none⟩ (.int .u8 o.1.toNat)).setCell ⟨g, a * 2 + 1, none⟩ (.string o.2)).ownsRow base e 2 (.slice (some ⟨g, 0, none⟩) n cap) n (optsV (l.set a o)) := by
  rw [optsV_set]
  exact ((h.stored (a * 2) (.int .u8 o.1.toNat)).1.stored (a * 2 + 1) (.string o.2)).1
/-- Two options have changed places. -/
def swp (l : List Opt) (a b : Nat) (oa ob : Opt) : List Opt := (l.set a ob).set b oa
theorem swp_perm {l : List Opt} {a b : Nat} {oa ob : Opt} (ha : l[a]? = some oa) (hb : l[b]? = some ob) : (swp l a b oa ob).Perm l := by
  obtain ⟨h1, rfl⟩ := List.getElem?_eq_some_iff.1 ha
  obtain ⟨h2, rfl⟩ := List.getElem?_eq_some_iff.1 hb
  exact List.set_set_perm h1 h2
theorem swp_gets {l : List Opt} {a b : Nat} {oa ob : Opt} (ha : l[a]? = some oa) (hb : l[b]? = some ob) : gL (swp l a b oa ob) = gL l ∧ (gO (swp l a b oa ob)).length = (gO l).length ∧ gE (swp l a b oa ob) = gE l := st_perm (swp_perm ha hb)
theorem swp_size {l : List Opt} {a b : Nat} {oa ob : Opt} (ha : l[a]? = some oa) (hb : l[b]? = some ob) (hz : ∀ o ∈ l, o.2.size ≤ 140737488351232) : ∀ o ∈ swp l a b oa ob, o.2.size ≤ 140737488351232 := fun o ho => hz o ((swp_perm ha hb).mem_iff.1 ho)
/-- The first k options of a row, and those behind. -/
theorem opts_take {w : World} {B n k : Nat} {A : Option Addr} {l : List Opt} (h : Opts w B A n l) (hk : k ≤ n) : Opts w B A k (l.take k) := by
  refine ⟨by rw [List.length_take, h.1]; omega, fun o ho => h.2.1 o (List.mem_of_mem_take ho), fun h0 => ?_⟩
  obtain ⟨ad, e, hB, hc⟩ := h.2.2 (by omega)
  refine ⟨ad, e, hB, fun j hj => ?_⟩
  have hj' : j < l.length := by rw [List.length_take] at hj; omega
  have := hc j hj'
  rw [List.getElem_take]
  exact this
theorem opts_drop {w : World} {B n k : Nat} {ad : Addr} {l : List Opt} (h : Opts w B (some ad) n l) (hk : k ≤ n) : Opts w B (some (ad.add (k * 2))) (n - k) (l.drop k) := by
  refine ⟨by rw [List.length_drop, h.1], fun o ho => h.2.1 o (List.mem_of_mem_drop ho), fun h0 => ?_⟩
  obtain ⟨ad', e, hB, hc⟩ := h.2.2 (by omega)
  cases e
  refine ⟨_, rfl, by rw [Oct.block_add]; exact hB, fun j hj => ?_⟩
  have hj' : k + j < l.length := by rw [List.length_drop] at hj; omega
  have := hc (k + j) hj'
  rw [List.getElem_drop, add_add, show k * 2 + j * 2 = (k + j) * 2 by omega]
  exact this
theorem odd_gets {l : List Opt} {o : Opt} (h : good o = false) (k : Nat) : gL (l.take k ++ [o] ++ l.drop k) = gL l ∧ gE (l.take k ++ [o] ++ l.drop k) = gE l ∧ (gE l = 0 → (gO (l.take k ++ [o] ++ l.drop k)).length = (gO l).length + 1) := by
  have e : l.take k ++ [o] ++ l.drop k = l.take k ++ (o :: l.drop k) := by simp
  rw [e]
  exact st_odd h k
end Go.Proofs.Ytndpiefdmlhacaa.Lco
