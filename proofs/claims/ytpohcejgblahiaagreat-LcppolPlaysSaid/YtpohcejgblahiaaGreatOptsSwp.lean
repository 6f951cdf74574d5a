/- Two options of a row of the call's own change places; a part of a row; an option boxed. -/
import Derived.Test.YtpohcejgblahiaaGreatOptAt
import Derived.Test.YtpohcejgblahiaaGreatOptsStep
import Derived.Laws.OwnMore
namespace Go.Proofs.YtpohcejgblahiaaGreat.Opt
open Go.RowKit Go.Joins Go.Deep Go.Proofs.YtpohcejgblahiaaGreat.Oct Go.Proofs.YtpohcejgblahiaaGreat.Row Go.Proofs.YtpohcejgblahiaaGreat.Mem

theorem optsV_set : ∀ (l : List Opt) (a : Nat) (o : Opt), optsV (l.set a o) = ((optsV l).set (a * 2) (.int .u8 o.1.toNat)).set (a * 2 + 1) (.string o.2)
  | [], _, _ => rfl
  | _ :: _, 0, _ => rfl
  | p :: l, a + 1, o => by
    have e : optsV (p :: l) = .int .u8 p.1.toNat :: .string p.2 :: optsV l := rfl
    have e' : optsV (p :: l.set a o) = .int .u8 p.1.toNat :: .string p.2 :: optsV (l.set a o) := rfl
    rw [List.set_cons_succ, e', optsV_set l a o, e, show (a + 1) * 2 = a * 2 + 1 + 1 by omega]
    rfl
/-- The option at place a is written over. -/
theorem own_set {w : World} {base g n cap : Nat} {l : List Opt} {e : TypeId} (h : w.ownsRow base e 2 (.slice (some ⟨g, 0, none⟩) n cap) n (optsV l)) (a : Nat) (o : Opt) :
    ((w.setCell ⟨g, a * 2, none⟩ (.int .u8 o.1.toNat)).setCell ⟨g, a * 2 + 1, none⟩ (.string o.2)).ownsRow base e 2 (.slice (some ⟨g, 0, none⟩) n cap) n (optsV (l.set a o)) := by
  rw [optsV_set]
  exact ((h.stored (a * 2) (.int .u8 o.1.toNat)).1.stored (a * 2 + 1) (.string o.2)).1
/-- Two options have changed places. -/
def swp (l : List Opt) (a b : Nat) (oa ob : Opt) : List Opt := (l.set a ob).set b oa
theorem swp_perm {l : List Opt} {a b : Nat} {oa ob : Opt} (ha : l[a]? = some oa) (hb : l[b]? = some ob) : (swp l a b oa ob).Perm l := by
  obtain ⟨h1, rfl⟩ := List.getElem?_eq_some_iff.1 ha
  obtain ⟨h2, rfl⟩ := List.getElem?_eq_some_iff.1 hb
  exact List.set_set_perm h1 h2
theorem swp_size {l : List Opt} {a b : Nat} {oa ob : Opt} (ha : l[a]? = some oa) (hb : l[b]? = some ob) (hz : ∀ o ∈ l, o.2.size ≤ 140737488351232) : ∀ o ∈ swp l a b oa ob, o.2.size ≤ 140737488351232 := fun o ho => hz o ((swp_perm ha hb).mem_iff.1 ho)
/-- The first k options of a row, and those behind. -/
theorem opts_take {w : World} {B n k : Nat} {A : Option Addr} {l : List Opt} (h : Opts w B A n l) (hk : k ≤ n) : Opts w B A k (l.take k) := by
  refine ⟨by rw [List.length_take, h.1]; omega, fun o ho => h.2.1 o (List.mem_of_mem_take ho), fun h0 => ?_⟩
  obtain ⟨ad, e, hB, hc⟩ := h.2.2 (by omega)
  refine ⟨ad, e, hB, fun j hj => ?_⟩
  have hj' : j < l.length := by rw [List.length_take] at hj; omega
  have := hc j hj'
  rw [List.getElem_take]
  exact this
theorem opts_drop {w : World} {B n k : Nat} {ad : Addr} {l : List Opt} (h : Opts w B (some ad) n l) (hk : k ≤ n) : Opts w B (some (ad.add (k * 2))) (n - k) (l.drop k) := by
  refine ⟨by rw [List.length_drop, h.1], fun o ho => h.2.1 o (List.mem_of_mem_drop ho), fun h0 => ?_⟩
  obtain ⟨ad', e, hB, hc⟩ := h.2.2 (by omega)
  cases e
  refine ⟨_, rfl, by rw [Oct.block_add]; exact hB, fun j hj => ?_⟩
  have hj' : k + j < l.length := by rw [List.length_drop] at hj; omega
  have := hc (k + j) hj'
  rw [List.getElem_drop, add_add, show k * 2 + j * 2 = (k + j) * 2 by omega]
  exact this
theorem boxO (w : World) (t : UInt8) (d : ByteArray) : ∃ W, w.alloc (.cells #[.int .u8 t.toNat, .string d] 51) = W ∧ Hid (At W w.heap.size (t, d) ∧ Below w.heap.size w W) :=
  ⟨_, rfl, at_new w t d, (Below.refl w.heap.size w).alloc (Nat.le_refl _) _⟩
theorem own_pos {w : World} {base n : Nat} {e : TypeId} {v : Value} {xs : List Value} (h : w.ownsRow base e 2 v n xs) (hn : 0 < n) : ∃ g cap, v = .slice (some ⟨g, 0, none⟩) n cap ∧ base ≤ g ∧ g < w.heap.size := by
  rcases h.2 with ⟨_, h0⟩ | ⟨g, cap, cur, e', hb, hh, _⟩
  · omega
  · exact ⟨g, cap, e', hb, (Array.getElem?_eq_some_iff.1 hh).1⟩
theorem add0 (g j : Nat) : (⟨g, 0, none⟩ : Addr).add j = ⟨g, j, none⟩ := by
  unfold Addr.add
  split <;> simp_all
theorem own_at {w : World} {base g n cap a : Nat} {l : List Opt} {e : TypeId} {o : Opt} (h : w.ownsRow base e 2 (.slice (some ⟨g, 0, none⟩) n cap) n (optsV l)) (ho : l[a]? = some o) : w.cell? ⟨g, a * 2, none⟩ = some (.int .u8 o.1.toNat) ∧ w.cell? ⟨g, a * 2 + 1, none⟩ = some (.string o.2) ∧ w.frozen? ⟨g, a * 2, none⟩ = false ∧ w.frozen? ⟨g, a * 2 + 1, none⟩ = false := by
  obtain ⟨hj, rfl⟩ := List.getElem?_eq_some_iff.1 ho
  have hv := optsV_at l a hj
  have h1 := h.cells (g := g) rfl (a * 2) _ hv.1
  have h2 := h.cells (g := g) rfl (a * 2 + 1) _ hv.2
  rw [add0] at h1 h2
  exact ⟨h1, h2, h.frozenAt _, h.frozenAt _⟩
theorem own_mid {w : World} {base g n cap a : Nat} {l : List Opt} {e : TypeId} {o : Opt} (h : w.ownsRow base e 2 (.slice (some ⟨g, 0, none⟩) n cap) n (optsV l)) (ho : l[a]? = some o) (u : Value) : (w.setCell ⟨g, a * 2, none⟩ u).cell? ⟨g, a * 2 + 1, none⟩ = some (.string o.2) ∧ (w.setCell ⟨g, a * 2, none⟩ u).frozen? ⟨g, a * 2 + 1, none⟩ = false := by
  obtain ⟨hj, rfl⟩ := List.getElem?_eq_some_iff.1 ho
  have hv := optsV_at l a hj
  have h' := (h.stored (a * 2) u).1
  have h2 := h'.cells (g := g) rfl (a * 2 + 1) (.string l[a].2) (by rw [List.getElem?_set_ne (by omega)]; exact hv.2)
  rw [add0] at h2
  exact ⟨h2, h'.frozenAt _⟩
theorem blk_other {w : World} {k : Nat} {cs : List Value} {t : TypeId} (h : Blk w k cs t) {p : Addr} (hk : k ≠ p.block) (u : Value) : Blk (w.setCell p u) k cs t := (Below.heap_setCell w p u k hk).trans h
end Go.Proofs.YtpohcejgblahiaaGreat.Opt
