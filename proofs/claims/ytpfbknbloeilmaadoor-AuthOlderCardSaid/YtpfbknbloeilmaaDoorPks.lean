/- Rows of packets in memory: that are read, of the call's own; an append of a row. Of no function. -/
import Derived.Test.YtpfbknbloeilmaaDoorBlk
import Derived.Test.YtpfbknbloeilmaaDoorOpts
import Derived.OwnWalk
import Derived.Maps.AppendAt
import Derived.BigQuiet
import Derived.Laws.AppendOwnNone
namespace Go.Proofs.YtpfbknbloeilmaaDoor.Mem
open Go.RowKit Go.Deep Go.Proofs.YtpfbknbloeilmaaDoor.Oct Go.Proofs.YtpfbknbloeilmaaDoor.Row

/-! ### rows of the call's own -/
theorem own_slice {w : World} {base n size : Nat} {e : TypeId} {v : Value} {xs : List Value} (h : w.ownsRow base e size v n xs) : ∃ R rc, v = .slice R n rc := by
  rcases h.2 with ⟨rfl, h0⟩ | ⟨g, cap, cur, rfl, _⟩
  · exact ⟨none, 0, by rw [h0]⟩
  · exact ⟨_, _, rfl⟩
theorem own_mono {w : World} {base b' n size : Nat} {e : TypeId} {v : Value} {xs : List Value} (h : w.ownsRow base e size v n xs) (hb : b' ≤ base) : w.ownsRow b' e size v n xs := by
  refine ⟨h.1, ?_⟩
  rcases h.2 with hn | ⟨g, cap, cur, e1, hg, rest⟩
  · exact .inl hn
  · exact .inr ⟨g, cap, cur, e1, Nat.le_trans hb hg, rest⟩
theorem set1_moves (w : World) (g i : Nat) (v : Value) : Moves (fun k => k = g) w (w.setCell ⟨g, i, none⟩ v) := ⟨rfl, rfl, rfl, by simp [World.setCell], fun k _ hk => Below.heap_setCell _ _ _ _ hk⟩

/-- A packet: its code, its identifier, its data. -/
structure Pk where
  c : UInt8
  i : UInt8
  d : ByteArray
def pkV (p : Pk) : List Value := [.int .u8 p.c.toNat, .int .u8 p.i.toNat, .string p.d]
def pksV (l : List Pk) : List Value := l.flatMap pkV
theorem pksV_append (l m : List Pk) : pksV (l ++ m) = pksV l ++ pksV m := by unfold pksV; rw [List.flatMap_append]
theorem pksV_one (p : Pk) : pksV [p] = [.int .u8 p.c.toNat, .int .u8 p.i.toNat, .string p.d] := by simp [pksV, pkV]
theorem pksV_length : ∀ l : List Pk, (pksV l).length = l.length * 3
  | [] => rfl
  | o :: l => by
    show (pkV o ++ pksV l).length = _
    rw [List.length_append, pksV_length l, List.length_cons]
    simp [pkV]; omega
theorem pksV_ones (l : List Pk) : ∀ u ∈ pksV l, u.oneCell' = true := by
  intro u hu
  obtain ⟨o, _, ho⟩ := List.mem_flatMap.1 hu
  simp [pkV] at ho
  rcases ho with rfl | rfl | rfl <;> rfl

theorem pksV_at : ∀ (l : List Pk) (j : Nat) (h : j < l.length), (pksV l)[j * 3]? = some (.int .u8 l[j].c.toNat) ∧ (pksV l)[j * 3 + 1]? = some (.int .u8 l[j].i.toNat) ∧ (pksV l)[j * 3 + 2]? = some (.string l[j].d)
  | o :: l, 0, _ => ⟨rfl, rfl, rfl⟩
  | o :: l, j + 1, h => by
    have := pksV_at l j (by simpa using h)
    have e : pksV (o :: l) = .int .u8 o.c.toNat :: .int .u8 o.i.toNat :: .string o.d :: pksV l := rfl
    rw [e, show (j + 1) * 3 = j * 3 + 1 + 1 + 1 by omega]
    simpa using this
/-- The slice '.slice A l.length c' holds the packets l. -/
def Pks (w : World) (A : Option Addr) (l : List Pk) : Prop :=
  0 < l.length → ∃ ad, A = some ad ∧ ad.block < w.heap.size ∧ ∀ j (h : j < l.length), w.cell? (ad.add (j * 3)) = some (.int .u8 l[j].c.toNat) ∧ w.cell? ⟨(ad.add (j * 3)).block, (ad.add (j * 3)).off + 1, none⟩ = some (.int .u8 l[j].i.toNat) ∧ w.cell? ⟨(ad.add (j * 3)).block, (ad.add (j * 3)).off + 2, none⟩ = some (.string l[j].d)
theorem pks_own {w : World} {base : Nat} {e : TypeId} {A : Option Addr} {c : Nat} {l : List Pk} (h : w.ownsRow base e 3 (.slice A l.length c) l.length (pksV l)) : Pks w A l := by
  intro h0
  rcases h.2 with ⟨e1, h1⟩ | ⟨g, cap, cur, e1, hg, hh, _⟩
  · omega
  · cases e1
    have hlt : g < w.heap.size := (Array.getElem?_eq_some_iff.1 hh).1
    refine ⟨⟨g, 0, none⟩, rfl, hlt, fun j hj => ?_⟩
    have hv := pksV_at l j hj
    have c0 := h.cells (g := g) rfl (j * 3) _ hv.1
    have c1 := h.cells (g := g) rfl (j * 3 + 1) _ hv.2.1
    have c2 := h.cells (g := g) rfl (j * 3 + 2) _ hv.2.2
    refine ⟨c0, ?_, ?_⟩
    · rw [← add_add] at c1
      exact c1
    · rw [← add_add] at c2
      exact c2
theorem Pks.below {w w' : World} {A : Option Addr} {l : List Pk} (h : Pks w A l) (hb : Below w.heap.size w w') : Pks w' A l := fun hn => by
  obtain ⟨ad, e, hB, hc⟩ := h hn
  refine ⟨ad, e, Nat.lt_of_lt_of_le hB hb.size, fun j hj => ⟨?_, ?_, ?_⟩⟩
  · exact (hb.cell (by rw [Oct.block_add]; exact hB)).trans (hc j hj).1
  · exact (hb.cell (by show (ad.add (j * 3)).block < _; rw [Oct.block_add]; exact hB)).trans (hc j hj).2.1
  · exact (hb.cell (by show (ad.add (j * 3)).block < _; rw [Oct.block_add]; exact hB)).trans (hc j hj).2.2
theorem Pks.moves {S : Nat → Prop} {w w' : World} {A : Option Addr} {l : List Pk} (h : Pks w A l) (hm : Moves S w w') (hs : ∀ ad, A = some ad → ¬ S ad.block) : Pks w' A l := fun hn => by
  obtain ⟨ad, e, hB, hc⟩ := h hn
  have hs := hs ad e
  refine ⟨ad, e, Nat.lt_of_lt_of_le hB hm.size, fun j hj => ⟨?_, ?_, ?_⟩⟩
  · exact (hm.cell (by rw [Oct.block_add]; exact hB) (by rw [Oct.block_add]; exact hs)).trans (hc j hj).1
  · exact (hm.cell (by show (ad.add (j * 3)).block < _; rw [Oct.block_add]; exact hB) (by show ¬ S (ad.add (j * 3)).block; rw [Oct.block_add]; exact hs)).trans (hc j hj).2.1
  · exact (hm.cell (by show (ad.add (j * 3)).block < _; rw [Oct.block_add]; exact hB) (by show ¬ S (ad.add (j * 3)).block; rw [Oct.block_add]; exact hs)).trans (hc j hj).2.2
theorem Pks.at_ {w : World} {A : Option Addr} {l : List Pk} {k : Nat} (h : Pks w A l) (hk : k < l.length) :
    ∃ ad p, A = some ad ∧ l[k]? = some p ∧ w.cell? (ad.add (k * 3)) = some (.int .u8 p.c.toNat) ∧ w.cell? ⟨(ad.add (k * 3)).block, (ad.add (k * 3)).off + 1, none⟩ = some (.int .u8 p.i.toNat) ∧ w.cell? ⟨(ad.add (k * 3)).block, (ad.add (k * 3)).off + 2, none⟩ = some (.string p.d) := by
  obtain ⟨ad, e, hB, hc⟩ := h (by omega)
  exact ⟨ad, l[k], e, List.getElem?_eq_getElem hk, hc k hk⟩
theorem pks_one (w : World) (p : Pk) (t : TypeId) : Pks (w.alloc (.cells #[.int .u8 p.c.toNat, .int .u8 p.i.toNat, .string p.d] t)) (some ⟨w.heap.size, 0, none⟩) [p] := by
  have hb := blk_new w [.int .u8 p.c.toNat, .int .u8 p.i.toNat, .string p.d] t
  refine fun _ => ⟨_, rfl, hb.lt, fun j hj => ?_⟩
  match j, hj with
  | 0, _ => exact ⟨hb.at_ 0, hb.at_ 1, hb.at_ 2⟩

/-! ### an append -/
theorem pks_cells {w : World} {ad : Addr} {l : List Pk} (h : Pks w (some ad) l) : ∀ j u, (pksV l)[j]? = some u → w.cell? (ad.add j) = some u := by
  intro j u hu
  have hj : j / 3 < l.length := by
    have := (List.getElem?_eq_some_iff.1 hu).1
    rw [pksV_length] at this
    omega
  obtain ⟨ad', e, _, hc⟩ := h (by omega)
  cases e
  obtain ⟨c0, c1, c2⟩ := hc _ hj
  obtain ⟨v0, v1, v2⟩ := pksV_at l _ hj
  rcases (show j % 3 = 0 ∨ j % 3 = 1 ∨ j % 3 = 2 by omega) with hm | hm | hm
  · rw [show j / 3 * 3 = j by omega] at v0 c0
    rw [c0]; rw [v0] at hu; exact hu
  · rw [show j / 3 * 3 + 1 = j by omega] at v1
    rw [v1] at hu
    rw [← hu, ← c1, show j = j / 3 * 3 + 1 by omega, ← add_add]
    rw [show (j / 3 * 3 + 1) / 3 * 3 = j / 3 * 3 by omega]
    rfl
  · rw [show j / 3 * 3 + 2 = j by omega] at v2
    rw [v2] at hu
    rw [← hu, ← c2, show j = j / 3 * 3 + 2 by omega, ← add_add]
    rw [show (j / 3 * 3 + 2) / 3 * 3 = j / 3 * 3 by omega]
    rfl
theorem append_pks {P : Program} {w : World} {ops : Array Oper} {rest : List Oper} {o : Oper} {a : Act} {Q : Exit → Act → World → Prop} (hgd : o.guard = none) (s x : Operand) (t : TypeId)
    (ho : o.op = .call { callee := .builtin .append, args := #[s, x], argTypes := #[t, t] })
    (base : Nat) (e : TypeId) (i : TypeInfo) (z : Value) (bytes : Nat) (ht : P.underlying t = some (.slice e)) (hi : P.info? e = some i) (hz : i.zero = some z) (hsize : i.size = 3) (hby : i.bytes = bytes) (hzs : z.cells.size = 3)
    (v : Value) (n : Nat) (k : List Pk) (hs : a.eval s = v) (hown : w.ownsRow base e 3 v n (pksV k)) (A : Option Addr) (m c : Nat) (l : List Pk) (hm : l.length = m) (hA : A = none → c = 0) (hx : a.eval x = .slice A m c) (hl : Pks w A l)
    (h63 : n + m ≤ maxLen) (hbytes : (n + m) * bytes ≤ 140737488355328) (hbase : base ≤ w.heap.size)
    (h : ∀ v' w', w'.ownsRow base e 3 v' (n + m) (pksV (k ++ l)) → w.grownBy w' v.ownBlock → wpList P ops Q rest (a.put o.dst v') w') : wpList P ops Q (o :: rest) a w := by
  cases A with
  | none =>
    have hc := hA rfl
    subst hc
    have hm0 : m = 0 := by
      rcases Nat.eq_zero_or_pos m with h0 | h0
      · exact h0
      · obtain ⟨ad, e', _⟩ := hl (by omega)
        cases e'
    subst hm0
    have hnil : l = [] := List.eq_nil_of_length_eq_zero hm
    subst hnil
    refine wpList_append_own_none hgd s x t ho base e i 3 ht hi v n (pksV k) hs hown hx (h v w ?_ ?_)
    · rw [List.append_nil]; exact hown
    · exact ⟨rfl, rfl, rfl, Nat.le_refl _, fun _ _ _ => rfl⟩
  | some ad =>
    refine wpList_append_own w hgd s x t ho base e i z 3 bytes ht hi hz hsize hby hzs (by decide) v n (pksV k) hs hown ad m c (pksV l) hx (by rw [pksV_length, hm]) (pks_cells hl) (pksV_ones l) h63 hbytes hbase (fun v' w' h1 h2 _ => h v' w' (by rw [pksV_append]; exact h1) h2)
end Go.Proofs.YtpfbknbloeilmaaDoor.Mem
