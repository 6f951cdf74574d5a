/- Rows of packets that are read; the document's Same; an append of a row. -/
import Derived.Test.YtikcgcgbcolndaaGreatGNegMem
import Derived.Test.YtikcgcgbcolndaaGreatPktEq
import Derived.BigQuiet
import Derived.Laws.AppendOwnNone
namespace Go.Proofs.YtikcgcgbcolndaaGreat.Neg
open Go.RowKit Go.Deep Go.Proofs.YtikcgcgbcolndaaGreat.Oct Go.Proofs.YtikcgcgbcolndaaGreat.Row Go.Proofs.YtikcgcgbcolndaaGreat.Mem Go.Proofs.YtikcgcgbcolndaaGreat.Opt

theorem pksV_at : ∀ (l : List Pk) (j : Nat) (h : j < l.length), (pksV l)[j * 3]? = some (.int .u8 l[j].c.toNat) ∧ (pksV l)[j * 3 + 1]? = some (.int .u8 l[j].i.toNat) ∧ (pksV l)[j * 3 + 2]? = some (.string l[j].d)
  | o :: l, 0, _ => ⟨rfl, rfl, rfl⟩
  | o :: l, j + 1, h => by
    have := pksV_at l j (by simpa using h)
    have e : pksV (o :: l) = .int .u8 o.c.toNat :: .int .u8 o.i.toNat :: .string o.d :: pksV l := rfl
    rw [e, show (j + 1) * 3 = j * 3 + 1 + 1 + 1 by omega]
    simpa using this
/-- The slice '.slice A l.length c' holds the packets l. -/
def Pks (w : World) (A : Option Addr) (l : List Pk) : Prop :=
  0 < l.length → ∃ ad, A = some ad ∧ ad.block < w.heap.size ∧ ∀ j (h : j < l.length), w.cell? (ad.add (j * 3)) = some (.int .u8 l[j].c.toNat) ∧ w.cell? ⟨(ad.add (j * 3)).block, (ad.add (j * 3)).off + 1, none⟩ = some (.int .u8 l[j].i.toNat) ∧ w.cell? ⟨(ad.add (j * 3)).block, (ad.add (j * 3)).off + 2, none⟩ = some (.string l[j].d)
theorem pks_own {w : World} {base : Nat} {e : TypeId} {A : Option Addr} {c : Nat} {l : List Pk} (h : w.ownsRow base e 3 (.slice A l.length c) l.length (pksV l)) : Pks w A l := by
  intro h0
  rcases h.2 with ⟨e1, h1⟩ | ⟨g, cap, cur, e1, hg, hh, _⟩
  · omega
  · cases e1
    have hlt : g < w.heap.size := (Array.getElem?_eq_some_iff.1 hh).1
    refine ⟨⟨g, 0, none⟩, rfl, hlt, fun j hj => ?_⟩
    have hv := pksV_at l j hj
    have c0 := h.cells (g := g) rfl (j * 3) _ hv.1
    have c1 := h.cells (g := g) rfl (j * 3 + 1) _ hv.2.1
    have c2 := h.cells (g := g) rfl (j * 3 + 2) _ hv.2.2
    refine ⟨c0, ?_, ?_⟩
    · rw [← add_add] at c1
      exact c1
    · rw [← add_add] at c2
      exact c2
theorem Pks.below {w w' : World} {A : Option Addr} {l : List Pk} (h : Pks w A l) (hb : Below w.heap.size w w') : Pks w' A l := fun hn => by
  obtain ⟨ad, e, hB, hc⟩ := h hn
  refine ⟨ad, e, Nat.lt_of_lt_of_le hB hb.size, fun j hj => ⟨?_, ?_, ?_⟩⟩
  · exact (hb.cell (by rw [Oct.block_add]; exact hB)).trans (hc j hj).1
  · exact (hb.cell (by show (ad.add (j * 3)).block < _; rw [Oct.block_add]; exact hB)).trans (hc j hj).2.1
  · exact (hb.cell (by show (ad.add (j * 3)).block < _; rw [Oct.block_add]; exact hB)).trans (hc j hj).2.2
theorem Pks.moves {S : Nat → Prop} {w w' : World} {A : Option Addr} {l : List Pk} (h : Pks w A l) (hm : Moves S w w') (hs : ∀ ad, A = some ad → ¬ S ad.block) : Pks w' A l := fun hn => by
  obtain ⟨ad, e, hB, hc⟩ := h hn
  have hs := hs ad e
  refine ⟨ad, e, Nat.lt_of_lt_of_le hB hm.size, fun j hj => ⟨?_, ?_, ?_⟩⟩
  · exact (hm.cell (by rw [Oct.block_add]; exact hB) (by rw [Oct.block_add]; exact hs)).trans (hc j hj).1
  · exact (hm.cell (by show (ad.add (j * 3)).block < _; rw [Oct.block_add]; exact hB) (by show ¬ S (ad.add (j * 3)).block; rw [Oct.block_add]; exact hs)).trans (hc j hj).2.1
  · exact (hm.cell (by show (ad.add (j * 3)).block < _; rw [Oct.block_add]; exact hB) (by show ¬ S (ad.add (j * 3)).block; rw [Oct.block_add]; exact hs)).trans (hc j hj).2.2
theorem Pks.at_ {w : World} {A : Option Addr} {l : List Pk} {k : Nat} (h : Pks w A l) (hk : k < l.length) :
    ∃ ad p, A = some ad ∧ l[k]? = some p ∧ w.cell? (ad.add (k * 3)) = some (.int .u8 p.c.toNat) ∧ w.cell? ⟨(ad.add (k * 3)).block, (ad.add (k * 3)).off + 1, none⟩ = some (.int .u8 p.i.toNat) ∧ w.cell? ⟨(ad.add (k * 3)).block, (ad.add (k * 3)).off + 2, none⟩ = some (.string p.d) := by
  obtain ⟨ad, e, hB, hc⟩ := h (by omega)
  exact ⟨ad, l[k], e, List.getElem?_eq_getElem hk, hc k hk⟩
theorem pks_one (w : World) (p : Pk) (t : TypeId) : Pks (w.alloc (.cells #[.int .u8 p.c.toNat, .int .u8 p.i.toNat, .string p.d] t)) (some ⟨w.heap.size, 0, none⟩) [p] := by
  have hb := blk_new w [.int .u8 p.c.toNat, .int .u8 p.i.toNat, .string p.d] t
  refine fun _ => ⟨_, rfl, hb.lt, fun j hj => ?_⟩
  match j, hj with
  | 0, _ => exact ⟨hb.at_ 0, hb.at_ 1, hb.at_ 2⟩

/-! ### Same -/
set_option maxHeartbeats 2000000 in
set_option maxRecDepth 100000 in
theorem same_yes (l : List Pk) (A A' : Option Addr) (c c' : Nat) (T P : Int) (b : Bool) (w : World) (hl : l.length ≤ maxLen) (h : Pks w A l) (h' : Pks w A' l) :
    Calls Tryz.prog 31 #[.agg #[.slice A l.length c, .int .u16 T, .int .u16 P, .bool b], .agg #[.slice A' l.length c', .int .u16 T, .int .u16 P, .bool b]] w fun e w' => e = .returned (.bool true) ∧ Below w.heap.size w w' := by
  obtain ⟨W, hW, HW⟩ : ∃ W, (w.alloc (.cells #[.slice A l.length c, .int .u16 T, .int .u16 P, .bool b] 59)).alloc (.cells #[.slice A' l.length c', .int .u16 T, .int .u16 P, .bool b] 59) = W ∧
      Hid (Blk W w.heap.size [.slice A l.length c, .int .u16 T, .int .u16 P, .bool b] 59 ∧ Blk W (w.heap.size + 1) [.slice A' l.length c', .int .u16 T, .int .u16 P, .bool b] 59 ∧ Below w.heap.size w W) := by
    refine ⟨_, rfl, (blk_new w [.slice A l.length c, .int .u16 T, .int .u16 P, .bool b] _).alloc _, ?_, ((Below.refl w.heap.size w).alloc (Nat.le_refl _) _).alloc (by rw [World.size_alloc]; exact Nat.le_succ _) _⟩
    have := blk_new (w.alloc (.cells #[.slice A l.length c, .int .u16 T, .int .u16 P, .bool b] 59)) [.slice A' l.length c', .int .u16 T, .int .u16 P, .bool b] 59
    rw [World.size_alloc] at this
    exact this
  have H := Lib.hid (h.below HW.out.2.2)
  have H' := Lib.hid (h'.below HW.out.2.2)
  have HB := Lib.hid HW.out.2.2
  have a0 : W.cell? ⟨w.heap.size, 0, none⟩ = some (.slice A l.length c) := HW.out.1.at_ 0
  have a1 : W.cell? ⟨w.heap.size, 1, none⟩ = some (.int .u16 T) := HW.out.1.at_ 1
  have a2 : W.cell? ⟨w.heap.size, 2, none⟩ = some (.int .u16 P) := HW.out.1.at_ 2
  have a3 : W.cell? ⟨w.heap.size, 3, none⟩ = some (.bool b) := HW.out.1.at_ 3
  have b0 : W.cell? ⟨w.heap.size + 1, 0, none⟩ = some (.slice A' l.length c') := HW.out.2.1.at_ 0
  have b1 : W.cell? ⟨w.heap.size + 1, 1, none⟩ = some (.int .u16 T) := HW.out.2.1.at_ 1
  have b2 : W.cell? ⟨w.heap.size + 1, 2, none⟩ = some (.int .u16 P) := HW.out.2.1.at_ 2
  have b3 : W.cell? ⟨w.heap.size + 1, 3, none⟩ = some (.bool b) := HW.out.2.1.at_ 3
  have e1 : ((T : Int) != T) = false := by simp
  have e2 : ((P : Int) != P) = false := by simp
  have e3 : (b != b) = false := by simp
  have e4 : ((l.length : Int) != l.length) = false := by simp
  have hl2 := hl
  unfold maxLen at hl2
  obtain ⟨n, hn⟩ : ∃ n, l.length = n := ⟨_, rfl⟩
  have Hn := Lib.hid hn
  rw [hn] at a0 b0 e4 hl2
  have HWd := Lib.hid HW.out
  rw [hn] at HWd
  simp only [hn] at hW ⊢
  clear h h' hl HW hn
  go_enter Tryz.func31, Tryz.ntmps31
  go_wp2
  go_loopw [5] (fun i wr => ∃ (k : Nat), k ≤ n ∧ i = .int .i64 k ∧ Hid ((∀ p, wr.cell? p = W.cell? p) ∧ Below w.heap.size w wr)) (fun i _ => n - (intOf i).toNat)
  case atStart => exact ⟨0, Nat.zero_le _, rfl, ⟨fun _ => rfl, HB.out⟩⟩
  case round =>
    obtain ⟨k, hk, rfl, HWr⟩ := hrel
    have x0 : wr.cell? ⟨w.heap.size, 0, none⟩ = some (.slice A n c) := (HWr.out.1 _).trans a0
    have x1 : wr.cell? ⟨w.heap.size + 1, 0, none⟩ = some (.slice A' n c') := (HWr.out.1 _).trans b0
    by_cases hlt : k < n
    · obtain ⟨ad, p, rfl, hp, c0, c1, c2⟩ := H.out.at_ (k := k) (by rw [Hn.out]; exact hlt)
      obtain ⟨ad', p', rfl, hp', c0', c1', c2'⟩ := H'.out.at_ (k := k) (by rw [Hn.out]; exact hlt)
      have e : p' = p := by rw [hp] at hp'; cases hp'; rfl
      subst e
      have q0 : wr.cell? (ad.add (k * 3)) = some (.int .u8 p'.c.toNat) := (HWr.out.1 _).trans c0
      have q1 : wr.cell? ⟨(ad.add (k * 3)).block, (ad.add (k * 3)).off + 1, none⟩ = some (.int .u8 p'.i.toNat) := (HWr.out.1 _).trans c1
      have q2 : wr.cell? ⟨(ad.add (k * 3)).block, (ad.add (k * 3)).off + 2, none⟩ = some (.string p'.d) := (HWr.out.1 _).trans c2
      have q0' : wr.cell? (ad'.add (k * 3)) = some (.int .u8 p'.c.toNat) := (HWr.out.1 _).trans c0'
      have q1' : wr.cell? ⟨(ad'.add (k * 3)).block, (ad'.add (k * 3)).off + 1, none⟩ = some (.int .u8 p'.i.toNat) := (HWr.out.1 _).trans c1'
      have q2' : wr.cell? ⟨(ad'.add (k * 3)).block, (ad'.add (k * 3)).off + 2, none⟩ = some (.string p'.d) := (HWr.out.1 _).trans c2'
      have hne := fun w => pk_neq (pk_same p'.c p'.i p'.d) w
      simp only [Bool.not_true] at hne
      clear c0 c1 c2 c0' c1' c2' hp hp' a0 b0 a1 a2 a3 b1 b2 b3
      go_wp2
      go_quiet (fail)
      go_wp2
      go_roundw
      case rel => exact ⟨k + 1, by omega, by go_num, ⟨fun p => HWr.out.1 p, HWr.out.2.drewN' _⟩⟩
      case measure => simp [intOf]; omega
    · obtain rfl : k = n := by omega
      go_wp2
      go_ret
      exact ⟨rfl, HWr.out.2⟩
/-! ### an append -/
theorem pks_cells {w : World} {ad : Addr} {l : List Pk} (h : Pks w (some ad) l) : ∀ j u, (pksV l)[j]? = some u → w.cell? (ad.add j) = some u := by
  intro j u hu
  have hj : j / 3 < l.length := by
    have := (List.getElem?_eq_some_iff.1 hu).1
    rw [pksV_length] at this
    omega
  obtain ⟨ad', e, _, hc⟩ := h (by omega)
  cases e
  obtain ⟨c0, c1, c2⟩ := hc _ hj
  obtain ⟨v0, v1, v2⟩ := pksV_at l _ hj
  rcases (show j % 3 = 0 ∨ j % 3 = 1 ∨ j % 3 = 2 by omega) with hm | hm | hm
  · rw [show j / 3 * 3 = j by omega] at v0 c0
    rw [c0]; rw [v0] at hu; exact hu
  · rw [show j / 3 * 3 + 1 = j by omega] at v1
    rw [v1] at hu
    rw [← hu, ← c1, show j = j / 3 * 3 + 1 by omega, ← add_add]
    rw [show (j / 3 * 3 + 1) / 3 * 3 = j / 3 * 3 by omega]
    rfl
  · rw [show j / 3 * 3 + 2 = j by omega] at v2
    rw [v2] at hu
    rw [← hu, ← c2, show j = j / 3 * 3 + 2 by omega, ← add_add]
    rw [show (j / 3 * 3 + 2) / 3 * 3 = j / 3 * 3 by omega]
    rfl
theorem append_pks {P : Program} {w : World} {ops : Array Oper} {rest : List Oper} {o : Oper} {a : Act} {Q : Exit → Act → World → Prop} (hgd : o.guard = none) (s x : Operand) (t : TypeId)
    (ho : o.op = .call { callee := .builtin .append, args := #[s, x], argTypes := #[t, t] })
    (base : Nat) (e : TypeId) (i : TypeInfo) (z : Value) (bytes : Nat) (ht : P.underlying t = some (.slice e)) (hi : P.info? e = some i) (hz : i.zero = some z) (hsize : i.size = 3) (hby : i.bytes = bytes) (hzs : z.cells.size = 3)
    (v : Value) (n : Nat) (k : List Pk) (hs : a.eval s = v) (hown : w.ownsRow base e 3 v n (pksV k)) (A : Option Addr) (m c : Nat) (l : List Pk) (hm : l.length = m) (hA : A = none → c = 0) (hx : a.eval x = .slice A m c) (hl : Pks w A l)
    (h63 : n + m ≤ maxLen) (hbytes : (n + m) * bytes ≤ 140737488355328) (hbase : base ≤ w.heap.size)
    (h : ∀ v' w', w'.ownsRow base e 3 v' (n + m) (pksV (k ++ l)) → w.grownBy w' v.ownBlock → wpList P ops Q rest (a.put o.dst v') w') : wpList P ops Q (o :: rest) a w := by
  cases A with
  | none =>
    have hc := hA rfl
    subst hc
    have hm0 : m = 0 := by
      rcases Nat.eq_zero_or_pos m with h0 | h0
      · exact h0
      · obtain ⟨ad, e', _⟩ := hl (by omega)
        cases e'
    subst hm0
    have hnil : l = [] := List.eq_nil_of_length_eq_zero hm
    subst hnil
    refine wpList_append_own_none hgd s x t ho base e i 3 ht hi v n (pksV k) hs hown hx (h v w ?_ ?_)
    · rw [List.append_nil]; exact hown
    · exact ⟨rfl, rfl, rfl, Nat.le_refl _, fun _ _ _ => rfl⟩
  | some ad =>
    refine wpList_append_own w hgd s x t ho base e i z 3 bytes ht hi hz hsize hby hzs (by decide) v n (pksV k) hs hown ad m c (pksV l) hx (by rw [pksV_length, hm]) (pks_cells hl) (pksV_ones l) h63 hbytes hbase (fun v' w' h1 h2 _ => h v' w' (by rw [pksV_append]; exact h1) h2)
end Go.Proofs.YtikcgcgbcolndaaGreat.Neg
