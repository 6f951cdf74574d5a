/- The contracts of Put and Get with their parts told apart; boxes. -/
import Derived.Test.YtndpiefdmlhacaaLcoS
namespace Go.Proofs.Ytndpiefdmlhacaa.Lco
open Go.RowKit Go.Proofs.Ytndpiefdmlhacaa.Oct Go.Proofs.Ytndpiefdmlhacaa.Row Go.Proofs.Ytndpiefdmlhacaa.Mem Go.Proofs.Ytndpiefdmlhacaa.Opt

theorem boxLO (w : World) (x : Lcp) (t : UInt8) (d : ByteArray) : ∃ W, (w.alloc (.cells #[Value.bool x.hm, .int .u16 x.mru.toNat, .bool x.ha, .int .u32 x.accm.toNat, .int .u8 x.auth.toNat, .bool x.hg, .int .u32 x.magic.toNat, .bool x.pfc, .bool x.acfc] 25)).alloc (.cells #[.int .u8 t.toNat, .string d] 28) = W ∧ Hid (LAt W w.heap.size x ∧ At W (w.heap.size + 1) (t, d) ∧ Below w.heap.size w W) :=
  ⟨_, rfl, (lat_new w x).alloc _, by have := at_new (w.alloc (.cells (lv x).toArray 25)) t d; rw [show (w.alloc (.cells (lv x).toArray 25)).heap.size = w.heap.size + 1 by simp] at this; exact this, ((Below.refl w.heap.size w).alloc (Nat.le_refl _) _).alloc (by simp) _⟩
/-- What Put has answered: the row, or that it may not be. -/
def PP (w : World) (x : Lcp) (A : Option Addr) (p q : Nat) : Prop := (may x = true ∧ p = (put x).length ∧ q = 0 ∧ Opts w w.heap.size A p (put x)) ∨ (may x = false ∧ p = 0 ∧ q = 2)
theorem PP.next {w w' : World} {x : Lcp} {A : Option Addr} {p q : Nat} (h : PP w x A p q) (hb : Below w.heap.size w w') : PP w' x A p q := h.imp (fun ⟨a, b, c, d⟩ => ⟨a, b, c, d.next hb⟩) id
theorem PP.laid {w : World} {x : Lcp} {A : Option Addr} {p q : Nat} (h : PP w x A p q) (o : Obj) : PP (w.alloc o) x A p q := h.imp (fun ⟨a, b, c, d⟩ => ⟨a, b, c, d.laid o⟩) id
theorem putg (x : Lcp) (w : World) : Calls Try.prog 9 #[.agg #[Value.bool x.hm, .int .u16 x.mru.toNat, .bool x.ha, .int .u32 x.accm.toNat, .int .u8 x.auth.toNat, .bool x.hg, .int .u32 x.magic.toNat, .bool x.pfc, .bool x.acfc]] w fun e w' => ∃ A p c q, e = .returned (.tuple #[.slice A p c, .int .i64 (q : Nat)]) ∧ PP w' x A p q ∧ Below w.heap.size w w' := by
  cases hx : may x
  · exact (put_no x w hx).mono fun e w' ⟨he, hb⟩ => ⟨none, 0, 0, 2, he, .inr ⟨hx, rfl, rfl⟩, hb⟩
  · exact (put_yes x w hx).mono fun e w' ⟨A, c, he, hO, hb⟩ => ⟨A, _, c, 0, he, .inl ⟨hx, rfl, rfl, hO⟩, hb⟩
/-- What Get has answered. -/
def GetC (y : Lcp) (odd : List Opt) (E : Nat) (w : World) (e : Ending) (w' : World) : Prop := ∃ A c, e = .returned (.tuple #[.agg #[Value.bool y.hm, .int .u16 y.mru.toNat, .bool y.ha, .int .u32 y.accm.toNat, .int .u8 y.auth.toNat, .bool y.hg, .int .u32 y.magic.toNat, .bool y.pfc, .bool y.acfc], .slice A odd.length c, .int .i64 E]) ∧ Opts w' w'.heap.size A odd.length odd ∧ Below w.heap.size w w'
theorem get_c (l : List Opt) (A : Option Addr) (n c : Nat) (w : World) (hl : Opts w w.heap.size A n l) (hn : n ≤ 1000) : Calls Try.prog 10 #[.slice A n c] w (GetC (gL l) (gO l) (gE l) w) := get_row l A n c w hl hn
theorem rget_c (l : List Opt) (A : Option Addr) (n c : Nat) (w : World) (hl : Opts w w.heap.size A n l) (hn : n ≤ 1000) : Calls Try.prog 11 #[.slice A n c] w (GetC (gL l) (gO l) (gE l) w) := rget_row l A n c w hl hn
theorem gO_len (l : List Opt) : (gO l).length ≤ l.length := by
  unfold gO
  cases h : st l with
  | none => exact Nat.zero_le _
  | some p =>
    obtain ⟨x, o⟩ := p
    obtain ⟨_, rfl, _⟩ := st_some h
    exact List.length_filter_le _ _
theorem get_put {x : Lcp} (hx : may x = true) (A : Option Addr) (c : Nat) (w : World) (hl : Opts w w.heap.size A (put x).length (put x)) : Calls Try.prog 10 #[.slice A (put x).length c] w fun e w' => ∃ A' c', e = .returned (.tuple #[.agg #[Value.bool x.hm, .int .u16 x.mru.toNat, .bool x.ha, .int .u32 x.accm.toNat, .int .u8 x.auth.toNat, .bool x.hg, .int .u32 x.magic.toNat, .bool x.pfc, .bool x.acfc], .slice A' 0 c', .int .i64 0]) ∧ Below w.heap.size w w' := by
  refine Calls.mono (get_row (put x) A _ c w hl (by have := put_len x; omega)) fun e w' hq => ?_
  obtain ⟨A', c', he, _, hb⟩ := getQ_some (st_put hx) hq
  exact ⟨A', c', he, hb⟩
theorem get_none' {l : List Opt} (h : st l = none) (A : Option Addr) (n c : Nat) (w : World) (hl : Opts w w.heap.size A n l) (hn : n ≤ 1000) : Calls Try.prog 10 #[.slice A n c] w fun e w' => ∃ A' c', e = .returned (.tuple #[.agg #[Value.bool false, .int .u16 0, .bool false, .int .u32 0, .int .u8 0, .bool false, .int .u32 0, .bool false, .bool false], .slice A' 0 c', .int .i64 9]) ∧ Below w.heap.size w w' := by
  have hq := get_row l A n c w hl hn
  unfold GetQ gL gO gE at hq
  rw [h] at hq
  exact hq.mono fun e w' ⟨A', c', he, _, hb⟩ => ⟨A', c', he, hb⟩
theorem get_some' {l : List Opt} {y : Lcp} {odd : List Opt} (h : st l = some (y, odd)) (A : Option Addr) (n c : Nat) (w : World) (hl : Opts w w.heap.size A n l) (hn : n ≤ 1000) : Calls Try.prog 10 #[.slice A n c] w fun e w' => ∃ A' c', e = .returned (.tuple #[.agg #[Value.bool y.hm, .int .u16 y.mru.toNat, .bool y.ha, .int .u32 y.accm.toNat, .int .u8 y.auth.toNat, .bool y.hg, .int .u32 y.magic.toNat, .bool y.pfc, .bool y.acfc], .slice A' odd.length c', .int .i64 0]) ∧ Below w.heap.size w w' := by
  refine Calls.mono (get_row l A n c w hl hn) fun e w' hq => ?_
  obtain ⟨A', c', he, _, hb⟩ := getQ_some h hq
  exact ⟨A', c', he, hb⟩
theorem put_n {y : Lcp} {n : Nat} (hy : may y = true) (hn : (put y).length = n) (w : World) : Calls Try.prog 9 #[.agg #[Value.bool y.hm, .int .u16 y.mru.toNat, .bool y.ha, .int .u32 y.accm.toNat, .int .u8 y.auth.toNat, .bool y.hg, .int .u32 y.magic.toNat, .bool y.pfc, .bool y.acfc]] w fun e w' => ∃ A c, e = .returned (.tuple #[.slice A n c, .int .i64 0]) ∧ Opts w' w'.heap.size A n (put y) ∧ Below w.heap.size w w' := by
  subst hn
  exact put_yes y w hy
theorem rise_at {l : List Opt} {q : Nat} {o p : Opt} (h : Rise l) (ho : l[q]? = some o) (hp : l[q + 1]? = some p) : o.1.toNat < p.1.toNat := by
  obtain ⟨h1, rfl⟩ := List.getElem?_eq_some_iff.1 ho
  obtain ⟨h2, rfl⟩ := List.getElem?_eq_some_iff.1 hp
  exact UInt8.lt_iff_toNat_lt.1 (List.pairwise_iff_getElem.1 h q (q + 1) h1 h2 (by omega))
set_option maxRecDepth 100000 in
theorem opt_eq {o p : Opt} {r : Bool} (h : decide (o = p) = r) (w : World) : (Op.equalIn 10000 28 (.agg #[.int .u8 o.1.toNat, .string o.2]) (.agg #[.int .u8 p.1.toNat, .string p.2])).run Try.prog w = .ok r w := by
  have e : ((o.1.toNat : Int) == p.1.toNat && ((o.2.toList == p.2.toList) && true)) = r := by
    rw [← h, Bool.eq_iff_iff]
    obtain ⟨t, d⟩ := o
    obtain ⟨t', d'⟩ := p
    simp only [Bool.and_eq_true, beq_iff_eq, decide_eq_true_eq, Prod.mk.injEq, and_true]
    exact ⟨fun ⟨a, b⟩ => ⟨UInt8.toNat_inj.1 (by omega), toList_inj b⟩, fun ⟨a, b⟩ => ⟨by rw [a], by rw [b]⟩⟩
  rw [run_equalIn_agg w 9999 28 _ _ (by kernel_rfl) (by kernel_rfl)]
  unfold Program.fieldsOf
  rw [Try.underlying28]
  dsimp only
  rw [← e]
  refine eqF _ w 9999 _ _ _ _ (.int .u8 o.1.toNat) (.int .u8 p.1.toNat) _ (by decide) (by kernel_rfl) (by kernel_rfl) (run_equalIn_int w 9998 _ _ _ _ _ Try.underlying5) _ (fun _ => ?_)
  refine eqF _ w 9999 _ _ _ _ (.string o.2) (.string p.2) _ (by decide) (by kernel_rfl) (by kernel_rfl) (run_equalIn_string w 9998 _ _ _ Try.underlying9) _ (fun _ => ?_)
  rfl
theorem opt_eql {o p : Opt} {r : Bool} (h : decide (o = p) = r) (w : World) : (binOp .eql 28 (.agg #[.int .u8 o.1.toNat, .string o.2]) (.agg #[.int .u8 p.1.toNat, .string p.2])).run Try.prog w = .ok (.bool r) w := by rw [run_eql_struct, opt_eq h]; rfl
end Go.Proofs.Ytndpiefdmlhacaa.Lco
