/- What the laws of layer 10 want besides: contracts with their cells told, boxes, two options that change places. -/
import Derived.Test.YtbkcdpfelkbhaaaIpcRw
import Derived.Test.YtbkcdpfelkbhaaaOptsSwp
namespace Go.Proofs.Ytbkcdpfelkbhaaa.Ipc
open Go.RowKit Go.Joins Go.Deep Go.Proofs.Ytbkcdpfelkbhaaa.Oct Go.Proofs.Ytbkcdpfelkbhaaa.Row Go.Proofs.Ytbkcdpfelkbhaaa.Mem Go.Proofs.Ytbkcdpfelkbhaaa.Opt

theorem boxLO (w : World) (x : Ipc) (t : UInt8) (d : ByteArray) : ∃ W, (w.alloc (.cells #[Value.bool x.ha, .int .u32 x.addr.toNat, .bool x.h1, .int .u32 x.dns1.toNat, .bool x.h2, .int .u32 x.dns2.toNat] 35)).alloc (.cells #[.int .u8 t.toNat, .string d] 48) = W ∧ Hid (LAt W w.heap.size x ∧ At W (w.heap.size + 1) (t, d) ∧ Below w.heap.size w W) :=
  ⟨_, rfl, (lat_new w x).alloc _, by have := at_new (w.alloc (.cells (lv x).toArray 35)) t d; rw [show (w.alloc (.cells (lv x).toArray 35)).heap.size = w.heap.size + 1 by simp] at this; exact this, ((Below.refl w.heap.size w).alloc (Nat.le_refl _) _).alloc (by simp) _⟩
theorem long_row (l : List Opt) (A : Option Addr) (n c : Nat) (w : World) (hl : Opts w w.heap.size A n l) (hn : n ≤ maxLen) : Calls Try.prog 26 #[.slice A n c] w (LongQ l n w) := long_any l _ A n c w hl hn
theorem put_len (x : Ipc) : (put x).length ≤ 3 := gat_three x ▸ gat_len x 3
theorem pL_len (x : Ipc) : (pL x).length ≤ 3 := by
  unfold pL
  split
  · exact put_len x
  · exact Nat.zero_le _
/-- What Put has answered. -/
def PutC (x : Ipc) (w : World) (e : Ending) (w' : World) : Prop := ∃ A c, e = .returned (.tuple #[.slice A (pL x).length c, .int .i64 (pE x)]) ∧ Opts w' w'.heap.size A (pL x).length (pL x) ∧ Below w.heap.size w w'
theorem put_c (x : Ipc) (w : World) : Calls Try.prog 54 #[.agg #[Value.bool x.ha, .int .u32 x.addr.toNat, .bool x.h1, .int .u32 x.dns1.toNat, .bool x.h2, .int .u32 x.dns2.toNat]] w (PutC x w) :=
  (put_any x w).mono fun _ _ ⟨A, c, he, _, hO, hb⟩ => ⟨A, c, he, hO, hb⟩
/-- What Get has answered. -/
def GetC (y : Ipc) (odd : List Opt) (E : Nat) (w : World) (e : Ending) (w' : World) : Prop := ∃ A c, e = .returned (.tuple #[.agg #[Value.bool y.ha, .int .u32 y.addr.toNat, .bool y.h1, .int .u32 y.dns1.toNat, .bool y.h2, .int .u32 y.dns2.toNat], .slice A odd.length c, .int .i64 E]) ∧ Opts w' w'.heap.size A odd.length odd ∧ Below w.heap.size w w'
theorem get_c (l : List Opt) (A : Option Addr) (n c : Nat) (w : World) (hl : Opts w w.heap.size A n l) (hn : n ≤ 1001) : Calls Try.prog 27 #[.slice A n c] w (GetC (gL l) (gO l) (gE l) w) := get_row l A n c w hl hn
theorem rget_c (l : List Opt) (A : Option Addr) (n c : Nat) (w : World) (hl : Opts w w.heap.size A n l) (hn : n ≤ 1001) : Calls Try.prog 68 #[.slice A n c] w (GetC (gL l) (gO l) (gE l) w) := rget_row l A n c w hl hn
theorem gO_len (l : List Opt) : (gO l).length ≤ l.length := by
  unfold gO
  cases h : st l with
  | none => exact Nat.zero_le _
  | some p =>
    obtain ⟨x, o⟩ := p
    obtain ⟨_, rfl, _⟩ := st_some h
    exact List.length_filter_le _ _
theorem get_put {x : Ipc} (hx : may x = true) (A : Option Addr) (c : Nat) (w : World) (hl : Opts w w.heap.size A (put x).length (put x)) : Calls Try.prog 27 #[.slice A (put x).length c] w fun e w' => ∃ A' c', e = .returned (.tuple #[.agg #[Value.bool x.ha, .int .u32 x.addr.toNat, .bool x.h1, .int .u32 x.dns1.toNat, .bool x.h2, .int .u32 x.dns2.toNat], .slice A' 0 c', .int .i64 0]) ∧ Below w.heap.size w w' := by
  refine Calls.mono (get_row (put x) A _ c w hl (by have := put_len x; omega)) fun e w' hq => ?_
  obtain ⟨A', c', he, _, hb⟩ := getQ_some (st_put hx) hq
  exact ⟨A', c', he, hb⟩
theorem swp_gets {l : List Opt} {a b : Nat} {oa ob : Opt} (ha : l[a]? = some oa) (hb : l[b]? = some ob) : gL (swp l a b oa ob) = gL l ∧ (gO (swp l a b oa ob)).length = (gO l).length ∧ gE (swp l a b oa ob) = gE l := st_perm (swp_perm ha hb)
theorem odd_gets {l : List Opt} {o : Opt} (h : good o = false) (k : Nat) : gL (l.take k ++ [o] ++ l.drop k) = gL l ∧ gE (l.take k ++ [o] ++ l.drop k) = gE l ∧ (gE l = 0 → (gO (l.take k ++ [o] ++ l.drop k)).length = (gO l).length + 1) := by
  have e : l.take k ++ [o] ++ l.drop k = l.take k ++ (o :: l.drop k) := by simp
  rw [e]
  exact st_odd h k
end Go.Proofs.Ytbkcdpfelkbhaaa.Ipc
