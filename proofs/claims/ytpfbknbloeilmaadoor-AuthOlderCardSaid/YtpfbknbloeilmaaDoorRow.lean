/- A row of bytes that grows, held in a variable's box, inside a range over a function: what an append and a store keep. Of no program. -/
import Derived.Test.YtpfbknbloeilmaaDoorPure
import Derived.WalkKit
import Derived.Laws.BytesArg
import Derived.Below
import Derived.OwnWalk
import Derived.RangeFuncNested
import Derived.RangeFuncBox
import Derived.Maps.AppendAt
namespace Go.Proofs.YtpfbknbloeilmaaDoor.Row
open Go.RowKit Go.Proofs.YtpfbknbloeilmaaDoor.Oct

/-- The bytes as cells. -/
def bytesV (l : List UInt8) : List Value := l.map fun b => Value.int .u8 b.toNat
theorem bytesV_append (l m : List UInt8) : bytesV (l ++ m) = bytesV l ++ bytesV m := List.map_append
theorem bytesV_length (l : List UInt8) : (bytesV l).length = l.length := List.length_map _
theorem bytesV_one (l : List UInt8) : ∀ u ∈ bytesV l, u.oneCell' = true := by
  intro u hu
  obtain ⟨b, _, rfl⟩ := List.mem_map.1 hu
  rfl
theorem conv_own {P : Program} {w : World} {base n : Nat} {v : Value} {l : List UInt8} {src dst e : TypeId} (hs : P.underlying src = some (.slice e)) (he : P.underlying e = some (.int .u8)) (hd : P.underlying dst = some .string)
    (h : w.ownsRow base e 1 v n (bytesV l)) : (convert src dst v).run P w = .ok (.string (bOf l)) w := by
  have hlen : l.length = n := by have := h.1; simpa [bytesV] using this
  rcases h.2 with ⟨rfl, h0⟩ | ⟨g, cap, cur, rfl, _⟩
  · obtain rfl : l = [] := List.eq_nil_of_length_eq_zero (by omega)
    exact run_convert_bytes_nil w src e hs he 0 0 dst hd
  · have hr := run_convert_bytes_arg w src e hs he g 0 n cap (l.map fun b => (b.toNat : Int)) (by simpa using hlen) (fun i hi => by
      rw [Nat.zero_add, h.cellAt i (by omega)]
      unfold bytesV
      rw [List.getElem?_map, List.getElem?_eq_getElem (by omega)]
      simp [List.getD, List.getElem?_eq_getElem (show i < l.length by omega)]) dst hd
    rw [hr, nums_bOf, List.map_map]
    congr 3
    conv => rhs; rw [← List.map_id l]
    apply List.map_congr_left
    intro b _
    simp

/-- The cells of a block just laid. -/
theorem cells_new (w : World) (cs : Array Value) (t : TypeId) : ∀ j u, cs.toList[j]? = some u → (w.alloc (.cells cs t)).cell? ((⟨w.heap.size, 0, none⟩ : Addr).add j) = some u := by
  intro j u hu
  have := cell_of_row (w.alloc (.cells cs t)) w.heap.size j cs t (0, 0) (World.alloc_heap_new w _)
  rw [show (⟨w.heap.size, 0, none⟩ : Addr).add j = ⟨w.heap.size, j, none⟩ by simp [Addr.add]; omega, this]
  simpa using hu

theorem boxed_stays {W W' : World} {row : Option Nat} {B : Nat} {t : TypeId} {v : Value} (h : Boxed W B t v) (hg : W.grownBy W' row) (hr : ∀ r, row = some r → ∃ o : Obj, W.heap[r]? = some o ∧ o.isCells = false) : Boxed W' B t v :=
  h.kept hg (fun e' => by obtain ⟨o, ho, hc⟩ := hr B e'.symm; rw [show W.heap[B]? = _ from h] at ho; cases ho; cases hc)
theorem row_stays {W W' : World} {row : Option Nat} {base : Nat} {e : TypeId} {size k : Nat} {v : Value} {xs : List Value} (h : W.ownsRow base e size v k xs) (hg : W.grownBy W' row) (hr : ∀ r, row = some r → ∃ o : Obj, W.heap[r]? = some o ∧ o.isCells = false) : W'.ownsRow base e size v k xs := by
  refine h.kept hg ?_
  rcases h.2 with ⟨rfl, _⟩ | ⟨g, cap, cur, rfl, _, hgb, _⟩
  · exact .inl rfl
  · refine .inr fun e' => ?_
    obtain ⟨o, ho, hc⟩ := hr g (by simpa [Value.ownBlock] using e'.symm)
    rw [hgb] at ho; cases ho; cases hc
/-- The box holds a row of these bytes. -/
def Holds (W : World) (n₀ B : Nat) (t e : TypeId) (l : List UInt8) : Prop := ∃ v, Boxed W B t v ∧ W.ownsRow n₀ e 1 v l.length (bytesV l)
theorem Holds.stays {W W' : World} {row : Option Nat} {n₀ B : Nat} {t e : TypeId} {l : List UInt8} (h : Holds W n₀ B t e l) (hg : W.grownBy W' row) (hr : ∀ r, row = some r → ∃ o : Obj, W.heap[r]? = some o ∧ o.isCells = false) : Holds W' n₀ B t e l := by
  obtain ⟨v, h1, h2⟩ := h
  exact ⟨v, boxed_stays h1 hg hr, row_stays h2 hg hr⟩
/-- A store into another variable's box. -/
theorem Holds.other {W : World} {n₀ B B' : Nat} {t t' e : TypeId} {u : Value} {l : List UInt8} (h : Holds W n₀ B t e l) (hb : Boxed W B' t' u) (hte : t' ≠ e) (hne : B ≠ B') (u' : Value) : Holds (W.setCell ⟨B', 0, none⟩ u') n₀ B t e l := by
  obtain ⟨v, h1, h2⟩ := h
  exact ⟨v, h1.other hne u', h2.kept (grownBy_setCell' W B' u') (.inr (hb.not_row hte h2).symm)⟩
/-- A box lies on behind an append to another one's row, and the store back. -/
theorem boxed_past {W w1 : World} {n₀ B b : Nat} {t e : TypeId} {size k : Nat} {u v : Value} {xs : List Value} {tmp : Obj} (h : Boxed W b t u) (hte : t ≠ e) (hrow : W.ownsRow n₀ e size v k xs) (hgrow : (W.alloc tmp).grownBy w1 v.ownBlock) (hne : b ≠ B) (v' : Value) :
    Boxed (w1.setCell ⟨B, 0, none⟩ v') b t u := ((h.alloc tmp).kept hgrow (h.not_row hte hrow)).other hne v'
/-- What an append and its store leave: the grown row. -/
theorem holds_of {W : World} {n₀ B : Nat} {t e : TypeId} {v : Value} {l : List UInt8} {m : Nat} {xs : List Value} (hv : Boxed W B t v) (hr : W.ownsRow n₀ e 1 v m xs) (hm : m = l.length) (hx : xs = bytesV l) : Holds W n₀ B t e l := by
  subst hm hx
  exact ⟨v, hv, hr⟩

/-- What a round keeps: the text in its box. -/
def KeepsText (b : Nat) (s : ByteArray) (W W' : World) : Prop := Boxed W b 9 (.string s) → Boxed W' b 9 (.string s)
theorem keepsText_t {b : Nat} {s : ByteArray} {A B C : World} (h : KeepsText b s A B) (k : KeepsText b s B C) : KeepsText b s A C := fun x => k (h x)
theorem keepsText_b {b : Nat} {s : ByteArray} {w : World} (W : World) (l : Nat) (o o' : Obj) (_ : w.heap.size ≤ l) (h : W.heap[l]? = some o) (hc : o.isCells = false) (_ : o.isWalk = false) : KeepsText b s W (W.putObj l o') :=
  fun hx => hx.kept (grownBy_putObj' W l o') (fun e => by cases e; rw [show W.heap[b]? = _ from hx] at h; cases h; cases hc)
end Go.Proofs.YtpfbknbloeilmaaDoor.Row
