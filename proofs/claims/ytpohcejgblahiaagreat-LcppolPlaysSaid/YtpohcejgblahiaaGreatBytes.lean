/- A row of bytes in a block of the call's own: read, written, made of a text, made a text. Of no program. -/
import Derived.Test.YtpohcejgblahiaaGreatPure
import Derived.WalkKit
import Derived.Laws.IdiomStrings
import Derived.Laws.BytesArg
import Derived.Below
import Derived.OwnWalk
namespace Go.Proofs.YtpohcejgblahiaaGreat.Oct
open Go.RowKit

/-- The bytes l lie in block g from its head on, and may be written. -/
def Bytes (w : World) (g : Nat) (l : List UInt8) : Prop :=
  ∀ j (h : j < l.length), w.cell? ⟨g, j, none⟩ = some (.int .u8 (l[j].toNat : Int)) ∧ w.frozen? ⟨g, j, none⟩ = false

theorem Bytes.at_ {w : World} {g : Nat} {l : List UInt8} (h : Bytes w g l) (k : Nat) (hk : k < l.length) :
    ∃ x : UInt8, w.cell? ⟨g, k, none⟩ = some (.int .u8 (x.toNat : Int)) ∧ w.frozen? ⟨g, k, none⟩ = false ∧ l.getD k 0 = x :=
  ⟨l[k], (h k hk).1, (h k hk).2, by rw [List.getD_eq_getElem?_getD, List.getElem?_eq_getElem hk]; rfl⟩
theorem Bytes.below {w w' : World} {g : Nat} {l : List UInt8} (h : Bytes w g l) {n : Nat} (hb : Below n w w') (hg : g < n) : Bytes w' g l := fun j hj =>
  ⟨(hb.cell (p := ⟨g, j, none⟩) hg).trans (h j hj).1, (hb.frozen (p := ⟨g, j, none⟩) hg).trans (h j hj).2⟩
theorem Bytes.lt {w : World} {g : Nat} {l : List UInt8} (h : Bytes w g l) (hl : 0 < l.length) : g < w.heap.size := World.block_lt_of_cell? w ⟨g, 0, none⟩ (h 0 hl).1
theorem Bytes.grown {w w' : World} {g : Nat} {l : List UInt8} (h : Bytes w g l) (hg : w.grownBy w' none) : Bytes w' g l := fun j hj =>
  have hlt := h.lt (Nat.lt_of_le_of_lt (Nat.zero_le _) hj)
  have hb : Below w.heap.size w w' := (Below.refl _ w).grown hg (Nat.le_refl _) (fun _ e => by cases e)
  h.below hb hlt j hj
theorem Bytes.callee {w w' : World} {g : Nat} {l : List UInt8} (h : Bytes w g l) (hb : Below w.heap.size w w') : Bytes w' g l := fun j hj =>
  h.below hb (h.lt (Nat.lt_of_le_of_lt (Nat.zero_le _) hj)) j hj
theorem Bytes.drew {w : World} {g : Nat} {l : List UInt8} (h : Bytes w g l) : Bytes w.drew g l := h
theorem Bytes.set {w : World} {g : Nat} {l : List UInt8} (h : Bytes w g l) (k : Nat) (x : UInt8) : Bytes (w.setCell ⟨g, k, none⟩ (.int .u8 (x.toNat : Int))) g (l.set k x) := fun j hj => by
  rw [List.length_set] at hj
  obtain ⟨h1, h2⟩ := h j hj
  refine ⟨?_, (World.frozen?_setCell _ _ _ _).trans h2⟩
  by_cases e : k = j
  · subst e; rw [World.cell?_setCell_same _ _ _ h1]; simp
  · rw [World.cell?_setCell_other _ _ _ _ (by intro e'; exact e (congrArg Addr.off e')), h1]; simp [List.getElem_set_ne e]
theorem Bytes.set_other {w : World} {g g' : Nat} {l : List UInt8} (h : Bytes w g l) (hg : g' ≠ g) (k : Nat) (v : Value) : Bytes (w.setCell ⟨g', k, none⟩ v) g l := fun j hj => by
  obtain ⟨h1, h2⟩ := h j hj
  exact ⟨(World.cell?_setCell_other _ _ _ _ (by intro e'; exact hg (congrArg Addr.block e'))).trans h1, (World.frozen?_setCell _ _ _ _).trans h2⟩
/-- 'string(b)'. -/
theorem conv_bytes {P : Program} {w : World} {g n c : Nat} {l : List UInt8} {src dst e : TypeId} (hs : P.underlying src = some (.slice e)) (he : P.underlying e = some (.int .u8)) (hd : P.underlying dst = some .string)
    (h : Bytes w g l) (hn : l.length = n) : (convert src dst (.slice (some ⟨g, 0, none⟩) n c)).run P w = .ok (.string (bOf l)) w := by
  have hr := run_convert_bytes_arg w src e hs he g 0 n c (l.map fun b => (b.toNat : Int)) (by simpa using hn) (fun i hi => by
    rw [Nat.zero_add, (h i (by omega)).1]
    simp [List.getD, List.getElem?_eq_getElem (show i < l.length by omega)]) dst hd
  rw [hr, nums_bOf, List.map_map]
  congr 3
  conv => rhs; rw [← List.map_id l]
  apply List.map_congr_left
  intro b _
  simp
/-- '[]byte(s)'. -/
theorem bytes_made (w : World) (s : ByteArray) (e : TypeId) (c : Nat) :
    Bytes (w.drew.alloc (.cells (bytesRow s c) e ((bytesRow s c).size, (bytesRow s c).size + 1))) w.heap.size s.toList := fun j hj => by
  have hj' : j < s.data.size := by rw [← size_toList] at hj; exact hj
  refine ⟨?_, ?_⟩
  · have := World.cell?_alloc_mark w.drew (bytesRow s c) e ((bytesRow s c).size, (bytesRow s c).size + 1) j
    rw [show w.drew.heap.size = w.heap.size from rfl] at this
    rw [this, bytesRow_at s c j hj']
    have h2 := getElem_toList s j hj'
    rw [← h2]; rfl
  · have hh : (w.drew.alloc (.cells (bytesRow s c) e ((bytesRow s c).size, (bytesRow s c).size + 1))).heap[w.heap.size]? = some (.cells (bytesRow s c) e ((bytesRow s c).size, (bytesRow s c).size + 1)) := by
      show (w.heap.push _)[w.heap.size]? = _
      simp
    have hlt : j < (bytesRow s c).size := by
      unfold bytesRow
      rw [Array.size_append, Array.size_map]
      exact Nat.lt_of_lt_of_le hj' (Nat.le_add_right _ _)
    unfold World.frozen?
    simp only [hh]
    rw [decide_eq_false (by omega), Bool.false_and]
/-- 'make([]byte, n)'. -/
theorem bytes_zero {w : World} {base g n c : Nat} {e : TypeId} {z : Value} (hz : z.cells = #[.int .u8 0]) (h : w.ownsRow base e 1 (.slice (some ⟨g, 0, none⟩) n c) n (madeCells z.cells (n * 1)).toList) : Bytes w g (List.replicate n 0) := fun j hj => by
  rw [List.length_replicate] at hj
  refine ⟨?_, h.frozenAt j⟩
  rw [h.cellAt j (by omega), hz]
  simp [madeCells, hj, Nat.mod_one]
end Go.Proofs.YtpohcejgblahiaaGreat.Oct
