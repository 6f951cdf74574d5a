/- A hash in memory; the tables. -/
import Derived.Test.YtpfbknbloeilmaaDoorMd5Mx
import Derived.Laws.CopyRow
import Derived.Deep.MidRow
import Derived.Deep.RegionHeld3
namespace Go.Proofs.YtpfbknbloeilmaaDoor.Md5
open Go.RowKit Go.Proofs.YtpfbknbloeilmaaDoor.Oct Go.Proofs.YtpfbknbloeilmaaDoor.Row Go.Proofs.YtpfbknbloeilmaaDoor.Mem

/-- The tables lie where the program lays them. -/
def Globs (w : World) : Prop := (∀ i, i < 64 → w.cell? ⟨0, i, none⟩ = some (.int .u32 (kk i))) ∧ (∀ i, i < 16 → w.cell? ⟨1, i, none⟩ = some (.int .i64 (tt i)))
theorem Globs.size {w : World} (h : Globs w) : 2 ≤ w.heap.size := by
  have := World.block_lt_of_cell? w _ (h.2 0 (by omega))
  simp at this; omega
theorem Globs.moves {S : Nat → Prop} {w w' : World} (h : Globs w) (hm : Moves S w w') (h0 : ¬ S 0) (h1 : ¬ S 1) : Globs w' := by
  have hz := h.size
  exact ⟨fun i hi => (hm.cell (p := ⟨0, i, none⟩) (by show 0 < _; omega) h0).trans (h.1 i hi), fun i hi => (hm.cell (p := ⟨1, i, none⟩) (by show 1 < _; omega) h1).trans (h.2 i hi)⟩
theorem Globs.below {w w' : World} (h : Globs w) (hb : Below w.heap.size w w') : Globs w' := h.moves (S := fun _ => False) (Moves.of_below hb) (fun x => x) (fun x => x)
theorem Globs.belowN {w w' : World} {n : Nat} (h : Globs w) (hb : Below n w w') (hn : 2 ≤ n) : Globs w' :=
  ⟨fun i hi => (hb.cell (p := ⟨0, i, none⟩) (by show 0 < _; omega)).trans (h.1 i hi), fun i hi => (hb.cell (p := ⟨1, i, none⟩) (by show 1 < _; omega)).trans (h.2 i hi)⟩

def wordsV (s : W4) : List Value := [.int .u32 s.a, .int .u32 s.b, .int .u32 s.c, .int .u32 s.d]
theorem wordsV_length (s : W4) : (wordsV s).length = 4 := rfl
/-- The cells of a hash. -/
def cellsH (s : W4) (buf : List UInt8) (n : Nat) : List Value := wordsV s ++ (bytesV buf ++ [.int .u64 n])
/-- A hash with these words, bytes and size lies in block g. -/
def Raw (w : World) (g : Nat) (s : W4) (buf : List UInt8) (n : Nat) : Prop := w.heap[g]? = some (.cells (cellsH s buf n).toArray 105 (0, 0)) ∧ buf.length = 64
theorem Raw.lt {w : World} {g : Nat} {s : W4} {buf : List UInt8} {n : Nat} (h : Raw w g s buf n) : g < w.heap.size := (Array.getElem?_eq_some_iff.1 h.1).1
theorem Raw.at_ {w : World} {g : Nat} {s : W4} {buf : List UInt8} {n : Nat} (h : Raw w g s buf n) (i : Nat) : w.cell? ⟨g, i, none⟩ = (cellsH s buf n)[i]? := by
  rw [cell_of_row w g i _ _ _ h.1]; simp
theorem Raw.frozen {w : World} {g : Nat} {s : W4} {buf : List UInt8} {n : Nat} (h : Raw w g s buf n) (i : Nat) : w.frozen? ⟨g, i, none⟩ = false := by
  have h' := h.1
  simp [World.frozen?, h']
theorem Raw.size_ {w : World} {g : Nat} {s : W4} {buf : List UInt8} {n : Nat} (h : Raw w g s buf n) : w.cell? ⟨g, 68, none⟩ = some (.int .u64 n) := by
  rw [h.at_ 68]
  unfold cellsH
  rw [List.getElem?_append_right (by rw [wordsV_length]; omega), wordsV_length, List.getElem?_append_right (by rw [bytesV_length, h.2]; omega), bytesV_length, h.2]
  rfl
theorem Raw.word {w : World} {g : Nat} {s : W4} {buf : List UInt8} {n : Nat} (h : Raw w g s buf n) : w.cell? ⟨g, 0, none⟩ = some (.int .u32 s.a) ∧ w.cell? ⟨g, 1, none⟩ = some (.int .u32 s.b) ∧ w.cell? ⟨g, 2, none⟩ = some (.int .u32 s.c) ∧ w.cell? ⟨g, 3, none⟩ = some (.int .u32 s.d) :=
  ⟨by rw [h.at_]; rfl, by rw [h.at_]; rfl, by rw [h.at_]; rfl, by rw [h.at_]; rfl⟩
theorem Raw.moves {S : Nat → Prop} {w w' : World} {g : Nat} {s : W4} {buf : List UInt8} {n : Nat} (h : Raw w g s buf n) (hm : Moves S w w') (hs : ¬ S g) : Raw w' g s buf n := ⟨(hm.block g h.lt hs).trans h.1, h.2⟩
theorem Raw.below {w w' : World} {g : Nat} {s : W4} {buf : List UInt8} {n : Nat} (h : Raw w g s buf n) (hb : Below w.heap.size w w') : Raw w' g s buf n := ⟨(hb.block g h.lt).trans h.1, h.2⟩
theorem Raw.apart {w : World} {g : Nat} {s : W4} {buf : List UInt8} {n : Nat} (h : Raw w g s buf n) (hg : Globs w) : g ≠ 0 ∧ g ≠ 1 := by
  constructor
  · rintro rfl
    have h1 := hg.1 63 (by omega)
    have h2 : w.cell? ⟨0, 63, none⟩ = some (.int .u8 (buf.getD 59 0).toNat) := by
      rw [h.at_ 63]
      unfold cellsH
      rw [List.getElem?_append_right (by rw [wordsV_length]; omega), wordsV_length, List.getElem?_append_left (by rw [bytesV_length, h.2]; omega)]
      unfold bytesV
      rw [List.getElem?_map, List.getD_eq_getElem?_getD, List.getElem?_eq_getElem (by rw [h.2]; omega)]
      rfl
    rw [h1] at h2
    cases h2
  · rintro rfl
    have h1 := hg.2 0 (by omega)
    rw [h.word.1] at h1
    cases h1
/-- The words, as the load of an array of four finds them. -/
theorem Raw.words {w : World} {g : Nat} {s : W4} {buf : List UInt8} {n : Nat} (h : Raw w g s buf n) : w.rangeAt g 0 (wordsV s) := fun j v hv => by
  rw [Nat.zero_add, h.at_]
  unfold cellsH
  rw [List.getElem?_append_left (List.getElem?_eq_some_iff.1 hv).1, hv]
/-- The block. -/
theorem Raw.block {w : World} {g : Nat} {s : W4} {buf : List UInt8} {n : Nat} (h : Raw w g s buf n) : w.rangeAt g 4 (bytesV buf) := fun j v hv => by
  rw [h.at_]
  unfold cellsH
  rw [List.getElem?_append_right (by show 4 ≤ _; omega), show 4 + j - (wordsV s).length = j by show 4 + j - 4 = j; omega, List.getElem?_append_left (List.getElem?_eq_some_iff.1 hv).1, hv]

theorem raw_setRow {w : World} {g : Nat} {s s' : W4} {buf buf' : List UInt8} {n n' : Nat} (h : Raw w g s buf n) (hb : buf'.length = 64) (cs : Array Value) (hc : cs = (cellsH s' buf' n').toArray) : Raw (w.setRow g cs) g s' buf' n' := by
  subst hc
  exact ⟨setRow_heap w g _ _ _ _ h.1, hb⟩
theorem moves_setRow (w : World) (g : Nat) (cs : Array Value) : Moves (fun k => k = g) w (w.setRow g cs) :=
  ⟨rfl, rfl, rfl, by simp [World.setRow], fun k _ hs => setRow_other w g k cs hs⟩
theorem setCell_row {w : World} {g : Nat} {cs : List Value} {t : TypeId} (h : w.heap[g]? = some (.cells cs.toArray t (0, 0))) (i : Nat) (v : Value) : (w.setCell ⟨g, i, none⟩ v).heap[g]? = some (.cells (cs.set i v).toArray t (0, 0)) := by
  rw [cells_set h]
  simp
/-- A hash that was put a word. -/
theorem Raw.putSize {w : World} {g : Nat} {s : W4} {buf : List UInt8} {n : Nat} (h : Raw w g s buf n) (m : Nat) : Raw (w.setCell ⟨g, 68, none⟩ (.int .u64 m)) g s buf m := by
  refine ⟨?_, h.2⟩
  rw [setCell_row h.1]
  congr 2
  unfold cellsH
  rw [List.set_append_right _ _ (by rw [wordsV_length]; omega), wordsV_length, List.set_append_right _ _ (by rw [bytesV_length, h.2]; omega), bytesV_length, h.2]
  rfl
theorem Raw.putWord {w : World} {g : Nat} {s s' : W4} {buf : List UInt8} {n : Nat} (h : Raw w g s buf n) (i : Nat) (v : Value) (hi : i < 4) (hv : (wordsV s).set i v = wordsV s') : Raw (w.setCell ⟨g, i, none⟩ v) g s' buf n := by
  refine ⟨?_, h.2⟩
  rw [setCell_row h.1]
  congr 2
  unfold cellsH
  rw [List.set_append_left _ _ (by show i < 4; exact hi), hv]

/-- 'copy' of a string into the middle of a row. -/
theorem run_copy_string {P : Program} (w : World) (dT sT ty elem : TypeId) (g o dLen dCap : Nat) (s : ByteArray) (cur : Array Value) (t : TypeId)
    (hu : P.underlying dT = some (.slice elem)) (hs : (P.info? elem).map (·.size) = some 1) (hg : w.heap[g]? = some (.cells cur t (0, 0))) (hfit : o + Nat.min s.size dLen ≤ cur.size) :
    (Builtin.copy_ #[dT, sT] ty #[.slice (some ⟨g, o, none⟩) dLen dCap, .string s]).run P w = .ok (goInt (Nat.min s.size dLen)) (w.setRow g (cur.toList.take o ++ bytesV (s.toList.take (Nat.min s.size dLen)) ++ cur.toList.drop (o + Nat.min s.size dLen)).toArray) := by
  have hl : (bytesV (s.toList.take (Nat.min s.size dLen))).length = Nat.min s.size dLen := by
    rw [bytesV_length, List.length_take, ← size_toList]
    exact Nat.min_eq_left (Nat.min_le_left _ _)
  have hst := run_storeCells_at P g o t (bytesV (s.toList.take (Nat.min s.size dLen))) 0 cur w hg (by rw [hl]; omega) (bytesV_one _)
  rw [hl] at hst
  cases hq : P.info? elem with
  | none => simp [hq] at hs
  | some i =>
    have hd : List.take (Nat.min s.size dLen) (List.map (fun b : UInt8 => Value.int IntKind.u8 (b.toNat : Int)) s.data.toList) = bytesV (s.toList.take (Nat.min s.size dLen)) := by
      rw [ByteArray.toList_eq, List.map_take.symm]; rfl
    simp [Builtin.copy_, run_underlying hu, Builtin.lenOf, Builtin.firstCells, sizeOf, typeInfo, hq]
    rw [hd, hst]
    simp
end Go.Proofs.YtpfbknbloeilmaaDoor.Md5
