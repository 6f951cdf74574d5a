/- What evaluate keeps: the types that were there, the verdicts. -/
import Derived.Test.YtikcgcgbcolndaaGreatPolV
import Derived.Test.YtikcgcgbcolndaaGreatGLcoC
import Derived.Deep.WholeRow
namespace Go.Proofs.YtikcgcgbcolndaaGreat.Pol
open Go.RowKit Go.Proofs.YtikcgcgbcolndaaGreat.Oct Go.Proofs.YtikcgcgbcolndaaGreat.Row Go.Proofs.YtikcgcgbcolndaaGreat.Mem Go.Proofs.YtikcgcgbcolndaaGreat.Opt Go.Proofs.YtikcgcgbcolndaaGreat.Lco

/-- The array of 256 Bools. -/
def arrB (f : Nat → Bool) : Array Value := (Array.range 256).map fun j => Value.bool (f j)
theorem arrB_size (f : Nat → Bool) : (arrB f).size = 256 := by simp [arrB]
theorem arrB_at (f : Nat → Bool) (j : Nat) (h : j < 256) : (arrB f)[j]? = some (.bool (f j)) := by simp [arrB, h]
theorem arrB_zero : Array.replicate 256 (Value.bool false) = arrB (fun _ => false) := by
  apply Array.ext_getElem?
  intro i
  by_cases h : i < 256
  · rw [arrB_at _ _ h]; simp [h]
  · simp [arrB, h]
def TabB (w : World) (g : Nat) (f : Nat → Bool) : Prop := w.heap[g]? = some (.cells (arrB f) 264 (0, 0))
theorem TabB.lt {w : World} {g : Nat} {f : Nat → Bool} (h : TabB w g f) : g < w.heap.size := (Array.getElem?_eq_some_iff.1 h).1
theorem TabB.cell {w : World} {g : Nat} {f : Nat → Bool} (h : TabB w g f) (j : Nat) (hj : j < 256) : w.cell? ⟨g, j, none⟩ = some (.bool (f j)) := by
  rw [cell_of_row w g j _ _ _ h, arrB_at f j hj]
theorem TabB.frozen {w : World} {g : Nat} {f : Nat → Bool} (h : TabB w g f) (j : Nat) : w.frozen? ⟨g, j, none⟩ = false := by
  unfold World.frozen?
  have h' : w.heap[g]? = _ := h
  simp [h']
theorem TabB.callee {w w' : World} {g : Nat} {f : Nat → Bool} (h : TabB w g f) (hb : Below w.heap.size w w') : TabB w' g f := (hb.block g h.lt).trans h
theorem TabB.moves {S : Nat → Prop} {w w' : World} {g : Nat} {f : Nat → Bool} (h : TabB w g f) (hm : Moves S w w') (hs : ¬ S g) : TabB w' g f := (hm.block g h.lt hs).trans h
theorem TabB.set {w : World} {g : Nat} {f f' : Nat → Bool} (h : TabB w g f) (k : Nat) (hk : k < 256) (hf : ∀ j, j < 256 → f' j = if j = k then true else f j) : TabB (w.setCell ⟨g, k, none⟩ (.bool true)) g f' := by
  have h' : w.heap[g]? = _ := h
  unfold TabB World.setCell
  simp only [Array.getElem?_modify, if_true, h', Option.map_some, Option.isSome_none, Bool.false_eq_true, if_false]
  congr 2
  apply Array.ext_getElem?
  intro i
  rw [Array.getElem?_setIfInBounds, arrB_size]
  by_cases e : k = i
  · subst e; rw [if_pos rfl, if_pos hk, arrB_at _ _ hk, hf k hk, if_pos rfl]
  · rw [if_neg e]
    by_cases hi : i < 256
    · rw [arrB_at _ _ hi, arrB_at _ _ hi, hf i hi, if_neg (fun x => e x.symm)]
    · rw [Array.getElem?_eq_none (by rw [arrB_size]; omega), Array.getElem?_eq_none (by rw [arrB_size]; omega)]
set_option maxRecDepth 100000 in
theorem info_tabB : (Tryz.prog.info? 264).map (fun i => (i.zero, i.size)) = some (some (.agg (Array.replicate 256 (.bool false))), 256) := by kernel_rfl
theorem zero_tabB (w : World) : (zeroValue 264).run Tryz.prog w = .ok (.agg (arrB fun _ => false)) w := by
  rw [← arrB_zero]; exact (zero_of_info info_tabB).1 w
set_option maxRecDepth 100000 in
theorem Tryz.info246 : (Tryz.prog.info? 246).map (fun i => (i.zero, i.size, i.bytes)) = some (some (.agg #[.int .u8 0, .string ByteArray.empty, .bool false, .int .u8 0, .string ByteArray.empty]), 5, 56) := by kernel_rfl
/-- The types that were there, by number. -/
def sn (l : List Opt) (j : Nat) : Bool := seen l (UInt8.ofNat j)
theorem sn_nil : sn [] = fun _ => false := rfl
theorem sn_at (l : List Opt) (t : UInt8) : sn l t.toNat = seen l t := by unfold sn; rw [UInt8.ofNat_toNat]
theorem sn_next (l : List Opt) (k : Nat) (o : Opt) (h : l[k]? = some o) : ∀ j, j < 256 → sn (l.take (k + 1)) j = if j = o.1.toNat then true else sn (l.take k) j := by
  intro j hj
  unfold sn
  rw [seen_snoc l k o h]
  by_cases e : j = o.1.toNat
  · subst e
    rw [if_pos rfl, UInt8.ofNat_toNat]
    simp
  · rw [if_neg e, show (o.1 == UInt8.ofNat j) = false from beq_eq_false_iff_ne.2 fun x => e (by rw [x, UInt8.toNat_ofNat']; omega), Bool.or_false]
/-- What a round keeps. -/
structure Ev (w wr : World) (g : Nat) (p : Po) (m ge : Nat) (v : Value) (l : List Opt) (k : Nat) : Prop where
  hp : PAt wr g p
  hm : Sy wr m
  ht : TabB wr ge (sn (l.take k))
  hr : wr.ownsRow w.heap.size 246 5 v k (versV (vs p (l.take k)))
  hb : Below w.heap.size w wr
  he : w.heap.size ≤ ge
theorem Ev.callee {w wr w' : World} {g : Nat} {p : Po} {m ge : Nat} {v : Value} {l : List Opt} {k : Nat} (h : Ev w wr g p m ge v l k) (hb : Below wr.heap.size wr w') : Ev w w' g p m ge v l k :=
  ⟨h.hp.callee hb, h.hm.callee hb, h.ht.callee hb, own_callee h.hr hb, h.hb.trans (hb.mono h.hb.size), h.he⟩
theorem Ev.alloc {w wr : World} {g : Nat} {p : Po} {m ge : Nat} {v : Value} {l : List Opt} {k : Nat} (h : Ev w wr g p m ge v l k) (o : Obj) : Ev w (wr.alloc o) g p m ge v l k := h.callee ((Below.refl _ _).alloc (Nat.le_refl _) o)
/-- A new block of the call's own is turned. -/
theorem Ev.moved {w wr w' : World} {g : Nat} {p : Po} {m ge b : Nat} {v : Value} {l : List Opt} {k : Nat} (h : Ev w wr g p m ge v l k) (hm : Moves (fun j => j = b) wr w') (hg : g ≠ b) (hm2 : m ≠ b) (he : ge ≠ b) (hr : ∀ q, v.ownBlock = some q → ¬ q = b) (hb : w.heap.size ≤ b) : Ev w w' g p m ge v l k :=
  ⟨h.hp.moves hm hg, h.hm.moves hm hm2, h.ht.moves hm he, hm.row h.hr hr, h.hb.trans (hm.below h.hb.size (fun j e => by rw [e]; exact hb)), h.he⟩
/-- .. once the type is marked. -/
structure Ew (w wr : World) (g : Nat) (p : Po) (m ge : Nat) (v : Value) (l : List Opt) (k : Nat) : Prop where
  hp : PAt wr g p
  hm : Sy wr m
  ht : TabB wr ge (sn (l.take (k + 1)))
  hr : wr.ownsRow w.heap.size 246 5 v k (versV (vs p (l.take k)))
  hb : Below w.heap.size w wr
  he : w.heap.size ≤ ge
theorem tab_not_row {W : World} {ge base n : Nat} {f : Nat → Bool} {v : Value} {xs : List Value} (h : TabB W ge f) (hr : W.ownsRow base 246 5 v n xs) : v.ownBlock ≠ some ge := cells_not_row h (by decide) hr
theorem say_not_row {W : World} {m base n : Nat} {v : Value} {xs : List Value} (h : Sy W m) (hr : W.ownsRow base 246 5 v n xs) : v.ownBlock ≠ some m := by
  intro e
  rcases hr.2 with ⟨rfl, _⟩ | ⟨g, cap, cur, rfl, _, hgb, _⟩
  · cases e
  · obtain rfl : g = m := by simpa [Value.ownBlock] using e
    have h1 : W.heap[g]? = _ := h
    rw [h1] at hgb
    cases hgb
theorem Ev.mark {w wr : World} {g : Nat} {p : Po} {m ge : Nat} {v : Value} {l : List Opt} {k q : Nat} (h : Ev w wr g p m ge v l k) (hq : q < 256) (hs : ∀ j, j < 256 → sn (l.take (k + 1)) j = if j = q then true else sn (l.take k) j) : Ew w (wr.setCell ⟨ge, q, none⟩ (.bool true)) g p m ge v l k := by
  have hm : Moves (fun j => j = ge) wr (wr.setCell ⟨ge, q, none⟩ (.bool true)) := set_moves wr ge q _
  refine ⟨h.hp.moves hm ?_, h.hm.moves hm ?_, h.ht.set q hq hs, hm.row h.hr (fun j hj e => tab_not_row h.ht h.hr (by rw [hj, e])), h.hb.trans (hm.below h.hb.size (fun j e => by rw [e]; exact h.he)), h.he⟩
  · rintro rfl
    have h1 : wr.heap[g]? = _ := h.hp
    have h3 : wr.heap[g]? = _ := h.ht
    rw [h1] at h3
    simp only [Option.some.injEq, Obj.cells.injEq] at h3
    exact absurd h3.2.1 (by decide)
  · rintro rfl
    have h1 : wr.heap[m]? = _ := h.hm
    have h3 : wr.heap[m]? = _ := h.ht
    rw [h1] at h3
    cases h3
theorem Ew.grown {w wr w' : World} {g : Nat} {p : Po} {m ge : Nat} {v v' : Value} {l : List Opt} {k : Nat} {x : Obj} {vv : Ver} (h : Ew w wr g p m ge v l k) (hg : (wr.alloc x).grownBy w' v.ownBlock) (hr : w'.ownsRow w.heap.size 246 5 v' (k + 1) (versV (vs p (l.take k)) ++ verV vv)) (hv : vs p (l.take (k + 1)) = vs p (l.take k) ++ [vv]) : Ev w w' g p m ge v' l (k + 1) := by
  have h1 : Moves (fun j => v.ownBlock = some j) (wr.alloc x) w' := Moves.of_grown hg (fun j e _ => e)
  have h0 : Below wr.heap.size wr (wr.alloc x) := (Below.refl _ _).alloc (Nat.le_refl _) x
  have hn := own_callee h.hr h0
  refine ⟨(h.hp.callee h0).moves h1 (cells_not_row (h.hp.callee h0) (by decide) hn), (h.hm.callee h0).moves h1 (say_not_row (h.hm.callee h0) hn), (h.ht.callee h0).moves h1 (tab_not_row (h.ht.callee h0) hn), ?_, ?_, h.he⟩
  · rw [hv, versV_snoc]; exact hr
  · exact (h.hb.trans (h0.mono h.hb.size)).trans (h1.below (Nat.le_trans h.hb.size h0.size) (fun j e => (hn.lt j e).1))
/-- What evaluate answers. -/
def EvQ (p : Po) (l : List Opt) (n : Nat) (w : World) (e : Ending) (w' : World) : Prop := ∃ A c, e = .returned (.slice A n c) ∧ Vers w' w'.heap.size A n (vs p l) ∧ Below w.heap.size w w'
end Go.Proofs.YtikcgcgbcolndaaGreat.Pol
