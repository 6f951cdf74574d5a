/- What a call may turn: nothing but in the blocks of S. Of no program. -/
import Derived.Test.YtipcmkcllibnfaaDoorTxt
import Derived.Test.YtipcmkcllibnfaaDoorReads
namespace Go.Proofs.YtipcmkcllibnfaaDoor.Mem
open Go.RowKit Go.Proofs.YtipcmkcllibnfaaDoor.Oct Go.Proofs.YtipcmkcllibnfaaDoor.Row

/-- From w to w' nothing has turned but in the blocks of S. -/
structure Moves (S : Nat → Prop) (w w' : World) : Prop where
  os : w'.os = w.os
  tape : w'.tape = w.tape
  output : w'.output = w.output
  size : w.heap.size ≤ w'.heap.size
  block : ∀ k, k < w.heap.size → ¬ S k → w'.heap[k]? = w.heap[k]?

theorem Moves.refl (S : Nat → Prop) (w : World) : Moves S w w := ⟨rfl, rfl, rfl, Nat.le_refl _, fun _ _ _ => rfl⟩
theorem Moves.trans {S T : Nat → Prop} {a b c : World} (h : Moves S a b) (k : Moves T b c) (ht : ∀ j, j < a.heap.size → T j → S j) : Moves S a c :=
  ⟨k.os.trans h.os, k.tape.trans h.tape, k.output.trans h.output, Nat.le_trans h.size k.size, fun i hi hs => (k.block i (Nat.lt_of_lt_of_le hi h.size) (fun x => hs (ht i hi x))).trans (h.block i hi hs)⟩
theorem Moves.mono {S T : Nat → Prop} {a b : World} (h : Moves S a b) (ht : ∀ j, j < a.heap.size → S j → T j) : Moves T a b :=
  ⟨h.os, h.tape, h.output, h.size, fun i hi hs => h.block i hi fun x => hs (ht i hi x)⟩
theorem Moves.of_below {S : Nat → Prop} {w w' : World} (h : Below w.heap.size w w') : Moves S w w' := ⟨h.os, h.tape, h.output, h.size, fun k hk _ => h.block k hk⟩
theorem Moves.of_grown {S : Nat → Prop} {w w' : World} {row : Option Nat} (h : w.grownBy w' row) (hr : ∀ k, row = some k → k < w.heap.size → S k) : Moves S w w' :=
  ⟨h.os, h.tape, h.output, h.size, fun k hk hs => h.block k hk fun e => hs (hr k e.symm hk)⟩
theorem Moves.alloc {S : Nat → Prop} {a w : World} (h : Moves S a w) (o : Obj) : Moves S a (w.alloc o) :=
  h.trans (Moves.of_grown (S := fun _ => False) (World.grownBy_alloc w o none) (fun _ e => by cases e)) (fun _ _ x => x.elim)
theorem Moves.drew {S : Nat → Prop} {a w : World} (h : Moves S a w) : Moves S a w.drew := ⟨h.os, h.tape, h.output, h.size, h.block⟩
theorem Moves.setCell {S : Nat → Prop} {a w : World} (h : Moves S a w) (p : Addr) (hp : p.block < a.heap.size → S p.block) (u : Value) : Moves S a (w.setCell p u) :=
  h.trans (T := fun k => k = p.block) ⟨rfl, rfl, rfl, by simp [World.setCell], fun k _ hs => Below.heap_setCell _ _ _ _ hs⟩ (fun _ hj e => by subst e; exact hp hj)
theorem Moves.below {S : Nat → Prop} {w w' : World} {n : Nat} (h : Moves S w w') (hn : n ≤ w.heap.size) (hs : ∀ k, S k → n ≤ k) : Below n w w' :=
  ⟨h.os, h.tape, h.output, h.size, fun k hk => h.block k (by omega) fun x => by have := hs k x; omega⟩
theorem Moves.cell {S : Nat → Prop} {w w' : World} (h : Moves S w w') {p : Addr} (hp : p.block < w.heap.size) (hs : ¬ S p.block) : w'.cell? p = w.cell? p := World.cell?_of_block (h.block _ hp hs)
theorem Moves.frozen {S : Nat → Prop} {w w' : World} (h : Moves S w w') {p : Addr} (hp : p.block < w.heap.size) (hs : ¬ S p.block) : w'.frozen? p = w.frozen? p := World.frozen?_of_block (h.block _ hp hs)
theorem Moves.row {S : Nat → Prop} {w w' : World} (h : Moves S w w') {base : Nat} {e : TypeId} {size n : Nat} {v : Value} {xs : List Value} (hr : w.ownsRow base e size v n xs) (hs : ∀ k, v.ownBlock = some k → ¬ S k) : w'.ownsRow base e size v n xs := by
  refine ⟨hr.1, ?_⟩
  rcases hr.2 with hn | ⟨g, cap, cur, rfl, hb, hg, rest⟩
  · exact .inl hn
  · exact .inr ⟨g, cap, cur, rfl, hb, (h.block g (Array.getElem?_eq_some_iff.1 hg).1 (hs g rfl)).trans hg, rest⟩
theorem Moves.strs {S : Nat → Prop} {w w' : World} (h : Moves S w w') {B n : Nat} {A : Option Addr} {l : List ByteArray} (hl : Strs w B A n l) (hB : B ≤ w.heap.size) (hs : ∀ k, S k → B ≤ k) : Strs w' B A n l :=
  hl.below (h.below hB hs)

theorem Moves.undrewN {S : Nat → Prop} {w w' : World} {k : Nat} (h : Moves S (w.drewN k) w') : Moves S w w' := ⟨h.os, h.tape, h.output, h.size, h.block⟩
theorem Moves.drewN {S : Nat → Prop} {a w : World} (h : Moves S a w) (k : Nat) : Moves S a (w.drewN k) := ⟨h.os, h.tape, h.output, h.size, h.block⟩
theorem _root_.Go.RowKit.Below.drewN' {B : Nat} {a w : World} (h : Below B a w) (k : Nat) : Below B a (w.drewN k) := ⟨h.os, h.tape, h.output, h.size, h.block⟩
theorem grownBy_setCell (W : World) (p : Addr) (v : Value) : W.grownBy (W.setCell p v) (some p.block) :=
  ⟨rfl, rfl, rfl, by simp [World.setCell], fun k _ hk => Below.heap_setCell _ _ _ k (fun e => hk (by rw [e]))⟩
theorem cells_set {W : World} {g i : Nat} {cs : Array Value} {t : TypeId} {m : Nat × Nat} (h : W.heap[g]? = some (.cells cs t m)) (v : Value) : (W.setCell ⟨g, i, none⟩ v).heap[g]? = some (.cells (cs.setIfInBounds i v) t m) := by
  obtain ⟨hlt, hk⟩ := Array.getElem?_eq_some_iff.1 h
  show (W.heap.modify g _)[g]? = _
  rw [Array.getElem?_eq_getElem (by rw [Array.size_modify]; exact hlt), Array.getElem_modify_self, hk]
  rfl
theorem cells_not_row {W : World} {B : Nat} {cs : Array Value} {t e : TypeId} {m : Nat × Nat} (h : W.heap[B]? = some (.cells cs t m)) (hte : t ≠ e) {base size k : Nat} {v : Value} {xs : List Value} (hr : W.ownsRow base e size v k xs) : v.ownBlock ≠ some B := by
  rcases hr.2 with ⟨rfl, _⟩ | ⟨g, cap, cur, rfl, _, hgb, _⟩
  · simp [Value.ownBlock]
  · intro e'
    obtain rfl : g = B := by simpa [Value.ownBlock] using e'
    have := h.symm.trans hgb
    simp at this
    exact hte this.2.1
theorem rows_apart {W : World} {e e' : TypeId} (hne : e ≠ e') {base base' size size' k k' : Nat} {v v' : Value} {xs xs' : List Value} (h : W.ownsRow base e size v k xs) (h' : W.ownsRow base' e' size' v' k' xs') : ∀ j, v.ownBlock = some j → v'.ownBlock ≠ some j := by
  intro j hj
  rcases h.2 with ⟨rfl, _⟩ | ⟨g, cap, cur, rfl, _, hgb, _⟩
  · cases hj
  · obtain rfl : g = j := by simpa [Value.ownBlock] using hj
    exact cells_not_row hgb hne h'

end Go.Proofs.YtipcmkcllibnfaaDoor.Mem
