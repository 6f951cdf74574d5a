/- Put together: Reads, Moves. -/
import Derived.Test.YtpfbknbloeilmaaDoorRow
import Derived.Test.YtpfbknbloeilmaaDoorTxt
import Derived.ProofKit
import Derived.ChangeSlices
import Derived.RegionTactic
import Derived.Deep.AppendLies
import Derived.Laws.IdiomStrings

/- Rows of numbers among the arguments; rows of bytes that are read; an append as a step of a region that draws its order. Of no program. -/
namespace Go.Proofs.YtpfbknbloeilmaaDoor.Row
open Go.ChangeShapes Go.WideShapes Go.RowKit Go.Proofs.YtpfbknbloeilmaaDoor.Oct

/-- A slice of n numbers of kind k, in blocks below B. -/
def Ints (w : World) (B : Nat) (A : Option Addr) (n : Nat) (k : IntKind) : Prop :=
  ∀ j, j < n → ∃ ad z, A = some ad ∧ ad.block < B ∧ w.cell? (ad.add j) = some (.int k z) ∧ (Lit.int k z).wf = true
theorem Ints.below {w w' : World} {B : Nat} {A : Option Addr} {n : Nat} {k : IntKind} (h : Ints w B A n k) (hb : Below B w w') : Ints w' B A n k := fun j hj => by
  obtain ⟨ad, z, hA, hB, hc, hz⟩ := h j hj
  exact ⟨ad, z, hA, hB, (hb.cell (by rw [Go.Proofs.YtpfbknbloeilmaaDoor.Oct.block_add]; exact hB)).trans hc, hz⟩
theorem ints_of {H : Type} {enc : TypeId × Value → H} {P : Program} {W : World} {base : Nat} {t e : TypeId} {k : IntKind} {v : Value} {d : DataW H} {p : List MemPlace} (ht : P.underlying t = some (.slice e)) (he : P.underlying e = some (.int k)) (hc : P.cellsOf e = 1)
    (hv : Value.okWide P W .any base t v) (h : DataW.Trod enc P W 0 (fun _ => true) true t v d p) : ∃ A n c, v = .slice A n c ∧ n ≤ maxLen ∧ Ints W W.heap.size A n k := by
  obtain ⟨a0, len, cap, rfl⟩ := okWide_slice ht hv
  obtain ⟨fuel, hf⟩ := h
  rcases open_ints ht he hc hf with ⟨hcs, hx⟩ | ⟨a, len', cap', zs, hcs, _, hl, hm, hz, hx, hcell, hws⟩
  · simp [Value.cells] at hcs
    obtain ⟨rfl, rfl, rfl⟩ := hcs
    exact ⟨none, 0, 0, rfl, by simp [maxLen], fun j hj => absurd hj (Nat.not_lt_zero _)⟩
  · simp [Value.cells] at hcs
    obtain ⟨rfl, rfl, rfl⟩ := hcs
    simp at hz
    refine ⟨some a, len, cap, rfl, by omega, fun j hj => ⟨a, zs.getD j 0, rfl, ?_, hcell j (by omega), ?_⟩⟩
    · have h1 := hcell j (by omega)
      have := World.block_lt_of_cell? W _ h1
      rwa [Go.Proofs.YtpfbknbloeilmaaDoor.Oct.block_add] at this
    · rw [List.getD_eq_getElem?_getD, List.getElem?_eq_getElem (show j < zs.length by omega)]
      exact hws _ (List.getElem_mem _)

/-- The bytes l lie in block g from its head on. -/
def Reads (w : World) (g : Nat) (l : List UInt8) : Prop := g < w.heap.size ∧ ∀ j (h : j < l.length), w.cell? ⟨g, j, none⟩ = some (.int .u8 (l[j].toNat : Int))
theorem Reads.drew {w : World} {g : Nat} {l : List UInt8} (h : Reads w g l) : Reads w.drew g l := h
theorem Reads.grown {w w' : World} {row : Option Nat} {g : Nat} {l : List UInt8} (h : Reads w g l) (hg : w.grownBy w' row) (hne : some g ≠ row) : Reads w' g l :=
  ⟨Nat.lt_of_lt_of_le h.1 hg.size, fun j hj => (hg.cell_far ⟨g, j, none⟩ h.1 hne).trans (h.2 j hj)⟩
theorem Reads.alloc {w : World} {g : Nat} {l : List UInt8} (h : Reads w g l) (o : Obj) : Reads (w.alloc o) g l := h.grown (World.grownBy_alloc w o none) (by simp)
theorem Reads.callee {w w' : World} {g : Nat} {l : List UInt8} (h : Reads w g l) (hb : Below w.heap.size w w') : Reads w' g l :=
  ⟨Nat.lt_of_lt_of_le h.1 hb.size, fun j hj => (hb.cell (p := ⟨g, j, none⟩) h.1).trans (h.2 j hj)⟩
theorem add_zero_at (g k j : Nat) : (⟨g, k, none⟩ : Addr).add j = ⟨g, k + j, none⟩ := by
  unfold Addr.add
  split <;> simp_all
theorem Reads.part {w : World} {g : Nat} {l : List UInt8} (h : Reads w g l) (k m : Nat) (hm : k + m ≤ l.length) : ∀ j u, (bytesV ((l.drop k).take m))[j]? = some u → w.cell? ((⟨g, k, none⟩ : Addr).add j) = some u := by
  intro j u hu
  have hj : j < m := by
    have := (List.getElem?_eq_some_iff.1 hu).1
    rw [bytesV_length, List.length_take] at this
    omega
  rw [add_zero_at, h.2 (k + j) (by omega)]
  unfold bytesV at hu
  rw [List.getElem?_map, List.getElem?_take_of_lt hj, List.getElem?_drop, List.getElem?_eq_getElem (show k + j < l.length by omega)] at hu
  simpa using hu
theorem reads_own {w : World} {base g n cap : Nat} {e : TypeId} {l : List UInt8} (h : w.ownsRow base e 1 (.slice (some ⟨g, 0, none⟩) n cap) n (bytesV l)) : Reads w g l := by
  have hn : l.length = n := by have := h.1; simpa [bytesV] using this
  refine ⟨(h.lt g rfl).2, fun j hj => ?_⟩
  rw [h.cellAt j (by omega)]
  unfold bytesV
  rw [List.getElem?_map, List.getElem?_eq_getElem hj]
  rfl
theorem own_cap {w : World} {base g n cap : Nat} {e : TypeId} {xs : List Value} (h : w.ownsRow base e 1 (.slice (some ⟨g, 0, none⟩) n cap) n xs) : n ≤ cap ∧ cap ≤ maxLen ∧ base ≤ g := by
  rcases h.2 with ⟨h0, _⟩ | ⟨g', cap', cur, h1, hb, _, h2, h3, _⟩
  · cases h0
  · cases h1
    exact ⟨h2, h3, hb⟩
/-- 'string(b)'. -/
theorem conv_reads {P : Program} {w : World} {g n c : Nat} {l : List UInt8} {src dst e : TypeId} (hs : P.underlying src = some (.slice e)) (he : P.underlying e = some (.int .u8)) (hd : P.underlying dst = some .string)
    (h : Reads w g l) (hn : l.length = n) : (convert src dst (.slice (some ⟨g, 0, none⟩) n c)).run P w = .ok (.string (bOf l)) w := by
  have hr := run_convert_bytes_arg w src e hs he g 0 n c (l.map fun b => (b.toNat : Int)) (by simpa using hn) (fun i hi => by
    rw [Nat.zero_add, h.2 i (by omega)]
    simp [List.getD, List.getElem?_eq_getElem (show i < l.length by omega)]) dst hd
  rw [hr, nums_bOf, List.map_map]
  congr 3
  conv => rhs; rw [← List.map_id l]
  apply List.map_congr_left
  intro b _
  simp
/-- '[]byte(s)'. -/
theorem reads_made (w : World) (s : ByteArray) (e : TypeId) (c : Nat) :
    Reads (w.drew.alloc (.cells (bytesRow s c) e ((bytesRow s c).size, (bytesRow s c).size + 1))) w.heap.size s.toList := by
  refine ⟨by rw [World.size_alloc]; exact Nat.lt_succ_self _, fun j hj => ?_⟩
  have hj' : j < s.data.size := by rw [← size_toList] at hj; exact hj
  have := World.cell?_alloc_mark w.drew (bytesRow s c) e ((bytesRow s c).size, (bytesRow s c).size + 1) j
  rw [show w.drew.heap.size = w.heap.size from rfl] at this
  rw [this, bytesRow_at s c j hj']
  have h2 := getElem_toList s j hj'
  rw [← h2]; rfl

/-- An append onto nil, or onto a row of the call's own, at a step of a region that draws its order; nothing need be appended. -/
theorem step_append_any {P : Program} (w : World) {ops : Array Oper} {o : Oper} {a : Act} {K : Act → World → Prop} {Q : Exit → Act → World → Prop} {E : Prop} (hgd : o.guard = none) (s x : Operand) (t : TypeId)
    (ho : o.op = .call { callee := .builtin .append, args := #[s, x], argTypes := #[t, t] })
    (base : Nat) (e : TypeId) (i : TypeInfo) (z : Value) (size bytes : Nat) (ht : P.underlying t = some (.slice e)) (hi : P.info? e = some i) (hz : i.zero = some z)
    (hsize : i.size = size) (hby : i.bytes = bytes) (hzs : z.cells.size = size) (hsz : 0 < size)
    (v : Value) (n : Nat) (xs : List Value) (hs : a.eval s = v) (hown : w.ownsRow base e size v n xs)
    (ad : Addr) (m c : Nat) (news : List Value) (hx : a.eval x = .slice (some ad) m c) (hl : news.length = m * size) (hnews : ∀ j u, news[j]? = some u → w.cell? (ad.add j) = some u) (h1 : ∀ u ∈ news, u.oneCell' = true)
    (h63 : n + m ≤ maxLen) (hbytes : (n + m) * bytes ≤ 140737488355328) (hbase : base ≤ w.heap.size)
    (h : ∀ v' w', w'.ownsRow base e size v' (n + m) (xs ++ news) → w.grownBy w' v.ownBlock → (v'.ownBlock = v.ownBlock ∨ v'.ownBlock = some w.heap.size) → K (a.put o.dst v') w') :
    if Region.wanted o (yielded ops a.tmps) = true then Oper.wp P o a w K Q else E := by
  have hw : Region.wanted o (yielded ops a.tmps) = true := by simp [Region.wanted, hgd]
  rw [if_pos hw]
  obtain ⟨v', w', hr, h2, h3, _, h5⟩ := run_append_own_at (P := P) w base t o.type e i z size bytes ht hi hz hsize hby hzs hsz v n xs hown ad m c news hl hnews h1 h63 hbytes hbase
  unfold Oper.wp execOp
  simp only [ho, resolve, invoke, builtin, Sem.run_bind, Sem.run_pure, Result.andThen_ok, List.map_toArray, List.map_cons, List.map_nil, hs, hx, hr]
  exact h v' w' h2 h3 h5
end Go.Proofs.YtpfbknbloeilmaaDoor.Row

/- What a call may turn: nothing but in the blocks of S. Of no program. -/
namespace Go.Proofs.YtpfbknbloeilmaaDoor.Mem
open Go.RowKit Go.Proofs.YtpfbknbloeilmaaDoor.Oct Go.Proofs.YtpfbknbloeilmaaDoor.Row

/-- From w to w' nothing has turned but in the blocks of S. -/
structure Moves (S : Nat → Prop) (w w' : World) : Prop where
  os : w'.os = w.os
  tape : w'.tape = w.tape
  output : w'.output = w.output
  size : w.heap.size ≤ w'.heap.size
  block : ∀ k, k < w.heap.size → ¬ S k → w'.heap[k]? = w.heap[k]?

theorem Moves.refl (S : Nat → Prop) (w : World) : Moves S w w := ⟨rfl, rfl, rfl, Nat.le_refl _, fun _ _ _ => rfl⟩
theorem Moves.trans {S T : Nat → Prop} {a b c : World} (h : Moves S a b) (k : Moves T b c) (ht : ∀ j, j < a.heap.size → T j → S j) : Moves S a c :=
  ⟨k.os.trans h.os, k.tape.trans h.tape, k.output.trans h.output, Nat.le_trans h.size k.size, fun i hi hs => (k.block i (Nat.lt_of_lt_of_le hi h.size) (fun x => hs (ht i hi x))).trans (h.block i hi hs)⟩
theorem Moves.mono {S T : Nat → Prop} {a b : World} (h : Moves S a b) (ht : ∀ j, j < a.heap.size → S j → T j) : Moves T a b :=
  ⟨h.os, h.tape, h.output, h.size, fun i hi hs => h.block i hi fun x => hs (ht i hi x)⟩
theorem Moves.of_below {S : Nat → Prop} {w w' : World} (h : Below w.heap.size w w') : Moves S w w' := ⟨h.os, h.tape, h.output, h.size, fun k hk _ => h.block k hk⟩
theorem Moves.of_grown {S : Nat → Prop} {w w' : World} {row : Option Nat} (h : w.grownBy w' row) (hr : ∀ k, row = some k → k < w.heap.size → S k) : Moves S w w' :=
  ⟨h.os, h.tape, h.output, h.size, fun k hk hs => h.block k hk fun e => hs (hr k e.symm hk)⟩
theorem Moves.alloc {S : Nat → Prop} {a w : World} (h : Moves S a w) (o : Obj) : Moves S a (w.alloc o) :=
  h.trans (Moves.of_grown (S := fun _ => False) (World.grownBy_alloc w o none) (fun _ e => by cases e)) (fun _ _ x => x.elim)
theorem Moves.drew {S : Nat → Prop} {a w : World} (h : Moves S a w) : Moves S a w.drew := ⟨h.os, h.tape, h.output, h.size, h.block⟩
theorem Moves.setCell {S : Nat → Prop} {a w : World} (h : Moves S a w) (p : Addr) (hp : p.block < a.heap.size → S p.block) (u : Value) : Moves S a (w.setCell p u) :=
  h.trans (T := fun k => k = p.block) ⟨rfl, rfl, rfl, by simp [World.setCell], fun k _ hs => Below.heap_setCell _ _ _ _ hs⟩ (fun _ hj e => by subst e; exact hp hj)
theorem Moves.below {S : Nat → Prop} {w w' : World} {n : Nat} (h : Moves S w w') (hn : n ≤ w.heap.size) (hs : ∀ k, S k → n ≤ k) : Below n w w' :=
  ⟨h.os, h.tape, h.output, h.size, fun k hk => h.block k (by omega) fun x => by have := hs k x; omega⟩
theorem Moves.cell {S : Nat → Prop} {w w' : World} (h : Moves S w w') {p : Addr} (hp : p.block < w.heap.size) (hs : ¬ S p.block) : w'.cell? p = w.cell? p := World.cell?_of_block (h.block _ hp hs)
theorem Moves.frozen {S : Nat → Prop} {w w' : World} (h : Moves S w w') {p : Addr} (hp : p.block < w.heap.size) (hs : ¬ S p.block) : w'.frozen? p = w.frozen? p := World.frozen?_of_block (h.block _ hp hs)
theorem Moves.row {S : Nat → Prop} {w w' : World} (h : Moves S w w') {base : Nat} {e : TypeId} {size n : Nat} {v : Value} {xs : List Value} (hr : w.ownsRow base e size v n xs) (hs : ∀ k, v.ownBlock = some k → ¬ S k) : w'.ownsRow base e size v n xs := by
  refine ⟨hr.1, ?_⟩
  rcases hr.2 with hn | ⟨g, cap, cur, rfl, hb, hg, rest⟩
  · exact .inl hn
  · exact .inr ⟨g, cap, cur, rfl, hb, (h.block g (Array.getElem?_eq_some_iff.1 hg).1 (hs g rfl)).trans hg, rest⟩
theorem Moves.strs {S : Nat → Prop} {w w' : World} (h : Moves S w w') {B n : Nat} {A : Option Addr} {l : List ByteArray} (hl : Strs w B A n l) (hB : B ≤ w.heap.size) (hs : ∀ k, S k → B ≤ k) : Strs w' B A n l :=
  hl.below (h.below hB hs)

theorem Moves.undrewN {S : Nat → Prop} {w w' : World} {k : Nat} (h : Moves S (w.drewN k) w') : Moves S w w' := ⟨h.os, h.tape, h.output, h.size, h.block⟩
theorem Moves.drewN {S : Nat → Prop} {a w : World} (h : Moves S a w) (k : Nat) : Moves S a (w.drewN k) := ⟨h.os, h.tape, h.output, h.size, h.block⟩
theorem _root_.Go.RowKit.Below.drewN' {B : Nat} {a w : World} (h : Below B a w) (k : Nat) : Below B a (w.drewN k) := ⟨h.os, h.tape, h.output, h.size, h.block⟩
theorem grownBy_setCell (W : World) (p : Addr) (v : Value) : W.grownBy (W.setCell p v) (some p.block) :=
  ⟨rfl, rfl, rfl, by simp [World.setCell], fun k _ hk => Below.heap_setCell _ _ _ k (fun e => hk (by rw [e]))⟩
theorem cells_set {W : World} {g i : Nat} {cs : Array Value} {t : TypeId} {m : Nat × Nat} (h : W.heap[g]? = some (.cells cs t m)) (v : Value) : (W.setCell ⟨g, i, none⟩ v).heap[g]? = some (.cells (cs.setIfInBounds i v) t m) := by
  obtain ⟨hlt, hk⟩ := Array.getElem?_eq_some_iff.1 h
  show (W.heap.modify g _)[g]? = _
  rw [Array.getElem?_eq_getElem (by rw [Array.size_modify]; exact hlt), Array.getElem_modify_self, hk]
  rfl
theorem cells_not_row {W : World} {B : Nat} {cs : Array Value} {t e : TypeId} {m : Nat × Nat} (h : W.heap[B]? = some (.cells cs t m)) (hte : t ≠ e) {base size k : Nat} {v : Value} {xs : List Value} (hr : W.ownsRow base e size v k xs) : v.ownBlock ≠ some B := by
  rcases hr.2 with ⟨rfl, _⟩ | ⟨g, cap, cur, rfl, _, hgb, _⟩
  · simp [Value.ownBlock]
  · intro e'
    obtain rfl : g = B := by simpa [Value.ownBlock] using e'
    have := h.symm.trans hgb
    simp at this
    exact hte this.2.1
theorem rows_apart {W : World} {e e' : TypeId} (hne : e ≠ e') {base base' size size' k k' : Nat} {v v' : Value} {xs xs' : List Value} (h : W.ownsRow base e size v k xs) (h' : W.ownsRow base' e' size' v' k' xs') : ∀ j, v.ownBlock = some j → v'.ownBlock ≠ some j := by
  intro j hj
  rcases h.2 with ⟨rfl, _⟩ | ⟨g, cap, cur, rfl, _, hgb, _⟩
  · cases hj
  · obtain rfl : g = j := by simpa [Value.ownBlock] using hj
    exact cells_not_row hgb hne h'

end Go.Proofs.YtpfbknbloeilmaaDoor.Mem
