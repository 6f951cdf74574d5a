/- An append of a row of texts behind a guard, be it of nothing; two new texts; the digest of parts, wherever they lie. -/
import Derived.Test.YtdpmndfoplndnaaDoorMd5O
import Derived.Test.YtdpmndfoplndnaaDoorMd5C
import Derived.BigFrame
namespace Go.Proofs.YtdpmndfoplndnaaDoor.Md5
open Go.RowKit Go.Proofs.YtdpmndfoplndnaaDoor.Oct Go.Proofs.YtdpmndfoplndnaaDoor.Row Go.Proofs.YtdpmndfoplndnaaDoor.Mem

theorem run_append_nothing {P : Program} (w : World) (t ty e : TypeId) (i : TypeInfo) (ht : P.underlying t = some (.slice e)) (hi : P.info? e = some i) :
    (Builtin.append_ #[t, t] ty #[.slice none 0 0, .slice none 0 0]).run P w = .ok (.slice none 0 0) w := by
  simp [Builtin.append_, run_underlying ht, sizeOf, typeInfo, hi, Builtin.lenOf, Builtin.firstCells]
/-- What is appended: nothing to nothing, or a row that lies in one block. -/
def Adds (w : World) (A : Option Addr) (m c : Nat) (v : Value) (n : Nat) (news : List Value) : Prop :=
  (A = none ∧ m = 0 ∧ c = 0 ∧ v = .slice none 0 0 ∧ n = 0) ∨ ∃ ad, A = some ad ∧ ∀ j u, news[j]? = some u → w.cell? (ad.add j) = some u
theorem adds_strs {w : World} {base : Nat} {A : Option Addr} {n c : Nat} {l : List ByteArray} (hA : A = none → n = 0 ∧ c = 0) (h : Strs w base A n l) : Adds w A n c (.slice none 0 0) 0 (textsV l) := by
  cases A with
  | none => exact .inl ⟨rfl, (hA rfl).1, (hA rfl).2, rfl, rfl⟩
  | some ad => exact .inr ⟨ad, rfl, strs_cells h⟩
theorem wpList_append_row {P : Program} {w : World} {ops : Array Oper} {rest : List Oper} {o : Oper} {a : Act} {Q : Exit → Act → World → Prop} (hw : Region.wanted o (yielded ops a.tmps) = true) (s x : Operand) (t : TypeId)
    (ho : o.op = .call { callee := .builtin .append, args := #[s, x], argTypes := #[t, t] })
    (base : Nat) (e : TypeId) (i : TypeInfo) (z : Value) (bytes : Nat) (ht : P.underlying t = some (.slice e)) (hi : P.info? e = some i) (hz : i.zero = some z)
    (hsize : i.size = 1) (hby : i.bytes = bytes) (hzs : z.cells.size = 1)
    (v : Value) (n : Nat) (xs : List Value) (hs : a.eval s = v) (hown : w.ownsRow base e 1 v n xs)
    (A : Option Addr) (m c : Nat) (news : List Value) (hx : a.eval x = .slice A m c) (hl : news.length = m)
    (hA : Adds w A m c v n news) (h1 : ∀ u ∈ news, u.oneCell' = true)
    (h63 : n + m ≤ maxLen) (hbytes : (n + m) * bytes ≤ 140737488355328) (hbase : base ≤ w.heap.size)
    (h : ∀ v' w', w'.ownsRow base e 1 v' (n + m) (xs ++ news) → w.grownBy w' v.ownBlock → wpList P ops Q rest (a.put o.dst v') w') : wpList P ops Q (o :: rest) a w := by
  refine BigFrame.wpList_want hw fun K hK => ?_
  unfold Oper.wp execOp
  rcases hA with ⟨rfl, rfl, rfl, rfl, rfl⟩ | ⟨ad, rfl, hnews⟩
  · have hr := run_append_nothing (P := P) w t o.type e i ht hi
    simp only [ho, resolve, invoke, builtin, Sem.run_bind, Sem.run_pure, Result.andThen_ok, List.map_toArray, List.map_cons, List.map_nil, hs, hx, hr]
    refine hK _ _ (h _ _ ?_ ⟨rfl, rfl, rfl, Nat.le_refl _, fun _ _ _ => rfl⟩)
    obtain rfl : news = [] := List.eq_nil_of_length_eq_zero hl
    obtain rfl : xs = [] := List.eq_nil_of_length_eq_zero (by simpa using hown.1)
    exact World.ownsRow_nil _ _ _ _
  · obtain ⟨v', w', hr, h2, h3, _, h5⟩ := run_append_own_at (P := P) w base t o.type e i z 1 bytes ht hi hz hsize hby hzs (by omega) v n xs hown ad m c news (by rw [hl, Nat.mul_one]) hnews h1 h63 hbytes hbase
    simp only [ho, resolve, invoke, builtin, Sem.run_bind, Sem.run_pure, Result.andThen_ok, List.map_toArray, List.map_cons, List.map_nil, hs, hx, hr]
    exact hK _ _ (h v' w' h2 h3)

theorem infoS : (Tryd.prog.info? 9).map (fun i => (i.zero, i.size, i.bytes)) = some (some (.string ByteArray.empty), 1, 16) := by kernel_rfl
theorem texts_new (w : World) (l : List ByteArray) : ∀ j u, (textsV l)[j]? = some u → (w.alloc (.cells (textsV l).toArray 9)).cell? ((⟨w.heap.size, 0, none⟩ : Addr).add j) = some u := fun j u hu => cells_new w (textsV l).toArray 9 j u (by simpa using hu)
/-- Texts in a block of their own. -/
theorem strs_new (w : World) (l : List ByteArray) (hz : ∀ s ∈ l, s.size ≤ maxLen) : Strs (w.alloc (.cells (textsV l).toArray 9)) (w.alloc (.cells (textsV l).toArray 9)).heap.size (some ⟨w.heap.size, 0, none⟩) l.length l := by
  refine ⟨rfl, hz, fun _ => ⟨_, rfl, by show w.heap.size < _; rw [World.size_alloc]; omega, fun j hj => ?_⟩⟩
  exact texts_new w l j _ (by unfold textsV; rw [List.getElem?_map, List.getElem?_eq_getElem hj]; rfl)
end Go.Proofs.YtdpmndfoplndnaaDoor.Md5
