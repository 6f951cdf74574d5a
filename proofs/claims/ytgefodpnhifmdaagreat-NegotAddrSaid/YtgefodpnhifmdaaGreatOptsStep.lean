/- Parts of a row of options: l[:q], l[q:]; an append of such a part in a region that draws its order. Of no program. -/
import Derived.Test.YtgefodpnhifmdaaGreatOptsApp
import Derived.Test.YtgefodpnhifmdaaGreatGTxt
import Derived.Laws.OwnMore
import Derived.Laws.Slices
import Derived.Deep.Slices
import Derived.ProofKit
namespace Go.Proofs.YtgefodpnhifmdaaGreat.Opt
open Go.ChangeShapes Go.WideShapes Go.ChangeAt Go.RowKit Go.Joins Go.Deep Go.Proofs.YtgefodpnhifmdaaGreat.Oct

theorem step_append_opts {P : Program} (w : World) {ops : Array Oper} {o : Oper} {a : Act} {K : Act → World → Prop} {Q : Exit → Act → World → Prop} {E : Prop} (hgd : o.guard = none) (s x : Operand) (t : TypeId)
    (ho : o.op = .call { callee := .builtin .append, args := #[s, x], argTypes := #[t, t] })
    (base : Nat) (e : TypeId) (i : TypeInfo) (z : Value) (bytes : Nat) (ht : P.underlying t = some (.slice e)) (hi : P.info? e = some i) (hz : i.zero = some z)
    (hsize : i.size = 2) (hby : i.bytes = bytes) (hzs : z.cells.size = 2)
    (v : Value) (n : Nat) (k : List Opt) (hs : a.eval s = v) (hown : w.ownsRow base e 2 v n (optsV k))
    (B : Nat) (A : Option Addr) (m c : Nat) (l : List Opt) (hA : A = none → c = 0) (hx : a.eval x = .slice A m c) (hl : Opts w B A m l)
    (h63 : n + m ≤ maxLen) (hbytes : (n + m) * bytes ≤ 140737488355328) (hbase : base ≤ w.heap.size)
    (h : ∀ v' w', w'.ownsRow base e 2 v' (n + m) (optsV (k ++ l)) → w.grownBy w' v.ownBlock → K (a.put o.dst v') w') :
    if Region.wanted o (yielded ops a.tmps) = true then Oper.wp P o a w K Q else E := by
  have hlen := hl.1
  cases A with
  | none =>
    have hc := hA rfl
    subst hc
    have hm : m = 0 := by
      rcases Nat.eq_zero_or_pos m with h0 | h0
      · exact h0
      · obtain ⟨ad, e', _⟩ := hl.2.2 h0
        cases e'
    subst hm
    have hnil : l = [] := List.eq_nil_of_length_eq_zero hlen
    subst hnil
    have hw : Region.wanted o (yielded ops a.tmps) = true := by simp [Region.wanted, hgd]
    rw [if_pos hw]
    have hr := run_append_owned_none (P := P) (w := w) base t o.type e i 2 ht hi v n (optsV k) hown
    unfold Oper.wp execOp
    simp only [ho, resolve, invoke, builtin, Sem.run_bind, Sem.run_pure, Result.andThen_ok, List.map_toArray, List.map_cons, List.map_nil, hs, hx, hr]
    exact h v w (by rw [List.append_nil]; exact hown) ⟨rfl, rfl, rfl, Nat.le_refl _, fun _ _ _ => rfl⟩
  | some ad =>
    exact Row.step_append_any w hgd s x t ho base e i z 2 bytes ht hi hz hsize hby hzs (by decide) v n (optsV k) hs hown ad m c (optsV l) hx (by rw [optsV_length, hlen]) (opts_cells hl) (optsV_ones _) h63 hbytes hbase (fun v' w' h1 h2 _ => h v' w' (by rw [optsV_append]; exact h1) h2)
/-- A row's length is within its capacity. -/
theorem cap_of {H : Type} {enc : TypeId × Value → H} {P : Program} {W : World} {t e : TypeId} {A : Option Addr} {n c : Nat} {d : DataW H} {p : List MemPlace} (ht : P.underlying t = some (.slice e)) (h : DataW.Trod enc P W 0 (fun _ => true) true t (.slice A n c) d p) : n ≤ c := by
  obtain ⟨fuel, hf⟩ := h
  rcases open_slice ht hf with ⟨hcs, hx⟩ | ⟨a, len', cap', m, k, D, Pl, hcs, _, hl, hm, hmm, hx, hi⟩
  · simp [Value.cells] at hcs
    obtain ⟨rfl, rfl, rfl⟩ := hcs
    exact Nat.le_refl _
  · simp [Value.cells] at hcs
    obtain ⟨rfl, rfl, rfl⟩ := hcs
    omega
/-- l[q:]'s address. -/
def restA (A : Option Addr) (c q : Nat) : Option Addr := if c = q then A else A.map (·.add (q * 2))
theorem add_zero' (a : Addr) : a.add 0 = a := by unfold Addr.add; rw [if_pos rfl]
theorem run_front {P : Program} (t : TypeId) (ht : P.underlying t = some (.slice (P.elem t))) (hs : ∀ W, (sizeOf (P.elem t)).run P W = .ok 2 W) (A : Option Addr) (n c q : Nat) (hq : q ≤ c) (W : World) :
    (Instr.slice t (.slice A n c) none (some (.int .i64 (q : Nat))) none).run P W = .ok (.slice A q c) W := by
  rw [run_slice_h W t A n c ht .i64 (q : Int) (by omega) (by omega), hs]
  show Result.ok (sliced A 0 (q : Int).toNat c 2) W = _
  unfold sliced
  have e : (A.map fun a => a.add (0 * 2)) = A := by
    cases A with
    | none => rfl
    | some a => rw [Option.map_some, Nat.zero_mul, add_zero']
  rw [e]
  simp
theorem run_rest {P : Program} (t : TypeId) (ht : P.underlying t = some (.slice (P.elem t))) (hs : ∀ W, (sizeOf (P.elem t)).run P W = .ok 2 W) (A : Option Addr) (n c q : Nat) (hq : q ≤ n) (hn : n ≤ c) (W : World) :
    (Instr.slice t (.slice A n c) (some (.int .i64 (q : Nat))) none none).run P W = .ok (.slice (restA A c q) (n - q) (c - q)) W := by
  rw [run_slice_l W t A n c ht .i64 (q : Int) (by omega) (by omega), hs]
  show Result.ok (sliced A (q : Int).toNat n c 2) W = _
  unfold sliced restA
  simp
theorem opts_rest {w : World} {B n c q : Nat} {A : Option Addr} {l : List Opt} (h : Opts w B A n l) (hA : A = none → c = 0) (hq : q ≤ n) (hn : n ≤ c) : Opts w B (restA A c q) (n - q) (l.drop q) ∧ (restA A c q = none → c - q = 0) := by
  unfold restA
  by_cases hc : c = q
  · rw [if_pos hc]
    refine ⟨⟨by rw [List.length_drop, h.1], fun o ho => h.2.1 o (List.mem_of_mem_drop ho), fun h0 => by omega⟩, fun _ => by omega⟩
  · rw [if_neg hc]
    cases A with
    | none => have := hA rfl; omega
    | some ad =>
      refine ⟨⟨by rw [List.length_drop, h.1], fun o ho => h.2.1 o (List.mem_of_mem_drop ho), fun h0 => ?_⟩, fun e => by cases e⟩
      obtain ⟨ad', e, hB, hc'⟩ := h.2.2 (by omega)
      cases e
      refine ⟨_, rfl, by rw [Oct.block_add]; exact hB, fun j hj => ?_⟩
      have hj' : q + j < l.length := by rw [List.length_drop] at hj; omega
      have := hc' (q + j) hj'
      rw [List.getElem_drop, add_add, show q * 2 + j * 2 = (q + j) * 2 by omega]
      exact this
end Go.Proofs.YtgefodpnhifmdaaGreat.Opt
