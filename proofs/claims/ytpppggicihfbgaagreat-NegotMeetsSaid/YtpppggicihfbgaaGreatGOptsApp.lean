/- Put together: OptsApp, OptsStep. -/
import Derived.Test.YtpppggicihfbgaaGreatGOpts
import Derived.OwnWalk
import Derived.Laws.AppendOwnNone
import Derived.Test.YtpppggicihfbgaaGreatGRow
import Derived.Laws.OwnMore
import Derived.Laws.Slices
import Derived.Deep.Slices
import Derived.ProofKit

/- An append of a row of options to a row of the call's own: the one that is appended may be nil. Of no program. -/
namespace Go.Proofs.YtpppggicihfbgaaGreat.Opt
open Go.RowKit Go.Proofs.YtpppggicihfbgaaGreat.Oct

theorem append_opts {P : Program} {w : World} {ops : Array Oper} {rest : List Oper} {o : Oper} {a : Act} {Q : Exit → Act → World → Prop} (hgd : o.guard = none) (s x : Operand) (t : TypeId)
    (ho : o.op = .call { callee := .builtin .append, args := #[s, x], argTypes := #[t, t] })
    (base : Nat) (e : TypeId) (i : TypeInfo) (z : Value) (bytes : Nat) (ht : P.underlying t = some (.slice e)) (hi : P.info? e = some i) (hz : i.zero = some z) (hsize : i.size = 2) (hby : i.bytes = bytes) (hzs : z.cells.size = 2)
    (v : Value) (n : Nat) (k : List Opt) (hs : a.eval s = v) (hown : w.ownsRow base e 2 v n (optsV k)) (B : Nat) (A : Option Addr) (m c : Nat) (l : List Opt) (hA : A = none → c = 0) (hx : a.eval x = .slice A m c) (hl : Opts w B A m l)
    (h63 : n + m ≤ maxLen) (hbytes : (n + m) * bytes ≤ 140737488355328) (hbase : base ≤ w.heap.size)
    (h : ∀ v' w', w'.ownsRow base e 2 v' (n + m) (optsV (k ++ l)) → w.grownBy w' v.ownBlock → wpList P ops Q rest (a.put o.dst v') w') : wpList P ops Q (o :: rest) a w := by
  have hlen := hl.1
  cases A with
  | none =>
    have hc := hA rfl
    subst hc
    have hm : m = 0 := by
      rcases Nat.eq_zero_or_pos m with h0 | h0
      · exact h0
      · obtain ⟨ad, e', _⟩ := hl.2.2 h0
        cases e'
    subst hm
    have hnil : l = [] := List.eq_nil_of_length_eq_zero hlen
    subst hnil
    refine wpList_append_own_none hgd s x t ho base e i 2 ht hi v n (optsV k) hs hown hx (h v w ?_ ?_)
    · rw [List.append_nil]; exact hown
    · exact ⟨rfl, rfl, rfl, Nat.le_refl _, fun _ _ _ => rfl⟩
  | some ad =>
    refine wpList_append_own w hgd s x t ho base e i z 2 bytes ht hi hz hsize hby hzs (by decide) v n (optsV k) hs hown ad m c (optsV l) hx (by rw [optsV_length, hlen]) (opts_cells hl) (optsV_ones l) h63 hbytes hbase (fun v' w' h1 h2 _ => h v' w' (by rw [optsV_append]; exact h1) h2)
end Go.Proofs.YtpppggicihfbgaaGreat.Opt

/- Parts of a row of options: l[:q], l[q:]; an append of such a part in a region that draws its order. Of no program. -/
namespace Go.Proofs.YtpppggicihfbgaaGreat.Opt
open Go.ChangeShapes Go.WideShapes Go.ChangeAt Go.RowKit Go.Joins Go.Deep Go.Proofs.YtpppggicihfbgaaGreat.Oct

end Go.Proofs.YtpppggicihfbgaaGreat.Opt
