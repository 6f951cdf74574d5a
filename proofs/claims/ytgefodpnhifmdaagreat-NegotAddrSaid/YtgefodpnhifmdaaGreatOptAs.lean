/- Contracts of the document's Same, Find, and of the laws' Long. -/
import Derived.Test.YtgefodpnhifmdaaGreatGOpts
import Derived.Test.YtgefodpnhifmdaaGreatGTxt
import Derived.Test.YtgefodpnhifmdaaGreatProg
import Derived.WalkKit
import Derived.WalkSpells
import Derived.WalkLawsBesides
import Derived.RegionTactic
import Derived.ChangeAlike
import Derived.Deep.QuietTactic
import Derived.Deep.Quiet
import Derived.BigQuiet
import Derived.Lib.Hide
namespace Go.Proofs.YtgefodpnhifmdaaGreat.Opt
open Go.RowKit Go.Proofs.YtgefodpnhifmdaaGreat.Oct Go.Proofs.YtgefodpnhifmdaaGreat.Row Go.Proofs.YtgefodpnhifmdaaGreat.Mem

/-- The data's bytes together. -/
def dat : List Opt → Nat
  | [] => 0
  | o :: l => o.2.size + dat l
theorem dat_append : ∀ l m : List Opt, dat (l ++ m) = dat l + dat m
  | [], m => by simp [dat]
  | o :: l, m => by rw [List.cons_append, dat, dat, dat_append l m]; omega
theorem dat_take (l : List Opt) (k : Nat) (o : Opt) (h : l[k]? = some o) : dat (l.take (k + 1)) = dat (l.take k) + o.2.size := by
  obtain ⟨hk, rfl⟩ := List.getElem?_eq_some_iff.1 h
  rw [List.take_succ_eq_append_getElem hk, dat_append]; rfl
theorem wt_dat : ∀ l : List Opt, wt l = 2 * l.length + dat l
  | [] => rfl
  | o :: l => by rw [wt, dat, wt_dat l, List.length_cons]; omega
theorem dat_mem : ∀ {l : List Opt} {o : Opt}, o ∈ l → o.2.size ≤ dat l
  | x :: l, o, h => by
    rw [dat]
    rcases List.mem_cons.1 h with rfl | h
    · omega
    · have := dat_mem h; omega

/-- Whether two rows are the same. -/
def sm (a b : List Opt) : Bool := decide (a = b)
theorem sm_self (a : List Opt) : sm a a = true := decide_eq_true rfl
theorem take_next {a b : List Opt} {k : Nat} {o o' : Opt} (h : a.take k = b.take k) (ha : a[k]? = some o) (hb : b[k]? = some o') (he : o = o') : a.take (k + 1) = b.take (k + 1) := by
  obtain ⟨h1, rfl⟩ := List.getElem?_eq_some_iff.1 ha
  obtain ⟨h2, rfl⟩ := List.getElem?_eq_some_iff.1 hb
  rw [List.take_succ_eq_append_getElem h1, List.take_succ_eq_append_getElem h2, h, he]
theorem sm_no {a b : List Opt} {k : Nat} {o o' : Opt} (ha : a[k]? = some o) (hb : b[k]? = some o') (he : ¬ o = o') : sm a b = false :=
  decide_eq_false fun e => he (by rw [e, hb] at ha; exact (Option.some.inj ha).symm)
theorem no_byte {c d : UInt8} (h : ¬ c = d) : ((c.toNat : Int) == (d.toNat : Int)) = false := by
  rw [beq_eq_false_iff_ne]
  intro e
  exact h (UInt8.toNat_inj.1 (by omega))
theorem no_text {s t : ByteArray} (h : ¬ s = t) : (s.toList == t.toList) = false := by
  rw [beq_toList]
  exact decide_eq_false fun e => h (toList_inj e)
end Go.Proofs.YtgefodpnhifmdaaGreat.Opt
