/- Acknowledgements that were sent, and came. -/
import Derived.Test.YtiglblmedaanpaaFsmJ
namespace Go.Proofs.Ytiglblmedaanpaa.Fsm
open Go.RowKit Go.Proofs.Ytiglblmedaanpaa.Oct Go.Proofs.Ytiglblmedaanpaa.Row Go.Proofs.Ytiglblmedaanpaa.Mem

def cameF (k8 h64 c : Bool) : Bool := bif h64 then false else (bif k8 then true else c)
def sentF (k6 k7 h128 h2 t : Bool) : Bool := bif h2 && !h128 then false else (bif h128 then true else (bif k6 || k7 then false else t))
/-- What is known of acknowledgements in a state. -/
def inv (s : Nat) (t c : Bool) : Bool := (!(decide (s = 8) || decide (s = 9)) || t) && (!(decide (s = 7) || decide (s = 9)) || c)
/-- Which kinds of steps there are. -/
def kinds (k6 k7 k8 h64 h128 h2 n9 : Bool) : Bool :=
  bif k6 then !k7 && !k8 && (bif h128 then (bif n9 then !h64 && !h2 else (h64 || !h2)) else !h64 && !h2 && !n9)
  else !h128 && (bif k7 then !k8 && !n9 && (h64 || !h2) else (bif k8 then (bif n9 then !h64 && !h2 else (h64 || !h2)) else (bif n9 then !h64 && !h2 else true)))
def bothOk (e s : Nat) (t c : Bool) : Bool :=
  let x := at_ e s
  let t' := sentF (decide (e = 6)) (decide (e = 7)) (has x.a 128) (has x.a 2) t
  let c' := cameF (decide (e = 8)) (has x.a 64) c
  !x.c || !inv s t c || (decide (x.n < 10) && decide (x.a < 65536) && kinds (decide (e = 6)) (decide (e = 7)) (decide (e = 8)) (has x.a 64) (has x.a 128) (has x.a 2) (decide (x.n = 9)) && (!decide (x.n = 9) || (t' && c')) && inv x.n t' c')
theorem both_ok : ∀ e, e < 16 → ∀ s, s < 10 → ∀ t c : Bool, bothOk e s t c = true := by decide +kernel
theorem both_spec {e s a n : Nat} {t c : Bool} (he : e < 16) (hs : s < 10) (h : at_ e s = ⟨a, n, true⟩) (hi : inv s t c = true) :
    n < 10 ∧ a < 65536 ∧ kinds (decide (e = 6)) (decide (e = 7)) (decide (e = 8)) (has a 64) (has a 128) (has a 2) (decide (n = 9)) = true ∧
    (!decide (n = 9) || (sentF (decide (e = 6)) (decide (e = 7)) (has a 128) (has a 2) t && cameF (decide (e = 8)) (has a 64) c)) = true ∧
    inv n (sentF (decide (e = 6)) (decide (e = 7)) (has a 128) (has a 2) t) (cameF (decide (e = 8)) (has a 64) c) = true := by
  have h1 := both_ok e he s hs t c
  unfold bothOk at h1
  rw [h, hi] at h1
  simp only [Bool.not_true, Bool.false_or, Bool.and_eq_true, decide_eq_true_eq] at h1
  obtain ⟨⟨⟨⟨h2, h3⟩, h4⟩, h5⟩, h6⟩ := h1
  exact ⟨h2, h3, h4, h5, h6⟩
end Go.Proofs.Ytiglblmedaanpaa.Fsm
