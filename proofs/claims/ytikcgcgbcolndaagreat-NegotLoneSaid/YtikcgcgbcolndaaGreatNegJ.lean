/- A side of IPCP that is opened, and up, to which nothing comes: numbers. -/
import Derived.Test.YtikcgcgbcolndaaGreatNegH
namespace Go.Proofs.YtikcgcgbcolndaaGreat.Neg
open Go.RowKit Go.Proofs.YtikcgcgbcolndaaGreat.Oct Go.Proofs.YtikcgcgbcolndaaGreat.Row Go.Proofs.YtikcgcgbcolndaaGreat.Mem Go.Proofs.YtikcgcgbcolndaaGreat.Opt Go.Proofs.YtikcgcgbcolndaaGreat.Fsm
open Go.Proofs.YtikcgcgbcolndaaGreat.Aut (Au Aut Inv evA evE evX tk tkS tev)

/-- The automaton after so many events. -/
def x0 (r mc mt : Nat) : Au := ⟨r, mc, mt, 0, 0, 0⟩
def x1 (r mc mt : Nat) : Au := ⟨r, mc, mt, 1, 0, 0⟩
def x6 (r mc mt c l : Nat) : Au := ⟨r, mc, mt, 6, c, l⟩
theorem tab1 : nE 0 2 = 0 ∧ nA 0 2 = 4 ∧ nN 0 2 = 1 ∧ nE 1 0 = 0 ∧ nA 1 0 = 80 ∧ nN 1 0 = 6 := by decide +kernel
theorem tab2 : nE 6 4 = 0 ∧ nA 6 4 = 64 ∧ nN 6 4 = 6 ∧ nE 6 5 = 0 ∧ nA 6 5 = 8 ∧ nN 6 5 = 3 := by decide +kernel
theorem tab3 : nE 6 10 = 0 ∧ nA 6 10 = 1024 ∧ nN 6 10 = 6 ∧ nE 6 12 = 0 ∧ nA 6 12 = 2048 ∧ nN 6 12 = 6 := by decide +kernel
theorem may_of {r mc mt : Nat} (h : Aut.may r mc mt = true) : 1 ≤ r ∧ r ≤ 1000 ∧ 1 ≤ mc ∧ mc ≤ 20 ∧ 1 ≤ mt ∧ mt ≤ 20 := by
  simp only [Aut.may, Aut.ok, Bool.and_eq_true, decide_eq_true_eq] at h
  omega
theorem x0_inv {r mc mt : Nat} (h : Aut.may r mc mt = true) : Inv (x0 r mc mt) := by
  obtain ⟨h1, h2, h3, h4, h5, h6⟩ := may_of h
  exact ⟨h1, h2, h3, h4, h5, h6, (show 0 < 10 by decide), Nat.zero_le _, Nat.zero_le _, rfl⟩
theorem x6_inv {r mc mt c l : Nat} (h : Aut.may r mc mt = true) (hc : c ≤ mc) (hl : l ≤ r) (h0 : 0 < l) : Inv (x6 r mc mt c l) := by
  obtain ⟨h1, h2, h3, h4, h5, h6⟩ := may_of h
  refine ⟨h1, h2, h3, h4, h5, h6, by show 6 < 10; decide, ?_, hl, ?_⟩
  · show c ≤ max mc mt
    omega
  · show timed 6 = decide (0 < l)
    rw [decide_eq_true h0]
    rfl
theorem open_x (r mc mt : Nat) : evA (x0 r mc mt) 2 = 4 ∧ evE (x0 r mc mt) 2 = 0 ∧ evX (x0 r mc mt) 2 = x1 r mc mt := by
  obtain ⟨a, b, c, _⟩ := tab1
  refine ⟨b, a, ?_⟩
  show Aut.come (x0 r mc mt) 2 = _
  unfold Aut.come
  show (if nE 0 2 = 0 then Aut.fin (nN 0 2) (Aut.acts (nA 0 2) (x0 r mc mt)) else _) = _
  rw [if_pos a, b, c, Aut.acts_is]
  simp only [show has 4 16 = false by decide, show has 4 32 = false by decide, show has 4 64 = false by decide, show has 4 512 = false by decide]
  rfl
theorem up_x (r mc mt : Nat) : evA (x1 r mc mt) 0 = 80 ∧ evE (x1 r mc mt) 0 = 0 ∧ evX (x1 r mc mt) 0 = x6 r mc mt (mc - 1) r := by
  obtain ⟨_, _, _, a, b, c⟩ := tab1
  refine ⟨b, a, ?_⟩
  show Aut.come (x1 r mc mt) 0 = _
  unfold Aut.come
  show (if nE 1 0 = 0 then Aut.fin (nN 1 0) (Aut.acts (nA 1 0) (x1 r mc mt)) else _) = _
  rw [if_pos a, b, c, Aut.acts_is]
  simp only [show has 80 16 = true by decide, show has 80 32 = false by decide, show has 80 64 = true by decide, show has 80 512 = false by decide]
  rfl
theorem bits4 : bitsTo 4 13 = [4] := by decide
theorem bits80 : bitsTo 80 13 = [16, 64] := by decide
theorem bits64 : bitsTo 64 13 = [64] := by decide
theorem bits8 : bitsTo 8 13 = [8] := by decide
theorem bits0 : bitsTo 0 13 = [] := by decide
theorem bits1024 : bitsTo 1024 13 = [1024] := by decide
theorem bits2048 : bitsTo 2048 13 = [2048] := by decide
/-- The n-th request. -/
def rq (D : ByteArray) (n : Nat) : Pk := ⟨1, UInt8.ofNat (n + 1), D⟩
def rqs (D : ByteArray) (n : Nat) : List Pk := (List.range n).map (rq D)
theorem rqs_succ (D : ByteArray) (n : Nat) : rqs D (n + 1) = rqs D n ++ [rq D n] := by
  unfold rqs
  rw [List.range_succ, List.map_append]
  rfl
theorem rqs_len (D : ByteArray) (n : Nat) : (rqs D n).length = n := by unfold rqs; simp
/-- The side that sent n requests. -/
def s6 (K : Kd) (r mc mt c l n : Nat) (p : K.α) : Sd K := ⟨x6 r mc mt c l, p, 1500, n, true, n⟩
def s3 (K : Kd) (r mc mt n : Nat) (p : K.α) : Sd K := ⟨⟨r, mc, mt, 3, 0, 0⟩, p, 1500, n, true, n⟩
def reqD (K : Kd) (p : K.α) : ByteArray := bOf (enc (K.req p))
theorem open_s (K : Kd) (r mc mt : Nat) (p : K.α) (d : UInt32) : evS 2 d (newSd K r mc mt p) = ({ newSd K r mc mt p with x := x1 r mc mt }, []) := by
  obtain ⟨a, b, c⟩ := open_x r mc mt
  unfold evS
  show perL _ (bitsTo (evA (x0 r mc mt) 2) 13) _ = _
  rw [a, bits4]
  have e : ({ ren 2 d (newSd K r mc mt p) with x := evX (newSd K r mc mt p).x 2 } : Sd K) = { newSd K r mc mt p with x := x1 r mc mt } := by
    rw [show evX (newSd K r mc mt p).x 2 = x1 r mc mt from c]
    rfl
  rw [e]
  rfl
theorem up_s (K : Kd) (r mc mt : Nat) (p : K.α) (d : UInt32) : evS 0 d { newSd K r mc mt p with x := x1 r mc mt } = (s6 K r mc mt (mc - 1) r 1 (K.renew p d), rqs (reqD K (K.renew p d)) 1) := by
  obtain ⟨a, b, c⟩ := up_x r mc mt
  unfold evS
  show perL _ (bitsTo (evA (x1 r mc mt) 0) 13) _ = _
  rw [a, bits80]
  have e : ({ ren 0 d { newSd K r mc mt p with x := x1 r mc mt } with x := evX (x1 r mc mt) 0 } : Sd K) = { newSd K r mc mt (K.renew p d) with x := x6 r mc mt (mc - 1) r } := by
    rw [c]
    unfold ren
    have ha : anew (x1 r mc mt) 0 = true := by
      have e1 : (x1 r mc mt).s = 1 := rfl
      unfold anew
      rw [e1, tab1.2.2.2.2.1]
      decide
    rw [if_pos ha]
    rfl
  rw [e]
  rfl
/-- A tick. -/
theorem tick_on {r mc mt c l n : Nat} (K : Kd) (p : K.α) (d : UInt32) (hl : 1 < l) : tkS (x6 r mc mt c l) = 0 ∧ tkSd d (s6 K r mc mt c l n p) = (s6 K r mc mt c (l - 1) n p, []) := by
  have h1 : tkS (x6 r mc mt c l) = 0 := if_neg (by show ¬ l = 1; omega)
  refine ⟨h1, ?_⟩
  unfold tkSd
  show perL _ (bitsTo (tkS (x6 r mc mt c l)) 13) { s6 K r mc mt c l n p with x := tk (x6 r mc mt c l) } = _
  have h2 : tk (x6 r mc mt c l) = x6 r mc mt c (l - 1) := by
    unfold tk
    rw [if_neg (by show ¬ l = 0; omega), if_neg (by show ¬ l = 1; omega)]
    rfl
  rw [h1, bits0, h2]
  rfl
theorem tick_send {r mc mt c n : Nat} (K : Kd) (p : K.α) (d : UInt32) (h : Aut.may r mc mt = true) (hc : c ≤ mc) (h0 : c ≠ 0) (hn : n < 255) : tkS (x6 r mc mt c 1) = 64 ∧ tkSd d (s6 K r mc mt c 1 n p) = (s6 K r mc mt (c - 1) r (n + 1) p, [rq (reqD K p) n]) := by
  have hi := x6_inv (l := 1) h hc (may_of h).1 (by decide)
  obtain ⟨_, he, _⟩ := Aut.expire hi rfl r
  have ht : tev (x6 r mc mt c 1) = 4 := if_neg h0
  have h1 : tkS (x6 r mc mt c 1) = 64 := by
    unfold tkS
    rw [if_pos (show (x6 r mc mt c 1).l = 1 from rfl), ht]
    exact tab2.2.1
  have h2 : tk (x6 r mc mt c 1) = x6 r mc mt (c - 1) r := by
    unfold tk
    rw [if_neg (show ¬ (x6 r mc mt c 1).l = 0 from (by show ¬ 1 = 0; decide)), if_pos (show (x6 r mc mt c 1).l = 1 from rfl)]
    refine ((he h0).2).trans ?_
    show (⟨r, mc, mt, nN 6 4, c - 1, r⟩ : Au) = _
    rw [tab2.2.2.1]
    rfl
  refine ⟨h1, ?_⟩
  unfold tkSd
  show perL _ (bitsTo (tkS (x6 r mc mt c 1)) 13) { s6 K r mc mt c 1 n p with x := tk (x6 r mc mt c 1) } = _
  rw [h1, bits64, h2]
  show (asks ({ s6 K r mc mt c 1 n p with x := x6 r mc mt (c - 1) r } : Sd K), [(⟨1, UInt8.ofNat ((n + 1) % 256), reqD K p⟩ : Pk)]) = _
  unfold asks
  show (({ s6 K r mc mt c 1 n p with x := x6 r mc mt (c - 1) r, cnt := (n + 1) % 256, asked := true, last := (n + 1) % 256 } : Sd K), [(⟨1, UInt8.ofNat ((n + 1) % 256), reqD K p⟩ : Pk)]) = _
  rw [Nat.mod_eq_of_lt (by omega : n + 1 < 256)]
  rfl
theorem tick_end {r mc mt n : Nat} (K : Kd) (p : K.α) (d : UInt32) (h : Aut.may r mc mt = true) : tkS (x6 r mc mt 0 1) = 8 ∧ tkSd d (s6 K r mc mt 0 1 n p) = (s3 K r mc mt n p, []) := by
  have hi := x6_inv (l := 1) (c := 0) h (Nat.zero_le _) (may_of h).1 (by decide)
  obtain ⟨_, _, he⟩ := Aut.expire hi rfl r
  have ht : tev (x6 r mc mt 0 1) = 5 := if_pos rfl
  have h1 : tkS (x6 r mc mt 0 1) = 8 := (he rfl).1
  have h2 : tk (x6 r mc mt 0 1) = ⟨r, mc, mt, 3, 0, 0⟩ := by
    unfold tk
    rw [if_neg (show ¬ (x6 r mc mt 0 1).l = 0 from (by show ¬ 1 = 0; decide)), if_pos (show (x6 r mc mt 0 1).l = 1 from rfl)]
    refine ((he rfl).2).trans ?_
    show (⟨r, mc, mt, nN 6 5, 0, 0⟩ : Au) = _
    rw [tab2.2.2.2.2.2]
  refine ⟨h1, ?_⟩
  unfold tkSd
  show perL _ (bitsTo (tkS (x6 r mc mt 0 1)) 13) { s6 K r mc mt 0 1 n p with x := tk (x6 r mc mt 0 1) } = _
  rw [h1, bits8, h2]
  rfl
theorem tick_off {r mc mt n : Nat} (K : Kd) (p : K.α) (d : UInt32) : tkS (⟨r, mc, mt, 3, 0, 0⟩ : Au) = 0 ∧ tkSd d (s3 K r mc mt n p) = (s3 K r mc mt n p, []) := by
  refine ⟨rfl, ?_⟩
  unfold tkSd
  show perL _ (bitsTo 0 13) _ = _
  rw [bits0]
  rfl
end Go.Proofs.YtikcgcgbcolndaaGreat.Neg
