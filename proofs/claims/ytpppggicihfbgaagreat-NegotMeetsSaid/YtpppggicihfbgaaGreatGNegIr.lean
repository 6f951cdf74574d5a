/- Put together: NegIr, NegQ. -/
import Derived.Test.YtpppggicihfbgaaGreatGNegR
import Derived.Test.YtpppggicihfbgaaGreatGNegU
import Derived.Test.YtpppggicihfbgaaGreatGNegIp
import Derived.Test.YtpppggicihfbgaaGreatGIppCa
import Derived.Test.YtpppggicihfbgaaGreatGIppI
import Derived.Test.YtpppggicihfbgaaGreatGIppBa

/- What IPCP's policies do besides: requests that are judged, replies that are taken. -/
namespace Go.Proofs.YtpppggicihfbgaaGreat.Neg
open Go.RowKit Go.Proofs.YtpppggicihfbgaaGreat.Oct Go.Proofs.YtpppggicihfbgaaGreat.Row Go.Proofs.YtpppggicihfbgaaGreat.Mem Go.Proofs.YtpppggicihfbgaaGreat.Opt

end Go.Proofs.YtpppggicihfbgaaGreat.Neg

/- Two sides that are joined: what each makes of what the other one sends, packet by packet, in whatever order they are served; two sides of IPCP. -/
namespace Go.Proofs.YtpppggicihfbgaaGreat.Neg
open Go.RowKit Go.Proofs.YtpppggicihfbgaaGreat.Oct Go.Proofs.YtpppggicihfbgaaGreat.Row Go.Proofs.YtpppggicihfbgaaGreat.Mem Go.Proofs.YtpppggicihfbgaaGreat.Opt Go.Proofs.YtpppggicihfbgaaGreat.Fsm
open Go.Proofs.YtpppggicihfbgaaGreat.Aut (Au Aut Inv evA evE evX)

structure Net (K : Kd) where
  N : Nat
  hN : N ≤ 7 ∧ 1 ≤ N
  SA : Nat → Sd K
  SB : Nat → Sd K
  OA : List Pk
  OB : List Pk
  sA : Nat → Nat
  sB : Nat → Nat
  lA : OA.length = N
  lB : OB.length = N
  mA : ∀ i, i < N → sA i ≤ sA (i + 1) ∧ sA (i + 1) ≤ N
  mB : ∀ i, i < N → sB i ≤ sB (i + 1) ∧ sB (i + 1) ≤ N
  a0 : sA 0 = 1
  b0 : sB 0 = 1
  hA : ∀ i (h : i < OB.length) d, Gets K (SA i) (SA (i + 1)) OB[i] ((OA.drop (sA i)).take (sA (i + 1) - sA i)) d
  hB : ∀ i (h : i < OA.length) d, Gets K (SB i) (SB (i + 1)) OA[i] ((OB.drop (sB i)).take (sB (i + 1) - sB i)) d
  live : ∀ i j, i ≤ N → j ≤ N → i = sB j → j = sA i → i = N ∧ j = N

theorem net_three {K : Kd} (a0 a1 a2 a3 b0 b1 b2 b3 : Sd K) (ra rep acka rb ackb rb2 : Pk)
    (hA1 : ∀ d, Gets K a0 a1 rb [rep] d) (hA2 : ∀ d, Gets K a1 a2 ackb [] d) (hA3 : ∀ d, Gets K a2 a3 rb2 [acka] d)
    (hB1 : ∀ d, Gets K b0 b1 ra [ackb] d) (hB2 : ∀ d, Gets K b1 b2 rep [rb2] d) (hB3 : ∀ d, Gets K b2 b3 acka [] d) :
    ∃ T : Net K, T.SA 0 = a0 ∧ T.SB 0 = b0 ∧ T.SA T.N = a3 ∧ T.SB T.N = b3 ∧ T.OA.take 1 = [ra] ∧ T.OB.take 1 = [rb] := by
  refine ⟨⟨3, by decide, fun i => match i with | 0 => a0 | 1 => a1 | 2 => a2 | _ => a3, fun i => match i with | 0 => b0 | 1 => b1 | 2 => b2 | _ => b3, [ra, rep, acka], [rb, ackb, rb2],
    fun i => match i with | 0 => 1 | 1 => 2 | 2 => 2 | _ => 3, fun i => match i with | 0 => 1 | 1 => 2 | 2 => 3 | _ => 3, rfl, rfl, ?_, ?_, rfl, rfl, ?_, ?_, ?_⟩, rfl, rfl, rfl, rfl, rfl, rfl⟩
  · intro i h
    match i, h with
    | 0, _ => decide
    | 1, _ => decide
    | 2, _ => decide
  · intro i h
    match i, h with
    | 0, _ => decide
    | 1, _ => decide
    | 2, _ => decide
  · intro i h d
    match i, h with
    | 0, _ => exact hA1 d
    | 1, _ => exact hA2 d
    | 2, _ => exact hA3 d
  · intro i h d
    match i, h with
    | 0, _ => exact hB1 d
    | 1, _ => exact hB2 d
    | 2, _ => exact hB3 d
  · intro i j hi hj
    match i, hi, j, hj with
    | 0, _, 0, _ => simp
    | 0, _, 1, _ => simp
    | 0, _, 2, _ => simp
    | 0, _, 3, _ => simp
    | 1, _, 0, _ => simp
    | 1, _, 1, _ => simp
    | 1, _, 2, _ => simp
    | 1, _, 3, _ => simp
    | 2, _, 0, _ => simp
    | 2, _, 1, _ => simp
    | 2, _, 2, _ => simp
    | 2, _, 3, _ => simp
    | 3, _, 0, _ => simp
    | 3, _, 1, _ => simp
    | 3, _, 2, _ => simp
    | 3, _, 3, _ => simp

/-! ### IPCP -/

end Go.Proofs.YtpppggicihfbgaaGreat.Neg
