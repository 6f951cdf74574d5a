/- What is received in pieces, and of frames: mathematics for the laws. -/
import Derived.Test.YtfcmpnfdgfdclaaHdlJ
import Derived.Laws.AppendOwnNone
namespace Go.Proofs.Ytfcmpnfdgfdclaa.Hdl
open Go.RowKit Go.Proofs.Ytfcmpnfdgfdclaa.Oct Go.Proofs.Ytfcmpnfdgfdclaa.Row Go.Proofs.Ytfcmpnfdgfdclaa.Esc Go.Proofs.Ytfcmpnfdgfdclaa.Fcs

/-- A piece of n bytes from i on, as far as there are any. -/
theorem take_piece (l : List UInt8) (i n : Nat) : l.take (i + n) = l.take i ++ (l.drop i).take n := by rw [List.take_add]
theorem extract_piece (s : ByteArray) (i n m : Nat) (hi : i ≤ s.size) (hm : m = min (i + n) s.size) : (s.extract i m).toList = (s.toList.drop i).take n := by
  rw [toList_extract]
  subst hm
  have hl := size_toList s
  by_cases h : i + n ≤ s.size
  · rw [show min (i + n) s.size - i = n by omega]
  · rw [show min (i + n) s.size - i = s.size - i by omega, List.take_of_length_le (by rw [List.length_drop]; omega), List.take_of_length_le (by rw [List.length_drop]; omega)]
theorem textsV_append (l m : List ByteArray) : textsV (l ++ m) = textsV l ++ textsV m := by simp [textsV]
theorem textsV_length (l : List ByteArray) : (textsV l).length = l.length := by simp [textsV]

/-- What holds at the head of a round over pieces: the receiver at ga has taken l, that at gb nothing, u has what was received. -/
def PieR (w : World) (ga gb : Nat) (r0 : St) (l : List UInt8) (u : Value) (wr : World) : Prop :=
  ∃ va, Recv wr w.heap.size ga (feeds r0 l) va ∧ Recv wr w.heap.size gb r0 (.slice none 0 0) ∧ Below w.heap.size w wr ∧ Texts wr w.heap.size u (outs r0 l)
theorem pie_none {w wr w1 : World} {ga gb : Nat} {r0 : St} {l m : List UInt8} {u va v1 : Value} (hg : gb ≠ ga) (hRa : Recv wr w.heap.size ga (feeds r0 l) va) (hRb : Recv wr w.heap.size gb r0 (.slice none 0 0)) (hB : Below w.heap.size w wr) (hT : Texts wr w.heap.size u (outs r0 l))
    (h0 : (outs (feeds r0 l) m).length = 0) (hR1 : Recv w1 w.heap.size ga (feeds (feeds r0 l) m) v1) (hM : Moves (Foot ga va) wr w1) : PieR w ga gb r0 (l ++ m) u w1 := by
  have h0' := List.eq_nil_of_length_eq_zero h0
  refine ⟨v1, by rw [feeds_append]; exact hR1, hRb.past hRa hg (fun k hk => by cases hk) hM, hB.trans (hM.below hB.size fun k hk => (hRa.low k hk).1), ?_⟩
  rw [outs_append, h0', List.append_nil]
  exact hT.past hRa hM
theorem pie_some {w wr w1 w2 : World} {ga gb : Nat} {r0 : St} {l m : List UInt8} {u u2 va v1 : Value} (hg : gb ≠ ga) (hRa : Recv wr w.heap.size ga (feeds r0 l) va) (hRb : Recv wr w.heap.size gb r0 (.slice none 0 0)) (hB : Below w.heap.size w wr) (hT : Texts wr w.heap.size u (outs r0 l))
    (hR1 : Recv w1 w.heap.size ga (feeds (feeds r0 l) m) v1) (hM : Moves (Foot ga va) wr w1) (hgr : w1.grownBy w2 u.ownBlock) (hown : w2.ownsRow w.heap.size 9 1 u2 ((outs r0 l).length + (outs (feeds r0 l) m).length) (textsV (outs r0 l) ++ textsV (outs (feeds r0 l) m))) : PieR w ga gb r0 (l ++ m) u2 w2 := by
  have hT1 := hT.past hRa hM
  have hB1 := hB.trans (hM.below hB.size fun k hk => (hRa.low k hk).1)
  refine ⟨v1, by rw [feeds_append]; exact hR1.grown hT1 hgr, (hRb.past hRa hg (fun k hk => by cases hk) hM).grown hT1 hgr, hB1.grown hgr hB1.size (fun k hk => (hT1.lt k hk).1), ?_⟩
  unfold Texts
  rw [outs_append, List.length_append, textsV_append]
  exact hown
end Go.Proofs.Ytfcmpnfdgfdclaa.Hdl
