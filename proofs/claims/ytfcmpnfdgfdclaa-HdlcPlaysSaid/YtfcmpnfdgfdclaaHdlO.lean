/- Two receivers beside each other: what the one leaves of the other. -/
import Derived.Test.YtfcmpnfdgfdclaaHdlN
namespace Go.Proofs.Ytfcmpnfdgfdclaa.Hdl
open Go.RowKit Go.Proofs.Ytfcmpnfdgfdclaa.Oct Go.Proofs.Ytfcmpnfdgfdclaa.Row Go.Proofs.Ytfcmpnfdgfdclaa.Esc Go.Proofs.Ytfcmpnfdgfdclaa.Fcs

theorem cells_type {w : World} {b : Nat} {cs cs' : Array Value} {t t' : TypeId} {m m' : Nat × Nat} (h : w.heap[b]? = some (.cells cs t m)) (h' : w.heap[b]? = some (.cells cs' t' m')) : t = t' := by
  have := h.symm.trans h'
  simp at this
  exact this.2.1
theorem cells_past {w w1 : World} {n g b : Nat} {r : St} {v : Value} {cs : Array Value} {t : TypeId} {m : Nat × Nat} (h : w.heap[b]? = some (.cells cs t m)) (h1 : t ≠ 66) (h2 : t ≠ 5) (hR : Recv w n g r v) (hM : Moves (Foot g v) w w1) : w1.heap[b]? = some (.cells cs t m) :=
  (hM.block b (Array.getElem?_eq_some_iff.1 h).1 (by
    rintro (e | e)
    · subst e; exact h1 (cells_type h hR.2.1)
    · exact cells_not_row h h2 hR.2.2 e)).trans h
theorem cells_pastd {w w1 : World} {gd b : Nat} {r : St} {cs : Array Value} {t : TypeId} {m : Nat × Nat} (h : w.heap[b]? = some (.cells cs t m)) (h1 : t ≠ 41) (hD : Doc w gd r) (hM : Moves (fun k => k = gd) w w1) : w1.heap[b]? = some (.cells cs t m) :=
  (hM.block b (Array.getElem?_eq_some_iff.1 h).1 (by
    intro e
    subst e; exact h1 (cells_type h hD))).trans h
theorem recv_pastd {w w1 : World} {n g gd : Nat} {r r' : St} {v : Value} (hR : Recv w n g r v) (hD : Doc w gd r') (hM : Moves (fun k => k = gd) w w1) : Recv w1 n g r v :=
  hR.stays hM (by
    rintro k (rfl | hk) e
    · subst e; exact absurd (cells_type hR.2.1 hD) (by decide)
    · subst e; exact cells_not_row hD (by decide) hR.2.2 hk)
theorem texts_pastd {w w1 : World} {gd base : Nat} {r' : St} {u : Value} {l : List ByteArray} (hT : Texts w base u l) (hD : Doc w gd r') (hM : Moves (fun k => k = gd) w w1) : Texts w1 base u l :=
  hM.row hT (fun k hk e => by subst e; exact cells_not_row hD (by decide) hT hk)

/-- The condition on the world may be made stronger on the way. -/
theorem wpAnyH_mono {P : Program} {md : Region.Mode} {ops : Array Oper} {Q : Exit → Act → World → Prop} {S S2 : World → Prop} (h : ∀ w, S2 w → S w) : ∀ (fuel : Nat) (listed : Array Bool) (a : Act) (w : World), wpAnyH P md ops Q S2 fuel listed a w → wpAnyH P md ops Q S fuel listed a w
  | 0, _, _, _, k => k
  | fuel + 1, _, _, _, k => ⟨k.1, fun i hi => wpOp_mono (fun a' w' h' => ⟨h w' h'.1, wpAnyH_mono h fuel _ a' w' h'.2⟩) (k.2 i hi)⟩

/-- What holds at the head of a step: both receivers are at r. -/
def PlayR (w : World) (gd g : Nat) (r : St) (v : Value) (N : Nat) (wr : World) : Prop :=
  Recv wr w.heap.size g r v ∧ Doc wr gd r ∧ Inv r ∧ Small r N ∧ r.piece.length ≤ N ∧ Below w.heap.size w wr ∧ w.heap.size ≤ gd
/-- The step's own block. -/
def Own43 (wr : World) (b : Nat) (S : ByteArray) (st : Bool) (m : Int) (a : Nat) (cp : Bool) : Prop := wr.heap[b]? = some (.cells #[.string S, .bool st, .int .i64 m, .int .u32 a, .bool cp] 43 (0, 0))
theorem PlayR.mono {w : World} {gd g : Nat} {r : St} {v : Value} {N : Nat} {wr w' : World} (h : PlayR w gd g r v N wr) (hb : Below wr.heap.size wr w') : PlayR w gd g r v N w' := by
  obtain ⟨h1, h2, h3, h4, h5, h6, h7⟩ := h
  exact ⟨h1.below hb, h2.below hb, h3, h4, h5, h6.trans (hb.mono h6.size), h7⟩

def RPushQ (g : Nat) (r : St) (l : List UInt8) (w : World) (e : Ending) (w' : World) : Prop :=
  ∃ A c, e = .returned (.slice A (outs r l).length c) ∧ Texts w' w.heap.size (.slice A (outs r l).length c) (outs r l) ∧ Doc w' g (feeds r l) ∧ Moves (fun k => k = g) w w'
theorem rpush_q (g : Nat) (r : St) (s : ByteArray) (w : World) (hD : Doc w g r) (hI : Inv r) (N : Nat) (hN : Small r N) (hN2 : N + s.size ≤ 1000000000) (hp : r.piece.length + s.size ≤ 1048576) :
    Calls Try.prog 19 #[.pointer (some ⟨g, 0, none⟩), .string s] w (RPushQ g r s.toList w) :=
  (rpush_any g r s w hD hI N hN hN2 hp).mono fun e w' ⟨u, he, ho, h1, h2⟩ => by
    obtain ⟨A, c, rfl⟩ := own_slice ho
    exact ⟨A, c, he, ho, h1, h2⟩
/-- Behind a Set that is taken. -/
theorem play_set {w : World} {gd g : Nat} {r : St} {v : Value} {N : Nat} {wr w1 : World} {m a : Nat} (h : PlayR w gd g r v N wr) (hR : Recv w1 w.heap.size g (r.sets m a) v) (hM : Moves (Foot g v) wr w1) (h1 : 2 ≤ m) (h2 : m ≤ 1508) (ha : a < 4294967296) :
    PlayR w gd g (r.sets m a) v N ((w1.setCell ⟨gd, 0, none⟩ (.int .i64 m)).setCell ⟨gd, 1, none⟩ (.int .u32 a)) := by
  obtain ⟨p1, p2, p3, p4, p5, p6, p7⟩ := h
  have hD1 : Doc w1 gd r := cells_past p2 (by decide) (by decide) p1 hM
  have hM2 : Moves (fun k => k = gd) w1 ((w1.setCell ⟨gd, 0, none⟩ (.int .i64 m)).setCell ⟨gd, 1, none⟩ (.int .u32 a)) := ((Moves.refl (fun k => k = gd) w1).setCell ⟨gd, 0, none⟩ (fun _ => rfl) _).setCell ⟨gd, 1, none⟩ (fun _ => rfl) _
  have hB1 : Below w.heap.size w w1 := p6.trans (hM.below p6.size fun k hk => (p1.low k hk).1)
  refine ⟨recv_pastd hR hD1 hM2, ?_, sets_inv p3 h1 h2 ha, p4, p5, hB1.trans (hM2.below hB1.size fun k hk => by omega), p7⟩
  unfold Doc
  rw [cells_set (cells_set hD1 _) _]
  rfl
end Go.Proofs.Ytfcmpnfdgfdclaa.Hdl
