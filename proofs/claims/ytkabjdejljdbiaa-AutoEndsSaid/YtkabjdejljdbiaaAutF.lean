/- The document's automaton in memory; how an event comes to it. -/
import Derived.Test.YtkabjdejljdbiaaAutD
namespace Go.Proofs.Ytkabjdejljdbiaa.Aut
open Go.RowKit Go.Proofs.Ytkabjdejljdbiaa.Oct Go.Proofs.Ytkabjdejljdbiaa.Row Go.Proofs.Ytkabjdejljdbiaa.Mem Go.Proofs.Ytkabjdejljdbiaa.Fsm

/-- An automaton of the document in block g. -/
def RAut (w : World) (g : Nat) (x : Au) : Prop := Blk w g (av x) 42
theorem RAut.lt {w : World} {g : Nat} {x : Au} (h : RAut w g x) : g < w.heap.size := Blk.lt h
theorem RAut.c {w : World} {g : Nat} {x : Au} (h : RAut w g x) (i : Nat) : w.cell? ⟨g, i, none⟩ = (av x)[i]? := Blk.at_ h i
theorem RAut.f {w : World} {g : Nat} {x : Au} (h : RAut w g x) (i : Nat) : w.frozen? ⟨g, i, none⟩ = false := Blk.frozen h i
theorem RAut.moves {S : Nat → Prop} {w w' : World} {g : Nat} {x : Au} (h : RAut w g x) (hm : Moves S w w') (hs : ¬ S g) : RAut w' g x := Blk.moves h hm hs
theorem RAut.callee {w w' : World} {g : Nat} {x : Au} (h : RAut w g x) (hb : Below w.heap.size w w') : RAut w' g x := Blk.callee h hb
theorem RAut.setL {w : World} {g : Nat} {x : Au} (h : RAut w g x) (n : Nat) : RAut (w.setCell ⟨g, 5, none⟩ (.int .i64 n)) g { x with l := n } := Blk.set h 5 (.int .i64 n)
theorem raut_of {w : World} {g : Nat} {L : List Value} {y : Au} (h : Blk w g L 42) (e : L = av y) : RAut w g y := by subst e; exact h

/-- zrc stands neither beside irc nor beside a request. -/
def zrOk (e s : Nat) : Bool := !(has (at_ e s).a 32 && (has (at_ e s).a 16 || has (at_ e s).a 576))
theorem zr_ok : ∀ e, e < 16 → ∀ s, s < 10 → zrOk e s = true := by decide +kernel
theorem zr_spec {s e : Nat} (hs : s < 10) (h0 : nE s e = 0) : (has (nA s e) 32 && (has (nA s e) 16 || has (nA s e) 576)) = false := by
  by_cases he : e < 16
  · have h1 := zr_ok e he s hs
    obtain ⟨h2, h3, _⟩ := next_of hs he
    cases hc : (at_ e s).c
    · rw [h2, hc] at h0; cases h0
    · rw [h3, hc, if_pos rfl]
      unfold zrOk at h1
      rw [Bool.not_eq_true'] at h1
      exact h1
  · rw [(nE_big (by omega)).1] at h0; cases h0

def ROccQ (x : Au) (e g : Nat) (w : World) (o : Ending) (w' : World) : Prop := o = .returned (.tuple #[.int .u16 (nA x.s e), .int .i64 (nE x.s e)]) ∧ RAut w' g (come x e) ∧ Moves (fun k => k = g) w w'
set_option maxHeartbeats 8000000 in
set_option maxRecDepth 100000 in
theorem rcome_any (x : Au) (g e : Nat) (w : World) (h : RAut w g x) (hs : x.s < 10) (hc : x.c ≤ 20) (hm : x.mc ≤ 20) (ht : x.mt ≤ 20) : Calls Try.prog 24 #[.pointer (some ⟨g, 0, none⟩), .int .u8 e] w (ROccQ x e g w) := by
  have HN : Hid (∀ w, Calls Try.prog 29 #[.int .u8 x.s, .int .u8 e] w fun o w' => o = .returned (.tuple #[.int .u16 (nA x.s e), .int .u8 (nN x.s e), .int .i64 (nE x.s e)]) ∧ Below w.heap.size w w') := fun w => rnext_any x.s e w
  have c3 : w.cell? ⟨g, 3, none⟩ = some (.int .u8 x.s) := h.c 3
  have H := Lib.hid h
  unfold ROccQ
  by_cases h0 : nE x.s e = 0
  · obtain ⟨_, ha, h5, h6, _⟩ := tab_spec hs h0
    have HC : Hid (come x e = fin (nN x.s e) (rc (nA x.s e) x)) := by
      show _ = _
      rw [rc_acts _ x h5 h6]
      exact if_pos h0
    rw [h0] at HN ⊢
    rw [HC.out]
    have b16 : (bits .and .u16 (nA x.s e : Int) 16 != 0) = has (nA x.s e) 16 := has_bits _ 16 ha (by decide)
    have b512 : (bits .and .u16 (nA x.s e : Int) 512 != 0) = has (nA x.s e) 512 := has_bits _ 512 ha (by decide)
    have b32 : (bits .and .u16 (nA x.s e : Int) 32 != 0) = has (nA x.s e) 32 := has_bits _ 32 ha (by decide)
    have b576 : (bits .and .u16 (nA x.s e : Int) 576 != 0) = has (nA x.s e) 576 := has_bits _ 576 ha (by decide)
    have zr := zr_spec hs h0
    clear h h0 ha h5 h6 HC hs
    generalize nA x.s e = A at *
    generalize nN x.s e = N at *
    have HT := Lib.hid (fun w => rtimed_any N w)
    have q1 : (x.c : Int) ≤ 20 := by omega
    have q2 : (x.mc : Int) ≤ 20 := by omega
    have q3 : (x.mt : Int) ≤ 20 := by omega
    have q4 : (0 : Int) ≤ x.c := by omega
    have q5 : (0 : Int) ≤ x.mc := by omega
    have q6 : (0 : Int) ≤ x.mt := by omega
    clear hc hm ht
    go_enter Try.func24, Try.ntmps24
    go_wp2_with fail
    refine (HN.out _).mono ?_
    rintro o w1 ⟨rfl, hb1⟩
    have H1 := Lib.hid (H.out.callee hb1)
    have M1 : Hid (Moves (fun k => k = g) w w1) := Moves.of_below hb1
    clear c3 hb1 HN H
    have c0 : w1.cell? ⟨g, 0, none⟩ = some (.int .i64 x.r) := H1.out.c 0
    have c1 : w1.cell? ⟨g, 1, none⟩ = some (.int .i64 x.mc) := H1.out.c 1
    have c2 : w1.cell? ⟨g, 2, none⟩ = some (.int .i64 x.mt) := H1.out.c 2
    have c3 : w1.cell? ⟨g, 3, none⟩ = some (.int .u8 x.s) := H1.out.c 3
    have c4 : w1.cell? ⟨g, 4, none⟩ = some (.int .i64 x.c) := H1.out.c 4
    have c5 : w1.cell? ⟨g, 5, none⟩ = some (.int .i64 x.l) := H1.out.c 5
    have HB : Hid (Blk w1 g (av x) 42) := H1.out
    have f3 := H1.out.f 3
    have f4 := H1.out.f 4
    have f5 := H1.out.f 5
    cases e16 : has A 16 <;> cases e512 : has A 512 <;> cases e32 : has A 32 <;> cases e576 : has A 576
    all_goals
      rw [e16, e32, e576] at zr
      first | exact absurd zr (by decide) | clear zr
    all_goals
      rw [e16] at b16
      rw [e512] at b512
      rw [e32] at b32
      rw [e576] at b576
      have HE := Lib.hid (And.intro e16 (And.intro e512 (And.intro e32 e576)))
      clear e16 e512 e32 e576
      go_wp2_with fail
    all_goals
      refine (HT.out _).mono ?_
      rintro o w5 ⟨rfl, e5⟩
      have M5 : Hid (Moves (fun k => k = g) w w5) := by
        rw [← e5]
        show Moves _ _ _
        first | with_reducible exact (setS_moves M1.out _ _) | with_reducible exact (setS_moves (setS_moves M1.out _ _) _ _) | with_reducible exact (setS_moves (setS_moves (setS_moves M1.out _ _) _ _) _ _) | with_reducible exact (setS_moves (setS_moves (setS_moves (setS_moves M1.out _ _) _ _) _ _) _ _) | with_reducible exact (setS_moves (setS_moves (setS_moves (setS_moves (setS_moves M1.out _ _) _ _) _ _) _ _) _ _) | with_reducible exact (setS_moves (setS_moves (setS_moves (setS_moves (setS_moves (setS_moves M1.out _ _) _ _) _ _) _ _) _ _) _ _) | with_reducible exact (setS_moves (setS_moves (setS_moves (setS_moves (setS_moves (setS_moves (setS_moves M1.out _ _) _ _) _ _) _ _) _ _) _ _) _ _)
      have H5 : Hid (RAut w5 g { rc A x with s := N }) := by
        rw [← e5]
        show RAut _ _ _
        first | with_reducible refine raut_of (Blk.set HB.out _ _) ?_ | with_reducible refine raut_of (Blk.set (Blk.set HB.out _ _) _ _) ?_ | with_reducible refine raut_of (Blk.set (Blk.set (Blk.set HB.out _ _) _ _) _ _) ?_ | with_reducible refine raut_of (Blk.set (Blk.set (Blk.set (Blk.set HB.out _ _) _ _) _ _) _ _) ?_ | with_reducible refine raut_of (Blk.set (Blk.set (Blk.set (Blk.set (Blk.set HB.out _ _) _ _) _ _) _ _) _ _) ?_ | with_reducible refine raut_of (Blk.set (Blk.set (Blk.set (Blk.set (Blk.set (Blk.set HB.out _ _) _ _) _ _) _ _) _ _) _ _) ?_ | with_reducible refine raut_of (Blk.set (Blk.set (Blk.set (Blk.set (Blk.set (Blk.set (Blk.set HB.out _ _) _ _) _ _) _ _) _ _) _ _) _ _) ?_
        obtain ⟨e16, e512, e32, e576⟩ := HE.out
        simp [av, rc, e16, e512, e32, e576]
        try omega
      clear e5 M1 H1 HE HB b16 b512 b32 b576 c0 c1 c2 c3 c4 c5 f3 f4 f5
      obtain ⟨y, hy⟩ : ∃ y, y = rc A x := ⟨_, rfl⟩
      rw [← hy] at H5
      have HY := Lib.hid hy
      clear hy
      have c5 : w5.cell? ⟨g, 5, none⟩ = some (.int .i64 y.l) := H5.out.c 5
      have f5 := H5.out.f 5
      cases ht : timed N
      · go_wp2
        go_ret2
        refine ⟨rfl, ?_, setS_moves M5.out 5 _⟩
        unfold fin
        rw [ht, ← HY.out]
        exact H5.out.setL 0
      · go_wp2
        go_ret2
        refine ⟨rfl, ?_, M5.out⟩
        unfold fin
        rw [ht, ← HY.out]
        exact H5.out
  · have HC : Hid (come x e = x) := if_neg h0
    have HA : Hid (nA x.s e = 0) := nA_no hs h0
    rw [HC.out, HA.out]
    rw [HA.out] at HN
    have hE : (((nE x.s e : Nat) : Int) != 0) = true := by rw [bne_iff_ne]; omega
    clear h0 h HC HA hs hc hm ht
    generalize nE x.s e = E at *
    generalize nN x.s e = N at *
    go_enter Try.func24, Try.ntmps24
    go_wp2_with fail
    refine (HN.out _).mono ?_
    rintro o w1 ⟨rfl, hb1⟩
    have H1 := Lib.hid (H.out.callee hb1)
    have M1 : Hid (Moves (fun k => k = g) w w1) := Moves.of_below hb1
    clear c3 hb1 HN
    go_wp2
    go_ret2
    exact ⟨rfl, H1.out, M1.out⟩
end Go.Proofs.Ytkabjdejljdbiaa.Aut
