/- The document's May, Event, Tick, and a new automaton of it; 'ticks'. -/
import Derived.Test.YtkabjdejljdbiaaAutE
import Derived.Test.YtkabjdejljdbiaaAutF
namespace Go.Proofs.Ytkabjdejljdbiaa.Aut
open Go.RowKit Go.Proofs.Ytkabjdejljdbiaa.Oct Go.Proofs.Ytkabjdejljdbiaa.Row Go.Proofs.Ytkabjdejljdbiaa.Mem Go.Proofs.Ytkabjdejljdbiaa.Fsm

/-! ### May -/
set_option maxHeartbeats 4000000 in
set_option maxRecDepth 100000 in
theorem rmay_any (a b d : Int) (w : World) : Calls Try.prog 15 #[.agg #[.int .i64 a, .int .i64 b, .int .i64 d]] w fun o w' => o = .returned (.bool (may a b d)) ∧ Below w.heap.size w w' := by
  obtain ⟨W, hW, c0, c1, c2, HB⟩ := boxC w a b d
  have HM : Hid (may a b d = (((decide (1 ≤ a) && decide (a ≤ 1000)) && (decide (1 ≤ b) && decide (b ≤ 20))) && (decide (1 ≤ d) && decide (d ≤ 20)))) := rfl
  rw [HM.out]
  clear HM
  by_cases g0 : (1 : Int) ≤ a
  · have s0 : decide ((1 : Int) ≤ a) = true := decide_eq_true g0
    by_cases g1 : a ≤ 1000
    · have s1 : decide (a ≤ 1000) = true := decide_eq_true g1
      by_cases g2 : (1 : Int) ≤ b
      · have s2 : decide ((1 : Int) ≤ b) = true := decide_eq_true g2
        by_cases g3 : b ≤ 20
        · have s3 : decide (b ≤ 20) = true := decide_eq_true g3
          by_cases g4 : (1 : Int) ≤ d
          · have s4 : decide ((1 : Int) ≤ d) = true := decide_eq_true g4
            by_cases g5 : d ≤ 20
            · have s5 : decide (d ≤ 20) = true := decide_eq_true g5
              go_enter Try.func15, Try.ntmps15
              go_wp2
              go_ret
              exact ⟨by first | rfl | (rw [s0, s1, s2, s3, s4, s5]; rfl), HB.out⟩
            · have s5 : decide (d ≤ 20) = false := decide_eq_false g5
              have t5 : 20 < d := by omega
              go_enter Try.func15, Try.ntmps15
              go_wp2
              go_ret
              exact ⟨by first | rfl | (rw [s0, s1, s2, s3, s4, s5]; rfl), HB.out⟩
          · have s4 : decide ((1 : Int) ≤ d) = false := decide_eq_false g4
            have t4 : d < 1 := by omega
            go_enter Try.func15, Try.ntmps15
            go_wp2
            go_ret
            exact ⟨by first | rfl | (rw [s0, s1, s2, s3, s4]; rfl), HB.out⟩
        · have s3 : decide (b ≤ 20) = false := decide_eq_false g3
          have t3 : 20 < b := by omega
          go_enter Try.func15, Try.ntmps15
          go_wp2
          go_ret
          exact ⟨by first | rfl | (rw [s0, s1, s2, s3]; rfl), HB.out⟩
      · have s2 : decide ((1 : Int) ≤ b) = false := decide_eq_false g2
        have t2 : b < 1 := by omega
        go_enter Try.func15, Try.ntmps15
        go_wp2
        go_ret
        exact ⟨by first | rfl | (rw [s0, s1, s2]; rfl), HB.out⟩
    · have s1 : decide (a ≤ 1000) = false := decide_eq_false g1
      have t1 : 1000 < a := by omega
      go_enter Try.func15, Try.ntmps15
      go_wp2
      go_ret
      exact ⟨by first | rfl | (rw [s0, s1]; rfl), HB.out⟩
  · have s0 : decide ((1 : Int) ≤ a) = false := decide_eq_false g0
    have t0 : a < 1 := by omega
    go_enter Try.func15, Try.ntmps15
    go_wp2
    go_ret
    exact ⟨by first | rfl | (rw [s0]; rfl), HB.out⟩

/-! ### the document's Event -/
def REvQ (x : Au) (v g : Nat) (w : World) (o : Ending) (w' : World) : Prop := o = .returned (.tuple #[.int .u16 (evA x v), .int .i64 (evE x v)]) ∧ RAut w' g (evX x v) ∧ Moves (fun k => k = g) w w'
set_option maxHeartbeats 2000000 in
theorem revent_any (x : Au) (g v : Nat) (w : World) (h : RAut w g x) (hi : Inv x) : Calls Try.prog 17 #[.pointer (some ⟨g, 0, none⟩), .int .u8 v] w (REvQ x v g w) := by
  unfold REvQ evA evE evX
  have H := Lib.hid h
  by_cases hb : 16 ≤ v
  · obtain ⟨e1, e2, _⟩ := nE_big (s := x.s) hb
    have hc : come x v = x := if_neg (by rw [e1]; decide)
    have hv : ¬ (v = 4 ∨ v = 5) := by omega
    simp only [if_neg hv]
    rw [e1, e2, hc]
    have hb1 : (16 : Int) ≤ (v : Int) := by omega
    clear h hi hb hv e1 e2 hc
    go_enter Try.func17, Try.ntmps17
    go_wp2
    go_ret2
    exact ⟨rfl, H.out, Moves.refl _ _⟩
  · by_cases hv : v = 4 ∨ v = 5
    · simp only [if_pos hv]
      rcases hv with rfl | rfl
      all_goals
        clear h hi hb
        go_enter Try.func17, Try.ntmps17
        go_wp2
        go_ret2
        exact ⟨rfl, H.out, Moves.refl _ _⟩
    · simp only [if_neg hv]
      have HI := Lib.hid hi
      have HO : Hid (Calls Try.prog 24 #[.pointer (some ⟨g, 0, none⟩), .int .u8 v] w (ROccQ x v g w)) := rcome_any x g v w h hi.s (by have := hi.c; have := hi.m2; have := hi.t2; omega) hi.m2 hi.t2
      have h4 : ((v : Int) == 4) = false := by rw [beq_eq_false_iff_ne]; omega
      have h5 : ((v : Int) == 5) = false := by rw [beq_eq_false_iff_ne]; omega
      have hb1 : (v : Int) < 16 := by omega
      clear h hi hv hb
      go_enter Try.func17, Try.ntmps17
      go_wp2_with fail
      refine HO.out.mono ?_
      rintro o w1 ⟨rfl, ha, hm⟩
      have HA := Lib.hid ha
      have HM := Lib.hid hm
      clear ha hm HO
      go_wp2
      go_ret2
      exact ⟨rfl, HA.out, HM.out⟩

/-! ### the document's Tick -/
def RTkQ (x : Au) (g : Nat) (w : World) (o : Ending) (w' : World) : Prop := o = .returned (.tuple #[.int .u16 (tkS x), .bool (decide (x.l = 1))]) ∧ RAut w' g (tk x) ∧ Moves (fun k => k = g) w w'
set_option maxHeartbeats 4000000 in
theorem rtick_any (x : Au) (g : Nat) (w : World) (h : RAut w g x) (hi : Inv x) : Calls Try.prog 16 #[.pointer (some ⟨g, 0, none⟩)] w (RTkQ x g w) := by
  have H := Lib.hid h
  have HI := Lib.hid hi
  have c5 : w.cell? ⟨g, 5, none⟩ = some (.int .i64 x.l) := h.c 5
  have f5 := h.f 5
  unfold RTkQ
  by_cases h0 : x.l = 0
  · have HK := Lib.hid (tkS_none h0)
    rw [HK.out.1, HK.out.2, decide_eq_false (by omega)]
    rw [h0] at c5
    clear h hi h0 HK
    go_enter Try.func16, Try.ntmps16
    go_wp2
    go_ret2
    exact ⟨rfl, H.out, Moves.refl _ _⟩
  · by_cases h1 : x.l = 1
    · have HK := Lib.hid (rtick hi h1)
      have HY := Lib.hid (tk_inv hi)
      have HS : Hid (tkS x = nA x.s (tev x)) := if_pos h1
      have c4 : w.cell? ⟨g, 4, none⟩ = some (.int .i64 x.c) := h.c 4
      rw [decide_eq_true h1, HS.out]
      rw [h1] at c5
      have H2 := Lib.hid (H.out.setL 0)
      have M2 : Hid (Moves (fun k => k = g) w (w.setCell ⟨g, 5, none⟩ (.int .i64 0))) := set_moves w g 5 _
      have HC : Hid (∀ w', RAut w' g { x with l := 0 } → Calls Try.prog 24 #[.pointer (some ⟨g, 0, none⟩), .int .u8 (tev x)] w' (ROccQ { x with l := 0 } (tev x) g w')) := fun w' h' => rcome_any _ g _ w' h' hi.s (by show x.c ≤ 20; have := hi.c; have := hi.m2; have := hi.t2; omega) hi.m2 hi.t2
      obtain ⟨y, hy⟩ : ∃ y, y = tk x := ⟨_, rfl⟩
      rw [← hy] at HK HY ⊢
      have HT := Lib.hid (fun w => rtimed_any y.s w)
      have HF : Hid (timed y.s = decide (0 < y.l)) := HY.out.t
      clear h hi h0 h1 hy
      by_cases hc : x.c = 0
      · have he : tev x = 5 := if_pos hc
        rw [he] at HC HK
        rw [he]
        rw [hc] at c4
        clear hc he
        go_enter Try.func16, Try.ntmps16
        go_wp2_with fail
        refine (HC.out _ H2.out).mono ?_
        rintro o w1 ⟨rfl, ha, hm⟩
        rw [HK.out] at ha
        have HA := Lib.hid ha
        have HM := Lib.hid (M2.out.trans hm fun _ _ e => e)
        have d5 : w1.cell? ⟨g, 5, none⟩ = some (.int .i64 y.l) := HA.out.c 5
        have d3 : w1.cell? ⟨g, 3, none⟩ = some (.int .u8 y.s) := HA.out.c 3
        clear ha hm HC H2 M2 HK c4 c5 f5
        by_cases hl : y.l = 0
        · have ht : timed y.s = false := by rw [HF.out, hl]; rfl
          rw [ht] at HT
          rw [hl] at d5
          clear ht hl HF
          go_wp2_with fail
          refine (HT.out _).mono ?_
          rintro o _ ⟨rfl, rfl⟩
          go_wp2
          go_ret2
          exact ⟨rfl, HA.out, HM.out⟩
        · have hl1 : ((y.l : Int) == 0) = false := by rw [beq_eq_false_iff_ne]; omega
          clear hl HF
          go_wp2
          go_ret2
          exact ⟨rfl, HA.out, HM.out⟩
      · have he : tev x = 4 := if_neg hc
        rw [he] at HC HK
        rw [he]
        have hc1 : (0 : Int) < (x.c : Int) := by omega
        clear hc he
        go_enter Try.func16, Try.ntmps16
        go_wp2_with fail
        refine (HC.out _ H2.out).mono ?_
        rintro o w1 ⟨rfl, ha, hm⟩
        rw [HK.out] at ha
        have HA := Lib.hid ha
        have HM := Lib.hid (M2.out.trans hm fun _ _ e => e)
        have d5 : w1.cell? ⟨g, 5, none⟩ = some (.int .i64 y.l) := HA.out.c 5
        have d3 : w1.cell? ⟨g, 3, none⟩ = some (.int .u8 y.s) := HA.out.c 3
        clear ha hm HC H2 M2 HK c4 c5 f5
        by_cases hl : y.l = 0
        · have ht : timed y.s = false := by rw [HF.out, hl]; rfl
          rw [ht] at HT
          rw [hl] at d5
          clear ht hl HF
          go_wp2_with fail
          refine (HT.out _).mono ?_
          rintro o _ ⟨rfl, rfl⟩
          go_wp2
          go_ret2
          exact ⟨rfl, HA.out, HM.out⟩
        · have hl1 : ((y.l : Int) == 0) = false := by rw [beq_eq_false_iff_ne]; omega
          clear hl HF
          go_wp2
          go_ret2
          exact ⟨rfl, HA.out, HM.out⟩
    · have HK : Hid (tk x = { x with l := x.l - 1 }) := by
        show _ = _
        unfold tk
        rw [if_neg h0, if_neg h1]
      have HS : Hid (tkS x = 0) := if_neg h1
      rw [HK.out, HS.out, decide_eq_false h1]
      have e : (x.l : Int) = ((x.l - 1 : Nat) : Int) + 1 := by omega
      have hp : (0 : Int) < ((x.l - 1 : Nat) : Int) := by omega
      have hb : ((x.l - 1 : Nat) : Int) ≤ 1000 := by have := hi.l; have := hi.r2; omega
      rw [e] at c5
      have H2 := Lib.hid (H.out.setL (x.l - 1))
      have M2 : Hid (Moves (fun k => k = g) w (w.setCell ⟨g, 5, none⟩ (.int .i64 (x.l - 1 : Nat)))) := set_moves w g 5 _
      generalize x.l - 1 = q at *
      have e1 : (q : Int) + 1 - 1 = (q : Int) := by omega
      have e2 : ((q : Int) + 1 == 0) = false := by rw [beq_eq_false_iff_ne]; omega
      clear h hi h0 h1 HK HS H e
      go_enter Try.func16, Try.ntmps16
      go_wp2
      go_ret2
      exact ⟨rfl, H2.out, M2.out⟩

/-- A new automaton of the document. -/
theorem raut_new (W : World) (r mc mt : Nat) : RAut (W.alloc (.cells #[.int .i64 r, .int .i64 mc, .int .i64 mt, .int .u8 0, .int .i64 0, .int .i64 0] 42)) W.heap.size ⟨r, mc, mt, 0, 0, 0⟩ := blk_new W (av ⟨r, mc, mt, 0, 0, 0⟩) _

/-! ### ticks -/
def TicksQ (x : Au) (g : Nat) (w : World) (o : Ending) (w' : World) : Prop := ∃ (n s : Nat) (y : Au), o = .returned (.tuple #[.int .i64 n, .int .i64 s]) ∧ s ≤ x.c ∧ Inv y ∧ Same x y ∧ y.l = 0 ∧ Aut w' g y ∧ Moves (fun k => k = g) w w'
structure Tks (x : Au) (m g : Nat) (w wr : World) (n s : Nat) (y : Au) : Prop where
  b : bud y + n ≤ m
  s : s + y.c ≤ x.c
  i : Inv y
  e : Same x y
  a : Aut wr g y
  m : Moves (fun k => k = g) w wr
set_option maxHeartbeats 4000000 in
theorem ticks_any (x : Au) (g m : Nat) (w : World) (h : Aut w g x) (hi : Inv x) (hm : bud x ≤ m) (hm2 : m ≤ 100000) : Calls Try.prog 18 #[.pointer (some ⟨g, 0, none⟩), .int .i64 m] w (TicksQ x g w) := by
  have H0 : Hid (Tks x m g w w 0 0 x) := ⟨by omega, by omega, hi, .refl x, h, Moves.refl _ _⟩
  have hmi : (m : Int) ≤ 100000 := by omega
  have HX : Hid (x.c ≤ 20) := by have := hi.c; have := hi.m2; have := hi.t2; show x.c ≤ 20; omega
  clear h hi hm
  go_enter Try.func18, Try.ntmps18
  go_wp2
  go_loopw [6, 7] (fun u i wr => ∃ (n s : Nat) (y : Au), n ≤ m ∧ s ≤ 20 ∧ u = .int .i64 s ∧ i = .int .i64 n ∧ Hid (Tks x m g w wr n s y)) (fun _ i _ => m - (intOf i).toNat)
  case atStart => exact ⟨0, 0, x, Nat.zero_le _, by omega, rfl, rfl, H0⟩
  case round =>
    obtain ⟨n, s, y, hn, hs, rfl, rfl, HF⟩ := hrel
    have HL := Lib.hid (fun w h => left_any g y w h)
    have hn1 : (n : Int) ≤ (m : Int) := by omega
    have hn2 := decide_eq_true hn1
    by_cases hl : y.l = 0
    · have HZ := Lib.hid hl
      rw [hl] at HL
      clear hl
      go_wp2_with fail
      refine (HL.out _ HF.out.a).mono ?_
      rintro o _ ⟨rfl, rfl⟩
      go_wp2
      go_ret2
      exact ⟨n, s, y, rfl, by have := HF.out.s; omega, HF.out.i, HF.out.e, HZ.out, HF.out.a, HF.out.m⟩
    · have hl1 : ((y.l : Int) == 0) = false := by rw [beq_eq_false_iff_ne]; omega
      have HT := Lib.hid (fun w h => tick_any y g w h HF.out.i)
      obtain ⟨k1, k2⟩ := tk_less HF.out.i hl
      have hlt : n < m := by have := HF.out.b; omega
      have hs2 : snd y + s ≤ 20 := by have := HF.out.s; have := HX.out; omega
      have HK : Hid (∀ w', Aut w' g (tk y) → Moves (fun k => k = g) wr w' → Tks x m g w w' (n + 1) (snd y + s) (tk y)) := fun w' ha hm =>
        ⟨by have := HF.out.b; omega, by have := HF.out.s; omega, tk_inv HF.out.i, HF.out.e.trans (tk_same y), ha, HF.out.m.trans hm fun _ _ e => e⟩
      have hb : (bits .and .u16 (tkS y : Int) 576 != 0) = has (tkS y) 576 := has_bits _ 576 (tkS_lt HF.out.i) (by decide)
      have HS : Hid (snd y = if has (tkS y) 576 then 1 else 0) := rfl
      clear hl k1 k2
      cases hh : has (tkS y) 576
      · rw [hh] at hb HS
        have HS0 : Hid (snd y = 0) := HS.out
        rw [HS0.out, Nat.zero_add] at HK hs2
        clear hh HS HS0
        go_wp2_with fail
        refine (HL.out _ HF.out.a).mono ?_
        rintro o _ ⟨rfl, rfl⟩
        go_wp2_with fail
        refine (HT.out _ HF.out.a).mono ?_
        rintro o w2 ⟨rfl, ha, hm⟩
        have HG := Lib.hid (HK.out w2 ha hm)
        clear ha hm HK HT HL
        go_wp2
        go_roundw
        case rel => exact ⟨n + 1, s, tk y, by omega, hs2, rfl, by go_num, HG⟩
        case measure => simp [intOf]; omega
      · rw [hh] at hb HS
        have HS0 : Hid (snd y = 1) := HS.out
        rw [HS0.out, Nat.add_comm 1 s] at HK hs2
        clear hh HS HS0
        go_wp2_with fail
        refine (HL.out _ HF.out.a).mono ?_
        rintro o _ ⟨rfl, rfl⟩
        go_wp2_with fail
        refine (HT.out _ HF.out.a).mono ?_
        rintro o w2 ⟨rfl, ha, hm⟩
        have HG := Lib.hid (HK.out w2 ha hm)
        clear ha hm HK HT HL
        go_wp2
        go_roundw
        case rel => exact ⟨n + 1, s + 1, tk y, by omega, hs2, by go_num, by go_num, HG⟩
        case measure => simp [intOf]; omega
end Go.Proofs.Ytkabjdejljdbiaa.Aut
