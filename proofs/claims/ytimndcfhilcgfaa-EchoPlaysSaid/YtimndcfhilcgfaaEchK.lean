/- The document's echo: May, Next, Tick. -/
import Derived.Test.YtimndcfhilcgfaaEchI
import Derived.Test.YtimndcfhilcgfaaRnum
import Derived.Deep.RegionHeld3
namespace Go.Proofs.Ytimndcfhilcgfaa.Ech
open Go.RowKit Go.Proofs.Ytimndcfhilcgfaa.Oct Go.Proofs.Ytimndcfhilcgfaa.Row Go.Proofs.Ytimndcfhilcgfaa.Mem

/-- An echo of the document in block g. -/
def RAt (w : World) (g : Nat) (x : Ec) : Prop := Blk w g (dv x) 45
theorem RAt.lt {w : World} {g : Nat} {x : Ec} (h : RAt w g x) : g < w.heap.size := Blk.lt h
theorem RAt.c {w : World} {g : Nat} {x : Ec} (h : RAt w g x) (i : Nat) : w.cell? ⟨g, i, none⟩ = (dv x)[i]? := Blk.at_ h i
theorem RAt.f {w : World} {g : Nat} {x : Ec} (h : RAt w g x) (i : Nat) : w.frozen? ⟨g, i, none⟩ = false := Blk.frozen h i
theorem RAt.moves {S : Nat → Prop} {w w' : World} {g : Nat} {x : Ec} (h : RAt w g x) (hm : Moves S w w') (hs : ¬ S g) : RAt w' g x := Blk.moves h hm hs
theorem RAt.callee {w w' : World} {g : Nat} {x : Ec} (h : RAt w g x) (hb : Below w.heap.size w w') : RAt w' g x := Blk.callee h hb
theorem RAt.drewN {w : World} {g : Nat} {x : Ec} (h : RAt w g x) (k : Nat) : RAt (w.drewN k) g x := h
theorem RAt.setNow {w : World} {g : Nat} {x : Ec} (h : RAt w g x) (t : Int) : RAt (w.setCell ⟨g, 3, none⟩ (.int .i64 t)) g { x with now := t } := Blk.set h 3 (.int .i64 t)
theorem RAt.setMi {w : World} {g : Nat} {x : Ec} (h : RAt w g x) (n : Nat) : RAt (w.setCell ⟨g, 6, none⟩ (.int .i64 n)) g { x with mi := n } := Blk.set h 6 (.int .i64 n)
theorem RAt.setDe {w : World} {g : Nat} {x : Ec} (h : RAt w g x) (b : Bool) : RAt (w.setCell ⟨g, 7, none⟩ (.bool b)) g { x with de := b } := Blk.set h 7 (.bool b)
theorem RAt.asked {w : World} {g : Nat} {x : Ec} (h : RAt w g x) (t : Int) : RAt (((w.setCell ⟨g, 5, none⟩ (.int .i64 ((x.n : Int) + 1))).setCell ⟨g, 6, none⟩ (.int .i64 ((x.mi : Int) + 1))).setCell ⟨g, 4, none⟩ (.int .i64 t)) g { x with n := x.n + 1, mi := x.mi + 1, si := t } := by
  have k := ((Blk.set h 5 (.int .i64 ((x.n : Int) + 1))).set 6 (.int .i64 ((x.mi : Int) + 1))).set 4 (.int .i64 t)
  have e : (((dv x).set 5 (.int .i64 ((x.n : Int) + 1))).set 6 (.int .i64 ((x.mi : Int) + 1))).set 4 (.int .i64 t) = dv { x with n := x.n + 1, mi := x.mi + 1, si := t } := by
    simp [dv]
  rw [e] at k
  exact k
theorem rasked_moves (w : World) (g : Nat) (a b c : Value) : Moves (fun k => k = g) w (((w.setCell ⟨g, 5, none⟩ a).setCell ⟨g, 6, none⟩ b).setCell ⟨g, 4, none⟩ c) :=
  ((set1_moves w g 5 a).trans (set1_moves _ g 6 b) fun _ _ e => e).trans (set1_moves _ g 4 c) fun _ _ e => e

set_option maxHeartbeats 1000000 in
set_option maxRecDepth 100000 in
theorem rmay_any (e m t : Int) (w : World) : Calls Try.prog 15 #[.agg #[.int .i64 e, .int .i64 m], .int .i64 t] w fun o w' => o = .returned (.bool (may e m t)) ∧ Below w.heap.size w w' := by
  obtain ⟨W, hW, c0, c1, HB⟩ := boxC w e m
  unfold may
  obtain ⟨p5, h5⟩ : ∃ p : Bool, decide (0 ≤ t) = p := ⟨_, rfl⟩
  obtain ⟨p6, h6⟩ : ∃ p : Bool, decide (t ≤ 1152921504606846976) = p := ⟨_, rfl⟩
  rw [show decide (t ≤ mx) = p6 from h6, h5]
  go_enter Try.func15, Try.ntmps15
  go_wp2
  all_goals (go_ret; exact ⟨by first | (simp_all; done) | (simp_all; omega), HB.out⟩)
set_option maxHeartbeats 400000 in
set_option maxRecDepth 100000 in
theorem rnext_any (g : Nat) (x : Ec) (w : World) (h : RAt w g x) (hi : Inv x) : Calls Try.prog 19 #[ptr g] w fun e w' => e = .returned (.tuple #[.int .i64 (atV x), .bool (isB x)]) ∧ ∃ k, w' = w.drewN k := by
  have c0 : w.cell? ⟨g, 0, none⟩ = some (.int .i64 x.ev) := h.c 0
  have c2 : w.cell? ⟨g, 4, none⟩ = some (.int .i64 x.si) := h.c 4
  have c8 : w.cell? ⟨g, 7, none⟩ = some (.bool x.de) := h.c 7
  have hl := at_le hi
  have hv := hi.ev
  clear h hi
  unfold ptr atV isB
  by_cases h0 : x.ev = 0
  · have e0 : ((x.ev : Int) == 0) = true := by rw [h0]; rfl
    rw [show decide (x.ev = 0) = true from decide_eq_true h0]
    clear h0
    go_enter Try.func19, Try.ntmps19
    go_wp2
    go_ret2
    exact ⟨rfl, 0, rfl⟩
  · have e0 : ((x.ev : Int) == 0) = false := by rw [beq_eq_false_iff_ne]; omega
    rw [show decide (x.ev = 0) = false from decide_eq_false h0]
    have HS : Hid (wrap64 (x.si + x.ev) = x.si + x.ev) := IntWalk.wrap64_in _ (by omega)
    clear h0 hl hv
    cases hd : x.de
    · rw [hd] at c8
      clear hd
      generalize x.si = a at *
      go_enter Try.func19, Try.ntmps19
      go_wp2
      go_quiet (fail)
      go_wp2
      go_ret2
      refine ⟨?_, nq, rfl⟩
      rw [HS.out]
      rfl
    · rw [hd] at c8
      clear hd
      go_enter Try.func19, Try.ntmps19
      go_wp2
      go_ret2
      exact ⟨rfl, 0, rfl⟩
/-- What the document's Tick and Packet answer: packets in new memory. -/
def ROutQ (g : Nat) (x' : Ec) (l : List Pk) (E : Nat) (w : World) (e : Ending) (w' : World) : Prop :=
  ∃ A c, e = .returned (.tuple #[.slice A l.length c, .int .i64 E]) ∧ Pks w' A l ∧ (∀ ad, A = some ad → w.heap.size ≤ ad.block) ∧ RAt w' g x' ∧ Moves (fun k => k = g) w w'
theorem pks_nil (w : World) (A : Option Addr) : Pks w A [] := fun h => absurd h (Nat.lt_irrefl 0)
theorem routq_none {g : Nat} {x' : Ec} {E : Nat} {w w' : World} (h : RAt w' g x') (hm : Moves (fun k => k = g) w w') : ROutQ g x' [] E w (.returned (.tuple #[.slice none 0 0, .int .i64 E])) w' :=
  ⟨none, 0, rfl, pks_nil _ _, (fun _ e => by cases e), h, hm⟩
theorem routq_one {g : Nat} {x' : Ec} {w w1 : World} {p : Pk} (h : RAt w1 g x') (hm : Moves (fun k => k = g) w w1) :
    ROutQ g x' [p] 0 w (.returned (.tuple #[.slice (some ⟨w1.heap.size, 0, none⟩) 1 1, .int .i64 (0 : Nat)])) (w1.alloc (.cells #[.int .u8 p.c.toNat, .int .u8 p.i.toNat, .string p.d] 35)) :=
  ⟨_, 1, rfl, pks_one w1 p _, (fun ad e => by cases e; exact hm.size), Blk.alloc h _, hm.alloc _⟩
set_option maxHeartbeats 4000000 in
set_option maxRecDepth 100000 in
theorem rtick_any (g : Nat) (x : Ec) (t : Int) (w : World) (h : RAt w g x) (hi : Inv x) (hn : x.n ≤ 100000) :
    Calls Try.prog 16 #[ptr g, .int .i64 t] w (ROutQ g (tk x t) (tL x t) (tE x t) w) := by
  have c3 : w.cell? ⟨g, 3, none⟩ = some (.int .i64 x.now) := h.c 3
  have f3 : w.frozen? ⟨g, 3, none⟩ = false := h.f 3
  have H := Lib.hid h
  unfold tk tL
  by_cases h1 : t < x.now
  · have e1 : tE x t = 2 := by unfold tE; rw [if_pos (.inl h1)]
    rw [e1, if_neg (by decide), if_neg (by decide)]
    have d1 := decide_eq_true h1
    clear h hi h1 e1
    unfold ptr
    go_enter Try.func16, Try.ntmps16
    go_wp2
    go_ret2
    exact routq_none H.out (Moves.refl _ w)
  · have d1 := decide_eq_false h1
    by_cases h2 : mx < t
    · have e1 : tE x t = 2 := by unfold tE; rw [if_pos (.inr h2)]
      rw [e1, if_neg (by decide), if_neg (by decide)]
      have d2 : decide ((1152921504606846976 : Int) < t) = true := decide_eq_true h2
      clear h hi h1 e1 h2
      unfold ptr
      go_enter Try.func16, Try.ntmps16
      go_wp2
      go_ret2
      exact routq_none H.out (Moves.refl _ w)
    · have e1 : tE x t = 0 := by unfold tE; rw [if_neg (by rintro (e | e); exact h1 e; exact h2 e)]
      rw [e1, if_pos rfl, if_pos rfl]
      have d2 : decide ((1152921504606846976 : Int) < t) = false := decide_eq_false h2
      have hiY : Inv { x with now := t } := ⟨hi.ev, hi.mo1, hi.mo2, hi.mg, hi.si0, Int.le_trans hi.si1 (Int.not_lt.1 h1), Int.not_lt.1 h2, hi.mi, hi.mn⟩
      have HN := Lib.hid (fun W (h : RAt W g { x with now := t }) => rnext_any g _ W h hiY)
      have H1 := Lib.hid (H.out.setNow t)
      have HM1 := Lib.hid (set1_moves w g 3 (.int .i64 t))
      have HGe : Hid (isB { x with now := t } = isB x ∧ atV { x with now := t } = atV x) := ⟨rfl, rfl⟩
      rw [HGe.out.1, HGe.out.2] at HN
      have hdue : dueB x t = (isB x && !decide (t < atV x)) := by
        unfold dueB atV
        cases isB x
        · rfl
        · rw [Bool.true_and, Bool.true_and, if_pos rfl, Bool.eq_iff_iff]
          simp
      unfold ask askL
      rw [hdue]
      have hmi := hi.mi
      have hmo := hi.mo2
      have hmg := hi.mg
      clear h hi h1 e1 h2 HGe hdue
      generalize hV : w.setCell ⟨g, 3, none⟩ (.int .i64 t) = V at *
      have HVV := Lib.hid hV
      clear hV
      have v1 : V.cell? ⟨g, 1, none⟩ = some (.int .i64 x.mo) := H1.out.c 1
      have v2 : V.cell? ⟨g, 2, none⟩ = some (.int .u32 x.mg) := H1.out.c 2
      have v4 : V.cell? ⟨g, 4, none⟩ = some (.int .i64 x.si) := H1.out.c 4
      have v5 : V.cell? ⟨g, 5, none⟩ = some (.int .i64 x.n) := H1.out.c 5
      have v6 : V.cell? ⟨g, 6, none⟩ = some (.int .i64 x.mi) := H1.out.c 6
      have v7 : V.cell? ⟨g, 7, none⟩ = some (.bool x.de) := H1.out.c 7
      have u4 : V.frozen? ⟨g, 4, none⟩ = false := H1.out.f 4
      have u5 : V.frozen? ⟨g, 5, none⟩ = false := H1.out.f 5
      have u6 : V.frozen? ⟨g, 6, none⟩ = false := H1.out.f 6
      have u7 : V.frozen? ⟨g, 7, none⟩ = false := H1.out.f 7
      have hVo := HVV.out
      cases hb : isB x
      · rw [hb] at HN
        simp only [Bool.false_and]
        unfold ptr at *
        go_enter Try.func16, Try.ntmps16
        go_wp2_with fail
        refine (HN.out _ H1.out).mono ?_
        rintro e w1 ⟨rfl, k, rfl⟩
        go_wp2
        go_ret2
        exact routq_none H1.out (HM1.out.drewN k)
      · rw [hb] at HN
        simp only [Bool.true_and]
        generalize atV x = A at *
        cases hd : decide (t < A)
        · by_cases hm : x.mi = x.mo
          · have hge : decide (x.mo ≤ x.mi) = true := decide_eq_true (by omega)
            simp only [Bool.not_false, Bool.true_and, if_true]
            rw [if_pos hm, decide_eq_true hm]
            simp only [Bool.not_true, Bool.false_eq_true, if_false]
            clear hm hmi
            unfold ptr at *
            go_enter Try.func16, Try.ntmps16
            go_wp2_with fail
            refine (HN.out _ H1.out).mono ?_
            rintro e w1 ⟨rfl, k, rfl⟩
            go_wp2
            go_quiet (fail)
            go_wp2
            go_ret2
            exact routq_none ((RAt.drewN H1.out (k + nq)).setDe true) ((HM1.out.drewN (k + nq)).trans (set1_moves _ g 7 (.bool true)) fun _ _ e => e)
          · have hge : decide (x.mo ≤ x.mi) = false := decide_eq_false (by omega)
            simp only [Bool.not_false, Bool.true_and, if_true]
            rw [if_neg hm, decide_eq_false hm]
            simp only [Bool.not_false, if_true]
            have hmi1 : (x.mi : Int) ≤ 20 := by omega
            have hmi0 : (0 : Int) ≤ (x.mi : Int) := Int.natCast_nonneg _
            have hn1 : (x.n : Int) ≤ 100000 := by omega
            have hn0 : (0 : Int) ≤ (x.n : Int) := Int.natCast_nonneg _
            have hlt : (x.mi : Int) < (x.mo : Int) := by omega
            clear hm hmi
            unfold ptr at *
            go_enter Try.func16, Try.ntmps16
            go_wp2_with fail
            refine (HN.out _ H1.out).mono ?_
            rintro e w1 ⟨rfl, k, rfl⟩
            go_wp2
            go_quiet (fail)
            go_wp2_with fail
            obtain ⟨U, hU, HU, HMU⟩ : ∃ U, (((V.drewN (k + nq)).setCell ⟨g, 5, none⟩ (.int .i64 ((x.n : Int) + 1))).setCell ⟨g, 6, none⟩ (.int .i64 ((x.mi : Int) + 1))).setCell ⟨g, 4, none⟩ (.int .i64 t) = U ∧ Hid (RAt U g { x with now := t, n := x.n + 1, mi := x.mi + 1, si := t }) ∧ Hid (Moves (fun k => k = g) (V.drewN (k + nq)) U) := ⟨_, rfl, RAt.asked (RAt.drewN H1.out (k + nq)) t, rasked_moves _ _ _ _ _⟩
            rw [hU]
            have HMT := Lib.hid ((HM1.out.drewN (k + nq)).trans HMU.out fun _ _ e => e)
            obtain ⟨M, hM⟩ : ∃ M, x.n + 1 = M := ⟨_, rfl⟩
            have d5 : U.drew.cell? ⟨g, 5, none⟩ = some (.int .i64 (M : Int)) := by rw [← hM]; exact HU.out.c 5
            have d2' : U.drew.cell? ⟨g, 2, none⟩ = some (.int .u32 x.mg) := HU.out.c 2
            rw [hM] at HU
            have HMn := Lib.hid hM
            obtain ⟨j, hj⟩ : ∃ j, M % 256 = j := ⟨_, rfl⟩
            have hj1 : (M : Int).tmod 256 = (j : Int) := by rw [← hj]; rfl
            have hj2 : IntKind.u8.wrap (j : Int) = (j : Int) := by rw [IntKind.wrap_u8]; omega
            have hg2 : IntKind.u64.wrap (x.mg : Int) = (x.mg : Int) := by rw [IntKind.wrap_u64]; omega
            have HJ : Hid (((UInt8.ofNat (M % 256)).toNat : Int) = (j : Int)) := by show _ = _; rw [u8_mod, hj]
            have HP : Hid (∀ W, Calls Try.prog 18 #[.int .u64 x.mg, .int .i64 4] W fun e w' => e = .returned (.string (own x)) ∧ Below W.heap.size W w') := fun W => rnum_any x.mg 4 W (by omega) (by decide)
            have lg : g < U.heap.size := HU.out.lt
            generalize own x = Y at *
            clear hU v1 v2 v4 v5 v6 v7 u4 u5 u6 u7 hVo HN HM1 HMU H1 hM hj
            go_region_held3 (fun w' => w'.cell? ⟨g, 5, none⟩ = some (.int .i64 (M : Int)) ∧ w'.cell? ⟨g, 2, none⟩ = some (.int .u32 x.mg))
              (first | exact ⟨d5, d2'⟩ | exact HK.out | exact HK2.out)
              (first
                | (go_at_call 18; (refine (HP.out _).mono ?_; clear HP; rintro e w2 ⟨rfl, hb0⟩; have HB2 : Hid (Below U.heap.size U w2) := ⟨hb0.os, hb0.tape, hb0.output, hb0.size, hb0.block⟩; have HK := Lib.hid (show w2.cell? ⟨g, 5, none⟩ = some (.int .i64 (M : Int)) ∧ w2.cell? ⟨g, 2, none⟩ = some (.int .u32 x.mg) from ⟨(hb0.cell (p := ⟨g, 5, none⟩) lg).trans d5, (hb0.cell (p := ⟨g, 2, none⟩) lg).trans d2'⟩); have lg2 : g < w2.heap.size := Nat.lt_of_lt_of_le lg hb0.size; have HK2 := Lib.hid (show (w2.alloc (.cells #[.int .u8 9, .int .u8 j, .string Y] 35)).cell? ⟨g, 5, none⟩ = some (.int .i64 (M : Int)) ∧ (w2.alloc (.cells #[.int .u8 9, .int .u8 j, .string Y] 35)).cell? ⟨g, 2, none⟩ = some (.int .u32 x.mg) from ⟨(((Below.refl _ w2).alloc (Nat.le_refl _) _).cell (p := ⟨g, 5, none⟩) lg2).trans HK.out.1, (((Below.refl _ w2).alloc (Nat.le_refl _) _).cell (p := ⟨g, 2, none⟩) lg2).trans HK.out.2⟩)))
                | fail)
            go_wp2
            go_ret2
            have hq := routq_one (p := ⟨9, UInt8.ofNat (M % 256), Y⟩) (HU.out.callee HB2.out) (HMT.out.trans (Moves.of_below HB2.out) fun _ _ e => e)
            rw [HJ.out, ← HMn.out] at hq
            exact hq
        · unfold ptr at *
          simp only [Bool.not_true, Bool.false_and, Bool.false_eq_true, if_false]
          go_enter Try.func16, Try.ntmps16
          go_wp2_with fail
          refine (HN.out _ H1.out).mono ?_
          rintro e w1 ⟨rfl, k, rfl⟩
          go_wp2
          go_ret2
          exact routq_none H1.out (HM1.out.drewN k)
end Go.Proofs.Ytimndcfhilcgfaa.Ech
