/- PROVED: 'halyardlaw14.LcppolMeets' returns true for every configuration, number and request, and leaves them as they were. No condition. -/
import Derived.Test.YtgoikabbocnecaaG8
import Derived.Test.YtgoikabbocnecaaPolX
import Derived.Test.YtgoikabbocnecaaG4
import Derived.Test.YtgoikabbocnecaaLcoEq
import Derived.Test.YtgoikabbocnecaaLaw
import Derived.Test.YtgoikabbocnecaaRows
import Derived.SizedLaws
import Derived.Test.YtgoikabbocnecaaPolY
import Derived.Deep.RegionHeld3
import Derived.OrdersHeld
import Derived.Deep.QuietTactic
import Derived.Deep.Quiet
import Derived.BigQuiet
set_option linter.unusedSimpArgs false
set_option linter.unusedVariables false
namespace Go.Proofs.Ytgoikabbocnecaa.LcppolMeets
open Go.ChangeShapes Go.WideShapes Go.ChangeAt Go.RowKit Go.Proofs.Ytgoikabbocnecaa.Oct Go.Proofs.Ytgoikabbocnecaa.Row Go.Proofs.Ytgoikabbocnecaa.Mem Go.Proofs.Ytgoikabbocnecaa.Opt Go.Proofs.Ytgoikabbocnecaa.Lco Go.Proofs.Ytgoikabbocnecaa.Law Go.Proofs.Ytgoikabbocnecaa.Pol
theorem own : ownKnob Try.prog.godebug = none := by kernel_rfl
theorem laidOut : laidOutB Try.prog = true := by kernel_rfl
theorem newP_ok {c : Conf} (m : UInt32) (h : mayC c = true) : (newP c m).naks = 0 ∧ (newP c m).loops = 0 ∧ 1 ≤ (newP c m).c.mn ∧ (newP c m).c.can ≤ 3 := by
  unfold mayC at h
  simp only [Bool.and_eq_true, decide_eq_true_eq] at h
  exact ⟨rfl, rfl, h.1.2, h.1.1.1.2⟩
theorem cells9 {W : World} {g : Nat} {x : Lcp} (h : LAt W g x) : W.cell? ⟨g, 0, none⟩ = some (Value.bool x.hm) ∧ W.cell? ⟨g, 1, none⟩ = some (.int .u16 x.mru.toNat) ∧ W.cell? ⟨g, 2, none⟩ = some (.bool x.ha) ∧ W.cell? ⟨g, 3, none⟩ = some (.int .u32 x.accm.toNat) ∧ W.cell? ⟨g, 4, none⟩ = some (.int .u8 x.auth.toNat) ∧ W.cell? ⟨g, 5, none⟩ = some (.bool x.hg) ∧ W.cell? ⟨g, 6, none⟩ = some (.int .u32 x.magic.toNat) ∧ W.cell? ⟨g, 7, none⟩ = some (.bool x.pfc) ∧ W.cell? ⟨g, 8, none⟩ = some (.bool x.acfc) := ⟨h.c 0, h.c 1, h.c 2, h.c 3, h.c 4, h.c 5, h.c 6, h.c 7, h.c 8⟩
/-- How far the bargain is. -/
def Lv (k : Nat) (p : Po) (m : List Opt) : Prop := (k = 0 ∧ p.naks = 0) ∨ (k = 1 ∧ refs (vs p m) = [] ∧ (poors (vs p m) = [] ∨ p.naks = 0)) ∨ (k = 2 ∧ refs (vs p m) = [] ∧ poors (vs p m) = [])
structure Ms (w wr : World) (g : Nat) (p : Po) (A : Option Addr) (n : Nat) (m : List Opt) (k : Nat) : Prop where
  hp : PAt wr g p
  ho : Opts wr wr.heap.size A n m
  hb : Below w.heap.size w wr
  hg : w.heap.size ≤ g
  c1 : p.c.can ≤ 3
  c2 : 1 ≤ p.c.mn
  n1 : p.naks ≤ k
  n2 : p.loops ≤ k
  lv : Lv k p m
/-- Behind an answer that is no Ack. -/
theorem Ms.step {w wr w' w'' : World} {g k n n' : Nat} {p q : Po} {A A' : Option Addr} {m m' : List Opt} (h : Ms w wr g p A n m k) (hp : PAt w' g q) (hm : Moves (fun j => j = g) wr w') (hb : Below w'.heap.size w' w'') (ho : Opts w'' w''.heap.size A' n' m') (hq : q = jP p m) (hl : Lv (k + 1) q m') : Ms w w'' g q A' n' m' (k + 1) := by
  subst hq
  have h1 : Below w.heap.size w w' := h.hb.trans (hm.below h.hb.size (fun j e => by rw [e]; exact h.hg))
  obtain ⟨j1, j2, j3, j4⟩ := jP_w p m
  exact ⟨hp.callee hb, ho, h1.trans (hb.mono h1.size), h.hg, by rw [j2]; exact h.c1, by rw [j2]; exact h.c2, by have := h.n1; omega, by have := h.n2; omega, hl⟩
theorem lv_rej {k : Nat} {p : Po} {m : List Opt} (h : Lv k p m) (hr : ¬ refs (vs p m) = []) : k = 0 ∧ Lv (k + 1) (jP p m) (mend 4 (refs (vs p m)) m) := by
  rcases h with ⟨rfl, _⟩ | ⟨_, h, _⟩ | ⟨_, h, _⟩
  · refine ⟨rfl, .inr (.inl ⟨rfl, ?_, .inr ?_⟩)⟩
    · rw [vs_same (jP_w p m).1 (jP_w p m).2.1]; exact mend_rej p m
    · rw [(ref_of hr).2.2]
  · exact absurd h hr
  · exact absurd h hr
theorem lv_nak {k : Nat} {p : Po} {m : List Opt} (h : Lv k p m) (hc : p.c.can ≤ 3) (hmn : 1 ≤ p.c.mn) (hr : refs (vs p m) = []) (hp : ¬ poors (vs p m) = []) : k ≤ 1 ∧ (¬ (p.naks : Int) = p.c.mn) ∧ Lv (k + 1) (jP p m) (mend 3 (insts (vs p m)) m) := by
  have key : refs (vs (jP p m) (mend 3 (insts (vs p m)) m)) = [] ∧ poors (vs (jP p m) (mend 3 (insts (vs p m)) m)) = [] := by
    rw [vs_same (jP_w p m).1 (jP_w p m).2.1, mend_nak hr]
    exact sug_clean hr hc
  rcases h with ⟨rfl, h⟩ | ⟨rfl, _, h⟩ | ⟨_, _, h⟩
  · exact ⟨by omega, by rw [h]; omega, .inr (.inl ⟨rfl, key.1, .inl key.2⟩)⟩
  · rcases h with h | h
    · exact absurd h hp
    · exact ⟨by omega, by rw [h]; omega, .inr (.inr ⟨rfl, key⟩)⟩
  · exact absurd h hp
theorem mru_ge {p : Po} {m : List Opt} {y : Lcp} (hr : refs (vs p m) = []) (hp : poors (vs p m) = []) (hy : Rep y m) (hh : y.hm = true) : 64 ≤ y.mru := by
  obtain ⟨d, hd⟩ := (hy.2.1 1 rfl).1 hh
  have h1 := acks_good hr hp _ hd
  have h2 := hy.2.2 1 d hd
  have h3 : dat 1 (bet p 1 (lo (1, d))) = d := congrArg (fun z : Opt => z.2) h1.1
  have h4 : d = dat 1 (lo (1, d)) := (lo_dat h1.2).symm
  have e : (lo (1, d)).mru = y.mru := by
    have h5 : bOf (numS (lo (1, d)).mru.toNat 2) = bOf (numS y.mru.toNat 2) := by
      have : dat 1 (lo (1, d)) = dat 1 y := by rw [← h4, h2]
      exact this
    rw [← numS_u16 (lo (1, d)).mru, h5, numS_u16]
  have h6 : bOf (numS (if (lo (1, d)).mru < 64 then (64 : UInt16) else (lo (1, d)).mru).toNat 2) = bOf (numS (lo (1, d)).mru.toNat 2) := by
    have h7 : dat 1 (bet p 1 (lo (1, d))) = dat 1 (lo (1, d)) := by rw [h3, ← h4]
    exact h7
  have h8 : (if (lo (1, d)).mru < 64 then (64 : UInt16) else (lo (1, d)).mru) = (lo (1, d)).mru := by
    rw [← numS_u16 (if (lo (1, d)).mru < 64 then (64 : UInt16) else (lo (1, d)).mru), h6, numS_u16]
  rw [e] at h8
  by_cases hl : y.mru < 64
  · rw [if_pos hl] at h8
    rw [← h8] at hl
    exact absurd hl (by decide)
  · exact UInt16.not_lt.1 hl
set_option maxHeartbeats 16000000 in
set_option maxRecDepth 100000 in
theorem walk (cf : Conf) (mg : UInt32) (A : Option Addr) (n c : Nat) (l : List Opt) (w : World) (hn : n ≤ maxLen) (hA : A = none → c = 0) (hl : Opts w w.heap.size A n l) :
    Calls Try.prog 4 #[.agg #[Value.int .u16 cf.mru.toNat, .bool cf.ha, .int .u32 cf.accm.toNat, .int .u8 cf.auth.toNat, .int .u8 cf.takes.toNat, .int .u8 cf.can.toNat, .bool cf.mg, .bool cf.pfc, .bool cf.acfc, .int .i64 cf.mn], .int .u32 mg.toNat, .slice A n c] w fun e w' => e = .returned (.bool true) ∧ Below w.heap.size w w' := by
  obtain ⟨i0, hi, hz0, hz1, hz2⟩ := info_parts Try.info41
  obtain ⟨W, hW, HW⟩ := boxC w cf
  obtain ⟨c0, c1, c2, c3, c4, c5, c6, c7, c8, c9⟩ := HW.out.1.all
  have HB := Lib.hid HW.out.2.1
  have HL := Lib.hid hl
  have HG := Lib.hid (long_row l A n c W ((hl.below HB.out).more HB.out.size) hn)
  clear hl HW
  go_enter Try.func4, Try.ntmps4
  go_wp2_with fail
  refine HG.out.mono ?_
  rintro e _ ⟨b, rfl, hb, rfl⟩
  cases b
  · obtain ⟨hn70, _⟩ := hb rfl
    clear hb HG hn
    cases hm : mayC cf
    · go_wp2_with fail
      refine (new_no cf mg W hm).mono ?_
      rintro e w1 ⟨rfl, hb1⟩
      have HB1 := Lib.hid (HB.out.trans (hb1.mono HB.out.size))
      clear hb1 hm
      go_wp2_with fail
      refine (alive_any _).mono ?_
      rintro e w2 ⟨rfl, hb2⟩
      have HB2 := Lib.hid (HB1.out.trans (hb2.mono HB1.out.size))
      clear hb2
      go_wp2
      go_ret
      exact ⟨rfl, HB2.out⟩
    · have HK := Lib.hid (newP_ok mg hm)
      go_wp2_with fail
      refine (new_ok cf mg W hm).mono ?_
      rintro e w1 ⟨g, rfl, hg, hp, hb1⟩
      have HB1 := Lib.hid (HB.out.trans (hb1.mono HB.out.size))
      have HP1 := Lib.hid hp
      have HGl : Hid (w.heap.size ≤ g) := Nat.le_trans HB.out.size hg
      clear hb1 hp hg hm c0 c1 c2 c3 c4 c5 c6 c7 c8 c9 hW HB
      generalize newP cf mg = p at *
      have HO1 := Lib.hid ((HL.out.below HB1.out).more HB1.out.size)
      go_wp2_with (at_builtin; refine append_opts rfl _ _ 26 rfl w1.heap.size 41 i0 _ 24 Try.underlying26 hi hz0 hz1 hz2 rfl _ 0 [] rfl (World.ownsRow_nil _ _ _ _) _ A n c l hA rfl HO1.out (by unfold maxLen; omega) (by omega) (Nat.le_refl _) ?_; intro v1 w2 hown1 hgr1; have Hown1 := Lib.hid hown1; have Hgr1 := Lib.hid hgr1; clear hown1 hgr1)
      have H0 : Hid (∃ (A1 : Option Addr) (c1 : Nat), v1 = .slice A1 n c1 ∧ (A1 = none → c1 = 0) ∧ Ms w w2 g p A1 n l 0) := by
        have h1 := Hown1.out
        rw [List.nil_append, Nat.zero_add] at h1
        have hb2 : Below w1.heap.size w1 w2 := (Below.refl _ _).grown Hgr1.out (Nat.le_refl _) (fun q hq => by cases hq)
        obtain ⟨A1, c1, e1, hO⟩ := opts_own h1 HL.out.2.1
        refine ⟨A1, c1, e1, fun e => ?_, HP1.out.callee hb2, hO, HB1.out.trans (hb2.mono HB1.out.size), HGl.out, HK.out.2.2.2, HK.out.2.2.1, by rw [HK.out.1]; omega, by rw [HK.out.2.1]; omega, .inl ⟨rfl, HK.out.1⟩⟩
        subst e
        subst e1
        rcases h1.2 with ⟨h2, _⟩ | ⟨g, cap, cur, h2, _⟩
        · cases h2; rfl
        · cases h2
      clear Hown1 Hgr1 HO1 HP1 HB1 HK HGl
      go_loopw [9, 10] (fun v i wr => ∃ (k : Nat) (p' : Po) (m : List Opt) (A1 : Option Addr) (n1 q1 : Nat), k ≤ 2 ∧ i = .int .i64 k ∧ v = .slice A1 n1 q1 ∧ n1 ≤ 70 ∧ Hid (A1 = none → q1 = 0) ∧ Hid (Ms w wr g p' A1 n1 m k)) (fun _ i _ => 3 - (intOf i).toNat)
      case atStart =>
        obtain ⟨A1, q1, rfl, hA1, hM⟩ := H0.out
        exact ⟨0, p, l, A1, n, q1, by omega, rfl, rfl, hn70, hA1, hM⟩
      case round =>
        obtain ⟨k, p', m, A1, n1, q1, hk, rfl, rfl, hn1, HA1, HM⟩ := hrel
        have hk1 : (k : Int) < 3 := by omega
        have hk2 := decide_eq_true hk1
        have hnk : p'.naks ≤ 1000 := by have := HM.out.n1; omega
        have hlk : p'.loops ≤ 1000000 := by have := HM.out.n2; omega
        clear H0
        by_cases hr : refs (vs p' m) = []
        · by_cases hp : poors (vs p' m) = []
          · obtain ⟨hC, ha, hP⟩ := ack_of hr hp
            obtain ⟨y, hy, hrep⟩ := got_all (fun o ho => (acks_good hr hp o ho).2) ((clean p' m).1 hr).2
            have HJ := Lib.hid (judge_at (m := n1) HM.out.hp HM.out.ho HA1.out (by omega) hnk hlk hC ha HM.out.ho.1)
            have HY := Lib.hid hy
            have HMR := Lib.hid (mru_ge hr hp hrep)
            have HPe : Hid ((jP p' m).peer = y) := by show _ = _; rw [hP]; exact (get_some hy).1
            clear hC ha hP hr hp hy hrep hnk hlk
            go_wp2_with fail
            refine HJ.out.mono ?_
            rintro e w2 ⟨A2, q2, rfl, ho2, hp2, hm2⟩
            have HB2 := Lib.hid (HM.out.hb.trans (hm2.below HM.out.hb.size (fun k e => by rw [e]; exact HM.out.hg)))
            have HP2 := Lib.hid hp2
            have HO2 : Hid (Opts w2 w2.heap.size A1 n1 m) := (opts_past HM.out.ho HM.out.hp (pv_no _) hm2 (Nat.le_refl _)).more hm2.size
            clear ho2 hp2 hm2 HJ
            go_wp2_with fail
            refine (get_row m A1 n1 q1 w2 HO2.out (by omega)).mono ?_
            rintro e w3 hq
            obtain ⟨A3, c3, rfl, _, hb3⟩ := getQ_some HY.out hq
            rw [List.length_nil]
            unfold lv
            obtain ⟨w5, hW5, HV⟩ := boxL w3 y
            have HB5 : Hid (Below w.heap.size w w5) := (HB2.out.trans (hb3.mono HB2.out.size)).trans (HV.out.2.1.mono (HB2.out.trans (hb3.mono HB2.out.size)).size)
            have HP5 := Lib.hid ((HP2.out.callee hb3).callee HV.out.2.1)
            have HY5 := Lib.hid HV.out.1
            have HPE := HPe
            clear hq hb3 HB2 HP2 HO2 HM HV HY HA1
            generalize jP p' m = p' at *
            obtain ⟨x0, x1, x2, x3, x4, x5, x6, x7, x8⟩ := cells9 HY5.out
            have hEq := fun w => lcp_eq (x := y) (y := y) (decide_eq_true rfl) w
            have hEl := fun w => lcp_eql (x := y) (y := y) (decide_eq_true rfl) w
            cases hh : y.hm
            · rw [hh] at x0 hEq hEl hW5
              have HH := Lib.hid hh
              clear hh
              go_wp2_with fail
              clear hW5
              refine wp_region_held_drew (S := (fun w' => w'.cell? ⟨w3.heap.size, 0, none⟩ = some (Value.bool false) ∧ w'.cell? ⟨w3.heap.size, 1, none⟩ = some (.int .u16 y.mru.toNat) ∧ w'.cell? ⟨w3.heap.size, 2, none⟩ = some (.bool y.ha) ∧ w'.cell? ⟨w3.heap.size, 3, none⟩ = some (.int .u32 y.accm.toNat) ∧ w'.cell? ⟨w3.heap.size, 4, none⟩ = some (.int .u8 y.auth.toNat) ∧ w'.cell? ⟨w3.heap.size, 5, none⟩ = some (.bool y.hg) ∧ w'.cell? ⟨w3.heap.size, 6, none⟩ = some (.int .u32 y.magic.toNat) ∧ w'.cell? ⟨w3.heap.size, 7, none⟩ = some (.bool y.pfc) ∧ w'.cell? ⟨w3.heap.size, 8, none⟩ = some (.bool y.acfc))) (by kernel_rfl) ⟨x0, x1, x2, x3, x4, x5, x6, x7, x8⟩ (fun hHeld => ?_)
              refine wpAnyH_take (i := 0) (v := ?vv0_1) rfl (by kernel_rfl) (by kernel_rfl) (by kernel_rfl) (fun _ _ _ h => h) (Or.inl ⟨by rfl, ?yy0_1⟩) (by assumption) ?rr0_1
              case yy0_1 => (intro w hSw; (try dsimp only at hSw); obtain ⟨hs0, hs1, hs2, hs3, hs4, hs5, hs6, hs7, hs8⟩ := hSw; (try simp only [List.getElem_toArray, List.getElem_cons_succ, List.getElem_cons_zero, Act.put, List.setIfInBounds_toArray, List.set_cons_zero, List.set_cons_succ]); go_simp; (try (with_reducible rfl)))
              try simp only [List.getElem_toArray, List.getElem_cons_succ, List.getElem_cons_zero, Act.put, List.setIfInBounds_toArray, List.set_cons_zero, List.set_cons_succ]
              refine wpAnyH_take (i := 2) (v := ?vv2_2) rfl (by kernel_rfl) (by kernel_rfl) (by kernel_rfl) (fun _ _ _ h => h) (Or.inl ⟨by rfl, ?yy2_2⟩) (by assumption) ?rr2_2
              case yy2_2 => (intro w hSw; (try dsimp only at hSw); obtain ⟨hs0, hs1, hs2, hs3, hs4, hs5, hs6, hs7, hs8⟩ := hSw; (try simp only [List.getElem_toArray, List.getElem_cons_succ, List.getElem_cons_zero, Act.put, List.setIfInBounds_toArray, List.set_cons_zero, List.set_cons_succ]); go_simp; (try (with_reducible rfl)))
              try simp only [List.getElem_toArray, List.getElem_cons_succ, List.getElem_cons_zero, Act.put, List.setIfInBounds_toArray, List.set_cons_zero, List.set_cons_succ]
              refine wpAnyH_ready (rs := [1]) (by kernel_rfl) (by simp) ?_
              refine AllReadyH.cons (o := _) rfl (fun K hK => ?_) AllReadyH.nil
              try simp only [List.getElem_toArray, List.getElem_cons_succ, List.getElem_cons_zero, Act.put, List.setIfInBounds_toArray, List.set_cons_zero, List.set_cons_succ]
              go_simp
              refine (peer_any g p' w5.drew HP5.out).mono ?_
              rintro e w6 ⟨rfl, hb6⟩
              rw [HPE.out]
              unfold lv
              have HB6 := Lib.hid (HB5.out.drew.trans (hb6.mono HB5.out.drew.size))
              have HY6 : Hid (LAt w6 w3.heap.size y) := LAt.callee (W := w5.drew) HY5.out hb6
              obtain ⟨z0, z1, z2, z3, z4, z5, z6, z7, z8⟩ := cells9 HY6.out
              rw [HH.out] at z0
              clear hb6
              rw [HH.out]
              refine hK.out _ _ ⟨z0, z1, z2, z3, z4, z5, z6, z7, z8⟩ (fun hHeld => ?_)
              clear hK K
              try simp only [List.getElem_toArray, List.getElem_cons_succ, List.getElem_cons_zero, Act.put, List.setIfInBounds_toArray, List.set_cons_zero, List.set_cons_succ]
              refine wpAnyH_take (i := 3) (v := ?vv3_3) rfl (by kernel_rfl) (by kernel_rfl) (by kernel_rfl) (fun _ _ _ h => h) (Or.inl ⟨by rfl, ?yy3_3⟩) (by assumption) ?rr3_3
              case yy3_3 => (intro w hSw; (try dsimp only at hSw); obtain ⟨hs0, hs1, hs2, hs3, hs4, hs5, hs6, hs7, hs8⟩ := hSw; (try simp only [List.getElem_toArray, List.getElem_cons_succ, List.getElem_cons_zero, Act.put, List.setIfInBounds_toArray, List.set_cons_zero, List.set_cons_succ]); go_simp; (try (with_reducible rfl)))
              try simp only [List.getElem_toArray, List.getElem_cons_succ, List.getElem_cons_zero, Act.put, List.setIfInBounds_toArray, List.set_cons_zero, List.set_cons_succ]
              refine wpAnyH_take (i := 4) (v := ?vv4_4) rfl (by kernel_rfl) (by kernel_rfl) (by kernel_rfl) (fun _ _ _ h => h) (Or.inl ⟨by rfl, ?yy4_4⟩) (by assumption) ?rr4_4
              case yy4_4 => (intro w hSw; (try dsimp only at hSw); obtain ⟨hs0, hs1, hs2, hs3, hs4, hs5, hs6, hs7, hs8⟩ := hSw; (try simp only [List.getElem_toArray, List.getElem_cons_succ, List.getElem_cons_zero, Act.put, List.setIfInBounds_toArray, List.set_cons_zero, List.set_cons_succ]); go_simp; (try (with_reducible rfl)))
              try simp only [List.getElem_toArray, List.getElem_cons_succ, List.getElem_cons_zero, Act.put, List.setIfInBounds_toArray, List.set_cons_zero, List.set_cons_succ]
              refine wpAnyH_take (i := 5) (v := ?vv5_5) rfl (by kernel_rfl) (by kernel_rfl) (by kernel_rfl) (fun _ _ _ h => h) (Or.inl ⟨by rfl, ?yy5_5⟩) (by assumption) ?rr5_5
              case yy5_5 => (intro w hSw; (try dsimp only at hSw); obtain ⟨hs0, hs1, hs2, hs3, hs4, hs5, hs6, hs7, hs8⟩ := hSw; (try simp only [List.getElem_toArray, List.getElem_cons_succ, List.getElem_cons_zero, Act.put, List.setIfInBounds_toArray, List.set_cons_zero, List.set_cons_succ]); go_simp; (try (with_reducible rfl)))
              try simp only [List.getElem_toArray, List.getElem_cons_succ, List.getElem_cons_zero, Act.put, List.setIfInBounds_toArray, List.set_cons_zero, List.set_cons_succ]
              refine wpAnyH_take (i := 6) (v := ?vv6_6) rfl (by kernel_rfl) (by kernel_rfl) (by kernel_rfl) (fun _ _ _ h => h) (Or.inl ⟨by rfl, ?yy6_6⟩) (by assumption) ?rr6_6
              case yy6_6 => (intro w hSw; (try dsimp only at hSw); obtain ⟨hs0, hs1, hs2, hs3, hs4, hs5, hs6, hs7, hs8⟩ := hSw; (try simp only [List.getElem_toArray, List.getElem_cons_succ, List.getElem_cons_zero, Act.put, List.setIfInBounds_toArray, List.set_cons_zero, List.set_cons_succ]); go_simp; (try (with_reducible rfl)))
              try simp only [List.getElem_toArray, List.getElem_cons_succ, List.getElem_cons_zero, Act.put, List.setIfInBounds_toArray, List.set_cons_zero, List.set_cons_succ]
              refine wpAnyH_take (i := 7) (v := ?vv7_7) rfl (by kernel_rfl) (by kernel_rfl) (by kernel_rfl) (fun _ _ _ h => h) (Or.inl ⟨by rfl, ?yy7_7⟩) (by assumption) ?rr7_7
              case yy7_7 => (intro w hSw; (try dsimp only at hSw); obtain ⟨hs0, hs1, hs2, hs3, hs4, hs5, hs6, hs7, hs8⟩ := hSw; (try simp only [List.getElem_toArray, List.getElem_cons_succ, List.getElem_cons_zero, Act.put, List.setIfInBounds_toArray, List.set_cons_zero, List.set_cons_succ]); go_simp; (try (with_reducible rfl)))
              try simp only [List.getElem_toArray, List.getElem_cons_succ, List.getElem_cons_zero, Act.put, List.setIfInBounds_toArray, List.set_cons_zero, List.set_cons_succ]
              refine wpAnyH_take (i := 8) (v := ?vv8_8) rfl (by kernel_rfl) (by kernel_rfl) (by kernel_rfl) (fun _ _ _ h => h) (Or.inl ⟨by rfl, ?yy8_8⟩) (by assumption) ?rr8_8
              case yy8_8 => (intro w hSw; (try dsimp only at hSw); obtain ⟨hs0, hs1, hs2, hs3, hs4, hs5, hs6, hs7, hs8⟩ := hSw; (try simp only [List.getElem_toArray, List.getElem_cons_succ, List.getElem_cons_zero, Act.put, List.setIfInBounds_toArray, List.set_cons_zero, List.set_cons_succ]); go_simp; (try (with_reducible rfl)))
              try simp only [List.getElem_toArray, List.getElem_cons_succ, List.getElem_cons_zero, Act.put, List.setIfInBounds_toArray, List.set_cons_zero, List.set_cons_succ]
              refine wpAnyH_take (i := 9) (v := ?vv9_9) rfl (by kernel_rfl) (by kernel_rfl) (by kernel_rfl) (fun _ _ _ h => h) (Or.inl ⟨by rfl, ?yy9_9⟩) (by assumption) ?rr9_9
              case yy9_9 => (intro w hSw; (try dsimp only at hSw); obtain ⟨hs0, hs1, hs2, hs3, hs4, hs5, hs6, hs7, hs8⟩ := hSw; (try simp only [List.getElem_toArray, List.getElem_cons_succ, List.getElem_cons_zero, Act.put, List.setIfInBounds_toArray, List.set_cons_zero, List.set_cons_succ]); go_simp; (try (with_reducible rfl)))
              try simp only [List.getElem_toArray, List.getElem_cons_succ, List.getElem_cons_zero, Act.put, List.setIfInBounds_toArray, List.set_cons_zero, List.set_cons_succ]
              refine wpAnyH_take (i := 10) (v := ?vv10_10) rfl (by kernel_rfl) (by kernel_rfl) (by kernel_rfl) (fun _ _ _ h => h) (Or.inl ⟨by rfl, ?yy10_10⟩) (by assumption) ?rr10_10
              case yy10_10 => (intro w hSw; (try dsimp only at hSw); obtain ⟨hs0, hs1, hs2, hs3, hs4, hs5, hs6, hs7, hs8⟩ := hSw; (try simp only [List.getElem_toArray, List.getElem_cons_succ, List.getElem_cons_zero, Act.put, List.setIfInBounds_toArray, List.set_cons_zero, List.set_cons_succ]); go_simp; (try (with_reducible rfl)))
              try simp only [List.getElem_toArray, List.getElem_cons_succ, List.getElem_cons_zero, Act.put, List.setIfInBounds_toArray, List.set_cons_zero, List.set_cons_succ]
              refine wpAnyH_take (i := 11) (v := ?vv11_11) rfl (by kernel_rfl) (by kernel_rfl) (by kernel_rfl) (fun _ _ _ h => h) (Or.inl ⟨by rfl, ?yy11_11⟩) (by assumption) ?rr11_11
              case yy11_11 => (intro w hSw; (try dsimp only at hSw); obtain ⟨hs0, hs1, hs2, hs3, hs4, hs5, hs6, hs7, hs8⟩ := hSw; (try simp only [List.getElem_toArray, List.getElem_cons_succ, List.getElem_cons_zero, Act.put, List.setIfInBounds_toArray, List.set_cons_zero, List.set_cons_succ]); go_simp; (try (with_reducible rfl)))
              try simp only [List.getElem_toArray, List.getElem_cons_succ, List.getElem_cons_zero, Act.put, List.setIfInBounds_toArray, List.set_cons_zero, List.set_cons_succ]
              refine wpAnyH_take (i := 12) (v := ?vv12_12) rfl (by kernel_rfl) (by kernel_rfl) (by kernel_rfl) (fun _ _ _ h => h) (Or.inl ⟨by rfl, ?yy12_12⟩) (by assumption) ?rr12_12
              case yy12_12 => (intro w hSw; (try dsimp only at hSw); obtain ⟨hs0, hs1, hs2, hs3, hs4, hs5, hs6, hs7, hs8⟩ := hSw; (try simp only [List.getElem_toArray, List.getElem_cons_succ, List.getElem_cons_zero, Act.put, List.setIfInBounds_toArray, List.set_cons_zero, List.set_cons_succ]); go_simp; (try (with_reducible rfl)))
              try simp only [List.getElem_toArray, List.getElem_cons_succ, List.getElem_cons_zero, Act.put, List.setIfInBounds_toArray, List.set_cons_zero, List.set_cons_succ]
              refine wpAnyH_take (i := 13) (v := ?vv13_13) rfl (by kernel_rfl) (by kernel_rfl) (by kernel_rfl) (fun _ _ _ h => h) (Or.inl ⟨by rfl, ?yy13_13⟩) (by assumption) ?rr13_13
              case yy13_13 => (intro w hSw; (try dsimp only at hSw); obtain ⟨hs0, hs1, hs2, hs3, hs4, hs5, hs6, hs7, hs8⟩ := hSw; (try simp only [List.getElem_toArray, List.getElem_cons_succ, List.getElem_cons_zero, Act.put, List.setIfInBounds_toArray, List.set_cons_zero, List.set_cons_succ]); go_simp; (try (with_reducible rfl)))
              try simp only [List.getElem_toArray, List.getElem_cons_succ, List.getElem_cons_zero, Act.put, List.setIfInBounds_toArray, List.set_cons_zero, List.set_cons_succ]
              refine wpAnyH_take (i := 14) (v := ?vv14_14) rfl (by kernel_rfl) (by kernel_rfl) (by kernel_rfl) (fun _ _ _ h => h) (Or.inl ⟨by rfl, ?yy14_14⟩) (by assumption) ?rr14_14
              case yy14_14 => (intro w hSw; (try dsimp only at hSw); obtain ⟨hs0, hs1, hs2, hs3, hs4, hs5, hs6, hs7, hs8⟩ := hSw; (try simp only [List.getElem_toArray, List.getElem_cons_succ, List.getElem_cons_zero, Act.put, List.setIfInBounds_toArray, List.set_cons_zero, List.set_cons_succ]); go_simp; (try (with_reducible rfl)))
              try simp only [List.getElem_toArray, List.getElem_cons_succ, List.getElem_cons_zero, Act.put, List.setIfInBounds_toArray, List.set_cons_zero, List.set_cons_succ]
              refine wpAnyH_take (i := 15) (v := ?vv15_15) rfl (by kernel_rfl) (by kernel_rfl) (by kernel_rfl) (fun _ _ _ h => h) (Or.inl ⟨by rfl, ?yy15_15⟩) (by assumption) ?rr15_15
              case yy15_15 => (intro w hSw; (try dsimp only at hSw); obtain ⟨hs0, hs1, hs2, hs3, hs4, hs5, hs6, hs7, hs8⟩ := hSw; (try simp only [List.getElem_toArray, List.getElem_cons_succ, List.getElem_cons_zero, Act.put, List.setIfInBounds_toArray, List.set_cons_zero, List.set_cons_succ]); go_simp; (try (with_reducible rfl)))
              try simp only [List.getElem_toArray, List.getElem_cons_succ, List.getElem_cons_zero, Act.put, List.setIfInBounds_toArray, List.set_cons_zero, List.set_cons_succ]
              refine wpAnyH_take (i := 16) (v := ?vv16_16) rfl (by kernel_rfl) (by kernel_rfl) (by kernel_rfl) (fun _ _ _ h => h) (Or.inl ⟨by rfl, ?yy16_16⟩) (by assumption) ?rr16_16
              case yy16_16 => (intro w hSw; (try dsimp only at hSw); obtain ⟨hs0, hs1, hs2, hs3, hs4, hs5, hs6, hs7, hs8⟩ := hSw; (try simp only [List.getElem_toArray, List.getElem_cons_succ, List.getElem_cons_zero, Act.put, List.setIfInBounds_toArray, List.set_cons_zero, List.set_cons_succ]); go_simp; (try (with_reducible rfl)))
              try simp only [List.getElem_toArray, List.getElem_cons_succ, List.getElem_cons_zero, Act.put, List.setIfInBounds_toArray, List.set_cons_zero, List.set_cons_succ]
              refine wpAnyH_take (i := 17) (v := ?vv17_17) rfl (by kernel_rfl) (by kernel_rfl) (by kernel_rfl) (fun _ _ _ h => h) (Or.inl ⟨by rfl, ?yy17_17⟩) (by assumption) ?rr17_17
              case yy17_17 => (intro w hSw; (try dsimp only at hSw); obtain ⟨hs0, hs1, hs2, hs3, hs4, hs5, hs6, hs7, hs8⟩ := hSw; (try simp only [List.getElem_toArray, List.getElem_cons_succ, List.getElem_cons_zero, Act.put, List.setIfInBounds_toArray, List.set_cons_zero, List.set_cons_succ]); go_simp; (try (with_reducible rfl)))
              try simp only [List.getElem_toArray, List.getElem_cons_succ, List.getElem_cons_zero, Act.put, List.setIfInBounds_toArray, List.set_cons_zero, List.set_cons_succ]
              refine wpAnyH_take (i := 18) (v := undef) rfl (by kernel_rfl) (by kernel_rfl) (by kernel_rfl) (fun _ _ _ h => h) (Or.inr ⟨by rfl, rfl⟩) (by assumption) ?_
              try simp only [List.getElem_toArray, List.getElem_cons_succ, List.getElem_cons_zero, Act.put, List.setIfInBounds_toArray, List.set_cons_zero, List.set_cons_succ]
              refine wpAnyH_take (i := 19) (v := undef) rfl (by kernel_rfl) (by kernel_rfl) (by kernel_rfl) (fun _ _ _ h => h) (Or.inr ⟨by rfl, rfl⟩) (by assumption) ?_
              try simp only [List.getElem_toArray, List.getElem_cons_succ, List.getElem_cons_zero, Act.put, List.setIfInBounds_toArray, List.set_cons_zero, List.set_cons_succ]
              refine wpAnyH_take (i := 20) (v := undef) rfl (by kernel_rfl) (by kernel_rfl) (by kernel_rfl) (fun _ _ _ h => h) (Or.inr ⟨by rfl, rfl⟩) (by assumption) ?_
              try simp only [List.getElem_toArray, List.getElem_cons_succ, List.getElem_cons_zero, Act.put, List.setIfInBounds_toArray, List.set_cons_zero, List.set_cons_succ]
              refine wpAnyH_take (i := 21) (v := ?vv21_18) rfl (by kernel_rfl) (by kernel_rfl) (by kernel_rfl) (fun _ _ _ h => h) (Or.inl ⟨by rfl, ?yy21_18⟩) (by assumption) ?rr21_18
              case yy21_18 => (intro w hSw; (try dsimp only at hSw); obtain ⟨hs0, hs1, hs2, hs3, hs4, hs5, hs6, hs7, hs8⟩ := hSw; (try simp only [List.getElem_toArray, List.getElem_cons_succ, List.getElem_cons_zero, Act.put, List.setIfInBounds_toArray, List.set_cons_zero, List.set_cons_succ]); go_simp; (try (with_reducible rfl)))
              try simp only [List.getElem_toArray, List.getElem_cons_succ, List.getElem_cons_zero, Act.put, List.setIfInBounds_toArray, List.set_cons_zero, List.set_cons_succ]
              refine wpAnyH_take (i := 22) (v := ?vv22_19) rfl (by kernel_rfl) (by kernel_rfl) (by kernel_rfl) (fun _ _ _ h => h) (Or.inl ⟨by rfl, ?yy22_19⟩) (by assumption) ?rr22_19
              case yy22_19 => (intro w hSw; (try dsimp only at hSw); obtain ⟨hs0, hs1, hs2, hs3, hs4, hs5, hs6, hs7, hs8⟩ := hSw; (try simp only [List.getElem_toArray, List.getElem_cons_succ, List.getElem_cons_zero, Act.put, List.setIfInBounds_toArray, List.set_cons_zero, List.set_cons_succ]); go_simp; (try (with_reducible rfl)))
              try simp only [List.getElem_toArray, List.getElem_cons_succ, List.getElem_cons_zero, Act.put, List.setIfInBounds_toArray, List.set_cons_zero, List.set_cons_succ]
              refine wpAnyH_take (i := 23) (v := ?vv23_20) rfl (by kernel_rfl) (by kernel_rfl) (by kernel_rfl) (fun _ _ _ h => h) (Or.inl ⟨by rfl, ?yy23_20⟩) (by assumption) ?rr23_20
              case yy23_20 => (intro w hSw; (try dsimp only at hSw); obtain ⟨hs0, hs1, hs2, hs3, hs4, hs5, hs6, hs7, hs8⟩ := hSw; (try simp only [List.getElem_toArray, List.getElem_cons_succ, List.getElem_cons_zero, Act.put, List.setIfInBounds_toArray, List.set_cons_zero, List.set_cons_succ]); go_simp; (try (with_reducible rfl)))
              try simp only [List.getElem_toArray, List.getElem_cons_succ, List.getElem_cons_zero, Act.put, List.setIfInBounds_toArray, List.set_cons_zero, List.set_cons_succ]
              refine wpAnyH_ready (rs := [24]) (by kernel_rfl) (by simp) ?_
              refine AllReadyH.cons (o := _) rfl (fun K hK => ?_) AllReadyH.nil
              try simp only [List.getElem_toArray, List.getElem_cons_succ, List.getElem_cons_zero, Act.put, List.setIfInBounds_toArray, List.set_cons_zero, List.set_cons_succ]
              go_simp
              refine (alive_any _).mono ?_
              rintro e w7 ⟨rfl, hb7⟩
              have HB7 := Lib.hid (HB6.out.trans (hb7.mono HB6.out.size))
              have HY7 := Lib.hid (LAt.callee HY6.out hb7)
              obtain ⟨y0, y1, y2, y3, y4, y5, y6, y7, y8⟩ := cells9 HY7.out
              rw [HH.out] at y0
              clear hb7
              refine hK.out _ _ ⟨y0, y1, y2, y3, y4, y5, y6, y7, y8⟩ (fun hHeld => ?_)
              clear hK K
              try simp only [List.getElem_toArray, List.getElem_cons_succ, List.getElem_cons_zero, Act.put, List.setIfInBounds_toArray, List.set_cons_zero, List.set_cons_succ]
              refine wpAnyH_take (i := 25) (v := ?vv25_21) rfl (by kernel_rfl) (by kernel_rfl) (by kernel_rfl) (fun _ _ _ h => h) (Or.inl ⟨by rfl, ?yy25_21⟩) (by assumption) ?rr25_21
              case yy25_21 => (intro w hSw; (try dsimp only at hSw); obtain ⟨hs0, hs1, hs2, hs3, hs4, hs5, hs6, hs7, hs8⟩ := hSw; (try simp only [List.getElem_toArray, List.getElem_cons_succ, List.getElem_cons_zero, Act.put, List.setIfInBounds_toArray, List.set_cons_zero, List.set_cons_succ]); go_simp; (try (with_reducible rfl)))
              try simp only [List.getElem_toArray, List.getElem_cons_succ, List.getElem_cons_zero, Act.put, List.setIfInBounds_toArray, List.set_cons_zero, List.set_cons_succ]
              refine wpAnyH_take (i := 26) (v := ?vv26_22) rfl (by kernel_rfl) (by kernel_rfl) (by kernel_rfl) (fun _ _ _ h => h) (Or.inl ⟨by rfl, ?yy26_22⟩) (by assumption) ?rr26_22
              case yy26_22 => (intro w hSw; (try dsimp only at hSw); obtain ⟨hs0, hs1, hs2, hs3, hs4, hs5, hs6, hs7, hs8⟩ := hSw; (try simp only [List.getElem_toArray, List.getElem_cons_succ, List.getElem_cons_zero, Act.put, List.setIfInBounds_toArray, List.set_cons_zero, List.set_cons_succ]); go_simp; (try (with_reducible rfl)))
              try simp only [List.getElem_toArray, List.getElem_cons_succ, List.getElem_cons_zero, Act.put, List.setIfInBounds_toArray, List.set_cons_zero, List.set_cons_succ]
              refine wpAnyH_done (by kernel_rfl) ?_ _
              go_wp2
              go_ret
              exact ⟨rfl, HB7.out⟩
            · rw [hh] at x0 hEq hEl hW5
              have HH := Lib.hid hh
              have h64 : decide ((64 : Int) ≤ (y.mru.toNat : Int)) = true := by
                have h1 : 64 ≤ y.mru.toNat := UInt16.le_iff_toNat_le.1 (HMR.out hh)
                exact decide_eq_true (by omega)
              clear hh
              go_wp2_with fail
              clear hW5
              refine wp_region_held_drew (S := (fun w' => w'.cell? ⟨w3.heap.size, 0, none⟩ = some (Value.bool true) ∧ w'.cell? ⟨w3.heap.size, 1, none⟩ = some (.int .u16 y.mru.toNat) ∧ w'.cell? ⟨w3.heap.size, 2, none⟩ = some (.bool y.ha) ∧ w'.cell? ⟨w3.heap.size, 3, none⟩ = some (.int .u32 y.accm.toNat) ∧ w'.cell? ⟨w3.heap.size, 4, none⟩ = some (.int .u8 y.auth.toNat) ∧ w'.cell? ⟨w3.heap.size, 5, none⟩ = some (.bool y.hg) ∧ w'.cell? ⟨w3.heap.size, 6, none⟩ = some (.int .u32 y.magic.toNat) ∧ w'.cell? ⟨w3.heap.size, 7, none⟩ = some (.bool y.pfc) ∧ w'.cell? ⟨w3.heap.size, 8, none⟩ = some (.bool y.acfc))) (by kernel_rfl) ⟨x0, x1, x2, x3, x4, x5, x6, x7, x8⟩ (fun hHeld => ?_)
              refine wpAnyH_take (i := 0) (v := ?vv0_23) rfl (by kernel_rfl) (by kernel_rfl) (by kernel_rfl) (fun _ _ _ h => h) (Or.inl ⟨by rfl, ?yy0_23⟩) (by assumption) ?rr0_23
              case yy0_23 => (intro w hSw; (try dsimp only at hSw); obtain ⟨hs0, hs1, hs2, hs3, hs4, hs5, hs6, hs7, hs8⟩ := hSw; (try simp only [List.getElem_toArray, List.getElem_cons_succ, List.getElem_cons_zero, Act.put, List.setIfInBounds_toArray, List.set_cons_zero, List.set_cons_succ]); go_simp; (try (with_reducible rfl)))
              try simp only [List.getElem_toArray, List.getElem_cons_succ, List.getElem_cons_zero, Act.put, List.setIfInBounds_toArray, List.set_cons_zero, List.set_cons_succ]
              refine wpAnyH_take (i := 2) (v := ?vv2_24) rfl (by kernel_rfl) (by kernel_rfl) (by kernel_rfl) (fun _ _ _ h => h) (Or.inl ⟨by rfl, ?yy2_24⟩) (by assumption) ?rr2_24
              case yy2_24 => (intro w hSw; (try dsimp only at hSw); obtain ⟨hs0, hs1, hs2, hs3, hs4, hs5, hs6, hs7, hs8⟩ := hSw; (try simp only [List.getElem_toArray, List.getElem_cons_succ, List.getElem_cons_zero, Act.put, List.setIfInBounds_toArray, List.set_cons_zero, List.set_cons_succ]); go_simp; (try (with_reducible rfl)))
              try simp only [List.getElem_toArray, List.getElem_cons_succ, List.getElem_cons_zero, Act.put, List.setIfInBounds_toArray, List.set_cons_zero, List.set_cons_succ]
              refine wpAnyH_ready (rs := [1]) (by kernel_rfl) (by simp) ?_
              refine AllReadyH.cons (o := _) rfl (fun K hK => ?_) AllReadyH.nil
              try simp only [List.getElem_toArray, List.getElem_cons_succ, List.getElem_cons_zero, Act.put, List.setIfInBounds_toArray, List.set_cons_zero, List.set_cons_succ]
              go_simp
              refine (peer_any g p' w5.drew HP5.out).mono ?_
              rintro e w6 ⟨rfl, hb6⟩
              rw [HPE.out]
              unfold lv
              have HB6 := Lib.hid (HB5.out.drew.trans (hb6.mono HB5.out.drew.size))
              have HY6 : Hid (LAt w6 w3.heap.size y) := LAt.callee (W := w5.drew) HY5.out hb6
              obtain ⟨z0, z1, z2, z3, z4, z5, z6, z7, z8⟩ := cells9 HY6.out
              rw [HH.out] at z0
              clear hb6
              rw [HH.out]
              refine hK.out _ _ ⟨z0, z1, z2, z3, z4, z5, z6, z7, z8⟩ (fun hHeld => ?_)
              clear hK K
              try simp only [List.getElem_toArray, List.getElem_cons_succ, List.getElem_cons_zero, Act.put, List.setIfInBounds_toArray, List.set_cons_zero, List.set_cons_succ]
              refine wpAnyH_take (i := 3) (v := ?vv3_25) rfl (by kernel_rfl) (by kernel_rfl) (by kernel_rfl) (fun _ _ _ h => h) (Or.inl ⟨by rfl, ?yy3_25⟩) (by assumption) ?rr3_25
              case yy3_25 => (intro w hSw; (try dsimp only at hSw); obtain ⟨hs0, hs1, hs2, hs3, hs4, hs5, hs6, hs7, hs8⟩ := hSw; (try simp only [List.getElem_toArray, List.getElem_cons_succ, List.getElem_cons_zero, Act.put, List.setIfInBounds_toArray, List.set_cons_zero, List.set_cons_succ]); go_simp; (try (with_reducible rfl)))
              try simp only [List.getElem_toArray, List.getElem_cons_succ, List.getElem_cons_zero, Act.put, List.setIfInBounds_toArray, List.set_cons_zero, List.set_cons_succ]
              refine wpAnyH_take (i := 4) (v := ?vv4_26) rfl (by kernel_rfl) (by kernel_rfl) (by kernel_rfl) (fun _ _ _ h => h) (Or.inl ⟨by rfl, ?yy4_26⟩) (by assumption) ?rr4_26
              case yy4_26 => (intro w hSw; (try dsimp only at hSw); obtain ⟨hs0, hs1, hs2, hs3, hs4, hs5, hs6, hs7, hs8⟩ := hSw; (try simp only [List.getElem_toArray, List.getElem_cons_succ, List.getElem_cons_zero, Act.put, List.setIfInBounds_toArray, List.set_cons_zero, List.set_cons_succ]); go_simp; (try (with_reducible rfl)))
              try simp only [List.getElem_toArray, List.getElem_cons_succ, List.getElem_cons_zero, Act.put, List.setIfInBounds_toArray, List.set_cons_zero, List.set_cons_succ]
              refine wpAnyH_take (i := 5) (v := ?vv5_27) rfl (by kernel_rfl) (by kernel_rfl) (by kernel_rfl) (fun _ _ _ h => h) (Or.inl ⟨by rfl, ?yy5_27⟩) (by assumption) ?rr5_27
              case yy5_27 => (intro w hSw; (try dsimp only at hSw); obtain ⟨hs0, hs1, hs2, hs3, hs4, hs5, hs6, hs7, hs8⟩ := hSw; (try simp only [List.getElem_toArray, List.getElem_cons_succ, List.getElem_cons_zero, Act.put, List.setIfInBounds_toArray, List.set_cons_zero, List.set_cons_succ]); go_simp; (try (with_reducible rfl)))
              try simp only [List.getElem_toArray, List.getElem_cons_succ, List.getElem_cons_zero, Act.put, List.setIfInBounds_toArray, List.set_cons_zero, List.set_cons_succ]
              refine wpAnyH_take (i := 6) (v := ?vv6_28) rfl (by kernel_rfl) (by kernel_rfl) (by kernel_rfl) (fun _ _ _ h => h) (Or.inl ⟨by rfl, ?yy6_28⟩) (by assumption) ?rr6_28
              case yy6_28 => (intro w hSw; (try dsimp only at hSw); obtain ⟨hs0, hs1, hs2, hs3, hs4, hs5, hs6, hs7, hs8⟩ := hSw; (try simp only [List.getElem_toArray, List.getElem_cons_succ, List.getElem_cons_zero, Act.put, List.setIfInBounds_toArray, List.set_cons_zero, List.set_cons_succ]); go_simp; (try (with_reducible rfl)))
              try simp only [List.getElem_toArray, List.getElem_cons_succ, List.getElem_cons_zero, Act.put, List.setIfInBounds_toArray, List.set_cons_zero, List.set_cons_succ]
              refine wpAnyH_take (i := 7) (v := ?vv7_29) rfl (by kernel_rfl) (by kernel_rfl) (by kernel_rfl) (fun _ _ _ h => h) (Or.inl ⟨by rfl, ?yy7_29⟩) (by assumption) ?rr7_29
              case yy7_29 => (intro w hSw; (try dsimp only at hSw); obtain ⟨hs0, hs1, hs2, hs3, hs4, hs5, hs6, hs7, hs8⟩ := hSw; (try simp only [List.getElem_toArray, List.getElem_cons_succ, List.getElem_cons_zero, Act.put, List.setIfInBounds_toArray, List.set_cons_zero, List.set_cons_succ]); go_simp; (try (with_reducible rfl)))
              try simp only [List.getElem_toArray, List.getElem_cons_succ, List.getElem_cons_zero, Act.put, List.setIfInBounds_toArray, List.set_cons_zero, List.set_cons_succ]
              refine wpAnyH_take (i := 8) (v := ?vv8_30) rfl (by kernel_rfl) (by kernel_rfl) (by kernel_rfl) (fun _ _ _ h => h) (Or.inl ⟨by rfl, ?yy8_30⟩) (by assumption) ?rr8_30
              case yy8_30 => (intro w hSw; (try dsimp only at hSw); obtain ⟨hs0, hs1, hs2, hs3, hs4, hs5, hs6, hs7, hs8⟩ := hSw; (try simp only [List.getElem_toArray, List.getElem_cons_succ, List.getElem_cons_zero, Act.put, List.setIfInBounds_toArray, List.set_cons_zero, List.set_cons_succ]); go_simp; (try (with_reducible rfl)))
              try simp only [List.getElem_toArray, List.getElem_cons_succ, List.getElem_cons_zero, Act.put, List.setIfInBounds_toArray, List.set_cons_zero, List.set_cons_succ]
              refine wpAnyH_take (i := 9) (v := ?vv9_31) rfl (by kernel_rfl) (by kernel_rfl) (by kernel_rfl) (fun _ _ _ h => h) (Or.inl ⟨by rfl, ?yy9_31⟩) (by assumption) ?rr9_31
              case yy9_31 => (intro w hSw; (try dsimp only at hSw); obtain ⟨hs0, hs1, hs2, hs3, hs4, hs5, hs6, hs7, hs8⟩ := hSw; (try simp only [List.getElem_toArray, List.getElem_cons_succ, List.getElem_cons_zero, Act.put, List.setIfInBounds_toArray, List.set_cons_zero, List.set_cons_succ]); go_simp; (try (with_reducible rfl)))
              try simp only [List.getElem_toArray, List.getElem_cons_succ, List.getElem_cons_zero, Act.put, List.setIfInBounds_toArray, List.set_cons_zero, List.set_cons_succ]
              refine wpAnyH_take (i := 10) (v := ?vv10_32) rfl (by kernel_rfl) (by kernel_rfl) (by kernel_rfl) (fun _ _ _ h => h) (Or.inl ⟨by rfl, ?yy10_32⟩) (by assumption) ?rr10_32
              case yy10_32 => (intro w hSw; (try dsimp only at hSw); obtain ⟨hs0, hs1, hs2, hs3, hs4, hs5, hs6, hs7, hs8⟩ := hSw; (try simp only [List.getElem_toArray, List.getElem_cons_succ, List.getElem_cons_zero, Act.put, List.setIfInBounds_toArray, List.set_cons_zero, List.set_cons_succ]); go_simp; (try (with_reducible rfl)))
              try simp only [List.getElem_toArray, List.getElem_cons_succ, List.getElem_cons_zero, Act.put, List.setIfInBounds_toArray, List.set_cons_zero, List.set_cons_succ]
              refine wpAnyH_take (i := 11) (v := ?vv11_33) rfl (by kernel_rfl) (by kernel_rfl) (by kernel_rfl) (fun _ _ _ h => h) (Or.inl ⟨by rfl, ?yy11_33⟩) (by assumption) ?rr11_33
              case yy11_33 => (intro w hSw; (try dsimp only at hSw); obtain ⟨hs0, hs1, hs2, hs3, hs4, hs5, hs6, hs7, hs8⟩ := hSw; (try simp only [List.getElem_toArray, List.getElem_cons_succ, List.getElem_cons_zero, Act.put, List.setIfInBounds_toArray, List.set_cons_zero, List.set_cons_succ]); go_simp; (try (with_reducible rfl)))
              try simp only [List.getElem_toArray, List.getElem_cons_succ, List.getElem_cons_zero, Act.put, List.setIfInBounds_toArray, List.set_cons_zero, List.set_cons_succ]
              refine wpAnyH_take (i := 12) (v := ?vv12_34) rfl (by kernel_rfl) (by kernel_rfl) (by kernel_rfl) (fun _ _ _ h => h) (Or.inl ⟨by rfl, ?yy12_34⟩) (by assumption) ?rr12_34
              case yy12_34 => (intro w hSw; (try dsimp only at hSw); obtain ⟨hs0, hs1, hs2, hs3, hs4, hs5, hs6, hs7, hs8⟩ := hSw; (try simp only [List.getElem_toArray, List.getElem_cons_succ, List.getElem_cons_zero, Act.put, List.setIfInBounds_toArray, List.set_cons_zero, List.set_cons_succ]); go_simp; (try (with_reducible rfl)))
              try simp only [List.getElem_toArray, List.getElem_cons_succ, List.getElem_cons_zero, Act.put, List.setIfInBounds_toArray, List.set_cons_zero, List.set_cons_succ]
              refine wpAnyH_take (i := 13) (v := ?vv13_35) rfl (by kernel_rfl) (by kernel_rfl) (by kernel_rfl) (fun _ _ _ h => h) (Or.inl ⟨by rfl, ?yy13_35⟩) (by assumption) ?rr13_35
              case yy13_35 => (intro w hSw; (try dsimp only at hSw); obtain ⟨hs0, hs1, hs2, hs3, hs4, hs5, hs6, hs7, hs8⟩ := hSw; (try simp only [List.getElem_toArray, List.getElem_cons_succ, List.getElem_cons_zero, Act.put, List.setIfInBounds_toArray, List.set_cons_zero, List.set_cons_succ]); go_simp; (try (with_reducible rfl)))
              try simp only [List.getElem_toArray, List.getElem_cons_succ, List.getElem_cons_zero, Act.put, List.setIfInBounds_toArray, List.set_cons_zero, List.set_cons_succ]
              refine wpAnyH_take (i := 14) (v := ?vv14_36) rfl (by kernel_rfl) (by kernel_rfl) (by kernel_rfl) (fun _ _ _ h => h) (Or.inl ⟨by rfl, ?yy14_36⟩) (by assumption) ?rr14_36
              case yy14_36 => (intro w hSw; (try dsimp only at hSw); obtain ⟨hs0, hs1, hs2, hs3, hs4, hs5, hs6, hs7, hs8⟩ := hSw; (try simp only [List.getElem_toArray, List.getElem_cons_succ, List.getElem_cons_zero, Act.put, List.setIfInBounds_toArray, List.set_cons_zero, List.set_cons_succ]); go_simp; (try (with_reducible rfl)))
              try simp only [List.getElem_toArray, List.getElem_cons_succ, List.getElem_cons_zero, Act.put, List.setIfInBounds_toArray, List.set_cons_zero, List.set_cons_succ]
              refine wpAnyH_take (i := 15) (v := ?vv15_37) rfl (by kernel_rfl) (by kernel_rfl) (by kernel_rfl) (fun _ _ _ h => h) (Or.inl ⟨by rfl, ?yy15_37⟩) (by assumption) ?rr15_37
              case yy15_37 => (intro w hSw; (try dsimp only at hSw); obtain ⟨hs0, hs1, hs2, hs3, hs4, hs5, hs6, hs7, hs8⟩ := hSw; (try simp only [List.getElem_toArray, List.getElem_cons_succ, List.getElem_cons_zero, Act.put, List.setIfInBounds_toArray, List.set_cons_zero, List.set_cons_succ]); go_simp; (try (with_reducible rfl)))
              try simp only [List.getElem_toArray, List.getElem_cons_succ, List.getElem_cons_zero, Act.put, List.setIfInBounds_toArray, List.set_cons_zero, List.set_cons_succ]
              refine wpAnyH_take (i := 16) (v := ?vv16_38) rfl (by kernel_rfl) (by kernel_rfl) (by kernel_rfl) (fun _ _ _ h => h) (Or.inl ⟨by rfl, ?yy16_38⟩) (by assumption) ?rr16_38
              case yy16_38 => (intro w hSw; (try dsimp only at hSw); obtain ⟨hs0, hs1, hs2, hs3, hs4, hs5, hs6, hs7, hs8⟩ := hSw; (try simp only [List.getElem_toArray, List.getElem_cons_succ, List.getElem_cons_zero, Act.put, List.setIfInBounds_toArray, List.set_cons_zero, List.set_cons_succ]); go_simp; (try (with_reducible rfl)))
              try simp only [List.getElem_toArray, List.getElem_cons_succ, List.getElem_cons_zero, Act.put, List.setIfInBounds_toArray, List.set_cons_zero, List.set_cons_succ]
              refine wpAnyH_take (i := 17) (v := ?vv17_39) rfl (by kernel_rfl) (by kernel_rfl) (by kernel_rfl) (fun _ _ _ h => h) (Or.inl ⟨by rfl, ?yy17_39⟩) (by assumption) ?rr17_39
              case yy17_39 => (intro w hSw; (try dsimp only at hSw); obtain ⟨hs0, hs1, hs2, hs3, hs4, hs5, hs6, hs7, hs8⟩ := hSw; (try simp only [List.getElem_toArray, List.getElem_cons_succ, List.getElem_cons_zero, Act.put, List.setIfInBounds_toArray, List.set_cons_zero, List.set_cons_succ]); go_simp; (try (with_reducible rfl)))
              try simp only [List.getElem_toArray, List.getElem_cons_succ, List.getElem_cons_zero, Act.put, List.setIfInBounds_toArray, List.set_cons_zero, List.set_cons_succ]
              refine wpAnyH_take (i := 18) (v := ?vv18_40) rfl (by kernel_rfl) (by kernel_rfl) (by kernel_rfl) (fun _ _ _ h => h) (Or.inl ⟨by rfl, ?yy18_40⟩) (by assumption) ?rr18_40
              case yy18_40 => (intro w hSw; (try dsimp only at hSw); obtain ⟨hs0, hs1, hs2, hs3, hs4, hs5, hs6, hs7, hs8⟩ := hSw; (try simp only [List.getElem_toArray, List.getElem_cons_succ, List.getElem_cons_zero, Act.put, List.setIfInBounds_toArray, List.set_cons_zero, List.set_cons_succ]); go_simp; (try (with_reducible rfl)))
              try simp only [List.getElem_toArray, List.getElem_cons_succ, List.getElem_cons_zero, Act.put, List.setIfInBounds_toArray, List.set_cons_zero, List.set_cons_succ]
              refine wpAnyH_take (i := 19) (v := ?vv19_41) rfl (by kernel_rfl) (by kernel_rfl) (by kernel_rfl) (fun _ _ _ h => h) (Or.inl ⟨by rfl, ?yy19_41⟩) (by assumption) ?rr19_41
              case yy19_41 => (intro w hSw; (try dsimp only at hSw); obtain ⟨hs0, hs1, hs2, hs3, hs4, hs5, hs6, hs7, hs8⟩ := hSw; (try simp only [List.getElem_toArray, List.getElem_cons_succ, List.getElem_cons_zero, Act.put, List.setIfInBounds_toArray, List.set_cons_zero, List.set_cons_succ]); go_simp; (try (with_reducible rfl)))
              try simp only [List.getElem_toArray, List.getElem_cons_succ, List.getElem_cons_zero, Act.put, List.setIfInBounds_toArray, List.set_cons_zero, List.set_cons_succ]
              refine wpAnyH_take (i := 20) (v := ?vv20_42) rfl (by kernel_rfl) (by kernel_rfl) (by kernel_rfl) (fun _ _ _ h => h) (Or.inl ⟨by rfl, ?yy20_42⟩) (by assumption) ?rr20_42
              case yy20_42 => (intro w hSw; (try dsimp only at hSw); obtain ⟨hs0, hs1, hs2, hs3, hs4, hs5, hs6, hs7, hs8⟩ := hSw; (try simp only [List.getElem_toArray, List.getElem_cons_succ, List.getElem_cons_zero, Act.put, List.setIfInBounds_toArray, List.set_cons_zero, List.set_cons_succ]); go_simp; (try (with_reducible rfl)))
              try simp only [List.getElem_toArray, List.getElem_cons_succ, List.getElem_cons_zero, Act.put, List.setIfInBounds_toArray, List.set_cons_zero, List.set_cons_succ]
              refine wpAnyH_take (i := 21) (v := ?vv21_43) rfl (by kernel_rfl) (by kernel_rfl) (by kernel_rfl) (fun _ _ _ h => h) (Or.inl ⟨by rfl, ?yy21_43⟩) (by assumption) ?rr21_43
              case yy21_43 => (intro w hSw; (try dsimp only at hSw); obtain ⟨hs0, hs1, hs2, hs3, hs4, hs5, hs6, hs7, hs8⟩ := hSw; (try simp only [List.getElem_toArray, List.getElem_cons_succ, List.getElem_cons_zero, Act.put, List.setIfInBounds_toArray, List.set_cons_zero, List.set_cons_succ]); go_simp; (try (with_reducible rfl)))
              try simp only [List.getElem_toArray, List.getElem_cons_succ, List.getElem_cons_zero, Act.put, List.setIfInBounds_toArray, List.set_cons_zero, List.set_cons_succ]
              refine wpAnyH_take (i := 22) (v := ?vv22_44) rfl (by kernel_rfl) (by kernel_rfl) (by kernel_rfl) (fun _ _ _ h => h) (Or.inl ⟨by rfl, ?yy22_44⟩) (by assumption) ?rr22_44
              case yy22_44 => (intro w hSw; (try dsimp only at hSw); obtain ⟨hs0, hs1, hs2, hs3, hs4, hs5, hs6, hs7, hs8⟩ := hSw; (try simp only [List.getElem_toArray, List.getElem_cons_succ, List.getElem_cons_zero, Act.put, List.setIfInBounds_toArray, List.set_cons_zero, List.set_cons_succ]); go_simp; (try (with_reducible rfl)))
              try simp only [List.getElem_toArray, List.getElem_cons_succ, List.getElem_cons_zero, Act.put, List.setIfInBounds_toArray, List.set_cons_zero, List.set_cons_succ]
              refine wpAnyH_take (i := 23) (v := ?vv23_45) rfl (by kernel_rfl) (by kernel_rfl) (by kernel_rfl) (fun _ _ _ h => h) (Or.inl ⟨by rfl, ?yy23_45⟩) (by assumption) ?rr23_45
              case yy23_45 => (intro w hSw; (try dsimp only at hSw); obtain ⟨hs0, hs1, hs2, hs3, hs4, hs5, hs6, hs7, hs8⟩ := hSw; (try simp only [List.getElem_toArray, List.getElem_cons_succ, List.getElem_cons_zero, Act.put, List.setIfInBounds_toArray, List.set_cons_zero, List.set_cons_succ]); go_simp; (try (with_reducible rfl)))
              try simp only [List.getElem_toArray, List.getElem_cons_succ, List.getElem_cons_zero, Act.put, List.setIfInBounds_toArray, List.set_cons_zero, List.set_cons_succ]
              refine wpAnyH_ready (rs := [24]) (by kernel_rfl) (by simp) ?_
              refine AllReadyH.cons (o := _) rfl (fun K hK => ?_) AllReadyH.nil
              try simp only [List.getElem_toArray, List.getElem_cons_succ, List.getElem_cons_zero, Act.put, List.setIfInBounds_toArray, List.set_cons_zero, List.set_cons_succ]
              go_simp
              refine (alive_any _).mono ?_
              rintro e w7 ⟨rfl, hb7⟩
              have HB7 := Lib.hid (HB6.out.trans (hb7.mono HB6.out.size))
              have HY7 := Lib.hid (LAt.callee HY6.out hb7)
              obtain ⟨y0, y1, y2, y3, y4, y5, y6, y7, y8⟩ := cells9 HY7.out
              rw [HH.out] at y0
              clear hb7
              refine hK.out _ _ ⟨y0, y1, y2, y3, y4, y5, y6, y7, y8⟩ (fun hHeld => ?_)
              clear hK K
              try simp only [List.getElem_toArray, List.getElem_cons_succ, List.getElem_cons_zero, Act.put, List.setIfInBounds_toArray, List.set_cons_zero, List.set_cons_succ]
              refine wpAnyH_take (i := 25) (v := ?vv25_46) rfl (by kernel_rfl) (by kernel_rfl) (by kernel_rfl) (fun _ _ _ h => h) (Or.inl ⟨by rfl, ?yy25_46⟩) (by assumption) ?rr25_46
              case yy25_46 => (intro w hSw; (try dsimp only at hSw); obtain ⟨hs0, hs1, hs2, hs3, hs4, hs5, hs6, hs7, hs8⟩ := hSw; (try simp only [List.getElem_toArray, List.getElem_cons_succ, List.getElem_cons_zero, Act.put, List.setIfInBounds_toArray, List.set_cons_zero, List.set_cons_succ]); go_simp; (try (with_reducible rfl)))
              try simp only [List.getElem_toArray, List.getElem_cons_succ, List.getElem_cons_zero, Act.put, List.setIfInBounds_toArray, List.set_cons_zero, List.set_cons_succ]
              refine wpAnyH_take (i := 26) (v := ?vv26_47) rfl (by kernel_rfl) (by kernel_rfl) (by kernel_rfl) (fun _ _ _ h => h) (Or.inl ⟨by rfl, ?yy26_47⟩) (by assumption) ?rr26_47
              case yy26_47 => (intro w hSw; (try dsimp only at hSw); obtain ⟨hs0, hs1, hs2, hs3, hs4, hs5, hs6, hs7, hs8⟩ := hSw; (try simp only [List.getElem_toArray, List.getElem_cons_succ, List.getElem_cons_zero, Act.put, List.setIfInBounds_toArray, List.set_cons_zero, List.set_cons_succ]); go_simp; (try (with_reducible rfl)))
              try simp only [List.getElem_toArray, List.getElem_cons_succ, List.getElem_cons_zero, Act.put, List.setIfInBounds_toArray, List.set_cons_zero, List.set_cons_succ]
              refine wpAnyH_done (by kernel_rfl) ?_ _
              go_wp2
              go_ret
              exact ⟨rfl, HB7.out⟩
          · obtain ⟨hk1', hx, hlv⟩ := lv_nak HM.out.lv HM.out.c1 HM.out.c2 hr hp
            obtain ⟨hC, ha, _⟩ := nak_of hr hp hx
            have HJ := Lib.hid (judge_at (m := (insts (vs p' m)).length) HM.out.hp HM.out.ho HA1.out (by omega) hnk hlk hC ha rfl)
            have HLv := Lib.hid hlv
            have hml : (mend 3 (insts (vs p' m)) m).length ≤ n1 := by rw [mend_nak hr, List.length_map, HM.out.ho.1]; exact Nat.le_refl _
            have hil : (insts (vs p' m)).length ≤ n1 := by
              rw [(clean_vs hr).2, List.length_map, ← HM.out.ho.1]
              exact List.length_filter_le _ _
            have hk3 : ((k : Int) == 2) = false := by rw [beq_eq_false_iff_ne]; omega
            clear hC ha hlv hr hp hx hnk hlk
            go_wp2_with fail
            refine HJ.out.mono ?_
            rintro e w2 ⟨A2, q2, rfl, ho2, hp2, hm2⟩
            have HO2 : Hid (Opts w2 w2.heap.size A1 n1 m) := (opts_past HM.out.ho HM.out.hp (pv_no _) hm2 (Nat.le_refl _)).more hm2.size
            have HX2 := Lib.hid ho2
            have HP2 := Lib.hid hp2
            have HM2 := Lib.hid hm2
            clear ho2 hp2 hm2 HJ
            go_wp2_with fail
            refine (mended3 m _ A1 A2 n1 _ q1 q2 w2 HO2.out HX2.out (by omega) (by unfold maxLen; omega)).mono ?_
            rintro e w3 ⟨A3, q3, rfl, hO3, hA3, hb3⟩
            have HN := Lib.hid (HM.out.step HP2.out HM2.out hb3 hO3 rfl HLv.out)
            have HA3 := Lib.hid hA3
            clear hO3 hA3 hb3 HO2 HX2 HP2 HM2 HM HLv
            go_wp2
            go_roundw
            case rel => exact ⟨k + 1, _, _, A3, _, q3, by omega, by go_num, rfl, by omega, HA3, HN⟩
            case measure => simp [intOf]; omega
        · obtain ⟨hk0, hlv⟩ := lv_rej HM.out.lv hr
          subst hk0
          obtain ⟨hC, ha, _⟩ := ref_of hr
          have HJ := Lib.hid (judge_at (m := (refs (vs p' m)).length) HM.out.hp HM.out.ho HA1.out (by omega) hnk hlk hC ha rfl)
          have HLv := Lib.hid hlv
          have hml : (mend 4 (refs (vs p' m)) m).length ≤ n1 := by rw [← HM.out.ho.1]; exact (mend_sub _ _).length_le
          have hil : (refs (vs p' m)).length ≤ n1 := by rw [← HM.out.ho.1]; exact (refs_sub p' m).length_le
          clear hC ha hlv hr hnk hlk
          go_wp2_with fail
          refine HJ.out.mono ?_
          rintro e w2 ⟨A2, q2, rfl, ho2, hp2, hm2⟩
          have HO2 : Hid (Opts w2 w2.heap.size A1 n1 m) := (opts_past HM.out.ho HM.out.hp (pv_no _) hm2 (Nat.le_refl _)).more hm2.size
          have HX2 := Lib.hid ho2
          have HP2 := Lib.hid hp2
          have HM2 := Lib.hid hm2
          clear ho2 hp2 hm2 HJ
          go_wp2_with fail
          refine (mended4 m _ A1 A2 n1 _ q1 q2 w2 HO2.out HX2.out (by omega) (by unfold maxLen; omega)).mono ?_
          rintro e w3 ⟨A3, q3, rfl, hO3, hA3, hb3⟩
          have HN := Lib.hid (HM.out.step HP2.out HM2.out hb3 hO3 rfl HLv.out)
          have HA3 := Lib.hid hA3
          clear hO3 hA3 hb3 HO2 HX2 HP2 HM2 HM HLv
          go_wp2
          go_roundw
          case rel => exact ⟨1, _, _, A3, _, q3, by omega, by go_num, rfl, by omega, HA3, HN⟩
          case measure => simp [intOf]
  · clear hb HG hn
    go_wp2_with fail
    refine (alive_any _).mono ?_
    rintro e w2 ⟨rfl, hb2⟩
    have HB2 := Lib.hid (HB.out.trans (hb2.mono HB.out.size))
    clear hb2
    go_wp2
    go_ret
    exact ⟨rfl, HB2.out⟩

set_option maxRecDepth 100000 in
theorem lifted (os : Os) (started : os.Started) (H : Type) (enc : TypeId × Value → H) :
    ReturnsInHanded {} Try.checked os 4 .any (Rows.lcppolMeetsSpec.pre6 enc Try.prog Try.f4 Rows.lcppolMeetsRow.domain false) (Rows.lcppolMeetsSpec.post enc Try.prog Try.f4 false true false false) := by
  refine returnsInHanded_of_change_sized (C := Try.checked) own started (by kernel_rfl) Try.func4
    (ChangeSpec.witness6 (enc := enc) (C := Try.checked) false ⟨#[], #[.agg #[.int .u16 0, .bool false, .int .u32 0, .int .u8 0, .int .u8 0, .int .u8 0, .bool false, .bool false, .bool false, .int .i64 0], .int .u32 0, .slice none 0 0], []⟩ 8 (by kernel_rfl) (by kernel_rfl) (by kernel_rfl) (by kernel_rfl)) ?_
  intro W base args ds gs before hval0 hW hcnd hsz0 _
  have hsz : (DataW.weightsEach Try.prog (Try.f4.params.toList ++ Rows.lcppolMeetsSpec.plain.varTypes Try.prog) (ds ++ gs)).all (· ≤ reachBytes) = true := hsz0
  have hval : ∀ (j : Nat) t v, Try.f4.params[j]? = some t → args[j]? = some v → Value.okWide Try.prog W .any base t v := hval0
  have hW' := hW
  obtain ⟨p, q, hA0, hV, rfl, hfz, hnd⟩ := hW
  have hlt := hW'.lt
  have hA : DataW.TrodAll enc Try.prog W 0 (fun _ => true) true Try.f4.params.toList args.toList ds p := hA0
  rw [Try.params4] at hA hval hsz
  obtain ⟨v0, vs0, d0, ds0, p0, q0, hargs, rfl, rfl, h0, r0⟩ := trodAll_cons hA
  obtain ⟨v1, vs1, d1, ds1, p1, q1, rfl, rfl, rfl, h1, r1⟩ := trodAll_cons r0
  obtain ⟨v2, vs2, d2, ds2, p2, q2, rfl, rfl, rfl, h2, r2⟩ := trodAll_cons r1
  obtain ⟨rfl, rfl, rfl⟩ := trodAll_nil r2
  obtain rfl : args = #[v0, v1, v2] := by cases args; simp_all
  obtain ⟨rfl, rfl⟩ := trodVars_none hV
  obtain ⟨a0, rfl⟩ := conf_of Try.underlying25 (by kernel_rfl) (by kernel_rfl) Try.underlying22 Try.underlying4 Try.underlying23 Try.underlying5 Try.underlying5 Try.underlying5 Try.underlying4 Try.underlying4 Try.underlying4 Try.underlying3 (hval 0 25 v0 rfl rfl) h0
  obtain ⟨z1, rfl, rfl, rfl, w1⟩ := open_int Try.underlying23 (hval 1 23 v1 rfl rfl) h1
  obtain ⟨a1, rfl⟩ := u32_of (z := z1) (bounds_u32 w1)
  obtain ⟨A2, n2, c2, rfl, m2, hA2, l2, hO2⟩ := opts_of Try.underlying26 Try.underlying41 (by kernel_rfl) (by kernel_rfl) Try.underlying5 Try.underlying9 (hval 2 26 v2 rfl rfl) h2 (fun n hn => of_decide_eq_true (List.all_eq_true.1 hsz n (DataW.weights_mem_each (j := 2) (t := 26) rfl rfl n hn)))
  clear hA0 hval0 hsz0
  exact (walk a0 a1 A2 n2 c2 l2 W m2 hA2 hO2).mono fun e W' ⟨he, hb⟩ => ⟨_, he, law_post (t := 4) laidOut (by kernel_rfl) rfl rfl Try.underlying4 ⟨rfl, rfl, rfl⟩ hW' hb⟩

theorem over : Rows.lcppolMeetsRow.holds Try.pinned (OpenSpec.ofChange Rows.lcppolMeetsSpec) :=
  OpenClaim.holds_of_wide 4 Try.f4 rfl rfl rfl rfl rfl rfl rfl ⟨rfl, rfl, rfl, rfl, rfl⟩ rfl rfl rfl rfl rfl (by kernel_rfl) Try.func4 (by kernel_rfl)
    (of_decide_eq_true (by kernel_rfl)) (by unfold Func.isWrapper; first | (rw [if_pos (by decide +kernel)]; kernel_rfl) | (rw [if_neg (by decide +kernel)]; exact ⟨rfl, rfl⟩))
    (fun os started H enc _ => lifted os started H enc)

theorem proved : Rows.LcppolMeetsSaid :=
  over
#print axioms proved
end Go.Proofs.Ytgoikabbocnecaa.LcppolMeets
