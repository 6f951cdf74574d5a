/- Put together: PolQd, PolQe. -/
import Derived.Test.YtpohcejgblahiaaGreatPolQb
import Derived.Test.YtpohcejgblahiaaGreatGPolDa
import Derived.Test.YtpohcejgblahiaaGreatLcoSr
import Derived.Test.YtpohcejgblahiaaGreatQuietS
import Derived.StillTailTactics
import Derived.Test.YtpohcejgblahiaaGreatGOptRf
import Derived.Test.YtpohcejgblahiaaGreatGLcoEq

/- Contracts of the document's Acked, Naked. Written by gen/pol_qd.py. -/
set_option linter.unusedSimpArgs false
set_option linter.unusedVariables false
namespace Go.Proofs.YtpohcejgblahiaaGreat.Pol
open Go.RowKit Go.Proofs.YtpohcejgblahiaaGreat.Oct Go.Proofs.YtpohcejgblahiaaGreat.Row Go.Proofs.YtpohcejgblahiaaGreat.Mem Go.Proofs.YtpohcejgblahiaaGreat.Opt Go.Proofs.YtpohcejgblahiaaGreat.Lco

/-- What the document's reply answers. -/
def RRepQ (b : Bool) (q : Po) (g : Nat) (w : World) (e : Ending) (w' : World) : Prop := e = .returned (.bool b) ∧ RAt w' g q ∧ Moves (fun k => k = g) w w'
set_option maxHeartbeats 8000000 in
set_option maxRecDepth 100000 in
theorem racked_any (g : Nat) (p : Po) (l : List Opt) (A : Option Addr) (n c : Nat) (w : World) (h : RAt w g p) (hm : may p.w = true) (hl : Opts w w.heap.size A n l) (hn : n ≤ 1000) :
    Calls Tryz.prog 47 #[.pointer (some ⟨g, 0, none⟩), .slice A n c] w (RRepQ (akB p l) (akP p l) g w) := by
  have HP := Lib.hid h
  have HL := Lib.hid hl
  have HR := Lib.hid (rrequest_any g p w h hm)
  have hlg : (put p.w).length ≤ 6 := put_len p.w
  clear h hl hm
  go_enter Tryz.func47, Tryz.ntmps47
  go_wp2_with fail
  refine HR.out.mono ?_
  rintro e w1 ⟨A2, c2, rfl, hO, hb1⟩
  have HP1 := Lib.hid (HP.out.callee hb1)
  have HB1 := Lib.hid hb1
  have HA := Lib.hid (same_rows l (put p.w) A A2 n (put p.w).length c c2 w1 ((HL.out.below hb1).more hb1.size) hO (by unfold maxLen; omega) (by unfold maxLen; omega))
  have HE : Hid (akB p l = sm l (put p.w)) := rfl
  clear HR hO hb1
  cases hs : sm l (put p.w)
  · have HE2 : Hid (akB p l = false ∧ akP p l = p) := by
      have e : akB p l = false := by rw [HE.out, hs]
      exact ⟨e, by unfold akP; rw [e]; rfl⟩
    rw [hs] at HA
    clear hs HE
    go_wp2_with fail
    refine HA.out.mono ?_
    rintro e w2 ⟨rfl, hb2⟩
    have HP2 := Lib.hid (HP1.out.callee hb2)
    have HB2 := Lib.hid (HB1.out.trans (hb2.mono HB1.out.size))
    clear hb2 HA
    go_wp2
    go_ret
    unfold RRepQ
    rw [HE2.out.1, HE2.out.2]
    exact ⟨rfl, HP2.out, Moves.of_below HB2.out⟩
  · have HE2 : Hid (akB p l = true ∧ akP p l = { p with mine := p.w }) := by
      have e : akB p l = true := by rw [HE.out, hs]
      exact ⟨e, by unfold akP; rw [e]; rfl⟩
    rw [hs] at HA
    clear hs HE
    go_wp2_with fail
    refine HA.out.mono ?_
    rintro e w2 ⟨rfl, hb2⟩
    have HP2 := Lib.hid (HP1.out.callee hb2)
    have HB2 := Lib.hid (HB1.out.trans (hb2.mono HB1.out.size))
    clear hb2 HA
    have p19 : w2.cell? ⟨g, 19, none⟩ = some (Value.bool p.mine.hm) := HP2.out.c 19
    have q19 := HP2.out.f 19
    have p20 : w2.cell? ⟨g, 20, none⟩ = some (Value.int .u16 p.mine.mru.toNat) := HP2.out.c 20
    have q20 := HP2.out.f 20
    have p21 : w2.cell? ⟨g, 21, none⟩ = some (Value.bool p.mine.ha) := HP2.out.c 21
    have q21 := HP2.out.f 21
    have p22 : w2.cell? ⟨g, 22, none⟩ = some (Value.int .u32 p.mine.accm.toNat) := HP2.out.c 22
    have q22 := HP2.out.f 22
    have p23 : w2.cell? ⟨g, 23, none⟩ = some (Value.int .u8 p.mine.auth.toNat) := HP2.out.c 23
    have q23 := HP2.out.f 23
    have p24 : w2.cell? ⟨g, 24, none⟩ = some (Value.bool p.mine.hg) := HP2.out.c 24
    have q24 := HP2.out.f 24
    have p25 : w2.cell? ⟨g, 25, none⟩ = some (Value.int .u32 p.mine.magic.toNat) := HP2.out.c 25
    have q25 := HP2.out.f 25
    have p26 : w2.cell? ⟨g, 26, none⟩ = some (Value.bool p.mine.pfc) := HP2.out.c 26
    have q26 := HP2.out.f 26
    have p27 : w2.cell? ⟨g, 27, none⟩ = some (Value.bool p.mine.acfc) := HP2.out.c 27
    have q27 := HP2.out.f 27
    have p10 : w2.cell? ⟨g, 10, none⟩ = some (Value.bool p.w.hm) := HP2.out.c 10
    have p11 : w2.cell? ⟨g, 11, none⟩ = some (Value.int .u16 p.w.mru.toNat) := HP2.out.c 11
    have p12 : w2.cell? ⟨g, 12, none⟩ = some (Value.bool p.w.ha) := HP2.out.c 12
    have p13 : w2.cell? ⟨g, 13, none⟩ = some (Value.int .u32 p.w.accm.toNat) := HP2.out.c 13
    have p14 : w2.cell? ⟨g, 14, none⟩ = some (Value.int .u8 p.w.auth.toNat) := HP2.out.c 14
    have p15 : w2.cell? ⟨g, 15, none⟩ = some (Value.bool p.w.hg) := HP2.out.c 15
    have p16 : w2.cell? ⟨g, 16, none⟩ = some (Value.int .u32 p.w.magic.toNat) := HP2.out.c 16
    have p17 : w2.cell? ⟨g, 17, none⟩ = some (Value.bool p.w.pfc) := HP2.out.c 17
    have p18 : w2.cell? ⟨g, 18, none⟩ = some (Value.bool p.w.acfc) := HP2.out.c 18
    obtain ⟨V, hV⟩ : ∃ V, w2.setCells g 19 (lv p.w) = V := ⟨_, rfl⟩
    have HPV : Hid (RAt V g { p with mine := p.w }) := by show RAt _ _ _; rw [← hV]; exact HP2.out.setMine p.w
    have HMV : Hid (Moves (fun k => k = g) w V) := by show Moves _ _ _; rw [← hV]; exact (Moves.of_below HB2.out).trans (sets_moves _ _ _ _) (fun _ _ h => h)
    simp only [World.setCells, lv] at hV
    go_wp2
    go_ret
    unfold RRepQ
    rw [HE2.out.1, HE2.out.2]
    exact ⟨rfl, HPV.out, HMV.out⟩

/-! ### Naked, step by step -/
def n1 (p : Po) (x : Lcp) : Po := if x.hm && p.w.hm && decide (64 ≤ x.mru) then { p with w := { p.w with mru := x.mru } } else p
def n2 (p : Po) (x : Lcp) : Po := if x.ha && p.w.ha then { p with w := { p.w with accm := p.w.accm ||| x.accm } } else p
def n3 (p : Po) (x : Lcp) : Po := if x.auth != 0 && p.w.auth != 0 && p.c.takes &&& x.auth != 0 then { p with w := { p.w with auth := x.auth } } else p
def n4 (p : Po) (x : Lcp) (d : UInt32) : Po := if x.hg && p.w.hg then { p with w := { p.w with magic := nz d } } else p
theorem nk_doc (p : Po) (x : Lcp) (d : UInt32) : { p with w := nkW p.c p.w x d (fun t => has t x) } = n4 (n3 (n2 (n1 p x) x) x) x d := by
  rw [show nkW p.c p.w x d (fun t => has t x) = { p.w with mru := if x.hm && p.w.hm && decide (64 ≤ x.mru) then x.mru else p.w.mru, accm := if x.ha && p.w.ha then p.w.accm ||| x.accm else p.w.accm, auth := if x.auth != 0 && p.w.auth != 0 && p.c.takes &&& x.auth != 0 then x.auth else p.w.auth, magic := if x.hg && p.w.hg then nz d else p.w.magic } from rfl]
  unfold n1
  cases h1 : (x.hm && p.w.hm && decide (64 ≤ x.mru)) <;> (
    unfold n2
    simp only [Bool.false_eq_true, if_false, if_true]
    cases h2 : (x.ha && p.w.ha) <;> (
      unfold n3
      simp only [Bool.false_eq_true, if_false, if_true]
      cases h3 : (x.auth != 0 && p.w.auth != 0 && p.c.takes &&& x.auth != 0) <;> (
        unfold n4
        simp only [Bool.false_eq_true, if_false, if_true]
        cases h4 : (x.hg && p.w.hg) <;> rfl)))
/-- On the way: the policy, what was got, what is kept. -/
structure Nr (w wr : World) (g : Nat) (p : Po) (b : Nat) (x : Lcp) : Prop where
  p : RAt wr g p
  x : LAt wr b x
  m : Moves (fun k => k = g) w wr
  n : b ≠ g
theorem Nr.turn {w wr w' : World} {g b : Nat} {p q : Po} {x : Lcp} (h : Nr w wr g p b x) (hp : RAt w' g q) (hm : Moves (fun k => k = g) wr w') : Nr w w' g q b x :=
  ⟨hp, Blk.moves h.x hm h.n, h.m.trans hm (fun _ _ e => e), h.n⟩
theorem Nr.drew {w wr : World} {g b : Nat} {p : Po} {x : Lcp} (h : Nr w wr g p b x) : Nr w wr.drew g p b x := ⟨h.p, h.x, h.m.drewN 1, h.n⟩
theorem u32_or (a b : UInt32) : bits .or .u32 (a.toNat : Int) (b.toNat : Int) = ((a ||| b).toNat : Int) := by
  rw [u32_or_nat _ _ a.toNat_lt b.toNat_lt, ← UInt32.toNat_or]
set_option maxHeartbeats 16000000 in
set_option maxRecDepth 100000 in
theorem rnaked_any (g : Nat) (p : Po) (d : UInt32) (l : List Opt) (A : Option Addr) (n c : Nat) (w : World) (h : RAt w g p) (hl : Opts w w.heap.size A n l) (hn : n ≤ 1000) :
    Calls Tryz.prog 48 #[.pointer (some ⟨g, 0, none⟩), .int .u32 d.toNat, .slice A n c] w (RRepQ (nkB l) (nkP p d l) g w) := by
  have HP := Lib.hid h
  have Hn := Lib.hid hl.1
  have HG := Lib.hid (rget_any l w.heap.size A n c w hl hn (Nat.le_refl _))
  clear h hl
  go_enter Tryz.func48, Tryz.ntmps48
  go_wp2_with fail
  refine HG.out.mono ?_
  rintro e w1 ⟨A1, c1, rfl, _, hb1⟩
  have HP1 := Lib.hid (HP.out.callee hb1)
  have HM1 : Hid (Moves (fun k => k = g) w w1) := Moves.of_below hb1
  have HGN : Hid (w1.heap.size ≠ g) := by have := HP.out.lt; have := hb1.size; show _ ≠ _; omega
  clear hb1 HG HP
  generalize (gO l).length = m1
  by_cases hn0 : n = 0
  · subst hn0
    have HE : Hid (nkB l = false ∧ nkP p d l = p) := by
      have e := List.length_eq_zero_iff.1 Hn.out
      show _ ∧ _
      rw [e]
      exact ⟨rfl, rfl⟩
    obtain ⟨V, hV, HV⟩ := boxL w1 (gL l)
    have H0 : Hid (RAt V g p ∧ Moves (fun k => k = g) w V) := ⟨HP1.out.callee HV.out.2.1, HM1.out.trans (Moves.of_below HV.out.2.1) (fun _ _ h => h)⟩
    clear HV
    unfold lv
    go_wp2
    go_ret
    unfold RRepQ
    rw [HE.out.1, HE.out.2]
    exact ⟨rfl, H0.out.1, H0.out.2⟩
  · have hn1 : ((n : Int) == 0) = false := by rw [beq_eq_false_iff_ne]; omega
    have HNN : Hid (l ≠ []) := by show _ ≠ _; rintro rfl; exact hn0 (by rw [← Hn.out]; rfl)
    obtain ⟨V, hV, HV⟩ := boxL w1 (gL l)
    have H0 : Hid (Nr w V g p w1.heap.size (gL l)) := ⟨HP1.out.callee HV.out.2.1, HV.out.1, HM1.out.trans (Moves.of_below HV.out.2.1) (fun _ _ h => h), HGN.out⟩
    clear HV
    cases hst : st l with
    | none =>
      have HE : Hid (nkB l = false ∧ nkP p d l = p) := by
        have e : nkB l = false := by unfold nkB Lco.gE; rw [hst]; simp
        exact ⟨e, by unfold nkP; rw [e]; rfl⟩
      rw [show (Lco.gE l : Int) = 9 from by unfold Lco.gE; rw [hst]; rfl]
      clear hst
      unfold lv
      go_wp2
      go_ret
      unfold RRepQ
      rw [HE.out.1, HE.out.2]
      exact ⟨rfl, H0.out.p, H0.out.m⟩
    | some y =>
      have HE : Hid (nkB l = true ∧ nkP p d l = n4 (n3 (n2 (n1 p (gL l)) (gL l)) (gL l)) (gL l) d) := by
        have e : nkB l = true := by unfold nkB Lco.gE; rw [hst, decide_eq_true HNN.out]; rfl
        exact ⟨e, by unfold nkP; rw [e, if_pos rfl, nk_doc]⟩
      have HX2 := Lib.hid ((may_iff _).1 (gL_may l)).1
      rw [show (Lco.gE l : Int) = 0 from by unfold Lco.gE; rw [hst]; rfl]
      clear hst
      generalize gL l = x at *
      unfold lv
      go_upto_region 4 with (fail)
      clear hV
      generalize w1.heap.size = b at *
      obtain ⟨q, hq⟩ : ∃ q, p = q := ⟨_, rfl⟩
      have HC : Hid (Nr w V g q b x) := by show Nr _ _ _ _ _ _; rw [← hq]; exact H0.out
      have HQ1 := Lib.hid hq
      clear hq H0
      obtain ⟨xa, Hxa⟩ : ∃ z, Hid (z = x.hm) := ⟨_, rfl⟩
      obtain ⟨wa, Hwa⟩ : ∃ z, Hid (z = q.w.hm) := ⟨_, rfl⟩
      have l0 : V.cell? ⟨b, 0, none⟩ = some (.bool xa) := by rw [Hxa.out]; exact HC.out.x.c 0
      have l1 : V.cell? ⟨b, 1, none⟩ = some (Value.int .u16 x.mru.toNat) := by exact HC.out.x.c 1
      have o10 : V.cell? ⟨g, 10, none⟩ = some (.bool wa) := by rw [Hwa.out]; exact HC.out.p.c 10
      have o11 : V.cell? ⟨g, 11, none⟩ = some (Value.int .u16 q.w.mru.toNat) := by exact HC.out.p.c 11
      have f11 := HC.out.p.f 11
      have e1 := u16_ge x.mru
      obtain ⟨xg, Hxg⟩ : ∃ z, Hid (z = decide (64 ≤ x.mru)) := ⟨_, rfl⟩
      rw [← Hxg.out] at e1
      have e1' : decide ((x.mru.toNat : Int) ≥ 64) = xg := e1
      go_cut [36] from 23 to 35 (fun s wx => s = .bool (xa && wa && xg) ∧ wx = V)
      case first =>
        cases xa
        · go_wp2
          go_meet
          exact ⟨rfl, rfl⟩
        · cases wa
          · go_wp2
            go_meet
            exact ⟨rfl, rfl⟩
          · cases xg
            · go_wp2
              go_meet
              exact ⟨rfl, rfl⟩
            · go_wp2
              go_meet
              exact ⟨rfl, rfl⟩
      case rest =>
      obtain ⟨rfl, rfl⟩ := hcut
      generalize wc = V at *
      generalize hb : (xa && wa && xg) = bb at *
      have HF : Hid (n1 q x = if bb then { q with w := { q.w with mru := x.mru } } else q) := by show _ = _; rw [← hb, Hxa.out, Hwa.out, Hxg.out]; rfl
      clear hb
      go_upto_if 36 with (fail)
      go_cut [6] (fun s wx => s = .bool false ∧ Hid (Nr w wx g (n1 q x) b x))
      case first =>
        cases bb
        · have HF2 : Hid (n1 q x = q) := HF.out
          go_wp2
          go_meet
          exact ⟨rfl, by rw [HF2.out]; exact HC⟩
        · have HF2 : Hid (n1 q x = { q with w := { q.w with mru := x.mru } }) := HF.out
          have HW2 := Lib.hid (HC.out.turn (HC.out.p.setMru x.mru) (set_moves _ _ _ _))
          go_wp2
          go_meet
          exact ⟨rfl, by rw [HF2.out]; exact HW2⟩
      case rest =>
      obtain ⟨rfl, HCz⟩ := hcut
      clear HC HF l0 l1 o10 o11 f11 e1 e1'
      generalize wc = wr1 at *
      have HC1 : Hid (Nr w wr1 g (n1 p x) b x) := by show Nr _ _ _ _ _ _; rw [HQ1.out]; exact HCz.out
      clear HCz HQ1
      obtain ⟨q, hq⟩ : ∃ q, (n1 p x) = q := ⟨_, rfl⟩
      have HC : Hid (Nr w wr1 g q b x) := by show Nr _ _ _ _ _ _; rw [← hq]; exact HC1.out
      have HQ2 := Lib.hid hq
      clear hq HC1
      go_upto_region 6 with (fail)
      obtain ⟨xa, Hxa⟩ : ∃ z, Hid (z = x.ha) := ⟨_, rfl⟩
      obtain ⟨wa, Hwa⟩ : ∃ z, Hid (z = q.w.ha) := ⟨_, rfl⟩
      have l2 : wr1.cell? ⟨b, 2, none⟩ = some (.bool xa) := by rw [Hxa.out]; exact HC.out.x.c 2
      have l3 : wr1.cell? ⟨b, 3, none⟩ = some (Value.int .u32 x.accm.toNat) := by exact HC.out.x.c 3
      have o12 : wr1.cell? ⟨g, 12, none⟩ = some (.bool wa) := by rw [Hwa.out]; exact HC.out.p.c 12
      have o13 : wr1.cell? ⟨g, 13, none⟩ = some (Value.int .u32 q.w.accm.toNat) := by exact HC.out.p.c 13
      have f13 := HC.out.p.f 13
      go_cut [51] from 43 to 50 (fun s wx => s = .bool (xa && wa) ∧ wx = wr1)
      case first =>
        cases xa
        · go_wp2
          go_meet
          exact ⟨rfl, rfl⟩
        · cases wa
          · go_wp2
            go_meet
            exact ⟨rfl, rfl⟩
          · go_wp2
            go_meet
            exact ⟨rfl, rfl⟩
      case rest =>
      obtain ⟨rfl, rfl⟩ := hcut
      generalize wc = wr1 at *
      generalize hb : (xa && wa) = bb at *
      have HF : Hid (n2 q x = if bb then { q with w := { q.w with accm := q.w.accm ||| x.accm } } else q) := by show _ = _; rw [← hb, Hxa.out, Hwa.out]; rfl
      clear hb
      go_upto_if 51 with (fail)
      go_cut [6] (fun s wx => s = .bool false ∧ Hid (Nr w wx g (n2 q x) b x))
      case first =>
        cases bb
        · have HF2 : Hid (n2 q x = q) := HF.out
          go_wp2
          go_meet
          exact ⟨rfl, by rw [HF2.out]; exact HC⟩
        · have HF2 : Hid (n2 q x = { q with w := { q.w with accm := q.w.accm ||| x.accm } }) := HF.out
          have HW2 := Lib.hid (HC.out.turn (HC.out.p.setAccm (q.w.accm ||| x.accm)) (set_moves _ _ _ _))
          have eo : bits .or .u32 (q.w.accm.toNat : Int) (x.accm.toNat : Int) = ((q.w.accm ||| x.accm).toNat : Int) := u32_or _ _
          go_wp2_with fail
          go_still_tail 12, (by kernel_rfl)
          change wpList _ _ _ _ _ wr1.drew
          generalize hd : wr1.drew = wd
          have HD : Hid (Nr w wd g q b x) := by show Nr _ _ _ _ _ _; rw [← hd]; exact HC.out.drew
          clear hd HC HW2 l2 l3 o12 o13 f13
          have l2 : wd.cell? ⟨b, 2, none⟩ = some (Value.bool x.ha) := by exact HD.out.x.c 2
          have l3 : wd.cell? ⟨b, 3, none⟩ = some (Value.int .u32 x.accm.toNat) := by exact HD.out.x.c 3
          have o12 : wd.cell? ⟨g, 12, none⟩ = some (Value.bool q.w.ha) := by exact HD.out.p.c 12
          have o13 : wd.cell? ⟨g, 13, none⟩ = some (Value.int .u32 q.w.accm.toNat) := by exact HD.out.p.c 13
          have f13 := HD.out.p.f 13
          have HW2 := Lib.hid (HD.out.turn (HD.out.p.setAccm (q.w.accm ||| x.accm)) (set_moves _ _ _ _))
          go_wp2
          go_meet
          exact ⟨rfl, by rw [HF2.out]; exact HW2⟩
      case rest =>
      obtain ⟨rfl, HCz⟩ := hcut
      clear HC HF l2 l3 o12 o13 f13
      generalize wc = wr2 at *
      have HC2 : Hid (Nr w wr2 g (n2 (n1 p x) x) b x) := by show Nr _ _ _ _ _ _; rw [HQ2.out]; exact HCz.out
      clear HCz HQ2
      obtain ⟨q, hq⟩ : ∃ q, (n2 (n1 p x) x) = q := ⟨_, rfl⟩
      have HC : Hid (Nr w wr2 g q b x) := by show Nr _ _ _ _ _ _; rw [← hq]; exact HC2.out
      have HQ3 := Lib.hid hq
      clear hq HC2
      go_upto_region 8 with (fail)
      have l4 : wr2.cell? ⟨b, 4, none⟩ = some (Value.int .u8 x.auth.toNat) := by exact HC.out.x.c 4
      have o14 : wr2.cell? ⟨g, 14, none⟩ = some (Value.int .u8 q.w.auth.toNat) := by exact HC.out.p.c 14
      have f14 := HC.out.p.f 14
      have e1 := u8_ne0 x.auth
      have e2 := u8_ne0 q.w.auth
      have e3 := u8_bits q.c.takes x.auth
      have oc : wr2.cell? ⟨g, 4, none⟩ = some (.int .u8 q.c.takes.toNat) := HC.out.p.c 4
      obtain ⟨xa, Hxa⟩ : ∃ z, Hid (z = (x.auth != 0)) := ⟨_, rfl⟩
      obtain ⟨wa, Hwa⟩ : ∃ z, Hid (z = (q.w.auth != 0)) := ⟨_, rfl⟩
      obtain ⟨ta, Hta⟩ : ∃ z, Hid (z = (q.c.takes &&& x.auth != 0)) := ⟨_, rfl⟩
      rw [← Hxa.out] at e1
      rw [← Hwa.out] at e2
      rw [← Hta.out] at e3
      go_cut [86] from 64 to 85 (fun s wx => s = .bool (xa && wa && ta) ∧ Hid (Nr w wx g q b x))
      case first =>
        clear l4 o14 f14 oc
        have t0 : ∀ z : HeldW (fun w' => Nr w w' g q b x), z.w.cell? ⟨b, 4, none⟩ = some (.int .u8 x.auth.toNat) := fun z => z.h.x.c 4
        have t1 : ∀ z : HeldW (fun w' => Nr w w' g q b x), z.w.cell? ⟨g, 14, none⟩ = some (.int .u8 q.w.auth.toNat) := fun z => z.h.p.c 14
        have t2 : ∀ z : HeldW (fun w' => Nr w w' g q b x), z.w.cell? ⟨g, 4, none⟩ = some (.int .u8 q.c.takes.toNat) := fun z => z.h.p.c 4
        have HBt : Hid (∀ z : HeldW (fun w' => Nr w w' g q b x), Calls Tryz.prog 43 #[.int .u8 x.auth.toNat] z.w fun e w' => e = .returned (.int .u8 x.auth.toNat) ∧ Nr w w' g q b x) := fun z => (rbit_any x.auth HX2.out z.w).mono fun e w' ⟨he, hw⟩ => ⟨he, hw ▸ z.h⟩
        cases xa
        · have hne : Nonempty (HeldW (fun w' => Nr w w' g q b x)) := ⟨⟨wr2.drew, HC.out.drew⟩⟩
          refine wp_region_quiet_shut (fun w' => Nr w w' g q b x) (by kernel_rfl) (by kernel_rfl) HC.out.drew (fun G hst hnil => ?_)
          repeat (
            refine hst.out _ _ _ (fun K hK => ?_)
            go_simp
            first
              | (refine hK _ ?_; clear hK K)
              | (apply Exists.intro
                 refine ⟨fun _ => ?_, hK _ ?_⟩
                 (first
                   | (go_at_call 43; exact held_of (HBt.out _)))
                 clear hK K))
          refine hnil.out _ (fun z => ?_)
          clear hnil hst
          have HZ := Lib.hid z.h
          go_wp2
          go_meet
          exact ⟨rfl, HZ⟩
        · cases wa
          · have hne : Nonempty (HeldW (fun w' => Nr w w' g q b x)) := ⟨⟨wr2.drew, HC.out.drew⟩⟩
            refine wp_region_quiet_shut (fun w' => Nr w w' g q b x) (by kernel_rfl) (by kernel_rfl) HC.out.drew (fun G hst hnil => ?_)
            repeat (
              refine hst.out _ _ _ (fun K hK => ?_)
              go_simp
              first
                | (refine hK _ ?_; clear hK K)
                | (apply Exists.intro
                   refine ⟨fun _ => ?_, hK _ ?_⟩
                   (first
                     | (go_at_call 43; exact held_of (HBt.out _)))
                   clear hK K))
            refine hnil.out _ (fun z => ?_)
            clear hnil hst
            have HZ := Lib.hid z.h
            go_wp2
            go_meet
            exact ⟨rfl, HZ⟩
          · cases ta
            · have hne : Nonempty (HeldW (fun w' => Nr w w' g q b x)) := ⟨⟨wr2.drew, HC.out.drew⟩⟩
              refine wp_region_quiet_shut (fun w' => Nr w w' g q b x) (by kernel_rfl) (by kernel_rfl) HC.out.drew (fun G hst hnil => ?_)
              repeat (
                refine hst.out _ _ _ (fun K hK => ?_)
                go_simp
                first
                  | (refine hK _ ?_; clear hK K)
                  | (apply Exists.intro
                     refine ⟨fun _ => ?_, hK _ ?_⟩
                     (first
                       | (go_at_call 43; exact held_of (HBt.out _)))
                     clear hK K))
              refine hnil.out _ (fun z => ?_)
              clear hnil hst
              have HZ := Lib.hid z.h
              go_wp2
              go_meet
              exact ⟨rfl, HZ⟩
            · have hne : Nonempty (HeldW (fun w' => Nr w w' g q b x)) := ⟨⟨wr2.drew, HC.out.drew⟩⟩
              refine wp_region_quiet_shut (fun w' => Nr w w' g q b x) (by kernel_rfl) (by kernel_rfl) HC.out.drew (fun G hst hnil => ?_)
              repeat (
                refine hst.out _ _ _ (fun K hK => ?_)
                go_simp
                first
                  | (refine hK _ ?_; clear hK K)
                  | (apply Exists.intro
                     refine ⟨fun _ => ?_, hK _ ?_⟩
                     (first
                       | (go_at_call 43; exact held_of (HBt.out _)))
                     clear hK K))
              refine hnil.out _ (fun z => ?_)
              clear hnil hst
              have HZ := Lib.hid z.h
              go_wp2
              go_meet
              exact ⟨rfl, HZ⟩
      case rest =>
      clear l4 o14 f14 oc HC
      obtain ⟨rfl, HC⟩ := hcut
      generalize wc = wr2 at *
      have l4 : wr2.cell? ⟨b, 4, none⟩ = some (Value.int .u8 x.auth.toNat) := by exact HC.out.x.c 4
      have o14 : wr2.cell? ⟨g, 14, none⟩ = some (Value.int .u8 q.w.auth.toNat) := by exact HC.out.p.c 14
      have f14 := HC.out.p.f 14
      generalize hb : (xa && wa && ta) = bb at *
      have HF : Hid (n3 q x = if bb then { q with w := { q.w with auth := x.auth } } else q) := by show _ = _; rw [← hb, Hxa.out, Hwa.out, Hta.out]; rfl
      clear hb
      go_upto_if 86 with (fail)
      go_cut [6] (fun s wx => s = .bool false ∧ Hid (Nr w wx g (n3 q x) b x))
      case first =>
        cases bb
        · have HF2 : Hid (n3 q x = q) := HF.out
          go_wp2
          go_meet
          exact ⟨rfl, by rw [HF2.out]; exact HC⟩
        · have HF2 : Hid (n3 q x = { q with w := { q.w with auth := x.auth } }) := HF.out
          have HW2 := Lib.hid (HC.out.turn (HC.out.p.setAuth x.auth) (set_moves _ _ _ _))
          go_wp2
          go_meet
          exact ⟨rfl, by rw [HF2.out]; exact HW2⟩
      case rest =>
      obtain ⟨rfl, HCz⟩ := hcut
      clear HC HF l4 o14 f14 e1 e2 e3
      generalize wc = wr3 at *
      have HC3 : Hid (Nr w wr3 g (n3 (n2 (n1 p x) x) x) b x) := by show Nr _ _ _ _ _ _; rw [HQ3.out]; exact HCz.out
      clear HCz HQ3
      obtain ⟨q, hq⟩ : ∃ q, (n3 (n2 (n1 p x) x) x) = q := ⟨_, rfl⟩
      have HC : Hid (Nr w wr3 g q b x) := by show Nr _ _ _ _ _ _; rw [← hq]; exact HC3.out
      have HQ4 := Lib.hid hq
      clear hq HC3
      go_upto_region 10 with (fail)
      obtain ⟨xa, Hxa⟩ : ∃ z, Hid (z = x.hg) := ⟨_, rfl⟩
      obtain ⟨wa, Hwa⟩ : ∃ z, Hid (z = q.w.hg) := ⟨_, rfl⟩
      have l5 : wr3.cell? ⟨b, 5, none⟩ = some (.bool xa) := by rw [Hxa.out]; exact HC.out.x.c 5
      have l6 : wr3.cell? ⟨b, 6, none⟩ = some (Value.int .u32 x.magic.toNat) := by exact HC.out.x.c 6
      have o15 : wr3.cell? ⟨g, 15, none⟩ = some (.bool wa) := by rw [Hwa.out]; exact HC.out.p.c 15
      have o16 : wr3.cell? ⟨g, 16, none⟩ = some (Value.int .u32 q.w.magic.toNat) := by exact HC.out.p.c 16
      have f16 := HC.out.p.f 16
      go_cut [101] from 93 to 100 (fun s wx => s = .bool (xa && wa) ∧ wx = wr3)
      case first =>
        cases xa
        · go_wp2
          go_meet
          exact ⟨rfl, rfl⟩
        · cases wa
          · go_wp2
            go_meet
            exact ⟨rfl, rfl⟩
          · go_wp2
            go_meet
            exact ⟨rfl, rfl⟩
      case rest =>
      obtain ⟨rfl, rfl⟩ := hcut
      generalize wc = wr3 at *
      generalize hb : (xa && wa) = bb at *
      have HF : Hid (n4 q x d = if bb then { q with w := { q.w with magic := nz d } } else q) := by show _ = _; rw [← hb, Hxa.out, Hwa.out]; rfl
      clear hb
      go_upto_if 101 with (fail)
      go_cut [6] (fun s wx => s = .bool false ∧ Hid (Nr w wx g (n4 q x d) b x))
      case first =>
        cases bb
        · have HF2 : Hid (n4 q x d = q) := HF.out
          go_wp2
          go_meet
          exact ⟨rfl, by rw [HF2.out]; exact HC⟩
        · have HF2 : Hid (n4 q x d = { q with w := { q.w with magic := nz d } }) := HF.out
          have HW2 := Lib.hid (HC.out.turn (HC.out.p.setMagic (nz d)) (set_moves _ _ _ _))
          have HS := Lib.hid (rsome_any d)
          go_wp2_with fail
          refine (HS.out _).mono ?_
          rintro e _ ⟨rfl, rfl⟩
          go_wp2
          go_meet
          exact ⟨rfl, by rw [HF2.out]; exact HW2⟩
      case rest =>
      obtain ⟨rfl, HCz⟩ := hcut
      clear HC HF l5 l6 o15 o16 f16
      generalize wc = wr4 at *
      have HC4 : Hid (Nr w wr4 g (n4 (n3 (n2 (n1 p x) x) x) x d) b x) := by show Nr _ _ _ _ _ _; rw [HQ4.out]; exact HCz.out
      clear HCz HQ4
      go_wp2
      go_ret
      unfold RRepQ
      rw [HE.out.1, HE.out.2]
      exact ⟨rfl, HC4.out.p, HC4.out.m⟩
end Go.Proofs.YtpohcejgblahiaaGreat.Pol

/- Contract of the document's Rejected. -/
set_option linter.unusedSimpArgs false
set_option linter.unusedVariables false
namespace Go.Proofs.YtpohcejgblahiaaGreat.Pol
open Go.RowKit Go.Proofs.YtpohcejgblahiaaGreat.Oct Go.Proofs.YtpohcejgblahiaaGreat.Row Go.Proofs.YtpohcejgblahiaaGreat.Mem Go.Proofs.YtpohcejgblahiaaGreat.Opt Go.Proofs.YtpohcejgblahiaaGreat.Lco

theorem drop_at {l : List Opt} {i : Nat} {o : Opt} (h : l[i]? = some o) : l.drop i = o :: l.drop (i + 1) := by
  obtain ⟨hi, rfl⟩ := List.getElem?_eq_some_iff.1 h
  exact List.drop_eq_getElem_cons hi
theorem part_ne {l r : List Opt} {i k : Nat} {o x : Opt} (hl : l[i]? = some o) (hr : r[k]? = some x) (h : ¬ x = o) : part (l.drop i) (r.drop k) = part (l.drop i) (r.drop (k + 1)) := by
  rw [drop_at hl, drop_at hr]
  conv => lhs; unfold part
  rw [if_neg h]
theorem part_eq {l r : List Opt} {i k : Nat} {o x : Opt} (hl : l[i]? = some o) (hr : r[k]? = some x) (h : x = o) : part (l.drop i) (r.drop k) = part (l.drop (i + 1)) (r.drop (k + 1)) := by
  rw [drop_at hl, drop_at hr]
  conv => lhs; unfold part
  rw [if_pos h]
theorem part_out {l r : List Opt} {i : Nat} {o : Opt} (hl : l[i]? = some o) : part (l.drop i) (r.drop r.length) = false := by
  rw [drop_at hl, List.drop_length]
  rfl
theorem part_done (l r : List Opt) : part (l.drop l.length) r = true := by
  rw [List.drop_length]
  cases r <;> rfl
theorem dv_no (p : Po) (s : ByteArray) : Value.string s ∉ dv p := by
  unfold dv
  simp only [List.mem_append, not_or]
  exact ⟨cv_no _ s, lv_no _ s, lv_no _ s, lv_no _ s, by simp⟩
/-- On the way. -/
structure Rd (w wr : World) (g : Nat) (p : Po) (A : Option Addr) (n : Nat) (l : List Opt) : Prop where
  p : RAt wr g p
  m : Moves (fun k => k = g) w wr
  o : Opts wr w.heap.size A n l
theorem Rd.callee {w wr w' : World} {g : Nat} {p : Po} {A : Option Addr} {n : Nat} {l : List Opt} (h : Rd w wr g p A n l) (hb : Below wr.heap.size wr w') : Rd w w' g p A n l :=
  ⟨h.p.callee hb, h.m.trans (Moves.of_below hb) (fun j hj e => e), h.o.callee hb h.m.size⟩
theorem Rd.turn {w wr w' : World} {g : Nat} {p p' : Po} {A : Option Addr} {n : Nat} {l : List Opt} (h : Rd w wr g p A n l) (hm : Moves (fun k => k = g) wr w') (hp : RAt w' g p') : Rd w w' g p' A n l :=
  ⟨hp, h.m.trans hm (fun j hj e => e), opts_past h.o h.p (dv_no p) hm h.m.size⟩
set_option maxHeartbeats 16000000 in
set_option maxRecDepth 100000 in
theorem rrejected_any (g : Nat) (p : Po) (l : List Opt) (A : Option Addr) (n c : Nat) (w : World) (h : RAt w g p) (hm : may p.w = true) (hl : Opts w w.heap.size A n l) (hn : n ≤ 1000) :
    Calls Tryz.prog 49 #[.pointer (some ⟨g, 0, none⟩), .slice A n c] w (RRepQ (rjB p l) (rjP p l) g w) := by
  have H0 : Hid (Rd w w g p A n l) := ⟨h, Moves.refl _ _, hl⟩
  have Hn := Lib.hid hl.1
  have HR := Lib.hid (rrequest_any g p w h hm)
  have hm3 : (put p.w).length ≤ 6 := put_len p.w
  clear h hl hm
  go_enter Tryz.func49, Tryz.ntmps49
  go_wp2_with fail
  refine HR.out.mono ?_
  rintro e w1 ⟨A2, c2, rfl, hO, hb1⟩
  have H1 := Lib.hid (H0.out.callee hb1)
  have HL := Lib.hid (H0.out.o.next hb1)
  have HO := Lib.hid hO
  have HQ0 : Hid (put p.w = req p) := rfl
  clear hO hb1 HR H0
  obtain ⟨m, hm⟩ : ∃ m, (put p.w).length = m := ⟨_, rfl⟩
  rw [hm] at HO hm3 ⊢
  have HM := Lib.hid hm
  clear hm
  go_wp2_with fail
  go_loopw [6, 7] (fun u6 u7 wr => ∃ (k i : Nat), k ≤ m ∧ i ≤ n ∧ u6 = .int .i64 k ∧ u7 = .int .i64 i ∧ Hid (part l (put p.w) = part (l.drop i) ((put p.w).drop k)) ∧ Hid (Below w1.heap.size w1 wr)) (fun _ u7 _ => n - (intOf u7).toNat)
  case atStart => exact ⟨0, 0, Nat.zero_le _, Nat.zero_le _, rfl, rfl, rfl, Below.refl _ _⟩
  case round =>
    obtain ⟨k, i, hk, hi, rfl, rfl, HT, HB0⟩ := hrel
    by_cases hin : i < n
    · obtain ⟨ad, o, hA, hB, ho, hS1, d0, d1⟩ := HL.out.at_ hin
      subst hA
      have HOo := Lib.hid ho
      clear ho hB hS1
      have hin' : (i : Int) < (n : Int) := by omega
      have hin2 := decide_eq_true hin'
      go_wp2_with fail
      go_loopw [6] (fun u6 wrb => ∃ (kk : Nat), kk ≤ m ∧ u6 = .int .i64 kk ∧ Hid (part l (put p.w) = part (l.drop i) ((put p.w).drop kk)) ∧ Hid (Below w1.heap.size w1 wrb)) (fun u6 _ => m - (intOf u6).toNat)
      case atStart => exact ⟨k, hk, rfl, HT, HB0⟩
      case round =>
        obtain ⟨kk, hkk, rfl, HT2, HB⟩ := hrel
        clear HT HB0
        by_cases hkm : kk < m
        · have hkm' : (kk : Int) < (m : Int) := by omega
          have hkm2 := decide_eq_true hkm'
          obtain ⟨ad2, x, hA2, hB2, hx, hS2, e0, e1⟩ := HO.out.at_ hkm
          subst hA2
          have HX := Lib.hid hx
          clear hx hB2 hS2
          have a0 : ∀ q : HeldW (fun w' => Below w1.heap.size w1 w'), q.w.cell? (ad.add (i * 2)) = some (.int .u8 o.1.toNat) := fun q => (q.h.cell (World.block_lt_of_cell? _ _ d0)).trans d0
          have a1 : ∀ q : HeldW (fun w' => Below w1.heap.size w1 w'), q.w.cell? ⟨(ad.add (i * 2)).block, (ad.add (i * 2)).off + 1, none⟩ = some (.string o.2) := fun q => (q.h.cell (World.block_lt_of_cell? _ _ d1)).trans d1
          have b0 : ∀ q : HeldW (fun w' => Below w1.heap.size w1 w'), q.w.cell? (ad2.add (kk * 2)) = some (.int .u8 x.1.toNat) := fun q => (q.h.cell (World.block_lt_of_cell? _ _ e0)).trans e0
          have b1 : ∀ q : HeldW (fun w' => Below w1.heap.size w1 w'), q.w.cell? ⟨(ad2.add (kk * 2)).block, (ad2.add (kk * 2)).off + 1, none⟩ = some (.string x.2) := fun q => (q.h.cell (World.block_lt_of_cell? _ _ e1)).trans e1
          by_cases hxo : x = o
          · have hN : ∀ w, (binOp .neq 51 (.agg #[.int .u8 x.1.toNat, .string x.2]) (.agg #[.int .u8 o.1.toNat, .string o.2])).run Tryz.prog w = .ok (.bool (!true)) w := fun w => opt_neq (decide_eq_true hxo) w
            have HT3 := Lib.hid (HT2.out.trans (part_eq HOo.out HX.out hxo))
            go_wp2_with fail
            have hne : Nonempty (HeldW (fun w' => Below w1.heap.size w1 w')) := ⟨⟨wr.drew, HB.out.drew⟩⟩
            refine wp_region_quiet_shut (fun w' => Below w1.heap.size w1 w') (by kernel_rfl) (by kernel_rfl) HB.out.drew (fun G hst hnil => ?_)
            repeat (
              refine hst.out _ _ _ (fun K hK => ?_)
              go_simp
              first
                | (refine hK _ ?_; clear hK K)
                | (apply Exists.intro
                   refine ⟨fun _ => ?_, hK _ ?_⟩
                   fail
                   clear hK K))
            refine hnil.out _ (fun q => ?_)
            clear hnil hst
            have HBq := Lib.hid q.h
            clear a0 a1 b0 b1 hN hxo
            have hkm4 : ((kk : Int) == (m : Int)) = false := by rw [beq_eq_false_iff_ne]; omega
            go_wp2
            go_roundw
            case rel => exact ⟨kk + 1, i + 1, by omega, by omega, by go_num, by go_num, HT3, HBq⟩
            case measure => simp [intOf]; omega
          · have hN : ∀ w, (binOp .neq 51 (.agg #[.int .u8 x.1.toNat, .string x.2]) (.agg #[.int .u8 o.1.toNat, .string o.2])).run Tryz.prog w = .ok (.bool (!false)) w := fun w => opt_neq (decide_eq_false hxo) w
            have HT3 := Lib.hid (HT2.out.trans (part_ne HOo.out HX.out hxo))
            go_wp2_with fail
            have hne : Nonempty (HeldW (fun w' => Below w1.heap.size w1 w')) := ⟨⟨wr.drew, HB.out.drew⟩⟩
            refine wp_region_quiet_shut (fun w' => Below w1.heap.size w1 w') (by kernel_rfl) (by kernel_rfl) HB.out.drew (fun G hst hnil => ?_)
            repeat (
              refine hst.out _ _ _ (fun K hK => ?_)
              go_simp
              first
                | (refine hK _ ?_; clear hK K)
                | (apply Exists.intro
                   refine ⟨fun _ => ?_, hK _ ?_⟩
                   fail
                   clear hK K))
            refine hnil.out _ (fun q => ?_)
            clear hnil hst
            have HBq := Lib.hid q.h
            clear a0 a1 b0 b1 hN hxo
            go_wp2
            go_roundw
            case rel => exact ⟨kk + 1, by omega, by go_num, HT3, HBq⟩
            case measure => simp [intOf]; omega
        · obtain rfl : kk = m := by omega
          have hkm2 : decide ((kk : Int) < (kk : Int)) = false := decide_eq_false (by omega)
          have HE : Hid (rjB p l = false ∧ rjP p l = p) := by
            refine rj_no ?_
            have h := HT2.out
            rw [← HM.out, part_out HOo.out] at h
            exact h
          have hkm4 : ((kk : Int) == (kk : Int)) = true := beq_self_eq_true _
          go_wp2_with fail
          have hne : Nonempty (HeldW (fun w' => Below w1.heap.size w1 w')) := ⟨⟨wr.drew, HB.out.drew⟩⟩
          refine wp_region_quiet_shut (fun w' => Below w1.heap.size w1 w') (by kernel_rfl) (by kernel_rfl) HB.out.drew (fun G hst hnil => ?_)
          repeat (
            refine hst.out _ _ _ (fun K hK => ?_)
            go_simp
            first
              | (refine hK _ ?_; clear hK K)
              | (apply Exists.intro
                 refine ⟨fun _ => ?_, hK _ ?_⟩
                 fail
                 clear hK K))
          refine hnil.out _ (fun q => ?_)
          clear hnil hst
          have HBq := Lib.hid q.h
          go_wp2
          go_ret
          unfold RRepQ
          rw [HE.out.1, HE.out.2]
          have h := H1.out.callee HBq.out
          exact ⟨rfl, h.p, h.m⟩
    · obtain rfl : i = n := by omega
      have HP : Hid (part l (req p) = true) := by
        have h := HT.out
        rw [← Hn.out, part_done] at h
        exact h
      have HJ0 := Lib.hid (H1.out.callee HB0.out)
      have hnn := decide_eq_false (show ¬ (i : Int) < (i : Int) by omega)
      clear HT HB0 hin
      by_cases hi0 : i = 0
      · subst hi0
        have HE : Hid (rjB p l = false ∧ rjP p l = p) := by
          have e := List.length_eq_zero_iff.1 Hn.out
          show _ ∧ _
          rw [e]
          exact ⟨rfl, rfl⟩
        go_wp2
        go_ret
        unfold RRepQ
        rw [HE.out.1, HE.out.2]
        exact ⟨rfl, HJ0.out.p, HJ0.out.m⟩
      · have hi1 : ((i : Int) == 0) = false := by rw [beq_eq_false_iff_ne]; omega
        have HNN : l ≠ [] := by rintro rfl; exact hi0 (by rw [← Hn.out]; rfl)
        have HE := Lib.hid (rj_yes HP.out HNN)
        have HK : Hid (∀ o ∈ l, known o.1 = true) := fun o ho => (req_known (part_mem HP.out o ho)).1
        clear HNN hi0
        go_wp2_with fail
        go_loopw [8] (fun u8 wrc => ∃ k : Nat, k ≤ i ∧ u8 = .int .i64 k ∧ Hid (Rd w wrc g ((l.take k).foldl dropP p) A i l)) (fun u8 _ => i - (intOf u8).toNat)
        case atStart => exact ⟨0, Nat.zero_le _, rfl, HJ0⟩
        case round =>
          obtain ⟨k, hk, rfl, HJ⟩ := hrel
          clear HJ0
          by_cases hlt : k < i
          · obtain ⟨ad, o, hA, hB, ho, hS1, d0, d1⟩ := HJ.out.o.at_ hlt
            subst hA
            have hlt' : (k : Int) < (i : Int) := by omega
            have hlt2 := decide_eq_true hlt'
            have hkn : known o.1 = true := HK.out o (List.mem_of_getElem? ho)
            have HF := Lib.hid (foldl_snoc p l k o ho)
            clear ho hB hS1
            generalize (l.take k).foldl dropP p = q at *
            rcases known_cases hkn with h3 | h3 | h3 | h3 | h3 | h3
            · have x1 : ((o.1.toNat : Int) == 1) = true := by rw [h3]; rfl
              have HD : Hid (dropP q o = { q with w := { q.w with hm := false, mru := 0 } }) := by show dropP q o = _; unfold dropP dropW; rw [if_pos h3, h3]; simp
              have p10 : wr.cell? ⟨g, 10, none⟩ = some (.bool q.w.hm) := HJ.out.p.c 10
              have f10 := HJ.out.p.f 10
              have p11 : wr.cell? ⟨g, 11, none⟩ = some (.int .u16 q.w.mru.toNat) := HJ.out.p.c 11
              have f11 := HJ.out.p.f 11
              clear hkn h3
              go_wp2
              go_roundw
              case rel => exact ⟨k + 1, by omega, by go_num, by
                have h := HJ.out.turn ((set_moves wr g 10 (.bool false)).trans (set_moves _ g 11 (.int .u16 0)) (fun _ _ h => h)) (show RAt _ g { q with w := { q.w with hm := false, mru := 0 } } from Blk.set (Blk.set HJ.out.p 10 (.bool false)) 11 (.int .u16 0))
                rw [HF.out, HD.out]
                exact h⟩
              case measure => simp [intOf]; omega
            · have x1 : ((o.1.toNat : Int) == 1) = false := by rw [h3]; rfl
              have x2 : ((o.1.toNat : Int) == 2) = true := by rw [h3]; rfl
              have HD : Hid (dropP q o = { q with w := { q.w with ha := false, accm := 0 } }) := by show dropP q o = _; unfold dropP dropW; rw [if_neg (by rw [h3]; decide), if_pos h3, h3]; simp
              have p12 : wr.cell? ⟨g, 12, none⟩ = some (.bool q.w.ha) := HJ.out.p.c 12
              have f12 := HJ.out.p.f 12
              have p13 : wr.cell? ⟨g, 13, none⟩ = some (.int .u32 q.w.accm.toNat) := HJ.out.p.c 13
              have f13 := HJ.out.p.f 13
              clear hkn h3
              go_wp2
              go_roundw
              case rel => exact ⟨k + 1, by omega, by go_num, by
                have h := HJ.out.turn ((set_moves wr g 12 (.bool false)).trans (set_moves _ g 13 (.int .u32 0)) (fun _ _ h => h)) (show RAt _ g { q with w := { q.w with ha := false, accm := 0 } } from Blk.set (Blk.set HJ.out.p 12 (.bool false)) 13 (.int .u32 0))
                rw [HF.out, HD.out]
                exact h⟩
              case measure => simp [intOf]; omega
            · have x1 : ((o.1.toNat : Int) == 1) = false := by rw [h3]; rfl
              have x2 : ((o.1.toNat : Int) == 2) = false := by rw [h3]; rfl
              have x3 : ((o.1.toNat : Int) == 3) = true := by rw [h3]; rfl
              have HD : Hid (dropP q o = { q with w := { q.w with auth := 0 }, bad := true }) := by show dropP q o = _; unfold dropP dropW; rw [if_neg (by rw [h3]; decide), if_neg (by rw [h3]; decide), if_pos h3, h3]; simp
              have p14 : wr.cell? ⟨g, 14, none⟩ = some (.int .u8 q.w.auth.toNat) := HJ.out.p.c 14
              have f14 := HJ.out.p.f 14
              have p39 : wr.cell? ⟨g, 39, none⟩ = some (.bool q.bad) := HJ.out.p.c 39
              have f39 := HJ.out.p.f 39
              clear hkn h3
              go_wp2
              go_roundw
              case rel => exact ⟨k + 1, by omega, by go_num, by
                have h := HJ.out.turn ((set_moves wr g 14 (.int .u8 0)).trans (set_moves _ g 39 (.bool true)) (fun _ _ h => h)) (show RAt _ g { q with w := { q.w with auth := 0 }, bad := true } from Blk.set (Blk.set HJ.out.p 14 (.int .u8 0)) 39 (.bool true))
                rw [HF.out, HD.out]
                exact h⟩
              case measure => simp [intOf]; omega
            · have x1 : ((o.1.toNat : Int) == 1) = false := by rw [h3]; rfl
              have x2 : ((o.1.toNat : Int) == 2) = false := by rw [h3]; rfl
              have x3 : ((o.1.toNat : Int) == 3) = false := by rw [h3]; rfl
              have x5 : ((o.1.toNat : Int) == 5) = true := by rw [h3]; rfl
              have HD : Hid (dropP q o = { q with w := { q.w with hg := false, magic := 0 } }) := by show dropP q o = _; unfold dropP dropW; rw [if_neg (by rw [h3]; decide), if_neg (by rw [h3]; decide), if_neg (by rw [h3]; decide), if_pos h3, h3]; simp
              have p15 : wr.cell? ⟨g, 15, none⟩ = some (.bool q.w.hg) := HJ.out.p.c 15
              have f15 := HJ.out.p.f 15
              have p16 : wr.cell? ⟨g, 16, none⟩ = some (.int .u32 q.w.magic.toNat) := HJ.out.p.c 16
              have f16 := HJ.out.p.f 16
              clear hkn h3
              go_wp2
              go_roundw
              case rel => exact ⟨k + 1, by omega, by go_num, by
                have h := HJ.out.turn ((set_moves wr g 15 (.bool false)).trans (set_moves _ g 16 (.int .u32 0)) (fun _ _ h => h)) (show RAt _ g { q with w := { q.w with hg := false, magic := 0 } } from Blk.set (Blk.set HJ.out.p 15 (.bool false)) 16 (.int .u32 0))
                rw [HF.out, HD.out]
                exact h⟩
              case measure => simp [intOf]; omega
            · have x1 : ((o.1.toNat : Int) == 1) = false := by rw [h3]; rfl
              have x2 : ((o.1.toNat : Int) == 2) = false := by rw [h3]; rfl
              have x3 : ((o.1.toNat : Int) == 3) = false := by rw [h3]; rfl
              have x5 : ((o.1.toNat : Int) == 5) = false := by rw [h3]; rfl
              have x7 : ((o.1.toNat : Int) == 7) = true := by rw [h3]; rfl
              have HD : Hid (dropP q o = { q with w := { q.w with pfc := false } }) := by show dropP q o = _; unfold dropP dropW; rw [if_neg (by rw [h3]; decide), if_neg (by rw [h3]; decide), if_neg (by rw [h3]; decide), if_neg (by rw [h3]; decide), if_pos h3, h3]; simp
              have p17 : wr.cell? ⟨g, 17, none⟩ = some (.bool q.w.pfc) := HJ.out.p.c 17
              have f17 := HJ.out.p.f 17
              clear hkn h3
              go_wp2
              go_roundw
              case rel => exact ⟨k + 1, by omega, by go_num, by
                have h := HJ.out.turn (set_moves wr g 17 (.bool false)) (show RAt _ g { q with w := { q.w with pfc := false } } from Blk.set HJ.out.p 17 (.bool false))
                rw [HF.out, HD.out]
                exact h⟩
              case measure => simp [intOf]; omega
            · have x1 : ((o.1.toNat : Int) == 1) = false := by rw [h3]; rfl
              have x2 : ((o.1.toNat : Int) == 2) = false := by rw [h3]; rfl
              have x3 : ((o.1.toNat : Int) == 3) = false := by rw [h3]; rfl
              have x5 : ((o.1.toNat : Int) == 5) = false := by rw [h3]; rfl
              have x7 : ((o.1.toNat : Int) == 7) = false := by rw [h3]; rfl
              have x8 : ((o.1.toNat : Int) == 8) = true := by rw [h3]; rfl
              have HD : Hid (dropP q o = { q with w := { q.w with acfc := false } }) := by show dropP q o = _; unfold dropP dropW; rw [if_neg (by rw [h3]; decide), if_neg (by rw [h3]; decide), if_neg (by rw [h3]; decide), if_neg (by rw [h3]; decide), if_neg (by rw [h3]; decide), if_pos h3, h3]; simp
              have p18 : wr.cell? ⟨g, 18, none⟩ = some (.bool q.w.acfc) := HJ.out.p.c 18
              have f18 := HJ.out.p.f 18
              clear hkn h3
              go_wp2
              go_roundw
              case rel => exact ⟨k + 1, by omega, by go_num, by
                have h := HJ.out.turn (set_moves wr g 18 (.bool false)) (show RAt _ g { q with w := { q.w with acfc := false } } from Blk.set HJ.out.p 18 (.bool false))
                rw [HF.out, HD.out]
                exact h⟩
              case measure => simp [intOf]; omega
          · obtain rfl : k = i := by omega
            have hlt2 := decide_eq_false (show ¬ (k : Int) < (k : Int) by omega)
            have HZ : Hid ((l.take k).foldl dropP p = l.foldl dropP p) := by show _ = _; rw [List.take_of_length_le (by rw [Hn.out]; exact Nat.le_refl _)]
            go_wp2
            go_ret
            unfold RRepQ
            rw [HE.out.1, HE.out.2, ← HZ.out]
            exact ⟨rfl, HJ.out.p, HJ.out.m⟩
end Go.Proofs.YtpohcejgblahiaaGreat.Pol
