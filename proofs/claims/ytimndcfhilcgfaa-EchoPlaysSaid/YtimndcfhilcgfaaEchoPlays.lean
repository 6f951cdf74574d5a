/- PROVED: 'halyardlaw17.EchoPlays' returns true for any conf, any magic number, any time and any row of steps, and leaves them as they were. No condition. -/
import Derived.Test.YtimndcfhilcgfaaEchJ
import Derived.Test.YtimndcfhilcgfaaEchM
import Derived.Test.YtimndcfhilcgfaaInt2
import Derived.Test.YtimndcfhilcgfaaLaw
import Derived.Test.YtimndcfhilcgfaaRows
import Derived.Deep.DeepCutAuto
namespace Go.Proofs.Ytimndcfhilcgfaa.EchoPlays
open Go.ChangeShapes Go.WideShapes Go.ChangeAt Go.RowKit Go.Proofs.Ytimndcfhilcgfaa.Oct Go.Proofs.Ytimndcfhilcgfaa.Row Go.Proofs.Ytimndcfhilcgfaa.Mem Go.Proofs.Ytimndcfhilcgfaa.Law Go.Proofs.Ytimndcfhilcgfaa.Ech Go.Proofs.Ytimndcfhilcgfaa.Pkt

/-- Both echoes, alike. -/
def Two (w wr : World) (g R : Nat) (x : Ec) : Prop := EAt wr g x ∧ RAt wr R x ∧ Below w.heap.size w wr ∧ w.heap.size ≤ g ∧ w.heap.size ≤ R
theorem Two.ne {w wr : World} {g R : Nat} {x : Ec} (h : Two w wr g R x) : g ≠ R := blk_ne h.1 h.2.1 (by decide)
theorem Two.callee {w wr w' : World} {g R : Nat} {x : Ec} (h : Two w wr g R x) (hb : Below wr.heap.size wr w') : Two w w' g R x := ⟨h.1.callee hb, h.2.1.callee hb, h.2.2.1.trans (hb.mono h.2.2.1.size), h.2.2.2⟩
/-- Behind a call of each. -/
def Got (w wr : World) (g R : Nat) (y : Ec) (l : List Pk) (A A' : Option Addr) : Prop := Two w wr g R y ∧ Pks wr A l ∧ Pks wr A' l
theorem got_of {w wr w1 w2 : World} {g R c : Nat} {x y : Ec} {l : List Pk} {A A' : Option Addr} (h : Two w wr g R x) (hr : RowP w1 wr.heap.size A c l) (h1 : EAt w1 g y) (hm1 : Moves (fun k => k = g) wr w1)
    (hp : Pks w2 A' l) (h2 : RAt w2 R y) (hm2 : Moves (fun k => k = R) w1 w2) : Got w w2 g R y l A A' :=
  ⟨⟨h1.moves hm2 h.ne, h2, (h.2.2.1.trans (hm1.below h.2.2.1.size fun k e => by have := h.2.2.2.1; omega)).trans (hm2.below (Nat.le_trans h.2.2.1.size hm1.size) fun k e => by have := h.2.2.2.2; omega), h.2.2.2⟩,
    (RowP.moves hr h.2.1.lt hm2).pks, hp⟩
theorem rat_of {w wr w1 : World} {g R : Nat} {x : Ec} (h : Two w wr g R x) (hm : Moves (fun k => k = g) wr w1) : RAt w1 R x := h.2.1.moves hm (fun e => h.ne e.symm)
theorem next_q {w : World} {g : Nat} {x : Ec} (h : EAt w g x) (hi : Inv x) : Calls Try.prog 10 #[.pointer (some ⟨g, 0, none⟩)] w fun e w' => e = .returned (.tuple #[.int .i64 (atV x), .bool (isB x)]) ∧ ∃ k, w' = w.drewN k := next_any g x w h hi
theorem rnext_q {w : World} {g : Nat} {x : Ec} (h : RAt w g x) (hi : Inv x) : Calls Try.prog 19 #[.pointer (some ⟨g, 0, none⟩)] w fun e w' => e = .returned (.tuple #[.int .i64 (atV x), .bool (isB x)]) ∧ ∃ k, w' = w.drewN k := rnext_any g x w h hi
theorem dead_q {w : World} {g : Nat} {x : Ec} (h : EAt w g x) : ∀ n, Calls Try.prog 11 #[.pointer (some ⟨g, 0, none⟩)] (w.drewN n) fun e w' => e = .returned (.bool x.de) ∧ w' = w.drewN n := fun n => (dead_any g x (w.drewN n) (h.drewN n)).mono fun _ _ ⟨he, hw⟩ => ⟨he, hw.symm⟩
theorem missed_q {w : World} {g : Nat} {x : Ec} (h : EAt w g x) : ∀ n, Calls Try.prog 12 #[.pointer (some ⟨g, 0, none⟩)] (w.drewN n) fun e w' => e = .returned (.int .i64 x.mi) ∧ w' = w.drewN n := fun n => (missed_any g x (w.drewN n) (h.drewN n)).mono fun _ _ ⟨he, hw⟩ => ⟨he, hw.symm⟩
theorem same_q {w : World} {l : List Pk} {m c c' : Nat} {A A' : Option Addr} (hm : l.length = m) (hl : m ≤ 1) (h : Pks w A l) (h' : Pks w A' l) : ∀ n, Calls Try.prog 20 #[.slice A m c, .slice A' m c'] (w.drewN n) fun e w' => e = .returned (.bool true) ∧ ∃ k, w' = (w.drewN n).drewN k :=
  fun n => same_yes l m A A' c c' (w.drewN n) hm (by unfold maxLen; omega) h h'
/-- The packet of a reply, in a block that is new. -/
def RepB (W wx : World) (b j : Nat) (Y : ByteArray) : Prop := Blk wx b [.int .u8 10, .int .u8 j, .string Y] 35 ∧ Below W.heap.size W wx ∧ W.heap.size ≤ b
theorem repb {W U : World} {b j : Nat} {Y : ByteArray} (h : Blk U b [.int .u8 0, .int .u8 0, .string ⟨#[]⟩] 35 ∧ Below W.heap.size W U ∧ W.heap.size ≤ b) :
    RepB W (((U.setCell ⟨b, 0, none⟩ (.int .u8 10)).setCell ⟨b, 1, none⟩ (.int .u8 j)).setCell ⟨b, 2, none⟩ (.string Y)) b j Y ∧ Below W.heap.size W (((U.setCell ⟨b, 0, none⟩ (.int .u8 10)).setCell ⟨b, 1, none⟩ (.int .u8 j)).setCell ⟨b, 2, none⟩ (.string Y)) ∧
    ∀ (p : Addr), p.block < W.heap.size → ∀ {v : Value}, W.drew.cell? p = some v → (((U.setCell ⟨b, 0, none⟩ (.int .u8 10)).setCell ⟨b, 1, none⟩ (.int .u8 j)).setCell ⟨b, 2, none⟩ (.string Y)).cell? p = some v := by
  have hb : Below W.heap.size W (((U.setCell ⟨b, 0, none⟩ (.int .u8 10)).setCell ⟨b, 1, none⟩ (.int .u8 j)).setCell ⟨b, 2, none⟩ (.string Y)) := ((h.2.1.setCell (p := ⟨b, 0, none⟩) h.2.2 _).setCell (p := ⟨b, 1, none⟩) h.2.2 _).setCell (p := ⟨b, 2, none⟩) h.2.2 _
  exact ⟨⟨((h.1.set 0 (.int .u8 10)).set 1 (.int .u8 j)).set 2 (.string Y), hb, h.2.2⟩, hb, fun p hp v hv => (hb.cell hp).trans hv⟩
theorem tk_now {x : Ec} {t : Int} (h : tE x t = 0) : (tk x t).now = t := by
  unfold tk Ech.ask
  rw [if_pos h]
  split
  · split <;> rfl
  · rfl
theorem tk_same {x : Ec} {t : Int} (h : tE x t ≠ 0) : (tk x t).now = x.now := by
  unfold tk
  rw [if_neg h]
theorem gt_now (x : Ec) (p : Pk) : (gt x p).now = x.now := by unfold gt; split <;> rfl
theorem tE_two {x : Ec} {t : Int} (h : tE x t ≠ 0) : tE x t = 2 := by
  unfold tE at *
  split at h <;> rename_i hc
  · rw [if_pos hc]
  · exact absurd rfl h

set_option maxHeartbeats 16000000 in
set_option maxRecDepth 100000 in
theorem walk_no (a b : Int) (mg : Nat) (t : Int) (A0 : Option Addr) (n q : Nat) (w : World) (hmg : mg < 4294967296) (hnm : n ≤ maxLen) (hT : Stps w w.heap.size A0 n) (hm : may a b t = false) :
    Calls Try.prog 3 #[.agg #[.int .i64 a, .int .i64 b], .int .u32 mg, .int .i64 t, .slice A0 n q] w fun e w' => e = .returned (.bool true) ∧ Below w.heap.size w w' := by
  obtain ⟨W, hW, c0, c1, HB⟩ := boxC w a b
  have HL := Lib.hid (fun w (h : Stps w w.heap.size A0 n) => long_any A0 n q w h hnm)
  have HS : Hid (Stps W W.heap.size A0 n) := fun j hj => by
    obtain ⟨ad, s, h1, h2, h3⟩ := (hT.below HB.out) j hj
    exact ⟨ad, s, h1, Nat.lt_of_lt_of_le h2 HB.out.size, h3⟩
  have HN := Lib.hid (fun w => new_no a b mg t w hm)
  have HM : Hid (∀ w, Calls Try.prog 15 #[.agg #[.int .i64 a, .int .i64 b], .int .i64 t] w fun o w' => o = .returned (.bool false) ∧ Below w.heap.size w w') := fun w => by have h := rmay_any a b t w; rw [hm] at h; exact h
  clear hT hm
  go_enter Try.func3, Try.ntmps3
  go_wp2_with fail
  refine (HL.out _ HS.out).mono ?_
  rintro o _ ⟨⟨lb, rfl, _⟩, rfl⟩
  clear HL HS
  cases lb
  · go_wp2_with fail
    refine (nil_tick 1 _).mono ?_
    rintro o _ ⟨rfl, rfl⟩
    go_wp2_with fail
    refine (nil_packet 0 0 ⟨#[]⟩ _).mono ?_
    rintro o w1 ⟨rfl, hb⟩
    have HB1 := Lib.hid (HB.out.trans (hb.mono HB.out.size))
    have d0 : w1.cell? ⟨w.heap.size, 0, none⟩ = some (.int .i64 a) := (hb.cell (p := ⟨w.heap.size, 0, none⟩) (World.block_lt_of_cell? _ _ c0)).trans c0
    have d1 : w1.cell? ⟨w.heap.size, 1, none⟩ = some (.int .i64 b) := (hb.cell (p := ⟨w.heap.size, 1, none⟩) (World.block_lt_of_cell? _ _ c1)).trans c1
    clear hb
    go_wp2_with fail
    refine (nil_get _).1.mono ?_
    rintro o _ ⟨rfl, rfl⟩
    go_wp2_with fail
    refine (nil_get _).2.1.mono ?_
    rintro o _ ⟨rfl, rfl⟩
    go_wp2_with fail
    refine (nil_get _).2.2.1.mono ?_
    rintro o _ ⟨rfl, rfl⟩
    go_wp2_with fail
    refine (nil_get _).2.2.2.mono ?_
    rintro o _ ⟨rfl, rfl⟩
    go_wp2_with fail
    refine (HN.out _).mono ?_
    rintro o w2 ⟨rfl, hb⟩
    have HB2 := Lib.hid (HB1.out.trans (hb.mono HB1.out.size))
    have e0 := (hb.cell (p := ⟨w.heap.size, 0, none⟩) (World.block_lt_of_cell? _ _ d0)).trans d0
    have e1 := (hb.cell (p := ⟨w.heap.size, 1, none⟩) (World.block_lt_of_cell? _ _ d1)).trans d1
    clear hb
    go_wp2_with fail
    refine (HM.out _).mono ?_
    rintro o w3 ⟨rfl, hb⟩
    have HB3 := Lib.hid (HB2.out.trans (hb.mono HB2.out.size))
    clear hb
    go_wp2_with fail
    refine (alive_any _).mono ?_
    rintro o w9 ⟨rfl, hb⟩
    have HE := Lib.hid (HB3.out.trans (hb.mono HB3.out.size))
    clear hb
    go_wp2
    go_ret
    exact ⟨rfl, HE.out⟩
  · go_wp2_with fail
    refine (alive_any _).mono ?_
    rintro o w9 ⟨rfl, hb⟩
    have HE := Lib.hid (HB.out.trans (hb.mono HB.out.size))
    clear hb
    go_wp2
    go_ret
    exact ⟨rfl, HE.out⟩
set_option maxHeartbeats 16000000 in
set_option maxRecDepth 100000 in
theorem walk_yes (e m mg : Nat) (t : Int) (A0 : Option Addr) (n q : Nat) (w : World) (hmg : mg < 4294967296) (hnm : n ≤ maxLen) (hT : Stps w w.heap.size A0 n) (hm : may e m t = true) :
    Calls Try.prog 3 #[.agg #[.int .i64 e, .int .i64 m], .int .u32 mg, .int .i64 t, .slice A0 n q] w fun e w' => e = .returned (.bool true) ∧ Below w.heap.size w w' := by
  obtain ⟨W, hW, c0, c1, HB⟩ := boxC w e m
  have HL := Lib.hid (fun w (h : Stps w w.heap.size A0 n) => long_any A0 n q w h hnm)
  have HS : Hid (Stps W W.heap.size A0 n) := fun j hj => by
    obtain ⟨ad, s, h1, h2, h3⟩ := (hT.below HB.out) j hj
    exact ⟨ad, s, h1, Nat.lt_of_lt_of_le h2 HB.out.size, h3⟩
  have HSt := Lib.hid hT
  have HI0 := Lib.hid (inv_nw hm hmg)
  have HN := Lib.hid (fun w => new_ok e m mg t w hm)
  have HM : Hid (∀ w, Calls Try.prog 15 #[.agg #[.int .i64 e, .int .i64 m], .int .i64 t] w fun o w' => o = .returned (.bool true) ∧ Below w.heap.size w w') := fun w => by have h := rmay_any e m t w; rw [hm] at h; exact h
  unfold maxLen at hnm
  clear hT hm
  go_enter Try.func3, Try.ntmps3
  go_wp2_with fail
  refine (HL.out _ HS.out).mono ?_
  rintro o _ ⟨⟨lb, rfl, hlb⟩, rfl⟩
  have HLB := Lib.hid hlb
  clear HL HS hlb
  cases lb
  · have hn150 : n ≤ 150 := HLB.out rfl
    clear HLB
    go_wp2_with fail
    refine (nil_tick 1 _).mono ?_
    rintro o _ ⟨rfl, rfl⟩
    go_wp2_with fail
    refine (nil_packet 0 0 ⟨#[]⟩ _).mono ?_
    rintro o w1 ⟨rfl, hb⟩
    have HB1 := Lib.hid (HB.out.trans (hb.mono HB.out.size))
    have d0 : w1.cell? ⟨w.heap.size, 0, none⟩ = some (.int .i64 e) := (hb.cell (p := ⟨w.heap.size, 0, none⟩) (World.block_lt_of_cell? _ _ c0)).trans c0
    have d1 : w1.cell? ⟨w.heap.size, 1, none⟩ = some (.int .i64 m) := (hb.cell (p := ⟨w.heap.size, 1, none⟩) (World.block_lt_of_cell? _ _ c1)).trans c1
    clear hb
    go_wp2_with fail
    refine (nil_get _).1.mono ?_
    rintro o _ ⟨rfl, rfl⟩
    go_wp2_with fail
    refine (nil_get _).2.1.mono ?_
    rintro o _ ⟨rfl, rfl⟩
    go_wp2_with fail
    refine (nil_get _).2.2.1.mono ?_
    rintro o _ ⟨rfl, rfl⟩
    go_wp2_with fail
    refine (nil_get _).2.2.2.mono ?_
    rintro o _ ⟨rfl, rfl⟩
    go_wp2_with fail
    refine (HN.out _).mono ?_
    rintro o w2 ⟨g, rfl, hg, hx, hb⟩
    have HB2 := Lib.hid (HB1.out.trans (hb.mono HB1.out.size))
    have HX2 := Lib.hid hx
    have HG2 : Hid (w.heap.size ≤ g) := Nat.le_trans HB1.out.size hg
    have e0 := (hb.cell (p := ⟨w.heap.size, 0, none⟩) (World.block_lt_of_cell? _ _ d0)).trans d0
    have e1 := (hb.cell (p := ⟨w.heap.size, 1, none⟩) (World.block_lt_of_cell? _ _ d1)).trans d1
    clear hb hg hx
    unfold ptr
    go_wp2_with fail
    refine (HM.out _).mono ?_
    rintro o w3 ⟨rfl, hb⟩
    have HB3 := Lib.hid (HB2.out.trans (hb.mono HB2.out.size))
    have HX3 := Lib.hid (HX2.out.callee hb)
    have g0 := (hb.cell (p := ⟨w.heap.size, 0, none⟩) (World.block_lt_of_cell? _ _ e0)).trans e0
    have g1 := (hb.cell (p := ⟨w.heap.size, 1, none⟩) (World.block_lt_of_cell? _ _ e1)).trans e1
    clear hb e0 e1 d0 d1 HX2 HB2
    have HL : Hid (Two w (w3.alloc (.cells #[.int .i64 e, .int .i64 m, .int .u32 mg, .int .i64 t, .int .i64 t, .int .i64 0, .int .i64 0, .bool false] 45)) g w3.heap.size (nw e m mg t)) :=
      ⟨HX3.out.alloc _, blk_new w3 (dv (nw e m mg t)) _, HB3.out.alloc HB3.out.size _, HG2.out, HB3.out.size⟩
    obtain ⟨R, hR⟩ : ∃ R, w3.heap.size = R := ⟨_, rfl⟩
    rw [hR] at HL
    go_wp2_with fail
    go_loopw [2, 16, 19] (fun u p v wr => ∃ (i g : Nat) (x : Ec), i ≤ n ∧ u = .int .i64 x.now ∧ p = .pointer (some ⟨g, 0, none⟩) ∧ v = .int .i64 i ∧ Hid (Two w wr g R x) ∧ Hid (Inv x) ∧ Hid (x.n ≤ i)) (fun _ _ v _ => n - (intOf v).toNat)
    case atStart => exact ⟨0, g, nw e m mg t, Nat.zero_le _, rfl, rfl, rfl, HL, HI0, Nat.le_refl 0⟩
    case round =>
      obtain ⟨i, g, x, hi, rfl, rfl, rfl, HF, HI, HXn⟩ := hrel
      by_cases hlt : i < n
      · obtain ⟨ad, st, rfl, hbk, hst, hz, hsm, hsa0, hsa1⟩ := (HSt.out.below HF.out.2.2.1).at_ hlt
        obtain ⟨k0, k1, k2, k3, k4, k5⟩ := hst
        have hi2 : (i : Int) < (n : Int) := by omega
        have hi0 : (0 : Int) ≤ (i : Int) := Int.natCast_nonneg i
        have hi3 : (i : Int) ≤ 150 := by omega
        have HB6 := Lib.hid (blk_new wr [.int .i64 st.d, .int .i64 st.a, .int .u8 st.p.c.toNat, .int .u8 st.p.i.toNat, .string st.p.d, .int .u32 st.mg] 47)
        have H1 : Hid (Two w (wr.alloc (.cells #[.int .i64 st.d, .int .i64 st.a, .int .u8 st.p.c.toNat, .int .u8 st.p.i.toNat, .string st.p.d, .int .u32 st.mg] 47)) g R x) := HF.out.callee ((Below.refl _ wr).alloc (Nat.le_refl _) _)
        obtain ⟨W1, hW1⟩ : ∃ W1, wr.alloc (.cells #[.int .i64 st.d, .int .i64 st.a, .int .u8 st.p.c.toNat, .int .u8 st.p.i.toNat, .string st.p.d, .int .u32 st.mg] 47) = W1 := ⟨_, rfl⟩
        rw [hW1] at H1
        replace HB6 : Hid (Blk W1 wr.heap.size [.int .i64 st.d, .int .i64 st.a, .int .u8 st.p.c.toNat, .int .u8 st.p.i.toNat, .string st.p.d, .int .u32 st.mg] 47) := by rw [← hW1]; exact HB6
        have v0 : W1.cell? ⟨wr.heap.size, 0, none⟩ = some (.int .i64 st.d) := HB6.out.at_ 0
        have v1 : W1.cell? ⟨wr.heap.size, 1, none⟩ = some (.int .i64 st.a) := HB6.out.at_ 1
        have v2 : W1.cell? ⟨wr.heap.size, 2, none⟩ = some (.int .u8 st.p.c.toNat) := HB6.out.at_ 2
        have v3 : W1.cell? ⟨wr.heap.size, 3, none⟩ = some (.int .u8 st.p.i.toNat) := HB6.out.at_ 3
        have v4 : W1.cell? ⟨wr.heap.size, 4, none⟩ = some (.string st.p.d) := HB6.out.at_ 4
        have v5 : W1.cell? ⟨wr.heap.size, 5, none⟩ = some (.int .u32 st.mg) := HB6.out.at_ 5
        have HK : Hid (wr.heap.size < W1.heap.size) := HB6.out.lt
        have HgF : Hid (g < wr.heap.size) := HF.out.1.lt
        clear HF
        have HNn : Hid (x.n ≤ i) := HXn
        have HGn : Hid (wr.heap.size ≠ g) := fun e => by have h := HgF.out; omega
        by_cases hd0 : st.d = 0
        · have q0 : (st.d == 0) = true := by rw [hd0]; rfl
          clear hd0
          have HXb : Hid (0 ≤ x.now ∧ x.now ≤ 1152921504606846976) := ⟨Int.le_trans HI.out.si0 HI.out.si1, HI.out.now⟩
          have hx0 := HXb.out.1
          have hx1 := HXb.out.2
          by_cases ha : 1099511627776 < st.a
          · have ha' := decide_eq_true ha
            have ht0 : -1099511627776 ≤ x.now + 1099511627776 := by omega
            have ht1 : x.now + 1099511627776 ≤ 1152922604118474752 := by omega
            have HC1 : Hid (Calls Try.prog 8 #[.pointer (some ⟨g, 0, none⟩), .int .i64 (x.now + 1099511627776)] W1 (OutQ g (tk x (x.now + 1099511627776)) (tL x (x.now + 1099511627776)) (tE x (x.now + 1099511627776)) W1)) := tick_any g x _ W1 H1.out.1 HI.out
            have HC2 : Hid (∀ W, RAt W R x → Calls Try.prog 16 #[.pointer (some ⟨R, 0, none⟩), .int .i64 (x.now + 1099511627776)] W (ROutQ R (tk x (x.now + 1099511627776)) (tL x (x.now + 1099511627776)) (tE x (x.now + 1099511627776)) W)) := fun W h => rtick_any R x _ W h HI.out (by have := HNn.out; omega)
            have HV := Lib.hid (tk_inv (t := x.now + 1099511627776) HI.out)
            replace HNn : Hid ((tk x (x.now + 1099511627776)).n ≤ i + 1) := Nat.le_trans (tk_n x _) (Nat.succ_le_succ HNn.out)
            have HL1 := Lib.hid (tL_len x (x.now + 1099511627776))
            by_cases hE : tE x (x.now + 1099511627776) = 0
            · have HNow := Lib.hid (tk_now hE)
              rw [hE] at HC1 HC2
              clear hE
              as_aux_lemma =>
                generalize tk x (x.now + 1099511627776) = y at *
                generalize tL x (x.now + 1099511627776) = l at *
                obtain ⟨m, hlm⟩ : ∃ m, l.length = m := ⟨_, rfl⟩
                have HLm := Lib.hid hlm
                rw [hlm] at HL1
                go_wp2_with fail
                refine HC1.out.mono ?_
                rintro o w3 ⟨A, c3, rfl, hr, h1, hm1⟩
                have HC3 := Lib.hid (HC2.out w3 (rat_of H1.out hm1))
                have HR3 := Lib.hid hr
                have HE3 := Lib.hid h1
                have HM3 := Lib.hid hm1
                clear hr h1 hm1 HC1 HC2
                go_wp2_with fail
                refine HC3.out.mono ?_
                rintro o w4 ⟨A', c4, rfl, hp, _, h2, hm2⟩
                have HG := Lib.hid (got_of H1.out HR3.out HE3.out HM3.out hp h2 hm2)
                try rw [hlm]
                clear hp h2 hm2 HC3 HR3 HE3 HM3
                clear hW1 v0 v1 v2 v3 v4 v5 hlm H1 HI HB6
                have HN1 := Lib.hid (next_q HG.out.1.1 HV.out)
                have HN2 := Lib.hid (fun k => rnext_q (RAt.drewN HG.out.1.2.1 k) HV.out)
                go_wp2_with fail
                refine HN1.out.mono ?_
                rintro o w6 ⟨rfl, k6, rfl⟩
                go_wp2_with fail
                refine (HN2.out _).mono ?_
                rintro o w7 ⟨rfl, k7, rfl⟩
                have HT : Hid (Two w (w4.drewN (k6 + k7)) g R y) := ⟨HG.out.1.1, HG.out.1.2.1, HG.out.1.2.2.1.drewN' _, HG.out.1.2.2.2⟩
                have HP1 : Hid (Pks (w4.drewN (k6 + k7)) A l) := HG.out.2.1
                have HP2 : Hid (Pks (w4.drewN (k6 + k7)) A' l) := HG.out.2.2
                clear HN1 HN2
                have hdw : ((w4.drewN k6).drewN k7) = w4.drewN (k6 + k7) := World.drewN_drewN _ _ _
                (try rw [hdw])
                clear hdw
                generalize w4.drewN (k6 + k7) = V at *
                have S1 := Lib.hid (same_q (c := c3) (c' := c4) HLm.out HL1.out HP1.out HP2.out)
                have S2 := Lib.hid (dead_q HT.out.1)
                have S3 := Lib.hid (missed_q HT.out.1)
                have r7 : V.cell? ⟨R, 7, none⟩ = some (.bool y.de) := HT.out.2.1.c 7
                have r6 : V.cell? ⟨R, 6, none⟩ = some (.int .i64 y.mi) := HT.out.2.1.c 6
                clear HG HP1 HP2
                generalize atV y = av at *
                generalize isB y = ab at *
                go_wp2_with fail
                go_quiet (first
                  | (go_at_call 20; refine Calls.quiet_of (S1.out _))
                  | (go_at_call 11; refine Calls.quiet_of_same (S2.out _))
                  | (go_at_call 12; refine Calls.quiet_of_same (S3.out _)))
                go_wp2
                go_roundw
                case rel => exact ⟨i + 1, g, y, by omega, by rw [HNow.out], rfl, by go_num, ⟨HT.out.1, HT.out.2.1, HT.out.2.2.1.drewN' _, HT.out.2.2.2⟩, HV.out, HNn.out⟩
                case measure => simp [intOf]; omega
            · have HNow := Lib.hid (tk_same hE)
              rw [tE_two hE] at HC1 HC2
              clear hE
              as_aux_lemma =>
                generalize tk x (x.now + 1099511627776) = y at *
                generalize tL x (x.now + 1099511627776) = l at *
                obtain ⟨m, hlm⟩ : ∃ m, l.length = m := ⟨_, rfl⟩
                have HLm := Lib.hid hlm
                rw [hlm] at HL1
                go_wp2_with fail
                refine HC1.out.mono ?_
                rintro o w3 ⟨A, c3, rfl, hr, h1, hm1⟩
                have HC3 := Lib.hid (HC2.out w3 (rat_of H1.out hm1))
                have HR3 := Lib.hid hr
                have HE3 := Lib.hid h1
                have HM3 := Lib.hid hm1
                clear hr h1 hm1 HC1 HC2
                go_wp2_with fail
                refine HC3.out.mono ?_
                rintro o w4 ⟨A', c4, rfl, hp, _, h2, hm2⟩
                have HG := Lib.hid (got_of H1.out HR3.out HE3.out HM3.out hp h2 hm2)
                try rw [hlm]
                clear hp h2 hm2 HC3 HR3 HE3 HM3
                clear hW1 v0 v1 v2 v3 v4 v5 hlm H1 HI HB6
                have HN1 := Lib.hid (next_q HG.out.1.1 HV.out)
                have HN2 := Lib.hid (fun k => rnext_q (RAt.drewN HG.out.1.2.1 k) HV.out)
                go_wp2_with fail
                refine HN1.out.mono ?_
                rintro o w6 ⟨rfl, k6, rfl⟩
                go_wp2_with fail
                refine (HN2.out _).mono ?_
                rintro o w7 ⟨rfl, k7, rfl⟩
                have HT : Hid (Two w (w4.drewN (k6 + k7)) g R y) := ⟨HG.out.1.1, HG.out.1.2.1, HG.out.1.2.2.1.drewN' _, HG.out.1.2.2.2⟩
                have HP1 : Hid (Pks (w4.drewN (k6 + k7)) A l) := HG.out.2.1
                have HP2 : Hid (Pks (w4.drewN (k6 + k7)) A' l) := HG.out.2.2
                clear HN1 HN2
                have hdw : ((w4.drewN k6).drewN k7) = w4.drewN (k6 + k7) := World.drewN_drewN _ _ _
                (try rw [hdw])
                clear hdw
                generalize w4.drewN (k6 + k7) = V at *
                have S1 := Lib.hid (same_q (c := c3) (c' := c4) HLm.out HL1.out HP1.out HP2.out)
                have S2 := Lib.hid (dead_q HT.out.1)
                have S3 := Lib.hid (missed_q HT.out.1)
                have r7 : V.cell? ⟨R, 7, none⟩ = some (.bool y.de) := HT.out.2.1.c 7
                have r6 : V.cell? ⟨R, 6, none⟩ = some (.int .i64 y.mi) := HT.out.2.1.c 6
                clear HG HP1 HP2
                generalize atV y = av at *
                generalize isB y = ab at *
                go_wp2_with fail
                go_quiet (first
                  | (go_at_call 20; refine Calls.quiet_of (S1.out _))
                  | (go_at_call 11; refine Calls.quiet_of_same (S2.out _))
                  | (go_at_call 12; refine Calls.quiet_of_same (S3.out _)))
                go_wp2
                go_roundw
                case rel => exact ⟨i + 1, g, y, by omega, by rw [HNow.out], rfl, by go_num, ⟨HT.out.1, HT.out.2.1, HT.out.2.2.1.drewN' _, HT.out.2.2.2⟩, HV.out, HNn.out⟩
                case measure => simp [intOf]; omega
          · by_cases hb : st.a < -1099511627776
            · have ha' := decide_eq_false ha
              have hb' := decide_eq_true hb
              have ht0 : -1099511627776 ≤ x.now + -1099511627776 := by omega
              have ht1 : x.now + -1099511627776 ≤ 1152922604118474752 := by omega
              have HC1 : Hid (Calls Try.prog 8 #[.pointer (some ⟨g, 0, none⟩), .int .i64 (x.now + -1099511627776)] W1 (OutQ g (tk x (x.now + -1099511627776)) (tL x (x.now + -1099511627776)) (tE x (x.now + -1099511627776)) W1)) := tick_any g x _ W1 H1.out.1 HI.out
              have HC2 : Hid (∀ W, RAt W R x → Calls Try.prog 16 #[.pointer (some ⟨R, 0, none⟩), .int .i64 (x.now + -1099511627776)] W (ROutQ R (tk x (x.now + -1099511627776)) (tL x (x.now + -1099511627776)) (tE x (x.now + -1099511627776)) W)) := fun W h => rtick_any R x _ W h HI.out (by have := HNn.out; omega)
              have HV := Lib.hid (tk_inv (t := x.now + -1099511627776) HI.out)
              replace HNn : Hid ((tk x (x.now + -1099511627776)).n ≤ i + 1) := Nat.le_trans (tk_n x _) (Nat.succ_le_succ HNn.out)
              have HL1 := Lib.hid (tL_len x (x.now + -1099511627776))
              by_cases hE : tE x (x.now + -1099511627776) = 0
              · have HNow := Lib.hid (tk_now hE)
                rw [hE] at HC1 HC2
                clear hE
                as_aux_lemma =>
                  generalize tk x (x.now + -1099511627776) = y at *
                  generalize tL x (x.now + -1099511627776) = l at *
                  obtain ⟨m, hlm⟩ : ∃ m, l.length = m := ⟨_, rfl⟩
                  have HLm := Lib.hid hlm
                  rw [hlm] at HL1
                  go_wp2_with fail
                  refine HC1.out.mono ?_
                  rintro o w3 ⟨A, c3, rfl, hr, h1, hm1⟩
                  have HC3 := Lib.hid (HC2.out w3 (rat_of H1.out hm1))
                  have HR3 := Lib.hid hr
                  have HE3 := Lib.hid h1
                  have HM3 := Lib.hid hm1
                  clear hr h1 hm1 HC1 HC2
                  go_wp2_with fail
                  refine HC3.out.mono ?_
                  rintro o w4 ⟨A', c4, rfl, hp, _, h2, hm2⟩
                  have HG := Lib.hid (got_of H1.out HR3.out HE3.out HM3.out hp h2 hm2)
                  try rw [hlm]
                  clear hp h2 hm2 HC3 HR3 HE3 HM3
                  clear hW1 v0 v1 v2 v3 v4 v5 hlm H1 HI HB6
                  have HN1 := Lib.hid (next_q HG.out.1.1 HV.out)
                  have HN2 := Lib.hid (fun k => rnext_q (RAt.drewN HG.out.1.2.1 k) HV.out)
                  go_wp2_with fail
                  refine HN1.out.mono ?_
                  rintro o w6 ⟨rfl, k6, rfl⟩
                  go_wp2_with fail
                  refine (HN2.out _).mono ?_
                  rintro o w7 ⟨rfl, k7, rfl⟩
                  have HT : Hid (Two w (w4.drewN (k6 + k7)) g R y) := ⟨HG.out.1.1, HG.out.1.2.1, HG.out.1.2.2.1.drewN' _, HG.out.1.2.2.2⟩
                  have HP1 : Hid (Pks (w4.drewN (k6 + k7)) A l) := HG.out.2.1
                  have HP2 : Hid (Pks (w4.drewN (k6 + k7)) A' l) := HG.out.2.2
                  clear HN1 HN2
                  have hdw : ((w4.drewN k6).drewN k7) = w4.drewN (k6 + k7) := World.drewN_drewN _ _ _
                  (try rw [hdw])
                  clear hdw
                  generalize w4.drewN (k6 + k7) = V at *
                  have S1 := Lib.hid (same_q (c := c3) (c' := c4) HLm.out HL1.out HP1.out HP2.out)
                  have S2 := Lib.hid (dead_q HT.out.1)
                  have S3 := Lib.hid (missed_q HT.out.1)
                  have r7 : V.cell? ⟨R, 7, none⟩ = some (.bool y.de) := HT.out.2.1.c 7
                  have r6 : V.cell? ⟨R, 6, none⟩ = some (.int .i64 y.mi) := HT.out.2.1.c 6
                  clear HG HP1 HP2
                  generalize atV y = av at *
                  generalize isB y = ab at *
                  go_wp2_with fail
                  go_quiet (first
                    | (go_at_call 20; refine Calls.quiet_of (S1.out _))
                    | (go_at_call 11; refine Calls.quiet_of_same (S2.out _))
                    | (go_at_call 12; refine Calls.quiet_of_same (S3.out _)))
                  go_wp2
                  go_roundw
                  case rel => exact ⟨i + 1, g, y, by omega, by rw [HNow.out], rfl, by go_num, ⟨HT.out.1, HT.out.2.1, HT.out.2.2.1.drewN' _, HT.out.2.2.2⟩, HV.out, HNn.out⟩
                  case measure => simp [intOf]; omega
              · have HNow := Lib.hid (tk_same hE)
                rw [tE_two hE] at HC1 HC2
                clear hE
                as_aux_lemma =>
                  generalize tk x (x.now + -1099511627776) = y at *
                  generalize tL x (x.now + -1099511627776) = l at *
                  obtain ⟨m, hlm⟩ : ∃ m, l.length = m := ⟨_, rfl⟩
                  have HLm := Lib.hid hlm
                  rw [hlm] at HL1
                  go_wp2_with fail
                  refine HC1.out.mono ?_
                  rintro o w3 ⟨A, c3, rfl, hr, h1, hm1⟩
                  have HC3 := Lib.hid (HC2.out w3 (rat_of H1.out hm1))
                  have HR3 := Lib.hid hr
                  have HE3 := Lib.hid h1
                  have HM3 := Lib.hid hm1
                  clear hr h1 hm1 HC1 HC2
                  go_wp2_with fail
                  refine HC3.out.mono ?_
                  rintro o w4 ⟨A', c4, rfl, hp, _, h2, hm2⟩
                  have HG := Lib.hid (got_of H1.out HR3.out HE3.out HM3.out hp h2 hm2)
                  try rw [hlm]
                  clear hp h2 hm2 HC3 HR3 HE3 HM3
                  clear hW1 v0 v1 v2 v3 v4 v5 hlm H1 HI HB6
                  have HN1 := Lib.hid (next_q HG.out.1.1 HV.out)
                  have HN2 := Lib.hid (fun k => rnext_q (RAt.drewN HG.out.1.2.1 k) HV.out)
                  go_wp2_with fail
                  refine HN1.out.mono ?_
                  rintro o w6 ⟨rfl, k6, rfl⟩
                  go_wp2_with fail
                  refine (HN2.out _).mono ?_
                  rintro o w7 ⟨rfl, k7, rfl⟩
                  have HT : Hid (Two w (w4.drewN (k6 + k7)) g R y) := ⟨HG.out.1.1, HG.out.1.2.1, HG.out.1.2.2.1.drewN' _, HG.out.1.2.2.2⟩
                  have HP1 : Hid (Pks (w4.drewN (k6 + k7)) A l) := HG.out.2.1
                  have HP2 : Hid (Pks (w4.drewN (k6 + k7)) A' l) := HG.out.2.2
                  clear HN1 HN2
                  have hdw : ((w4.drewN k6).drewN k7) = w4.drewN (k6 + k7) := World.drewN_drewN _ _ _
                  (try rw [hdw])
                  clear hdw
                  generalize w4.drewN (k6 + k7) = V at *
                  have S1 := Lib.hid (same_q (c := c3) (c' := c4) HLm.out HL1.out HP1.out HP2.out)
                  have S2 := Lib.hid (dead_q HT.out.1)
                  have S3 := Lib.hid (missed_q HT.out.1)
                  have r7 : V.cell? ⟨R, 7, none⟩ = some (.bool y.de) := HT.out.2.1.c 7
                  have r6 : V.cell? ⟨R, 6, none⟩ = some (.int .i64 y.mi) := HT.out.2.1.c 6
                  clear HG HP1 HP2
                  generalize atV y = av at *
                  generalize isB y = ab at *
                  go_wp2_with fail
                  go_quiet (first
                    | (go_at_call 20; refine Calls.quiet_of (S1.out _))
                    | (go_at_call 11; refine Calls.quiet_of_same (S2.out _))
                    | (go_at_call 12; refine Calls.quiet_of_same (S3.out _)))
                  go_wp2
                  go_roundw
                  case rel => exact ⟨i + 1, g, y, by omega, by rw [HNow.out], rfl, by go_num, ⟨HT.out.1, HT.out.2.1, HT.out.2.2.1.drewN' _, HT.out.2.2.2⟩, HV.out, HNn.out⟩
                  case measure => simp [intOf]; omega
            · have ha' := decide_eq_false ha
              have hb' := decide_eq_false hb
              have ht0 : -1099511627776 ≤ x.now + st.a := by omega
              have ht1 : x.now + st.a ≤ 1152922604118474752 := by omega
              have HC1 : Hid (Calls Try.prog 8 #[.pointer (some ⟨g, 0, none⟩), .int .i64 (x.now + st.a)] W1 (OutQ g (tk x (x.now + st.a)) (tL x (x.now + st.a)) (tE x (x.now + st.a)) W1)) := tick_any g x _ W1 H1.out.1 HI.out
              have HC2 : Hid (∀ W, RAt W R x → Calls Try.prog 16 #[.pointer (some ⟨R, 0, none⟩), .int .i64 (x.now + st.a)] W (ROutQ R (tk x (x.now + st.a)) (tL x (x.now + st.a)) (tE x (x.now + st.a)) W)) := fun W h => rtick_any R x _ W h HI.out (by have := HNn.out; omega)
              have HV := Lib.hid (tk_inv (t := x.now + st.a) HI.out)
              replace HNn : Hid ((tk x (x.now + st.a)).n ≤ i + 1) := Nat.le_trans (tk_n x _) (Nat.succ_le_succ HNn.out)
              have HL1 := Lib.hid (tL_len x (x.now + st.a))
              by_cases hE : tE x (x.now + st.a) = 0
              · have HNow := Lib.hid (tk_now hE)
                rw [hE] at HC1 HC2
                clear hE
                as_aux_lemma =>
                  generalize tk x (x.now + st.a) = y at *
                  generalize tL x (x.now + st.a) = l at *
                  obtain ⟨m, hlm⟩ : ∃ m, l.length = m := ⟨_, rfl⟩
                  have HLm := Lib.hid hlm
                  rw [hlm] at HL1
                  go_wp2_with fail
                  refine HC1.out.mono ?_
                  rintro o w3 ⟨A, c3, rfl, hr, h1, hm1⟩
                  have HC3 := Lib.hid (HC2.out w3 (rat_of H1.out hm1))
                  have HR3 := Lib.hid hr
                  have HE3 := Lib.hid h1
                  have HM3 := Lib.hid hm1
                  clear hr h1 hm1 HC1 HC2
                  go_wp2_with fail
                  refine HC3.out.mono ?_
                  rintro o w4 ⟨A', c4, rfl, hp, _, h2, hm2⟩
                  have HG := Lib.hid (got_of H1.out HR3.out HE3.out HM3.out hp h2 hm2)
                  try rw [hlm]
                  clear hp h2 hm2 HC3 HR3 HE3 HM3
                  clear hW1 v0 v1 v2 v3 v4 v5 hlm H1 HI HB6
                  have HN1 := Lib.hid (next_q HG.out.1.1 HV.out)
                  have HN2 := Lib.hid (fun k => rnext_q (RAt.drewN HG.out.1.2.1 k) HV.out)
                  go_wp2_with fail
                  refine HN1.out.mono ?_
                  rintro o w6 ⟨rfl, k6, rfl⟩
                  go_wp2_with fail
                  refine (HN2.out _).mono ?_
                  rintro o w7 ⟨rfl, k7, rfl⟩
                  have HT : Hid (Two w (w4.drewN (k6 + k7)) g R y) := ⟨HG.out.1.1, HG.out.1.2.1, HG.out.1.2.2.1.drewN' _, HG.out.1.2.2.2⟩
                  have HP1 : Hid (Pks (w4.drewN (k6 + k7)) A l) := HG.out.2.1
                  have HP2 : Hid (Pks (w4.drewN (k6 + k7)) A' l) := HG.out.2.2
                  clear HN1 HN2
                  have hdw : ((w4.drewN k6).drewN k7) = w4.drewN (k6 + k7) := World.drewN_drewN _ _ _
                  (try rw [hdw])
                  clear hdw
                  generalize w4.drewN (k6 + k7) = V at *
                  have S1 := Lib.hid (same_q (c := c3) (c' := c4) HLm.out HL1.out HP1.out HP2.out)
                  have S2 := Lib.hid (dead_q HT.out.1)
                  have S3 := Lib.hid (missed_q HT.out.1)
                  have r7 : V.cell? ⟨R, 7, none⟩ = some (.bool y.de) := HT.out.2.1.c 7
                  have r6 : V.cell? ⟨R, 6, none⟩ = some (.int .i64 y.mi) := HT.out.2.1.c 6
                  clear HG HP1 HP2
                  generalize atV y = av at *
                  generalize isB y = ab at *
                  go_wp2_with fail
                  go_quiet (first
                    | (go_at_call 20; refine Calls.quiet_of (S1.out _))
                    | (go_at_call 11; refine Calls.quiet_of_same (S2.out _))
                    | (go_at_call 12; refine Calls.quiet_of_same (S3.out _)))
                  go_wp2
                  go_roundw
                  case rel => exact ⟨i + 1, g, y, by omega, by rw [HNow.out], rfl, by go_num, ⟨HT.out.1, HT.out.2.1, HT.out.2.2.1.drewN' _, HT.out.2.2.2⟩, HV.out, HNn.out⟩
                  case measure => simp [intOf]; omega
              · have HNow := Lib.hid (tk_same hE)
                rw [tE_two hE] at HC1 HC2
                clear hE
                as_aux_lemma =>
                  generalize tk x (x.now + st.a) = y at *
                  generalize tL x (x.now + st.a) = l at *
                  obtain ⟨m, hlm⟩ : ∃ m, l.length = m := ⟨_, rfl⟩
                  have HLm := Lib.hid hlm
                  rw [hlm] at HL1
                  go_wp2_with fail
                  refine HC1.out.mono ?_
                  rintro o w3 ⟨A, c3, rfl, hr, h1, hm1⟩
                  have HC3 := Lib.hid (HC2.out w3 (rat_of H1.out hm1))
                  have HR3 := Lib.hid hr
                  have HE3 := Lib.hid h1
                  have HM3 := Lib.hid hm1
                  clear hr h1 hm1 HC1 HC2
                  go_wp2_with fail
                  refine HC3.out.mono ?_
                  rintro o w4 ⟨A', c4, rfl, hp, _, h2, hm2⟩
                  have HG := Lib.hid (got_of H1.out HR3.out HE3.out HM3.out hp h2 hm2)
                  try rw [hlm]
                  clear hp h2 hm2 HC3 HR3 HE3 HM3
                  clear hW1 v0 v1 v2 v3 v4 v5 hlm H1 HI HB6
                  have HN1 := Lib.hid (next_q HG.out.1.1 HV.out)
                  have HN2 := Lib.hid (fun k => rnext_q (RAt.drewN HG.out.1.2.1 k) HV.out)
                  go_wp2_with fail
                  refine HN1.out.mono ?_
                  rintro o w6 ⟨rfl, k6, rfl⟩
                  go_wp2_with fail
                  refine (HN2.out _).mono ?_
                  rintro o w7 ⟨rfl, k7, rfl⟩
                  have HT : Hid (Two w (w4.drewN (k6 + k7)) g R y) := ⟨HG.out.1.1, HG.out.1.2.1, HG.out.1.2.2.1.drewN' _, HG.out.1.2.2.2⟩
                  have HP1 : Hid (Pks (w4.drewN (k6 + k7)) A l) := HG.out.2.1
                  have HP2 : Hid (Pks (w4.drewN (k6 + k7)) A' l) := HG.out.2.2
                  clear HN1 HN2
                  have hdw : ((w4.drewN k6).drewN k7) = w4.drewN (k6 + k7) := World.drewN_drewN _ _ _
                  (try rw [hdw])
                  clear hdw
                  generalize w4.drewN (k6 + k7) = V at *
                  have S1 := Lib.hid (same_q (c := c3) (c' := c4) HLm.out HL1.out HP1.out HP2.out)
                  have S2 := Lib.hid (dead_q HT.out.1)
                  have S3 := Lib.hid (missed_q HT.out.1)
                  have r7 : V.cell? ⟨R, 7, none⟩ = some (.bool y.de) := HT.out.2.1.c 7
                  have r6 : V.cell? ⟨R, 6, none⟩ = some (.int .i64 y.mi) := HT.out.2.1.c 6
                  clear HG HP1 HP2
                  generalize atV y = av at *
                  generalize isB y = ab at *
                  go_wp2_with fail
                  go_quiet (first
                    | (go_at_call 20; refine Calls.quiet_of (S1.out _))
                    | (go_at_call 11; refine Calls.quiet_of_same (S2.out _))
                    | (go_at_call 12; refine Calls.quiet_of_same (S3.out _)))
                  go_wp2
                  go_roundw
                  case rel => exact ⟨i + 1, g, y, by omega, by rw [HNow.out], rfl, by go_num, ⟨HT.out.1, HT.out.2.1, HT.out.2.2.1.drewN' _, HT.out.2.2.2⟩, HV.out, HNn.out⟩
                  case measure => simp [intOf]; omega
        · have q0 : (st.d == 0) = false := by rw [beq_eq_false_iff_ne]; exact hd0
          by_cases hd1 : st.d = 1
          · have q1 : (st.d == 1) = true := by rw [hd1]; rfl
            clear hd1 hd0
            as_aux_lemma =>
              have HC1 : Hid (Calls Try.prog 9 #[.pointer (some ⟨g, 0, none⟩), .agg #[.int .u8 st.p.c.toNat, .int .u8 st.p.i.toNat, .string st.p.d]] W1 (OutQ g (gt x st.p) (pL x st.p) (pE x st.p) W1)) := packet_any g x st.p W1 H1.out.1 HI.out.mg hz
              have HC2 : Hid (∀ W, RAt W R x → Calls Try.prog 17 #[.pointer (some ⟨R, 0, none⟩), .agg #[.int .u8 st.p.c.toNat, .int .u8 st.p.i.toNat, .string st.p.d]] W (ROutQ R (gt x st.p) (pL x st.p) (pE x st.p) W)) := fun W h => rpacket_any R x st.p W h HI.out.mg hz
              have HV := Lib.hid (gt_inv (p := st.p) HI.out)
              replace HNn : Hid ((gt x st.p).n ≤ i + 1) := by show _ ≤ _; rw [gt_n]; exact Nat.le_succ_of_le HNn.out
              have HL1 := Lib.hid (pL_len x st.p)
              have HNow := Lib.hid (gt_now x st.p)
              generalize gt x st.p = y at *
              generalize pL x st.p = l at *
              generalize pE x st.p = E at *
              obtain ⟨m, hlm⟩ : ∃ m, l.length = m := ⟨_, rfl⟩
              have HLm := Lib.hid hlm
              rw [hlm] at HL1
              go_wp2_with fail
              refine HC1.out.mono ?_
              rintro o w3 ⟨A, c3, rfl, hr, h1, hm1⟩
              have HC3 := Lib.hid (HC2.out w3 (rat_of H1.out hm1))
              have HR3 := Lib.hid hr
              have HE3 := Lib.hid h1
              have HM3 := Lib.hid hm1
              have u2 := (hm1.cell (p := ⟨wr.heap.size, 2, none⟩) HK.out HGn.out).trans v2
              have u3 := (hm1.cell (p := ⟨wr.heap.size, 3, none⟩) HK.out HGn.out).trans v3
              have u4 := (hm1.cell (p := ⟨wr.heap.size, 4, none⟩) HK.out HGn.out).trans v4
              clear hr h1 hm1 HC1 HC2
              go_wp2_with fail
              refine HC3.out.mono ?_
              rintro o w4 ⟨A', c4, rfl, hp, _, h2, hm2⟩
              have HG := Lib.hid (got_of H1.out HR3.out HE3.out HM3.out hp h2 hm2)
              try rw [hlm]
              clear u2 u3 u4 hp h2 hm2 HC3 HR3 HE3 HM3
              clear hW1 v0 v1 v2 v3 v4 v5 hlm H1 HI HB6
              have HN1 := Lib.hid (next_q HG.out.1.1 HV.out)
              have HN2 := Lib.hid (fun k => rnext_q (RAt.drewN HG.out.1.2.1 k) HV.out)
              go_wp2_with fail
              refine HN1.out.mono ?_
              rintro o w6 ⟨rfl, k6, rfl⟩
              go_wp2_with fail
              refine (HN2.out _).mono ?_
              rintro o w7 ⟨rfl, k7, rfl⟩
              have HT : Hid (Two w (w4.drewN (k6 + k7)) g R y) := ⟨HG.out.1.1, HG.out.1.2.1, HG.out.1.2.2.1.drewN' _, HG.out.1.2.2.2⟩
              have HP1 : Hid (Pks (w4.drewN (k6 + k7)) A l) := HG.out.2.1
              have HP2 : Hid (Pks (w4.drewN (k6 + k7)) A' l) := HG.out.2.2
              clear HN1 HN2
              have hdw : ((w4.drewN k6).drewN k7) = w4.drewN (k6 + k7) := World.drewN_drewN _ _ _
              (try rw [hdw])
              clear hdw
              generalize w4.drewN (k6 + k7) = V at *
              have S1 := Lib.hid (same_q (c := c3) (c' := c4) HLm.out HL1.out HP1.out HP2.out)
              have S2 := Lib.hid (dead_q HT.out.1)
              have S3 := Lib.hid (missed_q HT.out.1)
              have r7 : V.cell? ⟨R, 7, none⟩ = some (.bool y.de) := HT.out.2.1.c 7
              have r6 : V.cell? ⟨R, 6, none⟩ = some (.int .i64 y.mi) := HT.out.2.1.c 6
              clear HG HP1 HP2
              generalize atV y = av at *
              generalize isB y = ab at *
              go_wp2_with fail
              go_quiet (first
                | (go_at_call 20; refine Calls.quiet_of (S1.out _))
                | (go_at_call 11; refine Calls.quiet_of_same (S2.out _))
                | (go_at_call 12; refine Calls.quiet_of_same (S3.out _)))
              go_wp2
              go_roundw
              case rel => exact ⟨i + 1, g, y, by omega, by rw [HNow.out], rfl, by go_num, ⟨HT.out.1, HT.out.2.1, HT.out.2.2.1.drewN' _, HT.out.2.2.2⟩, HV.out, HNn.out⟩
              case measure => simp [intOf]; omega
          · have q1 : (st.d == 1) = false := by rw [beq_eq_false_iff_ne]; exact hd1
            by_cases hd2 : st.d = 2
            · have q2 : (st.d == 2) = true := by rw [hd2]; rfl
              clear hd0 hd1 hd2
              as_aux_lemma =>
                have hn1 : (x.n : Int) ≤ 150 := by have := HNn.out; omega
                have hn0 : (0 : Int) ≤ (x.n : Int) := Int.natCast_nonneg _
                obtain ⟨j, hj⟩ : ∃ j, x.n % 256 = j := ⟨_, rfl⟩
                have HJ : Hid (((UInt8.ofNat (x.n % 256)).toNat : Int) = (j : Int)) := by show _ = _; rw [u8_mod, hj]
                have hj1 : (x.n : Int).tmod 256 = (j : Int) := by rw [← hj]; rfl
                have hj2 : IntKind.u8.wrap (j : Int) = (j : Int) := by rw [IntKind.wrap_u8]; omega
                have hg2 : IntKind.u64.wrap (st.mg : Int) = (st.mg : Int) := by rw [IntKind.wrap_u64]; omega
                obtain ⟨Y, hY⟩ : ∃ Y, bOf (numS st.mg 4) = Y := ⟨_, rfl⟩
                have HYz : Hid (Y.size ≤ 140737488351232) := by show _ ≤ _; rw [← hY, size_bOf, numS_length]; decide
                have HNum : Hid (∀ W, Calls Try.prog 18 #[.int .u64 st.mg, .int .i64 4] W fun e w' => e = .returned (.string Y) ∧ Below W.heap.size W w') := by rw [← hY]; exact fun W => rnum_any st.mg 4 W (by omega) (by decide)
                have HC1 : Hid (∀ W, EAt W g x → Calls Try.prog 9 #[.pointer (some ⟨g, 0, none⟩), .agg #[.int .u8 10, .int .u8 j, .string Y]] W (OutQ g (gt x ⟨10, UInt8.ofNat (x.n % 256), Y⟩) (pL x ⟨10, UInt8.ofNat (x.n % 256), Y⟩) (pE x ⟨10, UInt8.ofNat (x.n % 256), Y⟩) W)) := fun W h => by
                  have k := packet_any g x ⟨10, UInt8.ofNat (x.n % 256), Y⟩ W h HI.out.mg HYz.out
                  simp only [HJ.out] at k
                  exact k
                have HC2 : Hid (∀ W, RAt W R x → Calls Try.prog 17 #[.pointer (some ⟨R, 0, none⟩), .agg #[.int .u8 10, .int .u8 j, .string Y]] W (ROutQ R (gt x ⟨10, UInt8.ofNat (x.n % 256), Y⟩) (pL x ⟨10, UInt8.ofNat (x.n % 256), Y⟩) (pE x ⟨10, UInt8.ofNat (x.n % 256), Y⟩) W)) := fun W h => by
                  have k := rpacket_any R x ⟨10, UInt8.ofNat (x.n % 256), Y⟩ W h HI.out.mg HYz.out
                  simp only [HJ.out] at k
                  exact k
                have HV := Lib.hid (gt_inv (p := ⟨10, UInt8.ofNat (x.n % 256), Y⟩) HI.out)
                replace HNn : Hid ((gt x ⟨10, UInt8.ofNat (x.n % 256), Y⟩).n ≤ i + 1) := by show _ ≤ _; rw [gt_n]; exact Nat.le_succ_of_le HNn.out
                have HL1 := Lib.hid (pL_len x ⟨10, UInt8.ofNat (x.n % 256), Y⟩)
                have HNow := Lib.hid (gt_now x ⟨10, UInt8.ofNat (x.n % 256), Y⟩)
                have s5 : W1.drew.cell? ⟨R, 5, none⟩ = some (.int .i64 (x.n : Int)) := H1.out.2.1.c 5
                have s6 : W1.drew.cell? ⟨wr.heap.size, 5, none⟩ = some (.int .u32 st.mg) := v5
                have lR : R < W1.heap.size := H1.out.2.1.lt
                have lB : wr.heap.size < W1.heap.size := HK.out
                have HgW : Hid (g < W1.heap.size) := H1.out.1.lt
                clear hY hj
                generalize gt x ⟨10, UInt8.ofNat (x.n % 256), Y⟩ = y at *
                generalize pL x ⟨10, UInt8.ofNat (x.n % 256), Y⟩ = l at *
                generalize pE x ⟨10, UInt8.ofNat (x.n % 256), Y⟩ = E at *
                obtain ⟨m, hlm⟩ : ∃ m, l.length = m := ⟨_, rfl⟩
                have HLm := Lib.hid hlm
                rw [hlm] at HL1
                go_upto_region 32 with (fail)
                go_cut [26] from 106 to 237 (fun s wx => ∃ bb, s = .pointer (some ⟨bb, 0, none⟩) ∧ Hid (RepB W1 wx bb j Y))
                case first =>
                  refine wp_region_held_drew (S := fun w' => w'.cell? ⟨R, 5, none⟩ = some (.int .i64 (x.n : Int)) ∧ w'.cell? ⟨wr.heap.size, 5, none⟩ = some (.int .u32 st.mg)) (by kernel_rfl) ⟨s5, s6⟩ (fun hHeld => ?_)
                  refine wpAnyH_take (i := 0) (v := ?vv0_1) rfl (by kernel_rfl) (by kernel_rfl) (by kernel_rfl) (fun _ _ _ h => h) (Or.inl ⟨by rfl, ?yy0_1⟩) (by assumption) ?rr0_1
                  case yy0_1 => (intro w hSw; (try dsimp only at hSw); (try simp only [List.getElem_toArray, List.getElem_cons_succ, List.getElem_cons_zero, Act.put, List.setIfInBounds_toArray, List.set_cons_zero, List.set_cons_succ]); go_simp; (try (with_reducible rfl)))
                  try simp only [List.getElem_toArray, List.getElem_cons_succ, List.getElem_cons_zero, Act.put, List.setIfInBounds_toArray, List.set_cons_zero, List.set_cons_succ]
                  refine wpAnyH_take (i := 1) (v := ?vv1_2) rfl (by kernel_rfl) (by kernel_rfl) (by kernel_rfl) (fun _ _ _ h => h) (Or.inl ⟨by rfl, ?yy1_2⟩) (by assumption) ?rr1_2
                  case yy1_2 => (intro w hSw; (try dsimp only at hSw); (try simp only [List.getElem_toArray, List.getElem_cons_succ, List.getElem_cons_zero, Act.put, List.setIfInBounds_toArray, List.set_cons_zero, List.set_cons_succ]); go_simp; (try (with_reducible rfl)))
                  try simp only [List.getElem_toArray, List.getElem_cons_succ, List.getElem_cons_zero, Act.put, List.setIfInBounds_toArray, List.set_cons_zero, List.set_cons_succ]
                  refine wpAnyH_take (i := 2) (v := ?vv2_3) rfl (by kernel_rfl) (by kernel_rfl) (by kernel_rfl) (fun _ _ _ h => h) (Or.inl ⟨by rfl, ?yy2_3⟩) (by assumption) ?rr2_3
                  case yy2_3 => (intro w hSw; (try dsimp only at hSw); (try simp only [List.getElem_toArray, List.getElem_cons_succ, List.getElem_cons_zero, Act.put, List.setIfInBounds_toArray, List.set_cons_zero, List.set_cons_succ]); go_simp; (try (with_reducible rfl)))
                  try simp only [List.getElem_toArray, List.getElem_cons_succ, List.getElem_cons_zero, Act.put, List.setIfInBounds_toArray, List.set_cons_zero, List.set_cons_succ]
                  refine wpAnyH_take (i := 3) (v := ?vv3_4) rfl (by kernel_rfl) (by kernel_rfl) (by kernel_rfl) (fun _ _ _ h => h) (Or.inl ⟨by rfl, ?yy3_4⟩) (by assumption) ?rr3_4
                  case yy3_4 => (intro w hSw; (try dsimp only at hSw); (try simp only [List.getElem_toArray, List.getElem_cons_succ, List.getElem_cons_zero, Act.put, List.setIfInBounds_toArray, List.set_cons_zero, List.set_cons_succ]); go_simp; (try (with_reducible rfl)))
                  try simp only [List.getElem_toArray, List.getElem_cons_succ, List.getElem_cons_zero, Act.put, List.setIfInBounds_toArray, List.set_cons_zero, List.set_cons_succ]
                  refine wpAnyH_take (i := 4) (v := ?vv4_5) rfl (by kernel_rfl) (by kernel_rfl) (by kernel_rfl) (fun _ _ _ h => h) (Or.inl ⟨by rfl, ?yy4_5⟩) (by assumption) ?rr4_5
                  case yy4_5 => (intro w hSw; (try dsimp only at hSw); (try simp only [List.getElem_toArray, List.getElem_cons_succ, List.getElem_cons_zero, Act.put, List.setIfInBounds_toArray, List.set_cons_zero, List.set_cons_succ]); go_simp; (try (with_reducible rfl)))
                  try simp only [List.getElem_toArray, List.getElem_cons_succ, List.getElem_cons_zero, Act.put, List.setIfInBounds_toArray, List.set_cons_zero, List.set_cons_succ]
                  refine wpAnyH_take (i := 5) (v := ?vv5_6) rfl (by kernel_rfl) (by kernel_rfl) (by kernel_rfl) (fun _ _ _ h => h) (Or.inl ⟨by rfl, ?yy5_6⟩) (by assumption) ?rr5_6
                  case yy5_6 => (intro w hSw; (try dsimp only at hSw); (try simp only [List.getElem_toArray, List.getElem_cons_succ, List.getElem_cons_zero, Act.put, List.setIfInBounds_toArray, List.set_cons_zero, List.set_cons_succ]); go_simp; (try (with_reducible rfl)))
                  try simp only [List.getElem_toArray, List.getElem_cons_succ, List.getElem_cons_zero, Act.put, List.setIfInBounds_toArray, List.set_cons_zero, List.set_cons_succ]
                  refine wpAnyH_take (i := 6) (v := ?vv6_7) rfl (by kernel_rfl) (by kernel_rfl) (by kernel_rfl) (fun _ _ _ h => h) (Or.inl ⟨by rfl, ?yy6_7⟩) (by assumption) ?rr6_7
                  case yy6_7 => (intro w hSw; (try dsimp only at hSw); (try simp only [List.getElem_toArray, List.getElem_cons_succ, List.getElem_cons_zero, Act.put, List.setIfInBounds_toArray, List.set_cons_zero, List.set_cons_succ]); go_simp; (try (with_reducible rfl)))
                  try simp only [List.getElem_toArray, List.getElem_cons_succ, List.getElem_cons_zero, Act.put, List.setIfInBounds_toArray, List.set_cons_zero, List.set_cons_succ]
                  refine wpAnyH_take (i := 7) (v := ?vv7_8) rfl (by kernel_rfl) (by kernel_rfl) (by kernel_rfl) (fun _ _ _ h => h) (Or.inl ⟨by rfl, ?yy7_8⟩) (by assumption) ?rr7_8
                  case yy7_8 => (intro w hSw; (try dsimp only at hSw); (try simp only [List.getElem_toArray, List.getElem_cons_succ, List.getElem_cons_zero, Act.put, List.setIfInBounds_toArray, List.set_cons_zero, List.set_cons_succ]); go_simp; (try (with_reducible rfl)))
                  try simp only [List.getElem_toArray, List.getElem_cons_succ, List.getElem_cons_zero, Act.put, List.setIfInBounds_toArray, List.set_cons_zero, List.set_cons_succ]
                  refine wpAnyH_take (i := 8) (v := ?vv8_9) rfl (by kernel_rfl) (by kernel_rfl) (by kernel_rfl) (fun _ _ _ h => h) (Or.inl ⟨by rfl, ?yy8_9⟩) (by assumption) ?rr8_9
                  case yy8_9 => (intro w hSw; (try dsimp only at hSw); (try simp only [List.getElem_toArray, List.getElem_cons_succ, List.getElem_cons_zero, Act.put, List.setIfInBounds_toArray, List.set_cons_zero, List.set_cons_succ]); go_simp; (try (with_reducible rfl)))
                  try simp only [List.getElem_toArray, List.getElem_cons_succ, List.getElem_cons_zero, Act.put, List.setIfInBounds_toArray, List.set_cons_zero, List.set_cons_succ]
                  refine wpAnyH_ready (rs := [9, 11]) (by kernel_rfl) (by simp) ?_
                  refine AllReadyH.cons (o := _) rfl (fun K hK => ?_) (AllReadyH.cons (o := _) rfl (fun K hK => ?_) AllReadyH.nil)
                  · try simp only [List.getElem_toArray, List.getElem_cons_succ, List.getElem_cons_zero, Act.put, List.setIfInBounds_toArray, List.set_cons_zero, List.set_cons_succ]
                    go_simp
                    refine (HNum.out _).mono ?_
                    rintro o w1 ⟨rfl, hb0⟩
                    have hb1 : Below W1.heap.size W1 w1 := ⟨hb0.os, hb0.tape, hb0.output, hb0.size, hb0.block⟩
                    clear hb0
                    have a5 := (hb1.cell (p := ⟨R, 5, none⟩) lR).trans s5
                    have a6 := (hb1.cell (p := ⟨wr.heap.size, 5, none⟩) lB).trans s6
                    refine hK.out _ _ ⟨a5, a6⟩ (fun hHeld => ?_)
                    clear hK K
                    try simp only [List.getElem_toArray, List.getElem_cons_succ, List.getElem_cons_zero, Act.put, List.setIfInBounds_toArray, List.set_cons_zero, List.set_cons_succ]
                    refine wpAnyH_take (i := 10) (v := ?vv10_10) rfl (by kernel_rfl) (by kernel_rfl) (by kernel_rfl) (fun _ _ _ h => h) (Or.inl ⟨by rfl, ?yy10_10⟩) (by assumption) ?rr10_10
                    case yy10_10 => (intro w hSw; (try dsimp only at hSw); (try simp only [List.getElem_toArray, List.getElem_cons_succ, List.getElem_cons_zero, Act.put, List.setIfInBounds_toArray, List.set_cons_zero, List.set_cons_succ]); go_simp; (try (with_reducible rfl)))
                    try simp only [List.getElem_toArray, List.getElem_cons_succ, List.getElem_cons_zero, Act.put, List.setIfInBounds_toArray, List.set_cons_zero, List.set_cons_succ]
                    have hA := hb1.alloc hb1.size (.cells #[.int .u8 0, .int .u8 0, .string ⟨#[]⟩] 35)
                    have b5 := (hA.cell (p := ⟨R, 5, none⟩) lR).trans s5
                    have b6 := (hA.cell (p := ⟨wr.heap.size, 5, none⟩) lB).trans s6
                    have HU : Hid (Blk (w1.alloc (.cells #[.int .u8 0, .int .u8 0, .string ⟨#[]⟩] 35)) w1.heap.size [.int .u8 0, .int .u8 0, .string ⟨#[]⟩] 35 ∧ Below W1.heap.size W1 (w1.alloc (.cells #[.int .u8 0, .int .u8 0, .string ⟨#[]⟩] 35)) ∧ W1.heap.size ≤ w1.heap.size) := ⟨blk_new w1 [.int .u8 0, .int .u8 0, .string ⟨#[]⟩] 35, hA, hb1.size⟩
                    refine wpAnyH_ready (rs := [11]) (by kernel_rfl) (by simp) ?_
                    refine AllReadyH.cons (o := _) rfl (fun K hK => ?_) AllReadyH.nil
                    try simp only [List.getElem_toArray, List.getElem_cons_succ, List.getElem_cons_zero, Act.put, List.setIfInBounds_toArray, List.set_cons_zero, List.set_cons_succ]
                    go_simp
                    refine hK.out _ _ ⟨b5, b6⟩ (fun hHeld => ?_)
                    clear hK K
                    try simp only [List.getElem_toArray, List.getElem_cons_succ, List.getElem_cons_zero, Act.put, List.setIfInBounds_toArray, List.set_cons_zero, List.set_cons_succ]
                    have z0 := HU.out.1.at_ 0
                    have z1 := HU.out.1.at_ 1
                    have z2 := HU.out.1.at_ 2
                    have f0 := HU.out.1.frozen 0
                    have f1 := HU.out.1.frozen 1
                    have f2 := HU.out.1.frozen 2
                    have hA2 := hb1.alloc hb1.size (.cells #[.int .u8 10, .int .u8 (j : Int), .string Y] 35)
                    have HQ : Hid (RepB W1 (w1.alloc (.cells #[.int .u8 10, .int .u8 (j : Int), .string Y] 35)) w1.heap.size j Y) := ⟨blk_new w1 [.int .u8 10, .int .u8 (j : Int), .string Y] 35, hA2, hb1.size⟩
                    have g5 := (hA2.cell (p := ⟨R, 5, none⟩) lR).trans s5
                    have g6 := (hA2.cell (p := ⟨wr.heap.size, 5, none⟩) lB).trans s6
                    refine wpAnyH_ready (rs := [12]) (by kernel_rfl) (by simp) ?_
                    refine AllReadyH.cons (o := _) rfl (fun K hK => ?_) AllReadyH.nil
                    try simp only [List.getElem_toArray, List.getElem_cons_succ, List.getElem_cons_zero, Act.put, List.setIfInBounds_toArray, List.set_cons_zero, List.set_cons_succ]
                    go_simp
                    refine hK.out _ _ ⟨g5, g6⟩ (fun hHeld => ?_)
                    clear hK K
                    try simp only [List.getElem_toArray, List.getElem_cons_succ, List.getElem_cons_zero, Act.put, List.setIfInBounds_toArray, List.set_cons_zero, List.set_cons_succ]
                    refine wpAnyH_done (by kernel_rfl) ?_ _
                    go_wp2_with fail
                    go_meet
                    case rel => exact ⟨_, rfl, HQ.out⟩
                  · have hA := (show Below W1.heap.size W1 W1.drew from Below.drewN' (Below.refl _ W1) 1).alloc (Nat.le_refl _) (.cells #[.int .u8 0, .int .u8 0, .string ⟨#[]⟩] 35)
                    have b5 := (hA.cell (p := ⟨R, 5, none⟩) lR).trans s5
                    have b6 := (hA.cell (p := ⟨wr.heap.size, 5, none⟩) lB).trans s6
                    have HU0 : Hid (Blk (W1.drew.alloc (.cells #[.int .u8 0, .int .u8 0, .string ⟨#[]⟩] 35)) W1.heap.size [.int .u8 0, .int .u8 0, .string ⟨#[]⟩] 35 ∧ Below W1.heap.size W1 (W1.drew.alloc (.cells #[.int .u8 0, .int .u8 0, .string ⟨#[]⟩] 35))) := ⟨blk_new W1.drew [.int .u8 0, .int .u8 0, .string ⟨#[]⟩] 35, hA⟩
                    try simp only [List.getElem_toArray, List.getElem_cons_succ, List.getElem_cons_zero, Act.put, List.setIfInBounds_toArray, List.set_cons_zero, List.set_cons_succ]
                    go_simp
                    refine hK.out _ _ ⟨b5, b6⟩ (fun hHeld => ?_)
                    clear hK K
                    try simp only [List.getElem_toArray, List.getElem_cons_succ, List.getElem_cons_zero, Act.put, List.setIfInBounds_toArray, List.set_cons_zero, List.set_cons_succ]
                    refine wpAnyH_ready (rs := [9]) (by kernel_rfl) (by simp) ?_
                    refine AllReadyH.cons (o := _) rfl (fun K hK => ?_) AllReadyH.nil
                    try simp only [List.getElem_toArray, List.getElem_cons_succ, List.getElem_cons_zero, Act.put, List.setIfInBounds_toArray, List.set_cons_zero, List.set_cons_succ]
                    go_simp
                    refine (HNum.out _).mono ?_
                    rintro o w1 ⟨rfl, hb0⟩
                    have HU : Hid (Blk w1 W1.heap.size [.int .u8 0, .int .u8 0, .string ⟨#[]⟩] 35 ∧ Below W1.heap.size W1 w1 ∧ W1.heap.size ≤ W1.heap.size) := ⟨HU0.out.1.callee hb0, HU0.out.2.trans (hb0.mono HU0.out.2.size), Nat.le_refl _⟩
                    clear hb0
                    have a5 := (HU.out.2.1.cell (p := ⟨R, 5, none⟩) lR).trans s5
                    have a6 := (HU.out.2.1.cell (p := ⟨wr.heap.size, 5, none⟩) lB).trans s6
                    refine hK.out _ _ ⟨a5, a6⟩ (fun hHeld => ?_)
                    clear hK K
                    try simp only [List.getElem_toArray, List.getElem_cons_succ, List.getElem_cons_zero, Act.put, List.setIfInBounds_toArray, List.set_cons_zero, List.set_cons_succ]
                    refine wpAnyH_take (i := 10) (v := ?vv10_11) rfl (by kernel_rfl) (by kernel_rfl) (by kernel_rfl) (fun _ _ _ h => h) (Or.inl ⟨by rfl, ?yy10_11⟩) (by assumption) ?rr10_11
                    case yy10_11 => (intro w hSw; (try dsimp only at hSw); (try simp only [List.getElem_toArray, List.getElem_cons_succ, List.getElem_cons_zero, Act.put, List.setIfInBounds_toArray, List.set_cons_zero, List.set_cons_succ]); go_simp; (try (with_reducible rfl)))
                    try simp only [List.getElem_toArray, List.getElem_cons_succ, List.getElem_cons_zero, Act.put, List.setIfInBounds_toArray, List.set_cons_zero, List.set_cons_succ]
                    have z0 := HU.out.1.at_ 0
                    have z1 := HU.out.1.at_ 1
                    have z2 := HU.out.1.at_ 2
                    have f0 := HU.out.1.frozen 0
                    have f1 := HU.out.1.frozen 1
                    have f2 := HU.out.1.frozen 2
                    have HQ := Lib.hid (repb (j := j) (Y := Y) HU.out)
                    have g5 := HQ.out.2.2 ⟨R, 5, none⟩ lR s5
                    have g6 := HQ.out.2.2 ⟨wr.heap.size, 5, none⟩ lB s6
                    refine wpAnyH_ready (rs := [12]) (by kernel_rfl) (by simp) ?_
                    refine AllReadyH.cons (o := _) rfl (fun K hK => ?_) AllReadyH.nil
                    try simp only [List.getElem_toArray, List.getElem_cons_succ, List.getElem_cons_zero, Act.put, List.setIfInBounds_toArray, List.set_cons_zero, List.set_cons_succ]
                    go_simp
                    refine hK.out _ _ ⟨g5, g6⟩ (fun hHeld => ?_)
                    clear hK K
                    try simp only [List.getElem_toArray, List.getElem_cons_succ, List.getElem_cons_zero, Act.put, List.setIfInBounds_toArray, List.set_cons_zero, List.set_cons_succ]
                    refine wpAnyH_done (by kernel_rfl) ?_ _
                    go_wp2_with fail
                    go_meet
                    case rel => exact ⟨_, rfl, HQ.out.1⟩
                case rest =>
                  obtain ⟨bb, rfl, HBk⟩ := hcut
                  have u0 : wc.cell? ⟨bb, 0, none⟩ = some (.int .u8 10) := HBk.out.1.at_ 0
                  have u1 : wc.cell? ⟨bb, 1, none⟩ = some (.int .u8 j) := HBk.out.1.at_ 1
                  have u2 : wc.cell? ⟨bb, 2, none⟩ = some (.string Y) := HBk.out.1.at_ 2
                  replace H1 := Lib.hid (H1.out.callee HBk.out.2.1)
                  have HGb : Hid (bb ≠ g) := fun e => by have h1 := HBk.out.2.2; have h2 := HgW.out; omega
                  have HlB : Hid (bb < wc.heap.size) := HBk.out.1.lt
                  replace HC1 := Lib.hid (HC1.out wc H1.out.1)
                  go_wp2_with fail
                  refine HC1.out.mono ?_
                  rintro o w3 ⟨A, c3, rfl, hr, h1, hm1⟩
                  have HC3 := Lib.hid (HC2.out w3 (rat_of H1.out hm1))
                  have HR3 := Lib.hid hr
                  have HE3 := Lib.hid h1
                  have HM3 := Lib.hid hm1
                  have x0 := (hm1.cell (p := ⟨bb, 0, none⟩) HlB.out HGb.out).trans u0
                  have x1 := (hm1.cell (p := ⟨bb, 1, none⟩) HlB.out HGb.out).trans u1
                  have x2 := (hm1.cell (p := ⟨bb, 2, none⟩) HlB.out HGb.out).trans u2
                  clear hr h1 hm1 HC1 HC2
                  go_wp2_with fail
                  refine HC3.out.mono ?_
                  rintro o w4 ⟨A', c4, rfl, hp, _, h2, hm2⟩
                  have HG := Lib.hid (got_of H1.out HR3.out HE3.out HM3.out hp h2 hm2)
                  try rw [hlm]
                  clear x0 x1 x2 hp h2 hm2 HC3 HR3 HE3 HM3
                  clear v0 v1 v2 v3 v4 v5 u0 u1 u2 hlm H1 HI HB6
                  have HN1 := Lib.hid (next_q HG.out.1.1 HV.out)
                  have HN2 := Lib.hid (fun k => rnext_q (RAt.drewN HG.out.1.2.1 k) HV.out)
                  go_wp2_with fail
                  refine HN1.out.mono ?_
                  rintro o w6 ⟨rfl, k6, rfl⟩
                  go_wp2_with fail
                  refine (HN2.out _).mono ?_
                  rintro o w7 ⟨rfl, k7, rfl⟩
                  have HT : Hid (Two w (w4.drewN (k6 + k7)) g R y) := ⟨HG.out.1.1, HG.out.1.2.1, HG.out.1.2.2.1.drewN' _, HG.out.1.2.2.2⟩
                  have HP1 : Hid (Pks (w4.drewN (k6 + k7)) A l) := HG.out.2.1
                  have HP2 : Hid (Pks (w4.drewN (k6 + k7)) A' l) := HG.out.2.2
                  clear HN1 HN2
                  have hdw : ((w4.drewN k6).drewN k7) = w4.drewN (k6 + k7) := World.drewN_drewN _ _ _
                  (try rw [hdw])
                  clear hdw
                  generalize w4.drewN (k6 + k7) = V at *
                  have S1 := Lib.hid (same_q (c := c3) (c' := c4) HLm.out HL1.out HP1.out HP2.out)
                  have S2 := Lib.hid (dead_q HT.out.1)
                  have S3 := Lib.hid (missed_q HT.out.1)
                  have r7 : V.cell? ⟨R, 7, none⟩ = some (.bool y.de) := HT.out.2.1.c 7
                  have r6 : V.cell? ⟨R, 6, none⟩ = some (.int .i64 y.mi) := HT.out.2.1.c 6
                  clear HG HP1 HP2
                  generalize atV y = av at *
                  generalize isB y = ab at *
                  go_wp2_with fail
                  go_quiet (first
                    | (go_at_call 20; refine Calls.quiet_of (S1.out _))
                    | (go_at_call 11; refine Calls.quiet_of_same (S2.out _))
                    | (go_at_call 12; refine Calls.quiet_of_same (S3.out _)))
                  go_wp2
                  go_roundw
                  case rel => exact ⟨i + 1, g, y, by omega, by rw [HNow.out], rfl, by go_num, ⟨HT.out.1, HT.out.2.1, HT.out.2.2.1.drewN' _, HT.out.2.2.2⟩, HV.out, HNn.out⟩
                  case measure => simp [intOf]; omega
            · have q2 : (st.d == 2) = false := by rw [beq_eq_false_iff_ne]; exact hd2
              by_cases hd3 : st.d = 3
              · have q3 : (st.d == 3) = true := by rw [hd3]; rfl
                clear hd0 hd1 hd2 hd3
                as_aux_lemma =>
                  have HV := HI
                  replace HNn : Hid (x.n ≤ i + 1) := Nat.le_succ_of_le HNn.out
                  have HNow : Hid (x.now = x.now) := rfl
                  have HLm : Hid (([] : List Pk).length = 0) := rfl
                  have HL1 : Hid (0 ≤ 1) := Nat.zero_le 1
                  have HC := Lib.hid (copy_any g x W1 H1.out.1)
                  unfold ptr at HC
                  have HC2 : Hid (∀ W, EAt W g x → Calls Try.prog 8 #[.pointer (some ⟨g, 0, none⟩), .int .i64 1152921504606846976] W (OutQ g (tk x 1152921504606846976) (tL x 1152921504606846976) (tE x 1152921504606846976) W)) := fun W h => tick_any g x _ W h HI.out
                  go_wp2_with fail
                  refine HC.out.mono ?_
                  rintro o w3 ⟨b, rfl, hbb, hx, hb⟩
                  have H3 := Lib.hid (H1.out.callee hb)
                  have HX3 := Lib.hid hx
                  have HB3 : Hid (W1.heap.size ≤ b) := hbb
                  have HG3 : Hid (g < W1.heap.size) := H1.out.1.lt
                  clear hbb hx hb HC
                  go_wp2_with fail
                  refine (HC2.out _ H3.out.1).mono ?_
                  rintro o w4 ⟨A4, c4, rfl, _, _, hm⟩
                  have HG : Hid (Got w w4 b R x [] none none) := ⟨⟨HX3.out.moves hm (fun e => by have h1 := HB3.out; have h2 := HG3.out; omega), H3.out.2.1.moves hm (fun e => H3.out.ne e.symm), H3.out.2.2.1.trans (hm.below H3.out.2.2.1.size fun k e => by have := H3.out.2.2.2.1; omega), Nat.le_trans H1.out.2.2.1.size HB3.out, H3.out.2.2.2.2⟩, pks_nil _ _, pks_nil _ _⟩
                  clear hm HC2 H3 HX3
                  have HN1 := Lib.hid (next_q HG.out.1.1 HV.out)
                  have HN2 := Lib.hid (fun k => rnext_q (RAt.drewN HG.out.1.2.1 k) HV.out)
                  go_wp2_with fail
                  refine HN1.out.mono ?_
                  rintro o w6 ⟨rfl, k6, rfl⟩
                  go_wp2_with fail
                  refine (HN2.out _).mono ?_
                  rintro o w7 ⟨rfl, k7, rfl⟩
                  have HT : Hid (Two w (w4.drewN (k6 + k7)) b R x) := ⟨HG.out.1.1, HG.out.1.2.1, HG.out.1.2.2.1.drewN' _, HG.out.1.2.2.2⟩
                  have HP1 : Hid (Pks (w4.drewN (k6 + k7)) none []) := HG.out.2.1
                  have HP2 : Hid (Pks (w4.drewN (k6 + k7)) none []) := HG.out.2.2
                  clear HN1 HN2
                  have hdw : ((w4.drewN k6).drewN k7) = w4.drewN (k6 + k7) := World.drewN_drewN _ _ _
                  (try rw [hdw])
                  clear hdw
                  generalize w4.drewN (k6 + k7) = V at *
                  have S1 := Lib.hid (same_q (c := 0) (c' := 0) HLm.out HL1.out HP1.out HP2.out)
                  have S2 := Lib.hid (dead_q HT.out.1)
                  have S3 := Lib.hid (missed_q HT.out.1)
                  have r7 : V.cell? ⟨R, 7, none⟩ = some (.bool x.de) := HT.out.2.1.c 7
                  have r6 : V.cell? ⟨R, 6, none⟩ = some (.int .i64 x.mi) := HT.out.2.1.c 6
                  clear HG HP1 HP2
                  generalize atV x = av at *
                  generalize isB x = ab at *
                  go_wp2_with fail
                  go_quiet (first
                    | (go_at_call 20; refine Calls.quiet_of (S1.out _))
                    | (go_at_call 11; refine Calls.quiet_of_same (S2.out _))
                    | (go_at_call 12; refine Calls.quiet_of_same (S3.out _)))
                  go_wp2
                  go_roundw
                  case rel => exact ⟨i + 1, b, x, by omega, rfl, rfl, by go_num, ⟨HT.out.1, HT.out.2.1, HT.out.2.2.1.drewN' _, HT.out.2.2.2⟩, HV.out, HNn.out⟩
                  case measure => simp [intOf]; omega
              · have q3 : (st.d == 3) = false := by rw [beq_eq_false_iff_ne]; exact hd3
                clear hd0 hd1 hd2 hd3
                as_aux_lemma =>
                  have HV := HI
                  replace HNn : Hid (x.n ≤ i + 1) := Nat.le_succ_of_le HNn.out
                  have HNow : Hid (x.now = x.now) := rfl
                  have HLm : Hid (([] : List Pk).length = 0) := rfl
                  have HL1 : Hid (0 ≤ 1) := Nat.zero_le 1
                  have HG : Hid (Got w W1 g R x [] none none) := ⟨H1.out, pks_nil _ _, pks_nil _ _⟩
                  have HN1 := Lib.hid (next_q HG.out.1.1 HV.out)
                  have HN2 := Lib.hid (fun k => rnext_q (RAt.drewN HG.out.1.2.1 k) HV.out)
                  go_wp2_with fail
                  refine HN1.out.mono ?_
                  rintro o w6 ⟨rfl, k6, rfl⟩
                  go_wp2_with fail
                  refine (HN2.out _).mono ?_
                  rintro o w7 ⟨rfl, k7, rfl⟩
                  have HT : Hid (Two w (W1.drewN (k6 + k7)) g R x) := ⟨HG.out.1.1, HG.out.1.2.1, HG.out.1.2.2.1.drewN' _, HG.out.1.2.2.2⟩
                  have HP1 : Hid (Pks (W1.drewN (k6 + k7)) none []) := HG.out.2.1
                  have HP2 : Hid (Pks (W1.drewN (k6 + k7)) none []) := HG.out.2.2
                  clear HN1 HN2
                  have hdw : ((W1.drewN k6).drewN k7) = W1.drewN (k6 + k7) := World.drewN_drewN _ _ _
                  (try rw [hdw])
                  clear hdw
                  generalize W1.drewN (k6 + k7) = V at *
                  have S1 := Lib.hid (same_q (c := 0) (c' := 0) HLm.out HL1.out HP1.out HP2.out)
                  have S2 := Lib.hid (dead_q HT.out.1)
                  have S3 := Lib.hid (missed_q HT.out.1)
                  have r7 : V.cell? ⟨R, 7, none⟩ = some (.bool x.de) := HT.out.2.1.c 7
                  have r6 : V.cell? ⟨R, 6, none⟩ = some (.int .i64 x.mi) := HT.out.2.1.c 6
                  clear HG HP1 HP2
                  generalize atV x = av at *
                  generalize isB x = ab at *
                  go_wp2_with fail
                  go_quiet (first
                    | (go_at_call 20; refine Calls.quiet_of (S1.out _))
                    | (go_at_call 11; refine Calls.quiet_of_same (S2.out _))
                    | (go_at_call 12; refine Calls.quiet_of_same (S3.out _)))
                  go_wp2
                  go_roundw
                  case rel => exact ⟨i + 1, g, x, by omega, rfl, rfl, by go_num, ⟨HT.out.1, HT.out.2.1, HT.out.2.2.1.drewN' _, HT.out.2.2.2⟩, HV.out, HNn.out⟩
                  case measure => simp [intOf]; omega
      · obtain rfl : i = n := by omega
        go_wp2_with fail
        refine (alive_any _).mono ?_
        rintro o w9 ⟨rfl, hb⟩
        have HE := Lib.hid (HF.out.2.2.1.trans (hb.mono HF.out.2.2.1.size))
        clear hb
        go_wp2
        go_ret
        exact ⟨rfl, HE.out⟩
  · go_wp2_with fail
    refine (alive_any _).mono ?_
    rintro o w9 ⟨rfl, hb⟩
    have HE := Lib.hid (HB.out.trans (hb.mono HB.out.size))
    clear hb
    go_wp2
    go_ret
    exact ⟨rfl, HE.out⟩

theorem walk (a b : Int) (mg : Nat) (t : Int) (A0 : Option Addr) (n q : Nat) (w : World) (hmg : mg < 4294967296) (hnm : n ≤ maxLen) (hT : Stps w w.heap.size A0 n) :
    Calls Try.prog 3 #[.agg #[.int .i64 a, .int .i64 b], .int .u32 mg, .int .i64 t, .slice A0 n q] w fun e w' => e = .returned (.bool true) ∧ Below w.heap.size w w' := by
  cases hm : may a b t
  · exact walk_no a b mg t A0 n q w hmg hnm hT hm
  · have hc := hm
    simp only [may, Bool.and_eq_true, decide_eq_true_eq] at hc
    obtain ⟨e, rfl⟩ : ∃ e : Nat, a = e := ⟨a.toNat, by omega⟩
    obtain ⟨m, rfl⟩ : ∃ m : Nat, b = m := ⟨b.toNat, by omega⟩
    exact walk_yes e m mg t A0 n q w hmg hnm hT hm

set_option maxRecDepth 100000 in
theorem lifted (os : Os) (started : os.Started) (H : Type) (enc : TypeId × Value → H) :
    ReturnsInHanded {} Try.checked os 3 .any (Rows.echoPlaysSpec.pre6 enc Try.prog Try.f3 Rows.echoPlaysRow.domain false) (Rows.echoPlaysSpec.post enc Try.prog Try.f3 false true false false) := by
  refine returnsInHanded_of_change_sized (C := Try.checked) own started (by kernel_rfl) Try.func3
    (ChangeSpec.witness6 (enc := enc) (C := Try.checked) false ⟨#[], #[.agg #[.int .i64 0, .int .i64 0], .int .u32 0, .int .i64 0, .slice none 0 0], []⟩ 8 (by kernel_rfl) (by kernel_rfl) (by kernel_rfl) (by kernel_rfl)) ?_
  intro W base args ds gs before hval0 hW hcnd hsz0 _
  have hsz : (DataW.weightsEach Try.prog (Try.f3.params.toList ++ Rows.echoPlaysSpec.plain.varTypes Try.prog) (ds ++ gs)).all (· ≤ reachBytes) = true := hsz0
  have hval : ∀ (j : Nat) t v, Try.f3.params[j]? = some t → args[j]? = some v → Value.okWide Try.prog W .any base t v := hval0
  have hW' := hW
  obtain ⟨p, q, hA0, hV, rfl, hfz, hnd⟩ := hW
  have hlt := hW'.lt
  have hA : DataW.TrodAll enc Try.prog W 0 (fun _ => true) true Try.f3.params.toList args.toList ds p := hA0
  rw [Try.params3] at hA hval hsz
  obtain ⟨v0, vs0, d0, ds0, p0, q0, hargs, rfl, rfl, h0, r0⟩ := trodAll_cons hA
  obtain ⟨v1, vs1, d1, ds1, p1, q1, rfl, rfl, rfl, h1, r1⟩ := trodAll_cons r0
  obtain ⟨v2, vs2, d2, ds2, p2, q2, rfl, rfl, rfl, h2, r2⟩ := trodAll_cons r1
  obtain ⟨v3, vs3, d3, ds3, p3, q3, rfl, rfl, rfl, h3, r3⟩ := trodAll_cons r2
  obtain ⟨rfl, rfl, rfl⟩ := trodAll_nil r3
  obtain rfl : args = #[v0, v1, v2, v3] := by cases args; simp_all
  obtain ⟨rfl, rfl⟩ := trodVars_none hV
  obtain ⟨a0, b0, rfl⟩ := int2_of Try.underlying23 (by kernel_rfl) (by kernel_rfl) Try.underlying3 Try.underlying3 (hval 0 23 v0 rfl rfl) h0
  obtain ⟨z1, rfl, rfl, rfl, w1⟩ := open_int Try.underlying24 (hval 1 24 v1 rfl rfl) h1
  obtain ⟨a1, rfl⟩ : ∃ n : Nat, z1 = n := ⟨z1.toNat, by have := bounds_u32 w1; omega⟩
  have b1 := bounds_u32 w1
  obtain ⟨a2, rfl, rfl, rfl, w2⟩ := open_int Try.underlying2 (hval 2 2 v2 rfl rfl) h2
  obtain ⟨A3, n3, c3, rfl, m3, hT3⟩ := esteps_of Try.underlying25 Try.underlying47 (by kernel_rfl) (by kernel_rfl) (by kernel_rfl) Try.underlying3 Try.underlying2 Try.underlying35 Try.underlying24 (by kernel_rfl) Try.underlying5 Try.underlying5 Try.underlying9 (hval 3 25 v3 rfl rfl) h3 (fun n hn => of_decide_eq_true (List.all_eq_true.1 hsz n (DataW.weights_mem_each (j := 3) (t := 25) rfl rfl n hn)))
  clear hA0 hval0 hsz0
  exact (walk a0 b0 a1 a2 A3 n3 c3 W (by omega) m3 hT3).mono fun e W' ⟨he, hb⟩ => ⟨_, he, law_post (t := 4) laidOut (by kernel_rfl) rfl rfl Try.underlying4 ⟨rfl, rfl, rfl⟩ hW' hb⟩

theorem over : Rows.echoPlaysRow.holds Try.pinned (OpenSpec.ofChange Rows.echoPlaysSpec) :=
  OpenClaim.holds_of_wide 3 Try.f3 rfl rfl rfl rfl rfl rfl rfl ⟨rfl, rfl, rfl, rfl, rfl⟩ rfl rfl rfl rfl rfl (by kernel_rfl) Try.func3 (by kernel_rfl)
    (of_decide_eq_true (by kernel_rfl)) (by unfold Func.isWrapper; first | (rw [if_pos (by decide +kernel)]; kernel_rfl) | (rw [if_neg (by decide +kernel)]; exact ⟨rfl, rfl⟩))
    (fun os started H enc _ => lifted os started H enc)

theorem proved : Rows.EchoPlaysSaid :=
  over
#print axioms proved
end Go.Proofs.Ytimndcfhilcgfaa.EchoPlays
