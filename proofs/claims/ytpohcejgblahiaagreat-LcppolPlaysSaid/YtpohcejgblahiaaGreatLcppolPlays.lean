/- PROVED: 'halyardlaw14.LcppolPlays' returns true for every configuration, number and row of steps, and leaves them as they were. No condition. -/
import Derived.Test.YtpohcejgblahiaaGreatGPolU
import Derived.Test.YtpohcejgblahiaaGreatGOptOf
import Derived.Test.YtpohcejgblahiaaGreatPolQm
import Derived.Test.YtpohcejgblahiaaGreatGPolQi
import Derived.Test.YtpohcejgblahiaaGreatPolQh
import Derived.Test.YtpohcejgblahiaaGreatLaw
import Derived.Test.YtpohcejgblahiaaGreatRows
import Derived.SizedLaws
import Derived.StillTailTactics
set_option linter.unusedSimpArgs false
set_option linter.unusedVariables false
namespace Go.Proofs.YtpohcejgblahiaaGreat.LcppolPlays
open Go.ChangeShapes Go.WideShapes Go.ChangeAt Go.RowKit Go.Proofs.YtpohcejgblahiaaGreat.Oct Go.Proofs.YtpohcejgblahiaaGreat.Row Go.Proofs.YtpohcejgblahiaaGreat.Mem Go.Proofs.YtpohcejgblahiaaGreat.Opt Go.Proofs.YtpohcejgblahiaaGreat.Lco Go.Proofs.YtpohcejgblahiaaGreat.Law Go.Proofs.YtpohcejgblahiaaGreat.Pol
set_option maxRecDepth 100000 in
theorem own : ownKnob Tryz.prog.godebug = none := by kernel_rfl
set_option maxRecDepth 100000 in
theorem laidOut : laidOutB Tryz.prog = true := by kernel_rfl
/-- Between two steps. -/
structure Oy (cf : Conf) (N : Nat) (w wr : World) (g R : Nat) (p : Po) : Prop where
  b : Bo wr g R p
  hc : CAt wr w.heap.size cf
  hb : Below w.heap.size w wr
  hg : w.heap.size < g
  hR : w.heap.size < R
  v : Iv cf N p
theorem Oy.callee {cf : Conf} {N : Nat} {w wr w' : World} {g R : Nat} {p : Po} (h : Oy cf N w wr g R p) (hb : Below wr.heap.size wr w') : Oy cf N w w' g R p := ⟨h.b.callee hb, h.hc.callee hb, h.hb.trans (hb.mono h.hb.size), h.hg, h.hR, h.v⟩
theorem Oy.drew {cf : Conf} {N : Nat} {w wr : World} {g R : Nat} {p : Po} (h : Oy cf N w wr g R p) : Oy cf N w wr.drew g R p := ⟨⟨h.b.1, h.b.2.1, h.b.2.2⟩, h.hc, h.hb.drew, h.hg, h.hR, h.v⟩
theorem Oy.step {cf : Conf} {N M : Nat} {w wr w' : World} {g R : Nat} {p q : Po} (h : Oy cf N w wr g R p) (hb : Bo w' g R q) (hm : Moves (fun j => j = g ∨ j = R) wr w') (hv : Iv cf M q) : Oy cf M w w' g R q :=
  ⟨hb, Blk.moves h.hc hm (fun e => by have h1 := h.hg; have h2 := h.hR; rcases e with e | e <;> omega), h.hb.trans (hm.below h.hb.size fun k e => by have h1 := h.hg; have h2 := h.hR; rcases e with e | e <;> omega), h.hg, h.hR, hv⟩
/-- A step's cells. -/
def Sc (a : Addr) (s : Stp5) (A : Option Addr) (c : Nat) (w : World) : Prop := w.cell? a = some (.int .i64 s.d) ∧ w.cell? ⟨a.block, a.off + 1, none⟩ = some (.slice A s.l.length c) ∧ w.cell? ⟨a.block, a.off + 2, none⟩ = some (.bool s.o) ∧ w.cell? ⟨a.block, a.off + 3, none⟩ = some (.int .u8 s.n.toNat) ∧ w.cell? ⟨a.block, a.off + 4, none⟩ = some (.int .u32 s.v.toNat)
theorem Sc.below {a : Addr} {s : Stp5} {A : Option Addr} {c n : Nat} {w w' : World} (h : Sc a s A c w) (hb : Below n w w') (ha : a.block < n) : Sc a s A c w' :=
  ⟨(hb.cell ha).trans h.1, (hb.cell (p := ⟨a.block, a.off + 1, none⟩) ha).trans h.2.1, (hb.cell (p := ⟨a.block, a.off + 2, none⟩) ha).trans h.2.2.1, (hb.cell (p := ⟨a.block, a.off + 3, none⟩) ha).trans h.2.2.2.1, (hb.cell (p := ⟨a.block, a.off + 4, none⟩) ha).trans h.2.2.2.2⟩
/-- What an old policy goes through, of which a copy goes on. -/
theorem old_moves {w wr w' : World} {g R g' N : Nat} {cf : Conf} {p : Po} (h : Oy cf N w wr g' R p) (hg : w.heap.size < g) (hn : g ≠ g') (hR : g ≠ R) (hm : Moves (fun j => j = g) wr w') : Oy cf N w w' g' R p :=
  ⟨⟨h.b.1.moves hm (fun e => hn e.symm), h.b.2.1.moves hm (fun e => hR e.symm), h.b.2.2⟩, Blk.moves h.hc hm (fun e => by omega), h.hb.trans (hm.below h.hb.size fun k e => by omega), h.hg, h.hR, h.v⟩

set_option maxHeartbeats 16000000 in
set_option maxRecDepth 100000 in
theorem walk_no (cf : Conf) (mg : UInt32) (A : Option Addr) (n c : Nat) (ss : List Stp5) (w : World) (hn : n ≤ maxLen) (hl : St5Row w w.heap.size A n ss) (hm : mayC cf = false) :
    Calls Tryz.prog 3 #[.agg #[Value.int .u16 cf.mru.toNat, Value.bool cf.ha, Value.int .u32 cf.accm.toNat, Value.int .u8 cf.auth.toNat, Value.int .u8 cf.takes.toNat, Value.int .u8 cf.can.toNat, Value.bool cf.mg, Value.bool cf.pfc, Value.bool cf.acfc, Value.int .i64 cf.mn], .int .u32 mg.toNat, .slice A n c] w fun e w' => e = .returned (.bool true) ∧ Below w.heap.size w w' := by
  obtain ⟨W, hW, HW⟩ := boxC w cf
  obtain ⟨c0, c1, c2, c3, c4, c5, c6, c7, c8, c9⟩ := HW.out.1.all
  have HB0 := Lib.hid HW.out.2.1
  have HC0 := Lib.hid HW.out.1
  have HSz := Lib.hid HW.out.2.2
  have HL := Lib.hid hl
  have HHv := Lib.hid (heavy_any ss w.heap.size A n c W (hl.below HB0.out) hn)
  have hne := fun W => lcp_neq (x := lz) (y := lz) (r := true) (decide_eq_true rfl) W
  simp only [Bool.not_true] at hne
  replace hne : ∀ W : World, (binOp .neq 37 (.agg #[Value.bool false, .int .u16 0, .bool false, .int .u32 0, .int .u8 0, .bool false, .int .u32 0, .bool false, .bool false]) (.agg #[Value.bool false, .int .u16 0, .bool false, .int .u32 0, .int .u8 0, .bool false, .int .u32 0, .bool false, .bool false])).run Tryz.prog W = .ok (.bool false) W := hne
  unfold maxLen at hn
  clear hl HW
  have HN := Lib.hid (fun W => new_no cf mg W hm)
  have HM : Hid (∀ W, Calls Tryz.prog 19 #[.agg #[Value.int .u16 cf.mru.toNat, Value.bool cf.ha, Value.int .u32 cf.accm.toNat, Value.int .u8 cf.auth.toNat, Value.int .u8 cf.takes.toNat, Value.int .u8 cf.can.toNat, Value.bool cf.mg, Value.bool cf.pfc, Value.bool cf.acfc, Value.int .i64 cf.mn]] W fun e w' => e = .returned (.bool false) ∧ Below W.heap.size W w') := fun W => by have h := rmayC_any cf W; rw [hm] at h; exact h
  clear hm c0 c1 c2 c3 c4 c5 c6 c7 c8 c9
  go_enter Tryz.func3, Tryz.ntmps3
  go_wp2_with fail
  refine HHv.out.mono ?_
  rintro e _ ⟨b, rfl, hbl, rfl⟩
  have HHb := Lib.hid hbl
  clear hbl HHv
  cases b
  · go_wp2_with fail
    refine (judge_nil _).mono ?_
    rintro e n0 ⟨rfl, hb⟩
    have HB1 := Lib.hid (HB0.out.trans (hb.mono HB0.out.size))
    have HC1 := Lib.hid (HC0.out.callee hb)
    clear hb HC0 HB0
    go_wp2_with fail
    refine (request_nil _).mono ?_
    rintro e n1 ⟨rfl, hb⟩
    have HB2 := Lib.hid (HB1.out.trans (hb.mono HB1.out.size))
    have HC2 := Lib.hid (HC1.out.callee hb)
    clear hb HC1 HB1
    go_wp2_with fail
    refine (acked_nil _).mono ?_
    rintro e n2 ⟨rfl, hb⟩
    have HB3 := Lib.hid (HB2.out.trans (hb.mono HB2.out.size))
    have HC3 := Lib.hid (HC2.out.callee hb)
    clear hb HC2 HB2
    go_wp2_with fail
    refine (naked_nil _).mono ?_
    rintro e n3 ⟨rfl, hb⟩
    have HB4 := Lib.hid (HB3.out.trans (hb.mono HB3.out.size))
    have HC4 := Lib.hid (HC3.out.callee hb)
    clear hb HC3 HB3
    go_wp2_with fail
    refine (rejected_nil _).mono ?_
    rintro e n4 ⟨rfl, hb⟩
    have HB5 := Lib.hid (HB4.out.trans (hb.mono HB4.out.size))
    have HC5 := Lib.hid (HC4.out.callee hb)
    clear hb HC4 HB4
    go_wp2_with fail
    refine (wish_nil _).mono ?_
    rintro e n5 ⟨he, hb⟩
    replace he : e = .returned (.agg #[Value.bool false, .int .u16 0, .bool false, .int .u32 0, .int .u8 0, .bool false, .int .u32 0, .bool false, .bool false]) := he
    subst he
    have HB6 := Lib.hid (HB5.out.trans (hb.mono HB5.out.size))
    have HC6 := Lib.hid (HC5.out.callee hb)
    clear hb HC5 HB5
    go_wp2_with fail
    refine (mine_nil _).mono ?_
    rintro e n6 ⟨he, hb⟩
    replace he : e = .returned (.agg #[Value.bool false, .int .u16 0, .bool false, .int .u32 0, .int .u8 0, .bool false, .int .u32 0, .bool false, .bool false]) := he
    subst he
    have HB7 := Lib.hid (HB6.out.trans (hb.mono HB6.out.size))
    have HC7 := Lib.hid (HC6.out.callee hb)
    clear hb HC6 HB6
    go_wp2_with fail
    refine (peer_nil _).mono ?_
    rintro e n7 ⟨he, hb⟩
    replace he : e = .returned (.agg #[Value.bool false, .int .u16 0, .bool false, .int .u32 0, .int .u8 0, .bool false, .int .u32 0, .bool false, .bool false]) := he
    subst he
    have HB8 := Lib.hid (HB7.out.trans (hb.mono HB7.out.size))
    have HC8 := Lib.hid (HC7.out.callee hb)
    clear hb HC7 HB7
    go_wp2_with fail
    refine (loops_nil _).mono ?_
    rintro e n8 ⟨rfl, hb⟩
    have HB9 := Lib.hid (HB8.out.trans (hb.mono HB8.out.size))
    have HC9 := Lib.hid (HC8.out.callee hb)
    clear hb HC8 HB8
    go_wp2_with fail
    refine (bad_nil _).mono ?_
    rintro e n9 ⟨rfl, hb⟩
    have HB10 := Lib.hid (HB9.out.trans (hb.mono HB9.out.size))
    have HC10 := Lib.hid (HC9.out.callee hb)
    clear hb HC9 HB9
    go_wp2_with fail
    refine (reset_nil _).mono ?_
    rintro e n10 ⟨rfl, hb⟩
    have HB11 := Lib.hid (HB10.out.trans (hb.mono HB10.out.size))
    have HC11 := Lib.hid (HC10.out.callee hb)
    clear hb HC10 HB10
    go_wp2_with fail
    refine (copy_nil _).mono ?_
    rintro e n11 ⟨rfl, hb⟩
    have HB12 := Lib.hid (HB11.out.trans (hb.mono HB11.out.size))
    have HC12 := Lib.hid (HC11.out.callee hb)
    clear hb HC11 HB11
    obtain ⟨c0, c1, c2, c3, c4, c5, c6, c7, c8, c9⟩ := HC12.out.all
    go_wp2_with fail
    refine (HN.out _).mono ?_
    rintro e v1 ⟨rfl, hb⟩
    have HBa := Lib.hid (HB12.out.trans (hb.mono HB12.out.size))
    have HCa := Lib.hid (HC12.out.callee hb)
    clear hb c0 c1 c2 c3 c4 c5 c6 c7 c8 c9
    obtain ⟨c0, c1, c2, c3, c4, c5, c6, c7, c8, c9⟩ := HCa.out.all
    go_wp2_with fail
    refine (HM.out _).mono ?_
    rintro e v2 ⟨rfl, hb⟩
    have HBb := Lib.hid (HBa.out.trans (hb.mono HBa.out.size))
    clear hb
    go_wp2_with fail
    refine (alive_any _).mono ?_
    rintro e v9 ⟨rfl, hb⟩
    have HE := Lib.hid (HBb.out.trans (hb.mono HBb.out.size))
    clear hb
    go_wp2
    go_ret
    exact ⟨rfl, HE.out⟩
  · go_wp2_with fail
    refine (alive_any _).mono ?_
    rintro e v9 ⟨rfl, hb⟩
    have HE := Lib.hid (HB0.out.trans (hb.mono HB0.out.size))
    clear hb
    go_wp2
    go_ret
    exact ⟨rfl, HE.out⟩
set_option maxHeartbeats 16000000 in
set_option maxRecDepth 100000 in
theorem walk_yes (cf : Conf) (mg : UInt32) (A : Option Addr) (n c : Nat) (ss : List Stp5) (w : World) (hn : n ≤ maxLen) (hl : St5Row w w.heap.size A n ss) (hm : mayC cf = true) :
    Calls Tryz.prog 3 #[.agg #[Value.int .u16 cf.mru.toNat, Value.bool cf.ha, Value.int .u32 cf.accm.toNat, Value.int .u8 cf.auth.toNat, Value.int .u8 cf.takes.toNat, Value.int .u8 cf.can.toNat, Value.bool cf.mg, Value.bool cf.pfc, Value.bool cf.acfc, Value.int .i64 cf.mn], .int .u32 mg.toNat, .slice A n c] w fun e w' => e = .returned (.bool true) ∧ Below w.heap.size w w' := by
  obtain ⟨W, hW, HW⟩ := boxC w cf
  obtain ⟨c0, c1, c2, c3, c4, c5, c6, c7, c8, c9⟩ := HW.out.1.all
  have HB0 := Lib.hid HW.out.2.1
  have HC0 := Lib.hid HW.out.1
  have HSz := Lib.hid HW.out.2.2
  have HL := Lib.hid hl
  have HHv := Lib.hid (heavy_any ss w.heap.size A n c W (hl.below HB0.out) hn)
  have hne := fun W => lcp_neq (x := lz) (y := lz) (r := true) (decide_eq_true rfl) W
  simp only [Bool.not_true] at hne
  replace hne : ∀ W : World, (binOp .neq 37 (.agg #[Value.bool false, .int .u16 0, .bool false, .int .u32 0, .int .u8 0, .bool false, .int .u32 0, .bool false, .bool false]) (.agg #[Value.bool false, .int .u16 0, .bool false, .int .u32 0, .int .u8 0, .bool false, .int .u32 0, .bool false, .bool false])).run Tryz.prog W = .ok (.bool false) W := hne
  unfold maxLen at hn
  clear hl HW
  have HN := Lib.hid (fun W => new_ok cf mg W hm)
  have HNr := Lib.hid (fun m W => rnew_any cf m W)
  have Hm := Lib.hid hm
  have HM : Hid (∀ W, Calls Tryz.prog 19 #[.agg #[Value.int .u16 cf.mru.toNat, Value.bool cf.ha, Value.int .u32 cf.accm.toNat, Value.int .u8 cf.auth.toNat, Value.int .u8 cf.takes.toNat, Value.int .u8 cf.can.toNat, Value.bool cf.mg, Value.bool cf.pfc, Value.bool cf.acfc, Value.int .i64 cf.mn]] W fun e w' => e = .returned (.bool true) ∧ Below W.heap.size W w') := fun W => by have h := rmayC_any cf W; rw [hm] at h; exact h
  clear hm c0 c1 c2 c3 c4 c5 c6 c7 c8 c9
  go_enter Tryz.func3, Tryz.ntmps3
  go_wp2_with fail
  refine HHv.out.mono ?_
  rintro e _ ⟨b, rfl, hbl, rfl⟩
  have HHb := Lib.hid hbl
  clear hbl HHv
  cases b
  · have hn80 : n ≤ 80 := (HHb.out rfl).1
    have H70 := Lib.hid (HHb.out rfl).2
    clear HHb
    go_wp2_with fail
    refine (judge_nil _).mono ?_
    rintro e n0 ⟨rfl, hb⟩
    have HB1 := Lib.hid (HB0.out.trans (hb.mono HB0.out.size))
    have HC1 := Lib.hid (HC0.out.callee hb)
    clear hb HC0 HB0
    go_wp2_with fail
    refine (request_nil _).mono ?_
    rintro e n1 ⟨rfl, hb⟩
    have HB2 := Lib.hid (HB1.out.trans (hb.mono HB1.out.size))
    have HC2 := Lib.hid (HC1.out.callee hb)
    clear hb HC1 HB1
    go_wp2_with fail
    refine (acked_nil _).mono ?_
    rintro e n2 ⟨rfl, hb⟩
    have HB3 := Lib.hid (HB2.out.trans (hb.mono HB2.out.size))
    have HC3 := Lib.hid (HC2.out.callee hb)
    clear hb HC2 HB2
    go_wp2_with fail
    refine (naked_nil _).mono ?_
    rintro e n3 ⟨rfl, hb⟩
    have HB4 := Lib.hid (HB3.out.trans (hb.mono HB3.out.size))
    have HC4 := Lib.hid (HC3.out.callee hb)
    clear hb HC3 HB3
    go_wp2_with fail
    refine (rejected_nil _).mono ?_
    rintro e n4 ⟨rfl, hb⟩
    have HB5 := Lib.hid (HB4.out.trans (hb.mono HB4.out.size))
    have HC5 := Lib.hid (HC4.out.callee hb)
    clear hb HC4 HB4
    go_wp2_with fail
    refine (wish_nil _).mono ?_
    rintro e n5 ⟨he, hb⟩
    replace he : e = .returned (.agg #[Value.bool false, .int .u16 0, .bool false, .int .u32 0, .int .u8 0, .bool false, .int .u32 0, .bool false, .bool false]) := he
    subst he
    have HB6 := Lib.hid (HB5.out.trans (hb.mono HB5.out.size))
    have HC6 := Lib.hid (HC5.out.callee hb)
    clear hb HC5 HB5
    go_wp2_with fail
    refine (mine_nil _).mono ?_
    rintro e n6 ⟨he, hb⟩
    replace he : e = .returned (.agg #[Value.bool false, .int .u16 0, .bool false, .int .u32 0, .int .u8 0, .bool false, .int .u32 0, .bool false, .bool false]) := he
    subst he
    have HB7 := Lib.hid (HB6.out.trans (hb.mono HB6.out.size))
    have HC7 := Lib.hid (HC6.out.callee hb)
    clear hb HC6 HB6
    go_wp2_with fail
    refine (peer_nil _).mono ?_
    rintro e n7 ⟨he, hb⟩
    replace he : e = .returned (.agg #[Value.bool false, .int .u16 0, .bool false, .int .u32 0, .int .u8 0, .bool false, .int .u32 0, .bool false, .bool false]) := he
    subst he
    have HB8 := Lib.hid (HB7.out.trans (hb.mono HB7.out.size))
    have HC8 := Lib.hid (HC7.out.callee hb)
    clear hb HC7 HB7
    go_wp2_with fail
    refine (loops_nil _).mono ?_
    rintro e n8 ⟨rfl, hb⟩
    have HB9 := Lib.hid (HB8.out.trans (hb.mono HB8.out.size))
    have HC9 := Lib.hid (HC8.out.callee hb)
    clear hb HC8 HB8
    go_wp2_with fail
    refine (bad_nil _).mono ?_
    rintro e n9 ⟨rfl, hb⟩
    have HB10 := Lib.hid (HB9.out.trans (hb.mono HB9.out.size))
    have HC10 := Lib.hid (HC9.out.callee hb)
    clear hb HC9 HB9
    go_wp2_with fail
    refine (reset_nil _).mono ?_
    rintro e n10 ⟨rfl, hb⟩
    have HB11 := Lib.hid (HB10.out.trans (hb.mono HB10.out.size))
    have HC11 := Lib.hid (HC10.out.callee hb)
    clear hb HC10 HB10
    go_wp2_with fail
    refine (copy_nil _).mono ?_
    rintro e n11 ⟨rfl, hb⟩
    have HB12 := Lib.hid (HB11.out.trans (hb.mono HB11.out.size))
    have HC12 := Lib.hid (HC11.out.callee hb)
    clear hb HC11 HB11
    obtain ⟨c0, c1, c2, c3, c4, c5, c6, c7, c8, c9⟩ := HC12.out.all
    go_wp2_with fail
    refine (HN.out _).mono ?_
    rintro e v1 ⟨g, rfl, hg, hx, hb⟩
    have HBa := Lib.hid (HB12.out.trans (hb.mono HB12.out.size))
    have HCa := Lib.hid (HC12.out.callee hb)
    have HXa := Lib.hid hx
    have HGa : Hid (w.heap.size < g) := Nat.lt_of_lt_of_le HC12.out.lt hg
    clear hb hx hg c0 c1 c2 c3 c4 c5 c6 c7 c8 c9
    obtain ⟨c0, c1, c2, c3, c4, c5, c6, c7, c8, c9⟩ := HCa.out.all
    go_wp2_with fail
    refine (HM.out _).mono ?_
    rintro e v2 ⟨rfl, hb⟩
    have HBb := Lib.hid (HBa.out.trans (hb.mono HBa.out.size))
    have HCb := Lib.hid (HCa.out.callee hb)
    have HXb := Lib.hid (HXa.out.callee hb)
    clear hb c0 c1 c2 c3 c4 c5 c6 c7 c8 c9
    obtain ⟨c0, c1, c2, c3, c4, c5, c6, c7, c8, c9⟩ := HCb.out.all
    go_wp2_with fail
    refine (HNr.out mg _).mono ?_
    rintro e v3 ⟨R, rfl, hR, hx, hb⟩
    have HL0 : Hid (Oy cf 0 w v3 g R (newP cf mg)) := ⟨⟨HXb.out.callee hb, hx, fun e => by have := HXb.out.lt; omega⟩, HCb.out.callee hb, HBb.out.trans (hb.mono HBb.out.size), HGa.out, Nat.lt_of_lt_of_le HCb.out.lt hR, iv_new mg 0 Hm.out⟩
    clear hb hx hR c0 c1 c2 c3 c4 c5 c6 c7 c8 c9 HXa HXb HBa HBb HCa HCb hW
    go_wp2_with fail
    go_loopw [10, 12, 13] (fun u v x wr => ∃ (k g R : Nat) (p : Po), k ≤ n ∧ u = .pointer (some ⟨g, 0, none⟩) ∧ v = .pointer (some ⟨R, 0, none⟩) ∧ x = .int .i64 k ∧ Hid (Oy cf k w wr g R p)) (fun _ _ x _ => n - (intOf x).toNat)
    case atStart => exact ⟨0, g, R, newP cf mg, Nat.zero_le _, rfl, rfl, rfl, HL0⟩
    case round =>
      obtain ⟨k, g, R, p, hk, rfl, rfl, rfl, HO⟩ := hrel
      clear HL0
      by_cases hlt : k < n
      · obtain ⟨ad, s, hA, hadB, hss, A', c', s0, s1, s2, s3, s4, hO, hsm, hsc, hsA⟩ := HL.out.at_ hlt
        subst hA
        have HA0 : Hid (Sc (ad.add (k * 5)) s A' c' w) := ⟨s0, s1, s2, s3, s4⟩
        have HAB : Hid ((ad.add (k * 5)).block < w.heap.size) := by show _ < _; rw [Oct.block_add]; exact hadB
        have HOpt := Lib.hid hO
        have Hs70 := Lib.hid (H70.out s (List.mem_of_getElem? hss))
        have Hsc := Lib.hid hsc
        have HsA := Lib.hid hsA
        clear s0 s1 s2 s3 s4 hadB hss hO hsm hsc hsA
        have HA := Lib.hid (HA0.out.below HO.out.hb HAB.out)
        have s0 := HA.out.1
        have s4 := HA.out.2.2.2.2
        have hk1 : (k : Int) < (n : Int) := by omega
        have hk2 : (k : Int) ≤ 80 := by omega
        by_cases h4 : s.d = 4
        · have q4 : (s.d == 4) = true := by rw [h4]; rfl
          as_aux_lemma =>
            obtain ⟨c0, c1, c2, c3, c4, c5, c6, c7, c8, c9⟩ := HO.out.hc.all
            go_wp2_with fail
            go_still_tail 6, (by kernel_rfl)
            change wpList _ _ _ _ _ wr.drew
            generalize hd : wr.drew = wd
            have HOd : Hid (Oy cf k w wd g R p) := by show Oy _ _ _ _ _ _ _; rw [← hd]; exact HO.out.drew
            clear hd HO HA s0 s4 c0 c1 c2 c3 c4 c5 c6 c7 c8 c9
            have HAd := Lib.hid (HA0.out.below HOd.out.hb HAB.out)
            have s4 := HAd.out.2.2.2.2
            obtain ⟨c0, c1, c2, c3, c4, c5, c6, c7, c8, c9⟩ := HOd.out.hc.all
            go_wp2_with fail
            refine (HNr.out s.v _).mono ?_
            rintro e v1 ⟨R', rfl, hR', hx, hb⟩
            have HX := Lib.hid hx
            have HO1 := Lib.hid (HOd.out.callee hb)
            have HR' : Hid (wd.heap.size ≤ R') := hR'
            have HA1 := Lib.hid (HA0.out.below HO1.out.hb HAB.out)
            clear hx hb hR' s4 c0 c1 c2 c3 c4 c5 c6 c7 c8 c9 HAd
            have s4 := HA1.out.2.2.2.2
            have HRs := Lib.hid (reset_any g p s.v _ HO1.out.b.1)
            go_wp2_with fail
            refine HRs.out.mono ?_
            rintro e v2 ⟨rfl, hx, hm⟩
            rw [HO1.out.v.c] at hx
            have HgR : Hid (g < R') := Nat.lt_of_lt_of_le HOd.out.b.1.lt HR'.out
            have HO2 : Hid (Oy cf k w v2 g R' (newP cf s.v)) := ⟨⟨hx, HX.out.moves hm (fun e => by have := HgR.out; omega), fun e => by have := HgR.out; omega⟩, Blk.moves HO1.out.hc hm (fun e => by have := HO1.out.hg; omega), HO1.out.hb.trans (hm.below HO1.out.hb.size fun j e => by have := HO1.out.hg; omega), HO1.out.hg, by have h1 := HO1.out.hg; have h2 := HgR.out; omega, iv_new s.v k Hm.out⟩
            clear HOd HO1 HA1 hx hm HX HRs s4
            go_upto_if 137 with (fail)
            clear h4 q4
            generalize newP cf s.v = p2 at *
            have HAx : Hid (Sc (ad.add (k * 5)) s A' c' v2) := HA0.out.below HO2.out.hb HAB.out
            obtain ⟨s0, s1, s2, s3, s4⟩ := HAx.out
            have HOp : Hid (Opts v2 w.heap.size A' s.l.length s.l) := HOpt.out.below HO2.out.hb
            have HDo := Lib.hid (does_any g R' cf k p2 s w.heap.size A' c' _ HO2.out.b.1 HO2.out.b.2.1 HO2.out.v (by omega) HOp.out HO2.out.hb.size Hs70.out Hsc.out HsA.out)
            have HVq := Lib.hid (iv_step HO2.out.v s.d s.v (stL p2 s))
            obtain ⟨q, hq⟩ : ∃ q, stP p2 s.d s.v (stL p2 s) = q := ⟨_, rfl⟩
            rw [hq] at HDo HVq
            obtain ⟨z, hz⟩ : ∃ z, s.l.length = z := ⟨_, rfl⟩
            rw [hz] at s1 HDo
            clear hq hz HAx HOp
            go_wp2_with fail
            refine HDo.out.mono ?_
            rintro e y1 ⟨rfl, hbo, hmv⟩
            have HY1 : Hid (Oy cf (k + 1) w y1 g R' q) := HO2.out.step hbo hmv HVq.out
            clear hbo hmv HDo HVq s0 s1 s2 s3 s4 HO2
            go_wp2_with fail
            refine (same_any g R' q y1 HY1.out.b HY1.out.v.m).mono ?_
            rintro e y2 ⟨rfl, hbo, hb⟩
            have HY2 := Lib.hid (HY1.out.callee hb)
            clear hbo hb HY1
            go_wp2
            go_roundw
            case rel => exact ⟨k + 1, g, R', q, by omega, rfl, rfl, by go_num, HY2⟩
            case measure => simp [intOf]; omega
        · have q4 : (s.d == 4) = false := by rw [beq_eq_false_iff_ne]; exact h4
          by_cases h5 : s.d = 5
          · have q5 : (s.d == 5) = true := by rw [h5]; rfl
            as_aux_lemma =>
              have HCp := Lib.hid (copy_any g p _ HO.out.b.1)
              go_wp2_with fail
              refine HCp.out.mono ?_
              rintro e v1 ⟨g', rfl, hg', hx, hb⟩
              have HX := Lib.hid hx
              have HO1 := Lib.hid (HO.out.callee hb)
              have HG' : Hid (g < g') := Nat.lt_of_lt_of_le HO.out.b.1.lt hg'
              have HR' : Hid (R < g') := Nat.lt_of_lt_of_le HO.out.b.2.1.lt hg'
              have HgR : Hid (g ≠ R) := HO.out.b.2.2
              have Hgw : Hid (w.heap.size < g) := HO.out.hg
              have HN1 : Hid (Oy cf k w v1 g' R p) := ⟨⟨HX.out, HO1.out.b.2.1, fun e => by have := HR'.out; omega⟩, HO1.out.hc, HO1.out.hb, Nat.lt_trans Hgw.out HG'.out, HO1.out.hR, HO1.out.v⟩
              have HP1 : Hid (PAt v1 g p) := HO1.out.b.1
              clear hx hb hg' HCp HO HO1 HX HA s0 s4
              have HRs : Hid (Calls Tryz.prog 16 #[.pointer (some ⟨g, 0, none⟩), .int .u32 99] v1 fun e w' => e = .returned (.int .i64 0) ∧ PAt w' g (newP p.c 99) ∧ Moves (fun k => k = g) v1 w') := reset_any g p 99 v1 HP1.out
              go_wp2_with fail
              refine HRs.out.mono ?_
              rintro e v2 ⟨rfl, hx, hm⟩
              have HP2 := Lib.hid hx
              have HN2 := Lib.hid (old_moves HN1.out Hgw.out (fun e => by have := HG'.out; omega) HgR.out hm)
              clear hx hm HN1 HP1 HRs
              have HJ : Hid (∀ W : World, PAt W g (newP p.c 99) → Calls Tryz.prog 6 #[.pointer (some ⟨g, 0, none⟩), .slice (some ⟨W.heap.size, 0, none⟩) 1 1] (W.alloc (.cells #[.int .u8 3, .string ⟨#[192, 35]⟩] 51)) (JudQ (newP p.c 99) [oP] g (W.alloc (.cells #[.int .u8 3, .string ⟨#[192, 35]⟩] 51)))) := fun W h => judge_any g (newP p.c 99) [oP] _ 1 1 _ (h.alloc _) (rowP W) (fun e => by cases e) (by omega) (Nat.zero_le _) (Nat.zero_le _)
              generalize newP p.c 99 = p2 at *
              go_wp2_with fail
              refine (authP_any _).mono ?_
              rintro e v3 ⟨rfl, hb⟩
              have HN3 := Lib.hid ((HN2.out.callee hb).callee ((Below.refl _ _).alloc (Nat.le_refl _) (.cells #[.int .u8 3, .string ⟨#[192, 35]⟩] 51)))
              have HP3 := Lib.hid (HP2.out.callee hb)
              clear hb HN2 HP2
              have HJ3 := Lib.hid (HJ.out v3 HP3.out)
              generalize (⟨#[192, 35]⟩ : ByteArray) = sP at *
              clear HJ HP3
              go_wp2_with fail
              refine HJ3.out.mono ?_
              rintro e v4 ⟨A4, c4', rfl, ho, hx, hm⟩
              have HN4 := Lib.hid (old_moves HN3.out Hgw.out (fun e => by have := HG'.out; omega) HgR.out hm)
              clear ho hx hm HN3 HJ3
              generalize (jA p2 [oP]).length = z4
              generalize jC p2 [oP] = z5
              clear h4 h5 q4 q5
              have HAx : Hid (Sc (ad.add (k * 5)) s A' c' v4) := HA0.out.below HN4.out.hb HAB.out
              obtain ⟨s0, s1, s2, s3, s4⟩ := HAx.out
              have HOp : Hid (Opts v4 w.heap.size A' s.l.length s.l) := HOpt.out.below HN4.out.hb
              have HDo := Lib.hid (does_any g' R cf k p s w.heap.size A' c' _ HN4.out.b.1 HN4.out.b.2.1 HN4.out.v (by omega) HOp.out HN4.out.hb.size Hs70.out Hsc.out HsA.out)
              have HVq := Lib.hid (iv_step HN4.out.v s.d s.v (stL p s))
              obtain ⟨q, hq⟩ : ∃ q, stP p s.d s.v (stL p s) = q := ⟨_, rfl⟩
              rw [hq] at HDo HVq
              obtain ⟨z, hz⟩ : ∃ z, s.l.length = z := ⟨_, rfl⟩
              rw [hz] at s1 HDo
              clear hq hz HAx HOp
              go_wp2_with fail
              refine HDo.out.mono ?_
              rintro e y1 ⟨rfl, hbo, hmv⟩
              have HY1 : Hid (Oy cf (k + 1) w y1 g' R q) := HN4.out.step hbo hmv HVq.out
              clear hbo hmv HDo HVq s0 s1 s2 s3 s4 HN4
              go_wp2_with fail
              refine (same_any g' R q y1 HY1.out.b HY1.out.v.m).mono ?_
              rintro e y2 ⟨rfl, hbo, hb⟩
              have HY2 := Lib.hid (HY1.out.callee hb)
              clear hbo hb HY1
              go_wp2
              go_roundw
              case rel => exact ⟨k + 1, g', R, q, by omega, rfl, rfl, by go_num, HY2⟩
              case measure => simp [intOf]; omega
          · have q5 : (s.d == 5) = false := by rw [beq_eq_false_iff_ne]; exact h5
            as_aux_lemma =>
              clear s4
              go_upto_if 138 with (fail)
              clear h4 h5 s0 q4 q5 HA
              have HAx : Hid (Sc (ad.add (k * 5)) s A' c' wr) := HA0.out.below HO.out.hb HAB.out
              obtain ⟨s0, s1, s2, s3, s4⟩ := HAx.out
              have HOp : Hid (Opts wr w.heap.size A' s.l.length s.l) := HOpt.out.below HO.out.hb
              have HDo := Lib.hid (does_any g R cf k p s w.heap.size A' c' _ HO.out.b.1 HO.out.b.2.1 HO.out.v (by omega) HOp.out HO.out.hb.size Hs70.out Hsc.out HsA.out)
              have HVq := Lib.hid (iv_step HO.out.v s.d s.v (stL p s))
              obtain ⟨q, hq⟩ : ∃ q, stP p s.d s.v (stL p s) = q := ⟨_, rfl⟩
              rw [hq] at HDo HVq
              obtain ⟨z, hz⟩ : ∃ z, s.l.length = z := ⟨_, rfl⟩
              rw [hz] at s1 HDo
              clear hq hz HAx HOp
              go_wp2_with fail
              refine HDo.out.mono ?_
              rintro e y1 ⟨rfl, hbo, hmv⟩
              have HY1 : Hid (Oy cf (k + 1) w y1 g R q) := HO.out.step hbo hmv HVq.out
              clear hbo hmv HDo HVq s0 s1 s2 s3 s4 HO
              go_wp2_with fail
              refine (same_any g R q y1 HY1.out.b HY1.out.v.m).mono ?_
              rintro e y2 ⟨rfl, hbo, hb⟩
              have HY2 := Lib.hid (HY1.out.callee hb)
              clear hbo hb HY1
              go_wp2
              go_roundw
              case rel => exact ⟨k + 1, g, R, q, by omega, rfl, rfl, by go_num, HY2⟩
              case measure => simp [intOf]; omega
      · obtain rfl : k = n := by omega
        have hlt2 : decide ((k : Int) < (k : Int)) = false := decide_eq_false (by omega)
        go_wp2_with fail
        refine (alive_any _).mono ?_
        rintro e v9 ⟨rfl, hb⟩
        have HE := Lib.hid (HO.out.hb.trans (hb.mono HO.out.hb.size))
        clear hb
        go_wp2
        go_ret
        exact ⟨rfl, HE.out⟩
  · go_wp2_with fail
    refine (alive_any _).mono ?_
    rintro e v9 ⟨rfl, hb⟩
    have HE := Lib.hid (HB0.out.trans (hb.mono HB0.out.size))
    clear hb
    go_wp2
    go_ret
    exact ⟨rfl, HE.out⟩
set_option maxHeartbeats 16000000 in
set_option maxRecDepth 100000 in
theorem walk (cf : Conf) (mg : UInt32) (A : Option Addr) (n c : Nat) (ss : List Stp5) (w : World) (hn : n ≤ maxLen) (hl : St5Row w w.heap.size A n ss) :
    Calls Tryz.prog 3 #[.agg #[Value.int .u16 cf.mru.toNat, Value.bool cf.ha, Value.int .u32 cf.accm.toNat, Value.int .u8 cf.auth.toNat, Value.int .u8 cf.takes.toNat, Value.int .u8 cf.can.toNat, Value.bool cf.mg, Value.bool cf.pfc, Value.bool cf.acfc, Value.int .i64 cf.mn], .int .u32 mg.toNat, .slice A n c] w fun e w' => e = .returned (.bool true) ∧ Below w.heap.size w w' := by
  cases h : mayC cf
  · exact walk_no cf mg A n c ss w hn hl h
  · exact walk_yes cf mg A n c ss w hn hl h
set_option maxRecDepth 100000 in
theorem lifted (os : Os) (started : os.Started) (H : Type) (enc : TypeId × Value → H) :
    ReturnsInHanded {} Tryz.checked os 3 .any (Rows.lcppolPlaysSpec.pre6 enc Tryz.prog Tryz.f3 Rows.lcppolPlaysRow.domain false) (Rows.lcppolPlaysSpec.post enc Tryz.prog Tryz.f3 false true false false) := by
  refine returnsInHanded_of_change_sized (C := Tryz.checked) own started (by kernel_rfl) Tryz.func3
    (ChangeSpec.witness6 (enc := enc) (C := Tryz.checked) false ⟨#[], #[.agg #[.int .u16 0, .bool false, .int .u32 0, .int .u8 0, .int .u8 0, .int .u8 0, .bool false, .bool false, .bool false, .int .i64 0], .int .u32 0, .slice none 0 0], []⟩ 8 (by kernel_rfl) (by kernel_rfl) (by kernel_rfl) (by kernel_rfl)) ?_
  intro W base args ds gs before hval0 hW hcnd hsz0 _
  have hsz : (DataW.weightsEach Tryz.prog (Tryz.f3.params.toList ++ Rows.lcppolPlaysSpec.plain.varTypes Tryz.prog) (ds ++ gs)).all (· ≤ reachBytes) = true := hsz0
  have hval : ∀ (j : Nat) t v, Tryz.f3.params[j]? = some t → args[j]? = some v → Value.okWide Tryz.prog W .any base t v := hval0
  have hW' := hW
  obtain ⟨p, q, hA0, hV, rfl, hfz, hnd⟩ := hW
  have hlt := hW'.lt
  have hA : DataW.TrodAll enc Tryz.prog W 0 (fun _ => true) true Tryz.f3.params.toList args.toList ds p := hA0
  rw [Tryz.params3] at hA hval hsz
  obtain ⟨v0, vs0, d0, ds0, p0, q0, hargs, rfl, rfl, h0, r0⟩ := trodAll_cons hA
  obtain ⟨v1, vs1, d1, ds1, p1, q1, rfl, rfl, rfl, h1, r1⟩ := trodAll_cons r0
  obtain ⟨v2, vs2, d2, ds2, p2, q2, rfl, rfl, rfl, h2, r2⟩ := trodAll_cons r1
  obtain ⟨rfl, rfl, rfl⟩ := trodAll_nil r2
  obtain rfl : args = #[v0, v1, v2] := by cases args; simp_all
  obtain ⟨rfl, rfl⟩ := trodVars_none hV
  obtain ⟨a0, rfl⟩ := conf_of Tryz.underlying25 (by kernel_rfl) (by kernel_rfl) Tryz.underlying22 Tryz.underlying4 Tryz.underlying23 Tryz.underlying5 Tryz.underlying5 Tryz.underlying5 Tryz.underlying4 Tryz.underlying4 Tryz.underlying4 Tryz.underlying3 (hval 0 25 v0 rfl rfl) h0
  obtain ⟨z1, rfl, rfl, rfl, w1⟩ := open_int Tryz.underlying23 (hval 1 23 v1 rfl rfl) h1
  obtain ⟨a1, rfl⟩ := u32_of (z := z1) (bounds_u32 w1)
  obtain ⟨A2, n2, c2, rfl, m2, ss2, hT2⟩ := steps5_of Tryz.underlying26 Tryz.underlying49 (by kernel_rfl) (by kernel_rfl) Tryz.underlying3 Tryz.underlying30 Tryz.underlying4 Tryz.underlying5 Tryz.underlying23 Tryz.underlying51 (by kernel_rfl) (by kernel_rfl) Tryz.underlying5 Tryz.underlying9 (hval 2 26 v2 rfl rfl) h2 (fun n hn => of_decide_eq_true (List.all_eq_true.1 hsz n (DataW.weights_mem_each (j := 2) (t := 26) rfl rfl n hn)))
  clear hA0 hval0 hsz0
  exact (walk a0 a1 A2 n2 c2 ss2 W m2 hT2).mono fun e W' ⟨he, hb⟩ => ⟨_, he, law_post (t := 4) laidOut (by kernel_rfl) rfl rfl Tryz.underlying4 ⟨rfl, rfl, rfl⟩ hW' hb⟩

theorem over : Rows.lcppolPlaysRow.holds Tryz.pinned (OpenSpec.ofChange Rows.lcppolPlaysSpec) :=
  OpenClaim.holds_of_wide 3 Tryz.f3 rfl rfl rfl rfl rfl rfl rfl ⟨rfl, rfl, rfl, rfl, rfl⟩ rfl rfl rfl rfl rfl (by kernel_rfl) Tryz.func3 (by kernel_rfl)
    (of_decide_eq_true (by kernel_rfl)) (by unfold Func.isWrapper; first | (rw [if_pos (by decide +kernel)]; kernel_rfl) | (rw [if_neg (by decide +kernel)]; exact ⟨rfl, rfl⟩))
    (fun os started H enc _ => lifted os started H enc)

theorem proved : Rows.LcppolPlaysSaid :=
  over
#print axioms proved
end Go.Proofs.YtpohcejgblahiaaGreat.LcppolPlays
