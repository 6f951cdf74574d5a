/- PROVED: 'halyardlaw15.IpcppolPlays' returns true for every configuration and row of steps, and leaves them as they were. No condition. -/
import Derived.Test.YthoangihndplkaaIppW
import Derived.Test.YthoangihndplkaaGOptOf
import Derived.Test.YthoangihndplkaaIppQa
import Derived.Test.YthoangihndplkaaGIppQi
import Derived.Test.YthoangihndplkaaIpcK
import Derived.Test.YthoangihndplkaaGHeldX
import Derived.Test.YthoangihndplkaaLaw
import Derived.Test.YthoangihndplkaaRows
import Derived.SizedLaws
set_option linter.unusedSimpArgs false
set_option linter.unusedVariables false
namespace Go.Proofs.Ythoangihndplkaa.IpcppolPlays
open Go.ChangeShapes Go.WideShapes Go.ChangeAt Go.RowKit Go.Proofs.Ythoangihndplkaa.Oct Go.Proofs.Ythoangihndplkaa.Row Go.Proofs.Ythoangihndplkaa.Mem Go.Proofs.Ythoangihndplkaa.Opt Go.Proofs.Ythoangihndplkaa.Ipc Go.Proofs.Ythoangihndplkaa.Law Go.Proofs.Ythoangihndplkaa.Ipp
set_option maxRecDepth 100000 in
theorem own : ownKnob Try.prog.godebug = none := by kernel_rfl
set_option maxRecDepth 100000 in
theorem laidOut : laidOutB Try.prog = true := by kernel_rfl
/-- Between two steps. -/
structure Oy (cf : Conf) (w wr : World) (g R : Nat) (p : Po) : Prop where
  b : Bo wr g R p
  hc : CAt wr w.heap.size cf
  hb : Below w.heap.size w wr
  hg : w.heap.size < g
  hR : w.heap.size < R
  v : Iv cf p
theorem Oy.callee {cf : Conf} {w wr w' : World} {g R : Nat} {p : Po} (h : Oy cf w wr g R p) (hb : Below wr.heap.size wr w') : Oy cf w w' g R p := ⟨h.b.callee hb, h.hc.callee hb, h.hb.trans (hb.mono h.hb.size), h.hg, h.hR, h.v⟩
theorem Oy.step {cf : Conf} {w wr w' : World} {g R : Nat} {p q : Po} (h : Oy cf w wr g R p) (hb : Bo w' g R q) (hm : Moves (fun j => j = g ∨ j = R) wr w') (hv : Iv cf q) : Oy cf w w' g R q :=
  ⟨hb, Blk.moves h.hc hm (fun e => by have h1 := h.hg; have h2 := h.hR; rcases e with e | e <;> omega), h.hb.trans (hm.below h.hb.size fun k e => by have h1 := h.hg; have h2 := h.hR; rcases e with e | e <;> omega), h.hg, h.hR, hv⟩
/-- A step's cells. -/
def Sc (a : Addr) (s : Stp) (A : Option Addr) (c : Nat) (w : World) : Prop := w.cell? a = some (.int .i64 s.d) ∧ w.cell? ⟨a.block, a.off + 1, none⟩ = some (.slice A s.l.length c) ∧ w.cell? ⟨a.block, a.off + 2, none⟩ = some (.bool s.o) ∧ w.cell? ⟨a.block, a.off + 3, none⟩ = some (.int .u8 s.n.toNat)
theorem Sc.below {a : Addr} {s : Stp} {A : Option Addr} {c n : Nat} {w w' : World} (h : Sc a s A c w) (hb : Below n w w') (ha : a.block < n) : Sc a s A c w' :=
  ⟨(hb.cell ha).trans h.1, (hb.cell (p := ⟨a.block, a.off + 1, none⟩) ha).trans h.2.1, (hb.cell (p := ⟨a.block, a.off + 2, none⟩) ha).trans h.2.2.1, (hb.cell (p := ⟨a.block, a.off + 3, none⟩) ha).trans h.2.2.2⟩
/-- A reply to an old policy, of which a copy goes on. -/
theorem naked_old {w wr w' : World} {g R g' : Nat} {cf : Conf} {p q : Po} (h : Oy cf w wr g' R p) (hg : w.heap.size < g) (hn : g ≠ g') (hR : g ≠ R) (hm : Moves (fun j => j = g) wr w') : Oy cf w w' g' R p :=
  ⟨⟨h.b.1.moves hm (fun e => hn e.symm), h.b.2.1.moves hm (fun e => hR e.symm), h.b.2.2⟩, Blk.moves h.hc hm (fun e => by omega), h.hb.trans (hm.below h.hb.size fun k e => by omega), h.hg, h.hR, h.v⟩
theorem req_q {p q : Po} (h : p = q) : req p = req q := by rw [h]

set_option maxHeartbeats 16000000 in
set_option maxRecDepth 100000 in
theorem walk_no (cf : Conf) (A : Option Addr) (n c : Nat) (ss : List Stp) (w : World) (hn : n ≤ maxLen) (hl : StRow w w.heap.size A n ss) (hm : mayC cf = false) :
    Calls Try.prog 3 #[.agg #[Value.int .u32 cf.addr.toNat, .int .u32 cf.peer.toNat, .int .u32 cf.dns1.toNat, .int .u32 cf.dns2.toNat, .bool cf.want, .int .i64 cf.mn], .slice A n c] w fun e w' => e = .returned (.bool true) ∧ Below w.heap.size w w' := by
  obtain ⟨W, hW, HW⟩ := boxC w cf
  obtain ⟨c0, c1, c2, c3, c4, c5⟩ := HW.out.1.all
  have HB0 := Lib.hid HW.out.2.1
  have HC0 := Lib.hid HW.out.1
  have HSz := Lib.hid HW.out.2.2
  have HL := Lib.hid hl
  have HHv := Lib.hid (heavy_any ss w.heap.size A n c W (hl.below HB0.out) hn)
  have hne := fun W => ipc_neq (x := lz) (y := lz) (r := true) (decide_eq_true rfl) W
  simp only [Bool.not_true] at hne
  replace hne : ∀ W : World, (binOp .neq 35 (.agg #[Value.bool false, .int .u32 0, .bool false, .int .u32 0, .bool false, .int .u32 0]) (.agg #[Value.bool false, .int .u32 0, .bool false, .int .u32 0, .bool false, .int .u32 0])).run Try.prog W = .ok (.bool false) W := hne
  unfold maxLen at hn
  clear hl HW
  have HN := Lib.hid (fun W => new_no cf W hm)
  have HM : Hid (∀ W, Calls Try.prog 17 #[.agg #[Value.int .u32 cf.addr.toNat, .int .u32 cf.peer.toNat, .int .u32 cf.dns1.toNat, .int .u32 cf.dns2.toNat, .bool cf.want, .int .i64 cf.mn]] W fun e w' => e = .returned (.bool false) ∧ Below W.heap.size W w') := fun W => by have h := rmayC_any cf W; rw [hm] at h; exact h
  clear hm c0 c1 c2 c3 c4 c5
  go_enter Try.func3, Try.ntmps3
  go_wp2_with fail
  refine HHv.out.mono ?_
  rintro e _ ⟨b, rfl, hbl, rfl⟩
  have HHb := Lib.hid hbl
  clear hbl HHv
  cases b
  · go_wp2_with fail
    refine (judge_nil _).mono ?_
    rintro e n0 ⟨rfl, hb⟩
    have HB1 := Lib.hid (HB0.out.trans (hb.mono HB0.out.size))
    have HC1 := Lib.hid (HC0.out.callee hb)
    clear hb HC0 HB0
    go_wp2_with fail
    refine (request_nil _).mono ?_
    rintro e n1 ⟨An, cn, rfl, _, _, hb⟩
    have HB2 := Lib.hid (HB1.out.trans (hb.mono HB1.out.size))
    have HC2 := Lib.hid (HC1.out.callee hb)
    clear hb HC1 HB1
    go_wp2_with fail
    refine (acked_nil _).mono ?_
    rintro e n2 ⟨rfl, hb⟩
    have HB3 := Lib.hid (HB2.out.trans (hb.mono HB2.out.size))
    have HC3 := Lib.hid (HC2.out.callee hb)
    clear hb HC2 HB2
    go_wp2_with fail
    refine (naked_nil _).mono ?_
    rintro e n3 ⟨rfl, hb⟩
    have HB4 := Lib.hid (HB3.out.trans (hb.mono HB3.out.size))
    have HC4 := Lib.hid (HC3.out.callee hb)
    clear hb HC3 HB3
    go_wp2_with fail
    refine (rejected_nil _).mono ?_
    rintro e n4 ⟨rfl, hb⟩
    have HB5 := Lib.hid (HB4.out.trans (hb.mono HB4.out.size))
    have HC5 := Lib.hid (HC4.out.callee hb)
    clear hb HC4 HB4
    go_wp2_with fail
    refine (wish_nil _).mono ?_
    rintro e n5 ⟨he, hb⟩
    replace he : e = .returned (.agg #[Value.bool false, .int .u32 0, .bool false, .int .u32 0, .bool false, .int .u32 0]) := he
    subst he
    have HB6 := Lib.hid (HB5.out.trans (hb.mono HB5.out.size))
    have HC6 := Lib.hid (HC5.out.callee hb)
    clear hb HC5 HB5
    go_wp2_with fail
    refine (mine_nil _).mono ?_
    rintro e n6 ⟨he, hb⟩
    replace he : e = .returned (.agg #[Value.bool false, .int .u32 0, .bool false, .int .u32 0, .bool false, .int .u32 0]) := he
    subst he
    have HB7 := Lib.hid (HB6.out.trans (hb.mono HB6.out.size))
    have HC7 := Lib.hid (HC6.out.callee hb)
    clear hb HC6 HB6
    go_wp2_with fail
    refine (peer_nil _).mono ?_
    rintro e n7 ⟨he, hb⟩
    replace he : e = .returned (.agg #[Value.bool false, .int .u32 0, .bool false, .int .u32 0, .bool false, .int .u32 0]) := he
    subst he
    have HB8 := Lib.hid (HB7.out.trans (hb.mono HB7.out.size))
    have HC8 := Lib.hid (HC7.out.callee hb)
    clear hb HC7 HB7
    go_wp2_with fail
    refine (reset_nil _).mono ?_
    rintro e n8 ⟨rfl, hb⟩
    have HB9 := Lib.hid (HB8.out.trans (hb.mono HB8.out.size))
    have HC9 := Lib.hid (HC8.out.callee hb)
    clear hb HC8 HB8
    go_wp2_with fail
    refine (copy_nil _).mono ?_
    rintro e n9 ⟨rfl, hb⟩
    have HB10 := Lib.hid (HB9.out.trans (hb.mono HB9.out.size))
    have HC10 := Lib.hid (HC9.out.callee hb)
    clear hb HC9 HB9
    obtain ⟨c0, c1, c2, c3, c4, c5⟩ := HC10.out.all
    go_wp2_with fail
    refine (HN.out _).mono ?_
    rintro e v1 ⟨rfl, hb⟩
    have HBa := Lib.hid (HB10.out.trans (hb.mono HB10.out.size))
    have HCa := Lib.hid (HC10.out.callee hb)
    clear hb c0 c1 c2 c3 c4 c5
    obtain ⟨c0, c1, c2, c3, c4, c5⟩ := HCa.out.all
    go_wp2_with fail
    refine (HM.out _).mono ?_
    rintro e v2 ⟨rfl, hb⟩
    have HBb := Lib.hid (HBa.out.trans (hb.mono HBa.out.size))
    clear hb
    go_wp2_with fail
    refine (alive_any _).mono ?_
    rintro e v9 ⟨rfl, hb⟩
    have HE := Lib.hid (HBb.out.trans (hb.mono HBb.out.size))
    clear hb
    go_wp2
    go_ret
    exact ⟨rfl, HE.out⟩
  · go_wp2_with fail
    refine (alive_any _).mono ?_
    rintro e v9 ⟨rfl, hb⟩
    have HE := Lib.hid (HB0.out.trans (hb.mono HB0.out.size))
    clear hb
    go_wp2
    go_ret
    exact ⟨rfl, HE.out⟩
set_option maxHeartbeats 16000000 in
set_option maxRecDepth 100000 in
theorem walk_yes (cf : Conf) (A : Option Addr) (n c : Nat) (ss : List Stp) (w : World) (hn : n ≤ maxLen) (hl : StRow w w.heap.size A n ss) (hm : mayC cf = true) :
    Calls Try.prog 3 #[.agg #[Value.int .u32 cf.addr.toNat, .int .u32 cf.peer.toNat, .int .u32 cf.dns1.toNat, .int .u32 cf.dns2.toNat, .bool cf.want, .int .i64 cf.mn], .slice A n c] w fun e w' => e = .returned (.bool true) ∧ Below w.heap.size w w' := by
  obtain ⟨W, hW, HW⟩ := boxC w cf
  obtain ⟨c0, c1, c2, c3, c4, c5⟩ := HW.out.1.all
  have HB0 := Lib.hid HW.out.2.1
  have HC0 := Lib.hid HW.out.1
  have HSz := Lib.hid HW.out.2.2
  have HL := Lib.hid hl
  have HHv := Lib.hid (heavy_any ss w.heap.size A n c W (hl.below HB0.out) hn)
  have hne := fun W => ipc_neq (x := lz) (y := lz) (r := true) (decide_eq_true rfl) W
  simp only [Bool.not_true] at hne
  replace hne : ∀ W : World, (binOp .neq 35 (.agg #[Value.bool false, .int .u32 0, .bool false, .int .u32 0, .bool false, .int .u32 0]) (.agg #[Value.bool false, .int .u32 0, .bool false, .int .u32 0, .bool false, .int .u32 0])).run Try.prog W = .ok (.bool false) W := hne
  unfold maxLen at hn
  clear hl HW
  have HN := Lib.hid (fun W => new_ok cf W hm)
  have HNr := Lib.hid (fun W => rnew_any cf W)
  have HIn := Lib.hid (iv_new hm)
  have HM : Hid (∀ W, Calls Try.prog 17 #[.agg #[Value.int .u32 cf.addr.toNat, .int .u32 cf.peer.toNat, .int .u32 cf.dns1.toNat, .int .u32 cf.dns2.toNat, .bool cf.want, .int .i64 cf.mn]] W fun e w' => e = .returned (.bool true) ∧ Below W.heap.size W w') := fun W => by have h := rmayC_any cf W; rw [hm] at h; exact h
  clear hm c0 c1 c2 c3 c4 c5
  go_enter Try.func3, Try.ntmps3
  go_wp2_with fail
  refine HHv.out.mono ?_
  rintro e _ ⟨b, rfl, hbl, rfl⟩
  have HHb := Lib.hid hbl
  clear hbl HHv
  cases b
  · have hn80 : n ≤ 80 := (HHb.out rfl).1
    have H70 := Lib.hid (HHb.out rfl).2
    clear HHb
    go_wp2_with fail
    refine (judge_nil _).mono ?_
    rintro e n0 ⟨rfl, hb⟩
    have HB1 := Lib.hid (HB0.out.trans (hb.mono HB0.out.size))
    have HC1 := Lib.hid (HC0.out.callee hb)
    clear hb HC0 HB0
    go_wp2_with fail
    refine (request_nil _).mono ?_
    rintro e n1 ⟨An, cn, rfl, _, _, hb⟩
    have HB2 := Lib.hid (HB1.out.trans (hb.mono HB1.out.size))
    have HC2 := Lib.hid (HC1.out.callee hb)
    clear hb HC1 HB1
    go_wp2_with fail
    refine (acked_nil _).mono ?_
    rintro e n2 ⟨rfl, hb⟩
    have HB3 := Lib.hid (HB2.out.trans (hb.mono HB2.out.size))
    have HC3 := Lib.hid (HC2.out.callee hb)
    clear hb HC2 HB2
    go_wp2_with fail
    refine (naked_nil _).mono ?_
    rintro e n3 ⟨rfl, hb⟩
    have HB4 := Lib.hid (HB3.out.trans (hb.mono HB3.out.size))
    have HC4 := Lib.hid (HC3.out.callee hb)
    clear hb HC3 HB3
    go_wp2_with fail
    refine (rejected_nil _).mono ?_
    rintro e n4 ⟨rfl, hb⟩
    have HB5 := Lib.hid (HB4.out.trans (hb.mono HB4.out.size))
    have HC5 := Lib.hid (HC4.out.callee hb)
    clear hb HC4 HB4
    go_wp2_with fail
    refine (wish_nil _).mono ?_
    rintro e n5 ⟨he, hb⟩
    replace he : e = .returned (.agg #[Value.bool false, .int .u32 0, .bool false, .int .u32 0, .bool false, .int .u32 0]) := he
    subst he
    have HB6 := Lib.hid (HB5.out.trans (hb.mono HB5.out.size))
    have HC6 := Lib.hid (HC5.out.callee hb)
    clear hb HC5 HB5
    go_wp2_with fail
    refine (mine_nil _).mono ?_
    rintro e n6 ⟨he, hb⟩
    replace he : e = .returned (.agg #[Value.bool false, .int .u32 0, .bool false, .int .u32 0, .bool false, .int .u32 0]) := he
    subst he
    have HB7 := Lib.hid (HB6.out.trans (hb.mono HB6.out.size))
    have HC7 := Lib.hid (HC6.out.callee hb)
    clear hb HC6 HB6
    go_wp2_with fail
    refine (peer_nil _).mono ?_
    rintro e n7 ⟨he, hb⟩
    replace he : e = .returned (.agg #[Value.bool false, .int .u32 0, .bool false, .int .u32 0, .bool false, .int .u32 0]) := he
    subst he
    have HB8 := Lib.hid (HB7.out.trans (hb.mono HB7.out.size))
    have HC8 := Lib.hid (HC7.out.callee hb)
    clear hb HC7 HB7
    go_wp2_with fail
    refine (reset_nil _).mono ?_
    rintro e n8 ⟨rfl, hb⟩
    have HB9 := Lib.hid (HB8.out.trans (hb.mono HB8.out.size))
    have HC9 := Lib.hid (HC8.out.callee hb)
    clear hb HC8 HB8
    go_wp2_with fail
    refine (copy_nil _).mono ?_
    rintro e n9 ⟨rfl, hb⟩
    have HB10 := Lib.hid (HB9.out.trans (hb.mono HB9.out.size))
    have HC10 := Lib.hid (HC9.out.callee hb)
    clear hb HC9 HB9
    obtain ⟨c0, c1, c2, c3, c4, c5⟩ := HC10.out.all
    go_wp2_with fail
    refine (HN.out _).mono ?_
    rintro e v1 ⟨g, rfl, hg, hx, hb⟩
    have HBa := Lib.hid (HB10.out.trans (hb.mono HB10.out.size))
    have HCa := Lib.hid (HC10.out.callee hb)
    have HXa := Lib.hid hx
    have HGa : Hid (w.heap.size < g) := Nat.lt_of_lt_of_le HC10.out.lt hg
    clear hb hx hg c0 c1 c2 c3 c4 c5
    obtain ⟨c0, c1, c2, c3, c4, c5⟩ := HCa.out.all
    go_wp2_with fail
    refine (HM.out _).mono ?_
    rintro e v2 ⟨rfl, hb⟩
    have HBb := Lib.hid (HBa.out.trans (hb.mono HBa.out.size))
    have HCb := Lib.hid (HCa.out.callee hb)
    have HXb := Lib.hid (HXa.out.callee hb)
    clear hb c0 c1 c2 c3 c4 c5
    obtain ⟨c0, c1, c2, c3, c4, c5⟩ := HCb.out.all
    go_wp2_with fail
    refine (HNr.out _).mono ?_
    rintro e v3 ⟨R, rfl, hR, hx, hb⟩
    have HL0 : Hid (Oy cf w v3 g R (newP cf)) := ⟨⟨HXb.out.callee hb, hx, fun e => by have := HXb.out.lt; omega⟩, HCb.out.callee hb, HBb.out.trans (hb.mono HBb.out.size), HGa.out, Nat.lt_of_lt_of_le HCb.out.lt hR, HIn.out⟩
    clear hb hx hR c0 c1 c2 c3 c4 c5 HXa HXb HBa HBb HCa HCb hW
    go_wp2_with fail
    go_loopw [8, 10, 11] (fun u v x wr => ∃ (k g R : Nat) (p : Po), k ≤ n ∧ u = .pointer (some ⟨g, 0, none⟩) ∧ v = .pointer (some ⟨R, 0, none⟩) ∧ x = .int .i64 k ∧ Hid (Oy cf w wr g R p)) (fun _ _ x _ => n - (intOf x).toNat)
    case atStart => exact ⟨0, g, R, newP cf, Nat.zero_le _, rfl, rfl, rfl, HL0⟩
    case round =>
      obtain ⟨k, g, R, p, hk, rfl, rfl, rfl, HO⟩ := hrel
      clear HL0
      by_cases hlt : k < n
      · obtain ⟨ad, s, hA, hadB, hss, A', c', s0, s1, s2, s3, hO, hsm, hsc, hsA⟩ := HL.out.at_ hlt
        subst hA
        have HA : Hid (Sc (ad.add (k * 4)) s A' c' w) := ⟨s0, s1, s2, s3⟩
        have HAB : Hid ((ad.add (k * 4)).block < w.heap.size) := by show _ < _; rw [Oct.block_add]; exact hadB
        have HOpt := Lib.hid hO
        have Hs70 := Lib.hid (H70.out s (List.mem_of_getElem? hss))
        have Hsc := Lib.hid hsc
        have HsA := Lib.hid hsA
        clear s0 s1 s2 s3 hadB hss hO hsm hsc hsA
        have HA0 := HA
        replace HA := Lib.hid (HA0.out.below HO.out.hb HAB.out)
        have s0 := HA.out.1
        have hk1 : (k : Int) < (n : Int) := by omega
        have hk2 : (k : Int) ≤ 80 := by omega
        by_cases h4 : s.d = 4
        · have q4 : (s.d == 4) = true := by rw [h4]; rfl
          as_aux_lemma =>
            obtain ⟨c0, c1, c2, c3, c4, c5⟩ := HO.out.hc.all
            go_wp2_with fail
            refine (HNr.out _).mono ?_
            rintro e v1 ⟨R', rfl, hR', hx, hb⟩
            have HX := Lib.hid hx
            have HO1 := Lib.hid (HO.out.callee hb)
            have HR' : Hid (wr.heap.size ≤ R') := hR'
            replace HA := Lib.hid (HA.out.below hb (World.block_lt_of_cell? _ _ HA.out.1))
            clear hx hb hR'
            have HRs := Lib.hid (reset_any g p _ HO1.out.b.1)
            go_wp2_with fail
            refine HRs.out.mono ?_
            rintro e v2 ⟨rfl, hx, hm⟩
            rw [HO1.out.v.c] at hx
            have HgR : Hid (g < R') := Nat.lt_of_lt_of_le HO.out.b.1.lt HR'.out
            have HO2 : Hid (Oy cf w v2 g R' (newP cf)) := ⟨⟨hx, HX.out.moves hm (fun e => by have := HgR.out; omega), fun e => by have := HgR.out; omega⟩, Blk.moves HO1.out.hc hm (fun e => by have := HO1.out.hg; omega), HO1.out.hb.trans (hm.below HO1.out.hb.size fun j e => by have := HO1.out.hg; omega), HO1.out.hg, by have h1 := HO1.out.hg; have h2 := HgR.out; omega, HIn.out⟩
            have HA2 : Hid (Sc (ad.add (k * 4)) s A' c' v2) := HA0.out.below HO2.out.hb HAB.out
            clear HO HO1 HA hx hm HX HRs s0
            go_upto_region 26 with (fail)
            clear h4 q4
            generalize newP cf = p2 at *
            have HU : Hid (Oy cf w v2.drew g R' p2) := HO2.out.callee (Below.drewN' (Below.refl _ v2) 1)
            have hHeld : Sc (ad.add (k * 4)) s A' c' v2.drew := HA2.out.below (Below.drewN' (Below.refl _ v2) 1) (World.block_lt_of_cell? _ _ HA2.out.1)
            have HOp : Hid (Opts v2.drew w.heap.size A' s.l.length s.l) := HOpt.out.below (HU.out.hb)
            have HDo := Lib.hid (does_any g R' cf p2 s w.heap.size A' c' _ HU.out.b.1 HU.out.b.2.1 HU.out.v HOp.out HU.out.hb.size Hs70.out Hsc.out HsA.out)
            have HVq := Lib.hid (iv_step HU.out.v s.d (stL p2 s))
            obtain ⟨q, hq⟩ : ∃ q, stP p2 s.d (stL p2 s) = q := ⟨_, rfl⟩
            rw [hq] at HDo HVq
            clear hq
            refine wp_region_t 9 (Sc (ad.add (k * 4)) s A' c') (fun w' => Oy cf w w' g R' q) (by kernel_rfl) (fun hSh => ?_)
            refine wpAnyT_take (i := 0) (n := 80) (v := ?vv0_1) (Sc (ad.add (k * 4)) s A' c') rfl (by kernel_rfl) (by kernel_rfl) (by kernel_rfl) (fun _ _ _ h => h) ⟨by decide, .inr ⟨by kernel_rfl, by kernel_rfl, rfl⟩⟩ hSh (Or.inl ⟨by rfl, ?yy0_1⟩) (by assumption) ?rr0_1
            case yy0_1 => (intro w hSw; (skip); (try simp only [List.getElem_toArray, List.getElem_cons_succ, List.getElem_cons_zero, Act.put, List.setIfInBounds_toArray, List.set_cons_zero, List.set_cons_succ]); go_simp; (try (with_reducible rfl)))
            clear hSh; intro hSh
            try simp only [List.getElem_toArray, List.getElem_cons_succ, List.getElem_cons_zero, Act.put, List.setIfInBounds_toArray, List.set_cons_zero, List.set_cons_succ]
            refine wpAnyT_take (i := 1) (n := 80) (v := ?vv1_2) (Sc (ad.add (k * 4)) s A' c') rfl (by kernel_rfl) (by kernel_rfl) (by kernel_rfl) (fun _ _ _ h => h) ⟨by decide, .inr ⟨by kernel_rfl, by kernel_rfl, rfl⟩⟩ hSh (Or.inl ⟨by rfl, ?yy1_2⟩) (by assumption) ?rr1_2
            case yy1_2 => (intro w hSw; (skip); (try simp only [List.getElem_toArray, List.getElem_cons_succ, List.getElem_cons_zero, Act.put, List.setIfInBounds_toArray, List.set_cons_zero, List.set_cons_succ]); go_simp; (try (with_reducible rfl)))
            clear hSh; intro hSh
            try simp only [List.getElem_toArray, List.getElem_cons_succ, List.getElem_cons_zero, Act.put, List.setIfInBounds_toArray, List.set_cons_zero, List.set_cons_succ]
            refine wpAnyT_take (i := 2) (n := 80) (v := ?vv2_3) (Sc (ad.add (k * 4)) s A' c') rfl (by kernel_rfl) (by kernel_rfl) (by kernel_rfl) (fun _ _ _ h => h) ⟨by decide, .inr ⟨by kernel_rfl, by kernel_rfl, rfl⟩⟩ hSh (Or.inl ⟨by rfl, ?yy2_3⟩) (by assumption) ?rr2_3
            case yy2_3 => (intro w hSw; (skip); (try simp only [List.getElem_toArray, List.getElem_cons_succ, List.getElem_cons_zero, Act.put, List.setIfInBounds_toArray, List.set_cons_zero, List.set_cons_succ]); go_simp; (try (with_reducible rfl)))
            clear hSh; intro hSh
            try simp only [List.getElem_toArray, List.getElem_cons_succ, List.getElem_cons_zero, Act.put, List.setIfInBounds_toArray, List.set_cons_zero, List.set_cons_succ]
            refine wpAnyT_take (i := 3) (n := 80) (v := ?vv3_4) (Sc (ad.add (k * 4)) s A' c') rfl (by kernel_rfl) (by kernel_rfl) (by kernel_rfl) (fun _ _ _ h => h) ⟨by decide, .inr ⟨by kernel_rfl, by kernel_rfl, rfl⟩⟩ hSh (Or.inl ⟨by rfl, ?yy3_4⟩) (by assumption) ?rr3_4
            case yy3_4 => (intro w hSw; (skip); (try simp only [List.getElem_toArray, List.getElem_cons_succ, List.getElem_cons_zero, Act.put, List.setIfInBounds_toArray, List.set_cons_zero, List.set_cons_succ]); go_simp; (try (with_reducible rfl)))
            clear hSh; intro hSh
            try simp only [List.getElem_toArray, List.getElem_cons_succ, List.getElem_cons_zero, Act.put, List.setIfInBounds_toArray, List.set_cons_zero, List.set_cons_succ]
            refine wpAnyT_take (i := 4) (n := 80) (v := ?vv4_5) (Sc (ad.add (k * 4)) s A' c') rfl (by kernel_rfl) (by kernel_rfl) (by kernel_rfl) (fun _ _ _ h => h) ⟨by decide, .inr ⟨by kernel_rfl, by kernel_rfl, rfl⟩⟩ hSh (Or.inl ⟨by rfl, ?yy4_5⟩) (by assumption) ?rr4_5
            case yy4_5 => (intro w hSw; (skip); (try simp only [List.getElem_toArray, List.getElem_cons_succ, List.getElem_cons_zero, Act.put, List.setIfInBounds_toArray, List.set_cons_zero, List.set_cons_succ]); go_simp; (try (with_reducible rfl)))
            clear hSh; intro hSh
            try simp only [List.getElem_toArray, List.getElem_cons_succ, List.getElem_cons_zero, Act.put, List.setIfInBounds_toArray, List.set_cons_zero, List.set_cons_succ]
            refine wpAnyT_take (i := 5) (n := 80) (v := ?vv5_6) (Sc (ad.add (k * 4)) s A' c') rfl (by kernel_rfl) (by kernel_rfl) (by kernel_rfl) (fun _ _ _ h => h) ⟨by decide, .inr ⟨by kernel_rfl, by kernel_rfl, rfl⟩⟩ hSh (Or.inl ⟨by rfl, ?yy5_6⟩) (by assumption) ?rr5_6
            case yy5_6 => (intro w hSw; (skip); (try simp only [List.getElem_toArray, List.getElem_cons_succ, List.getElem_cons_zero, Act.put, List.setIfInBounds_toArray, List.set_cons_zero, List.set_cons_succ]); go_simp; (try (with_reducible rfl)))
            clear hSh; intro hSh
            try simp only [List.getElem_toArray, List.getElem_cons_succ, List.getElem_cons_zero, Act.put, List.setIfInBounds_toArray, List.set_cons_zero, List.set_cons_succ]
            refine wpAnyT_take (i := 6) (n := 80) (v := ?vv6_7) (Sc (ad.add (k * 4)) s A' c') rfl (by kernel_rfl) (by kernel_rfl) (by kernel_rfl) (fun _ _ _ h => h) ⟨by decide, .inr ⟨by kernel_rfl, by kernel_rfl, rfl⟩⟩ hSh (Or.inl ⟨by rfl, ?yy6_7⟩) (by assumption) ?rr6_7
            case yy6_7 => (intro w hSw; (skip); (try simp only [List.getElem_toArray, List.getElem_cons_succ, List.getElem_cons_zero, Act.put, List.setIfInBounds_toArray, List.set_cons_zero, List.set_cons_succ]); go_simp; (try (with_reducible rfl)))
            clear hSh; intro hSh
            try simp only [List.getElem_toArray, List.getElem_cons_succ, List.getElem_cons_zero, Act.put, List.setIfInBounds_toArray, List.set_cons_zero, List.set_cons_succ]
            refine wpAnyT_take (i := 7) (n := 80) (v := ?vv7_8) (Sc (ad.add (k * 4)) s A' c') rfl (by kernel_rfl) (by kernel_rfl) (by kernel_rfl) (fun _ _ _ h => h) ⟨by decide, .inr ⟨by kernel_rfl, by kernel_rfl, rfl⟩⟩ hSh (Or.inl ⟨by rfl, ?yy7_8⟩) (by assumption) ?rr7_8
            case yy7_8 => (intro w hSw; (skip); (try simp only [List.getElem_toArray, List.getElem_cons_succ, List.getElem_cons_zero, Act.put, List.setIfInBounds_toArray, List.set_cons_zero, List.set_cons_succ]); go_simp; (try (with_reducible rfl)))
            clear hSh; intro hSh
            try simp only [List.getElem_toArray, List.getElem_cons_succ, List.getElem_cons_zero, Act.put, List.setIfInBounds_toArray, List.set_cons_zero, List.set_cons_succ]
            refine wpAnyT_take (i := 8) (n := 80) (v := ?vv8_9) (Sc (ad.add (k * 4)) s A' c') rfl (by kernel_rfl) (by kernel_rfl) (by kernel_rfl) (fun _ _ _ h => h) ⟨by decide, .inr ⟨by kernel_rfl, by kernel_rfl, rfl⟩⟩ hSh (Or.inl ⟨by rfl, ?yy8_9⟩) (by assumption) ?rr8_9
            case yy8_9 => (intro w hSw; (obtain ⟨hs0, hs1, hs2, hs3⟩ := hSw); (try simp only [List.getElem_toArray, List.getElem_cons_succ, List.getElem_cons_zero, Act.put, List.setIfInBounds_toArray, List.set_cons_zero, List.set_cons_succ]); go_simp; (try (with_reducible rfl)))
            clear hSh; intro hSh
            try simp only [List.getElem_toArray, List.getElem_cons_succ, List.getElem_cons_zero, Act.put, List.setIfInBounds_toArray, List.set_cons_zero, List.set_cons_succ]
            refine wpAnyT_ready (rs := [9]) (by kernel_rfl) (by simp) ?_
            refine AllReadyT.cons (o := _) (fun w' => Oy cf w w' g R' q) (fun _ => cond_at (by kernel_rfl)) (by kernel_rfl) hSh rfl (fun K hK => ?_) AllReadyT.nil
            try simp only [List.getElem_toArray, List.getElem_cons_succ, List.getElem_cons_zero, Act.put, List.setIfInBounds_toArray, List.set_cons_zero, List.set_cons_succ]
            go_simp
            refine HDo.out.mono ?_
            rintro e y1 ⟨rfl, hbo, hmv⟩
            have h1 : Oy cf w y1 g R' q := HU.out.step hbo hmv HVq.out
            clear hbo hmv HDo
            clear hSh
            refine hK.out _ _ h1 (fun _ hSh => ?_)
            clear hK K
            try simp only [List.getElem_toArray, List.getElem_cons_succ, List.getElem_cons_zero, Act.put, List.setIfInBounds_toArray, List.set_cons_zero, List.set_cons_succ]
            refine wpAnyT_take (i := 10) (n := 80) (v := ?vv10_10) (fun w' => Oy cf w w' g R' q) rfl (by kernel_rfl) (by kernel_rfl) (by kernel_rfl) (fun _ _ _ h => h) ⟨by decide, .inl ⟨by kernel_rfl, rfl⟩⟩ hSh (Or.inl ⟨by rfl, ?yy10_10⟩) (by assumption) ?rr10_10
            case yy10_10 => (intro w hSw; (skip); (try simp only [List.getElem_toArray, List.getElem_cons_succ, List.getElem_cons_zero, Act.put, List.setIfInBounds_toArray, List.set_cons_zero, List.set_cons_succ]); go_simp; (try (with_reducible rfl)))
            clear hSh; intro hSh
            try simp only [List.getElem_toArray, List.getElem_cons_succ, List.getElem_cons_zero, Act.put, List.setIfInBounds_toArray, List.set_cons_zero, List.set_cons_succ]
            refine wpAnyT_take (i := 11) (n := 80) (v := ?vv11_11) (fun w' => Oy cf w w' g R' q) rfl (by kernel_rfl) (by kernel_rfl) (by kernel_rfl) (fun _ _ _ h => h) ⟨by decide, .inl ⟨by kernel_rfl, rfl⟩⟩ hSh (Or.inl ⟨by rfl, ?yy11_11⟩) (by assumption) ?rr11_11
            case yy11_11 => (intro w hSw; (skip); (try simp only [List.getElem_toArray, List.getElem_cons_succ, List.getElem_cons_zero, Act.put, List.setIfInBounds_toArray, List.set_cons_zero, List.set_cons_succ]); go_simp; (try (with_reducible rfl)))
            clear hSh; intro hSh
            try simp only [List.getElem_toArray, List.getElem_cons_succ, List.getElem_cons_zero, Act.put, List.setIfInBounds_toArray, List.set_cons_zero, List.set_cons_succ]
            refine wpAnyT_take (i := 12) (n := 80) (v := ?vv12_12) (fun w' => Oy cf w w' g R' q) rfl (by kernel_rfl) (by kernel_rfl) (by kernel_rfl) (fun _ _ _ h => h) ⟨by decide, .inl ⟨by kernel_rfl, rfl⟩⟩ hSh (Or.inl ⟨by rfl, ?yy12_12⟩) (by assumption) ?rr12_12
            case yy12_12 => (intro w hSw; (skip); (try simp only [List.getElem_toArray, List.getElem_cons_succ, List.getElem_cons_zero, Act.put, List.setIfInBounds_toArray, List.set_cons_zero, List.set_cons_succ]); go_simp; (try (with_reducible rfl)))
            clear hSh; intro hSh
            try simp only [List.getElem_toArray, List.getElem_cons_succ, List.getElem_cons_zero, Act.put, List.setIfInBounds_toArray, List.set_cons_zero, List.set_cons_succ]
            refine wpAnyT_take (i := 13) (n := 80) (v := ?vv13_13) (fun w' => Oy cf w w' g R' q) rfl (by kernel_rfl) (by kernel_rfl) (by kernel_rfl) (fun _ _ _ h => h) ⟨by decide, .inl ⟨by kernel_rfl, rfl⟩⟩ hSh (Or.inl ⟨by rfl, ?yy13_13⟩) (by assumption) ?rr13_13
            case yy13_13 => (intro w hSw; (skip); (try simp only [List.getElem_toArray, List.getElem_cons_succ, List.getElem_cons_zero, Act.put, List.setIfInBounds_toArray, List.set_cons_zero, List.set_cons_succ]); go_simp; (try (with_reducible rfl)))
            clear hSh; intro hSh
            try simp only [List.getElem_toArray, List.getElem_cons_succ, List.getElem_cons_zero, Act.put, List.setIfInBounds_toArray, List.set_cons_zero, List.set_cons_succ]
            refine wpAnyT_take (i := 15) (n := 80) (v := ?vv15_14) (fun w' => Oy cf w w' g R' q) rfl (by kernel_rfl) (by kernel_rfl) (by kernel_rfl) (fun _ _ _ h => h) ⟨by decide, .inl ⟨by kernel_rfl, rfl⟩⟩ hSh (Or.inl ⟨by rfl, ?yy15_14⟩) (by assumption) ?rr15_14
            case yy15_14 => (intro w hSw; (skip); (try simp only [List.getElem_toArray, List.getElem_cons_succ, List.getElem_cons_zero, Act.put, List.setIfInBounds_toArray, List.set_cons_zero, List.set_cons_succ]); go_simp; (try (with_reducible rfl)))
            clear hSh; intro hSh
            try simp only [List.getElem_toArray, List.getElem_cons_succ, List.getElem_cons_zero, Act.put, List.setIfInBounds_toArray, List.set_cons_zero, List.set_cons_succ]
            have HR1 := Lib.hid (fun W (h : Oy cf w W g R' q) => request_any g q W h.b.1 h.v.m)
            have HR2 := Lib.hid (fun W (h : Oy cf w W g R' q) => rrequest_any R' q W h.b.2.1)
            obtain ⟨z, hz⟩ : ∃ z, (req q).length = z := ⟨_, rfl⟩
            have hzp : (put q.w).length = z := hz
            have HZ := Lib.hid hz
            have hzs : z ≤ 3 := by rw [← hz]; exact req_small q
            have HPq : Hid (put q.w = req q) := rfl
            have HW1 := Lib.hid (fun W (h : Oy cf w W g R' q) => wish_any g q W h.b.1)
            have HW2 := Lib.hid (fun W (h : Oy cf w W g R' q) => mine_any g q W h.b.1)
            have HW3 := Lib.hid (fun W (h : Oy cf w W g R' q) => peer_any g q W h.b.1)
            clear hz
            refine wpAnyT_ready (rs := [14]) (by kernel_rfl) (by simp) ?_
            refine AllReadyT.cons (o := _) (fun w' => Oy cf w w' g R' q) (fun _ => cond_at (by kernel_rfl)) (by kernel_rfl) hSh rfl (fun K hK => ?_) AllReadyT.nil
            try simp only [List.getElem_toArray, List.getElem_cons_succ, List.getElem_cons_zero, Act.put, List.setIfInBounds_toArray, List.set_cons_zero, List.set_cons_succ]
            go_simp
            refine (HR1.out _ h1).mono ?_
            rintro e y2 ⟨A1, cA1, rfl, ho, _, hb⟩
            rw [HZ.out] at ho
            (try rw [HPq.out])
            (try rw [HZ.out])
            have h2 : Oy cf w y2 g R' q := h1.callee hb
            have HOA1 := Lib.hid ho
            have HBA1 := Lib.hid hb
            clear ho hb
            clear hSh
            refine hK.out _ _ h2 (fun _ hSh => ?_)
            clear hK K
            try simp only [List.getElem_toArray, List.getElem_cons_succ, List.getElem_cons_zero, Act.put, List.setIfInBounds_toArray, List.set_cons_zero, List.set_cons_succ]
            refine wpAnyT_ready (rs := [16]) (by kernel_rfl) (by simp) ?_
            refine AllReadyT.cons (o := _) (fun w' => Oy cf w w' g R' q) (fun _ => cond_at (by kernel_rfl)) (by kernel_rfl) hSh rfl (fun K hK => ?_) AllReadyT.nil
            try simp only [List.getElem_toArray, List.getElem_cons_succ, List.getElem_cons_zero, Act.put, List.setIfInBounds_toArray, List.set_cons_zero, List.set_cons_succ]
            go_simp
            refine (HR2.out _ h2).mono ?_
            rintro e y3 ⟨A2, cA2, rfl, ho, hb⟩
            rw [HPq.out] at ho
            rw [HZ.out] at ho
            (try rw [HPq.out])
            (try rw [HZ.out])
            have h3 : Oy cf w y3 g R' q := h2.callee hb
            have HOA2 := Lib.hid ho
            have HBA2 := Lib.hid hb
            clear ho hb
            clear hSh
            refine hK.out _ _ h3 (fun _ hSh => ?_)
            clear hK K
            try simp only [List.getElem_toArray, List.getElem_cons_succ, List.getElem_cons_zero, Act.put, List.setIfInBounds_toArray, List.set_cons_zero, List.set_cons_succ]
            have HOx := Lib.hid (HOA1.out.next HBA2.out)
            have HSa : Hid (Calls Try.prog 21 #[.slice A1 z cA1, .slice A2 z cA2] y3 fun e w' => e = .returned (.bool true) ∧ Below y3.heap.size y3 w') := by
              have h := rsame_any (req q) (req q) y3.heap.size A1 A2 z z cA1 cA2 y3 HOx.out HOA2.out (by unfold maxLen; omega) (by unfold maxLen; omega) (Nat.le_refl _)
              first | rw [Go.Proofs.Ythoangihndplkaa.Opt.sm_self] at h | rw [Go.Proofs.Ythoangihndplkaa.Ipp.sm_self] at h
              exact h
            refine wpAnyT_ready (rs := [17]) (by kernel_rfl) (by simp) ?_
            refine AllReadyT.cons (o := _) (fun w' => Oy cf w w' g R' q) (fun _ => cond_at (by kernel_rfl)) (by kernel_rfl) hSh rfl (fun K hK => ?_) AllReadyT.nil
            try simp only [List.getElem_toArray, List.getElem_cons_succ, List.getElem_cons_zero, Act.put, List.setIfInBounds_toArray, List.set_cons_zero, List.set_cons_succ]
            go_simp
            refine HSa.out.mono ?_
            rintro e y4 ⟨rfl, hb⟩
            have h4 : Oy cf w y4 g R' q := h3.callee hb
            clear hb HSa HOx HOA1 HOA2 HBA1 HBA2
            clear hSh
            refine hK.out _ _ h4 (fun _ hSh => ?_)
            clear hK K
            try simp only [List.getElem_toArray, List.getElem_cons_succ, List.getElem_cons_zero, Act.put, List.setIfInBounds_toArray, List.set_cons_zero, List.set_cons_succ]
            refine wpAnyT_take (i := 18) (n := 80) (v := ?vv18_15) (fun w' => Oy cf w w' g R' q) rfl (by kernel_rfl) (by kernel_rfl) (by kernel_rfl) (fun _ _ _ h => h) ⟨by decide, .inl ⟨by kernel_rfl, rfl⟩⟩ hSh (Or.inl ⟨by rfl, ?yy18_15⟩) (by assumption) ?rr18_15
            case yy18_15 => (intro w hSw; (skip); (try simp only [List.getElem_toArray, List.getElem_cons_succ, List.getElem_cons_zero, Act.put, List.setIfInBounds_toArray, List.set_cons_zero, List.set_cons_succ]); go_simp; (try (with_reducible rfl)))
            clear hSh; intro hSh
            try simp only [List.getElem_toArray, List.getElem_cons_succ, List.getElem_cons_zero, Act.put, List.setIfInBounds_toArray, List.set_cons_zero, List.set_cons_succ]
            refine wpAnyT_take (i := 19) (n := 80) (v := ?vv19_16) (fun w' => Oy cf w w' g R' q) rfl (by kernel_rfl) (by kernel_rfl) (by kernel_rfl) (fun _ _ _ h => h) ⟨by decide, .inl ⟨by kernel_rfl, rfl⟩⟩ hSh (Or.inl ⟨by rfl, ?yy19_16⟩) (by assumption) ?rr19_16
            case yy19_16 => (intro w hSw; (skip); (try simp only [List.getElem_toArray, List.getElem_cons_succ, List.getElem_cons_zero, Act.put, List.setIfInBounds_toArray, List.set_cons_zero, List.set_cons_succ]); go_simp; (try (with_reducible rfl)))
            clear hSh; intro hSh
            try simp only [List.getElem_toArray, List.getElem_cons_succ, List.getElem_cons_zero, Act.put, List.setIfInBounds_toArray, List.set_cons_zero, List.set_cons_succ]
            refine wpAnyT_take (i := 20) (n := 80) (v := ?vv20_17) (fun w' => Oy cf w w' g R' q) rfl (by kernel_rfl) (by kernel_rfl) (by kernel_rfl) (fun _ _ _ h => h) ⟨by decide, .inl ⟨by kernel_rfl, rfl⟩⟩ hSh (Or.inl ⟨by rfl, ?yy20_17⟩) (by assumption) ?rr20_17
            case yy20_17 => (intro w hSw; (skip); (try simp only [List.getElem_toArray, List.getElem_cons_succ, List.getElem_cons_zero, Act.put, List.setIfInBounds_toArray, List.set_cons_zero, List.set_cons_succ]); go_simp; (try (with_reducible rfl)))
            clear hSh; intro hSh
            try simp only [List.getElem_toArray, List.getElem_cons_succ, List.getElem_cons_zero, Act.put, List.setIfInBounds_toArray, List.set_cons_zero, List.set_cons_succ]
            refine wpAnyT_take (i := 21) (n := 80) (v := ?vv21_18) (fun w' => Oy cf w w' g R' q) rfl (by kernel_rfl) (by kernel_rfl) (by kernel_rfl) (fun _ _ _ h => h) ⟨by decide, .inl ⟨by kernel_rfl, rfl⟩⟩ hSh (Or.inl ⟨by rfl, ?yy21_18⟩) (by assumption) ?rr21_18
            case yy21_18 => (intro w hSw; (skip); (try simp only [List.getElem_toArray, List.getElem_cons_succ, List.getElem_cons_zero, Act.put, List.setIfInBounds_toArray, List.set_cons_zero, List.set_cons_succ]); go_simp; (try (with_reducible rfl)))
            clear hSh; intro hSh
            try simp only [List.getElem_toArray, List.getElem_cons_succ, List.getElem_cons_zero, Act.put, List.setIfInBounds_toArray, List.set_cons_zero, List.set_cons_succ]
            refine wpAnyT_take (i := 23) (n := 80) (v := ?vv23_19) (fun w' => Oy cf w w' g R' q) rfl (by kernel_rfl) (by kernel_rfl) (by kernel_rfl) (fun _ _ _ h => h) ⟨by decide, .inl ⟨by kernel_rfl, rfl⟩⟩ hSh (Or.inl ⟨by rfl, ?yy23_19⟩) (by assumption) ?rr23_19
            case yy23_19 => (intro w hSw; (skip); (try simp only [List.getElem_toArray, List.getElem_cons_succ, List.getElem_cons_zero, Act.put, List.setIfInBounds_toArray, List.set_cons_zero, List.set_cons_succ]); go_simp; (try (with_reducible rfl)))
            clear hSh; intro hSh
            try simp only [List.getElem_toArray, List.getElem_cons_succ, List.getElem_cons_zero, Act.put, List.setIfInBounds_toArray, List.set_cons_zero, List.set_cons_succ]
            refine wpAnyT_take (i := 24) (n := 80) (v := ?vv24_20) (fun w' => Oy cf w w' g R' q) rfl (by kernel_rfl) (by kernel_rfl) (by kernel_rfl) (fun _ _ _ h => h) ⟨by decide, .inl ⟨by kernel_rfl, rfl⟩⟩ hSh (Or.inl ⟨by rfl, ?yy24_20⟩) (by assumption) ?rr24_20
            case yy24_20 => (intro w hSw; (skip); (try simp only [List.getElem_toArray, List.getElem_cons_succ, List.getElem_cons_zero, Act.put, List.setIfInBounds_toArray, List.set_cons_zero, List.set_cons_succ]); go_simp; (try (with_reducible rfl)))
            clear hSh; intro hSh
            try simp only [List.getElem_toArray, List.getElem_cons_succ, List.getElem_cons_zero, Act.put, List.setIfInBounds_toArray, List.set_cons_zero, List.set_cons_succ]
            refine wpAnyT_take (i := 25) (n := 80) (v := ?vv25_21) (fun w' => Oy cf w w' g R' q) rfl (by kernel_rfl) (by kernel_rfl) (by kernel_rfl) (fun _ _ _ h => h) ⟨by decide, .inl ⟨by kernel_rfl, rfl⟩⟩ hSh (Or.inl ⟨by rfl, ?yy25_21⟩) (by assumption) ?rr25_21
            case yy25_21 => (intro w hSw; (skip); (try simp only [List.getElem_toArray, List.getElem_cons_succ, List.getElem_cons_zero, Act.put, List.setIfInBounds_toArray, List.set_cons_zero, List.set_cons_succ]); go_simp; (try (with_reducible rfl)))
            clear hSh; intro hSh
            try simp only [List.getElem_toArray, List.getElem_cons_succ, List.getElem_cons_zero, Act.put, List.setIfInBounds_toArray, List.set_cons_zero, List.set_cons_succ]
            refine wpAnyT_take (i := 26) (n := 80) (v := ?vv26_22) (fun w' => Oy cf w w' g R' q) rfl (by kernel_rfl) (by kernel_rfl) (by kernel_rfl) (fun _ _ _ h => h) ⟨by decide, .inl ⟨by kernel_rfl, rfl⟩⟩ hSh (Or.inl ⟨by rfl, ?yy26_22⟩) (by assumption) ?rr26_22
            case yy26_22 => (intro w hSw; (have hx0 : w.cell? ⟨R', 6, none⟩ = some (Value.bool q.w.ha) := hSw.b.2.1.c 6; have hx1 : w.cell? ⟨R', 7, none⟩ = some (.int .u32 q.w.addr.toNat) := hSw.b.2.1.c 7; have hx2 : w.cell? ⟨R', 8, none⟩ = some (.bool q.w.h1) := hSw.b.2.1.c 8; have hx3 : w.cell? ⟨R', 9, none⟩ = some (.int .u32 q.w.dns1.toNat) := hSw.b.2.1.c 9; have hx4 : w.cell? ⟨R', 10, none⟩ = some (.bool q.w.h2) := hSw.b.2.1.c 10; have hx5 : w.cell? ⟨R', 11, none⟩ = some (.int .u32 q.w.dns2.toNat) := hSw.b.2.1.c 11); (try simp only [List.getElem_toArray, List.getElem_cons_succ, List.getElem_cons_zero, Act.put, List.setIfInBounds_toArray, List.set_cons_zero, List.set_cons_succ]); go_simp; (try (with_reducible rfl)))
            clear hSh; intro hSh
            try simp only [List.getElem_toArray, List.getElem_cons_succ, List.getElem_cons_zero, Act.put, List.setIfInBounds_toArray, List.set_cons_zero, List.set_cons_succ]
            refine wpAnyT_ready (rs := [22]) (by kernel_rfl) (by simp) ?_
            refine AllReadyT.cons (o := _) (fun w' => Oy cf w w' g R' q) (fun _ => cond_at (by kernel_rfl)) (by kernel_rfl) hSh rfl (fun K hK => ?_) AllReadyT.nil
            try simp only [List.getElem_toArray, List.getElem_cons_succ, List.getElem_cons_zero, Act.put, List.setIfInBounds_toArray, List.set_cons_zero, List.set_cons_succ]
            go_simp
            refine (HW1.out _ h4).mono ?_
            rintro e y5 ⟨he, hb⟩
            replace he : e = .returned (.agg #[Value.bool q.w.ha, .int .u32 q.w.addr.toNat, .bool q.w.h1, .int .u32 q.w.dns1.toNat, .bool q.w.h2, .int .u32 q.w.dns2.toNat]) := he
            subst he
            have h5 : Oy cf w y5 g R' q := h4.callee hb
            clear hb
            clear hSh
            refine hK.out _ _ h5 (fun _ hSh => ?_)
            clear hK K
            try simp only [List.getElem_toArray, List.getElem_cons_succ, List.getElem_cons_zero, Act.put, List.setIfInBounds_toArray, List.set_cons_zero, List.set_cons_succ]
            have hneq4 := fun W => ipc_neq (x := q.w) (y := q.w) (r := true) (decide_eq_true rfl) W
            simp only [Bool.not_true] at hneq4
            refine wpAnyT_take (i := 27) (n := 80) (v := ?vv27_23) (fun w' => Oy cf w w' g R' q) rfl (by kernel_rfl) (by kernel_rfl) (by kernel_rfl) (fun _ _ _ h => h) ⟨by decide, .inl ⟨by kernel_rfl, rfl⟩⟩ hSh (Or.inl ⟨by rfl, ?yy27_23⟩) (by assumption) ?rr27_23
            case yy27_23 => (intro w hSw; (skip); (try simp only [List.getElem_toArray, List.getElem_cons_succ, List.getElem_cons_zero, Act.put, List.setIfInBounds_toArray, List.set_cons_zero, List.set_cons_succ]); go_simp; (try (with_reducible rfl)))
            clear hSh; intro hSh
            try simp only [List.getElem_toArray, List.getElem_cons_succ, List.getElem_cons_zero, Act.put, List.setIfInBounds_toArray, List.set_cons_zero, List.set_cons_succ]
            refine wpAnyT_take (i := 28) (n := 80) (v := ?vv28_24) (fun w' => Oy cf w w' g R' q) rfl (by kernel_rfl) (by kernel_rfl) (by kernel_rfl) (fun _ _ _ h => h) ⟨by decide, .inl ⟨by kernel_rfl, rfl⟩⟩ hSh (Or.inl ⟨by rfl, ?yy28_24⟩) (by assumption) ?rr28_24
            case yy28_24 => (intro w hSw; (skip); (try simp only [List.getElem_toArray, List.getElem_cons_succ, List.getElem_cons_zero, Act.put, List.setIfInBounds_toArray, List.set_cons_zero, List.set_cons_succ]); go_simp; (try (with_reducible rfl)))
            clear hSh; intro hSh
            try simp only [List.getElem_toArray, List.getElem_cons_succ, List.getElem_cons_zero, Act.put, List.setIfInBounds_toArray, List.set_cons_zero, List.set_cons_succ]
            refine wpAnyT_take (i := 29) (n := 80) (v := ?vv29_25) (fun w' => Oy cf w w' g R' q) rfl (by kernel_rfl) (by kernel_rfl) (by kernel_rfl) (fun _ _ _ h => h) ⟨by decide, .inl ⟨by kernel_rfl, rfl⟩⟩ hSh (Or.inl ⟨by rfl, ?yy29_25⟩) (by assumption) ?rr29_25
            case yy29_25 => (intro w hSw; (skip); (try simp only [List.getElem_toArray, List.getElem_cons_succ, List.getElem_cons_zero, Act.put, List.setIfInBounds_toArray, List.set_cons_zero, List.set_cons_succ]); go_simp; (try (with_reducible rfl)))
            clear hSh; intro hSh
            try simp only [List.getElem_toArray, List.getElem_cons_succ, List.getElem_cons_zero, Act.put, List.setIfInBounds_toArray, List.set_cons_zero, List.set_cons_succ]
            refine wpAnyT_take (i := 30) (n := 80) (v := ?vv30_26) (fun w' => Oy cf w w' g R' q) rfl (by kernel_rfl) (by kernel_rfl) (by kernel_rfl) (fun _ _ _ h => h) ⟨by decide, .inl ⟨by kernel_rfl, rfl⟩⟩ hSh (Or.inl ⟨by rfl, ?yy30_26⟩) (by assumption) ?rr30_26
            case yy30_26 => (intro w hSw; (skip); (try simp only [List.getElem_toArray, List.getElem_cons_succ, List.getElem_cons_zero, Act.put, List.setIfInBounds_toArray, List.set_cons_zero, List.set_cons_succ]); go_simp; (try (with_reducible rfl)))
            clear hSh; intro hSh
            try simp only [List.getElem_toArray, List.getElem_cons_succ, List.getElem_cons_zero, Act.put, List.setIfInBounds_toArray, List.set_cons_zero, List.set_cons_succ]
            refine wpAnyT_take (i := 32) (n := 80) (v := ?vv32_27) (fun w' => Oy cf w w' g R' q) rfl (by kernel_rfl) (by kernel_rfl) (by kernel_rfl) (fun _ _ _ h => h) ⟨by decide, .inl ⟨by kernel_rfl, rfl⟩⟩ hSh (Or.inl ⟨by rfl, ?yy32_27⟩) (by assumption) ?rr32_27
            case yy32_27 => (intro w hSw; (skip); (try simp only [List.getElem_toArray, List.getElem_cons_succ, List.getElem_cons_zero, Act.put, List.setIfInBounds_toArray, List.set_cons_zero, List.set_cons_succ]); go_simp; (try (with_reducible rfl)))
            clear hSh; intro hSh
            try simp only [List.getElem_toArray, List.getElem_cons_succ, List.getElem_cons_zero, Act.put, List.setIfInBounds_toArray, List.set_cons_zero, List.set_cons_succ]
            refine wpAnyT_take (i := 33) (n := 80) (v := ?vv33_28) (fun w' => Oy cf w w' g R' q) rfl (by kernel_rfl) (by kernel_rfl) (by kernel_rfl) (fun _ _ _ h => h) ⟨by decide, .inl ⟨by kernel_rfl, rfl⟩⟩ hSh (Or.inl ⟨by rfl, ?yy33_28⟩) (by assumption) ?rr33_28
            case yy33_28 => (intro w hSw; (skip); (try simp only [List.getElem_toArray, List.getElem_cons_succ, List.getElem_cons_zero, Act.put, List.setIfInBounds_toArray, List.set_cons_zero, List.set_cons_succ]); go_simp; (try (with_reducible rfl)))
            clear hSh; intro hSh
            try simp only [List.getElem_toArray, List.getElem_cons_succ, List.getElem_cons_zero, Act.put, List.setIfInBounds_toArray, List.set_cons_zero, List.set_cons_succ]
            refine wpAnyT_take (i := 34) (n := 80) (v := ?vv34_29) (fun w' => Oy cf w w' g R' q) rfl (by kernel_rfl) (by kernel_rfl) (by kernel_rfl) (fun _ _ _ h => h) ⟨by decide, .inl ⟨by kernel_rfl, rfl⟩⟩ hSh (Or.inl ⟨by rfl, ?yy34_29⟩) (by assumption) ?rr34_29
            case yy34_29 => (intro w hSw; (skip); (try simp only [List.getElem_toArray, List.getElem_cons_succ, List.getElem_cons_zero, Act.put, List.setIfInBounds_toArray, List.set_cons_zero, List.set_cons_succ]); go_simp; (try (with_reducible rfl)))
            clear hSh; intro hSh
            try simp only [List.getElem_toArray, List.getElem_cons_succ, List.getElem_cons_zero, Act.put, List.setIfInBounds_toArray, List.set_cons_zero, List.set_cons_succ]
            refine wpAnyT_take (i := 35) (n := 80) (v := ?vv35_30) (fun w' => Oy cf w w' g R' q) rfl (by kernel_rfl) (by kernel_rfl) (by kernel_rfl) (fun _ _ _ h => h) ⟨by decide, .inl ⟨by kernel_rfl, rfl⟩⟩ hSh (Or.inl ⟨by rfl, ?yy35_30⟩) (by assumption) ?rr35_30
            case yy35_30 => (intro w hSw; (have hx0 : w.cell? ⟨R', 12, none⟩ = some (Value.bool q.mine.ha) := hSw.b.2.1.c 12; have hx1 : w.cell? ⟨R', 13, none⟩ = some (.int .u32 q.mine.addr.toNat) := hSw.b.2.1.c 13; have hx2 : w.cell? ⟨R', 14, none⟩ = some (.bool q.mine.h1) := hSw.b.2.1.c 14; have hx3 : w.cell? ⟨R', 15, none⟩ = some (.int .u32 q.mine.dns1.toNat) := hSw.b.2.1.c 15; have hx4 : w.cell? ⟨R', 16, none⟩ = some (.bool q.mine.h2) := hSw.b.2.1.c 16; have hx5 : w.cell? ⟨R', 17, none⟩ = some (.int .u32 q.mine.dns2.toNat) := hSw.b.2.1.c 17); (try simp only [List.getElem_toArray, List.getElem_cons_succ, List.getElem_cons_zero, Act.put, List.setIfInBounds_toArray, List.set_cons_zero, List.set_cons_succ]); go_simp; (try (with_reducible rfl)))
            clear hSh; intro hSh
            try simp only [List.getElem_toArray, List.getElem_cons_succ, List.getElem_cons_zero, Act.put, List.setIfInBounds_toArray, List.set_cons_zero, List.set_cons_succ]
            refine wpAnyT_ready (rs := [31]) (by kernel_rfl) (by simp) ?_
            refine AllReadyT.cons (o := _) (fun w' => Oy cf w w' g R' q) (fun _ => cond_at (by kernel_rfl)) (by kernel_rfl) hSh rfl (fun K hK => ?_) AllReadyT.nil
            try simp only [List.getElem_toArray, List.getElem_cons_succ, List.getElem_cons_zero, Act.put, List.setIfInBounds_toArray, List.set_cons_zero, List.set_cons_succ]
            go_simp
            refine (HW2.out _ h5).mono ?_
            rintro e y6 ⟨he, hb⟩
            replace he : e = .returned (.agg #[Value.bool q.mine.ha, .int .u32 q.mine.addr.toNat, .bool q.mine.h1, .int .u32 q.mine.dns1.toNat, .bool q.mine.h2, .int .u32 q.mine.dns2.toNat]) := he
            subst he
            have h6 : Oy cf w y6 g R' q := h5.callee hb
            clear hb
            clear hSh
            refine hK.out _ _ h6 (fun _ hSh => ?_)
            clear hK K
            try simp only [List.getElem_toArray, List.getElem_cons_succ, List.getElem_cons_zero, Act.put, List.setIfInBounds_toArray, List.set_cons_zero, List.set_cons_succ]
            have hneq5 := fun W => ipc_neq (x := q.mine) (y := q.mine) (r := true) (decide_eq_true rfl) W
            simp only [Bool.not_true] at hneq5
            refine wpAnyT_take (i := 36) (n := 80) (v := ?vv36_31) (fun w' => Oy cf w w' g R' q) rfl (by kernel_rfl) (by kernel_rfl) (by kernel_rfl) (fun _ _ _ h => h) ⟨by decide, .inl ⟨by kernel_rfl, rfl⟩⟩ hSh (Or.inl ⟨by rfl, ?yy36_31⟩) (by assumption) ?rr36_31
            case yy36_31 => (intro w hSw; (skip); (try simp only [List.getElem_toArray, List.getElem_cons_succ, List.getElem_cons_zero, Act.put, List.setIfInBounds_toArray, List.set_cons_zero, List.set_cons_succ]); go_simp; (try (with_reducible rfl)))
            clear hSh; intro hSh
            try simp only [List.getElem_toArray, List.getElem_cons_succ, List.getElem_cons_zero, Act.put, List.setIfInBounds_toArray, List.set_cons_zero, List.set_cons_succ]
            refine wpAnyT_take (i := 37) (n := 80) (v := ?vv37_32) (fun w' => Oy cf w w' g R' q) rfl (by kernel_rfl) (by kernel_rfl) (by kernel_rfl) (fun _ _ _ h => h) ⟨by decide, .inl ⟨by kernel_rfl, rfl⟩⟩ hSh (Or.inl ⟨by rfl, ?yy37_32⟩) (by assumption) ?rr37_32
            case yy37_32 => (intro w hSw; (skip); (try simp only [List.getElem_toArray, List.getElem_cons_succ, List.getElem_cons_zero, Act.put, List.setIfInBounds_toArray, List.set_cons_zero, List.set_cons_succ]); go_simp; (try (with_reducible rfl)))
            clear hSh; intro hSh
            try simp only [List.getElem_toArray, List.getElem_cons_succ, List.getElem_cons_zero, Act.put, List.setIfInBounds_toArray, List.set_cons_zero, List.set_cons_succ]
            refine wpAnyT_take (i := 38) (n := 80) (v := ?vv38_33) (fun w' => Oy cf w w' g R' q) rfl (by kernel_rfl) (by kernel_rfl) (by kernel_rfl) (fun _ _ _ h => h) ⟨by decide, .inl ⟨by kernel_rfl, rfl⟩⟩ hSh (Or.inl ⟨by rfl, ?yy38_33⟩) (by assumption) ?rr38_33
            case yy38_33 => (intro w hSw; (skip); (try simp only [List.getElem_toArray, List.getElem_cons_succ, List.getElem_cons_zero, Act.put, List.setIfInBounds_toArray, List.set_cons_zero, List.set_cons_succ]); go_simp; (try (with_reducible rfl)))
            clear hSh; intro hSh
            try simp only [List.getElem_toArray, List.getElem_cons_succ, List.getElem_cons_zero, Act.put, List.setIfInBounds_toArray, List.set_cons_zero, List.set_cons_succ]
            refine wpAnyT_take (i := 39) (n := 80) (v := ?vv39_34) (fun w' => Oy cf w w' g R' q) rfl (by kernel_rfl) (by kernel_rfl) (by kernel_rfl) (fun _ _ _ h => h) ⟨by decide, .inl ⟨by kernel_rfl, rfl⟩⟩ hSh (Or.inl ⟨by rfl, ?yy39_34⟩) (by assumption) ?rr39_34
            case yy39_34 => (intro w hSw; (skip); (try simp only [List.getElem_toArray, List.getElem_cons_succ, List.getElem_cons_zero, Act.put, List.setIfInBounds_toArray, List.set_cons_zero, List.set_cons_succ]); go_simp; (try (with_reducible rfl)))
            clear hSh; intro hSh
            try simp only [List.getElem_toArray, List.getElem_cons_succ, List.getElem_cons_zero, Act.put, List.setIfInBounds_toArray, List.set_cons_zero, List.set_cons_succ]
            refine wpAnyT_take (i := 41) (n := 80) (v := ?vv41_35) (fun w' => Oy cf w w' g R' q) rfl (by kernel_rfl) (by kernel_rfl) (by kernel_rfl) (fun _ _ _ h => h) ⟨by decide, .inl ⟨by kernel_rfl, rfl⟩⟩ hSh (Or.inl ⟨by rfl, ?yy41_35⟩) (by assumption) ?rr41_35
            case yy41_35 => (intro w hSw; (skip); (try simp only [List.getElem_toArray, List.getElem_cons_succ, List.getElem_cons_zero, Act.put, List.setIfInBounds_toArray, List.set_cons_zero, List.set_cons_succ]); go_simp; (try (with_reducible rfl)))
            clear hSh; intro hSh
            try simp only [List.getElem_toArray, List.getElem_cons_succ, List.getElem_cons_zero, Act.put, List.setIfInBounds_toArray, List.set_cons_zero, List.set_cons_succ]
            refine wpAnyT_take (i := 42) (n := 80) (v := ?vv42_36) (fun w' => Oy cf w w' g R' q) rfl (by kernel_rfl) (by kernel_rfl) (by kernel_rfl) (fun _ _ _ h => h) ⟨by decide, .inl ⟨by kernel_rfl, rfl⟩⟩ hSh (Or.inl ⟨by rfl, ?yy42_36⟩) (by assumption) ?rr42_36
            case yy42_36 => (intro w hSw; (skip); (try simp only [List.getElem_toArray, List.getElem_cons_succ, List.getElem_cons_zero, Act.put, List.setIfInBounds_toArray, List.set_cons_zero, List.set_cons_succ]); go_simp; (try (with_reducible rfl)))
            clear hSh; intro hSh
            try simp only [List.getElem_toArray, List.getElem_cons_succ, List.getElem_cons_zero, Act.put, List.setIfInBounds_toArray, List.set_cons_zero, List.set_cons_succ]
            refine wpAnyT_take (i := 43) (n := 80) (v := ?vv43_37) (fun w' => Oy cf w w' g R' q) rfl (by kernel_rfl) (by kernel_rfl) (by kernel_rfl) (fun _ _ _ h => h) ⟨by decide, .inl ⟨by kernel_rfl, rfl⟩⟩ hSh (Or.inl ⟨by rfl, ?yy43_37⟩) (by assumption) ?rr43_37
            case yy43_37 => (intro w hSw; (skip); (try simp only [List.getElem_toArray, List.getElem_cons_succ, List.getElem_cons_zero, Act.put, List.setIfInBounds_toArray, List.set_cons_zero, List.set_cons_succ]); go_simp; (try (with_reducible rfl)))
            clear hSh; intro hSh
            try simp only [List.getElem_toArray, List.getElem_cons_succ, List.getElem_cons_zero, Act.put, List.setIfInBounds_toArray, List.set_cons_zero, List.set_cons_succ]
            refine wpAnyT_take (i := 44) (n := 80) (v := ?vv44_38) (fun w' => Oy cf w w' g R' q) rfl (by kernel_rfl) (by kernel_rfl) (by kernel_rfl) (fun _ _ _ h => h) ⟨by decide, .inl ⟨by kernel_rfl, rfl⟩⟩ hSh (Or.inl ⟨by rfl, ?yy44_38⟩) (by assumption) ?rr44_38
            case yy44_38 => (intro w hSw; (have hx0 : w.cell? ⟨R', 18, none⟩ = some (Value.bool q.peer.ha) := hSw.b.2.1.c 18; have hx1 : w.cell? ⟨R', 19, none⟩ = some (.int .u32 q.peer.addr.toNat) := hSw.b.2.1.c 19; have hx2 : w.cell? ⟨R', 20, none⟩ = some (.bool q.peer.h1) := hSw.b.2.1.c 20; have hx3 : w.cell? ⟨R', 21, none⟩ = some (.int .u32 q.peer.dns1.toNat) := hSw.b.2.1.c 21; have hx4 : w.cell? ⟨R', 22, none⟩ = some (.bool q.peer.h2) := hSw.b.2.1.c 22; have hx5 : w.cell? ⟨R', 23, none⟩ = some (.int .u32 q.peer.dns2.toNat) := hSw.b.2.1.c 23); (try simp only [List.getElem_toArray, List.getElem_cons_succ, List.getElem_cons_zero, Act.put, List.setIfInBounds_toArray, List.set_cons_zero, List.set_cons_succ]); go_simp; (try (with_reducible rfl)))
            clear hSh; intro hSh
            try simp only [List.getElem_toArray, List.getElem_cons_succ, List.getElem_cons_zero, Act.put, List.setIfInBounds_toArray, List.set_cons_zero, List.set_cons_succ]
            refine wpAnyT_ready (rs := [40]) (by kernel_rfl) (by simp) ?_
            refine AllReadyT.cons (o := _) (fun w' => Oy cf w w' g R' q) (fun _ => cond_at (by kernel_rfl)) (by kernel_rfl) hSh rfl (fun K hK => ?_) AllReadyT.nil
            try simp only [List.getElem_toArray, List.getElem_cons_succ, List.getElem_cons_zero, Act.put, List.setIfInBounds_toArray, List.set_cons_zero, List.set_cons_succ]
            go_simp
            refine (HW3.out _ h6).mono ?_
            rintro e y7 ⟨he, hb⟩
            replace he : e = .returned (.agg #[Value.bool q.peer.ha, .int .u32 q.peer.addr.toNat, .bool q.peer.h1, .int .u32 q.peer.dns1.toNat, .bool q.peer.h2, .int .u32 q.peer.dns2.toNat]) := he
            subst he
            have h7 : Oy cf w y7 g R' q := h6.callee hb
            clear hb
            clear hSh
            refine hK.out _ _ h7 (fun _ hSh => ?_)
            clear hK K
            try simp only [List.getElem_toArray, List.getElem_cons_succ, List.getElem_cons_zero, Act.put, List.setIfInBounds_toArray, List.set_cons_zero, List.set_cons_succ]
            have hneq6 := fun W => ipc_neq (x := q.peer) (y := q.peer) (r := true) (decide_eq_true rfl) W
            simp only [Bool.not_true] at hneq6
            refine wpAnyT_take (i := 45) (n := 80) (v := ?vv45_39) (fun w' => Oy cf w w' g R' q) rfl (by kernel_rfl) (by kernel_rfl) (by kernel_rfl) (fun _ _ _ h => h) ⟨by decide, .inl ⟨by kernel_rfl, rfl⟩⟩ hSh (Or.inl ⟨by rfl, ?yy45_39⟩) (by assumption) ?rr45_39
            case yy45_39 => (intro w hSw; (skip); (try simp only [List.getElem_toArray, List.getElem_cons_succ, List.getElem_cons_zero, Act.put, List.setIfInBounds_toArray, List.set_cons_zero, List.set_cons_succ]); go_simp; (try (with_reducible rfl)))
            clear hSh; intro hSh
            try simp only [List.getElem_toArray, List.getElem_cons_succ, List.getElem_cons_zero, Act.put, List.setIfInBounds_toArray, List.set_cons_zero, List.set_cons_succ]
            refine wpAnyT_take (i := 46) (n := 80) (v := ?vv46_40) (fun w' => Oy cf w w' g R' q) rfl (by kernel_rfl) (by kernel_rfl) (by kernel_rfl) (fun _ _ _ h => h) ⟨by decide, .inl ⟨by kernel_rfl, rfl⟩⟩ hSh (Or.inl ⟨by rfl, ?yy46_40⟩) (by assumption) ?rr46_40
            case yy46_40 => (intro w hSw; (skip); (try simp only [List.getElem_toArray, List.getElem_cons_succ, List.getElem_cons_zero, Act.put, List.setIfInBounds_toArray, List.set_cons_zero, List.set_cons_succ]); go_simp; (try (with_reducible rfl)))
            clear hSh; intro hSh
            try simp only [List.getElem_toArray, List.getElem_cons_succ, List.getElem_cons_zero, Act.put, List.setIfInBounds_toArray, List.set_cons_zero, List.set_cons_succ]
            refine wpAnyT_done (by kernel_rfl) ?_ _
            have HOz := Lib.hid h7
            clear h1 h2 h3 h4 h5 h6 h7 HR1 HR2 HW1 HW2 HW3
            go_wp2
            go_roundw
            case rel => exact ⟨k + 1, g, R', q, by omega, rfl, rfl, by go_num, HOz⟩
            case measure => simp [intOf]; omega
        · have q4 : (s.d == 4) = false := by rw [beq_eq_false_iff_ne]; exact h4
          by_cases h5 : s.d = 5
          · have q5 : (s.d == 5) = true := by rw [h5]; rfl
            as_aux_lemma =>
              have HCp := Lib.hid (copy_any g p _ HO.out.b.1)
              go_wp2_with fail
              refine HCp.out.mono ?_
              rintro e v1 ⟨g', rfl, hg', hx, hb⟩
              have HX := Lib.hid hx
              have HO1 := Lib.hid (HO.out.callee hb)
              have HG' : Hid (g < g') := Nat.lt_of_lt_of_le HO.out.b.1.lt hg'
              have HR' : Hid (R < g') := Nat.lt_of_lt_of_le HO.out.b.2.1.lt hg'
              have HgR : Hid (g ≠ R) := HO.out.b.2.2
              have Hgw : Hid (w.heap.size < g) := HO.out.hg
              have HN1 : Hid (Oy cf w v1 g' R p) := ⟨⟨HX.out, HO1.out.b.2.1, fun e => by have := HR'.out; omega⟩, HO1.out.hc, HO1.out.hb, Nat.lt_trans Hgw.out HG'.out, HO1.out.hR, HO1.out.v⟩
              have HP1 : Hid (PAt v1 g p) := HO1.out.b.1
              have HV := Lib.hid HO1.out.v
              clear hx hb hg' HCp HO HO1 HX HA s0
              have R77 : Hid (∀ W : World, Opts (W.alloc (.cells #[.int .u8 3, .string (bOf [0, 0, 0, 77])] 48)) (W.alloc (.cells #[.int .u8 3, .string (bOf [0, 0, 0, 77])] 48)).heap.size (some ⟨W.heap.size, 0, none⟩) 1 [oA 77]) := rowA 77
              have A77 : Hid (∀ w : World, Calls Try.prog 19 #[.int .u8 77] w fun e w' => e = .returned (.agg #[.int .u8 3, .string (bOf [0, 0, 0, 77])]) ∧ Below w.heap.size w w') := fun w => addr_any 77 w
              generalize bOf [0, 0, 0, 77] = s77 at *
              go_wp2_with fail
              refine (A77.out _).mono ?_
              rintro e v2 ⟨rfl, hb⟩
              have HN2 := Lib.hid ((HN1.out.callee hb).callee ((Below.refl _ _).alloc (Nat.le_refl _) (.cells #[.int .u8 3, .string s77] 48)))
              have HP2 := Lib.hid ((HP1.out.callee hb).callee ((Below.refl _ _).alloc (Nat.le_refl _) (.cells #[.int .u8 3, .string s77] 48)))
              clear hb HN1 HP1
              go_wp2_with fail
              refine (naked_any g p [oA 77] _ 1 1 _ HP2.out HV.out.m (R77.out v2) (by omega)).mono ?_
              rintro e v3 ⟨rfl, hx, hm⟩
              have HP3 := Lib.hid hx
              have HN3 := Lib.hid (naked_old (q := p) HN2.out Hgw.out (fun e => by have := HG'.out; omega) HgR.out hm)
              have HV3 := Lib.hid (iv_naked HV.out [oA 77])
              clear hx hm HN2 HP2 R77 A77
              generalize nkB [oA 77] = b77 at *
              generalize nkP p [oA 77] = p3 at *
              go_wp2_with fail
              refine (judge_any g p3 [] none 0 0 v3 HP3.out (opts_nil v3 _) (fun _ => rfl) (by omega) HV3.out.le).mono ?_
              rintro e v4 ⟨A4, c4, rfl, ho, hx, hm⟩
              have HN4 := Lib.hid (naked_old (q := p) HN3.out Hgw.out (fun e => by have := HG'.out; omega) HgR.out hm)
              have HA4 : Hid (Sc (ad.add (k * 4)) s A' c' v4) := HA0.out.below HN4.out.hb HAB.out
              clear ho hx hm HN3 HP3 HV3 HV
              go_upto_region 26 with (fail)
              clear h4 h5 q4 q5
              have HU : Hid (Oy cf w v4.drew g' R p) := HN4.out.callee (Below.drewN' (Below.refl _ v4) 1)
              have hHeld : Sc (ad.add (k * 4)) s A' c' v4.drew := HA4.out.below (Below.drewN' (Below.refl _ v4) 1) (World.block_lt_of_cell? _ _ HA4.out.1)
              have HOp : Hid (Opts v4.drew w.heap.size A' s.l.length s.l) := HOpt.out.below (HU.out.hb)
              have HDo := Lib.hid (does_any g' R cf p s w.heap.size A' c' _ HU.out.b.1 HU.out.b.2.1 HU.out.v HOp.out HU.out.hb.size Hs70.out Hsc.out HsA.out)
              have HVq := Lib.hid (iv_step HU.out.v s.d (stL p s))
              obtain ⟨q, hq⟩ : ∃ q, stP p s.d (stL p s) = q := ⟨_, rfl⟩
              rw [hq] at HDo HVq
              clear hq
              refine wp_region_t 9 (Sc (ad.add (k * 4)) s A' c') (fun w' => Oy cf w w' g' R q) (by kernel_rfl) (fun hSh => ?_)
              refine wpAnyT_take (i := 0) (n := 80) (v := ?vv0_41) (Sc (ad.add (k * 4)) s A' c') rfl (by kernel_rfl) (by kernel_rfl) (by kernel_rfl) (fun _ _ _ h => h) ⟨by decide, .inr ⟨by kernel_rfl, by kernel_rfl, rfl⟩⟩ hSh (Or.inl ⟨by rfl, ?yy0_41⟩) (by assumption) ?rr0_41
              case yy0_41 => (intro w hSw; (skip); (try simp only [List.getElem_toArray, List.getElem_cons_succ, List.getElem_cons_zero, Act.put, List.setIfInBounds_toArray, List.set_cons_zero, List.set_cons_succ]); go_simp; (try (with_reducible rfl)))
              clear hSh; intro hSh
              try simp only [List.getElem_toArray, List.getElem_cons_succ, List.getElem_cons_zero, Act.put, List.setIfInBounds_toArray, List.set_cons_zero, List.set_cons_succ]
              refine wpAnyT_take (i := 1) (n := 80) (v := ?vv1_42) (Sc (ad.add (k * 4)) s A' c') rfl (by kernel_rfl) (by kernel_rfl) (by kernel_rfl) (fun _ _ _ h => h) ⟨by decide, .inr ⟨by kernel_rfl, by kernel_rfl, rfl⟩⟩ hSh (Or.inl ⟨by rfl, ?yy1_42⟩) (by assumption) ?rr1_42
              case yy1_42 => (intro w hSw; (skip); (try simp only [List.getElem_toArray, List.getElem_cons_succ, List.getElem_cons_zero, Act.put, List.setIfInBounds_toArray, List.set_cons_zero, List.set_cons_succ]); go_simp; (try (with_reducible rfl)))
              clear hSh; intro hSh
              try simp only [List.getElem_toArray, List.getElem_cons_succ, List.getElem_cons_zero, Act.put, List.setIfInBounds_toArray, List.set_cons_zero, List.set_cons_succ]
              refine wpAnyT_take (i := 2) (n := 80) (v := ?vv2_43) (Sc (ad.add (k * 4)) s A' c') rfl (by kernel_rfl) (by kernel_rfl) (by kernel_rfl) (fun _ _ _ h => h) ⟨by decide, .inr ⟨by kernel_rfl, by kernel_rfl, rfl⟩⟩ hSh (Or.inl ⟨by rfl, ?yy2_43⟩) (by assumption) ?rr2_43
              case yy2_43 => (intro w hSw; (skip); (try simp only [List.getElem_toArray, List.getElem_cons_succ, List.getElem_cons_zero, Act.put, List.setIfInBounds_toArray, List.set_cons_zero, List.set_cons_succ]); go_simp; (try (with_reducible rfl)))
              clear hSh; intro hSh
              try simp only [List.getElem_toArray, List.getElem_cons_succ, List.getElem_cons_zero, Act.put, List.setIfInBounds_toArray, List.set_cons_zero, List.set_cons_succ]
              refine wpAnyT_take (i := 3) (n := 80) (v := ?vv3_44) (Sc (ad.add (k * 4)) s A' c') rfl (by kernel_rfl) (by kernel_rfl) (by kernel_rfl) (fun _ _ _ h => h) ⟨by decide, .inr ⟨by kernel_rfl, by kernel_rfl, rfl⟩⟩ hSh (Or.inl ⟨by rfl, ?yy3_44⟩) (by assumption) ?rr3_44
              case yy3_44 => (intro w hSw; (skip); (try simp only [List.getElem_toArray, List.getElem_cons_succ, List.getElem_cons_zero, Act.put, List.setIfInBounds_toArray, List.set_cons_zero, List.set_cons_succ]); go_simp; (try (with_reducible rfl)))
              clear hSh; intro hSh
              try simp only [List.getElem_toArray, List.getElem_cons_succ, List.getElem_cons_zero, Act.put, List.setIfInBounds_toArray, List.set_cons_zero, List.set_cons_succ]
              refine wpAnyT_take (i := 4) (n := 80) (v := ?vv4_45) (Sc (ad.add (k * 4)) s A' c') rfl (by kernel_rfl) (by kernel_rfl) (by kernel_rfl) (fun _ _ _ h => h) ⟨by decide, .inr ⟨by kernel_rfl, by kernel_rfl, rfl⟩⟩ hSh (Or.inl ⟨by rfl, ?yy4_45⟩) (by assumption) ?rr4_45
              case yy4_45 => (intro w hSw; (skip); (try simp only [List.getElem_toArray, List.getElem_cons_succ, List.getElem_cons_zero, Act.put, List.setIfInBounds_toArray, List.set_cons_zero, List.set_cons_succ]); go_simp; (try (with_reducible rfl)))
              clear hSh; intro hSh
              try simp only [List.getElem_toArray, List.getElem_cons_succ, List.getElem_cons_zero, Act.put, List.setIfInBounds_toArray, List.set_cons_zero, List.set_cons_succ]
              refine wpAnyT_take (i := 5) (n := 80) (v := ?vv5_46) (Sc (ad.add (k * 4)) s A' c') rfl (by kernel_rfl) (by kernel_rfl) (by kernel_rfl) (fun _ _ _ h => h) ⟨by decide, .inr ⟨by kernel_rfl, by kernel_rfl, rfl⟩⟩ hSh (Or.inl ⟨by rfl, ?yy5_46⟩) (by assumption) ?rr5_46
              case yy5_46 => (intro w hSw; (skip); (try simp only [List.getElem_toArray, List.getElem_cons_succ, List.getElem_cons_zero, Act.put, List.setIfInBounds_toArray, List.set_cons_zero, List.set_cons_succ]); go_simp; (try (with_reducible rfl)))
              clear hSh; intro hSh
              try simp only [List.getElem_toArray, List.getElem_cons_succ, List.getElem_cons_zero, Act.put, List.setIfInBounds_toArray, List.set_cons_zero, List.set_cons_succ]
              refine wpAnyT_take (i := 6) (n := 80) (v := ?vv6_47) (Sc (ad.add (k * 4)) s A' c') rfl (by kernel_rfl) (by kernel_rfl) (by kernel_rfl) (fun _ _ _ h => h) ⟨by decide, .inr ⟨by kernel_rfl, by kernel_rfl, rfl⟩⟩ hSh (Or.inl ⟨by rfl, ?yy6_47⟩) (by assumption) ?rr6_47
              case yy6_47 => (intro w hSw; (skip); (try simp only [List.getElem_toArray, List.getElem_cons_succ, List.getElem_cons_zero, Act.put, List.setIfInBounds_toArray, List.set_cons_zero, List.set_cons_succ]); go_simp; (try (with_reducible rfl)))
              clear hSh; intro hSh
              try simp only [List.getElem_toArray, List.getElem_cons_succ, List.getElem_cons_zero, Act.put, List.setIfInBounds_toArray, List.set_cons_zero, List.set_cons_succ]
              refine wpAnyT_take (i := 7) (n := 80) (v := ?vv7_48) (Sc (ad.add (k * 4)) s A' c') rfl (by kernel_rfl) (by kernel_rfl) (by kernel_rfl) (fun _ _ _ h => h) ⟨by decide, .inr ⟨by kernel_rfl, by kernel_rfl, rfl⟩⟩ hSh (Or.inl ⟨by rfl, ?yy7_48⟩) (by assumption) ?rr7_48
              case yy7_48 => (intro w hSw; (skip); (try simp only [List.getElem_toArray, List.getElem_cons_succ, List.getElem_cons_zero, Act.put, List.setIfInBounds_toArray, List.set_cons_zero, List.set_cons_succ]); go_simp; (try (with_reducible rfl)))
              clear hSh; intro hSh
              try simp only [List.getElem_toArray, List.getElem_cons_succ, List.getElem_cons_zero, Act.put, List.setIfInBounds_toArray, List.set_cons_zero, List.set_cons_succ]
              refine wpAnyT_take (i := 8) (n := 80) (v := ?vv8_49) (Sc (ad.add (k * 4)) s A' c') rfl (by kernel_rfl) (by kernel_rfl) (by kernel_rfl) (fun _ _ _ h => h) ⟨by decide, .inr ⟨by kernel_rfl, by kernel_rfl, rfl⟩⟩ hSh (Or.inl ⟨by rfl, ?yy8_49⟩) (by assumption) ?rr8_49
              case yy8_49 => (intro w hSw; (obtain ⟨hs0, hs1, hs2, hs3⟩ := hSw); (try simp only [List.getElem_toArray, List.getElem_cons_succ, List.getElem_cons_zero, Act.put, List.setIfInBounds_toArray, List.set_cons_zero, List.set_cons_succ]); go_simp; (try (with_reducible rfl)))
              clear hSh; intro hSh
              try simp only [List.getElem_toArray, List.getElem_cons_succ, List.getElem_cons_zero, Act.put, List.setIfInBounds_toArray, List.set_cons_zero, List.set_cons_succ]
              refine wpAnyT_ready (rs := [9]) (by kernel_rfl) (by simp) ?_
              refine AllReadyT.cons (o := _) (fun w' => Oy cf w w' g' R q) (fun _ => cond_at (by kernel_rfl)) (by kernel_rfl) hSh rfl (fun K hK => ?_) AllReadyT.nil
              try simp only [List.getElem_toArray, List.getElem_cons_succ, List.getElem_cons_zero, Act.put, List.setIfInBounds_toArray, List.set_cons_zero, List.set_cons_succ]
              go_simp
              refine HDo.out.mono ?_
              rintro e y1 ⟨rfl, hbo, hmv⟩
              have h1 : Oy cf w y1 g' R q := HU.out.step hbo hmv HVq.out
              clear hbo hmv HDo
              clear hSh
              refine hK.out _ _ h1 (fun _ hSh => ?_)
              clear hK K
              try simp only [List.getElem_toArray, List.getElem_cons_succ, List.getElem_cons_zero, Act.put, List.setIfInBounds_toArray, List.set_cons_zero, List.set_cons_succ]
              refine wpAnyT_take (i := 10) (n := 80) (v := ?vv10_50) (fun w' => Oy cf w w' g' R q) rfl (by kernel_rfl) (by kernel_rfl) (by kernel_rfl) (fun _ _ _ h => h) ⟨by decide, .inl ⟨by kernel_rfl, rfl⟩⟩ hSh (Or.inl ⟨by rfl, ?yy10_50⟩) (by assumption) ?rr10_50
              case yy10_50 => (intro w hSw; (skip); (try simp only [List.getElem_toArray, List.getElem_cons_succ, List.getElem_cons_zero, Act.put, List.setIfInBounds_toArray, List.set_cons_zero, List.set_cons_succ]); go_simp; (try (with_reducible rfl)))
              clear hSh; intro hSh
              try simp only [List.getElem_toArray, List.getElem_cons_succ, List.getElem_cons_zero, Act.put, List.setIfInBounds_toArray, List.set_cons_zero, List.set_cons_succ]
              refine wpAnyT_take (i := 11) (n := 80) (v := ?vv11_51) (fun w' => Oy cf w w' g' R q) rfl (by kernel_rfl) (by kernel_rfl) (by kernel_rfl) (fun _ _ _ h => h) ⟨by decide, .inl ⟨by kernel_rfl, rfl⟩⟩ hSh (Or.inl ⟨by rfl, ?yy11_51⟩) (by assumption) ?rr11_51
              case yy11_51 => (intro w hSw; (skip); (try simp only [List.getElem_toArray, List.getElem_cons_succ, List.getElem_cons_zero, Act.put, List.setIfInBounds_toArray, List.set_cons_zero, List.set_cons_succ]); go_simp; (try (with_reducible rfl)))
              clear hSh; intro hSh
              try simp only [List.getElem_toArray, List.getElem_cons_succ, List.getElem_cons_zero, Act.put, List.setIfInBounds_toArray, List.set_cons_zero, List.set_cons_succ]
              refine wpAnyT_take (i := 12) (n := 80) (v := ?vv12_52) (fun w' => Oy cf w w' g' R q) rfl (by kernel_rfl) (by kernel_rfl) (by kernel_rfl) (fun _ _ _ h => h) ⟨by decide, .inl ⟨by kernel_rfl, rfl⟩⟩ hSh (Or.inl ⟨by rfl, ?yy12_52⟩) (by assumption) ?rr12_52
              case yy12_52 => (intro w hSw; (skip); (try simp only [List.getElem_toArray, List.getElem_cons_succ, List.getElem_cons_zero, Act.put, List.setIfInBounds_toArray, List.set_cons_zero, List.set_cons_succ]); go_simp; (try (with_reducible rfl)))
              clear hSh; intro hSh
              try simp only [List.getElem_toArray, List.getElem_cons_succ, List.getElem_cons_zero, Act.put, List.setIfInBounds_toArray, List.set_cons_zero, List.set_cons_succ]
              refine wpAnyT_take (i := 13) (n := 80) (v := ?vv13_53) (fun w' => Oy cf w w' g' R q) rfl (by kernel_rfl) (by kernel_rfl) (by kernel_rfl) (fun _ _ _ h => h) ⟨by decide, .inl ⟨by kernel_rfl, rfl⟩⟩ hSh (Or.inl ⟨by rfl, ?yy13_53⟩) (by assumption) ?rr13_53
              case yy13_53 => (intro w hSw; (skip); (try simp only [List.getElem_toArray, List.getElem_cons_succ, List.getElem_cons_zero, Act.put, List.setIfInBounds_toArray, List.set_cons_zero, List.set_cons_succ]); go_simp; (try (with_reducible rfl)))
              clear hSh; intro hSh
              try simp only [List.getElem_toArray, List.getElem_cons_succ, List.getElem_cons_zero, Act.put, List.setIfInBounds_toArray, List.set_cons_zero, List.set_cons_succ]
              refine wpAnyT_take (i := 15) (n := 80) (v := ?vv15_54) (fun w' => Oy cf w w' g' R q) rfl (by kernel_rfl) (by kernel_rfl) (by kernel_rfl) (fun _ _ _ h => h) ⟨by decide, .inl ⟨by kernel_rfl, rfl⟩⟩ hSh (Or.inl ⟨by rfl, ?yy15_54⟩) (by assumption) ?rr15_54
              case yy15_54 => (intro w hSw; (skip); (try simp only [List.getElem_toArray, List.getElem_cons_succ, List.getElem_cons_zero, Act.put, List.setIfInBounds_toArray, List.set_cons_zero, List.set_cons_succ]); go_simp; (try (with_reducible rfl)))
              clear hSh; intro hSh
              try simp only [List.getElem_toArray, List.getElem_cons_succ, List.getElem_cons_zero, Act.put, List.setIfInBounds_toArray, List.set_cons_zero, List.set_cons_succ]
              have HR1 := Lib.hid (fun W (h : Oy cf w W g' R q) => request_any g' q W h.b.1 h.v.m)
              have HR2 := Lib.hid (fun W (h : Oy cf w W g' R q) => rrequest_any R q W h.b.2.1)
              obtain ⟨z, hz⟩ : ∃ z, (req q).length = z := ⟨_, rfl⟩
              have hzp : (put q.w).length = z := hz
              have HZ := Lib.hid hz
              have hzs : z ≤ 3 := by rw [← hz]; exact req_small q
              have HPq : Hid (put q.w = req q) := rfl
              have HW1 := Lib.hid (fun W (h : Oy cf w W g' R q) => wish_any g' q W h.b.1)
              have HW2 := Lib.hid (fun W (h : Oy cf w W g' R q) => mine_any g' q W h.b.1)
              have HW3 := Lib.hid (fun W (h : Oy cf w W g' R q) => peer_any g' q W h.b.1)
              clear hz
              refine wpAnyT_ready (rs := [14]) (by kernel_rfl) (by simp) ?_
              refine AllReadyT.cons (o := _) (fun w' => Oy cf w w' g' R q) (fun _ => cond_at (by kernel_rfl)) (by kernel_rfl) hSh rfl (fun K hK => ?_) AllReadyT.nil
              try simp only [List.getElem_toArray, List.getElem_cons_succ, List.getElem_cons_zero, Act.put, List.setIfInBounds_toArray, List.set_cons_zero, List.set_cons_succ]
              go_simp
              refine (HR1.out _ h1).mono ?_
              rintro e y2 ⟨A1, cA1, rfl, ho, _, hb⟩
              rw [HZ.out] at ho
              (try rw [HPq.out])
              (try rw [HZ.out])
              have h2 : Oy cf w y2 g' R q := h1.callee hb
              have HOA1 := Lib.hid ho
              have HBA1 := Lib.hid hb
              clear ho hb
              clear hSh
              refine hK.out _ _ h2 (fun _ hSh => ?_)
              clear hK K
              try simp only [List.getElem_toArray, List.getElem_cons_succ, List.getElem_cons_zero, Act.put, List.setIfInBounds_toArray, List.set_cons_zero, List.set_cons_succ]
              refine wpAnyT_ready (rs := [16]) (by kernel_rfl) (by simp) ?_
              refine AllReadyT.cons (o := _) (fun w' => Oy cf w w' g' R q) (fun _ => cond_at (by kernel_rfl)) (by kernel_rfl) hSh rfl (fun K hK => ?_) AllReadyT.nil
              try simp only [List.getElem_toArray, List.getElem_cons_succ, List.getElem_cons_zero, Act.put, List.setIfInBounds_toArray, List.set_cons_zero, List.set_cons_succ]
              go_simp
              refine (HR2.out _ h2).mono ?_
              rintro e y3 ⟨A2, cA2, rfl, ho, hb⟩
              rw [HPq.out] at ho
              rw [HZ.out] at ho
              (try rw [HPq.out])
              (try rw [HZ.out])
              have h3 : Oy cf w y3 g' R q := h2.callee hb
              have HOA2 := Lib.hid ho
              have HBA2 := Lib.hid hb
              clear ho hb
              clear hSh
              refine hK.out _ _ h3 (fun _ hSh => ?_)
              clear hK K
              try simp only [List.getElem_toArray, List.getElem_cons_succ, List.getElem_cons_zero, Act.put, List.setIfInBounds_toArray, List.set_cons_zero, List.set_cons_succ]
              have HOx := Lib.hid (HOA1.out.next HBA2.out)
              have HSa : Hid (Calls Try.prog 21 #[.slice A1 z cA1, .slice A2 z cA2] y3 fun e w' => e = .returned (.bool true) ∧ Below y3.heap.size y3 w') := by
                have h := rsame_any (req q) (req q) y3.heap.size A1 A2 z z cA1 cA2 y3 HOx.out HOA2.out (by unfold maxLen; omega) (by unfold maxLen; omega) (Nat.le_refl _)
                first | rw [Go.Proofs.Ythoangihndplkaa.Opt.sm_self] at h | rw [Go.Proofs.Ythoangihndplkaa.Ipp.sm_self] at h
                exact h
              refine wpAnyT_ready (rs := [17]) (by kernel_rfl) (by simp) ?_
              refine AllReadyT.cons (o := _) (fun w' => Oy cf w w' g' R q) (fun _ => cond_at (by kernel_rfl)) (by kernel_rfl) hSh rfl (fun K hK => ?_) AllReadyT.nil
              try simp only [List.getElem_toArray, List.getElem_cons_succ, List.getElem_cons_zero, Act.put, List.setIfInBounds_toArray, List.set_cons_zero, List.set_cons_succ]
              go_simp
              refine HSa.out.mono ?_
              rintro e y4 ⟨rfl, hb⟩
              have h4 : Oy cf w y4 g' R q := h3.callee hb
              clear hb HSa HOx HOA1 HOA2 HBA1 HBA2
              clear hSh
              refine hK.out _ _ h4 (fun _ hSh => ?_)
              clear hK K
              try simp only [List.getElem_toArray, List.getElem_cons_succ, List.getElem_cons_zero, Act.put, List.setIfInBounds_toArray, List.set_cons_zero, List.set_cons_succ]
              refine wpAnyT_take (i := 18) (n := 80) (v := ?vv18_55) (fun w' => Oy cf w w' g' R q) rfl (by kernel_rfl) (by kernel_rfl) (by kernel_rfl) (fun _ _ _ h => h) ⟨by decide, .inl ⟨by kernel_rfl, rfl⟩⟩ hSh (Or.inl ⟨by rfl, ?yy18_55⟩) (by assumption) ?rr18_55
              case yy18_55 => (intro w hSw; (skip); (try simp only [List.getElem_toArray, List.getElem_cons_succ, List.getElem_cons_zero, Act.put, List.setIfInBounds_toArray, List.set_cons_zero, List.set_cons_succ]); go_simp; (try (with_reducible rfl)))
              clear hSh; intro hSh
              try simp only [List.getElem_toArray, List.getElem_cons_succ, List.getElem_cons_zero, Act.put, List.setIfInBounds_toArray, List.set_cons_zero, List.set_cons_succ]
              refine wpAnyT_take (i := 19) (n := 80) (v := ?vv19_56) (fun w' => Oy cf w w' g' R q) rfl (by kernel_rfl) (by kernel_rfl) (by kernel_rfl) (fun _ _ _ h => h) ⟨by decide, .inl ⟨by kernel_rfl, rfl⟩⟩ hSh (Or.inl ⟨by rfl, ?yy19_56⟩) (by assumption) ?rr19_56
              case yy19_56 => (intro w hSw; (skip); (try simp only [List.getElem_toArray, List.getElem_cons_succ, List.getElem_cons_zero, Act.put, List.setIfInBounds_toArray, List.set_cons_zero, List.set_cons_succ]); go_simp; (try (with_reducible rfl)))
              clear hSh; intro hSh
              try simp only [List.getElem_toArray, List.getElem_cons_succ, List.getElem_cons_zero, Act.put, List.setIfInBounds_toArray, List.set_cons_zero, List.set_cons_succ]
              refine wpAnyT_take (i := 20) (n := 80) (v := ?vv20_57) (fun w' => Oy cf w w' g' R q) rfl (by kernel_rfl) (by kernel_rfl) (by kernel_rfl) (fun _ _ _ h => h) ⟨by decide, .inl ⟨by kernel_rfl, rfl⟩⟩ hSh (Or.inl ⟨by rfl, ?yy20_57⟩) (by assumption) ?rr20_57
              case yy20_57 => (intro w hSw; (skip); (try simp only [List.getElem_toArray, List.getElem_cons_succ, List.getElem_cons_zero, Act.put, List.setIfInBounds_toArray, List.set_cons_zero, List.set_cons_succ]); go_simp; (try (with_reducible rfl)))
              clear hSh; intro hSh
              try simp only [List.getElem_toArray, List.getElem_cons_succ, List.getElem_cons_zero, Act.put, List.setIfInBounds_toArray, List.set_cons_zero, List.set_cons_succ]
              refine wpAnyT_take (i := 21) (n := 80) (v := ?vv21_58) (fun w' => Oy cf w w' g' R q) rfl (by kernel_rfl) (by kernel_rfl) (by kernel_rfl) (fun _ _ _ h => h) ⟨by decide, .inl ⟨by kernel_rfl, rfl⟩⟩ hSh (Or.inl ⟨by rfl, ?yy21_58⟩) (by assumption) ?rr21_58
              case yy21_58 => (intro w hSw; (skip); (try simp only [List.getElem_toArray, List.getElem_cons_succ, List.getElem_cons_zero, Act.put, List.setIfInBounds_toArray, List.set_cons_zero, List.set_cons_succ]); go_simp; (try (with_reducible rfl)))
              clear hSh; intro hSh
              try simp only [List.getElem_toArray, List.getElem_cons_succ, List.getElem_cons_zero, Act.put, List.setIfInBounds_toArray, List.set_cons_zero, List.set_cons_succ]
              refine wpAnyT_take (i := 23) (n := 80) (v := ?vv23_59) (fun w' => Oy cf w w' g' R q) rfl (by kernel_rfl) (by kernel_rfl) (by kernel_rfl) (fun _ _ _ h => h) ⟨by decide, .inl ⟨by kernel_rfl, rfl⟩⟩ hSh (Or.inl ⟨by rfl, ?yy23_59⟩) (by assumption) ?rr23_59
              case yy23_59 => (intro w hSw; (skip); (try simp only [List.getElem_toArray, List.getElem_cons_succ, List.getElem_cons_zero, Act.put, List.setIfInBounds_toArray, List.set_cons_zero, List.set_cons_succ]); go_simp; (try (with_reducible rfl)))
              clear hSh; intro hSh
              try simp only [List.getElem_toArray, List.getElem_cons_succ, List.getElem_cons_zero, Act.put, List.setIfInBounds_toArray, List.set_cons_zero, List.set_cons_succ]
              refine wpAnyT_take (i := 24) (n := 80) (v := ?vv24_60) (fun w' => Oy cf w w' g' R q) rfl (by kernel_rfl) (by kernel_rfl) (by kernel_rfl) (fun _ _ _ h => h) ⟨by decide, .inl ⟨by kernel_rfl, rfl⟩⟩ hSh (Or.inl ⟨by rfl, ?yy24_60⟩) (by assumption) ?rr24_60
              case yy24_60 => (intro w hSw; (skip); (try simp only [List.getElem_toArray, List.getElem_cons_succ, List.getElem_cons_zero, Act.put, List.setIfInBounds_toArray, List.set_cons_zero, List.set_cons_succ]); go_simp; (try (with_reducible rfl)))
              clear hSh; intro hSh
              try simp only [List.getElem_toArray, List.getElem_cons_succ, List.getElem_cons_zero, Act.put, List.setIfInBounds_toArray, List.set_cons_zero, List.set_cons_succ]
              refine wpAnyT_take (i := 25) (n := 80) (v := ?vv25_61) (fun w' => Oy cf w w' g' R q) rfl (by kernel_rfl) (by kernel_rfl) (by kernel_rfl) (fun _ _ _ h => h) ⟨by decide, .inl ⟨by kernel_rfl, rfl⟩⟩ hSh (Or.inl ⟨by rfl, ?yy25_61⟩) (by assumption) ?rr25_61
              case yy25_61 => (intro w hSw; (skip); (try simp only [List.getElem_toArray, List.getElem_cons_succ, List.getElem_cons_zero, Act.put, List.setIfInBounds_toArray, List.set_cons_zero, List.set_cons_succ]); go_simp; (try (with_reducible rfl)))
              clear hSh; intro hSh
              try simp only [List.getElem_toArray, List.getElem_cons_succ, List.getElem_cons_zero, Act.put, List.setIfInBounds_toArray, List.set_cons_zero, List.set_cons_succ]
              refine wpAnyT_take (i := 26) (n := 80) (v := ?vv26_62) (fun w' => Oy cf w w' g' R q) rfl (by kernel_rfl) (by kernel_rfl) (by kernel_rfl) (fun _ _ _ h => h) ⟨by decide, .inl ⟨by kernel_rfl, rfl⟩⟩ hSh (Or.inl ⟨by rfl, ?yy26_62⟩) (by assumption) ?rr26_62
              case yy26_62 => (intro w hSw; (have hx0 : w.cell? ⟨R, 6, none⟩ = some (Value.bool q.w.ha) := hSw.b.2.1.c 6; have hx1 : w.cell? ⟨R, 7, none⟩ = some (.int .u32 q.w.addr.toNat) := hSw.b.2.1.c 7; have hx2 : w.cell? ⟨R, 8, none⟩ = some (.bool q.w.h1) := hSw.b.2.1.c 8; have hx3 : w.cell? ⟨R, 9, none⟩ = some (.int .u32 q.w.dns1.toNat) := hSw.b.2.1.c 9; have hx4 : w.cell? ⟨R, 10, none⟩ = some (.bool q.w.h2) := hSw.b.2.1.c 10; have hx5 : w.cell? ⟨R, 11, none⟩ = some (.int .u32 q.w.dns2.toNat) := hSw.b.2.1.c 11); (try simp only [List.getElem_toArray, List.getElem_cons_succ, List.getElem_cons_zero, Act.put, List.setIfInBounds_toArray, List.set_cons_zero, List.set_cons_succ]); go_simp; (try (with_reducible rfl)))
              clear hSh; intro hSh
              try simp only [List.getElem_toArray, List.getElem_cons_succ, List.getElem_cons_zero, Act.put, List.setIfInBounds_toArray, List.set_cons_zero, List.set_cons_succ]
              refine wpAnyT_ready (rs := [22]) (by kernel_rfl) (by simp) ?_
              refine AllReadyT.cons (o := _) (fun w' => Oy cf w w' g' R q) (fun _ => cond_at (by kernel_rfl)) (by kernel_rfl) hSh rfl (fun K hK => ?_) AllReadyT.nil
              try simp only [List.getElem_toArray, List.getElem_cons_succ, List.getElem_cons_zero, Act.put, List.setIfInBounds_toArray, List.set_cons_zero, List.set_cons_succ]
              go_simp
              refine (HW1.out _ h4).mono ?_
              rintro e y5 ⟨he, hb⟩
              replace he : e = .returned (.agg #[Value.bool q.w.ha, .int .u32 q.w.addr.toNat, .bool q.w.h1, .int .u32 q.w.dns1.toNat, .bool q.w.h2, .int .u32 q.w.dns2.toNat]) := he
              subst he
              have h5 : Oy cf w y5 g' R q := h4.callee hb
              clear hb
              clear hSh
              refine hK.out _ _ h5 (fun _ hSh => ?_)
              clear hK K
              try simp only [List.getElem_toArray, List.getElem_cons_succ, List.getElem_cons_zero, Act.put, List.setIfInBounds_toArray, List.set_cons_zero, List.set_cons_succ]
              have hneq4 := fun W => ipc_neq (x := q.w) (y := q.w) (r := true) (decide_eq_true rfl) W
              simp only [Bool.not_true] at hneq4
              refine wpAnyT_take (i := 27) (n := 80) (v := ?vv27_63) (fun w' => Oy cf w w' g' R q) rfl (by kernel_rfl) (by kernel_rfl) (by kernel_rfl) (fun _ _ _ h => h) ⟨by decide, .inl ⟨by kernel_rfl, rfl⟩⟩ hSh (Or.inl ⟨by rfl, ?yy27_63⟩) (by assumption) ?rr27_63
              case yy27_63 => (intro w hSw; (skip); (try simp only [List.getElem_toArray, List.getElem_cons_succ, List.getElem_cons_zero, Act.put, List.setIfInBounds_toArray, List.set_cons_zero, List.set_cons_succ]); go_simp; (try (with_reducible rfl)))
              clear hSh; intro hSh
              try simp only [List.getElem_toArray, List.getElem_cons_succ, List.getElem_cons_zero, Act.put, List.setIfInBounds_toArray, List.set_cons_zero, List.set_cons_succ]
              refine wpAnyT_take (i := 28) (n := 80) (v := ?vv28_64) (fun w' => Oy cf w w' g' R q) rfl (by kernel_rfl) (by kernel_rfl) (by kernel_rfl) (fun _ _ _ h => h) ⟨by decide, .inl ⟨by kernel_rfl, rfl⟩⟩ hSh (Or.inl ⟨by rfl, ?yy28_64⟩) (by assumption) ?rr28_64
              case yy28_64 => (intro w hSw; (skip); (try simp only [List.getElem_toArray, List.getElem_cons_succ, List.getElem_cons_zero, Act.put, List.setIfInBounds_toArray, List.set_cons_zero, List.set_cons_succ]); go_simp; (try (with_reducible rfl)))
              clear hSh; intro hSh
              try simp only [List.getElem_toArray, List.getElem_cons_succ, List.getElem_cons_zero, Act.put, List.setIfInBounds_toArray, List.set_cons_zero, List.set_cons_succ]
              refine wpAnyT_take (i := 29) (n := 80) (v := ?vv29_65) (fun w' => Oy cf w w' g' R q) rfl (by kernel_rfl) (by kernel_rfl) (by kernel_rfl) (fun _ _ _ h => h) ⟨by decide, .inl ⟨by kernel_rfl, rfl⟩⟩ hSh (Or.inl ⟨by rfl, ?yy29_65⟩) (by assumption) ?rr29_65
              case yy29_65 => (intro w hSw; (skip); (try simp only [List.getElem_toArray, List.getElem_cons_succ, List.getElem_cons_zero, Act.put, List.setIfInBounds_toArray, List.set_cons_zero, List.set_cons_succ]); go_simp; (try (with_reducible rfl)))
              clear hSh; intro hSh
              try simp only [List.getElem_toArray, List.getElem_cons_succ, List.getElem_cons_zero, Act.put, List.setIfInBounds_toArray, List.set_cons_zero, List.set_cons_succ]
              refine wpAnyT_take (i := 30) (n := 80) (v := ?vv30_66) (fun w' => Oy cf w w' g' R q) rfl (by kernel_rfl) (by kernel_rfl) (by kernel_rfl) (fun _ _ _ h => h) ⟨by decide, .inl ⟨by kernel_rfl, rfl⟩⟩ hSh (Or.inl ⟨by rfl, ?yy30_66⟩) (by assumption) ?rr30_66
              case yy30_66 => (intro w hSw; (skip); (try simp only [List.getElem_toArray, List.getElem_cons_succ, List.getElem_cons_zero, Act.put, List.setIfInBounds_toArray, List.set_cons_zero, List.set_cons_succ]); go_simp; (try (with_reducible rfl)))
              clear hSh; intro hSh
              try simp only [List.getElem_toArray, List.getElem_cons_succ, List.getElem_cons_zero, Act.put, List.setIfInBounds_toArray, List.set_cons_zero, List.set_cons_succ]
              refine wpAnyT_take (i := 32) (n := 80) (v := ?vv32_67) (fun w' => Oy cf w w' g' R q) rfl (by kernel_rfl) (by kernel_rfl) (by kernel_rfl) (fun _ _ _ h => h) ⟨by decide, .inl ⟨by kernel_rfl, rfl⟩⟩ hSh (Or.inl ⟨by rfl, ?yy32_67⟩) (by assumption) ?rr32_67
              case yy32_67 => (intro w hSw; (skip); (try simp only [List.getElem_toArray, List.getElem_cons_succ, List.getElem_cons_zero, Act.put, List.setIfInBounds_toArray, List.set_cons_zero, List.set_cons_succ]); go_simp; (try (with_reducible rfl)))
              clear hSh; intro hSh
              try simp only [List.getElem_toArray, List.getElem_cons_succ, List.getElem_cons_zero, Act.put, List.setIfInBounds_toArray, List.set_cons_zero, List.set_cons_succ]
              refine wpAnyT_take (i := 33) (n := 80) (v := ?vv33_68) (fun w' => Oy cf w w' g' R q) rfl (by kernel_rfl) (by kernel_rfl) (by kernel_rfl) (fun _ _ _ h => h) ⟨by decide, .inl ⟨by kernel_rfl, rfl⟩⟩ hSh (Or.inl ⟨by rfl, ?yy33_68⟩) (by assumption) ?rr33_68
              case yy33_68 => (intro w hSw; (skip); (try simp only [List.getElem_toArray, List.getElem_cons_succ, List.getElem_cons_zero, Act.put, List.setIfInBounds_toArray, List.set_cons_zero, List.set_cons_succ]); go_simp; (try (with_reducible rfl)))
              clear hSh; intro hSh
              try simp only [List.getElem_toArray, List.getElem_cons_succ, List.getElem_cons_zero, Act.put, List.setIfInBounds_toArray, List.set_cons_zero, List.set_cons_succ]
              refine wpAnyT_take (i := 34) (n := 80) (v := ?vv34_69) (fun w' => Oy cf w w' g' R q) rfl (by kernel_rfl) (by kernel_rfl) (by kernel_rfl) (fun _ _ _ h => h) ⟨by decide, .inl ⟨by kernel_rfl, rfl⟩⟩ hSh (Or.inl ⟨by rfl, ?yy34_69⟩) (by assumption) ?rr34_69
              case yy34_69 => (intro w hSw; (skip); (try simp only [List.getElem_toArray, List.getElem_cons_succ, List.getElem_cons_zero, Act.put, List.setIfInBounds_toArray, List.set_cons_zero, List.set_cons_succ]); go_simp; (try (with_reducible rfl)))
              clear hSh; intro hSh
              try simp only [List.getElem_toArray, List.getElem_cons_succ, List.getElem_cons_zero, Act.put, List.setIfInBounds_toArray, List.set_cons_zero, List.set_cons_succ]
              refine wpAnyT_take (i := 35) (n := 80) (v := ?vv35_70) (fun w' => Oy cf w w' g' R q) rfl (by kernel_rfl) (by kernel_rfl) (by kernel_rfl) (fun _ _ _ h => h) ⟨by decide, .inl ⟨by kernel_rfl, rfl⟩⟩ hSh (Or.inl ⟨by rfl, ?yy35_70⟩) (by assumption) ?rr35_70
              case yy35_70 => (intro w hSw; (have hx0 : w.cell? ⟨R, 12, none⟩ = some (Value.bool q.mine.ha) := hSw.b.2.1.c 12; have hx1 : w.cell? ⟨R, 13, none⟩ = some (.int .u32 q.mine.addr.toNat) := hSw.b.2.1.c 13; have hx2 : w.cell? ⟨R, 14, none⟩ = some (.bool q.mine.h1) := hSw.b.2.1.c 14; have hx3 : w.cell? ⟨R, 15, none⟩ = some (.int .u32 q.mine.dns1.toNat) := hSw.b.2.1.c 15; have hx4 : w.cell? ⟨R, 16, none⟩ = some (.bool q.mine.h2) := hSw.b.2.1.c 16; have hx5 : w.cell? ⟨R, 17, none⟩ = some (.int .u32 q.mine.dns2.toNat) := hSw.b.2.1.c 17); (try simp only [List.getElem_toArray, List.getElem_cons_succ, List.getElem_cons_zero, Act.put, List.setIfInBounds_toArray, List.set_cons_zero, List.set_cons_succ]); go_simp; (try (with_reducible rfl)))
              clear hSh; intro hSh
              try simp only [List.getElem_toArray, List.getElem_cons_succ, List.getElem_cons_zero, Act.put, List.setIfInBounds_toArray, List.set_cons_zero, List.set_cons_succ]
              refine wpAnyT_ready (rs := [31]) (by kernel_rfl) (by simp) ?_
              refine AllReadyT.cons (o := _) (fun w' => Oy cf w w' g' R q) (fun _ => cond_at (by kernel_rfl)) (by kernel_rfl) hSh rfl (fun K hK => ?_) AllReadyT.nil
              try simp only [List.getElem_toArray, List.getElem_cons_succ, List.getElem_cons_zero, Act.put, List.setIfInBounds_toArray, List.set_cons_zero, List.set_cons_succ]
              go_simp
              refine (HW2.out _ h5).mono ?_
              rintro e y6 ⟨he, hb⟩
              replace he : e = .returned (.agg #[Value.bool q.mine.ha, .int .u32 q.mine.addr.toNat, .bool q.mine.h1, .int .u32 q.mine.dns1.toNat, .bool q.mine.h2, .int .u32 q.mine.dns2.toNat]) := he
              subst he
              have h6 : Oy cf w y6 g' R q := h5.callee hb
              clear hb
              clear hSh
              refine hK.out _ _ h6 (fun _ hSh => ?_)
              clear hK K
              try simp only [List.getElem_toArray, List.getElem_cons_succ, List.getElem_cons_zero, Act.put, List.setIfInBounds_toArray, List.set_cons_zero, List.set_cons_succ]
              have hneq5 := fun W => ipc_neq (x := q.mine) (y := q.mine) (r := true) (decide_eq_true rfl) W
              simp only [Bool.not_true] at hneq5
              refine wpAnyT_take (i := 36) (n := 80) (v := ?vv36_71) (fun w' => Oy cf w w' g' R q) rfl (by kernel_rfl) (by kernel_rfl) (by kernel_rfl) (fun _ _ _ h => h) ⟨by decide, .inl ⟨by kernel_rfl, rfl⟩⟩ hSh (Or.inl ⟨by rfl, ?yy36_71⟩) (by assumption) ?rr36_71
              case yy36_71 => (intro w hSw; (skip); (try simp only [List.getElem_toArray, List.getElem_cons_succ, List.getElem_cons_zero, Act.put, List.setIfInBounds_toArray, List.set_cons_zero, List.set_cons_succ]); go_simp; (try (with_reducible rfl)))
              clear hSh; intro hSh
              try simp only [List.getElem_toArray, List.getElem_cons_succ, List.getElem_cons_zero, Act.put, List.setIfInBounds_toArray, List.set_cons_zero, List.set_cons_succ]
              refine wpAnyT_take (i := 37) (n := 80) (v := ?vv37_72) (fun w' => Oy cf w w' g' R q) rfl (by kernel_rfl) (by kernel_rfl) (by kernel_rfl) (fun _ _ _ h => h) ⟨by decide, .inl ⟨by kernel_rfl, rfl⟩⟩ hSh (Or.inl ⟨by rfl, ?yy37_72⟩) (by assumption) ?rr37_72
              case yy37_72 => (intro w hSw; (skip); (try simp only [List.getElem_toArray, List.getElem_cons_succ, List.getElem_cons_zero, Act.put, List.setIfInBounds_toArray, List.set_cons_zero, List.set_cons_succ]); go_simp; (try (with_reducible rfl)))
              clear hSh; intro hSh
              try simp only [List.getElem_toArray, List.getElem_cons_succ, List.getElem_cons_zero, Act.put, List.setIfInBounds_toArray, List.set_cons_zero, List.set_cons_succ]
              refine wpAnyT_take (i := 38) (n := 80) (v := ?vv38_73) (fun w' => Oy cf w w' g' R q) rfl (by kernel_rfl) (by kernel_rfl) (by kernel_rfl) (fun _ _ _ h => h) ⟨by decide, .inl ⟨by kernel_rfl, rfl⟩⟩ hSh (Or.inl ⟨by rfl, ?yy38_73⟩) (by assumption) ?rr38_73
              case yy38_73 => (intro w hSw; (skip); (try simp only [List.getElem_toArray, List.getElem_cons_succ, List.getElem_cons_zero, Act.put, List.setIfInBounds_toArray, List.set_cons_zero, List.set_cons_succ]); go_simp; (try (with_reducible rfl)))
              clear hSh; intro hSh
              try simp only [List.getElem_toArray, List.getElem_cons_succ, List.getElem_cons_zero, Act.put, List.setIfInBounds_toArray, List.set_cons_zero, List.set_cons_succ]
              refine wpAnyT_take (i := 39) (n := 80) (v := ?vv39_74) (fun w' => Oy cf w w' g' R q) rfl (by kernel_rfl) (by kernel_rfl) (by kernel_rfl) (fun _ _ _ h => h) ⟨by decide, .inl ⟨by kernel_rfl, rfl⟩⟩ hSh (Or.inl ⟨by rfl, ?yy39_74⟩) (by assumption) ?rr39_74
              case yy39_74 => (intro w hSw; (skip); (try simp only [List.getElem_toArray, List.getElem_cons_succ, List.getElem_cons_zero, Act.put, List.setIfInBounds_toArray, List.set_cons_zero, List.set_cons_succ]); go_simp; (try (with_reducible rfl)))
              clear hSh; intro hSh
              try simp only [List.getElem_toArray, List.getElem_cons_succ, List.getElem_cons_zero, Act.put, List.setIfInBounds_toArray, List.set_cons_zero, List.set_cons_succ]
              refine wpAnyT_take (i := 41) (n := 80) (v := ?vv41_75) (fun w' => Oy cf w w' g' R q) rfl (by kernel_rfl) (by kernel_rfl) (by kernel_rfl) (fun _ _ _ h => h) ⟨by decide, .inl ⟨by kernel_rfl, rfl⟩⟩ hSh (Or.inl ⟨by rfl, ?yy41_75⟩) (by assumption) ?rr41_75
              case yy41_75 => (intro w hSw; (skip); (try simp only [List.getElem_toArray, List.getElem_cons_succ, List.getElem_cons_zero, Act.put, List.setIfInBounds_toArray, List.set_cons_zero, List.set_cons_succ]); go_simp; (try (with_reducible rfl)))
              clear hSh; intro hSh
              try simp only [List.getElem_toArray, List.getElem_cons_succ, List.getElem_cons_zero, Act.put, List.setIfInBounds_toArray, List.set_cons_zero, List.set_cons_succ]
              refine wpAnyT_take (i := 42) (n := 80) (v := ?vv42_76) (fun w' => Oy cf w w' g' R q) rfl (by kernel_rfl) (by kernel_rfl) (by kernel_rfl) (fun _ _ _ h => h) ⟨by decide, .inl ⟨by kernel_rfl, rfl⟩⟩ hSh (Or.inl ⟨by rfl, ?yy42_76⟩) (by assumption) ?rr42_76
              case yy42_76 => (intro w hSw; (skip); (try simp only [List.getElem_toArray, List.getElem_cons_succ, List.getElem_cons_zero, Act.put, List.setIfInBounds_toArray, List.set_cons_zero, List.set_cons_succ]); go_simp; (try (with_reducible rfl)))
              clear hSh; intro hSh
              try simp only [List.getElem_toArray, List.getElem_cons_succ, List.getElem_cons_zero, Act.put, List.setIfInBounds_toArray, List.set_cons_zero, List.set_cons_succ]
              refine wpAnyT_take (i := 43) (n := 80) (v := ?vv43_77) (fun w' => Oy cf w w' g' R q) rfl (by kernel_rfl) (by kernel_rfl) (by kernel_rfl) (fun _ _ _ h => h) ⟨by decide, .inl ⟨by kernel_rfl, rfl⟩⟩ hSh (Or.inl ⟨by rfl, ?yy43_77⟩) (by assumption) ?rr43_77
              case yy43_77 => (intro w hSw; (skip); (try simp only [List.getElem_toArray, List.getElem_cons_succ, List.getElem_cons_zero, Act.put, List.setIfInBounds_toArray, List.set_cons_zero, List.set_cons_succ]); go_simp; (try (with_reducible rfl)))
              clear hSh; intro hSh
              try simp only [List.getElem_toArray, List.getElem_cons_succ, List.getElem_cons_zero, Act.put, List.setIfInBounds_toArray, List.set_cons_zero, List.set_cons_succ]
              refine wpAnyT_take (i := 44) (n := 80) (v := ?vv44_78) (fun w' => Oy cf w w' g' R q) rfl (by kernel_rfl) (by kernel_rfl) (by kernel_rfl) (fun _ _ _ h => h) ⟨by decide, .inl ⟨by kernel_rfl, rfl⟩⟩ hSh (Or.inl ⟨by rfl, ?yy44_78⟩) (by assumption) ?rr44_78
              case yy44_78 => (intro w hSw; (have hx0 : w.cell? ⟨R, 18, none⟩ = some (Value.bool q.peer.ha) := hSw.b.2.1.c 18; have hx1 : w.cell? ⟨R, 19, none⟩ = some (.int .u32 q.peer.addr.toNat) := hSw.b.2.1.c 19; have hx2 : w.cell? ⟨R, 20, none⟩ = some (.bool q.peer.h1) := hSw.b.2.1.c 20; have hx3 : w.cell? ⟨R, 21, none⟩ = some (.int .u32 q.peer.dns1.toNat) := hSw.b.2.1.c 21; have hx4 : w.cell? ⟨R, 22, none⟩ = some (.bool q.peer.h2) := hSw.b.2.1.c 22; have hx5 : w.cell? ⟨R, 23, none⟩ = some (.int .u32 q.peer.dns2.toNat) := hSw.b.2.1.c 23); (try simp only [List.getElem_toArray, List.getElem_cons_succ, List.getElem_cons_zero, Act.put, List.setIfInBounds_toArray, List.set_cons_zero, List.set_cons_succ]); go_simp; (try (with_reducible rfl)))
              clear hSh; intro hSh
              try simp only [List.getElem_toArray, List.getElem_cons_succ, List.getElem_cons_zero, Act.put, List.setIfInBounds_toArray, List.set_cons_zero, List.set_cons_succ]
              refine wpAnyT_ready (rs := [40]) (by kernel_rfl) (by simp) ?_
              refine AllReadyT.cons (o := _) (fun w' => Oy cf w w' g' R q) (fun _ => cond_at (by kernel_rfl)) (by kernel_rfl) hSh rfl (fun K hK => ?_) AllReadyT.nil
              try simp only [List.getElem_toArray, List.getElem_cons_succ, List.getElem_cons_zero, Act.put, List.setIfInBounds_toArray, List.set_cons_zero, List.set_cons_succ]
              go_simp
              refine (HW3.out _ h6).mono ?_
              rintro e y7 ⟨he, hb⟩
              replace he : e = .returned (.agg #[Value.bool q.peer.ha, .int .u32 q.peer.addr.toNat, .bool q.peer.h1, .int .u32 q.peer.dns1.toNat, .bool q.peer.h2, .int .u32 q.peer.dns2.toNat]) := he
              subst he
              have h7 : Oy cf w y7 g' R q := h6.callee hb
              clear hb
              clear hSh
              refine hK.out _ _ h7 (fun _ hSh => ?_)
              clear hK K
              try simp only [List.getElem_toArray, List.getElem_cons_succ, List.getElem_cons_zero, Act.put, List.setIfInBounds_toArray, List.set_cons_zero, List.set_cons_succ]
              have hneq6 := fun W => ipc_neq (x := q.peer) (y := q.peer) (r := true) (decide_eq_true rfl) W
              simp only [Bool.not_true] at hneq6
              refine wpAnyT_take (i := 45) (n := 80) (v := ?vv45_79) (fun w' => Oy cf w w' g' R q) rfl (by kernel_rfl) (by kernel_rfl) (by kernel_rfl) (fun _ _ _ h => h) ⟨by decide, .inl ⟨by kernel_rfl, rfl⟩⟩ hSh (Or.inl ⟨by rfl, ?yy45_79⟩) (by assumption) ?rr45_79
              case yy45_79 => (intro w hSw; (skip); (try simp only [List.getElem_toArray, List.getElem_cons_succ, List.getElem_cons_zero, Act.put, List.setIfInBounds_toArray, List.set_cons_zero, List.set_cons_succ]); go_simp; (try (with_reducible rfl)))
              clear hSh; intro hSh
              try simp only [List.getElem_toArray, List.getElem_cons_succ, List.getElem_cons_zero, Act.put, List.setIfInBounds_toArray, List.set_cons_zero, List.set_cons_succ]
              refine wpAnyT_take (i := 46) (n := 80) (v := ?vv46_80) (fun w' => Oy cf w w' g' R q) rfl (by kernel_rfl) (by kernel_rfl) (by kernel_rfl) (fun _ _ _ h => h) ⟨by decide, .inl ⟨by kernel_rfl, rfl⟩⟩ hSh (Or.inl ⟨by rfl, ?yy46_80⟩) (by assumption) ?rr46_80
              case yy46_80 => (intro w hSw; (skip); (try simp only [List.getElem_toArray, List.getElem_cons_succ, List.getElem_cons_zero, Act.put, List.setIfInBounds_toArray, List.set_cons_zero, List.set_cons_succ]); go_simp; (try (with_reducible rfl)))
              clear hSh; intro hSh
              try simp only [List.getElem_toArray, List.getElem_cons_succ, List.getElem_cons_zero, Act.put, List.setIfInBounds_toArray, List.set_cons_zero, List.set_cons_succ]
              refine wpAnyT_done (by kernel_rfl) ?_ _
              have HOz := Lib.hid h7
              clear h1 h2 h3 h4 h5 h6 h7 HR1 HR2 HW1 HW2 HW3
              go_wp2
              go_roundw
              case rel => exact ⟨k + 1, g', R, q, by omega, rfl, rfl, by go_num, HOz⟩
              case measure => simp [intOf]; omega
          · have q5 : (s.d == 5) = false := by rw [beq_eq_false_iff_ne]; exact h5
            as_aux_lemma =>
              go_upto_region 26 with (fail)
              clear h4 h5 s0 q4 q5
              have HU : Hid (Oy cf w wr.drew g R p) := HO.out.callee (Below.drewN' (Below.refl _ wr) 1)
              have hHeld : Sc (ad.add (k * 4)) s A' c' wr.drew := HA.out.below (Below.drewN' (Below.refl _ wr) 1) (World.block_lt_of_cell? _ _ HA.out.1)
              have HOp : Hid (Opts wr.drew w.heap.size A' s.l.length s.l) := HOpt.out.below (HU.out.hb)
              have HDo := Lib.hid (does_any g R cf p s w.heap.size A' c' _ HU.out.b.1 HU.out.b.2.1 HU.out.v HOp.out HU.out.hb.size Hs70.out Hsc.out HsA.out)
              have HVq := Lib.hid (iv_step HU.out.v s.d (stL p s))
              obtain ⟨q, hq⟩ : ∃ q, stP p s.d (stL p s) = q := ⟨_, rfl⟩
              rw [hq] at HDo HVq
              clear hq
              refine wp_region_t 9 (Sc (ad.add (k * 4)) s A' c') (fun w' => Oy cf w w' g R q) (by kernel_rfl) (fun hSh => ?_)
              refine wpAnyT_take (i := 0) (n := 80) (v := ?vv0_81) (Sc (ad.add (k * 4)) s A' c') rfl (by kernel_rfl) (by kernel_rfl) (by kernel_rfl) (fun _ _ _ h => h) ⟨by decide, .inr ⟨by kernel_rfl, by kernel_rfl, rfl⟩⟩ hSh (Or.inl ⟨by rfl, ?yy0_81⟩) (by assumption) ?rr0_81
              case yy0_81 => (intro w hSw; (skip); (try simp only [List.getElem_toArray, List.getElem_cons_succ, List.getElem_cons_zero, Act.put, List.setIfInBounds_toArray, List.set_cons_zero, List.set_cons_succ]); go_simp; (try (with_reducible rfl)))
              clear hSh; intro hSh
              try simp only [List.getElem_toArray, List.getElem_cons_succ, List.getElem_cons_zero, Act.put, List.setIfInBounds_toArray, List.set_cons_zero, List.set_cons_succ]
              refine wpAnyT_take (i := 1) (n := 80) (v := ?vv1_82) (Sc (ad.add (k * 4)) s A' c') rfl (by kernel_rfl) (by kernel_rfl) (by kernel_rfl) (fun _ _ _ h => h) ⟨by decide, .inr ⟨by kernel_rfl, by kernel_rfl, rfl⟩⟩ hSh (Or.inl ⟨by rfl, ?yy1_82⟩) (by assumption) ?rr1_82
              case yy1_82 => (intro w hSw; (skip); (try simp only [List.getElem_toArray, List.getElem_cons_succ, List.getElem_cons_zero, Act.put, List.setIfInBounds_toArray, List.set_cons_zero, List.set_cons_succ]); go_simp; (try (with_reducible rfl)))
              clear hSh; intro hSh
              try simp only [List.getElem_toArray, List.getElem_cons_succ, List.getElem_cons_zero, Act.put, List.setIfInBounds_toArray, List.set_cons_zero, List.set_cons_succ]
              refine wpAnyT_take (i := 2) (n := 80) (v := ?vv2_83) (Sc (ad.add (k * 4)) s A' c') rfl (by kernel_rfl) (by kernel_rfl) (by kernel_rfl) (fun _ _ _ h => h) ⟨by decide, .inr ⟨by kernel_rfl, by kernel_rfl, rfl⟩⟩ hSh (Or.inl ⟨by rfl, ?yy2_83⟩) (by assumption) ?rr2_83
              case yy2_83 => (intro w hSw; (skip); (try simp only [List.getElem_toArray, List.getElem_cons_succ, List.getElem_cons_zero, Act.put, List.setIfInBounds_toArray, List.set_cons_zero, List.set_cons_succ]); go_simp; (try (with_reducible rfl)))
              clear hSh; intro hSh
              try simp only [List.getElem_toArray, List.getElem_cons_succ, List.getElem_cons_zero, Act.put, List.setIfInBounds_toArray, List.set_cons_zero, List.set_cons_succ]
              refine wpAnyT_take (i := 3) (n := 80) (v := ?vv3_84) (Sc (ad.add (k * 4)) s A' c') rfl (by kernel_rfl) (by kernel_rfl) (by kernel_rfl) (fun _ _ _ h => h) ⟨by decide, .inr ⟨by kernel_rfl, by kernel_rfl, rfl⟩⟩ hSh (Or.inl ⟨by rfl, ?yy3_84⟩) (by assumption) ?rr3_84
              case yy3_84 => (intro w hSw; (skip); (try simp only [List.getElem_toArray, List.getElem_cons_succ, List.getElem_cons_zero, Act.put, List.setIfInBounds_toArray, List.set_cons_zero, List.set_cons_succ]); go_simp; (try (with_reducible rfl)))
              clear hSh; intro hSh
              try simp only [List.getElem_toArray, List.getElem_cons_succ, List.getElem_cons_zero, Act.put, List.setIfInBounds_toArray, List.set_cons_zero, List.set_cons_succ]
              refine wpAnyT_take (i := 4) (n := 80) (v := ?vv4_85) (Sc (ad.add (k * 4)) s A' c') rfl (by kernel_rfl) (by kernel_rfl) (by kernel_rfl) (fun _ _ _ h => h) ⟨by decide, .inr ⟨by kernel_rfl, by kernel_rfl, rfl⟩⟩ hSh (Or.inl ⟨by rfl, ?yy4_85⟩) (by assumption) ?rr4_85
              case yy4_85 => (intro w hSw; (skip); (try simp only [List.getElem_toArray, List.getElem_cons_succ, List.getElem_cons_zero, Act.put, List.setIfInBounds_toArray, List.set_cons_zero, List.set_cons_succ]); go_simp; (try (with_reducible rfl)))
              clear hSh; intro hSh
              try simp only [List.getElem_toArray, List.getElem_cons_succ, List.getElem_cons_zero, Act.put, List.setIfInBounds_toArray, List.set_cons_zero, List.set_cons_succ]
              refine wpAnyT_take (i := 5) (n := 80) (v := ?vv5_86) (Sc (ad.add (k * 4)) s A' c') rfl (by kernel_rfl) (by kernel_rfl) (by kernel_rfl) (fun _ _ _ h => h) ⟨by decide, .inr ⟨by kernel_rfl, by kernel_rfl, rfl⟩⟩ hSh (Or.inl ⟨by rfl, ?yy5_86⟩) (by assumption) ?rr5_86
              case yy5_86 => (intro w hSw; (skip); (try simp only [List.getElem_toArray, List.getElem_cons_succ, List.getElem_cons_zero, Act.put, List.setIfInBounds_toArray, List.set_cons_zero, List.set_cons_succ]); go_simp; (try (with_reducible rfl)))
              clear hSh; intro hSh
              try simp only [List.getElem_toArray, List.getElem_cons_succ, List.getElem_cons_zero, Act.put, List.setIfInBounds_toArray, List.set_cons_zero, List.set_cons_succ]
              refine wpAnyT_take (i := 6) (n := 80) (v := ?vv6_87) (Sc (ad.add (k * 4)) s A' c') rfl (by kernel_rfl) (by kernel_rfl) (by kernel_rfl) (fun _ _ _ h => h) ⟨by decide, .inr ⟨by kernel_rfl, by kernel_rfl, rfl⟩⟩ hSh (Or.inl ⟨by rfl, ?yy6_87⟩) (by assumption) ?rr6_87
              case yy6_87 => (intro w hSw; (skip); (try simp only [List.getElem_toArray, List.getElem_cons_succ, List.getElem_cons_zero, Act.put, List.setIfInBounds_toArray, List.set_cons_zero, List.set_cons_succ]); go_simp; (try (with_reducible rfl)))
              clear hSh; intro hSh
              try simp only [List.getElem_toArray, List.getElem_cons_succ, List.getElem_cons_zero, Act.put, List.setIfInBounds_toArray, List.set_cons_zero, List.set_cons_succ]
              refine wpAnyT_take (i := 7) (n := 80) (v := ?vv7_88) (Sc (ad.add (k * 4)) s A' c') rfl (by kernel_rfl) (by kernel_rfl) (by kernel_rfl) (fun _ _ _ h => h) ⟨by decide, .inr ⟨by kernel_rfl, by kernel_rfl, rfl⟩⟩ hSh (Or.inl ⟨by rfl, ?yy7_88⟩) (by assumption) ?rr7_88
              case yy7_88 => (intro w hSw; (skip); (try simp only [List.getElem_toArray, List.getElem_cons_succ, List.getElem_cons_zero, Act.put, List.setIfInBounds_toArray, List.set_cons_zero, List.set_cons_succ]); go_simp; (try (with_reducible rfl)))
              clear hSh; intro hSh
              try simp only [List.getElem_toArray, List.getElem_cons_succ, List.getElem_cons_zero, Act.put, List.setIfInBounds_toArray, List.set_cons_zero, List.set_cons_succ]
              refine wpAnyT_take (i := 8) (n := 80) (v := ?vv8_89) (Sc (ad.add (k * 4)) s A' c') rfl (by kernel_rfl) (by kernel_rfl) (by kernel_rfl) (fun _ _ _ h => h) ⟨by decide, .inr ⟨by kernel_rfl, by kernel_rfl, rfl⟩⟩ hSh (Or.inl ⟨by rfl, ?yy8_89⟩) (by assumption) ?rr8_89
              case yy8_89 => (intro w hSw; (obtain ⟨hs0, hs1, hs2, hs3⟩ := hSw); (try simp only [List.getElem_toArray, List.getElem_cons_succ, List.getElem_cons_zero, Act.put, List.setIfInBounds_toArray, List.set_cons_zero, List.set_cons_succ]); go_simp; (try (with_reducible rfl)))
              clear hSh; intro hSh
              try simp only [List.getElem_toArray, List.getElem_cons_succ, List.getElem_cons_zero, Act.put, List.setIfInBounds_toArray, List.set_cons_zero, List.set_cons_succ]
              refine wpAnyT_ready (rs := [9]) (by kernel_rfl) (by simp) ?_
              refine AllReadyT.cons (o := _) (fun w' => Oy cf w w' g R q) (fun _ => cond_at (by kernel_rfl)) (by kernel_rfl) hSh rfl (fun K hK => ?_) AllReadyT.nil
              try simp only [List.getElem_toArray, List.getElem_cons_succ, List.getElem_cons_zero, Act.put, List.setIfInBounds_toArray, List.set_cons_zero, List.set_cons_succ]
              go_simp
              refine HDo.out.mono ?_
              rintro e y1 ⟨rfl, hbo, hmv⟩
              have h1 : Oy cf w y1 g R q := HU.out.step hbo hmv HVq.out
              clear hbo hmv HDo
              clear hSh
              refine hK.out _ _ h1 (fun _ hSh => ?_)
              clear hK K
              try simp only [List.getElem_toArray, List.getElem_cons_succ, List.getElem_cons_zero, Act.put, List.setIfInBounds_toArray, List.set_cons_zero, List.set_cons_succ]
              refine wpAnyT_take (i := 10) (n := 80) (v := ?vv10_90) (fun w' => Oy cf w w' g R q) rfl (by kernel_rfl) (by kernel_rfl) (by kernel_rfl) (fun _ _ _ h => h) ⟨by decide, .inl ⟨by kernel_rfl, rfl⟩⟩ hSh (Or.inl ⟨by rfl, ?yy10_90⟩) (by assumption) ?rr10_90
              case yy10_90 => (intro w hSw; (skip); (try simp only [List.getElem_toArray, List.getElem_cons_succ, List.getElem_cons_zero, Act.put, List.setIfInBounds_toArray, List.set_cons_zero, List.set_cons_succ]); go_simp; (try (with_reducible rfl)))
              clear hSh; intro hSh
              try simp only [List.getElem_toArray, List.getElem_cons_succ, List.getElem_cons_zero, Act.put, List.setIfInBounds_toArray, List.set_cons_zero, List.set_cons_succ]
              refine wpAnyT_take (i := 11) (n := 80) (v := ?vv11_91) (fun w' => Oy cf w w' g R q) rfl (by kernel_rfl) (by kernel_rfl) (by kernel_rfl) (fun _ _ _ h => h) ⟨by decide, .inl ⟨by kernel_rfl, rfl⟩⟩ hSh (Or.inl ⟨by rfl, ?yy11_91⟩) (by assumption) ?rr11_91
              case yy11_91 => (intro w hSw; (skip); (try simp only [List.getElem_toArray, List.getElem_cons_succ, List.getElem_cons_zero, Act.put, List.setIfInBounds_toArray, List.set_cons_zero, List.set_cons_succ]); go_simp; (try (with_reducible rfl)))
              clear hSh; intro hSh
              try simp only [List.getElem_toArray, List.getElem_cons_succ, List.getElem_cons_zero, Act.put, List.setIfInBounds_toArray, List.set_cons_zero, List.set_cons_succ]
              refine wpAnyT_take (i := 12) (n := 80) (v := ?vv12_92) (fun w' => Oy cf w w' g R q) rfl (by kernel_rfl) (by kernel_rfl) (by kernel_rfl) (fun _ _ _ h => h) ⟨by decide, .inl ⟨by kernel_rfl, rfl⟩⟩ hSh (Or.inl ⟨by rfl, ?yy12_92⟩) (by assumption) ?rr12_92
              case yy12_92 => (intro w hSw; (skip); (try simp only [List.getElem_toArray, List.getElem_cons_succ, List.getElem_cons_zero, Act.put, List.setIfInBounds_toArray, List.set_cons_zero, List.set_cons_succ]); go_simp; (try (with_reducible rfl)))
              clear hSh; intro hSh
              try simp only [List.getElem_toArray, List.getElem_cons_succ, List.getElem_cons_zero, Act.put, List.setIfInBounds_toArray, List.set_cons_zero, List.set_cons_succ]
              refine wpAnyT_take (i := 13) (n := 80) (v := ?vv13_93) (fun w' => Oy cf w w' g R q) rfl (by kernel_rfl) (by kernel_rfl) (by kernel_rfl) (fun _ _ _ h => h) ⟨by decide, .inl ⟨by kernel_rfl, rfl⟩⟩ hSh (Or.inl ⟨by rfl, ?yy13_93⟩) (by assumption) ?rr13_93
              case yy13_93 => (intro w hSw; (skip); (try simp only [List.getElem_toArray, List.getElem_cons_succ, List.getElem_cons_zero, Act.put, List.setIfInBounds_toArray, List.set_cons_zero, List.set_cons_succ]); go_simp; (try (with_reducible rfl)))
              clear hSh; intro hSh
              try simp only [List.getElem_toArray, List.getElem_cons_succ, List.getElem_cons_zero, Act.put, List.setIfInBounds_toArray, List.set_cons_zero, List.set_cons_succ]
              refine wpAnyT_take (i := 15) (n := 80) (v := ?vv15_94) (fun w' => Oy cf w w' g R q) rfl (by kernel_rfl) (by kernel_rfl) (by kernel_rfl) (fun _ _ _ h => h) ⟨by decide, .inl ⟨by kernel_rfl, rfl⟩⟩ hSh (Or.inl ⟨by rfl, ?yy15_94⟩) (by assumption) ?rr15_94
              case yy15_94 => (intro w hSw; (skip); (try simp only [List.getElem_toArray, List.getElem_cons_succ, List.getElem_cons_zero, Act.put, List.setIfInBounds_toArray, List.set_cons_zero, List.set_cons_succ]); go_simp; (try (with_reducible rfl)))
              clear hSh; intro hSh
              try simp only [List.getElem_toArray, List.getElem_cons_succ, List.getElem_cons_zero, Act.put, List.setIfInBounds_toArray, List.set_cons_zero, List.set_cons_succ]
              have HR1 := Lib.hid (fun W (h : Oy cf w W g R q) => request_any g q W h.b.1 h.v.m)
              have HR2 := Lib.hid (fun W (h : Oy cf w W g R q) => rrequest_any R q W h.b.2.1)
              obtain ⟨z, hz⟩ : ∃ z, (req q).length = z := ⟨_, rfl⟩
              have hzp : (put q.w).length = z := hz
              have HZ := Lib.hid hz
              have hzs : z ≤ 3 := by rw [← hz]; exact req_small q
              have HPq : Hid (put q.w = req q) := rfl
              have HW1 := Lib.hid (fun W (h : Oy cf w W g R q) => wish_any g q W h.b.1)
              have HW2 := Lib.hid (fun W (h : Oy cf w W g R q) => mine_any g q W h.b.1)
              have HW3 := Lib.hid (fun W (h : Oy cf w W g R q) => peer_any g q W h.b.1)
              clear hz
              refine wpAnyT_ready (rs := [14]) (by kernel_rfl) (by simp) ?_
              refine AllReadyT.cons (o := _) (fun w' => Oy cf w w' g R q) (fun _ => cond_at (by kernel_rfl)) (by kernel_rfl) hSh rfl (fun K hK => ?_) AllReadyT.nil
              try simp only [List.getElem_toArray, List.getElem_cons_succ, List.getElem_cons_zero, Act.put, List.setIfInBounds_toArray, List.set_cons_zero, List.set_cons_succ]
              go_simp
              refine (HR1.out _ h1).mono ?_
              rintro e y2 ⟨A1, cA1, rfl, ho, _, hb⟩
              rw [HZ.out] at ho
              (try rw [HPq.out])
              (try rw [HZ.out])
              have h2 : Oy cf w y2 g R q := h1.callee hb
              have HOA1 := Lib.hid ho
              have HBA1 := Lib.hid hb
              clear ho hb
              clear hSh
              refine hK.out _ _ h2 (fun _ hSh => ?_)
              clear hK K
              try simp only [List.getElem_toArray, List.getElem_cons_succ, List.getElem_cons_zero, Act.put, List.setIfInBounds_toArray, List.set_cons_zero, List.set_cons_succ]
              refine wpAnyT_ready (rs := [16]) (by kernel_rfl) (by simp) ?_
              refine AllReadyT.cons (o := _) (fun w' => Oy cf w w' g R q) (fun _ => cond_at (by kernel_rfl)) (by kernel_rfl) hSh rfl (fun K hK => ?_) AllReadyT.nil
              try simp only [List.getElem_toArray, List.getElem_cons_succ, List.getElem_cons_zero, Act.put, List.setIfInBounds_toArray, List.set_cons_zero, List.set_cons_succ]
              go_simp
              refine (HR2.out _ h2).mono ?_
              rintro e y3 ⟨A2, cA2, rfl, ho, hb⟩
              rw [HPq.out] at ho
              rw [HZ.out] at ho
              (try rw [HPq.out])
              (try rw [HZ.out])
              have h3 : Oy cf w y3 g R q := h2.callee hb
              have HOA2 := Lib.hid ho
              have HBA2 := Lib.hid hb
              clear ho hb
              clear hSh
              refine hK.out _ _ h3 (fun _ hSh => ?_)
              clear hK K
              try simp only [List.getElem_toArray, List.getElem_cons_succ, List.getElem_cons_zero, Act.put, List.setIfInBounds_toArray, List.set_cons_zero, List.set_cons_succ]
              have HOx := Lib.hid (HOA1.out.next HBA2.out)
              have HSa : Hid (Calls Try.prog 21 #[.slice A1 z cA1, .slice A2 z cA2] y3 fun e w' => e = .returned (.bool true) ∧ Below y3.heap.size y3 w') := by
                have h := rsame_any (req q) (req q) y3.heap.size A1 A2 z z cA1 cA2 y3 HOx.out HOA2.out (by unfold maxLen; omega) (by unfold maxLen; omega) (Nat.le_refl _)
                first | rw [Go.Proofs.Ythoangihndplkaa.Opt.sm_self] at h | rw [Go.Proofs.Ythoangihndplkaa.Ipp.sm_self] at h
                exact h
              refine wpAnyT_ready (rs := [17]) (by kernel_rfl) (by simp) ?_
              refine AllReadyT.cons (o := _) (fun w' => Oy cf w w' g R q) (fun _ => cond_at (by kernel_rfl)) (by kernel_rfl) hSh rfl (fun K hK => ?_) AllReadyT.nil
              try simp only [List.getElem_toArray, List.getElem_cons_succ, List.getElem_cons_zero, Act.put, List.setIfInBounds_toArray, List.set_cons_zero, List.set_cons_succ]
              go_simp
              refine HSa.out.mono ?_
              rintro e y4 ⟨rfl, hb⟩
              have h4 : Oy cf w y4 g R q := h3.callee hb
              clear hb HSa HOx HOA1 HOA2 HBA1 HBA2
              clear hSh
              refine hK.out _ _ h4 (fun _ hSh => ?_)
              clear hK K
              try simp only [List.getElem_toArray, List.getElem_cons_succ, List.getElem_cons_zero, Act.put, List.setIfInBounds_toArray, List.set_cons_zero, List.set_cons_succ]
              refine wpAnyT_take (i := 18) (n := 80) (v := ?vv18_95) (fun w' => Oy cf w w' g R q) rfl (by kernel_rfl) (by kernel_rfl) (by kernel_rfl) (fun _ _ _ h => h) ⟨by decide, .inl ⟨by kernel_rfl, rfl⟩⟩ hSh (Or.inl ⟨by rfl, ?yy18_95⟩) (by assumption) ?rr18_95
              case yy18_95 => (intro w hSw; (skip); (try simp only [List.getElem_toArray, List.getElem_cons_succ, List.getElem_cons_zero, Act.put, List.setIfInBounds_toArray, List.set_cons_zero, List.set_cons_succ]); go_simp; (try (with_reducible rfl)))
              clear hSh; intro hSh
              try simp only [List.getElem_toArray, List.getElem_cons_succ, List.getElem_cons_zero, Act.put, List.setIfInBounds_toArray, List.set_cons_zero, List.set_cons_succ]
              refine wpAnyT_take (i := 19) (n := 80) (v := ?vv19_96) (fun w' => Oy cf w w' g R q) rfl (by kernel_rfl) (by kernel_rfl) (by kernel_rfl) (fun _ _ _ h => h) ⟨by decide, .inl ⟨by kernel_rfl, rfl⟩⟩ hSh (Or.inl ⟨by rfl, ?yy19_96⟩) (by assumption) ?rr19_96
              case yy19_96 => (intro w hSw; (skip); (try simp only [List.getElem_toArray, List.getElem_cons_succ, List.getElem_cons_zero, Act.put, List.setIfInBounds_toArray, List.set_cons_zero, List.set_cons_succ]); go_simp; (try (with_reducible rfl)))
              clear hSh; intro hSh
              try simp only [List.getElem_toArray, List.getElem_cons_succ, List.getElem_cons_zero, Act.put, List.setIfInBounds_toArray, List.set_cons_zero, List.set_cons_succ]
              refine wpAnyT_take (i := 20) (n := 80) (v := ?vv20_97) (fun w' => Oy cf w w' g R q) rfl (by kernel_rfl) (by kernel_rfl) (by kernel_rfl) (fun _ _ _ h => h) ⟨by decide, .inl ⟨by kernel_rfl, rfl⟩⟩ hSh (Or.inl ⟨by rfl, ?yy20_97⟩) (by assumption) ?rr20_97
              case yy20_97 => (intro w hSw; (skip); (try simp only [List.getElem_toArray, List.getElem_cons_succ, List.getElem_cons_zero, Act.put, List.setIfInBounds_toArray, List.set_cons_zero, List.set_cons_succ]); go_simp; (try (with_reducible rfl)))
              clear hSh; intro hSh
              try simp only [List.getElem_toArray, List.getElem_cons_succ, List.getElem_cons_zero, Act.put, List.setIfInBounds_toArray, List.set_cons_zero, List.set_cons_succ]
              refine wpAnyT_take (i := 21) (n := 80) (v := ?vv21_98) (fun w' => Oy cf w w' g R q) rfl (by kernel_rfl) (by kernel_rfl) (by kernel_rfl) (fun _ _ _ h => h) ⟨by decide, .inl ⟨by kernel_rfl, rfl⟩⟩ hSh (Or.inl ⟨by rfl, ?yy21_98⟩) (by assumption) ?rr21_98
              case yy21_98 => (intro w hSw; (skip); (try simp only [List.getElem_toArray, List.getElem_cons_succ, List.getElem_cons_zero, Act.put, List.setIfInBounds_toArray, List.set_cons_zero, List.set_cons_succ]); go_simp; (try (with_reducible rfl)))
              clear hSh; intro hSh
              try simp only [List.getElem_toArray, List.getElem_cons_succ, List.getElem_cons_zero, Act.put, List.setIfInBounds_toArray, List.set_cons_zero, List.set_cons_succ]
              refine wpAnyT_take (i := 23) (n := 80) (v := ?vv23_99) (fun w' => Oy cf w w' g R q) rfl (by kernel_rfl) (by kernel_rfl) (by kernel_rfl) (fun _ _ _ h => h) ⟨by decide, .inl ⟨by kernel_rfl, rfl⟩⟩ hSh (Or.inl ⟨by rfl, ?yy23_99⟩) (by assumption) ?rr23_99
              case yy23_99 => (intro w hSw; (skip); (try simp only [List.getElem_toArray, List.getElem_cons_succ, List.getElem_cons_zero, Act.put, List.setIfInBounds_toArray, List.set_cons_zero, List.set_cons_succ]); go_simp; (try (with_reducible rfl)))
              clear hSh; intro hSh
              try simp only [List.getElem_toArray, List.getElem_cons_succ, List.getElem_cons_zero, Act.put, List.setIfInBounds_toArray, List.set_cons_zero, List.set_cons_succ]
              refine wpAnyT_take (i := 24) (n := 80) (v := ?vv24_100) (fun w' => Oy cf w w' g R q) rfl (by kernel_rfl) (by kernel_rfl) (by kernel_rfl) (fun _ _ _ h => h) ⟨by decide, .inl ⟨by kernel_rfl, rfl⟩⟩ hSh (Or.inl ⟨by rfl, ?yy24_100⟩) (by assumption) ?rr24_100
              case yy24_100 => (intro w hSw; (skip); (try simp only [List.getElem_toArray, List.getElem_cons_succ, List.getElem_cons_zero, Act.put, List.setIfInBounds_toArray, List.set_cons_zero, List.set_cons_succ]); go_simp; (try (with_reducible rfl)))
              clear hSh; intro hSh
              try simp only [List.getElem_toArray, List.getElem_cons_succ, List.getElem_cons_zero, Act.put, List.setIfInBounds_toArray, List.set_cons_zero, List.set_cons_succ]
              refine wpAnyT_take (i := 25) (n := 80) (v := ?vv25_101) (fun w' => Oy cf w w' g R q) rfl (by kernel_rfl) (by kernel_rfl) (by kernel_rfl) (fun _ _ _ h => h) ⟨by decide, .inl ⟨by kernel_rfl, rfl⟩⟩ hSh (Or.inl ⟨by rfl, ?yy25_101⟩) (by assumption) ?rr25_101
              case yy25_101 => (intro w hSw; (skip); (try simp only [List.getElem_toArray, List.getElem_cons_succ, List.getElem_cons_zero, Act.put, List.setIfInBounds_toArray, List.set_cons_zero, List.set_cons_succ]); go_simp; (try (with_reducible rfl)))
              clear hSh; intro hSh
              try simp only [List.getElem_toArray, List.getElem_cons_succ, List.getElem_cons_zero, Act.put, List.setIfInBounds_toArray, List.set_cons_zero, List.set_cons_succ]
              refine wpAnyT_take (i := 26) (n := 80) (v := ?vv26_102) (fun w' => Oy cf w w' g R q) rfl (by kernel_rfl) (by kernel_rfl) (by kernel_rfl) (fun _ _ _ h => h) ⟨by decide, .inl ⟨by kernel_rfl, rfl⟩⟩ hSh (Or.inl ⟨by rfl, ?yy26_102⟩) (by assumption) ?rr26_102
              case yy26_102 => (intro w hSw; (have hx0 : w.cell? ⟨R, 6, none⟩ = some (Value.bool q.w.ha) := hSw.b.2.1.c 6; have hx1 : w.cell? ⟨R, 7, none⟩ = some (.int .u32 q.w.addr.toNat) := hSw.b.2.1.c 7; have hx2 : w.cell? ⟨R, 8, none⟩ = some (.bool q.w.h1) := hSw.b.2.1.c 8; have hx3 : w.cell? ⟨R, 9, none⟩ = some (.int .u32 q.w.dns1.toNat) := hSw.b.2.1.c 9; have hx4 : w.cell? ⟨R, 10, none⟩ = some (.bool q.w.h2) := hSw.b.2.1.c 10; have hx5 : w.cell? ⟨R, 11, none⟩ = some (.int .u32 q.w.dns2.toNat) := hSw.b.2.1.c 11); (try simp only [List.getElem_toArray, List.getElem_cons_succ, List.getElem_cons_zero, Act.put, List.setIfInBounds_toArray, List.set_cons_zero, List.set_cons_succ]); go_simp; (try (with_reducible rfl)))
              clear hSh; intro hSh
              try simp only [List.getElem_toArray, List.getElem_cons_succ, List.getElem_cons_zero, Act.put, List.setIfInBounds_toArray, List.set_cons_zero, List.set_cons_succ]
              refine wpAnyT_ready (rs := [22]) (by kernel_rfl) (by simp) ?_
              refine AllReadyT.cons (o := _) (fun w' => Oy cf w w' g R q) (fun _ => cond_at (by kernel_rfl)) (by kernel_rfl) hSh rfl (fun K hK => ?_) AllReadyT.nil
              try simp only [List.getElem_toArray, List.getElem_cons_succ, List.getElem_cons_zero, Act.put, List.setIfInBounds_toArray, List.set_cons_zero, List.set_cons_succ]
              go_simp
              refine (HW1.out _ h4).mono ?_
              rintro e y5 ⟨he, hb⟩
              replace he : e = .returned (.agg #[Value.bool q.w.ha, .int .u32 q.w.addr.toNat, .bool q.w.h1, .int .u32 q.w.dns1.toNat, .bool q.w.h2, .int .u32 q.w.dns2.toNat]) := he
              subst he
              have h5 : Oy cf w y5 g R q := h4.callee hb
              clear hb
              clear hSh
              refine hK.out _ _ h5 (fun _ hSh => ?_)
              clear hK K
              try simp only [List.getElem_toArray, List.getElem_cons_succ, List.getElem_cons_zero, Act.put, List.setIfInBounds_toArray, List.set_cons_zero, List.set_cons_succ]
              have hneq4 := fun W => ipc_neq (x := q.w) (y := q.w) (r := true) (decide_eq_true rfl) W
              simp only [Bool.not_true] at hneq4
              refine wpAnyT_take (i := 27) (n := 80) (v := ?vv27_103) (fun w' => Oy cf w w' g R q) rfl (by kernel_rfl) (by kernel_rfl) (by kernel_rfl) (fun _ _ _ h => h) ⟨by decide, .inl ⟨by kernel_rfl, rfl⟩⟩ hSh (Or.inl ⟨by rfl, ?yy27_103⟩) (by assumption) ?rr27_103
              case yy27_103 => (intro w hSw; (skip); (try simp only [List.getElem_toArray, List.getElem_cons_succ, List.getElem_cons_zero, Act.put, List.setIfInBounds_toArray, List.set_cons_zero, List.set_cons_succ]); go_simp; (try (with_reducible rfl)))
              clear hSh; intro hSh
              try simp only [List.getElem_toArray, List.getElem_cons_succ, List.getElem_cons_zero, Act.put, List.setIfInBounds_toArray, List.set_cons_zero, List.set_cons_succ]
              refine wpAnyT_take (i := 28) (n := 80) (v := ?vv28_104) (fun w' => Oy cf w w' g R q) rfl (by kernel_rfl) (by kernel_rfl) (by kernel_rfl) (fun _ _ _ h => h) ⟨by decide, .inl ⟨by kernel_rfl, rfl⟩⟩ hSh (Or.inl ⟨by rfl, ?yy28_104⟩) (by assumption) ?rr28_104
              case yy28_104 => (intro w hSw; (skip); (try simp only [List.getElem_toArray, List.getElem_cons_succ, List.getElem_cons_zero, Act.put, List.setIfInBounds_toArray, List.set_cons_zero, List.set_cons_succ]); go_simp; (try (with_reducible rfl)))
              clear hSh; intro hSh
              try simp only [List.getElem_toArray, List.getElem_cons_succ, List.getElem_cons_zero, Act.put, List.setIfInBounds_toArray, List.set_cons_zero, List.set_cons_succ]
              refine wpAnyT_take (i := 29) (n := 80) (v := ?vv29_105) (fun w' => Oy cf w w' g R q) rfl (by kernel_rfl) (by kernel_rfl) (by kernel_rfl) (fun _ _ _ h => h) ⟨by decide, .inl ⟨by kernel_rfl, rfl⟩⟩ hSh (Or.inl ⟨by rfl, ?yy29_105⟩) (by assumption) ?rr29_105
              case yy29_105 => (intro w hSw; (skip); (try simp only [List.getElem_toArray, List.getElem_cons_succ, List.getElem_cons_zero, Act.put, List.setIfInBounds_toArray, List.set_cons_zero, List.set_cons_succ]); go_simp; (try (with_reducible rfl)))
              clear hSh; intro hSh
              try simp only [List.getElem_toArray, List.getElem_cons_succ, List.getElem_cons_zero, Act.put, List.setIfInBounds_toArray, List.set_cons_zero, List.set_cons_succ]
              refine wpAnyT_take (i := 30) (n := 80) (v := ?vv30_106) (fun w' => Oy cf w w' g R q) rfl (by kernel_rfl) (by kernel_rfl) (by kernel_rfl) (fun _ _ _ h => h) ⟨by decide, .inl ⟨by kernel_rfl, rfl⟩⟩ hSh (Or.inl ⟨by rfl, ?yy30_106⟩) (by assumption) ?rr30_106
              case yy30_106 => (intro w hSw; (skip); (try simp only [List.getElem_toArray, List.getElem_cons_succ, List.getElem_cons_zero, Act.put, List.setIfInBounds_toArray, List.set_cons_zero, List.set_cons_succ]); go_simp; (try (with_reducible rfl)))
              clear hSh; intro hSh
              try simp only [List.getElem_toArray, List.getElem_cons_succ, List.getElem_cons_zero, Act.put, List.setIfInBounds_toArray, List.set_cons_zero, List.set_cons_succ]
              refine wpAnyT_take (i := 32) (n := 80) (v := ?vv32_107) (fun w' => Oy cf w w' g R q) rfl (by kernel_rfl) (by kernel_rfl) (by kernel_rfl) (fun _ _ _ h => h) ⟨by decide, .inl ⟨by kernel_rfl, rfl⟩⟩ hSh (Or.inl ⟨by rfl, ?yy32_107⟩) (by assumption) ?rr32_107
              case yy32_107 => (intro w hSw; (skip); (try simp only [List.getElem_toArray, List.getElem_cons_succ, List.getElem_cons_zero, Act.put, List.setIfInBounds_toArray, List.set_cons_zero, List.set_cons_succ]); go_simp; (try (with_reducible rfl)))
              clear hSh; intro hSh
              try simp only [List.getElem_toArray, List.getElem_cons_succ, List.getElem_cons_zero, Act.put, List.setIfInBounds_toArray, List.set_cons_zero, List.set_cons_succ]
              refine wpAnyT_take (i := 33) (n := 80) (v := ?vv33_108) (fun w' => Oy cf w w' g R q) rfl (by kernel_rfl) (by kernel_rfl) (by kernel_rfl) (fun _ _ _ h => h) ⟨by decide, .inl ⟨by kernel_rfl, rfl⟩⟩ hSh (Or.inl ⟨by rfl, ?yy33_108⟩) (by assumption) ?rr33_108
              case yy33_108 => (intro w hSw; (skip); (try simp only [List.getElem_toArray, List.getElem_cons_succ, List.getElem_cons_zero, Act.put, List.setIfInBounds_toArray, List.set_cons_zero, List.set_cons_succ]); go_simp; (try (with_reducible rfl)))
              clear hSh; intro hSh
              try simp only [List.getElem_toArray, List.getElem_cons_succ, List.getElem_cons_zero, Act.put, List.setIfInBounds_toArray, List.set_cons_zero, List.set_cons_succ]
              refine wpAnyT_take (i := 34) (n := 80) (v := ?vv34_109) (fun w' => Oy cf w w' g R q) rfl (by kernel_rfl) (by kernel_rfl) (by kernel_rfl) (fun _ _ _ h => h) ⟨by decide, .inl ⟨by kernel_rfl, rfl⟩⟩ hSh (Or.inl ⟨by rfl, ?yy34_109⟩) (by assumption) ?rr34_109
              case yy34_109 => (intro w hSw; (skip); (try simp only [List.getElem_toArray, List.getElem_cons_succ, List.getElem_cons_zero, Act.put, List.setIfInBounds_toArray, List.set_cons_zero, List.set_cons_succ]); go_simp; (try (with_reducible rfl)))
              clear hSh; intro hSh
              try simp only [List.getElem_toArray, List.getElem_cons_succ, List.getElem_cons_zero, Act.put, List.setIfInBounds_toArray, List.set_cons_zero, List.set_cons_succ]
              refine wpAnyT_take (i := 35) (n := 80) (v := ?vv35_110) (fun w' => Oy cf w w' g R q) rfl (by kernel_rfl) (by kernel_rfl) (by kernel_rfl) (fun _ _ _ h => h) ⟨by decide, .inl ⟨by kernel_rfl, rfl⟩⟩ hSh (Or.inl ⟨by rfl, ?yy35_110⟩) (by assumption) ?rr35_110
              case yy35_110 => (intro w hSw; (have hx0 : w.cell? ⟨R, 12, none⟩ = some (Value.bool q.mine.ha) := hSw.b.2.1.c 12; have hx1 : w.cell? ⟨R, 13, none⟩ = some (.int .u32 q.mine.addr.toNat) := hSw.b.2.1.c 13; have hx2 : w.cell? ⟨R, 14, none⟩ = some (.bool q.mine.h1) := hSw.b.2.1.c 14; have hx3 : w.cell? ⟨R, 15, none⟩ = some (.int .u32 q.mine.dns1.toNat) := hSw.b.2.1.c 15; have hx4 : w.cell? ⟨R, 16, none⟩ = some (.bool q.mine.h2) := hSw.b.2.1.c 16; have hx5 : w.cell? ⟨R, 17, none⟩ = some (.int .u32 q.mine.dns2.toNat) := hSw.b.2.1.c 17); (try simp only [List.getElem_toArray, List.getElem_cons_succ, List.getElem_cons_zero, Act.put, List.setIfInBounds_toArray, List.set_cons_zero, List.set_cons_succ]); go_simp; (try (with_reducible rfl)))
              clear hSh; intro hSh
              try simp only [List.getElem_toArray, List.getElem_cons_succ, List.getElem_cons_zero, Act.put, List.setIfInBounds_toArray, List.set_cons_zero, List.set_cons_succ]
              refine wpAnyT_ready (rs := [31]) (by kernel_rfl) (by simp) ?_
              refine AllReadyT.cons (o := _) (fun w' => Oy cf w w' g R q) (fun _ => cond_at (by kernel_rfl)) (by kernel_rfl) hSh rfl (fun K hK => ?_) AllReadyT.nil
              try simp only [List.getElem_toArray, List.getElem_cons_succ, List.getElem_cons_zero, Act.put, List.setIfInBounds_toArray, List.set_cons_zero, List.set_cons_succ]
              go_simp
              refine (HW2.out _ h5).mono ?_
              rintro e y6 ⟨he, hb⟩
              replace he : e = .returned (.agg #[Value.bool q.mine.ha, .int .u32 q.mine.addr.toNat, .bool q.mine.h1, .int .u32 q.mine.dns1.toNat, .bool q.mine.h2, .int .u32 q.mine.dns2.toNat]) := he
              subst he
              have h6 : Oy cf w y6 g R q := h5.callee hb
              clear hb
              clear hSh
              refine hK.out _ _ h6 (fun _ hSh => ?_)
              clear hK K
              try simp only [List.getElem_toArray, List.getElem_cons_succ, List.getElem_cons_zero, Act.put, List.setIfInBounds_toArray, List.set_cons_zero, List.set_cons_succ]
              have hneq5 := fun W => ipc_neq (x := q.mine) (y := q.mine) (r := true) (decide_eq_true rfl) W
              simp only [Bool.not_true] at hneq5
              refine wpAnyT_take (i := 36) (n := 80) (v := ?vv36_111) (fun w' => Oy cf w w' g R q) rfl (by kernel_rfl) (by kernel_rfl) (by kernel_rfl) (fun _ _ _ h => h) ⟨by decide, .inl ⟨by kernel_rfl, rfl⟩⟩ hSh (Or.inl ⟨by rfl, ?yy36_111⟩) (by assumption) ?rr36_111
              case yy36_111 => (intro w hSw; (skip); (try simp only [List.getElem_toArray, List.getElem_cons_succ, List.getElem_cons_zero, Act.put, List.setIfInBounds_toArray, List.set_cons_zero, List.set_cons_succ]); go_simp; (try (with_reducible rfl)))
              clear hSh; intro hSh
              try simp only [List.getElem_toArray, List.getElem_cons_succ, List.getElem_cons_zero, Act.put, List.setIfInBounds_toArray, List.set_cons_zero, List.set_cons_succ]
              refine wpAnyT_take (i := 37) (n := 80) (v := ?vv37_112) (fun w' => Oy cf w w' g R q) rfl (by kernel_rfl) (by kernel_rfl) (by kernel_rfl) (fun _ _ _ h => h) ⟨by decide, .inl ⟨by kernel_rfl, rfl⟩⟩ hSh (Or.inl ⟨by rfl, ?yy37_112⟩) (by assumption) ?rr37_112
              case yy37_112 => (intro w hSw; (skip); (try simp only [List.getElem_toArray, List.getElem_cons_succ, List.getElem_cons_zero, Act.put, List.setIfInBounds_toArray, List.set_cons_zero, List.set_cons_succ]); go_simp; (try (with_reducible rfl)))
              clear hSh; intro hSh
              try simp only [List.getElem_toArray, List.getElem_cons_succ, List.getElem_cons_zero, Act.put, List.setIfInBounds_toArray, List.set_cons_zero, List.set_cons_succ]
              refine wpAnyT_take (i := 38) (n := 80) (v := ?vv38_113) (fun w' => Oy cf w w' g R q) rfl (by kernel_rfl) (by kernel_rfl) (by kernel_rfl) (fun _ _ _ h => h) ⟨by decide, .inl ⟨by kernel_rfl, rfl⟩⟩ hSh (Or.inl ⟨by rfl, ?yy38_113⟩) (by assumption) ?rr38_113
              case yy38_113 => (intro w hSw; (skip); (try simp only [List.getElem_toArray, List.getElem_cons_succ, List.getElem_cons_zero, Act.put, List.setIfInBounds_toArray, List.set_cons_zero, List.set_cons_succ]); go_simp; (try (with_reducible rfl)))
              clear hSh; intro hSh
              try simp only [List.getElem_toArray, List.getElem_cons_succ, List.getElem_cons_zero, Act.put, List.setIfInBounds_toArray, List.set_cons_zero, List.set_cons_succ]
              refine wpAnyT_take (i := 39) (n := 80) (v := ?vv39_114) (fun w' => Oy cf w w' g R q) rfl (by kernel_rfl) (by kernel_rfl) (by kernel_rfl) (fun _ _ _ h => h) ⟨by decide, .inl ⟨by kernel_rfl, rfl⟩⟩ hSh (Or.inl ⟨by rfl, ?yy39_114⟩) (by assumption) ?rr39_114
              case yy39_114 => (intro w hSw; (skip); (try simp only [List.getElem_toArray, List.getElem_cons_succ, List.getElem_cons_zero, Act.put, List.setIfInBounds_toArray, List.set_cons_zero, List.set_cons_succ]); go_simp; (try (with_reducible rfl)))
              clear hSh; intro hSh
              try simp only [List.getElem_toArray, List.getElem_cons_succ, List.getElem_cons_zero, Act.put, List.setIfInBounds_toArray, List.set_cons_zero, List.set_cons_succ]
              refine wpAnyT_take (i := 41) (n := 80) (v := ?vv41_115) (fun w' => Oy cf w w' g R q) rfl (by kernel_rfl) (by kernel_rfl) (by kernel_rfl) (fun _ _ _ h => h) ⟨by decide, .inl ⟨by kernel_rfl, rfl⟩⟩ hSh (Or.inl ⟨by rfl, ?yy41_115⟩) (by assumption) ?rr41_115
              case yy41_115 => (intro w hSw; (skip); (try simp only [List.getElem_toArray, List.getElem_cons_succ, List.getElem_cons_zero, Act.put, List.setIfInBounds_toArray, List.set_cons_zero, List.set_cons_succ]); go_simp; (try (with_reducible rfl)))
              clear hSh; intro hSh
              try simp only [List.getElem_toArray, List.getElem_cons_succ, List.getElem_cons_zero, Act.put, List.setIfInBounds_toArray, List.set_cons_zero, List.set_cons_succ]
              refine wpAnyT_take (i := 42) (n := 80) (v := ?vv42_116) (fun w' => Oy cf w w' g R q) rfl (by kernel_rfl) (by kernel_rfl) (by kernel_rfl) (fun _ _ _ h => h) ⟨by decide, .inl ⟨by kernel_rfl, rfl⟩⟩ hSh (Or.inl ⟨by rfl, ?yy42_116⟩) (by assumption) ?rr42_116
              case yy42_116 => (intro w hSw; (skip); (try simp only [List.getElem_toArray, List.getElem_cons_succ, List.getElem_cons_zero, Act.put, List.setIfInBounds_toArray, List.set_cons_zero, List.set_cons_succ]); go_simp; (try (with_reducible rfl)))
              clear hSh; intro hSh
              try simp only [List.getElem_toArray, List.getElem_cons_succ, List.getElem_cons_zero, Act.put, List.setIfInBounds_toArray, List.set_cons_zero, List.set_cons_succ]
              refine wpAnyT_take (i := 43) (n := 80) (v := ?vv43_117) (fun w' => Oy cf w w' g R q) rfl (by kernel_rfl) (by kernel_rfl) (by kernel_rfl) (fun _ _ _ h => h) ⟨by decide, .inl ⟨by kernel_rfl, rfl⟩⟩ hSh (Or.inl ⟨by rfl, ?yy43_117⟩) (by assumption) ?rr43_117
              case yy43_117 => (intro w hSw; (skip); (try simp only [List.getElem_toArray, List.getElem_cons_succ, List.getElem_cons_zero, Act.put, List.setIfInBounds_toArray, List.set_cons_zero, List.set_cons_succ]); go_simp; (try (with_reducible rfl)))
              clear hSh; intro hSh
              try simp only [List.getElem_toArray, List.getElem_cons_succ, List.getElem_cons_zero, Act.put, List.setIfInBounds_toArray, List.set_cons_zero, List.set_cons_succ]
              refine wpAnyT_take (i := 44) (n := 80) (v := ?vv44_118) (fun w' => Oy cf w w' g R q) rfl (by kernel_rfl) (by kernel_rfl) (by kernel_rfl) (fun _ _ _ h => h) ⟨by decide, .inl ⟨by kernel_rfl, rfl⟩⟩ hSh (Or.inl ⟨by rfl, ?yy44_118⟩) (by assumption) ?rr44_118
              case yy44_118 => (intro w hSw; (have hx0 : w.cell? ⟨R, 18, none⟩ = some (Value.bool q.peer.ha) := hSw.b.2.1.c 18; have hx1 : w.cell? ⟨R, 19, none⟩ = some (.int .u32 q.peer.addr.toNat) := hSw.b.2.1.c 19; have hx2 : w.cell? ⟨R, 20, none⟩ = some (.bool q.peer.h1) := hSw.b.2.1.c 20; have hx3 : w.cell? ⟨R, 21, none⟩ = some (.int .u32 q.peer.dns1.toNat) := hSw.b.2.1.c 21; have hx4 : w.cell? ⟨R, 22, none⟩ = some (.bool q.peer.h2) := hSw.b.2.1.c 22; have hx5 : w.cell? ⟨R, 23, none⟩ = some (.int .u32 q.peer.dns2.toNat) := hSw.b.2.1.c 23); (try simp only [List.getElem_toArray, List.getElem_cons_succ, List.getElem_cons_zero, Act.put, List.setIfInBounds_toArray, List.set_cons_zero, List.set_cons_succ]); go_simp; (try (with_reducible rfl)))
              clear hSh; intro hSh
              try simp only [List.getElem_toArray, List.getElem_cons_succ, List.getElem_cons_zero, Act.put, List.setIfInBounds_toArray, List.set_cons_zero, List.set_cons_succ]
              refine wpAnyT_ready (rs := [40]) (by kernel_rfl) (by simp) ?_
              refine AllReadyT.cons (o := _) (fun w' => Oy cf w w' g R q) (fun _ => cond_at (by kernel_rfl)) (by kernel_rfl) hSh rfl (fun K hK => ?_) AllReadyT.nil
              try simp only [List.getElem_toArray, List.getElem_cons_succ, List.getElem_cons_zero, Act.put, List.setIfInBounds_toArray, List.set_cons_zero, List.set_cons_succ]
              go_simp
              refine (HW3.out _ h6).mono ?_
              rintro e y7 ⟨he, hb⟩
              replace he : e = .returned (.agg #[Value.bool q.peer.ha, .int .u32 q.peer.addr.toNat, .bool q.peer.h1, .int .u32 q.peer.dns1.toNat, .bool q.peer.h2, .int .u32 q.peer.dns2.toNat]) := he
              subst he
              have h7 : Oy cf w y7 g R q := h6.callee hb
              clear hb
              clear hSh
              refine hK.out _ _ h7 (fun _ hSh => ?_)
              clear hK K
              try simp only [List.getElem_toArray, List.getElem_cons_succ, List.getElem_cons_zero, Act.put, List.setIfInBounds_toArray, List.set_cons_zero, List.set_cons_succ]
              have hneq6 := fun W => ipc_neq (x := q.peer) (y := q.peer) (r := true) (decide_eq_true rfl) W
              simp only [Bool.not_true] at hneq6
              refine wpAnyT_take (i := 45) (n := 80) (v := ?vv45_119) (fun w' => Oy cf w w' g R q) rfl (by kernel_rfl) (by kernel_rfl) (by kernel_rfl) (fun _ _ _ h => h) ⟨by decide, .inl ⟨by kernel_rfl, rfl⟩⟩ hSh (Or.inl ⟨by rfl, ?yy45_119⟩) (by assumption) ?rr45_119
              case yy45_119 => (intro w hSw; (skip); (try simp only [List.getElem_toArray, List.getElem_cons_succ, List.getElem_cons_zero, Act.put, List.setIfInBounds_toArray, List.set_cons_zero, List.set_cons_succ]); go_simp; (try (with_reducible rfl)))
              clear hSh; intro hSh
              try simp only [List.getElem_toArray, List.getElem_cons_succ, List.getElem_cons_zero, Act.put, List.setIfInBounds_toArray, List.set_cons_zero, List.set_cons_succ]
              refine wpAnyT_take (i := 46) (n := 80) (v := ?vv46_120) (fun w' => Oy cf w w' g R q) rfl (by kernel_rfl) (by kernel_rfl) (by kernel_rfl) (fun _ _ _ h => h) ⟨by decide, .inl ⟨by kernel_rfl, rfl⟩⟩ hSh (Or.inl ⟨by rfl, ?yy46_120⟩) (by assumption) ?rr46_120
              case yy46_120 => (intro w hSw; (skip); (try simp only [List.getElem_toArray, List.getElem_cons_succ, List.getElem_cons_zero, Act.put, List.setIfInBounds_toArray, List.set_cons_zero, List.set_cons_succ]); go_simp; (try (with_reducible rfl)))
              clear hSh; intro hSh
              try simp only [List.getElem_toArray, List.getElem_cons_succ, List.getElem_cons_zero, Act.put, List.setIfInBounds_toArray, List.set_cons_zero, List.set_cons_succ]
              refine wpAnyT_done (by kernel_rfl) ?_ _
              have HOz := Lib.hid h7
              clear h1 h2 h3 h4 h5 h6 h7 HR1 HR2 HW1 HW2 HW3
              go_wp2
              go_roundw
              case rel => exact ⟨k + 1, g, R, q, by omega, rfl, rfl, by go_num, HOz⟩
              case measure => simp [intOf]; omega
      · obtain rfl : k = n := by omega
        go_wp2_with fail
        refine (alive_any _).mono ?_
        rintro e v9 ⟨rfl, hb⟩
        have HE := Lib.hid (HO.out.hb.trans (hb.mono HO.out.hb.size))
        clear hb
        go_wp2
        go_ret
        exact ⟨rfl, HE.out⟩
  · go_wp2_with fail
    refine (alive_any _).mono ?_
    rintro e v9 ⟨rfl, hb⟩
    have HE := Lib.hid (HB0.out.trans (hb.mono HB0.out.size))
    clear hb
    go_wp2
    go_ret
    exact ⟨rfl, HE.out⟩
set_option maxHeartbeats 16000000 in
set_option maxRecDepth 100000 in
theorem walk (cf : Conf) (A : Option Addr) (n c : Nat) (ss : List Stp) (w : World) (hn : n ≤ maxLen) (hl : StRow w w.heap.size A n ss) :
    Calls Try.prog 3 #[.agg #[Value.int .u32 cf.addr.toNat, .int .u32 cf.peer.toNat, .int .u32 cf.dns1.toNat, .int .u32 cf.dns2.toNat, .bool cf.want, .int .i64 cf.mn], .slice A n c] w fun e w' => e = .returned (.bool true) ∧ Below w.heap.size w w' := by
  cases h : mayC cf
  · exact walk_no cf A n c ss w hn hl h
  · exact walk_yes cf A n c ss w hn hl h
set_option maxRecDepth 100000 in
theorem lifted (os : Os) (started : os.Started) (H : Type) (enc : TypeId × Value → H) :
    ReturnsInHanded {} Try.checked os 3 .any (Rows.ipcppolPlaysSpec.pre6 enc Try.prog Try.f3 Rows.ipcppolPlaysRow.domain false) (Rows.ipcppolPlaysSpec.post enc Try.prog Try.f3 false true false false) := by
  refine returnsInHanded_of_change_sized (C := Try.checked) own started (by kernel_rfl) Try.func3
    (ChangeSpec.witness6 (enc := enc) (C := Try.checked) false ⟨#[], #[.agg #[.int .u32 0, .int .u32 0, .int .u32 0, .int .u32 0, .bool false, .int .i64 0], .slice none 0 0], []⟩ 8 (by kernel_rfl) (by kernel_rfl) (by kernel_rfl) (by kernel_rfl)) ?_
  intro W base args ds gs before hval0 hW hcnd hsz0 _
  have hsz : (DataW.weightsEach Try.prog (Try.f3.params.toList ++ Rows.ipcppolPlaysSpec.plain.varTypes Try.prog) (ds ++ gs)).all (· ≤ reachBytes) = true := hsz0
  have hval : ∀ (j : Nat) t v, Try.f3.params[j]? = some t → args[j]? = some v → Value.okWide Try.prog W .any base t v := hval0
  have hW' := hW
  obtain ⟨p, q, hA0, hV, rfl, hfz, hnd⟩ := hW
  have hlt := hW'.lt
  have hA : DataW.TrodAll enc Try.prog W 0 (fun _ => true) true Try.f3.params.toList args.toList ds p := hA0
  rw [Try.params3] at hA hval hsz
  obtain ⟨v0, vs0, d0, ds0, p0, q0, hargs, rfl, rfl, h0, r0⟩ := trodAll_cons hA
  obtain ⟨v1, vs1, d1, ds1, p1, q1, rfl, rfl, rfl, h1, r1⟩ := trodAll_cons r0
  obtain ⟨rfl, rfl, rfl⟩ := trodAll_nil r1
  obtain rfl : args = #[v0, v1] := by cases args; simp_all
  obtain ⟨rfl, rfl⟩ := trodVars_none hV
  obtain ⟨a0, rfl⟩ := conf_of Try.underlying24 (by kernel_rfl) (by kernel_rfl) Try.underlying22 Try.underlying22 Try.underlying22 Try.underlying22 Try.underlying4 Try.underlying3 (hval 0 24 v0 rfl rfl) h0
  obtain ⟨A1, n1, c1, rfl, m1, ss1, hT1⟩ := steps_of Try.underlying25 Try.underlying46 (by kernel_rfl) (by kernel_rfl) Try.underlying3 Try.underlying29 Try.underlying4 Try.underlying5 Try.underlying48 (by kernel_rfl) (by kernel_rfl) Try.underlying5 Try.underlying9 (hval 1 25 v1 rfl rfl) h1 (fun n hn => of_decide_eq_true (List.all_eq_true.1 hsz n (DataW.weights_mem_each (j := 1) (t := 25) rfl rfl n hn)))
  clear hA0 hval0 hsz0
  exact (walk a0 A1 n1 c1 ss1 W m1 hT1).mono fun e W' ⟨he, hb⟩ => ⟨_, he, law_post (t := 4) laidOut (by kernel_rfl) rfl rfl Try.underlying4 ⟨rfl, rfl, rfl⟩ hW' hb⟩

theorem over : Rows.ipcppolPlaysRow.holds Try.pinned (OpenSpec.ofChange Rows.ipcppolPlaysSpec) :=
  OpenClaim.holds_of_wide 3 Try.f3 rfl rfl rfl rfl rfl rfl rfl ⟨rfl, rfl, rfl, rfl, rfl⟩ rfl rfl rfl rfl rfl (by kernel_rfl) Try.func3 (by kernel_rfl)
    (of_decide_eq_true (by kernel_rfl)) (by unfold Func.isWrapper; first | (rw [if_pos (by decide +kernel)]; kernel_rfl) | (rw [if_neg (by decide +kernel)]; exact ⟨rfl, rfl⟩))
    (fun os started H enc _ => lifted os started H enc)

theorem proved : Rows.IpcppolPlaysSaid :=
  over
#print axioms proved
end Go.Proofs.Ythoangihndplkaa.IpcppolPlays
