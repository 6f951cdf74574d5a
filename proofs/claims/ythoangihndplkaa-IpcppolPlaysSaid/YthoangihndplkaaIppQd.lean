/- Contracts of the document's Acked, Naked. -/
import Derived.Test.YthoangihndplkaaGIppU
import Derived.Test.YthoangihndplkaaIppBa
set_option linter.unusedSimpArgs false
set_option linter.unusedVariables false
namespace Go.Proofs.Ythoangihndplkaa.Ipp
open Go.RowKit Go.Proofs.Ythoangihndplkaa.Oct Go.Proofs.Ythoangihndplkaa.Row Go.Proofs.Ythoangihndplkaa.Mem Go.Proofs.Ythoangihndplkaa.Opt Go.Proofs.Ythoangihndplkaa.Ipc

/-- What the document's reply answers. -/
def RRepQ (b : Bool) (q : Po) (g : Nat) (w : World) (e : Ending) (w' : World) : Prop := e = .returned (.bool b) ∧ RAt w' g q ∧ Moves (fun k => k = g) w w'
set_option maxHeartbeats 8000000 in
set_option maxRecDepth 100000 in
theorem racked_any (g : Nat) (p : Po) (l : List Opt) (A : Option Addr) (n c : Nat) (w : World) (h : RAt w g p) (hl : Opts w w.heap.size A n l) (hn : n ≤ 1000) :
    Calls Try.prog 40 #[.pointer (some ⟨g, 0, none⟩), .slice A n c] w (RRepQ (akB p l) (akP p l) g w) := by
  have HP := Lib.hid h
  have HL := Lib.hid hl
  have HR := Lib.hid (rrequest_any g p w h)
  have hlg : (put p.w).length ≤ 3 := put_len p.w
  clear h hl
  go_enter Try.func40, Try.ntmps40
  go_wp2_with fail
  refine HR.out.mono ?_
  rintro e w1 ⟨A2, c2, rfl, hO, hb1⟩
  have HP1 := Lib.hid (HP.out.callee hb1)
  have HB1 := Lib.hid hb1
  have HA := Lib.hid (same_rows l (put p.w) A A2 n (put p.w).length c c2 w1 ((HL.out.below hb1).more hb1.size) hO (by unfold maxLen; omega) (by unfold maxLen; omega))
  have HE : Hid (akB p l = sm l (put p.w)) := rfl
  clear HR hO hb1
  cases hs : sm l (put p.w)
  · have HE2 : Hid (akB p l = false ∧ akP p l = p) := by
      have e : akB p l = false := by rw [HE.out, hs]
      exact ⟨e, by unfold akP; rw [e]; rfl⟩
    rw [hs] at HA
    clear hs HE
    go_wp2_with fail
    refine HA.out.mono ?_
    rintro e w2 ⟨rfl, hb2⟩
    have HP2 := Lib.hid (HP1.out.callee hb2)
    have HB2 := Lib.hid (HB1.out.trans (hb2.mono HB1.out.size))
    clear hb2 HA
    go_wp2
    go_ret
    unfold RRepQ
    rw [HE2.out.1, HE2.out.2]
    exact ⟨rfl, HP2.out, Moves.of_below HB2.out⟩
  · have HE2 : Hid (akB p l = true ∧ akP p l = { p with mine := p.w }) := by
      have e : akB p l = true := by rw [HE.out, hs]
      exact ⟨e, by unfold akP; rw [e]; rfl⟩
    rw [hs] at HA
    clear hs HE
    go_wp2_with fail
    refine HA.out.mono ?_
    rintro e w2 ⟨rfl, hb2⟩
    have HP2 := Lib.hid (HP1.out.callee hb2)
    have HB2 := Lib.hid (HB1.out.trans (hb2.mono HB1.out.size))
    clear hb2 HA
    have p12 : w2.cell? ⟨g, 12, none⟩ = some (Value.bool p.mine.ha) := HP2.out.c 12
    have q12 := HP2.out.f 12
    have p13 : w2.cell? ⟨g, 13, none⟩ = some (Value.int .u32 p.mine.addr.toNat) := HP2.out.c 13
    have q13 := HP2.out.f 13
    have p14 : w2.cell? ⟨g, 14, none⟩ = some (Value.bool p.mine.h1) := HP2.out.c 14
    have q14 := HP2.out.f 14
    have p15 : w2.cell? ⟨g, 15, none⟩ = some (Value.int .u32 p.mine.dns1.toNat) := HP2.out.c 15
    have q15 := HP2.out.f 15
    have p16 : w2.cell? ⟨g, 16, none⟩ = some (Value.bool p.mine.h2) := HP2.out.c 16
    have q16 := HP2.out.f 16
    have p17 : w2.cell? ⟨g, 17, none⟩ = some (Value.int .u32 p.mine.dns2.toNat) := HP2.out.c 17
    have q17 := HP2.out.f 17
    have p6 : w2.cell? ⟨g, 6, none⟩ = some (Value.bool p.w.ha) := HP2.out.c 6
    have p7 : w2.cell? ⟨g, 7, none⟩ = some (Value.int .u32 p.w.addr.toNat) := HP2.out.c 7
    have p8 : w2.cell? ⟨g, 8, none⟩ = some (Value.bool p.w.h1) := HP2.out.c 8
    have p9 : w2.cell? ⟨g, 9, none⟩ = some (Value.int .u32 p.w.dns1.toNat) := HP2.out.c 9
    have p10 : w2.cell? ⟨g, 10, none⟩ = some (Value.bool p.w.h2) := HP2.out.c 10
    have p11 : w2.cell? ⟨g, 11, none⟩ = some (Value.int .u32 p.w.dns2.toNat) := HP2.out.c 11
    obtain ⟨V, hV⟩ : ∃ V, w2.setCells g 12 (lv p.w) = V := ⟨_, rfl⟩
    have HPV : Hid (RAt V g { p with mine := p.w }) := by show RAt _ _ _; rw [← hV]; exact HP2.out.setMine p.w
    have HMV : Hid (Moves (fun k => k = g) w V) := by show Moves _ _ _; rw [← hV]; exact (Moves.of_below HB2.out).trans (sets_moves _ _ _ _) (fun _ _ h => h)
    simp only [World.setCells, lv] at hV
    go_wp2
    go_ret
    unfold RRepQ
    rw [HE2.out.1, HE2.out.2]
    exact ⟨rfl, HPV.out, HMV.out⟩

/-! ### Naked -/
theorem step_may {a : Option (Ipc × List Opt)} {o : Opt} (h : ∀ x odd, a = some (x, odd) → may x = true) : ∀ x odd, Ipc.step a o = some (x, odd) → may x = true := by
  intro x odd he
  cases a with
  | none => cases he
  | some y =>
    obtain ⟨y, od⟩ := y
    have hy := h y od rfl
    unfold Ipc.step at he
    dsimp only at he
    split at he
    · rename_i hg
      split at he
      · cases he
      · cases he; exact say_may hy hg
    · cases he; exact hy
theorem fold_may : ∀ (l : List Opt) (a : Option (Ipc × List Opt)), (∀ x odd, a = some (x, odd) → may x = true) → ∀ x odd, l.foldl Ipc.step a = some (x, odd) → may x = true
  | [], _, h => h
  | _ :: l, _, h => fold_may l _ (step_may h)
theorem gL_may (l : List Opt) : may (Ipc.gL l) = true := by
  unfold Ipc.gL
  split
  · rename_i x o h
    exact fold_may l _ (fun x odd e => by cases e; rfl) x o h
  · rfl
theorem nk_doc {c : Conf} {w x : Ipc} (hx : may x = true) : nkW c w x (fun t => has t w) = ⟨w.ha, if x.ha && x.addr != 0 && w.ha && c.addr == 0 then x.addr else w.addr, w.h1, if x.h1 && x.dns1 != 0 && w.h1 then x.dns1 else w.dns1, w.h2, if x.h2 && x.dns2 != 0 && w.h2 then x.dns2 else w.dns2⟩ := by
  obtain ⟨h1, h2, h3⟩ := (may_iff x).1 hx
  have e1 : (if has 3 w && c.addr == 0 then or32 x.addr w.addr else w.addr) = if x.ha && x.addr != 0 && w.ha && c.addr == 0 then x.addr else w.addr := by
    show (if w.ha && c.addr == 0 then or32 x.addr w.addr else w.addr) = _
    unfold or32
    cases hx : x.ha
    · rw [h1 hx]; simp
    · by_cases hz : x.addr = 0 <;> cases w.ha <;> cases hc : (c.addr == 0) <;> simp [hz]
  have e2 : (if has 129 w then or32 x.dns1 w.dns1 else w.dns1) = if x.h1 && x.dns1 != 0 && w.h1 then x.dns1 else w.dns1 := by
    show (if w.h1 then or32 x.dns1 w.dns1 else w.dns1) = _
    unfold or32
    cases hx : x.h1
    · rw [h2 hx]; simp
    · by_cases hz : x.dns1 = 0 <;> cases w.h1 <;> simp [hz]
  have e3 : (if has 131 w then or32 x.dns2 w.dns2 else w.dns2) = if x.h2 && x.dns2 != 0 && w.h2 then x.dns2 else w.dns2 := by
    show (if w.h2 then or32 x.dns2 w.dns2 else w.dns2) = _
    unfold or32
    cases hx : x.h2
    · rw [h3 hx]; simp
    · by_cases hz : x.dns2 = 0 <;> cases w.h2 <;> simp [hz]
  unfold nkW
  rw [e1, e2, e3]
/-- What stands between the tests. -/
structure Nr (w W : World) (g : Nat) (q : Po) (b : Nat) (x : Ipc) : Prop where
  p : RAt W g q
  x : LAt W b x
  m : Moves (fun k => k = g) w W
  n : b ≠ g
theorem Nr.set {w W : World} {g : Nat} {q q' : Po} {b : Nat} {x : Ipc} (h : Nr w W g q b x) (i : Nat) (u : Value) (hp : RAt (W.setCell ⟨g, i, none⟩ u) g q') : Nr w (W.setCell ⟨g, i, none⟩ u) g q' b x :=
  ⟨hp, Blk.moves h.x (set_moves W g i u) h.n, h.m.trans (set_moves W g i u) (fun _ _ h => h), h.n⟩
theorem Nr.setAddr {w W : World} {g : Nat} {q : Po} {b : Nat} {x : Ipc} (h : Nr w W g q b x) (v : UInt32) : Nr w (W.setCell ⟨g, 7, none⟩ (.int .u32 v.toNat)) g { q with w := { q.w with addr := v } } b x := h.set 7 _ (h.p.setAddr v)
theorem Nr.setDns1 {w W : World} {g : Nat} {q : Po} {b : Nat} {x : Ipc} (h : Nr w W g q b x) (v : UInt32) : Nr w (W.setCell ⟨g, 9, none⟩ (.int .u32 v.toNat)) g { q with w := { q.w with dns1 := v } } b x := h.set 9 _ (h.p.setDns1 v)
theorem Nr.setDns2 {w W : World} {g : Nat} {q : Po} {b : Nat} {x : Ipc} (h : Nr w W g q b x) (v : UInt32) : Nr w (W.setCell ⟨g, 11, none⟩ (.int .u32 v.toNat)) g { q with w := { q.w with dns2 := v } } b x := h.set 11 _ (h.p.setDns2 v)
set_option maxHeartbeats 16000000 in
set_option maxRecDepth 100000 in
theorem rnaked_any (g : Nat) (p : Po) (l : List Opt) (A : Option Addr) (n c : Nat) (w : World) (h : RAt w g p) (hl : Opts w w.heap.size A n l) (hn : n ≤ 1000) :
    Calls Try.prog 41 #[.pointer (some ⟨g, 0, none⟩), .slice A n c] w (RRepQ (nkB l) (nkP p l) g w) := by
  have HG := Lib.hid (rget_row l A n c w hl (by omega))
  have HP := Lib.hid h
  have Hn := Lib.hid hl.1
  have hlt := Lib.hid h.lt
  clear h hl
  go_enter Try.func41, Try.ntmps41
  go_wp2_with fail
  refine HG.out.mono ?_
  rintro e w1 ⟨A1, c1, rfl, _, hb1⟩
  have HM1 : Hid (Moves (fun k => k = g) w w1) := Moves.of_below hb1
  have HP1 := Lib.hid (HP.out.callee hb1)
  have HGN : Hid (w1.heap.size ≠ g) := Nat.ne_of_gt (Nat.lt_of_lt_of_le hlt.out hb1.size)
  clear hb1 HG HP
  generalize (Ipc.gO l).length = n1
  by_cases hn0 : n = 0
  · subst hn0
    have HE : Hid (nkB l = false ∧ nkP p l = p) := by
      have e := List.length_eq_zero_iff.1 Hn.out
      show _ ∧ _
      rw [e]
      exact ⟨rfl, rfl⟩
    obtain ⟨V, hV, HV⟩ := boxL w1 (Ipc.gL l)
    have H0 : Hid (RAt V g p ∧ Moves (fun k => k = g) w V) := ⟨HP1.out.callee HV.out.2.1, HM1.out.trans (Moves.of_below HV.out.2.1) (fun _ _ h => h)⟩
    clear HV
    unfold lv
    go_wp2
    go_ret
    unfold RRepQ
    rw [HE.out.1, HE.out.2]
    exact ⟨rfl, H0.out.1, H0.out.2⟩
  · have hn1 : ((n : Int) == 0) = false := by rw [beq_eq_false_iff_ne]; omega
    have HNN : Hid (l ≠ []) := by show _ ≠ _; rintro rfl; exact hn0 (by rw [← Hn.out]; rfl)
    obtain ⟨V, hV, HV⟩ := boxL w1 (Ipc.gL l)
    have H0 : Hid (Nr w V g p w1.heap.size (Ipc.gL l)) := ⟨HP1.out.callee HV.out.2.1, HV.out.1, HM1.out.trans (Moves.of_below HV.out.2.1) (fun _ _ h => h), HGN.out⟩
    clear HV
    cases hst : Ipc.st l with
    | none =>
      have HE : Hid (nkB l = false ∧ nkP p l = p) := by
        have e : nkB l = false := by unfold nkB Ipc.gE; rw [hst]; simp
        exact ⟨e, by unfold nkP; rw [e]; rfl⟩
      rw [show (Ipc.gE l : Int) = 9 from by unfold Ipc.gE; rw [hst]; rfl]
      clear hst
      unfold lv
      go_wp2
      go_ret
      unfold RRepQ
      rw [HE.out.1, HE.out.2]
      exact ⟨rfl, H0.out.p, H0.out.m⟩
    | some y =>
      have HE : Hid (nkB l = true ∧ nkP p l = { p with w := ⟨p.w.ha, if (Ipc.gL l).ha && (Ipc.gL l).addr != 0 && p.w.ha && p.c.addr == 0 then (Ipc.gL l).addr else p.w.addr, p.w.h1, if (Ipc.gL l).h1 && (Ipc.gL l).dns1 != 0 && p.w.h1 then (Ipc.gL l).dns1 else p.w.dns1, p.w.h2, if (Ipc.gL l).h2 && (Ipc.gL l).dns2 != 0 && p.w.h2 then (Ipc.gL l).dns2 else p.w.dns2⟩ }) := by
        have e : nkB l = true := by unfold nkB Ipc.gE; rw [hst, decide_eq_true HNN.out]; rfl
        exact ⟨e, by unfold nkP; rw [e, if_pos rfl, nk_doc (gL_may l)]⟩
      rw [show (Ipc.gE l : Int) = 0 from by unfold Ipc.gE; rw [hst]; rfl]
      clear hst
      generalize Ipc.gL l = x at *
      unfold lv
      obtain ⟨xa, HX0⟩ : ∃ b, Hid (b = x.ha) := ⟨_, rfl⟩
      obtain ⟨xb, HX1⟩ : ∃ b, Hid (b = x.h1) := ⟨_, rfl⟩
      obtain ⟨xc, HX2⟩ : ∃ b, Hid (b = x.h2) := ⟨_, rfl⟩
      obtain ⟨wa, HY0⟩ : ∃ b, Hid (b = p.w.ha) := ⟨_, rfl⟩
      obtain ⟨wb, HY1⟩ : ∃ b, Hid (b = p.w.h1) := ⟨_, rfl⟩
      obtain ⟨wc_, HY2⟩ : ∃ b, Hid (b = p.w.h2) := ⟨_, rfl⟩
      have e1 := u32_ne0 x.addr
      have e2 := u32_ne0 x.dns1
      have e3 := u32_ne0 x.dns2
      have e4 := u32_eq0 p.c.addr
      rw [← HX0.out, ← HX1.out, ← HX2.out, ← HY0.out, ← HY1.out, ← HY2.out] at HE
      generalize (x.addr != 0) = xz at *
      generalize (x.dns1 != 0) = xy at *
      generalize (x.dns2 != 0) = xw at *
      generalize (p.c.addr == 0) = cz at *
      go_upto_region 4 with (fail)
      clear hV
      generalize w1.heap.size = b at *
      have l0 : V.cell? ⟨b, 0, none⟩ = some (.bool xa) := by rw [HX0.out]; exact H0.out.x.c 0
      have l1 : V.cell? ⟨b, 1, none⟩ = some (.int .u32 x.addr.toNat) := H0.out.x.c 1
      have l6 : V.cell? ⟨g, 6, none⟩ = some (.bool wa) := by rw [HY0.out]; exact H0.out.p.c 6
      have o7 : V.cell? ⟨g, 7, none⟩ = some (.int .u32 p.w.addr.toNat) := H0.out.p.c 7
      have f7 := H0.out.p.f 7
      have oc : V.cell? ⟨g, 0, none⟩ = some (.int .u32 p.c.addr.toNat) := H0.out.p.c 0
      go_cut [42] from 21 to 41 (fun s wx => s = .bool (xa && xz && wa && cz) ∧ wx = V)
      case first =>
        clear HE
        cases xa
        · go_wp2
          go_meet
          exact ⟨rfl, rfl⟩
        · cases xz
          · go_wp2
            go_meet
            exact ⟨rfl, rfl⟩
          · cases wa
            · go_wp2
              go_meet
              exact ⟨rfl, rfl⟩
            · cases cz
              · go_wp2
                go_meet
                exact ⟨rfl, rfl⟩
              · go_wp2
                go_meet
                exact ⟨rfl, rfl⟩
      case rest =>
      obtain ⟨rfl, rfl⟩ := hcut
      generalize wc = V at *
      cases hb0 : (xa && xz && wa && cz)
      · rw [hb0] at HE
        clear hb0 l0 l1 l6 o7 f7 oc
        go_upto_region 6 with (fail)
        have l2 : V.cell? ⟨b, 2, none⟩ = some (.bool xb) := by rw [HX1.out]; exact H0.out.x.c 2
        have l3 : V.cell? ⟨b, 3, none⟩ = some (.int .u32 x.dns1.toNat) := H0.out.x.c 3
        have l8 : V.cell? ⟨g, 8, none⟩ = some (.bool wb) := by rw [HY1.out]; exact H0.out.p.c 8
        have o9 : V.cell? ⟨g, 9, none⟩ = some (.int .u32 p.w.dns1.toNat) := H0.out.p.c 9
        have f9 := H0.out.p.f 9
        go_cut [62] from 49 to 61 (fun s wx => s = .bool (xb && xy && wb) ∧ wx = V)
        case first =>
          clear HE
          cases xb
          · go_wp2
            go_meet
            exact ⟨rfl, rfl⟩
          · cases xy
            · go_wp2
              go_meet
              exact ⟨rfl, rfl⟩
            · cases wb
              · go_wp2
                go_meet
                exact ⟨rfl, rfl⟩
              · go_wp2
                go_meet
                exact ⟨rfl, rfl⟩
        case rest =>
        obtain ⟨rfl, rfl⟩ := hcut
        generalize wc = V at *
        cases hb1 : (xb && xy && wb)
        · rw [hb1] at HE
          clear hb1 l2 l3 l8 o9 f9
          go_upto_region 8 with (fail)
          have l4 : V.cell? ⟨b, 4, none⟩ = some (.bool xc) := by rw [HX2.out]; exact H0.out.x.c 4
          have l5 : V.cell? ⟨b, 5, none⟩ = some (.int .u32 x.dns2.toNat) := H0.out.x.c 5
          have l10 : V.cell? ⟨g, 10, none⟩ = some (.bool wc_) := by rw [HY2.out]; exact H0.out.p.c 10
          have o11 : V.cell? ⟨g, 11, none⟩ = some (.int .u32 p.w.dns2.toNat) := H0.out.p.c 11
          have f11 := H0.out.p.f 11
          go_cut [82] from 69 to 81 (fun s wx => s = .bool (xc && xw && wc_) ∧ wx = V)
          case first =>
            clear HE
            cases xc
            · go_wp2
              go_meet
              exact ⟨rfl, rfl⟩
            · cases xw
              · go_wp2
                go_meet
                exact ⟨rfl, rfl⟩
              · cases wc_
                · go_wp2
                  go_meet
                  exact ⟨rfl, rfl⟩
                · go_wp2
                  go_meet
                  exact ⟨rfl, rfl⟩
          case rest =>
          obtain ⟨rfl, rfl⟩ := hcut
          generalize wc = V at *
          cases hb2 : (xc && xw && wc_)
          · rw [hb2] at HE
            clear hb2 l4 l5 l10 o11 f11
            go_wp2
            go_ret
            unfold RRepQ
            rw [HE.out.1, HE.out.2, HY0.out, HY1.out, HY2.out]
            exact ⟨rfl, by have h := H0.out.p; exact h, H0.out.m⟩
          · rw [hb2] at HE
            clear hb2
            obtain ⟨Vt, hVt⟩ : ∃ Vz : World, V.setCell ⟨g, 11, none⟩ (.int .u32 x.dns2.toNat) = Vz := ⟨_, rfl⟩
            have HA : Hid (Nr w Vt g ({ p with w := { p.w with dns2 := x.dns2 } }) b x) := by have h := H0.out.setDns2 x.dns2; rw [hVt] at h; exact h
            go_wp2_with fail
            clear hVt l4 l5 l10 o11 f11
            go_wp2
            go_ret
            unfold RRepQ
            rw [HE.out.1, HE.out.2, HY0.out, HY1.out, HY2.out]
            exact ⟨rfl, by have h := HA.out.p; exact h, HA.out.m⟩
        · rw [hb1] at HE
          clear hb1
          obtain ⟨Vt, hVt⟩ : ∃ Vz : World, V.setCell ⟨g, 9, none⟩ (.int .u32 x.dns1.toNat) = Vz := ⟨_, rfl⟩
          have HA : Hid (Nr w Vt g ({ p with w := { p.w with dns1 := x.dns1 } }) b x) := by have h := H0.out.setDns1 x.dns1; rw [hVt] at h; exact h
          go_upto_region 8 with (fail)
          clear hVt l2 l3 l8 o9 f9
          have l4 : Vt.cell? ⟨b, 4, none⟩ = some (.bool xc) := by rw [HX2.out]; exact HA.out.x.c 4
          have l5 : Vt.cell? ⟨b, 5, none⟩ = some (.int .u32 x.dns2.toNat) := HA.out.x.c 5
          have l10 : Vt.cell? ⟨g, 10, none⟩ = some (.bool wc_) := by rw [HY2.out]; exact HA.out.p.c 10
          have o11 : Vt.cell? ⟨g, 11, none⟩ = some (.int .u32 p.w.dns2.toNat) := HA.out.p.c 11
          have f11 := HA.out.p.f 11
          go_cut [82] from 69 to 81 (fun s wx => s = .bool (xc && xw && wc_) ∧ wx = Vt)
          case first =>
            clear HE
            cases xc
            · go_wp2
              go_meet
              exact ⟨rfl, rfl⟩
            · cases xw
              · go_wp2
                go_meet
                exact ⟨rfl, rfl⟩
              · cases wc_
                · go_wp2
                  go_meet
                  exact ⟨rfl, rfl⟩
                · go_wp2
                  go_meet
                  exact ⟨rfl, rfl⟩
          case rest =>
          obtain ⟨rfl, rfl⟩ := hcut
          generalize wc = Vt at *
          cases hb2 : (xc && xw && wc_)
          · rw [hb2] at HE
            clear hb2 l4 l5 l10 o11 f11
            go_wp2
            go_ret
            unfold RRepQ
            rw [HE.out.1, HE.out.2, HY0.out, HY1.out, HY2.out]
            exact ⟨rfl, by have h := HA.out.p; exact h, HA.out.m⟩
          · rw [hb2] at HE
            clear hb2
            obtain ⟨Vtt, hVtt⟩ : ∃ Vz : World, Vt.setCell ⟨g, 11, none⟩ (.int .u32 x.dns2.toNat) = Vz := ⟨_, rfl⟩
            have HC : Hid (Nr w Vtt g ({ p with w := { { p.w with dns1 := x.dns1 } with dns2 := x.dns2 } }) b x) := by have h := HA.out.setDns2 x.dns2; rw [hVtt] at h; exact h
            go_wp2_with fail
            clear hVtt l4 l5 l10 o11 f11
            go_wp2
            go_ret
            unfold RRepQ
            rw [HE.out.1, HE.out.2, HY0.out, HY1.out, HY2.out]
            exact ⟨rfl, by have h := HC.out.p; exact h, HC.out.m⟩
      · rw [hb0] at HE
        clear hb0
        obtain ⟨Vt, hVt⟩ : ∃ Vz : World, V.setCell ⟨g, 7, none⟩ (.int .u32 x.addr.toNat) = Vz := ⟨_, rfl⟩
        have HA : Hid (Nr w Vt g ({ p with w := { p.w with addr := x.addr } }) b x) := by have h := H0.out.setAddr x.addr; rw [hVt] at h; exact h
        go_upto_region 6 with (fail)
        clear hVt l0 l1 l6 o7 f7 oc
        have l2 : Vt.cell? ⟨b, 2, none⟩ = some (.bool xb) := by rw [HX1.out]; exact HA.out.x.c 2
        have l3 : Vt.cell? ⟨b, 3, none⟩ = some (.int .u32 x.dns1.toNat) := HA.out.x.c 3
        have l8 : Vt.cell? ⟨g, 8, none⟩ = some (.bool wb) := by rw [HY1.out]; exact HA.out.p.c 8
        have o9 : Vt.cell? ⟨g, 9, none⟩ = some (.int .u32 p.w.dns1.toNat) := HA.out.p.c 9
        have f9 := HA.out.p.f 9
        go_cut [62] from 49 to 61 (fun s wx => s = .bool (xb && xy && wb) ∧ wx = Vt)
        case first =>
          clear HE
          cases xb
          · go_wp2
            go_meet
            exact ⟨rfl, rfl⟩
          · cases xy
            · go_wp2
              go_meet
              exact ⟨rfl, rfl⟩
            · cases wb
              · go_wp2
                go_meet
                exact ⟨rfl, rfl⟩
              · go_wp2
                go_meet
                exact ⟨rfl, rfl⟩
        case rest =>
        obtain ⟨rfl, rfl⟩ := hcut
        generalize wc = Vt at *
        cases hb1 : (xb && xy && wb)
        · rw [hb1] at HE
          clear hb1 l2 l3 l8 o9 f9
          go_upto_region 8 with (fail)
          have l4 : Vt.cell? ⟨b, 4, none⟩ = some (.bool xc) := by rw [HX2.out]; exact HA.out.x.c 4
          have l5 : Vt.cell? ⟨b, 5, none⟩ = some (.int .u32 x.dns2.toNat) := HA.out.x.c 5
          have l10 : Vt.cell? ⟨g, 10, none⟩ = some (.bool wc_) := by rw [HY2.out]; exact HA.out.p.c 10
          have o11 : Vt.cell? ⟨g, 11, none⟩ = some (.int .u32 p.w.dns2.toNat) := HA.out.p.c 11
          have f11 := HA.out.p.f 11
          go_cut [82] from 69 to 81 (fun s wx => s = .bool (xc && xw && wc_) ∧ wx = Vt)
          case first =>
            clear HE
            cases xc
            · go_wp2
              go_meet
              exact ⟨rfl, rfl⟩
            · cases xw
              · go_wp2
                go_meet
                exact ⟨rfl, rfl⟩
              · cases wc_
                · go_wp2
                  go_meet
                  exact ⟨rfl, rfl⟩
                · go_wp2
                  go_meet
                  exact ⟨rfl, rfl⟩
          case rest =>
          obtain ⟨rfl, rfl⟩ := hcut
          generalize wc = Vt at *
          cases hb2 : (xc && xw && wc_)
          · rw [hb2] at HE
            clear hb2 l4 l5 l10 o11 f11
            go_wp2
            go_ret
            unfold RRepQ
            rw [HE.out.1, HE.out.2, HY0.out, HY1.out, HY2.out]
            exact ⟨rfl, by have h := HA.out.p; exact h, HA.out.m⟩
          · rw [hb2] at HE
            clear hb2
            obtain ⟨Vtt, hVtt⟩ : ∃ Vz : World, Vt.setCell ⟨g, 11, none⟩ (.int .u32 x.dns2.toNat) = Vz := ⟨_, rfl⟩
            have HC : Hid (Nr w Vtt g ({ p with w := { { p.w with addr := x.addr } with dns2 := x.dns2 } }) b x) := by have h := HA.out.setDns2 x.dns2; rw [hVtt] at h; exact h
            go_wp2_with fail
            clear hVtt l4 l5 l10 o11 f11
            go_wp2
            go_ret
            unfold RRepQ
            rw [HE.out.1, HE.out.2, HY0.out, HY1.out, HY2.out]
            exact ⟨rfl, by have h := HC.out.p; exact h, HC.out.m⟩
        · rw [hb1] at HE
          clear hb1
          obtain ⟨Vtt, hVtt⟩ : ∃ Vz : World, Vt.setCell ⟨g, 9, none⟩ (.int .u32 x.dns1.toNat) = Vz := ⟨_, rfl⟩
          have HC : Hid (Nr w Vtt g ({ p with w := { { p.w with addr := x.addr } with dns1 := x.dns1 } }) b x) := by have h := HA.out.setDns1 x.dns1; rw [hVtt] at h; exact h
          go_upto_region 8 with (fail)
          clear hVtt l2 l3 l8 o9 f9
          have l4 : Vtt.cell? ⟨b, 4, none⟩ = some (.bool xc) := by rw [HX2.out]; exact HC.out.x.c 4
          have l5 : Vtt.cell? ⟨b, 5, none⟩ = some (.int .u32 x.dns2.toNat) := HC.out.x.c 5
          have l10 : Vtt.cell? ⟨g, 10, none⟩ = some (.bool wc_) := by rw [HY2.out]; exact HC.out.p.c 10
          have o11 : Vtt.cell? ⟨g, 11, none⟩ = some (.int .u32 p.w.dns2.toNat) := HC.out.p.c 11
          have f11 := HC.out.p.f 11
          go_cut [82] from 69 to 81 (fun s wx => s = .bool (xc && xw && wc_) ∧ wx = Vtt)
          case first =>
            clear HE
            cases xc
            · go_wp2
              go_meet
              exact ⟨rfl, rfl⟩
            · cases xw
              · go_wp2
                go_meet
                exact ⟨rfl, rfl⟩
              · cases wc_
                · go_wp2
                  go_meet
                  exact ⟨rfl, rfl⟩
                · go_wp2
                  go_meet
                  exact ⟨rfl, rfl⟩
          case rest =>
          obtain ⟨rfl, rfl⟩ := hcut
          generalize wc = Vtt at *
          cases hb2 : (xc && xw && wc_)
          · rw [hb2] at HE
            clear hb2 l4 l5 l10 o11 f11
            go_wp2
            go_ret
            unfold RRepQ
            rw [HE.out.1, HE.out.2, HY0.out, HY1.out, HY2.out]
            exact ⟨rfl, by have h := HC.out.p; exact h, HC.out.m⟩
          · rw [hb2] at HE
            clear hb2
            obtain ⟨Vttt, hVttt⟩ : ∃ Vz : World, Vtt.setCell ⟨g, 11, none⟩ (.int .u32 x.dns2.toNat) = Vz := ⟨_, rfl⟩
            have HD : Hid (Nr w Vttt g ({ p with w := { { { p.w with addr := x.addr } with dns1 := x.dns1 } with dns2 := x.dns2 } }) b x) := by have h := HC.out.setDns2 x.dns2; rw [hVttt] at h; exact h
            go_wp2_with fail
            clear hVttt l4 l5 l10 o11 f11
            go_wp2
            go_ret
            unfold RRepQ
            rw [HE.out.1, HE.out.2, HY0.out, HY1.out, HY2.out]
            exact ⟨rfl, by have h := HD.out.p; exact h, HD.out.m⟩
end Go.Proofs.Ythoangihndplkaa.Ipp
