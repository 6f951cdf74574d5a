/- Put together: AthH, AthI, AthJ, AthP. -/
import Derived.Test.YtpfbknbloeilmaaDoorAthG

/- A server: what it does with a packet, busy, or done. -/
namespace Go.Proofs.YtpfbknbloeilmaaDoor.Ath
open Go.RowKit Go.Proofs.YtpfbknbloeilmaaDoor.Oct Go.Proofs.YtpfbknbloeilmaaDoor.Row Go.Proofs.YtpfbknbloeilmaaDoor.Mem Go.Proofs.YtpfbknbloeilmaaDoor.Md5

theorem good_well {s : Sv} {i : In} (hc : claims s i.p = true) (h2 : s.st = 2 → nameIn s i.p = s.who) : goodB s i (nameIn s i.p) = (i.known && well s i.p i.secret) := by
  unfold goodB well
  congr 1
  cases hp : pap s.c
  · simp only [Bool.false_eq_true, if_false]
    by_cases h : s.st = 2
    · rw [decide_eq_true (h2 h)]; simp
    · rw [decide_eq_false h]; simp
  · simp only [if_true]
    have h1 : s.st = 1 := by
      unfold claims at hc
      rw [if_pos hp] at hc
      simp only [Bool.and_eq_true, decide_eq_true_eq] at hc
      exact hc.1
    obtain ⟨hn, hq⟩ := claims_pap i.p hp h1
    rw [hc] at hq
    have hE : Pap.asE i.p.c i.p.d = 0 := of_decide_eq_true hq.symm
    unfold Pap.ckB
    rw [hn, hE]
    simp
theorem pack_no {s : Sv} {p : Pk} {secret : ByteArray} {known : Bool} (hc : claims s p = false) : packS s p secret known = s := by
  unfold packS; rw [hc]; rfl
/-- What is not good. -/
theorem pack_bad {s : Sv} {p : Pk} {secret : ByteArray} {known : Bool} (hi : Inv s) (hc : claims s p = true) (hw : (known && well s p secret) = false) : pv (reS s) = pv (packS s p secret known) ∧ reO s p.i = packO s p secret known := by
  unfold packS packO reS reO
  rw [hc, hw]
  simp only [if_true, Bool.false_eq_true, if_false]
  cases hp : pap s.c
  · simp only [Bool.false_eq_true, if_false, Bool.not_false, Bool.true_or, if_true]
    refine ⟨?_, rfl⟩
    unfold pv mcS rS loseS
    simp only [hp, Bool.false_eq_true, if_false]
  · simp only [if_true, Bool.not_true, Bool.false_or]
    by_cases hd : s.c.tries ≤ s.bad + 1
    · rw [if_pos hd, if_pos hd, decide_eq_true hd, if_pos rfl]
      refine ⟨?_, rfl⟩
      unfold pv mcS rS
      simp only [hi.po hp]
    · rw [if_neg hd, if_neg hd, decide_eq_false hd, if_neg (by decide)]
      exact ⟨rfl, rfl⟩
/-- What is good. -/
theorem pack_good {s : Sv} {p : Pk} {secret : ByteArray} {known : Bool} (hc : claims s p = true) (hw : (known && well s p secret) = true) : pv (packS s p secret known) = pv (acS { s with st := if s.st = 1 then 2 else s.st, who := if s.st = 1 then nameIn s p else s.who } p) ∧ packO s p secret known = ⟨decide (s.st = 1), false, if s.st = 1 then nameIn s p else bOf [], [ans s.c p.i true]⟩ := by
  unfold packS packO
  rw [hc, hw]
  exact ⟨rfl, rfl⟩
set_option maxHeartbeats 4000000 in
set_option maxRecDepth 100000 in
theorem evaluate_any (g : Nat) (s : Sv) (i : In) (w : World) (h : SAt w g s) (hi : Inv s) (h1 : s.st = 1) (hG : Globs w) (hd : i.p.d.size ≤ maxLen) (hs1 : i.secret.size ≤ 8192) :
    Calls Tryd.prog 43 #[ptr g, inV i] w (OutQ g (pv (packS s i.p i.secret i.known)) 67 (packO s i.p i.secret i.known) w) := by
  obtain ⟨V, hV, hs, HP, HB, HX⟩ := start_two h (inC i) 77
  unfold inC at hV
  have x0 := HX.out.at_ 0
  have x1 := HX.out.at_ 1
  have x2 := HX.out.at_ 2
  have x3 := HX.out.at_ 3
  have x4 := HX.out.at_ 4
  have x5 := HX.out.at_ 5
  unfold inC at x0 x1 x2 x3 x4 x5
  simp only [List.getElem?_cons_zero, List.getElem?_cons_succ] at x0 x1 x2 x3 x4 x5
  have HGV := Lib.hid (hG.below HB.out)
  have HC := Lib.hid (claims_any g s i.p V HP.out.blk hd hi.vl)
  cases hc : claims s i.p
  · rw [pack_no hc, show packO s i.p i.secret i.known = no from by unfold packO; rw [hc]; simp [h1]]
    unfold ClQ at HC
    rw [hc] at HC
    have HS : Hid (∀ W, SAt W g s → Calls Tryd.prog 25 #[.slice none 0 0] W (OutQ g (pv s) 67 no W)) := fun W hW => send_none W hW
    unfold SAt at HS
    generalize nameIn s i.p = nm at *
    generalize pv s = ps at *
    clear h hi h1 hG hd hs1 hs hc HGV
    unfold ptr inV inC at *
    go_enter Tryd.func43, Tryd.ntmps43
    go_wp2_with fail
    refine HC.out.mono ?_
    rintro e w1 ⟨rfl, hb⟩
    have HP1 := Lib.hid (HP.out.below hb)
    clear hb
    go_wp2_with fail
    refine (HS.out _ HP1.out.blk).mono ?_
    rintro e w5 ⟨A, c, rfl, hr, hx, hm⟩
    have HP9 := Lib.hid (HP1.out.moves hm hx)
    have HF := HP1.out.fin (no) (n := 0) (d := false) (f := false) (nm := bOf []) rfl rfl rfl rfl hr hx hm
    unfold outV outC no
    (try simp only [List.length_cons, List.length_nil])
    clear hr hx hm
    have c0 := HP9.out.o0
    have c1 := HP9.out.o1
    have c2 := HP9.out.o2
    have c3 := HP9.out.o3
    have f0 := HP9.out.of 0
    have f1 := HP9.out.of 1
    have f2 := HP9.out.of 2
    have f3 := HP9.out.of 3
    go_wp2
    (try simp only [Exit.inBlock, Exit.then])
    refine bodyPost_ret (results_out rfl rfl (by exact HF.out.1)) rfl ?_
    exact HF.out.2
  · have hv : s.value.size ≤ 255 ∨ s.opn = false := by
      cases ho : s.opn
      · exact .inr rfl
      · exact .inl (by rw [hi.vl ho]; decide)
    have hoc : pap s.c = false → s.opn = true := fun hp => by
      unfold claims at hc
      rw [if_neg (by rw [hp]; decide)] at hc
      simp only [Bool.and_eq_true] at hc
      exact hc.1.1.1
    have HI : Hid (∀ W, SAt W g s → Globs W → Calls Tryd.prog 67 #[ptr g, inV i, .string (nameIn s i.p)] W fun e w' => e = .returned (.bool (i.known && well s i.p i.secret)) ∧ Below W.heap.size W w') := fun W hW hGW => by
      rw [← good_well hc (fun e => by omega)]
      cases hp : pap s.c
      · exact isGood_any g s i (nameIn s i.p) W hW hGW hd hs1 (by rw [hi.vl (hoc hp)]; decide) hoc
      · exact isGood_pap g s i (nameIn s i.p) W hW hd hp
    unfold ClQ at HC
    rw [hc] at HC
    cases hw : (i.known && well s i.p i.secret)
    · obtain ⟨e1, e2⟩ := pack_bad hi hc hw
      rw [← e1, ← e2]
      rw [hw] at HI
      have HS : Hid (∀ W, SAt W g s → Calls Tryd.prog 68 #[ptr g, .agg #[.int .u8 i.p.c.toNat, .int .u8 i.p.i.toNat, .string i.p.d]] W (OutQ g (pv (reS s)) 67 (reO s i.p.i) W)) := fun W hW => refuse_any g s i.p W hW hi.bd0 hi.bd1 (pap_kind hi)
      unfold SAt at HS HI
      generalize pv (reS s) = cs at *
      generalize reO s i.p.i = O at *
      generalize nameIn s i.p = nm at *
      generalize pv s = ps at *
      clear h hi h1 hG hd hs1 hs hc hv hoc hw e1 e2
      unfold ptr inV inC at *
      go_enter Tryd.func43, Tryd.ntmps43
      go_wp2_with fail
      refine HC.out.mono ?_
      rintro e w1 ⟨rfl, hb⟩
      have HP1 := Lib.hid (HP.out.below hb)
      have HG1 := Lib.hid (HGV.out.below hb)
      have HX1 := Lib.hid (HX.out.callee hb)
      clear hb x0 x1 x2 x3 x4 x5
      have x0 := HX1.out.at_ 0
      have x1 := HX1.out.at_ 1
      have x2 := HX1.out.at_ 2
      have x3 := HX1.out.at_ 3
      have x4 := HX1.out.at_ 4
      have x5 := HX1.out.at_ 5
      simp only [List.getElem?_cons_zero, List.getElem?_cons_succ] at x0 x1 x2 x3 x4 x5
      go_wp2_with fail
      refine (HI.out _ HP1.out.blk HG1.out).mono ?_
      rintro e w2 ⟨rfl, hb⟩
      have HP2 := Lib.hid (HP1.out.below hb)
      have HX2 := Lib.hid (HX1.out.callee hb)
      clear hb x0 x1 x2 x3 x4 x5
      have x0 := HX2.out.at_ 0
      have x1 := HX2.out.at_ 1
      have x2 := HX2.out.at_ 2
      have x3 := HX2.out.at_ 3
      have x4 := HX2.out.at_ 4
      have x5 := HX2.out.at_ 5
      simp only [List.getElem?_cons_zero, List.getElem?_cons_succ] at x0 x1 x2 x3 x4 x5
      go_wp2_with fail
      refine (HS.out _ HP2.out.blk).mono ?_
      rintro e w5 ⟨A, c, rfl, hr, hx, hm⟩
      have HP9 := Lib.hid (HP2.out.moves hm hx)
      have HF := HP2.out.fin O rfl rfl rfl rfl hr hx hm
      unfold outV outC
      generalize O.pkts.length = n at *
      clear hr hx hm
      have c0 := HP9.out.o0
      have c1 := HP9.out.o1
      have c2 := HP9.out.o2
      have c3 := HP9.out.o3
      have f0 := HP9.out.of 0
      have f1 := HP9.out.of 1
      have f2 := HP9.out.of 2
      have f3 := HP9.out.of 3
      go_wp2
      (try simp only [Exit.inBlock, Exit.then])
      refine bodyPost_ret (results_out rfl rfl (by exact HF.out.1)) rfl ?_
      exact HF.out.2
    · obtain ⟨e1, e2⟩ := pack_good hc hw
      rw [e1, e2, if_pos h1, if_pos h1, if_pos h1, decide_eq_true h1]
      rw [hw] at HI
      have e3 : ((pv s).set 4 (.int .u8 2)).set 10 (.string (nameIn s i.p)) = pv { s with st := 2, who := nameIn s i.p } := rfl
      have HS : Hid (∀ W, SAt W g { s with st := 2, who := nameIn s i.p } → Calls Tryd.prog 69 #[ptr g, .agg #[.int .u8 i.p.c.toNat, .int .u8 i.p.i.toNat, .string i.p.d]] W (OutQ g (pv (acS { s with st := 2, who := nameIn s i.p } i.p)) 67 (sends [ans s.c i.p.i true]) W)) := fun W hW => accept_any g { s with st := 2, who := nameIn s i.p } i.p W hW
      have HT4 : Hid (∃ a, (pv s)[4]? = some (.int .u8 a)) := ⟨_, rfl⟩
      have HT10 : Hid (∃ a, (pv s)[10]? = some (.string a)) := ⟨_, rfl⟩
      unfold SAt at HS HI
      generalize pv (acS { s with st := 2, who := nameIn s i.p } i.p) = cs at *
      generalize ans s.c i.p.i true = P at *
      rw [← e3] at HS
      generalize nameIn s i.p = nm at *
      generalize pv s = ps at *
      clear h hi h1 hG hd hs1 hs hc hv hoc hw e1 e2 e3
      unfold ptr inV inC at *
      go_enter Tryd.func43, Tryd.ntmps43
      go_wp2_with fail
      refine HC.out.mono ?_
      rintro e w1 ⟨rfl, hb⟩
      have HP1 := Lib.hid (HP.out.below hb)
      have HG1 := Lib.hid (HGV.out.below hb)
      have HX1 := Lib.hid (HX.out.callee hb)
      clear hb x0 x1 x2 x3 x4 x5
      have x0 := HX1.out.at_ 0
      have x1 := HX1.out.at_ 1
      have x2 := HX1.out.at_ 2
      have x3 := HX1.out.at_ 3
      have x4 := HX1.out.at_ 4
      have x5 := HX1.out.at_ 5
      simp only [List.getElem?_cons_zero, List.getElem?_cons_succ] at x0 x1 x2 x3 x4 x5
      go_wp2_with fail
      refine (HI.out _ HP1.out.blk HG1.out).mono ?_
      rintro e w2 ⟨rfl, hb⟩
      have HP2 := Lib.hid (HP1.out.below hb)
      have HX2 := Lib.hid (HX1.out.callee hb)
      clear hb x0 x1 x2 x3 x4 x5
      have x0 := HX2.out.at_ 0
      have x1 := HX2.out.at_ 1
      have x2 := HX2.out.at_ 2
      have x3 := HX2.out.at_ 3
      have x4 := HX2.out.at_ 4
      have x5 := HX2.out.at_ 5
      simp only [List.getElem?_cons_zero, List.getElem?_cons_succ] at x0 x1 x2 x3 x4 x5
      have HP3 := Lib.hid ((HP2.out.set 4 (.int .u8 2)).set 10 (.string nm))
      obtain ⟨a4, ha4⟩ := HT4.out
      obtain ⟨a10, ha10⟩ := HT10.out
      have q4 : w2.cell? ⟨g, 4, none⟩ = some (.int .u8 a4) := (HP2.out.c 4).trans ha4
      have q10 : w2.cell? ⟨g, 10, none⟩ = some (.string a10) := (HP2.out.c 10).trans ha10
      have f4 := HP2.out.f 4
      have f10 := HP2.out.f 10
      have ng : ¬ w.heap.size = g := by have := HP.out.hg; omega
      have ng' : ¬ g = w.heap.size := fun e => ng e.symm
      go_wp2_with fail
      refine (HS.out _ HP3.out.blk).mono ?_
      rintro e w5 ⟨A, c, rfl, hr, hx, hm⟩
      have HP9 := Lib.hid ((HP3.out.moves hm hx).alloc (.cells #[.slice A 1 c, .bool true, .bool false, .string nm] 39))
      have HF := HP3.out.fin (⟨true, false, nm, [P]⟩ : Ot) (n := 1) (d := true) (f := false) (nm := nm) rfl rfl rfl rfl ((Moves.of_below (S := fun _ => False) ((Below.refl _ w5).alloc (Nat.le_refl _) (.cells #[.slice A 1 c, .bool true, .bool false, .string nm] 39))).row hr (fun _ _ e => e)) HP9.out.blk (hm.alloc _)
      unfold outV outC sends
      simp only [List.length_cons, List.length_nil]
      clear hr hx hm
      have c0 := HP9.out.o0
      have c1 := HP9.out.o1
      have c2 := HP9.out.o2
      have c3 := HP9.out.o3
      have f0 := HP9.out.of 0
      have f1 := HP9.out.of 1
      have f2 := HP9.out.of 2
      have f3 := HP9.out.of 3
      go_wp2
      (try simp only [Exit.inBlock, Exit.then])
      refine bodyPost_ret (results_out rfl rfl (by exact HF.out.1)) rfl ?_
      exact HF.out.2
end Go.Proofs.YtpfbknbloeilmaaDoor.Ath

/- A server that is done: what it does with a packet. -/
namespace Go.Proofs.YtpfbknbloeilmaaDoor.Ath
open Go.RowKit Go.Proofs.YtpfbknbloeilmaaDoor.Oct Go.Proofs.YtpfbknbloeilmaaDoor.Row Go.Proofs.YtpfbknbloeilmaaDoor.Mem Go.Proofs.YtpfbknbloeilmaaDoor.Md5

theorem str_eqb (s t : ByteArray) : (s.toList == t.toList) = decide (s = t) := by
  rw [beq_toList]
  by_cases h : s = t
  · subst h; simp
  · rw [decide_eq_false h, decide_eq_false fun e => h (toList_inj e)]
/-- A packet that is not claimed. -/
def lastB (s : Sv) (p : Pk) : Bool := decide (p.c = s.last.c ∧ p.i = s.last.i ∧ p.d = s.last.d)
theorem done_last {s : Sv} {p : Pk} {secret : ByteArray} {known : Bool} (hi : Inv s) (h2 : s.st = 2) (hc : claims s p = false) : packO s p secret known = if lastB s p then sends [ans s.c p.i true] else no := by
  unfold packO lastB
  rw [hc]
  simp only [Bool.false_eq_true, if_false]
  by_cases h : p.c = s.last.c ∧ p.i = s.last.i ∧ p.d = s.last.d
  · rw [if_pos ⟨h2, h⟩, decide_eq_true h, if_pos rfl, hi.rp h2, h.2.1]
  · rw [if_neg (fun e => h e.2), decide_eq_false h, if_neg (by decide)]
set_option maxHeartbeats 4000000 in
set_option maxRecDepth 100000 in
theorem reevaluate_any (g : Nat) (s : Sv) (i : In) (w : World) (h : SAt w g s) (hi : Inv s) (h1 : s.st = 2) (hG : Globs w) (hd : i.p.d.size ≤ maxLen) (hs1 : i.secret.size ≤ 8192) :
    Calls Tryd.prog 44 #[ptr g, inV i] w (OutQ g (pv (packS s i.p i.secret i.known)) 67 (packO s i.p i.secret i.known) w) := by
  obtain ⟨V, hV, hs, HP, HB, HX⟩ := start_two h (inC i) 77
  unfold inC at hV
  have x0 := HX.out.at_ 0
  have x1 := HX.out.at_ 1
  have x2 := HX.out.at_ 2
  have x3 := HX.out.at_ 3
  have x4 := HX.out.at_ 4
  have x5 := HX.out.at_ 5
  unfold inC at x0 x1 x2 x3 x4 x5
  simp only [List.getElem?_cons_zero, List.getElem?_cons_succ] at x0 x1 x2 x3 x4 x5
  have HGV := Lib.hid (hG.below HB.out)
  have HC := Lib.hid (claims_any g s i.p V HP.out.blk hd hi.vl)
  have q11 : Hid ((pv s)[11]? = some (.int .u8 s.last.c.toNat) ∧ (pv s)[12]? = some (.int .u8 s.last.i.toNat) ∧ (pv s)[13]? = some (.string s.last.d) ∧ (pv s)[10]? = some (.string s.who)) := ⟨rfl, rfl, rfl, rfl⟩
  cases hc : claims s i.p
  · rw [pack_no hc, done_last hi h1 hc]
    unfold ClQ at HC
    rw [hc] at HC
    have HE := Lib.hid (fun W => pk_eql (r := lastB s i.p) (c := i.p.c) (c' := s.last.c) (i := i.p.i) (i' := s.last.i) (s := i.p.d) (s' := s.last.d) rfl W)
    generalize nameIn s i.p = nm at *
    cases hl : lastB s i.p
    · simp only [Bool.false_eq_true, if_false]
      rw [hl] at HE
      have HS : Hid (∀ W, SAt W g s → Calls Tryd.prog 25 #[.slice none 0 0] W (OutQ g (pv s) 67 no W)) := fun W hW => send_none W hW
      unfold SAt at HS
      generalize s.last = L at *
      generalize s.who = wh at *
      generalize pv s = ps at *
      clear h hi h1 hG hd hs1 hs hc HGV hl
      unfold ptr inV inC at *
      go_enter Tryd.func44, Tryd.ntmps44
      go_wp2_with fail
      refine HC.out.mono ?_
      rintro e w1 ⟨rfl, hb⟩
      have HP1 := Lib.hid (HP.out.below hb)
      have HX1 := Lib.hid (HX.out.callee hb)
      clear hb
      clear x0 x1 x2 x3 x4 x5
      have x0 := HX1.out.at_ 0
      have x1 := HX1.out.at_ 1
      have x2 := HX1.out.at_ 2
      have x3 := HX1.out.at_ 3
      have x4 := HX1.out.at_ 4
      have x5 := HX1.out.at_ 5
      simp only [List.getElem?_cons_zero, List.getElem?_cons_succ] at x0 x1 x2 x3 x4 x5
      have c11 := (HP1.out.c 11).trans q11.out.1
      have c12 := (HP1.out.c 12).trans q11.out.2.1
      have c13 := (HP1.out.c 13).trans q11.out.2.2.1
      have hE := HE.out
      go_wp2
      go_quiet (fail)
      have HP2 := Lib.hid (HP1.out.drewN nq)
      go_wp2_with fail
      refine (HS.out _ HP2.out.blk).mono ?_
      rintro e w5 ⟨A, c, rfl, hr, hx, hm⟩
      have HP9 := Lib.hid (HP2.out.moves hm hx)
      have HF := HP2.out.fin (no) (n := 0) (d := false) (f := false) (nm := bOf []) rfl rfl rfl rfl hr hx hm
      unfold outV outC no
      (try simp only [List.length_cons, List.length_nil])
      clear hr hx hm
      have c0 := HP9.out.o0
      have c1 := HP9.out.o1
      have c2 := HP9.out.o2
      have c3 := HP9.out.o3
      have f0 := HP9.out.of 0
      have f1 := HP9.out.of 1
      have f2 := HP9.out.of 2
      have f3 := HP9.out.of 3
      go_wp2
      (try simp only [Exit.inBlock, Exit.then])
      refine bodyPost_ret (results_out rfl rfl (by exact HF.out.1)) rfl ?_
      exact HF.out.2
    · simp only [if_true]
      rw [hl] at HE
      have HA : Hid (∀ W, SAt W g s → Calls Tryd.prog 70 #[ptr g, .int .u8 i.p.i.toNat, .bool true] W (AnsQ (ans s.c i.p.i true) W)) := fun W hW => answer_any g s i.p.i true W hW
      have HS : Hid (∀ W v l, SAt W g s → Sn W g v l → Calls Tryd.prog 25 #[v] W (OutQ g (pv s) 67 (sends l) W)) := fun W v l hW hv => send_any W hW hv
      unfold SAt at HS HA
      generalize s.last = L at *
      generalize s.who = wh at *
      generalize ans s.c i.p.i true = P at *
      generalize pv s = ps at *
      clear h hi h1 hG hd hs1 hs hc HGV hl
      unfold ptr inV inC at *
      go_enter Tryd.func44, Tryd.ntmps44
      go_wp2_with fail
      refine HC.out.mono ?_
      rintro e w1 ⟨rfl, hb⟩
      have HP1 := Lib.hid (HP.out.below hb)
      have HX1 := Lib.hid (HX.out.callee hb)
      clear hb
      clear x0 x1 x2 x3 x4 x5
      have x0 := HX1.out.at_ 0
      have x1 := HX1.out.at_ 1
      have x2 := HX1.out.at_ 2
      have x3 := HX1.out.at_ 3
      have x4 := HX1.out.at_ 4
      have x5 := HX1.out.at_ 5
      simp only [List.getElem?_cons_zero, List.getElem?_cons_succ] at x0 x1 x2 x3 x4 x5
      have c11 := (HP1.out.c 11).trans q11.out.1
      have c12 := (HP1.out.c 12).trans q11.out.2.1
      have c13 := (HP1.out.c 13).trans q11.out.2.2.1
      have hE := HE.out
      go_wp2
      go_quiet (fail)
      have HP2 := Lib.hid (HP1.out.drewN nq)
      go_wp2_with fail
      refine (HA.out _ HP2.out.blk).mono ?_
      rintro e w2 ⟨rfl, hb⟩
      have HP3 := Lib.hid (HP2.out.below hb)
      have HP4 := Lib.hid (HP3.out.alloc (.cells #[.int .u8 P.c.toNat, .int .u8 P.i.toNat, .string P.d] 46))
      have HS4 := Lib.hid (HS.out _ _ _ HP4.out.blk (sn_new w2 g P 46 1 HP3.out.blk.lt))
      clear hb
      unfold pkA
      go_wp2_with fail
      refine HS4.out.mono ?_
      rintro e w5 ⟨A, c, rfl, hr, hx, hm⟩
      have HP9 := Lib.hid (HP4.out.moves hm hx)
      have HF := HP4.out.fin (sends [P]) (n := 1) (d := false) (f := false) (nm := bOf []) rfl rfl rfl rfl hr hx hm
      unfold outV outC sends
      (try simp only [List.length_cons, List.length_nil])
      clear hr hx hm
      have c0 := HP9.out.o0
      have c1 := HP9.out.o1
      have c2 := HP9.out.o2
      have c3 := HP9.out.o3
      have f0 := HP9.out.of 0
      have f1 := HP9.out.of 1
      have f2 := HP9.out.of 2
      have f3 := HP9.out.of 3
      go_wp2
      (try simp only [Exit.inBlock, Exit.then])
      refine bodyPost_ret (results_out rfl rfl (by exact HF.out.1)) rfl ?_
      exact HF.out.2
  · have hp : pap s.c = false := by
      cases hp : pap s.c
      · rfl
      · unfold claims at hc
        rw [if_pos hp, h1] at hc
        simp at hc
    have ho : s.opn = true := by
      unfold claims at hc
      rw [if_neg (by rw [hp]; decide)] at hc
      simp only [Bool.and_eq_true] at hc
      exact hc.1.1.1
    have hv : s.value.size ≤ 255 := by rw [hi.vl ho]; decide
    unfold ClQ at HC
    rw [hc] at HC
    have HI : Hid (∀ W, SAt W g s → Globs W → Calls Tryd.prog 67 #[ptr g, inV i, .string (nameIn s i.p)] W fun e w' => e = .returned (.bool (goodB s i (nameIn s i.p))) ∧ Below W.heap.size W w') := fun W hW hGW => isGood_any g s i (nameIn s i.p) W hW hGW hd hs1 hv (fun _ => ho)
    have HR : Hid (∀ W, SAt W g s → Calls Tryd.prog 68 #[ptr g, .agg #[.int .u8 i.p.c.toNat, .int .u8 i.p.i.toNat, .string i.p.d]] W (OutQ g (pv (reS s)) 67 (reO s i.p.i) W)) := fun W hW => refuse_any g s i.p W hW hi.bd0 hi.bd1 (pap_kind hi)
    have HA : Hid (∀ W, SAt W g s → Calls Tryd.prog 69 #[ptr g, .agg #[.int .u8 i.p.c.toNat, .int .u8 i.p.i.toNat, .string i.p.d]] W (OutQ g (pv (acS s i.p)) 67 (sends [ans s.c i.p.i true]) W)) := fun W hW => accept_any g s i.p W hW
    have hnw := str_eqb (nameIn s i.p) s.who
    unfold SAt at HI HR HA
    by_cases hn : nameIn s i.p = s.who
    · rw [decide_eq_true hn] at hnw
      rw [good_well hc (fun _ => hn)] at HI
      cases hw : (i.known && well s i.p i.secret)
      · obtain ⟨e1, e2⟩ := pack_bad hi hc hw
        rw [← e1, ← e2]
        rw [hw] at HI
        generalize pv (reS s) = cs at *
        generalize reO s i.p.i = O at *
        generalize nameIn s i.p = nm at *
        generalize s.who = wh at *
        generalize pv s = ps at *
        clear h hi h1 hG hd hs1 hs hc hv ho hw e1 e2 hp hn HA
        unfold ptr inV inC at *
        go_enter Tryd.func44, Tryd.ntmps44
        go_wp2_with fail
        refine HC.out.mono ?_
        rintro e w1 ⟨rfl, hb⟩
        have HP1 := Lib.hid (HP.out.below hb)
        have HG1 := Lib.hid (HGV.out.below hb)
        have HX1 := Lib.hid (HX.out.callee hb)
        clear hb
        clear x0 x1 x2 x3 x4 x5
        have x0 := HX1.out.at_ 0
        have x1 := HX1.out.at_ 1
        have x2 := HX1.out.at_ 2
        have x3 := HX1.out.at_ 3
        have x4 := HX1.out.at_ 4
        have x5 := HX1.out.at_ 5
        simp only [List.getElem?_cons_zero, List.getElem?_cons_succ] at x0 x1 x2 x3 x4 x5
        have c10 := (HP1.out.c 10).trans q11.out.2.2.2
        go_wp2_with fail
        refine (HI.out _ HP1.out.blk HG1.out).mono ?_
        rintro e w2 ⟨rfl, hb⟩
        have HP2 := Lib.hid (HP1.out.below hb)
        have HX2 := Lib.hid (HX1.out.callee hb)
        clear hb
        clear x0 x1 x2 x3 x4 x5
        have x0 := HX2.out.at_ 0
        have x1 := HX2.out.at_ 1
        have x2 := HX2.out.at_ 2
        have x3 := HX2.out.at_ 3
        have x4 := HX2.out.at_ 4
        have x5 := HX2.out.at_ 5
        simp only [List.getElem?_cons_zero, List.getElem?_cons_succ] at x0 x1 x2 x3 x4 x5
        go_wp2_with fail
        refine (HR.out _ HP2.out.blk).mono ?_
        rintro e w5 ⟨A, c, rfl, hr, hx, hm⟩
        have HP9 := Lib.hid (HP2.out.moves hm hx)
        have HF := HP2.out.fin O rfl rfl rfl rfl hr hx hm
        unfold outV outC
        generalize O.pkts.length = n at *
        clear hr hx hm
        have c0 := HP9.out.o0
        have c1 := HP9.out.o1
        have c2 := HP9.out.o2
        have c3 := HP9.out.o3
        have f0 := HP9.out.of 0
        have f1 := HP9.out.of 1
        have f2 := HP9.out.of 2
        have f3 := HP9.out.of 3
        go_wp2
        (try simp only [Exit.inBlock, Exit.then])
        refine bodyPost_ret (results_out rfl rfl (by exact HF.out.1)) rfl ?_
        exact HF.out.2
      · obtain ⟨e1, e2⟩ := pack_good hc hw
        have e4 : (⟨s.c, s.own, if s.st = 1 then 2 else s.st, if s.st = 1 then nameIn s i.p else s.who, s.value, s.id, s.opn, s.sent, s.clock, s.bad, s.last, s.reply⟩ : Sv) = s := by
          rw [if_neg (by omega), if_neg (by omega)]
        rw [e1, e2, e4, if_neg (by omega), decide_eq_false (by omega)]
        rw [hw] at HI
        generalize pv (acS s i.p) = cs at *
        generalize ans s.c i.p.i true = P at *
        generalize nameIn s i.p = nm at *
        generalize s.who = wh at *
        generalize pv s = ps at *
        clear h hi h1 hG hd hs1 hs hc hv ho hw e1 e2 e4 hp hn HR
        unfold ptr inV inC at *
        go_enter Tryd.func44, Tryd.ntmps44
        go_wp2_with fail
        refine HC.out.mono ?_
        rintro e w1 ⟨rfl, hb⟩
        have HP1 := Lib.hid (HP.out.below hb)
        have HG1 := Lib.hid (HGV.out.below hb)
        have HX1 := Lib.hid (HX.out.callee hb)
        clear hb
        clear x0 x1 x2 x3 x4 x5
        have x0 := HX1.out.at_ 0
        have x1 := HX1.out.at_ 1
        have x2 := HX1.out.at_ 2
        have x3 := HX1.out.at_ 3
        have x4 := HX1.out.at_ 4
        have x5 := HX1.out.at_ 5
        simp only [List.getElem?_cons_zero, List.getElem?_cons_succ] at x0 x1 x2 x3 x4 x5
        have c10 := (HP1.out.c 10).trans q11.out.2.2.2
        go_wp2_with fail
        refine (HI.out _ HP1.out.blk HG1.out).mono ?_
        rintro e w2 ⟨rfl, hb⟩
        have HP2 := Lib.hid (HP1.out.below hb)
        have HX2 := Lib.hid (HX1.out.callee hb)
        clear hb
        clear x0 x1 x2 x3 x4 x5
        have x0 := HX2.out.at_ 0
        have x1 := HX2.out.at_ 1
        have x2 := HX2.out.at_ 2
        have x3 := HX2.out.at_ 3
        have x4 := HX2.out.at_ 4
        have x5 := HX2.out.at_ 5
        simp only [List.getElem?_cons_zero, List.getElem?_cons_succ] at x0 x1 x2 x3 x4 x5
        go_wp2_with fail
        refine (HA.out _ HP2.out.blk).mono ?_
        rintro e w5 ⟨A, c, rfl, hr, hx, hm⟩
        have HP9 := Lib.hid (HP2.out.moves hm hx)
        have HF := HP2.out.fin (sends [P]) (n := 1) (d := false) (f := false) (nm := bOf []) rfl rfl rfl rfl hr hx hm
        unfold outV outC sends
        (try simp only [List.length_cons, List.length_nil])
        clear hr hx hm
        have c0 := HP9.out.o0
        have c1 := HP9.out.o1
        have c2 := HP9.out.o2
        have c3 := HP9.out.o3
        have f0 := HP9.out.of 0
        have f1 := HP9.out.of 1
        have f2 := HP9.out.of 2
        have f3 := HP9.out.of 3
        go_wp2
        (try simp only [Exit.inBlock, Exit.then])
        refine bodyPost_ret (results_out rfl rfl (by exact HF.out.1)) rfl ?_
        exact HF.out.2
    · rw [decide_eq_false hn] at hnw
      have hw : (i.known && well s i.p i.secret) = false := by
        unfold well
        rw [if_neg (by rw [hp]; decide), decide_eq_true h1, decide_eq_false hn]
        simp
      obtain ⟨e1, e2⟩ := pack_bad hi hc hw
      rw [← e1, ← e2]
      generalize pv (reS s) = cs at *
      generalize reO s i.p.i = O at *
      generalize nameIn s i.p = nm at *
      generalize s.who = wh at *
      generalize pv s = ps at *
      clear h hi h1 hG hd hs1 hs hc hv ho hw e1 e2 hp hn HA HI
      unfold ptr inV inC at *
      go_enter Tryd.func44, Tryd.ntmps44
      go_wp2_with fail
      refine HC.out.mono ?_
      rintro e w1 ⟨rfl, hb⟩
      have HP1 := Lib.hid (HP.out.below hb)
      have HX1 := Lib.hid (HX.out.callee hb)
      clear hb
      clear x0 x1 x2 x3 x4 x5
      have x0 := HX1.out.at_ 0
      have x1 := HX1.out.at_ 1
      have x2 := HX1.out.at_ 2
      have x3 := HX1.out.at_ 3
      have x4 := HX1.out.at_ 4
      have x5 := HX1.out.at_ 5
      simp only [List.getElem?_cons_zero, List.getElem?_cons_succ] at x0 x1 x2 x3 x4 x5
      have c10 := (HP1.out.c 10).trans q11.out.2.2.2
      go_wp2_with fail
      refine (HR.out _ HP1.out.blk).mono ?_
      rintro e w5 ⟨A, c, rfl, hr, hx, hm⟩
      have HP9 := Lib.hid (HP1.out.moves hm hx)
      have HF := HP1.out.fin O rfl rfl rfl rfl hr hx hm
      unfold outV outC
      generalize O.pkts.length = n at *
      clear hr hx hm
      have c0 := HP9.out.o0
      have c1 := HP9.out.o1
      have c2 := HP9.out.o2
      have c3 := HP9.out.o3
      have f0 := HP9.out.of 0
      have f1 := HP9.out.of 1
      have f2 := HP9.out.of 2
      have f3 := HP9.out.of 3
      go_wp2
      (try simp only [Exit.inBlock, Exit.then])
      refine bodyPost_ret (results_out rfl rfl (by exact HF.out.1)) rfl ?_
      exact HF.out.2
end Go.Proofs.YtpfbknbloeilmaaDoor.Ath

/- A server: Start; what is done when a timer has run out; Tick. -/
namespace Go.Proofs.YtpfbknbloeilmaaDoor.Ath
open Go.RowKit Go.Proofs.YtpfbknbloeilmaaDoor.Oct Go.Proofs.YtpfbknbloeilmaaDoor.Row Go.Proofs.YtpfbknbloeilmaaDoor.Mem Go.Proofs.YtpfbknbloeilmaaDoor.Md5

/-! ### what is done when the timer has run out -/
def expL (s : Sv) : Ds := if pap s.c then [(1, 62)] else if s.c.again = 0 then [(1, 63)] else [(1, 63), (2, 64)]
set_option maxHeartbeats 1000000 in
set_option maxRecDepth 100000 in
theorem expiries_any (g : Nat) (s : Sv) (w : World) (h : SAt w g s) :
    Calls Tryd.prog 37 #[ptr g] w fun e w' => ∃ mm, e = .returned (.map (some mm)) ∧ Dm w' mm g (expL s) ∧ Below w.heap.size w w' := by
  have hmm := @run_makeMap Tryd.prog
  have q0 : w.cell? ⟨g, 0, none⟩ = some (.int .u8 s.c.kind.toNat) := Blk.at_ h 0
  have q8 : w.cell? ⟨g, 8, none⟩ = some (.int .i64 s.c.again) := Blk.at_ h 8
  unfold expL
  cases hp : pap s.c
  · have k0 := kind_no hp
    simp only [Bool.false_eq_true, if_false]
    by_cases ha : s.c.again = 0
    · rw [if_pos ha]
      rw [ha] at q8
      obtain ⟨W1, l1, -, HD, HB⟩ := lay_one w g 1 63
      have l1' : (Instr.mapUpdate 75 (.map (some w.heap.size)) (.int .u8 1) (.func (.func 63) #[.pointer (some ⟨g, 0, none⟩)] #[])).run Tryd.prog (w.alloc (.map #[] 0)) = .ok () W1 := l1
      clear h hp ha l1
      unfold ptr
      go_enter Tryd.func37, Tryd.ntmps37
      go_wp2
      go_ret
      exact ⟨_, rfl, HD.out, HB.out⟩
    · rw [if_neg ha]
      have k1 : (s.c.again == 0) = false := by rw [beq_eq_false_iff_ne]; exact ha
      obtain ⟨W1, W2, l1, l2, -, HD, HB⟩ := lay_two w g 1 2 63 64 (by decide)
      have l1' : (Instr.mapUpdate 75 (.map (some w.heap.size)) (.int .u8 1) (.func (.func 63) #[.pointer (some ⟨g, 0, none⟩)] #[])).run Tryd.prog (w.alloc (.map #[] 0)) = .ok () W1 := l1
      have l2' : (Instr.mapUpdate 75 (.map (some w.heap.size)) (.int .u8 2) (.func (.func 64) #[.pointer (some ⟨g, 0, none⟩)] #[])).run Tryd.prog W1 = .ok () W2 := l2
      generalize s.c.again = ag at *
      clear h hp ha l1 l2
      unfold ptr
      go_enter Tryd.func37, Tryd.ntmps37
      go_wp2
      go_ret
      exact ⟨_, rfl, HD.out, HB.out⟩
  · have k0 := kind_yes hp
    simp only [if_true]
    obtain ⟨W1, l1, -, HD, HB⟩ := lay_one w g 1 62
    have l1' : (Instr.mapUpdate 75 (.map (some w.heap.size)) (.int .u8 1) (.func (.func 62) #[.pointer (some ⟨g, 0, none⟩)] #[])).run Tryd.prog (w.alloc (.map #[] 0)) = .ok () W1 := l1
    clear h hp l1
    unfold ptr
    go_enter Tryd.func37, Tryd.ntmps37
    go_wp2
    go_ret
    exact ⟨_, rfl, HD.out, HB.out⟩
set_option maxRecDepth 100000 in
theorem ent_giveUp : Entered 62 := fun args w => by kernel_rfl
set_option maxRecDepth 100000 in
theorem ent_repeat : Entered 63 := fun args w => by kernel_rfl
set_option maxRecDepth 100000 in
theorem ent_recheck : Entered 64 := fun args w => by kernel_rfl
set_option maxRecDepth 100000 in
theorem ent_begin : Entered 28 := fun args w => by kernel_rfl
set_option maxRecDepth 100000 in
theorem ent_evaluate : Entered 43 := fun args w => by kernel_rfl
set_option maxRecDepth 100000 in
theorem ent_reevaluate : Entered 44 := fun args w => by kernel_rfl
theorem goes_not {s : Sv} (hi : Inv s) (h : goes s = false) : look (expL s) s.st = none := by
  unfold goes at h
  simp only [Bool.or_eq_false_iff, decide_eq_false_iff_not] at h
  unfold expL
  cases hp : pap s.c
  · simp only [Bool.false_eq_true, if_false]
    rw [hp] at h
    by_cases ha : s.c.again = 0
    · rw [if_pos ha]; unfold look; rw [if_neg (by omega)]; rfl
    · rw [if_neg ha]
      have h2 : ¬ s.st = 2 := fun e => by
        have h3 := h.2
        have := hi.ag1
        rw [decide_eq_true e, decide_eq_true (show 0 < s.c.again by omega)] at h3
        cases h3
      unfold look
      rw [if_neg (by omega)]
      unfold look
      rw [if_neg (by omega)]
      rfl
  · simp only [if_true]
    unfold look; rw [if_neg (by omega)]; rfl
theorem tick_any (g mm : Nat) (s : Sv) (i : In) (w : World) (h : SAt w g s) (hi : Inv s) (hG : Globs w) (hm : Dm w mm g (expL s)) :
    Calls Tryd.prog 35 #[ptr g, .map (some mm), inV i] w (OutQ g (pv (tickS s i.draw)) 67 (tickO s i.draw) w) := by
  unfold tickS tickO
  cases hg : goes s
  · simp only [Bool.false_eq_true, if_false]
    exact tick_off g mm (mcS s) (rS s) _ (expL s) i w h hm (goes_not hi hg)
  · simp only [if_true]
    have ht0 := hi.ck0 hg
    have ht1 := hi.ck1
    unfold goes at hg
    simp only [Bool.or_eq_true, decide_eq_true_eq, Bool.and_eq_true, Bool.not_eq_true'] at hg
    have hsome : ∃ f, look (expL s) s.st = some f ∧ ((pap s.c = true ∧ s.st = 1 ∧ f = 62) ∨ (pap s.c = false ∧ s.st = 1 ∧ f = 63) ∨ (pap s.c = false ∧ s.st = 2 ∧ f = 64)) := by
      unfold expL
      rcases hg with h1 | ⟨⟨h1, hp⟩, ha⟩
      · cases hp : pap s.c
        · by_cases ha : s.c.again = 0
          · exact ⟨_, by simp [ha, h1, look], .inr (.inl ⟨rfl, h1, rfl⟩)⟩
          · exact ⟨_, by simp [ha, h1, look], .inr (.inl ⟨rfl, h1, rfl⟩)⟩
        · exact ⟨_, by simp [h1, look], .inl ⟨rfl, h1, rfl⟩⟩
      · have ha' : ¬ s.c.again = 0 := by omega
        exact ⟨_, by simp [hp, ha', h1, look], .inr (.inr ⟨hp, h1, rfl⟩)⟩
    obtain ⟨f, hl, hf⟩ := hsome
    by_cases ht : 0 < s.clock - 1
    · rw [if_pos ht, if_pos ht]
      exact tick_wait g mm (mcS s) (rS s) _ (expL s) f i w h hm hl ht (by show s.clock ≤ _; omega)
    · rw [if_neg ht, if_neg ht]
      rcases hf with ⟨hp, h1, rfl⟩ | ⟨hp, h1, rfl⟩ | ⟨hp, h1, rfl⟩
      · have ho := hi.po hp
        rw [ho, decide_eq_false (show ¬ s.st = 2 by omega)]
        simp only [Bool.false_and, Bool.false_eq_true, if_false, Bool.not_false, Bool.and_false]
        refine tick_due g mm (mcS s) (rS s) _ (expL s) _ i _ _ w h hm hl ent_giveUp ht (by show _ ≤ s.clock; omega) (fun W hW _ => ?_)
        have e1 : pv { s with clock := s.clock - 1, st := 3, opn := false } = pv { { s with clock := s.clock - 1 } with st := 3 } := by
          unfold pv mcS rS
          rw [ho]
        rw [e1]
        exact giveUp_any g { s with clock := s.clock - 1 } i W hW
      · have ho := hi.bs h1 hp
        rw [ho, decide_eq_false (show ¬ s.st = 2 by omega)]
        simp only [Bool.true_and, Bool.not_true, Bool.false_and, Bool.false_eq_true, if_false, decide_eq_true_eq]
        refine tick_due g mm (mcS s) (rS s) _ (expL s) _ i _ _ w h hm hl ent_repeat ht (by show _ ≤ s.clock; omega) (fun W hW _ => ?_)
        have := repeat_any g { s with clock := s.clock - 1 } i W hW hi.se0 hi.se1 (by show s.value.size ≤ 255; rw [hi.vl ho]; decide) hi.own ho hp
        exact this
      · refine tick_due g mm (mcS s) (rS s) _ (expL s) _ i _ _ w h hm hl ent_recheck ht (by show _ ≤ s.clock; omega) (fun W hW hM => ?_)
        have := recheck_any g { s with clock := s.clock - 1 } i W hW (globs_server hG h hM) hi.se0 hi.se1 hi.vl hi.own hp
        unfold againS againO at this
        have e1 : (if ({ s with clock := s.clock - 1 } : Sv).opn then (if ({ s with clock := s.clock - 1 } : Sv).sent < ({ s with clock := s.clock - 1 } : Sv).c.tries then chalS { s with clock := s.clock - 1 } else loseS { s with clock := s.clock - 1 }) else chalS (ofDraw { s with clock := s.clock - 1 } i.draw)) =
            (if (s.opn && decide (s.sent < s.c.tries)) = true then chalS { s with clock := s.clock - 1 } else if (!s.opn && decide (s.st = 2)) = true then chalS (ofDraw { s with clock := s.clock - 1 } i.draw) else { s with clock := s.clock - 1, st := 3, opn := false }) := by
          rw [decide_eq_true h1]
          cases ho : s.opn
          · simp [ho]
          · by_cases hlt : s.sent < s.c.tries
            · simp [ho, hlt]
            · simp [ho, hlt, loseS]
        have e2 : (if ({ s with clock := s.clock - 1 } : Sv).opn then (if ({ s with clock := s.clock - 1 } : Sv).sent < ({ s with clock := s.clock - 1 } : Sv).c.tries then sends [chalP { s with clock := s.clock - 1 }] else fails []) else sends [chalP (ofDraw { s with clock := s.clock - 1 } i.draw)]) =
            (if (s.opn && decide (s.sent < s.c.tries)) = true then sends [chalP s] else if (!s.opn && decide (s.st = 2)) = true then sends [chalP (ofDraw s i.draw)] else ⟨false, true, bOf [], []⟩) := by
          rw [decide_eq_true h1]
          cases ho : s.opn
          · simp [ho]; rfl
          · by_cases hlt : s.sent < s.c.tries
            · simp [ho, hlt]; rfl
            · simp [ho, hlt, fails]
        rw [e1, e2] at this
        exact this

/-! ### how it begins -/
set_option maxHeartbeats 4000000 in
set_option maxRecDepth 100000 in
theorem begin_any (g : Nat) (s : Sv) (i : In) (w : World) (h : SAt w g s) (h0 : s.st = 0) (hG : Globs w) (hw : s.own.size ≤ 255) (hk : s.c.kind = 1 ∨ s.c.kind = 2) (ht1 : 1 ≤ s.c.tries) (ht2 : s.c.tries ≤ 20) (hw1 : 1 ≤ s.c.wait) (hw2 : s.c.wait ≤ 1000) :
    Calls Tryd.prog 28 #[ptr g, inV i] w (OutQ g (pv (startS s i.draw)) 67 (startO s i.draw) w) := by
  obtain ⟨V, hV, hs, HP, HB, HX⟩ := start_two h (inC i) 77
  unfold inC at hV
  have x0 := HX.out.at_ 0
  have x1 := HX.out.at_ 1
  have x2 := HX.out.at_ 2
  have x3 := HX.out.at_ 3
  have x4 := HX.out.at_ 4
  have x5 := HX.out.at_ 5
  unfold inC at x0 x1 x2 x3 x4 x5
  simp only [List.getElem?_cons_zero, List.getElem?_cons_succ] at x0 x1 x2 x3 x4 x5
  have q4 : V.cell? ⟨g, 4, none⟩ = some (.int .u8 s.st) := HP.out.c 4
  have f4 := HP.out.f 4
  have HP2 : Hid (Pt w (V.setCell ⟨g, 4, none⟩ (.int .u8 1)) g (w.heap.size + 1) (pv { s with st := 1 }) 67) := HP.out.set 4 (.int .u8 1)
  have HX2 := Lib.hid (HX.out.moves (set1_moves V g 4 (.int .u8 1)) (show ¬ w.heap.size = g by have := HP.out.hg; omega))
  have q0 : (V.setCell ⟨g, 4, none⟩ (.int .u8 1)).cell? ⟨g, 0, none⟩ = some (.int .u8 s.c.kind.toNat) := HP2.out.c 0
  have HGV := Lib.hid (globs_server (hG.below HB.out) HP.out.blk (set1_moves V g 4 (.int .u8 1)))
  unfold startS startO
  rw [if_pos h0, if_pos h0]
  have ng : ¬ w.heap.size = g := by have := HP.out.hg; omega
  have ng' : ¬ g = w.heap.size := fun e => ng e.symm
  cases hp : pap s.c
  · simp only [Bool.false_eq_true, if_false]
    have k0 : ((s.c.kind.toNat : Int) == 2) = true := by
      rcases hk with e | e
      · unfold pap at hp; rw [e] at hp; cases hp
      · rw [e]; rfl
    have HA : Hid (∀ W, SAt W g { s with st := 1 } → Globs W → Calls Tryd.prog 51 #[ptr g, inV i] W (OutQ g (pv (chalS (ofDraw { s with st := 1 } i.draw))) 67 (sends [chalP (ofDraw s i.draw)]) W)) := fun W hW hGW => ask_any g { s with st := 1 } i W hW hGW hw hp
    unfold SAt at HA
    generalize pv (chalS (ofDraw { s with st := 1 } i.draw)) = cs at *
    generalize chalP (ofDraw s i.draw) = P at *
    have HA2 := Lib.hid (HA.out _ HP2.out.blk HGV.out)
    generalize pv { s with st := 1 } = cs1 at *
    generalize pv s = ps at *
    clear x0 x1 x2 x3 x4 x5
    have x0 := HX2.out.at_ 0
    have x1 := HX2.out.at_ 1
    have x2 := HX2.out.at_ 2
    have x3 := HX2.out.at_ 3
    have x4 := HX2.out.at_ 4
    have x5 := HX2.out.at_ 5
    unfold inC at x0 x1 x2 x3 x4 x5
    simp only [List.getElem?_cons_zero, List.getElem?_cons_succ] at x0 x1 x2 x3 x4 x5
    clear h hG hw hk ht1 ht2 hw1 hw2 hs hp h0 HA HGV
    unfold ptr inV inC at *
    go_enter Tryd.func28, Tryd.ntmps28
    go_wp2_with fail
    refine HA2.out.mono ?_
    rintro e w5 ⟨A, c, rfl, hr, hx, hm⟩
    have HP9 := Lib.hid (HP2.out.moves hm hx)
    have HF := HP2.out.fin (sends [P]) (n := 1) (d := false) (f := false) (nm := bOf []) rfl rfl rfl rfl hr hx hm
    unfold outV outC sends
    (try simp only [List.length_cons, List.length_nil])
    clear hr hx hm
    have c0 := HP9.out.o0
    have c1 := HP9.out.o1
    have c2 := HP9.out.o2
    have c3 := HP9.out.o3
    have f0 := HP9.out.of 0
    have f1 := HP9.out.of 1
    have f2 := HP9.out.of 2
    have f3 := HP9.out.of 3
    go_wp2
    (try simp only [Exit.inBlock, Exit.then])
    refine bodyPost_ret (results_out rfl rfl (by exact HF.out.1)) rfl ?_
    exact HF.out.2
  · simp only [if_true]
    have k0 : ((s.c.kind.toNat : Int) == 2) = false := by rw [kind_pap hp]; rfl
    have s1 : (V.setCell ⟨g, 4, none⟩ (.int .u8 1)).drew.cell? ⟨g, 1, none⟩ = some (.int .i64 s.c.tries) := HP2.out.c 1
    have s2 : (V.setCell ⟨g, 4, none⟩ (.int .u8 1)).drew.cell? ⟨g, 2, none⟩ = some (.int .i64 s.c.wait) := HP2.out.c 2
    have hm0 : (0 : Int) ≤ s.c.wait * s.c.tries := Int.mul_nonneg (by omega) (by omega)
    have hm1 : s.c.wait * s.c.tries ≤ 20000 := by
      have : s.c.wait * s.c.tries ≤ 1000 * 20 := Int.mul_le_mul hw2 ht2 (by omega) (by omega)
      omega
    have HP3 : Hid (Pt w ((V.setCell ⟨g, 4, none⟩ (.int .u8 1)).drew.setCell ⟨g, 7, none⟩ (.int .i64 (s.c.wait * s.c.tries))) g (w.heap.size + 1) (pv { s with st := 1, clock := s.c.wait * s.c.tries }) 67) := (HP2.out.drewN 1).set 7 (.int .i64 (s.c.wait * s.c.tries))
    have t1 : Hid ((pv { s with st := 1, clock := s.c.wait * s.c.tries })[1]? = some (.int .i64 s.c.tries)) := rfl
    have t2 : Hid ((pv { s with st := 1, clock := s.c.wait * s.c.tries })[2]? = some (.int .i64 s.c.wait)) := rfl
    have q7 : (V.setCell ⟨g, 4, none⟩ (.int .u8 1)).cell? ⟨g, 7, none⟩ = some (.int .i64 s.clock) := HP2.out.c 7
    have f7 := HP2.out.f 7
    have HS := Lib.hid (send_none _ HP3.out.blk)
    generalize pv { s with st := 1, clock := s.c.wait * s.c.tries } = cs at *
    generalize pv { s with st := 1 } = cs1 at *
    generalize pv s = ps at *
    obtain ⟨M, hM⟩ : ∃ M, s.c.wait * s.c.tries = M := ⟨_, rfl⟩
    have hi1 : IntKind.i64.wrap (s.c.wait * s.c.tries) = M := by rw [hM]; rw [hM] at hm0 hm1; exact IntWalk.i64_in (by omega) (by omega)
    have hi2 : wrap64 (s.c.wait * s.c.tries) = M := by rw [hM]; rw [hM] at hm0 hm1; exact IntWalk.wrap64_in (by omega) (by omega)
    rw [hM] at HP3 HS
    clear x0 x1 x2 x3 x4 x5
    clear h hG hw hk ht1 ht2 hw1 hw2 hs hp h0 HGV hM hm0 hm1
    unfold ptr inV inC at *
    go_enter Tryd.func28, Tryd.ntmps28
    go_upto_region 4 with (fail)
    refine wp_region_held_drew (S := fun w' => w'.cell? ⟨g, 2, none⟩ = some (.int .i64 s.c.wait) ∧ w'.cell? ⟨g, 1, none⟩ = some (.int .i64 s.c.tries)) (by kernel_rfl) ⟨s2, s1⟩ (fun hHeld => ?_)
    refine wpAnyH_take (i := 0) (v := ?vv0_1) rfl (by kernel_rfl) (by kernel_rfl) (by kernel_rfl) (fun _ _ _ h => h) (Or.inl ⟨by rfl, ?yy0_1⟩) (by assumption) ?rr0_1
    case yy0_1 => (intro w hSw; (try dsimp only at hSw); (try simp only [List.getElem_toArray, List.getElem_cons_succ, List.getElem_cons_zero, Act.put, List.setIfInBounds_toArray, List.set_cons_zero, List.set_cons_succ]); go_simp; (try (with_reducible rfl)))
    try simp only [List.getElem_toArray, List.getElem_cons_succ, List.getElem_cons_zero, Act.put, List.setIfInBounds_toArray, List.set_cons_zero, List.set_cons_succ]
    refine wpAnyH_take (i := 1) (v := ?vv1_2) rfl (by kernel_rfl) (by kernel_rfl) (by kernel_rfl) (fun _ _ _ h => h) (Or.inl ⟨by rfl, ?yy1_2⟩) (by assumption) ?rr1_2
    case yy1_2 => (intro w hSw; (try dsimp only at hSw); (try simp only [List.getElem_toArray, List.getElem_cons_succ, List.getElem_cons_zero, Act.put, List.setIfInBounds_toArray, List.set_cons_zero, List.set_cons_succ]); go_simp; (try (with_reducible rfl)))
    try simp only [List.getElem_toArray, List.getElem_cons_succ, List.getElem_cons_zero, Act.put, List.setIfInBounds_toArray, List.set_cons_zero, List.set_cons_succ]
    refine wpAnyH_take (i := 2) (v := ?vv2_3) rfl (by kernel_rfl) (by kernel_rfl) (by kernel_rfl) (fun _ _ _ h => h) (Or.inl ⟨by rfl, ?yy2_3⟩) (by assumption) ?rr2_3
    case yy2_3 => (intro w hSw; (try dsimp only at hSw); (try simp only [List.getElem_toArray, List.getElem_cons_succ, List.getElem_cons_zero, Act.put, List.setIfInBounds_toArray, List.set_cons_zero, List.set_cons_succ]); go_simp; (try (with_reducible rfl)))
    try simp only [List.getElem_toArray, List.getElem_cons_succ, List.getElem_cons_zero, Act.put, List.setIfInBounds_toArray, List.set_cons_zero, List.set_cons_succ]
    refine wpAnyH_take (i := 3) (v := ?vv3_4) rfl (by kernel_rfl) (by kernel_rfl) (by kernel_rfl) (fun _ _ _ h => h) (Or.inl ⟨by rfl, ?yy3_4⟩) (by assumption) ?rr3_4
    case yy3_4 => (intro w hSw; (try dsimp only at hSw); (try simp only [List.getElem_toArray, List.getElem_cons_succ, List.getElem_cons_zero, Act.put, List.setIfInBounds_toArray, List.set_cons_zero, List.set_cons_succ]); go_simp; (try (with_reducible rfl)))
    try simp only [List.getElem_toArray, List.getElem_cons_succ, List.getElem_cons_zero, Act.put, List.setIfInBounds_toArray, List.set_cons_zero, List.set_cons_succ]
    refine wpAnyH_take (i := 4) (v := ?vv4_5) rfl (by kernel_rfl) (by kernel_rfl) (by kernel_rfl) (fun _ _ _ h => h) (Or.inl ⟨by rfl, ?yy4_5⟩) (by assumption) ?rr4_5
    case yy4_5 => (intro w hSw; (try dsimp only at hSw); (try simp only [List.getElem_toArray, List.getElem_cons_succ, List.getElem_cons_zero, Act.put, List.setIfInBounds_toArray, List.set_cons_zero, List.set_cons_succ]); go_simp; (try (with_reducible rfl)))
    try simp only [List.getElem_toArray, List.getElem_cons_succ, List.getElem_cons_zero, Act.put, List.setIfInBounds_toArray, List.set_cons_zero, List.set_cons_succ]
    refine wpAnyH_take (i := 5) (v := ?vv5_6) rfl (by kernel_rfl) (by kernel_rfl) (by kernel_rfl) (fun _ _ _ h => h) (Or.inl ⟨by rfl, ?yy5_6⟩) (by assumption) ?rr5_6
    case yy5_6 => (intro w hSw; (try dsimp only at hSw); (try simp only [List.getElem_toArray, List.getElem_cons_succ, List.getElem_cons_zero, Act.put, List.setIfInBounds_toArray, List.set_cons_zero, List.set_cons_succ]); go_simp; (try (with_reducible rfl)))
    try simp only [List.getElem_toArray, List.getElem_cons_succ, List.getElem_cons_zero, Act.put, List.setIfInBounds_toArray, List.set_cons_zero, List.set_cons_succ]
    refine wpAnyH_take (i := 6) (v := ?vv6_7) rfl (by kernel_rfl) (by kernel_rfl) (by kernel_rfl) (fun _ _ _ h => h) (Or.inl ⟨by rfl, ?yy6_7⟩) (by assumption) ?rr6_7
    case yy6_7 => (intro w hSw; (try dsimp only at hSw); (try simp only [List.getElem_toArray, List.getElem_cons_succ, List.getElem_cons_zero, Act.put, List.setIfInBounds_toArray, List.set_cons_zero, List.set_cons_succ]); go_simp; (try (with_reducible rfl)))
    try simp only [List.getElem_toArray, List.getElem_cons_succ, List.getElem_cons_zero, Act.put, List.setIfInBounds_toArray, List.set_cons_zero, List.set_cons_succ]
    refine wpAnyH_take (i := 7) (v := ?vv7_8) rfl (by kernel_rfl) (by kernel_rfl) (by kernel_rfl) (fun _ _ _ h => h) (Or.inl ⟨by rfl, ?yy7_8⟩) (by assumption) ?rr7_8
    case yy7_8 => (intro w hSw; (try dsimp only at hSw); (try simp only [List.getElem_toArray, List.getElem_cons_succ, List.getElem_cons_zero, Act.put, List.setIfInBounds_toArray, List.set_cons_zero, List.set_cons_succ]); go_simp; (try (with_reducible rfl)))
    try simp only [List.getElem_toArray, List.getElem_cons_succ, List.getElem_cons_zero, Act.put, List.setIfInBounds_toArray, List.set_cons_zero, List.set_cons_succ]
    refine wpAnyH_take (i := 8) (v := ?vv8_9) rfl (by kernel_rfl) (by kernel_rfl) (by kernel_rfl) (fun _ _ _ h => h) (Or.inl ⟨by rfl, ?yy8_9⟩) (by assumption) ?rr8_9
    case yy8_9 => (intro w hSw; (try dsimp only at hSw); (try simp only [List.getElem_toArray, List.getElem_cons_succ, List.getElem_cons_zero, Act.put, List.setIfInBounds_toArray, List.set_cons_zero, List.set_cons_succ]); go_simp; (try (with_reducible rfl)))
    try simp only [List.getElem_toArray, List.getElem_cons_succ, List.getElem_cons_zero, Act.put, List.setIfInBounds_toArray, List.set_cons_zero, List.set_cons_succ]
    refine wpAnyH_take (i := 9) (v := ?vv9_10) rfl (by kernel_rfl) (by kernel_rfl) (by kernel_rfl) (fun _ _ _ h => h) (Or.inl ⟨by rfl, ?yy9_10⟩) (by assumption) ?rr9_10
    case yy9_10 => (intro w hSw; (try dsimp only at hSw); (try simp only [List.getElem_toArray, List.getElem_cons_succ, List.getElem_cons_zero, Act.put, List.setIfInBounds_toArray, List.set_cons_zero, List.set_cons_succ]); go_simp; (try (with_reducible rfl)))
    try simp only [List.getElem_toArray, List.getElem_cons_succ, List.getElem_cons_zero, Act.put, List.setIfInBounds_toArray, List.set_cons_zero, List.set_cons_succ]
    refine wpAnyH_take (i := 10) (v := ?vv10_11) rfl (by kernel_rfl) (by kernel_rfl) (by kernel_rfl) (fun _ _ _ h => h) (Or.inl ⟨by rfl, ?yy10_11⟩) (by assumption) ?rr10_11
    case yy10_11 => (intro w hSw; (try dsimp only at hSw); (try simp only [List.getElem_toArray, List.getElem_cons_succ, List.getElem_cons_zero, Act.put, List.setIfInBounds_toArray, List.set_cons_zero, List.set_cons_succ]); go_simp; (try (with_reducible rfl)))
    try simp only [List.getElem_toArray, List.getElem_cons_succ, List.getElem_cons_zero, Act.put, List.setIfInBounds_toArray, List.set_cons_zero, List.set_cons_succ]
    refine wpAnyH_take (i := 11) (v := ?vv11_12) rfl (by kernel_rfl) (by kernel_rfl) (by kernel_rfl) (fun _ _ _ h => h) (Or.inl ⟨by rfl, ?yy11_12⟩) (by assumption) ?rr11_12
    case yy11_12 => (intro w hSw; (try dsimp only at hSw); (try simp only [List.getElem_toArray, List.getElem_cons_succ, List.getElem_cons_zero, Act.put, List.setIfInBounds_toArray, List.set_cons_zero, List.set_cons_succ]); go_simp; (try (with_reducible rfl)))
    try simp only [List.getElem_toArray, List.getElem_cons_succ, List.getElem_cons_zero, Act.put, List.setIfInBounds_toArray, List.set_cons_zero, List.set_cons_succ]
    refine wpAnyH_take (i := 12) (v := ?vv12_13) rfl (by kernel_rfl) (by kernel_rfl) (by kernel_rfl) (fun _ _ _ h => h) (Or.inl ⟨by rfl, ?yy12_13⟩) (by assumption) ?rr12_13
    case yy12_13 => (intro w hSw; (try dsimp only at hSw); (try simp only [List.getElem_toArray, List.getElem_cons_succ, List.getElem_cons_zero, Act.put, List.setIfInBounds_toArray, List.set_cons_zero, List.set_cons_succ]); go_simp; (try (with_reducible rfl)))
    try simp only [List.getElem_toArray, List.getElem_cons_succ, List.getElem_cons_zero, Act.put, List.setIfInBounds_toArray, List.set_cons_zero, List.set_cons_succ]
    refine wpAnyH_take (i := 13) (v := ?vv13_14) rfl (by kernel_rfl) (by kernel_rfl) (by kernel_rfl) (fun _ _ _ h => h) (Or.inl ⟨by rfl, ?yy13_14⟩) (by assumption) ?rr13_14
    case yy13_14 => (intro w hSw; (try dsimp only at hSw); (try simp only [List.getElem_toArray, List.getElem_cons_succ, List.getElem_cons_zero, Act.put, List.setIfInBounds_toArray, List.set_cons_zero, List.set_cons_succ]); go_simp; (try (with_reducible rfl)))
    try simp only [List.getElem_toArray, List.getElem_cons_succ, List.getElem_cons_zero, Act.put, List.setIfInBounds_toArray, List.set_cons_zero, List.set_cons_succ]
    refine wpAnyH_take (i := 14) (v := ?vv14_15) rfl (by kernel_rfl) (by kernel_rfl) (by kernel_rfl) (fun _ _ _ h => h) (Or.inl ⟨by rfl, ?yy14_15⟩) (by assumption) ?rr14_15
    case yy14_15 => (intro w hSw; (try dsimp only at hSw); (try simp only [List.getElem_toArray, List.getElem_cons_succ, List.getElem_cons_zero, Act.put, List.setIfInBounds_toArray, List.set_cons_zero, List.set_cons_succ]); go_simp; (try (with_reducible rfl)))
    try simp only [List.getElem_toArray, List.getElem_cons_succ, List.getElem_cons_zero, Act.put, List.setIfInBounds_toArray, List.set_cons_zero, List.set_cons_succ]
    refine wpAnyH_ready (rs := [15]) (by kernel_rfl) (by simp) ?_
    refine AllReadyH.cons (o := _) rfl (fun K hK => ?_) AllReadyH.nil
    try simp only [List.getElem_toArray, List.getElem_cons_succ, List.getElem_cons_zero, Act.put, List.setIfInBounds_toArray, List.set_cons_zero, List.set_cons_succ]
    go_simp
    refine hK.out _ _ ⟨(HP3.out.c 2).trans t2.out, (HP3.out.c 1).trans t1.out⟩ (fun hHeld => ?_)
    clear hK K
    try simp only [List.getElem_toArray, List.getElem_cons_succ, List.getElem_cons_zero, Act.put, List.setIfInBounds_toArray, List.set_cons_zero, List.set_cons_succ]
    refine wpAnyH_done (by kernel_rfl) ?_ _
    go_wp2_with fail
    refine HS.out.mono ?_
    rintro e w5 ⟨A, c, rfl, hr, hx, hm⟩
    have HP9 := Lib.hid (HP3.out.moves hm hx)
    have HF := HP3.out.fin (no) (n := 0) (d := false) (f := false) (nm := bOf []) rfl rfl rfl rfl hr hx hm
    unfold outV outC no
    (try simp only [List.length_cons, List.length_nil])
    clear hr hx hm
    have c0 := HP9.out.o0
    have c1 := HP9.out.o1
    have c2 := HP9.out.o2
    have c3 := HP9.out.o3
    have f0 := HP9.out.of 0
    have f1 := HP9.out.of 1
    have f2 := HP9.out.of 2
    have f3 := HP9.out.of 3
    go_wp2
    (try simp only [Exit.inBlock, Exit.then])
    refine bodyPost_ret (results_out rfl rfl (by exact HF.out.1)) rfl ?_
    exact HF.out.2
end Go.Proofs.YtpfbknbloeilmaaDoor.Ath

/- A server: Start, Packet, Tick, State, Name. -/
namespace Go.Proofs.YtpfbknbloeilmaaDoor.Ath
open Go.RowKit Go.Proofs.YtpfbknbloeilmaaDoor.Oct Go.Proofs.YtpfbknbloeilmaaDoor.Row Go.Proofs.YtpfbknbloeilmaaDoor.Mem Go.Proofs.YtpfbknbloeilmaaDoor.Md5

set_option maxHeartbeats 1000000 in
set_option maxRecDepth 100000 in
theorem state_any (g : Nat) (s : Sv) (w : World) (h : SAt w g s) : Calls Tryd.prog 13 #[ptr g] w fun e w' => e = .returned (.int .u8 s.st) ∧ w = w' := by
  have q4 : w.cell? ⟨g, 4, none⟩ = some (.int .u8 s.st) := Blk.at_ h 4
  clear h
  unfold ptr
  go_enter Tryd.func13, Tryd.ntmps13
  go_wp2
  go_ret
  exact ⟨rfl, rfl⟩
set_option maxHeartbeats 1000000 in
set_option maxRecDepth 100000 in
theorem name_any (g : Nat) (s : Sv) (w : World) (h : SAt w g s) : Calls Tryd.prog 15 #[ptr g] w fun e w' => e = .returned (.string s.who) ∧ w = w' := by
  have q4 : w.cell? ⟨g, 10, none⟩ = some (.string s.who) := Blk.at_ h 10
  clear h
  unfold ptr
  go_enter Tryd.func15, Tryd.ntmps15
  go_wp2
  go_ret
  exact ⟨rfl, rfl⟩
theorem start_no {s : Sv} (d : UInt32) (h : s.st ≠ 0) : startS s d = s ∧ startO s d = no := by
  unfold startS startO
  rw [if_neg h, if_neg h]
  exact ⟨rfl, rfl⟩
set_option maxHeartbeats 2000000 in
set_option maxRecDepth 100000 in
theorem start_any (g : Nat) (s : Sv) (d : UInt32) (w : World) (h : SAt w g s) (hi : Inv s) (hG : Globs w) :
    Calls Tryd.prog 9 #[ptr g, .int .u32 d.toNat] w (OutQ g (pv (startS s d)) 67 (startO s d) w) := by
  obtain ⟨V, hV, hs, HP, HB⟩ := start_one h
  have hmm := @run_makeMap Tryd.prog
  obtain ⟨W1, l1, hz, HD, HBW⟩ := lay_one V g 0 28
  have l1' : (Instr.mapUpdate 75 (.map (some V.heap.size)) (.int .u8 0) (.func (.func 28) #[.pointer (some ⟨g, 0, none⟩)] #[])).run Tryd.prog (V.alloc (.map #[] 0)) = .ok () W1 := l1
  have HP2 := Lib.hid (HP.out.below HBW.out)
  have HG2 := Lib.hid ((hG.below HB.out).below HBW.out)
  have HA : Hid (Calls Tryd.prog 26 #[ptr g, .map (some V.heap.size), .agg #[.int .u32 d.toNat, .int .u8 0, .int .u8 0, .string ⟨#[]⟩, .string ⟨#[]⟩, .bool false]] W1 (OutQ g (pv (startS s d)) 67 (startO s d) W1)) := by
    by_cases h0 : s.st = 0
    · exact act_yes g V.heap.size (mcS s) (rS s) _ [(0, 28)] 28 ⟨d, ⟨0, 0, bOf []⟩, bOf [], false⟩ _ _ W1 HP2.out.blk HD.out (by show (if 0 = s.st then _ else _) = _; rw [if_pos h0.symm]) ent_begin (fun W hW hm =>
        begin_any g s ⟨d, ⟨0, 0, bOf []⟩, bOf [], false⟩ W hW h0 (globs_server HG2.out HP2.out.blk hm) hi.own hi.kd hi.tr1 hi.tr2 hi.wt1 hi.wt2)
    · rw [(start_no d h0).1, (start_no d h0).2]
      exact act_no g V.heap.size (mcS s) (rS s) _ [(0, 28)] ⟨d, ⟨0, 0, bOf []⟩, bOf [], false⟩ W1 HP2.out.blk HD.out (by show (if 0 = s.st then _ else _) = _; rw [if_neg (fun e => h0 e.symm)]; rfl)
  generalize pv (startS s d) = cs at *
  generalize startO s d = O at *
  generalize pv s = ps at *
  clear h hi hG hs hz l1 HG2
  unfold ptr at *
  go_enter Tryd.func9, Tryd.ntmps9
  go_wp2_with fail
  refine HA.out.mono ?_
  rintro e w5 ⟨A, c, rfl, hr, hx, hm⟩
  have HP9 := Lib.hid (HP2.out.moves hm hx)
  have HF := HP2.out.fin O rfl rfl rfl rfl hr hx hm
  unfold outV outC
  generalize O.pkts.length = n at *
  clear hr hx hm
  have c0 := HP9.out.o0
  have c1 := HP9.out.o1
  have c2 := HP9.out.o2
  have c3 := HP9.out.o3
  have f0 := HP9.out.of 0
  have f1 := HP9.out.of 1
  have f2 := HP9.out.of 2
  have f3 := HP9.out.of 3
  go_wp2
  (try simp only [Exit.inBlock, Exit.then])
  refine bodyPost_ret (results_out rfl rfl (by exact HF.out.1)) rfl ?_
  exact HF.out.2
theorem pack_none {s : Sv} (hi : Inv s) (h1 : s.st ≠ 1) (h2 : s.st ≠ 2) (p : Pk) (secret : ByteArray) (known : Bool) : packS s p secret known = s ∧ packO s p secret known = no := by
  have hc : claims s p = false := by
    unfold claims
    cases hp : pap s.c
    · have ho : s.opn = false := by
        cases ho : s.opn
        · rfl
        · rcases hi.op ho with e | e <;> contradiction
      simp [ho]
    · simp [h1]
  refine ⟨pack_no hc, ?_⟩
  unfold packO
  rw [hc]
  simp only [Bool.false_eq_true, if_false]
  rw [if_neg (fun e => h2 e.1)]
set_option maxHeartbeats 2000000 in
set_option maxRecDepth 100000 in
theorem packet_any (g : Nat) (s : Sv) (p : Pk) (secret : ByteArray) (known : Bool) (w : World) (h : SAt w g s) (hi : Inv s) (hG : Globs w) (hd : p.d.size ≤ maxLen) (hs1 : secret.size ≤ 8192) :
    Calls Tryd.prog 21 #[ptr g, .agg #[.int .u8 p.c.toNat, .int .u8 p.i.toNat, .string p.d], .string secret, .bool known] w (OutQ g (pv (packS s p secret known)) 67 (packO s p secret known) w) := by
  obtain ⟨V, hV, hs, HP, HB, HX⟩ := start_two h [.int .u8 p.c.toNat, .int .u8 p.i.toNat, .string p.d] 46
  have x0 : V.cell? ⟨w.heap.size, 0, none⟩ = some (.int .u8 p.c.toNat) := HX.out.at_ 0
  have x1 : V.cell? ⟨w.heap.size, 1, none⟩ = some (.int .u8 p.i.toNat) := HX.out.at_ 1
  have x2 : V.cell? ⟨w.heap.size, 2, none⟩ = some (.string p.d) := HX.out.at_ 2
  have hmm := @run_makeMap Tryd.prog
  obtain ⟨W1, W2, l1, l2, hz, HD, HBW⟩ := lay_two V g 1 2 43 44 (by decide)
  have l1' : (Instr.mapUpdate 75 (.map (some V.heap.size)) (.int .u8 1) (.func (.func 43) #[.pointer (some ⟨g, 0, none⟩)] #[])).run Tryd.prog (V.alloc (.map #[] 0)) = .ok () W1 := l1
  have l2' : (Instr.mapUpdate 75 (.map (some V.heap.size)) (.int .u8 2) (.func (.func 44) #[.pointer (some ⟨g, 0, none⟩)] #[])).run Tryd.prog W1 = .ok () W2 := l2
  have HP2 := Lib.hid ((HP.out.below HBW.out).drewN 1)
  have HX2 := Lib.hid ((HX.out.callee HBW.out).drewN 1)
  have HG2 := Lib.hid ((hG.below HB.out).below HBW.out)
  have y0 : W2.drew.cell? ⟨w.heap.size, 0, none⟩ = some (.int .u8 p.c.toNat) := HX2.out.at_ 0
  have y1 : W2.drew.cell? ⟨w.heap.size, 1, none⟩ = some (.int .u8 p.i.toNat) := HX2.out.at_ 1
  have y2 : W2.drew.cell? ⟨w.heap.size, 2, none⟩ = some (.string p.d) := HX2.out.at_ 2
  have ng : ¬ w.heap.size = g := by have := HP.out.hg; omega
  have HA : Hid (Calls Tryd.prog 26 #[ptr g, .map (some V.heap.size), .agg #[.int .u32 0, .int .u8 p.c.toNat, .int .u8 p.i.toNat, .string p.d, .string secret, .bool known]] (W2.drewN 1) (OutQ g (pv (packS s p secret known)) 67 (packO s p secret known) (W2.drewN 1))) := by
    have hD : Dm (W2.drewN 1) V.heap.size g [(1, 43), (2, 44)] := HD.out
    have hGG : Globs (W2.drewN 1) := HG2.out
    by_cases h1 : s.st = 1
    · exact act_yes g V.heap.size (mcS s) (rS s) _ _ 43 ⟨0, p, secret, known⟩ _ _ (W2.drewN 1) HP2.out.blk hD (by show (if 1 = s.st then _ else _) = _; rw [if_pos h1.symm]) ent_evaluate (fun W hW hm =>
        evaluate_any g s ⟨0, p, secret, known⟩ W hW hi h1 (globs_server hGG HP2.out.blk hm) hd hs1)
    · by_cases h2 : s.st = 2
      · exact act_yes g V.heap.size (mcS s) (rS s) _ _ 44 ⟨0, p, secret, known⟩ _ _ (W2.drewN 1) HP2.out.blk hD (by show (if 1 = s.st then _ else if 2 = s.st then _ else _) = _; rw [if_neg (fun e => h1 e.symm), if_pos h2.symm]) ent_reevaluate (fun W hW hm =>
          reevaluate_any g s ⟨0, p, secret, known⟩ W hW hi h2 (globs_server hGG HP2.out.blk hm) hd hs1)
      · rw [(pack_none hi h1 h2 p secret known).1, (pack_none hi h1 h2 p secret known).2]
        exact act_no g V.heap.size (mcS s) (rS s) _ _ ⟨0, p, secret, known⟩ (W2.drewN 1) HP2.out.blk hD (by show (if 1 = s.st then _ else if 2 = s.st then _ else _) = _; rw [if_neg (fun e => h1 e.symm), if_neg (fun e => h2 e.symm)]; rfl)
  generalize pv (packS s p secret known) = cs at *
  generalize packO s p secret known = O at *
  generalize pv s = ps at *
  clear h hi hG hs hz l1 l2 HG2 hd hs1
  unfold ptr at *
  go_enter Tryd.func21, Tryd.ntmps21
  go_upto_region 4 with (fail)
  refine wp_region_held_drew (S := fun w' => w'.cell? ⟨w.heap.size, 0, none⟩ = some (.int .u8 p.c.toNat) ∧ w'.cell? ⟨w.heap.size, 1, none⟩ = some (.int .u8 p.i.toNat) ∧ w'.cell? ⟨w.heap.size, 2, none⟩ = some (.string p.d)) (by kernel_rfl) ⟨y0, y1, y2⟩ (fun hHeld => ?_)
  refine wpAnyH_take (i := 0) (v := ?vv0_1) rfl (by kernel_rfl) (by kernel_rfl) (by kernel_rfl) (fun _ _ _ h => h) (Or.inl ⟨by rfl, ?yy0_1⟩) (by assumption) ?rr0_1
  case yy0_1 => (intro w hSw; (try dsimp only at hSw); (try simp only [List.getElem_toArray, List.getElem_cons_succ, List.getElem_cons_zero, Act.put, List.setIfInBounds_toArray, List.set_cons_zero, List.set_cons_succ]); go_simp; (try (with_reducible rfl)))
  try simp only [List.getElem_toArray, List.getElem_cons_succ, List.getElem_cons_zero, Act.put, List.setIfInBounds_toArray, List.set_cons_zero, List.set_cons_succ]
  refine wpAnyH_take (i := 1) (v := ?vv1_2) rfl (by kernel_rfl) (by kernel_rfl) (by kernel_rfl) (fun _ _ _ h => h) (Or.inl ⟨by rfl, ?yy1_2⟩) (by assumption) ?rr1_2
  case yy1_2 => (intro w hSw; (try dsimp only at hSw); (try simp only [List.getElem_toArray, List.getElem_cons_succ, List.getElem_cons_zero, Act.put, List.setIfInBounds_toArray, List.set_cons_zero, List.set_cons_succ]); go_simp; (try (with_reducible rfl)))
  try simp only [List.getElem_toArray, List.getElem_cons_succ, List.getElem_cons_zero, Act.put, List.setIfInBounds_toArray, List.set_cons_zero, List.set_cons_succ]
  refine wpAnyH_take (i := 2) (v := ?vv2_3) rfl (by kernel_rfl) (by kernel_rfl) (by kernel_rfl) (fun _ _ _ h => h) (Or.inl ⟨by rfl, ?yy2_3⟩) (by assumption) ?rr2_3
  case yy2_3 => (intro w hSw; (try dsimp only at hSw); (try simp only [List.getElem_toArray, List.getElem_cons_succ, List.getElem_cons_zero, Act.put, List.setIfInBounds_toArray, List.set_cons_zero, List.set_cons_succ]); go_simp; (try (with_reducible rfl)))
  try simp only [List.getElem_toArray, List.getElem_cons_succ, List.getElem_cons_zero, Act.put, List.setIfInBounds_toArray, List.set_cons_zero, List.set_cons_succ]
  refine wpAnyH_take (i := 3) (v := ?vv3_4) rfl (by kernel_rfl) (by kernel_rfl) (by kernel_rfl) (fun _ _ _ h => h) (Or.inl ⟨by rfl, ?yy3_4⟩) (by assumption) ?rr3_4
  case yy3_4 => (intro w hSw; (try dsimp only at hSw); (try simp only [List.getElem_toArray, List.getElem_cons_succ, List.getElem_cons_zero, Act.put, List.setIfInBounds_toArray, List.set_cons_zero, List.set_cons_succ]); go_simp; (try (with_reducible rfl)))
  try simp only [List.getElem_toArray, List.getElem_cons_succ, List.getElem_cons_zero, Act.put, List.setIfInBounds_toArray, List.set_cons_zero, List.set_cons_succ]
  refine wpAnyH_take (i := 4) (v := ?vv4_5) rfl (by kernel_rfl) (by kernel_rfl) (by kernel_rfl) (fun _ _ _ h => h) (Or.inl ⟨by rfl, ?yy4_5⟩) (by assumption) ?rr4_5
  case yy4_5 => (intro w hSw; (try dsimp only at hSw); (try simp only [List.getElem_toArray, List.getElem_cons_succ, List.getElem_cons_zero, Act.put, List.setIfInBounds_toArray, List.set_cons_zero, List.set_cons_succ]); go_simp; (try (with_reducible rfl)))
  try simp only [List.getElem_toArray, List.getElem_cons_succ, List.getElem_cons_zero, Act.put, List.setIfInBounds_toArray, List.set_cons_zero, List.set_cons_succ]
  refine wpAnyH_take (i := 5) (v := ?vv5_6) rfl (by kernel_rfl) (by kernel_rfl) (by kernel_rfl) (fun _ _ _ h => h) (Or.inl ⟨by rfl, ?yy5_6⟩) (by assumption) ?rr5_6
  case yy5_6 => (intro w hSw; (try dsimp only at hSw); (try simp only [List.getElem_toArray, List.getElem_cons_succ, List.getElem_cons_zero, Act.put, List.setIfInBounds_toArray, List.set_cons_zero, List.set_cons_succ]); go_simp; (try (with_reducible rfl)))
  try simp only [List.getElem_toArray, List.getElem_cons_succ, List.getElem_cons_zero, Act.put, List.setIfInBounds_toArray, List.set_cons_zero, List.set_cons_succ]
  refine wpAnyH_take (i := 6) (v := ?vv6_7) rfl (by kernel_rfl) (by kernel_rfl) (by kernel_rfl) (fun _ _ _ h => h) (Or.inl ⟨by rfl, ?yy6_7⟩) (by assumption) ?rr6_7
  case yy6_7 => (intro w hSw; (try dsimp only at hSw); (try simp only [List.getElem_toArray, List.getElem_cons_succ, List.getElem_cons_zero, Act.put, List.setIfInBounds_toArray, List.set_cons_zero, List.set_cons_succ]); go_simp; (try (with_reducible rfl)))
  try simp only [List.getElem_toArray, List.getElem_cons_succ, List.getElem_cons_zero, Act.put, List.setIfInBounds_toArray, List.set_cons_zero, List.set_cons_succ]
  refine wpAnyH_take (i := 7) (v := ?vv7_8) rfl (by kernel_rfl) (by kernel_rfl) (by kernel_rfl) (fun _ _ _ h => h) (Or.inl ⟨by rfl, ?yy7_8⟩) (by assumption) ?rr7_8
  case yy7_8 => (intro w hSw; (try dsimp only at hSw); (try simp only [List.getElem_toArray, List.getElem_cons_succ, List.getElem_cons_zero, Act.put, List.setIfInBounds_toArray, List.set_cons_zero, List.set_cons_succ]); go_simp; (try (with_reducible rfl)))
  try simp only [List.getElem_toArray, List.getElem_cons_succ, List.getElem_cons_zero, Act.put, List.setIfInBounds_toArray, List.set_cons_zero, List.set_cons_succ]
  refine wpAnyH_ready (rs := [8]) (by kernel_rfl) (by simp) ?_
  refine AllReadyH.cons (o := _) rfl (fun K hK => ?_) AllReadyH.nil
  try simp only [List.getElem_toArray, List.getElem_cons_succ, List.getElem_cons_zero, Act.put, List.setIfInBounds_toArray, List.set_cons_zero, List.set_cons_succ]
  go_simp
  refine HA.out.mono ?_
  rintro e w5 ⟨A, c, rfl, hr, hx, hm⟩
  have HX5 := Lib.hid (HX2.out.moves hm ng)
  have HP9 := Lib.hid (HP2.out.moves hm hx)
  have HF := HP2.out.fin O rfl rfl rfl rfl hr hx hm
  unfold outV outC
  generalize O.pkts.length = n at *
  clear hr hx hm
  have c0 := HP9.out.o0
  have c1 := HP9.out.o1
  have c2 := HP9.out.o2
  have c3 := HP9.out.o3
  have f0 := HP9.out.of 0
  have f1 := HP9.out.of 1
  have f2 := HP9.out.of 2
  have f3 := HP9.out.of 3
  refine hK.out _ _ ⟨HX5.out.at_ 0, HX5.out.at_ 1, HX5.out.at_ 2⟩ (fun hHeld => ?_)
  clear hK K
  try simp only [List.getElem_toArray, List.getElem_cons_succ, List.getElem_cons_zero, Act.put, List.setIfInBounds_toArray, List.set_cons_zero, List.set_cons_succ]
  have nb : ¬ w.heap.size = w.heap.size + 1 := by omega
  have HX6 := Lib.hid ((((HX5.out.moves (set1_moves w5 (w.heap.size + 1) 0 (.slice A n c)) nb).moves (set1_moves _ (w.heap.size + 1) 1 (.bool O.done)) nb).moves (set1_moves _ (w.heap.size + 1) 2 (.bool O.failed)) nb).moves (set1_moves _ (w.heap.size + 1) 3 (.string O.name)) nb)
  refine wpAnyH_ready (rs := [9]) (by kernel_rfl) (by simp) ?_
  refine AllReadyH.cons (o := _) rfl (fun K hK => ?_) AllReadyH.nil
  try simp only [List.getElem_toArray, List.getElem_cons_succ, List.getElem_cons_zero, Act.put, List.setIfInBounds_toArray, List.set_cons_zero, List.set_cons_succ]
  go_simp
  refine hK.out _ _ ⟨HX6.out.at_ 0, HX6.out.at_ 1, HX6.out.at_ 2⟩ (fun hHeld => ?_)
  clear hK K
  try simp only [List.getElem_toArray, List.getElem_cons_succ, List.getElem_cons_zero, Act.put, List.setIfInBounds_toArray, List.set_cons_zero, List.set_cons_succ]
  refine wpAnyH_done (by kernel_rfl) ?_ _
  go_wp2
  (try simp only [Exit.inBlock, Exit.then])
  refine bodyPost_ret (results_out rfl rfl (by exact HF.out.1)) rfl ?_
  exact HF.out.2
set_option maxHeartbeats 2000000 in
set_option maxRecDepth 100000 in
theorem stick_any (g : Nat) (s : Sv) (d : UInt32) (w : World) (h : SAt w g s) (hi : Inv s) (hG : Globs w) :
    Calls Tryd.prog 17 #[ptr g, .int .u32 d.toNat] w (OutQ g (pv (tickS s d)) 67 (tickO s d) w) := by
  obtain ⟨V, hV, hs, HP, HB⟩ := start_one h
  have HGV : Hid (Globs (V.drewN 1)) := hG.below (HB.out.drewN' 1)
  have hGs : Hid (2 ≤ (V.drewN 1).heap.size) := HGV.out.size
  have HP2 := Lib.hid (HP.out.drewN 1)
  have HE : Hid (Calls Tryd.prog 37 #[ptr g] (V.drewN 1) fun e w' => ∃ mm, e = .returned (.map (some mm)) ∧ Dm w' mm g (expL s) ∧ Below (V.drewN 1).heap.size (V.drewN 1) w') := expiries_any g s (V.drewN 1) HP2.out.blk
  have HTk : Hid (∀ mm W, SAt W g s → Globs W → Dm W mm g (expL s) → Calls Tryd.prog 35 #[ptr g, .map (some mm), .agg #[.int .u32 d.toNat, .int .u8 0, .int .u8 0, .string ⟨#[]⟩, .string ⟨#[]⟩, .bool false]] W (OutQ g (pv (tickS s d)) 67 (tickO s d) W)) := fun mm W hW hGW hm => tick_any g mm s ⟨d, ⟨0, 0, bOf []⟩, bOf [], false⟩ W hW hi hGW hm
  unfold SAt at HTk
  generalize pv (tickS s d) = cs at *
  generalize tickO s d = O at *
  generalize expL s = L at *
  generalize pv s = ps at *
  clear h hi hG hs
  unfold ptr at *
  go_enter Tryd.func17, Tryd.ntmps17
  go_upto_region 3 with (fail)
  refine wp_region_held_drew (S := fun _ => True) (by kernel_rfl) trivial (fun hHeld => ?_)
  refine wpAnyH_take (i := 0) (v := ?vv0_9) rfl (by kernel_rfl) (by kernel_rfl) (by kernel_rfl) (fun _ _ _ h => h) (Or.inl ⟨by rfl, ?yy0_9⟩) (by assumption) ?rr0_9
  case yy0_9 => (intro w hSw; (try dsimp only at hSw); (try simp only [List.getElem_toArray, List.getElem_cons_succ, List.getElem_cons_zero, Act.put, List.setIfInBounds_toArray, List.set_cons_zero, List.set_cons_succ]); go_simp; (try (with_reducible rfl)))
  try simp only [List.getElem_toArray, List.getElem_cons_succ, List.getElem_cons_zero, Act.put, List.setIfInBounds_toArray, List.set_cons_zero, List.set_cons_succ]
  refine wpAnyH_take (i := 1) (v := ?vv1_10) rfl (by kernel_rfl) (by kernel_rfl) (by kernel_rfl) (fun _ _ _ h => h) (Or.inl ⟨by rfl, ?yy1_10⟩) (by assumption) ?rr1_10
  case yy1_10 => (intro w hSw; (try dsimp only at hSw); (try simp only [List.getElem_toArray, List.getElem_cons_succ, List.getElem_cons_zero, Act.put, List.setIfInBounds_toArray, List.set_cons_zero, List.set_cons_succ]); go_simp; (try (with_reducible rfl)))
  try simp only [List.getElem_toArray, List.getElem_cons_succ, List.getElem_cons_zero, Act.put, List.setIfInBounds_toArray, List.set_cons_zero, List.set_cons_succ]
  refine wpAnyH_take (i := 2) (v := ?vv2_11) rfl (by kernel_rfl) (by kernel_rfl) (by kernel_rfl) (fun _ _ _ h => h) (Or.inl ⟨by rfl, ?yy2_11⟩) (by assumption) ?rr2_11
  case yy2_11 => (intro w hSw; (try dsimp only at hSw); (try simp only [List.getElem_toArray, List.getElem_cons_succ, List.getElem_cons_zero, Act.put, List.setIfInBounds_toArray, List.set_cons_zero, List.set_cons_succ]); go_simp; (try (with_reducible rfl)))
  try simp only [List.getElem_toArray, List.getElem_cons_succ, List.getElem_cons_zero, Act.put, List.setIfInBounds_toArray, List.set_cons_zero, List.set_cons_succ]
  refine wpAnyH_take (i := 3) (v := ?vv3_12) rfl (by kernel_rfl) (by kernel_rfl) (by kernel_rfl) (fun _ _ _ h => h) (Or.inl ⟨by rfl, ?yy3_12⟩) (by assumption) ?rr3_12
  case yy3_12 => (intro w hSw; (try dsimp only at hSw); (try simp only [List.getElem_toArray, List.getElem_cons_succ, List.getElem_cons_zero, Act.put, List.setIfInBounds_toArray, List.set_cons_zero, List.set_cons_succ]); go_simp; (try (with_reducible rfl)))
  try simp only [List.getElem_toArray, List.getElem_cons_succ, List.getElem_cons_zero, Act.put, List.setIfInBounds_toArray, List.set_cons_zero, List.set_cons_succ]
  refine wpAnyH_take (i := 5) (v := ?vv5_13) rfl (by kernel_rfl) (by kernel_rfl) (by kernel_rfl) (fun _ _ _ h => h) (Or.inl ⟨by rfl, ?yy5_13⟩) (by assumption) ?rr5_13
  case yy5_13 => (intro w hSw; (try dsimp only at hSw); (try simp only [List.getElem_toArray, List.getElem_cons_succ, List.getElem_cons_zero, Act.put, List.setIfInBounds_toArray, List.set_cons_zero, List.set_cons_succ]); go_simp; (try (with_reducible rfl)))
  try simp only [List.getElem_toArray, List.getElem_cons_succ, List.getElem_cons_zero, Act.put, List.setIfInBounds_toArray, List.set_cons_zero, List.set_cons_succ]
  refine wpAnyH_take (i := 6) (v := ?vv6_14) rfl (by kernel_rfl) (by kernel_rfl) (by kernel_rfl) (fun _ _ _ h => h) (Or.inl ⟨by rfl, ?yy6_14⟩) (by assumption) ?rr6_14
  case yy6_14 => (intro w hSw; (try dsimp only at hSw); (try simp only [List.getElem_toArray, List.getElem_cons_succ, List.getElem_cons_zero, Act.put, List.setIfInBounds_toArray, List.set_cons_zero, List.set_cons_succ]); go_simp; (try (with_reducible rfl)))
  try simp only [List.getElem_toArray, List.getElem_cons_succ, List.getElem_cons_zero, Act.put, List.setIfInBounds_toArray, List.set_cons_zero, List.set_cons_succ]
  refine wpAnyH_ready (rs := [4]) (by kernel_rfl) (by simp) ?_
  refine AllReadyH.cons (o := _) rfl (fun K hK => ?_) AllReadyH.nil
  try simp only [List.getElem_toArray, List.getElem_cons_succ, List.getElem_cons_zero, Act.put, List.setIfInBounds_toArray, List.set_cons_zero, List.set_cons_succ]
  go_simp
  refine HE.out.mono ?_
  rintro e w1 ⟨mm, rfl, hm, hb⟩
  have HP1 := Lib.hid (HP2.out.below hb)
  have HT := Lib.hid (HTk.out mm w1 HP1.out.blk (HGV.out.belowN hb (by exact hGs.out)) hm)
  clear hm hb
  refine hK.out _ _ trivial (fun hHeld => ?_)
  clear hK K
  try simp only [List.getElem_toArray, List.getElem_cons_succ, List.getElem_cons_zero, Act.put, List.setIfInBounds_toArray, List.set_cons_zero, List.set_cons_succ]
  refine wpAnyH_ready (rs := [7]) (by kernel_rfl) (by simp) ?_
  refine AllReadyH.cons (o := _) rfl (fun K hK => ?_) AllReadyH.nil
  try simp only [List.getElem_toArray, List.getElem_cons_succ, List.getElem_cons_zero, Act.put, List.setIfInBounds_toArray, List.set_cons_zero, List.set_cons_succ]
  go_simp
  refine HT.out.mono ?_
  rintro e w5 ⟨A, c, rfl, hr, hx, hm⟩
  have HP9 := Lib.hid (HP1.out.moves hm hx)
  have HF := HP1.out.fin O rfl rfl rfl rfl hr hx hm
  unfold outV outC
  generalize O.pkts.length = n at *
  clear hr hx hm
  have c0 := HP9.out.o0
  have c1 := HP9.out.o1
  have c2 := HP9.out.o2
  have c3 := HP9.out.o3
  have f0 := HP9.out.of 0
  have f1 := HP9.out.of 1
  have f2 := HP9.out.of 2
  have f3 := HP9.out.of 3
  refine hK.out _ _ trivial (fun hHeld => ?_)
  clear hK K
  try simp only [List.getElem_toArray, List.getElem_cons_succ, List.getElem_cons_zero, Act.put, List.setIfInBounds_toArray, List.set_cons_zero, List.set_cons_succ]
  refine wpAnyH_ready (rs := [8]) (by kernel_rfl) (by simp) ?_
  refine AllReadyH.cons (o := _) rfl (fun K hK => ?_) AllReadyH.nil
  try simp only [List.getElem_toArray, List.getElem_cons_succ, List.getElem_cons_zero, Act.put, List.setIfInBounds_toArray, List.set_cons_zero, List.set_cons_succ]
  go_simp
  refine hK.out _ _ trivial (fun hHeld => ?_)
  clear hK K
  try simp only [List.getElem_toArray, List.getElem_cons_succ, List.getElem_cons_zero, Act.put, List.setIfInBounds_toArray, List.set_cons_zero, List.set_cons_succ]
  refine wpAnyH_done (by kernel_rfl) ?_ _
  go_wp2
  (try simp only [Exit.inBlock, Exit.then])
  refine bodyPost_ret (results_out rfl rfl (by exact HF.out.1)) rfl ?_
  exact HF.out.2
end Go.Proofs.YtpfbknbloeilmaaDoor.Ath
