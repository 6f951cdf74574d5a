/- A server: a packet that is good, or not, is answered. -/
import Derived.Test.YtpfbknbloeilmaaDoorAthE
import Derived.Test.YtpfbknbloeilmaaDoorGPapC
import Derived.Test.YtpfbknbloeilmaaDoorChpC
import Derived.Test.YtpfbknbloeilmaaDoorPktEq
namespace Go.Proofs.YtpfbknbloeilmaaDoor.Ath
open Go.RowKit Go.Proofs.YtpfbknbloeilmaaDoor.Oct Go.Proofs.YtpfbknbloeilmaaDoor.Row Go.Proofs.YtpfbknbloeilmaaDoor.Mem Go.Proofs.YtpfbknbloeilmaaDoor.Md5

/-- A packet was good. -/
def acS (s : Sv) (p : Pk) : Sv := { s with opn := false, clock := s.c.again, last := p }
theorem ac_pv (s : Sv) (p : Pk) : (((((pv s).set 9 (.string ⟨#[]⟩)).set 7 (.int .i64 s.c.again)).set 11 (.int .u8 p.c.toNat)).set 12 (.int .u8 p.i.toNat)).set 13 (.string p.d) = pv (acS s p) := rfl
theorem start_box {w : World} {g : Nat} {cs : List Value} {T : TypeId} (h : Blk w g cs T) (bs : List Value) (B : TypeId) : ∃ V, (w.alloc (.cells bs.toArray B)).alloc (.cells #[.slice none 0 0, .bool false, .bool false, .string ⟨#[]⟩] 39) = V ∧ V.heap.size = w.heap.size + 2 ∧ Hid (Pt w V g (w.heap.size + 1) cs T) ∧ Hid (Below w.heap.size w V) ∧ Hid (Blk V w.heap.size bs B) := start_two h bs B
set_option maxHeartbeats 1000000 in
set_option maxRecDepth 100000 in
theorem accept_any (g : Nat) (s : Sv) (p : Pk) (w : World) (h : SAt w g s) :
    Calls Tryd.prog 69 #[ptr g, .agg #[.int .u8 p.c.toNat, .int .u8 p.i.toNat, .string p.d]] w (OutQ g (pv (acS s p)) 67 (sends [ans s.c p.i true]) w) := by
  obtain ⟨V, hV, hs, HP, HB, HX⟩ := start_two h [.int .u8 p.c.toNat, .int .u8 p.i.toNat, .string p.d] 46
  have x0 : V.cell? ⟨w.heap.size, 0, none⟩ = some (.int .u8 p.c.toNat) := HX.out.at_ 0
  have x1 : V.cell? ⟨w.heap.size, 1, none⟩ = some (.int .u8 p.i.toNat) := HX.out.at_ 1
  have x2 : V.cell? ⟨w.heap.size, 2, none⟩ = some (.string p.d) := HX.out.at_ 2
  have q9 : V.cell? ⟨g, 9, none⟩ = some (.string (if s.opn then s.value else bOf [])) := HP.out.c 9
  have q7 : V.cell? ⟨g, 7, none⟩ = some (.int .i64 s.clock) := HP.out.c 7
  have q8 : V.cell? ⟨g, 8, none⟩ = some (.int .i64 s.c.again) := HP.out.c 8
  have q11 : V.cell? ⟨g, 11, none⟩ = some (.int .u8 s.last.c.toNat) := HP.out.c 11
  have q12 : V.cell? ⟨g, 12, none⟩ = some (.int .u8 s.last.i.toNat) := HP.out.c 12
  have q13 : V.cell? ⟨g, 13, none⟩ = some (.string s.last.d) := HP.out.c 13
  have f9 := HP.out.f 9
  have f7 := HP.out.f 7
  have f11 := HP.out.f 11
  have f12 := HP.out.f 12
  have f13 := HP.out.f 13
  have HP2 := Lib.hid (((((HP.out.set 9 (.string ⟨#[]⟩)).set 7 (.int .i64 s.c.again)).set 11 (.int .u8 p.c.toNat)).set 12 (.int .u8 p.i.toNat)).set 13 (.string p.d))
  rw [ac_pv] at HP2
  have HC : Hid (∀ W, SAt W g (acS s p) → Calls Tryd.prog 70 #[ptr g, .int .u8 p.i.toNat, .bool true] W (AnsQ (ans s.c p.i true) W)) := fun W hW => answer_any g (acS s p) p.i true W hW
  unfold SAt at HC
  have ng : ¬ w.heap.size = g := by have := HP.out.hg; omega
  have ng' : ¬ g = w.heap.size := fun e => ng e.symm
  generalize pv (acS s p) = cs at *
  generalize ans s.c p.i true = P at *
  generalize pv s = ps at *
  generalize (if s.opn then s.value else bOf []) = vl at *
  clear h hs
  unfold ptr at *
  go_enter Tryd.func69, Tryd.ntmps69
  go_wp2_with fail
  refine (HC.out _ HP2.out.blk).mono ?_
  rintro e w1 ⟨rfl, hb⟩
  have HP3 := Lib.hid ((HP2.out.below hb).alloc (.cells #[.int .u8 P.c.toNat, .int .u8 P.i.toNat, .string P.d] 46))
  have HS := Lib.hid (send_any _ HP3.out.blk (sn_new w1 g P 46 1 (HP2.out.below hb).blk.lt))
  clear hb
  unfold pkA
  go_wp2_with fail
  refine HS.out.mono ?_
  rintro e w5 ⟨A, c, rfl, hr, hx, hm⟩
  have HP9 := Lib.hid (HP3.out.moves hm hx)
  have HF := HP3.out.fin (sends [P]) (n := 1) (d := false) (f := false) (nm := bOf []) rfl rfl rfl rfl hr hx hm
  unfold outV outC sends
  (try simp only [List.length_cons, List.length_nil])
  clear hr hx hm
  have c0 := HP9.out.o0
  have c1 := HP9.out.o1
  have c2 := HP9.out.o2
  have c3 := HP9.out.o3
  have f0 := HP9.out.of 0
  have f1 := HP9.out.of 1
  have f2 := HP9.out.of 2
  have f3 := HP9.out.of 3
  go_wp2
  (try simp only [Exit.inBlock, Exit.then])
  refine bodyPost_ret (results_out rfl rfl (by exact HF.out.1)) rfl ?_
  exact HF.out.2
/-- A packet was not good. -/
def reS (s : Sv) : Sv := if pap s.c then (if s.c.tries ≤ s.bad + 1 then { s with bad := s.bad + 1, st := 3 } else { s with bad := s.bad + 1 }) else loseS s
def reO (s : Sv) (i : UInt8) : Ot := if pap s.c then (if s.c.tries ≤ s.bad + 1 then fails [ans s.c i false] else sends [ans s.c i false]) else fails [ans s.c i false]
set_option maxHeartbeats 4000000 in
set_option maxRecDepth 100000 in
theorem refuse_any (g : Nat) (s : Sv) (p : Pk) (w : World) (h : SAt w g s) (hb0 : 0 ≤ s.bad) (hb1 : s.bad ≤ 20) (hk : pap s.c = false → s.c.kind = 2) :
    Calls Tryd.prog 68 #[ptr g, .agg #[.int .u8 p.c.toNat, .int .u8 p.i.toNat, .string p.d]] w (OutQ g (pv (reS s)) 67 (reO s p.i) w) := by
  obtain ⟨V, hV, hs, HP, HB, HX⟩ := start_two h [.int .u8 p.c.toNat, .int .u8 p.i.toNat, .string p.d] 46
  have x0 : V.cell? ⟨w.heap.size, 0, none⟩ = some (.int .u8 p.c.toNat) := HX.out.at_ 0
  have x1 : V.cell? ⟨w.heap.size, 1, none⟩ = some (.int .u8 p.i.toNat) := HX.out.at_ 1
  have x2 : V.cell? ⟨w.heap.size, 2, none⟩ = some (.string p.d) := HX.out.at_ 2
  have HC : Hid (Calls Tryd.prog 70 #[ptr g, .int .u8 p.i.toNat, .bool false] V (AnsQ (ans s.c p.i false) V)) := answer_any g s p.i false V HP.out.blk
  unfold reS reO
  have HK : Hid (Blk V g (pv s) 67) := HP.out.blk
  cases hp : pap s.c
  · simp only [Bool.false_eq_true, if_false]
    have HL : Hid (∀ W v l, SAt W g s → Sn W g v l → Calls Tryd.prog 83 #[ptr g, v] W (OutQ g (pv (loseS s)) 67 (fails l) W)) := fun W v l hW hv => lose_any g s W hW hv
    have HK0 : Hid ((pv s)[0]? = some (.int .u8 2)) := by show some (Value.int .u8 (s.c.kind.toNat : Int)) = _; rw [hk hp]; rfl
    unfold SAt at HL
    generalize pv (loseS s) = cs at *
    generalize ans s.c p.i false = P at *
    generalize pv s = ps at *
    clear h hs hk hp hb0 hb1
    unfold ptr at *
    go_enter Tryd.func68, Tryd.ntmps68
    go_wp2_with fail
    refine HC.out.mono ?_
    rintro e w1 ⟨rfl, hb⟩
    have HP2 := Lib.hid ((HP.out.below hb).alloc (.cells #[.int .u8 P.c.toNat, .int .u8 P.i.toNat, .string P.d] 46))
    have HY := Lib.hid (blk_new w1 [.int .u8 P.c.toNat, .int .u8 P.i.toNat, .string P.d] 46)
    obtain ⟨W, hW⟩ : ∃ W, w1.alloc (.cells #[.int .u8 P.c.toNat, .int .u8 P.i.toNat, .string P.d] 46) = W := ⟨_, rfl⟩
    rw [hW] at HP2
    rw [show (w1.alloc (.cells [.int .u8 P.c.toNat, .int .u8 P.i.toNat, .string P.d].toArray 46)) = W from hW] at HY
    have u0 := HY.out.at_ 0
    have u1 := HY.out.at_ 1
    have u2 := HY.out.at_ 2
    have q0 : W.cell? ⟨g, 0, none⟩ = some (.int .u8 2) := (HP2.out.c 0).trans HK0.out
    have HP3 := Lib.hid (HP2.out.alloc (.cells #[.int .u8 P.c.toNat, .int .u8 P.i.toNat, .string P.d] 46))
    have HS := Lib.hid (HL.out _ _ _ HP3.out.blk (sn_new W g P 46 1 HP2.out.blk.lt))
    clear hb
    unfold pkA
    go_wp2_with fail
    refine HS.out.mono ?_
    rintro e w5 ⟨A, c, rfl, hr, hx, hm⟩
    have HP9 := Lib.hid (HP3.out.moves hm hx)
    have HF := HP3.out.fin (fails [P]) (n := 1) (d := false) (f := true) (nm := bOf []) rfl rfl rfl rfl hr hx hm
    unfold outV outC fails
    (try simp only [List.length_cons, List.length_nil])
    clear hr hx hm
    have c0 := HP9.out.o0
    have c1 := HP9.out.o1
    have c2 := HP9.out.o2
    have c3 := HP9.out.o3
    have f0 := HP9.out.of 0
    have f1 := HP9.out.of 1
    have f2 := HP9.out.of 2
    have f3 := HP9.out.of 3
    go_wp2
    (try simp only [Exit.inBlock, Exit.then])
    refine bodyPost_ret (results_out rfl rfl (by exact HF.out.1)) rfl ?_
    exact HF.out.2
  · simp only [if_true]
    have hkp : s.c.kind = 1 := kind_pap hp
    have HK0 : Hid ((pv s)[0]? = some (.int .u8 1)) := by show some (Value.int .u8 (s.c.kind.toNat : Int)) = _; rw [hkp]; rfl
    have HK6 : Hid ((pv s)[6]? = some (.int .i64 s.bad)) := by show some (Value.int .i64 (if pap s.c then s.bad else s.sent)) = _; rw [hp]; rfl
    have e6 : (pv s).set 6 (.int .i64 (s.bad + 1)) = pv { s with bad := s.bad + 1 } := by
      show mV { mcS s with tried := s.bad + 1 } ++ rS s = _
      unfold pv mcS rS
      simp only [hp, if_true]
    have HE : Hid (∀ W, SAt W g { s with bad := s.bad + 1 } → Calls Tryd.prog 81 #[ptr g] W fun e w' => e = .returned (.bool (decide (s.c.tries ≤ s.bad + 1))) ∧ ∃ k, w' = W.drewN k) := fun W hW => by
      have := exhausted_any g (mcS { s with bad := s.bad + 1 }) (rS { s with bad := s.bad + 1 }) _ W hW
      rw [show (mcS { s with bad := s.bad + 1 }).tried = s.bad + 1 from by show (if pap s.c then s.bad + 1 else s.sent) = s.bad + 1; rw [hp]; rfl] at this
      exact this
    have HL : Hid (∀ W v l, SAt W g { s with bad := s.bad + 1 } → Sn W g v l → Calls Tryd.prog 82 #[ptr g, v] W (OutQ g (pv { s with bad := s.bad + 1, st := 3 }) 67 (fails l) W)) := fun W v l hW hv => fail_any g (mcS { s with bad := s.bad + 1 }) (rS { s with bad := s.bad + 1 }) _ W hW hv
    unfold SAt at HE HL
    have hd : s.c.tries ≤ s.bad + 1 ∨ ¬ s.c.tries ≤ s.bad + 1 := Decidable.em _
    rcases hd with hd | hd
    · rw [if_pos hd, if_pos hd]
      rw [decide_eq_true hd] at HE
      clear hd
      generalize pv { s with bad := s.bad + 1, st := 3 } = cs3 at *
      generalize pv { s with bad := s.bad + 1 } = cs2 at *
      generalize ans s.c p.i false = P at *
      generalize pv s = ps at *
      generalize s.bad = bd at *
      generalize s.c.tries = tr at *
      have hw1 : bd + 1 ≤ 21 := by omega
      clear h hs hk hp hkp
      have HE6 := Lib.hid e6
      clear e6
      unfold ptr at *
      go_enter Tryd.func68, Tryd.ntmps68
      go_wp2_with fail
      refine HC.out.mono ?_
      rintro e w1 ⟨rfl, hb⟩
      have HP2 := Lib.hid ((HP.out.below hb).alloc (.cells #[.int .u8 P.c.toNat, .int .u8 P.i.toNat, .string P.d] 46))
      have HY := Lib.hid (blk_new w1 [.int .u8 P.c.toNat, .int .u8 P.i.toNat, .string P.d] 46)
      obtain ⟨W, hW⟩ : ∃ W, w1.alloc (.cells #[.int .u8 P.c.toNat, .int .u8 P.i.toNat, .string P.d] 46) = W := ⟨_, rfl⟩
      obtain ⟨bb, hbb⟩ : ∃ bb, w1.heap.size = bb := ⟨_, rfl⟩
      rw [hW] at HP2
      rw [show (w1.alloc (.cells [.int .u8 P.c.toNat, .int .u8 P.i.toNat, .string P.d].toArray 46)) = W from hW, hbb] at HY
      have q0 : W.cell? ⟨g, 0, none⟩ = some (.int .u8 1) := (HP2.out.c 0).trans HK0.out
      have q6 : W.cell? ⟨g, 6, none⟩ = some (.int .i64 bd) := (HP2.out.c 6).trans HK6.out
      have f6 := HP2.out.f 6
      have HP3 := Lib.hid (HP2.out.set 6 (.int .i64 (bd + 1)))
      rw [HE6.out] at HP3
      have nb : bb ≠ g := fun e => by have h1 := HP.out.hg; have h2 := HP.out.mv.size; have h3 := hb.size; omega
      have HY2 := Lib.hid (HY.out.moves (set1_moves W g 6 (.int .i64 (bd + 1))) nb)
      clear hb
      unfold pkA
      go_wp2_with fail
      refine (HE.out _ HP3.out.blk).mono ?_
      rintro e w3 ⟨rfl, k, rfl⟩
      obtain ⟨W2, hW2⟩ : ∃ W2, (W.setCell ⟨g, 6, none⟩ (.int .i64 (bd + 1))).drewN k = W2 := ⟨_, rfl⟩
      have HP4 := Lib.hid (HP3.out.drewN k)
      have HY4 := Lib.hid (HY2.out.drewN k)
      rw [hW2] at HP4 HY4
      have u0 : W2.drew.cell? ⟨bb, 0, none⟩ = some (.int .u8 P.c.toNat) := HY4.out.at_ 0
      have u1 : W2.drew.cell? ⟨bb, 1, none⟩ = some (.int .u8 P.i.toNat) := HY4.out.at_ 1
      have u2 : W2.drew.cell? ⟨bb, 2, none⟩ = some (.string P.d) := HY4.out.at_ 2
      go_upto_region 6 with (fail)
      refine wp_region_held_drew (S := fun w' => w'.cell? ⟨bb, 0, none⟩ = some (.int .u8 P.c.toNat) ∧ w'.cell? ⟨bb, 1, none⟩ = some (.int .u8 P.i.toNat) ∧ w'.cell? ⟨bb, 2, none⟩ = some (.string P.d)) (by kernel_rfl) ⟨u0, u1, u2⟩ (fun hHeld => ?_)
      refine wpAnyH_take (i := 0) (v := ?vv0_1) rfl (by kernel_rfl) (by kernel_rfl) (by kernel_rfl) (fun _ _ _ h => h) (Or.inl ⟨by rfl, ?yy0_1⟩) (by assumption) ?rr0_1
      case yy0_1 => (intro w hSw; (try dsimp only at hSw); (try simp only [List.getElem_toArray, List.getElem_cons_succ, List.getElem_cons_zero, Act.put, List.setIfInBounds_toArray, List.set_cons_zero, List.set_cons_succ]); go_simp; (try (with_reducible rfl)))
      try simp only [List.getElem_toArray, List.getElem_cons_succ, List.getElem_cons_zero, Act.put, List.setIfInBounds_toArray, List.set_cons_zero, List.set_cons_succ]
      refine wpAnyH_take (i := 1) (v := ?vv1_2) rfl (by kernel_rfl) (by kernel_rfl) (by kernel_rfl) (fun _ _ _ h => h) (Or.inl ⟨by rfl, ?yy1_2⟩) (by assumption) ?rr1_2
      case yy1_2 => (intro w hSw; (try dsimp only at hSw); (try simp only [List.getElem_toArray, List.getElem_cons_succ, List.getElem_cons_zero, Act.put, List.setIfInBounds_toArray, List.set_cons_zero, List.set_cons_succ]); go_simp; (try (with_reducible rfl)))
      try simp only [List.getElem_toArray, List.getElem_cons_succ, List.getElem_cons_zero, Act.put, List.setIfInBounds_toArray, List.set_cons_zero, List.set_cons_succ]
      refine wpAnyH_take (i := 2) (v := ?vv2_3) rfl (by kernel_rfl) (by kernel_rfl) (by kernel_rfl) (fun _ _ _ h => h) (Or.inl ⟨by rfl, ?yy2_3⟩) (by assumption) ?rr2_3
      case yy2_3 => (intro w hSw; (try dsimp only at hSw); (try simp only [List.getElem_toArray, List.getElem_cons_succ, List.getElem_cons_zero, Act.put, List.setIfInBounds_toArray, List.set_cons_zero, List.set_cons_succ]); go_simp; (try (with_reducible rfl)))
      try simp only [List.getElem_toArray, List.getElem_cons_succ, List.getElem_cons_zero, Act.put, List.setIfInBounds_toArray, List.set_cons_zero, List.set_cons_succ]
      refine wpAnyH_take (i := 3) (v := ?vv3_4) rfl (by kernel_rfl) (by kernel_rfl) (by kernel_rfl) (fun _ _ _ h => h) (Or.inl ⟨by rfl, ?yy3_4⟩) (by assumption) ?rr3_4
      case yy3_4 => (intro w hSw; (try dsimp only at hSw); (try simp only [List.getElem_toArray, List.getElem_cons_succ, List.getElem_cons_zero, Act.put, List.setIfInBounds_toArray, List.set_cons_zero, List.set_cons_succ]); go_simp; (try (with_reducible rfl)))
      try simp only [List.getElem_toArray, List.getElem_cons_succ, List.getElem_cons_zero, Act.put, List.setIfInBounds_toArray, List.set_cons_zero, List.set_cons_succ]
      have HP5 := Lib.hid ((HP4.out.drewN 1).alloc (.cells #[.int .u8 P.c.toNat, .int .u8 P.i.toNat, .string P.d] 46))
      have HY5 := Lib.hid ((HY4.out.drewN 1).alloc (.cells #[.int .u8 P.c.toNat, .int .u8 P.i.toNat, .string P.d] 46))
      have HS := Lib.hid (HL.out _ _ _ HP5.out.blk (sn_new (W2.drewN 1) g P 46 1 HP4.out.blk.lt))
      refine wpAnyH_ready (rs := [4]) (by kernel_rfl) (by simp) ?_
      refine AllReadyH.cons (o := _) rfl (fun K hK => ?_) AllReadyH.nil
      try simp only [List.getElem_toArray, List.getElem_cons_succ, List.getElem_cons_zero, Act.put, List.setIfInBounds_toArray, List.set_cons_zero, List.set_cons_succ]
      go_simp
      refine hK.out _ _ ⟨HY5.out.at_ 0, HY5.out.at_ 1, HY5.out.at_ 2⟩ (fun hHeld => ?_)
      clear hK K
      try simp only [List.getElem_toArray, List.getElem_cons_succ, List.getElem_cons_zero, Act.put, List.setIfInBounds_toArray, List.set_cons_zero, List.set_cons_succ]
      refine wpAnyH_ready (rs := [5]) (by kernel_rfl) (by simp) ?_
      refine AllReadyH.cons (o := _) rfl (fun K hK => ?_) AllReadyH.nil
      try simp only [List.getElem_toArray, List.getElem_cons_succ, List.getElem_cons_zero, Act.put, List.setIfInBounds_toArray, List.set_cons_zero, List.set_cons_succ]
      go_simp
      refine HS.out.mono ?_
      rintro e w5 ⟨A, c, rfl, hr, hx, hm⟩
      have HY6 := Lib.hid (HY5.out.moves hm nb)
      have HP9 := Lib.hid (HP5.out.moves hm hx)
      have HF := HP5.out.fin (fails [P]) (n := 1) (d := false) (f := true) (nm := bOf []) rfl rfl rfl rfl hr hx hm
      unfold outV outC fails
      (try simp only [List.length_cons, List.length_nil])
      clear hr hx hm
      refine hK.out _ _ ⟨HY6.out.at_ 0, HY6.out.at_ 1, HY6.out.at_ 2⟩ (fun hHeld => ?_)
      clear hK K
      try simp only [List.getElem_toArray, List.getElem_cons_succ, List.getElem_cons_zero, Act.put, List.setIfInBounds_toArray, List.set_cons_zero, List.set_cons_succ]
      have c0 := HP9.out.o0
      have c1 := HP9.out.o1
      have c2 := HP9.out.o2
      have c3 := HP9.out.o3
      have f0 := HP9.out.of 0
      have f1 := HP9.out.of 1
      have f2 := HP9.out.of 2
      have f3 := HP9.out.of 3
      have nb2 : bb ≠ w.heap.size + 1 := fun e => by subst e; have h1 : w5.heap[w.heap.size + 1]? = some _ := HP9.out.out; rw [show w5.heap[w.heap.size + 1]? = some _ from HY6.out] at h1; cases h1
      have HY7 := Lib.hid ((((HY6.out.moves (set1_moves w5 (w.heap.size + 1) 0 (.slice A 1 c)) nb2).moves (set1_moves _ (w.heap.size + 1) 1 (.bool false)) nb2).moves (set1_moves _ (w.heap.size + 1) 2 (.bool true)) nb2).moves (set1_moves _ (w.heap.size + 1) 3 (.string (bOf []))) nb2)
      refine wpAnyH_ready (rs := [6]) (by kernel_rfl) (by simp) ?_
      refine AllReadyH.cons (o := _) rfl (fun K hK => ?_) AllReadyH.nil
      try simp only [List.getElem_toArray, List.getElem_cons_succ, List.getElem_cons_zero, Act.put, List.setIfInBounds_toArray, List.set_cons_zero, List.set_cons_succ]
      go_simp
      refine hK.out _ _ ⟨HY7.out.at_ 0, HY7.out.at_ 1, HY7.out.at_ 2⟩ (fun hHeld => ?_)
      clear hK K
      try simp only [List.getElem_toArray, List.getElem_cons_succ, List.getElem_cons_zero, Act.put, List.setIfInBounds_toArray, List.set_cons_zero, List.set_cons_succ]
      refine wpAnyH_done (by kernel_rfl) ?_ _
      go_wp2
      (try simp only [Exit.inBlock, Exit.then])
      refine bodyPost_ret (results_out rfl rfl (by exact HF.out.1)) rfl ?_
      exact HF.out.2
    · rw [if_neg hd, if_neg hd]
      rw [decide_eq_false hd] at HE
      clear hd HL
      generalize pv { s with bad := s.bad + 1 } = cs2 at *
      generalize ans s.c p.i false = P at *
      generalize pv s = ps at *
      generalize s.bad = bd at *
      generalize s.c.tries = tr at *
      have hw1 : bd + 1 ≤ 21 := by omega
      clear h hs hk hp hkp
      have HE6 := Lib.hid e6
      clear e6
      unfold ptr at *
      go_enter Tryd.func68, Tryd.ntmps68
      go_wp2_with fail
      refine HC.out.mono ?_
      rintro e w1 ⟨rfl, hb⟩
      have HP2 := Lib.hid ((HP.out.below hb).alloc (.cells #[.int .u8 P.c.toNat, .int .u8 P.i.toNat, .string P.d] 46))
      have HY := Lib.hid (blk_new w1 [.int .u8 P.c.toNat, .int .u8 P.i.toNat, .string P.d] 46)
      obtain ⟨W, hW⟩ : ∃ W, w1.alloc (.cells #[.int .u8 P.c.toNat, .int .u8 P.i.toNat, .string P.d] 46) = W := ⟨_, rfl⟩
      obtain ⟨bb, hbb⟩ : ∃ bb, w1.heap.size = bb := ⟨_, rfl⟩
      rw [hW] at HP2
      rw [show (w1.alloc (.cells [.int .u8 P.c.toNat, .int .u8 P.i.toNat, .string P.d].toArray 46)) = W from hW, hbb] at HY
      have q0 : W.cell? ⟨g, 0, none⟩ = some (.int .u8 1) := (HP2.out.c 0).trans HK0.out
      have q6 : W.cell? ⟨g, 6, none⟩ = some (.int .i64 bd) := (HP2.out.c 6).trans HK6.out
      have f6 := HP2.out.f 6
      have HP3 := Lib.hid (HP2.out.set 6 (.int .i64 (bd + 1)))
      rw [HE6.out] at HP3
      have nb : bb ≠ g := fun e => by have h1 := HP.out.hg; have h2 := HP.out.mv.size; have h3 := hb.size; omega
      have HY2 := Lib.hid (HY.out.moves (set1_moves W g 6 (.int .i64 (bd + 1))) nb)
      clear hb
      unfold pkA
      go_wp2_with fail
      refine (HE.out _ HP3.out.blk).mono ?_
      rintro e w3 ⟨rfl, k, rfl⟩
      obtain ⟨W2, hW2⟩ : ∃ W2, (W.setCell ⟨g, 6, none⟩ (.int .i64 (bd + 1))).drewN k = W2 := ⟨_, rfl⟩
      have HP4 := Lib.hid (HP3.out.drewN k)
      have HY4 := Lib.hid (HY2.out.drewN k)
      rw [hW2] at HP4 HY4
      have u0 : W2.cell? ⟨bb, 0, none⟩ = some (.int .u8 P.c.toNat) := HY4.out.at_ 0
      have u1 : W2.cell? ⟨bb, 1, none⟩ = some (.int .u8 P.i.toNat) := HY4.out.at_ 1
      have u2 : W2.cell? ⟨bb, 2, none⟩ = some (.string P.d) := HY4.out.at_ 2
      have HP5 := Lib.hid (HP4.out.alloc (.cells #[.int .u8 P.c.toNat, .int .u8 P.i.toNat, .string P.d] 46))
      have HS := Lib.hid (send_any _ HP5.out.blk (sn_new W2 g P 46 1 HP4.out.blk.lt))
      go_wp2_with fail
      refine HS.out.mono ?_
      rintro e w5 ⟨A, c, rfl, hr, hx, hm⟩
      have HP9 := Lib.hid (HP5.out.moves hm hx)
      have HF := HP5.out.fin (sends [P]) (n := 1) (d := false) (f := false) (nm := bOf []) rfl rfl rfl rfl hr hx hm
      unfold outV outC sends
      (try simp only [List.length_cons, List.length_nil])
      clear hr hx hm
      have c0 := HP9.out.o0
      have c1 := HP9.out.o1
      have c2 := HP9.out.o2
      have c3 := HP9.out.o3
      have f0 := HP9.out.of 0
      have f1 := HP9.out.of 1
      have f2 := HP9.out.of 2
      have f3 := HP9.out.of 3
      go_wp2
      (try simp only [Exit.inBlock, Exit.then])
      refine bodyPost_ret (results_out rfl rfl (by exact HF.out.1)) rfl ?_
      exact HF.out.2
end Go.Proofs.YtpfbknbloeilmaaDoor.Ath
