/- A client in memory: its requests, its responses; what it does with a packet. -/
import Derived.Test.YtpfbknbloeilmaaDoorAthD
import Derived.Test.YtpfbknbloeilmaaDoorAthG
import Derived.Test.YtpfbknbloeilmaaDoorGPapC
import Derived.Test.YtpfbknbloeilmaaDoorChpC
namespace Go.Proofs.YtpfbknbloeilmaaDoor.Ath
open Go.RowKit Go.Proofs.YtpfbknbloeilmaaDoor.Oct Go.Proofs.YtpfbknbloeilmaaDoor.Row Go.Proofs.YtpfbknbloeilmaaDoor.Mem Go.Proofs.YtpfbknbloeilmaaDoor.Md5

def mcC (s : Cl) : Mc := ⟨s.c.kind, s.c.tries, s.c.wait, s.name, s.st, s.id, s.sent, s.clock⟩
def rC (s : Cl) : List Value := [.string s.secret, .bool s.has]
def pvC (s : Cl) : List Value := mV (mcC s) ++ rC s
def CAt (w : World) (g : Nat) (s : Cl) : Prop := Blk w g (pvC s) 69
/-- What stays so of a client. -/
structure InvC (s : Cl) : Prop where
  kd : s.c.kind = 1 ∨ s.c.kind = 2
  tr1 : 1 ≤ s.c.tries
  tr2 : s.c.tries ≤ 20
  wt1 : 1 ≤ s.c.wait
  wt2 : s.c.wait ≤ 1000
  name : s.name.size ≤ 255
  sec : s.secret.size ≤ 255
  se0 : 0 ≤ s.sent
  se1 : s.sent ≤ 20
  ck0 : s.st = 1 → pap s.c = true → 1 ≤ s.clock
  st : s.st ≤ 3
  s0 : s.st = 0 → s.sent = 0
  ck1 : s.clock ≤ 1000
theorem globs_client {w w' : World} {g : Nat} {s : Cl} (hG : Globs w) (h : CAt w g s) (hm : Moves (fun k => k = g) w w') : Globs w' := by
  have c3 : w.cell? ⟨g, 3, none⟩ = some (.string s.name) := Blk.at_ h 3
  refine hG.moves hm (fun e => ?_) (fun e => ?_)
  · subst e
    rw [hG.1 3 (by omega)] at c3
    cases c3
  · subst e
    rw [hG.2 3 (by omega)] at c3
    cases c3
theorem pv_req (s : Cl) : mV (numberM (mcC s)) ++ rC s = pvC (reqS s) := rfl
set_option maxHeartbeats 4000000 in
set_option maxRecDepth 100000 in
theorem request_any (g : Nat) (s : Cl) (w : World) (h : CAt w g s) (h0 : 0 ≤ s.sent) (h1 : s.sent ≤ 20) (hn : s.name.size ≤ 255) (hz : s.secret.size ≤ 255) :
    Calls Tryd.prog 50 #[ptr g] w (OutQ g (pvC (reqS s)) 69 (sends [reqP s]) w) := by
  obtain ⟨V, hV, hs, HP, HB⟩ := start_one h
  have HN := Lib.hid (number_any g (mcC s) (rC s) _ V HP.out.blk h0 (by show s.sent ≤ 1000; omega))
  have HC' : Hid (∀ W, Calls Tryd.prog 24 #[.int .u8 (s.id + 1).toNat, .string s.name, .string s.secret] W fun e w' => e = .returned (.tuple #[.agg #[.int .u8 (reqP s).c.toNat, .int .u8 (reqP s).i.toNat, .string (reqP s).d], .int .i64 (joinE [s.name, s.secret])]) ∧ Below W.heap.size W w') := fun W => by
    have := Pap.request_any (s.id + 1) s.name s.secret W (by unfold maxLen; omega) (by unfold maxLen; omega)
    rw [pap_pkV] at this
    exact this
  rw [pv_req] at HN
  have t0 : (pvC (reqS s))[5]? = some (.int .u8 (s.id + 1).toNat) := rfl
  have t1 : (pvC (reqS s))[3]? = some (.string s.name) := rfl
  have t2 : (pvC (reqS s))[8]? = some (.string s.secret) := rfl
  generalize reqP s = P at *
  generalize joinE [s.name, s.secret] = E at *
  generalize pvC (reqS s) = cs at *
  clear h hs h0 h1 hn hz
  unfold ptr at *
  go_enter Tryd.func50, Tryd.ntmps50
  go_wp2_with fail
  refine HN.out.mono ?_
  rintro e w1 ⟨rfl, hx, hm⟩
  have HP1 := Lib.hid (HP.out.moves hm hx)
  have s0 : w1.drew.cell? ⟨g, 5, none⟩ = some (.int .u8 (s.id + 1).toNat) := (Blk.at_ hx 5).trans t0
  have s1 : w1.drew.cell? ⟨g, 3, none⟩ = some (.string s.name) := (Blk.at_ hx 3).trans t1
  have s2 : w1.drew.cell? ⟨g, 8, none⟩ = some (.string s.secret) := (Blk.at_ hx 8).trans t2
  have lg : g < w1.heap.size := hx.lt
  have HC : Hid (∀ W, Below w1.heap.size w1 W → Calls Tryd.prog 24 #[.int .u8 (s.id + 1).toNat, .string s.name, .string s.secret] W fun e w' => e = .returned (.tuple #[.agg #[.int .u8 P.c.toNat, .int .u8 P.i.toNat, .string P.d], .int .i64 E]) ∧ Below W.heap.size W w') := fun W _ => HC'.out W
  clear hx hm HN HC' hV HP t0 t1 t2
  go_upto_region 2 with (fail)
  go_cut [3] from 4 to 26 (fun b wx => ∃ bb, b = .pointer (some ⟨bb, 0, none⟩) ∧ Hid (PkB w1 wx bb P))
  case first =>
    refine wp_region_held_drew (S := fun w' => w'.cell? ⟨g, 5, none⟩ = some (.int .u8 (s.id + 1).toNat) ∧ w'.cell? ⟨g, 3, none⟩ = some (.string s.name) ∧ w'.cell? ⟨g, 8, none⟩ = some (.string s.secret)) (by kernel_rfl) ⟨s0, s1, s2⟩ (fun hHeld => ?_)
    refine wpAnyH_take (i := 0) (v := ?vv0_1) rfl (by kernel_rfl) (by kernel_rfl) (by kernel_rfl) (fun _ _ _ h => h) (Or.inl ⟨by rfl, ?yy0_1⟩) (by assumption) ?rr0_1
    case yy0_1 => (intro w hSw; (try dsimp only at hSw); (try simp only [List.getElem_toArray, List.getElem_cons_succ, List.getElem_cons_zero, Act.put, List.setIfInBounds_toArray, List.set_cons_zero, List.set_cons_succ]); go_simp; (try (with_reducible rfl)))
    try simp only [List.getElem_toArray, List.getElem_cons_succ, List.getElem_cons_zero, Act.put, List.setIfInBounds_toArray, List.set_cons_zero, List.set_cons_succ]
    refine wpAnyH_take (i := 1) (v := ?vv1_2) rfl (by kernel_rfl) (by kernel_rfl) (by kernel_rfl) (fun _ _ _ h => h) (Or.inl ⟨by rfl, ?yy1_2⟩) (by assumption) ?rr1_2
    case yy1_2 => (intro w hSw; (try dsimp only at hSw); (try simp only [List.getElem_toArray, List.getElem_cons_succ, List.getElem_cons_zero, Act.put, List.setIfInBounds_toArray, List.set_cons_zero, List.set_cons_succ]); go_simp; (try (with_reducible rfl)))
    try simp only [List.getElem_toArray, List.getElem_cons_succ, List.getElem_cons_zero, Act.put, List.setIfInBounds_toArray, List.set_cons_zero, List.set_cons_succ]
    refine wpAnyH_take (i := 2) (v := ?vv2_3) rfl (by kernel_rfl) (by kernel_rfl) (by kernel_rfl) (fun _ _ _ h => h) (Or.inl ⟨by rfl, ?yy2_3⟩) (by assumption) ?rr2_3
    case yy2_3 => (intro w hSw; (try dsimp only at hSw); (try simp only [List.getElem_toArray, List.getElem_cons_succ, List.getElem_cons_zero, Act.put, List.setIfInBounds_toArray, List.set_cons_zero, List.set_cons_succ]); go_simp; (try (with_reducible rfl)))
    try simp only [List.getElem_toArray, List.getElem_cons_succ, List.getElem_cons_zero, Act.put, List.setIfInBounds_toArray, List.set_cons_zero, List.set_cons_succ]
    refine wpAnyH_take (i := 3) (v := ?vv3_4) rfl (by kernel_rfl) (by kernel_rfl) (by kernel_rfl) (fun _ _ _ h => h) (Or.inl ⟨by rfl, ?yy3_4⟩) (by assumption) ?rr3_4
    case yy3_4 => (intro w hSw; (try dsimp only at hSw); (try simp only [List.getElem_toArray, List.getElem_cons_succ, List.getElem_cons_zero, Act.put, List.setIfInBounds_toArray, List.set_cons_zero, List.set_cons_succ]); go_simp; (try (with_reducible rfl)))
    try simp only [List.getElem_toArray, List.getElem_cons_succ, List.getElem_cons_zero, Act.put, List.setIfInBounds_toArray, List.set_cons_zero, List.set_cons_succ]
    refine wpAnyH_take (i := 4) (v := ?vv4_5) rfl (by kernel_rfl) (by kernel_rfl) (by kernel_rfl) (fun _ _ _ h => h) (Or.inl ⟨by rfl, ?yy4_5⟩) (by assumption) ?rr4_5
    case yy4_5 => (intro w hSw; (try dsimp only at hSw); (try simp only [List.getElem_toArray, List.getElem_cons_succ, List.getElem_cons_zero, Act.put, List.setIfInBounds_toArray, List.set_cons_zero, List.set_cons_succ]); go_simp; (try (with_reducible rfl)))
    try simp only [List.getElem_toArray, List.getElem_cons_succ, List.getElem_cons_zero, Act.put, List.setIfInBounds_toArray, List.set_cons_zero, List.set_cons_succ]
    refine wpAnyH_take (i := 5) (v := ?vv5_6) rfl (by kernel_rfl) (by kernel_rfl) (by kernel_rfl) (fun _ _ _ h => h) (Or.inl ⟨by rfl, ?yy5_6⟩) (by assumption) ?rr5_6
    case yy5_6 => (intro w hSw; (try dsimp only at hSw); (try simp only [List.getElem_toArray, List.getElem_cons_succ, List.getElem_cons_zero, Act.put, List.setIfInBounds_toArray, List.set_cons_zero, List.set_cons_succ]); go_simp; (try (with_reducible rfl)))
    try simp only [List.getElem_toArray, List.getElem_cons_succ, List.getElem_cons_zero, Act.put, List.setIfInBounds_toArray, List.set_cons_zero, List.set_cons_succ]
    refine wpAnyH_take (i := 6) (v := ?vv6_7) rfl (by kernel_rfl) (by kernel_rfl) (by kernel_rfl) (fun _ _ _ h => h) (Or.inl ⟨by rfl, ?yy6_7⟩) (by assumption) ?rr6_7
    case yy6_7 => (intro w hSw; (try dsimp only at hSw); (try simp only [List.getElem_toArray, List.getElem_cons_succ, List.getElem_cons_zero, Act.put, List.setIfInBounds_toArray, List.set_cons_zero, List.set_cons_succ]); go_simp; (try (with_reducible rfl)))
    try simp only [List.getElem_toArray, List.getElem_cons_succ, List.getElem_cons_zero, Act.put, List.setIfInBounds_toArray, List.set_cons_zero, List.set_cons_succ]
    refine wpAnyH_take (i := 7) (v := ?vv7_8) rfl (by kernel_rfl) (by kernel_rfl) (by kernel_rfl) (fun _ _ _ h => h) (Or.inl ⟨by rfl, ?yy7_8⟩) (by assumption) ?rr7_8
    case yy7_8 => (intro w hSw; (try dsimp only at hSw); (try simp only [List.getElem_toArray, List.getElem_cons_succ, List.getElem_cons_zero, Act.put, List.setIfInBounds_toArray, List.set_cons_zero, List.set_cons_succ]); go_simp; (try (with_reducible rfl)))
    try simp only [List.getElem_toArray, List.getElem_cons_succ, List.getElem_cons_zero, Act.put, List.setIfInBounds_toArray, List.set_cons_zero, List.set_cons_succ]
    refine wpAnyH_take (i := 8) (v := ?vv8_9) rfl (by kernel_rfl) (by kernel_rfl) (by kernel_rfl) (fun _ _ _ h => h) (Or.inl ⟨by rfl, ?yy8_9⟩) (by assumption) ?rr8_9
    case yy8_9 => (intro w hSw; (try dsimp only at hSw); (try simp only [List.getElem_toArray, List.getElem_cons_succ, List.getElem_cons_zero, Act.put, List.setIfInBounds_toArray, List.set_cons_zero, List.set_cons_succ]); go_simp; (try (with_reducible rfl)))
    try simp only [List.getElem_toArray, List.getElem_cons_succ, List.getElem_cons_zero, Act.put, List.setIfInBounds_toArray, List.set_cons_zero, List.set_cons_succ]
    refine wpAnyH_take (i := 9) (v := ?vv9_10) rfl (by kernel_rfl) (by kernel_rfl) (by kernel_rfl) (fun _ _ _ h => h) (Or.inl ⟨by rfl, ?yy9_10⟩) (by assumption) ?rr9_10
    case yy9_10 => (intro w hSw; (try dsimp only at hSw); (try simp only [List.getElem_toArray, List.getElem_cons_succ, List.getElem_cons_zero, Act.put, List.setIfInBounds_toArray, List.set_cons_zero, List.set_cons_succ]); go_simp; (try (with_reducible rfl)))
    try simp only [List.getElem_toArray, List.getElem_cons_succ, List.getElem_cons_zero, Act.put, List.setIfInBounds_toArray, List.set_cons_zero, List.set_cons_succ]
    refine wpAnyH_take (i := 10) (v := ?vv10_11) rfl (by kernel_rfl) (by kernel_rfl) (by kernel_rfl) (fun _ _ _ h => h) (Or.inl ⟨by rfl, ?yy10_11⟩) (by assumption) ?rr10_11
    case yy10_11 => (intro w hSw; (try dsimp only at hSw); (try simp only [List.getElem_toArray, List.getElem_cons_succ, List.getElem_cons_zero, Act.put, List.setIfInBounds_toArray, List.set_cons_zero, List.set_cons_succ]); go_simp; (try (with_reducible rfl)))
    try simp only [List.getElem_toArray, List.getElem_cons_succ, List.getElem_cons_zero, Act.put, List.setIfInBounds_toArray, List.set_cons_zero, List.set_cons_succ]
    refine wpAnyH_take (i := 11) (v := ?vv11_12) rfl (by kernel_rfl) (by kernel_rfl) (by kernel_rfl) (fun _ _ _ h => h) (Or.inl ⟨by rfl, ?yy11_12⟩) (by assumption) ?rr11_12
    case yy11_12 => (intro w hSw; (try dsimp only at hSw); (try simp only [List.getElem_toArray, List.getElem_cons_succ, List.getElem_cons_zero, Act.put, List.setIfInBounds_toArray, List.set_cons_zero, List.set_cons_succ]); go_simp; (try (with_reducible rfl)))
    try simp only [List.getElem_toArray, List.getElem_cons_succ, List.getElem_cons_zero, Act.put, List.setIfInBounds_toArray, List.set_cons_zero, List.set_cons_succ]
    refine wpAnyH_take (i := 12) (v := ?vv12_13) rfl (by kernel_rfl) (by kernel_rfl) (by kernel_rfl) (fun _ _ _ h => h) (Or.inl ⟨by rfl, ?yy12_13⟩) (by assumption) ?rr12_13
    case yy12_13 => (intro w hSw; (try dsimp only at hSw); (try simp only [List.getElem_toArray, List.getElem_cons_succ, List.getElem_cons_zero, Act.put, List.setIfInBounds_toArray, List.set_cons_zero, List.set_cons_succ]); go_simp; (try (with_reducible rfl)))
    try simp only [List.getElem_toArray, List.getElem_cons_succ, List.getElem_cons_zero, Act.put, List.setIfInBounds_toArray, List.set_cons_zero, List.set_cons_succ]
    refine wpAnyH_take (i := 13) (v := ?vv13_14) rfl (by kernel_rfl) (by kernel_rfl) (by kernel_rfl) (fun _ _ _ h => h) (Or.inl ⟨by rfl, ?yy13_14⟩) (by assumption) ?rr13_14
    case yy13_14 => (intro w hSw; (try dsimp only at hSw); (try simp only [List.getElem_toArray, List.getElem_cons_succ, List.getElem_cons_zero, Act.put, List.setIfInBounds_toArray, List.set_cons_zero, List.set_cons_succ]); go_simp; (try (with_reducible rfl)))
    try simp only [List.getElem_toArray, List.getElem_cons_succ, List.getElem_cons_zero, Act.put, List.setIfInBounds_toArray, List.set_cons_zero, List.set_cons_succ]
    refine wpAnyH_ready (rs := [14, 18]) (by kernel_rfl) (by simp) ?_
    refine AllReadyH.cons (o := _) rfl (fun K hK => ?_) (AllReadyH.cons (o := _) rfl (fun K hK => ?_) AllReadyH.nil)
    · skip
      try simp only [List.getElem_toArray, List.getElem_cons_succ, List.getElem_cons_zero, Act.put, List.setIfInBounds_toArray, List.set_cons_zero, List.set_cons_succ]
      go_simp
      refine (HC.out _ (Below.drewN' (Below.refl _ w1) 1)).mono ?_
      rintro o w7 ⟨rfl, hb0⟩
      have hb1 : Below w1.heap.size w1 w7 := ⟨hb0.os, hb0.tape, hb0.output, hb0.size, hb0.block⟩
      clear hb0
      have a0 := (hb1.cell (p := ⟨g, 5, none⟩) lg).trans s0
      have a1 := (hb1.cell (p := ⟨g, 3, none⟩) lg).trans s1
      have a2 := (hb1.cell (p := ⟨g, 8, none⟩) lg).trans s2
      refine hK.out _ _ ⟨a0, a1, a2⟩ (fun hHeld => ?_)
      clear hK K
      try simp only [List.getElem_toArray, List.getElem_cons_succ, List.getElem_cons_zero, Act.put, List.setIfInBounds_toArray, List.set_cons_zero, List.set_cons_succ]
      refine wpAnyH_take (i := 15) (v := ?vv15_15) rfl (by kernel_rfl) (by kernel_rfl) (by kernel_rfl) (fun _ _ _ h => h) (Or.inl ⟨by rfl, ?yy15_15⟩) (by assumption) ?rr15_15
      case yy15_15 => (intro w hSw; (try dsimp only at hSw); (try simp only [List.getElem_toArray, List.getElem_cons_succ, List.getElem_cons_zero, Act.put, List.setIfInBounds_toArray, List.set_cons_zero, List.set_cons_succ]); go_simp; (try (with_reducible rfl)))
      try simp only [List.getElem_toArray, List.getElem_cons_succ, List.getElem_cons_zero, Act.put, List.setIfInBounds_toArray, List.set_cons_zero, List.set_cons_succ]
      refine wpAnyH_take (i := 16) (v := ?vv16_16) rfl (by kernel_rfl) (by kernel_rfl) (by kernel_rfl) (fun _ _ _ h => h) (Or.inl ⟨by rfl, ?yy16_16⟩) (by assumption) ?rr16_16
      case yy16_16 => (intro w hSw; (try dsimp only at hSw); (try simp only [List.getElem_toArray, List.getElem_cons_succ, List.getElem_cons_zero, Act.put, List.setIfInBounds_toArray, List.set_cons_zero, List.set_cons_succ]); go_simp; (try (with_reducible rfl)))
      try simp only [List.getElem_toArray, List.getElem_cons_succ, List.getElem_cons_zero, Act.put, List.setIfInBounds_toArray, List.set_cons_zero, List.set_cons_succ]
      refine wpAnyH_take (i := 17) (v := ?vv17_17) rfl (by kernel_rfl) (by kernel_rfl) (by kernel_rfl) (fun _ _ _ h => h) (Or.inl ⟨by rfl, ?yy17_17⟩) (by assumption) ?rr17_17
      case yy17_17 => (intro w hSw; (try dsimp only at hSw); (try simp only [List.getElem_toArray, List.getElem_cons_succ, List.getElem_cons_zero, Act.put, List.setIfInBounds_toArray, List.set_cons_zero, List.set_cons_succ]); go_simp; (try (with_reducible rfl)))
      try simp only [List.getElem_toArray, List.getElem_cons_succ, List.getElem_cons_zero, Act.put, List.setIfInBounds_toArray, List.set_cons_zero, List.set_cons_succ]
      have hA := hb1.alloc hb1.size (.cells #[.int .u8 0, .int .u8 0, .string ⟨#[]⟩] 46)
      have b0 := (hA.cell (p := ⟨g, 5, none⟩) lg).trans s0
      have b1 := (hA.cell (p := ⟨g, 3, none⟩) lg).trans s1
      have b2 := (hA.cell (p := ⟨g, 8, none⟩) lg).trans s2
      have HU : Hid (Blk (w7.alloc (.cells #[.int .u8 0, .int .u8 0, .string ⟨#[]⟩] 46)) w7.heap.size [.int .u8 0, .int .u8 0, .string ⟨#[]⟩] 46) := blk_new w7 [.int .u8 0, .int .u8 0, .string ⟨#[]⟩] 46
      refine wpAnyH_ready (rs := [18]) (by kernel_rfl) (by simp) ?_
      refine AllReadyH.cons (o := _) rfl (fun K hK => ?_) AllReadyH.nil
      try simp only [List.getElem_toArray, List.getElem_cons_succ, List.getElem_cons_zero, Act.put, List.setIfInBounds_toArray, List.set_cons_zero, List.set_cons_succ]
      go_simp
      refine hK.out _ _ ⟨b0, b1, b2⟩ (fun hHeld => ?_)
      clear hK K
      try simp only [List.getElem_toArray, List.getElem_cons_succ, List.getElem_cons_zero, Act.put, List.setIfInBounds_toArray, List.set_cons_zero, List.set_cons_succ]
      have z0 := HU.out.at_ 0
      have y0 := HU.out.frozen 0
      have z1 := HU.out.at_ 1
      have y1 := HU.out.frozen 1
      have z2 := HU.out.at_ 2
      have y2 := HU.out.frozen 2
      have hA2 := hb1.alloc hb1.size (.cells #[.int .u8 P.c.toNat, .int .u8 P.i.toNat, .string P.d] 46)
      have HQ : Hid (PkB w1 (w7.alloc (.cells #[.int .u8 P.c.toNat, .int .u8 P.i.toNat, .string P.d] 46)) w7.heap.size P) := ⟨blk_new w7 [.int .u8 P.c.toNat, .int .u8 P.i.toNat, .string P.d] 46, hA2, hb1.size⟩
      have g0 := (hA2.cell (p := ⟨g, 5, none⟩) lg).trans s0
      have g1 := (hA2.cell (p := ⟨g, 3, none⟩) lg).trans s1
      have g2 := (hA2.cell (p := ⟨g, 8, none⟩) lg).trans s2
      refine wpAnyH_ready (rs := [19]) (by kernel_rfl) (by simp) ?_
      refine AllReadyH.cons (o := _) rfl (fun K hK => ?_) AllReadyH.nil
      try simp only [List.getElem_toArray, List.getElem_cons_succ, List.getElem_cons_zero, Act.put, List.setIfInBounds_toArray, List.set_cons_zero, List.set_cons_succ]
      go_simp
      refine hK.out _ _ ⟨g0, g1, g2⟩ (fun hHeld => ?_)
      clear hK K
      try simp only [List.getElem_toArray, List.getElem_cons_succ, List.getElem_cons_zero, Act.put, List.setIfInBounds_toArray, List.set_cons_zero, List.set_cons_succ]
      refine wpAnyH_take (i := 20) (v := ?vv20_18) rfl (by kernel_rfl) (by kernel_rfl) (by kernel_rfl) (fun _ _ _ h => h) (Or.inl ⟨by rfl, ?yy20_18⟩) (by assumption) ?rr20_18
      case yy20_18 => (intro w hSw; (try dsimp only at hSw); (try simp only [List.getElem_toArray, List.getElem_cons_succ, List.getElem_cons_zero, Act.put, List.setIfInBounds_toArray, List.set_cons_zero, List.set_cons_succ]); go_simp; (try (with_reducible rfl)))
      try simp only [List.getElem_toArray, List.getElem_cons_succ, List.getElem_cons_zero, Act.put, List.setIfInBounds_toArray, List.set_cons_zero, List.set_cons_succ]
      refine wpAnyH_done (by kernel_rfl) ?_ _
      go_wp2_with fail
      go_meet
      case rel => exact ⟨_, rfl, HQ⟩
    · skip
      have hA := (show Below w1.heap.size w1 w1.drew from Below.drewN' (Below.refl _ w1) 1).alloc (Nat.le_refl _) (.cells #[.int .u8 0, .int .u8 0, .string ⟨#[]⟩] 46)
      have b0 := (hA.cell (p := ⟨g, 5, none⟩) lg).trans s0
      have b1 := (hA.cell (p := ⟨g, 3, none⟩) lg).trans s1
      have b2 := (hA.cell (p := ⟨g, 8, none⟩) lg).trans s2
      have HU0 : Hid (Blk (w1.drew.alloc (.cells #[.int .u8 0, .int .u8 0, .string ⟨#[]⟩] 46)) w1.heap.size [.int .u8 0, .int .u8 0, .string ⟨#[]⟩] 46 ∧ Below w1.heap.size w1 (w1.drew.alloc (.cells #[.int .u8 0, .int .u8 0, .string ⟨#[]⟩] 46))) := ⟨blk_new w1.drew [.int .u8 0, .int .u8 0, .string ⟨#[]⟩] 46, hA⟩
      try simp only [List.getElem_toArray, List.getElem_cons_succ, List.getElem_cons_zero, Act.put, List.setIfInBounds_toArray, List.set_cons_zero, List.set_cons_succ]
      go_simp
      refine hK.out _ _ ⟨b0, b1, b2⟩ (fun hHeld => ?_)
      clear hK K
      try simp only [List.getElem_toArray, List.getElem_cons_succ, List.getElem_cons_zero, Act.put, List.setIfInBounds_toArray, List.set_cons_zero, List.set_cons_succ]
      refine wpAnyH_ready (rs := [14]) (by kernel_rfl) (by simp) ?_
      refine AllReadyH.cons (o := _) rfl (fun K hK => ?_) AllReadyH.nil
      try simp only [List.getElem_toArray, List.getElem_cons_succ, List.getElem_cons_zero, Act.put, List.setIfInBounds_toArray, List.set_cons_zero, List.set_cons_succ]
      go_simp
      refine (HC.out _ HU0.out.2).mono ?_
      rintro o w7 ⟨rfl, hb0⟩
      have HU : Hid (Blk w7 w1.heap.size [.int .u8 0, .int .u8 0, .string ⟨#[]⟩] 46 ∧ Below w1.heap.size w1 w7 ∧ w1.heap.size ≤ w1.heap.size) := ⟨HU0.out.1.callee hb0, HU0.out.2.trans (hb0.mono HU0.out.2.size), Nat.le_refl _⟩
      clear hb0
      have a0 := (HU.out.2.1.cell (p := ⟨g, 5, none⟩) lg).trans s0
      have a1 := (HU.out.2.1.cell (p := ⟨g, 3, none⟩) lg).trans s1
      have a2 := (HU.out.2.1.cell (p := ⟨g, 8, none⟩) lg).trans s2
      refine hK.out _ _ ⟨a0, a1, a2⟩ (fun hHeld => ?_)
      clear hK K
      try simp only [List.getElem_toArray, List.getElem_cons_succ, List.getElem_cons_zero, Act.put, List.setIfInBounds_toArray, List.set_cons_zero, List.set_cons_succ]
      refine wpAnyH_take (i := 15) (v := ?vv15_19) rfl (by kernel_rfl) (by kernel_rfl) (by kernel_rfl) (fun _ _ _ h => h) (Or.inl ⟨by rfl, ?yy15_19⟩) (by assumption) ?rr15_19
      case yy15_19 => (intro w hSw; (try dsimp only at hSw); (try simp only [List.getElem_toArray, List.getElem_cons_succ, List.getElem_cons_zero, Act.put, List.setIfInBounds_toArray, List.set_cons_zero, List.set_cons_succ]); go_simp; (try (with_reducible rfl)))
      try simp only [List.getElem_toArray, List.getElem_cons_succ, List.getElem_cons_zero, Act.put, List.setIfInBounds_toArray, List.set_cons_zero, List.set_cons_succ]
      refine wpAnyH_take (i := 16) (v := ?vv16_20) rfl (by kernel_rfl) (by kernel_rfl) (by kernel_rfl) (fun _ _ _ h => h) (Or.inl ⟨by rfl, ?yy16_20⟩) (by assumption) ?rr16_20
      case yy16_20 => (intro w hSw; (try dsimp only at hSw); (try simp only [List.getElem_toArray, List.getElem_cons_succ, List.getElem_cons_zero, Act.put, List.setIfInBounds_toArray, List.set_cons_zero, List.set_cons_succ]); go_simp; (try (with_reducible rfl)))
      try simp only [List.getElem_toArray, List.getElem_cons_succ, List.getElem_cons_zero, Act.put, List.setIfInBounds_toArray, List.set_cons_zero, List.set_cons_succ]
      refine wpAnyH_take (i := 17) (v := ?vv17_21) rfl (by kernel_rfl) (by kernel_rfl) (by kernel_rfl) (fun _ _ _ h => h) (Or.inl ⟨by rfl, ?yy17_21⟩) (by assumption) ?rr17_21
      case yy17_21 => (intro w hSw; (try dsimp only at hSw); (try simp only [List.getElem_toArray, List.getElem_cons_succ, List.getElem_cons_zero, Act.put, List.setIfInBounds_toArray, List.set_cons_zero, List.set_cons_succ]); go_simp; (try (with_reducible rfl)))
      try simp only [List.getElem_toArray, List.getElem_cons_succ, List.getElem_cons_zero, Act.put, List.setIfInBounds_toArray, List.set_cons_zero, List.set_cons_succ]
      have z0 := HU.out.1.at_ 0
      have y0 := HU.out.1.frozen 0
      have z1 := HU.out.1.at_ 1
      have y1 := HU.out.1.frozen 1
      have z2 := HU.out.1.at_ 2
      have y2 := HU.out.1.frozen 2
      have HQ := Lib.hid (pkb_put HU.out P)
      have g0 := (HQ.out.2.1.cell (p := ⟨g, 5, none⟩) lg).trans s0
      have g1 := (HQ.out.2.1.cell (p := ⟨g, 3, none⟩) lg).trans s1
      have g2 := (HQ.out.2.1.cell (p := ⟨g, 8, none⟩) lg).trans s2
      refine wpAnyH_ready (rs := [19]) (by kernel_rfl) (by simp) ?_
      refine AllReadyH.cons (o := _) rfl (fun K hK => ?_) AllReadyH.nil
      try simp only [List.getElem_toArray, List.getElem_cons_succ, List.getElem_cons_zero, Act.put, List.setIfInBounds_toArray, List.set_cons_zero, List.set_cons_succ]
      go_simp
      refine hK.out _ _ ⟨g0, g1, g2⟩ (fun hHeld => ?_)
      clear hK K
      try simp only [List.getElem_toArray, List.getElem_cons_succ, List.getElem_cons_zero, Act.put, List.setIfInBounds_toArray, List.set_cons_zero, List.set_cons_succ]
      refine wpAnyH_take (i := 20) (v := ?vv20_22) rfl (by kernel_rfl) (by kernel_rfl) (by kernel_rfl) (fun _ _ _ h => h) (Or.inl ⟨by rfl, ?yy20_22⟩) (by assumption) ?rr20_22
      case yy20_22 => (intro w hSw; (try dsimp only at hSw); (try simp only [List.getElem_toArray, List.getElem_cons_succ, List.getElem_cons_zero, Act.put, List.setIfInBounds_toArray, List.set_cons_zero, List.set_cons_succ]); go_simp; (try (with_reducible rfl)))
      try simp only [List.getElem_toArray, List.getElem_cons_succ, List.getElem_cons_zero, Act.put, List.setIfInBounds_toArray, List.set_cons_zero, List.set_cons_succ]
      refine wpAnyH_done (by kernel_rfl) ?_ _
      go_wp2_with fail
      go_meet
      case rel => exact ⟨_, rfl, HQ⟩
  case rest =>
    obtain ⟨bb, rfl, HU⟩ := hcut
    have u0 : wc.cell? ⟨bb, 0, none⟩ = some (.int .u8 P.c.toNat) := HU.out.1.at_ 0
    have u1 : wc.cell? ⟨bb, 1, none⟩ = some (.int .u8 P.i.toNat) := HU.out.1.at_ 1
    have u2 : wc.cell? ⟨bb, 2, none⟩ = some (.string P.d) := HU.out.1.at_ 2
    have HP2 := Lib.hid ((HP1.out.below HU.out.2.1).alloc (.cells #[.int .u8 P.c.toNat, .int .u8 P.i.toNat, .string P.d] 46))
    have HS := Lib.hid (send_any _ HP2.out.blk (sn_new wc g P 46 1 (Nat.lt_of_lt_of_le lg HU.out.2.1.size)))
    clear s0 s1 s2 HC
    go_wp2_with fail
    refine HS.out.mono ?_
    rintro e w5 ⟨A, c, rfl, hr, hx, hm⟩
    have HP9 := Lib.hid (HP2.out.moves hm hx)
    have HF := HP2.out.fin (sends [P]) (n := 1) (d := false) (f := false) (nm := bOf []) rfl rfl rfl rfl hr hx hm
    unfold outV outC sends
    (try simp only [List.length_cons, List.length_nil])
    clear hr hx hm
    have c0 := HP9.out.o0
    have c1 := HP9.out.o1
    have c2 := HP9.out.o2
    have c3 := HP9.out.o3
    have f0 := HP9.out.of 0
    have f1 := HP9.out.of 1
    have f2 := HP9.out.of 2
    have f3 := HP9.out.of 3
    go_wp2
    (try simp only [Exit.inBlock, Exit.then])
    refine bodyPost_ret (results_out rfl rfl (by exact HF.out.1)) rfl ?_
    exact HF.out.2
/-- A response was sent. -/
theorem rdA_small {c : UInt8} {d : ByteArray} (h : Chp.rdE c d = 0) : (readA d).size ≤ 255 := by
  unfold Chp.rdE at h
  by_cases hc : c = 1 ∨ c = 2
  · rw [if_pos hc] at h
    cases hr : r8 d.toList with
    | none => rw [hr] at h; cases h
    | some q =>
      obtain ⟨v, r⟩ := q
      rw [(read_some d v r hr).1, size_bOf]
      exact (r8_len hr).2.1
  · rw [if_neg hc] at h; cases h
def hearS (s : Cl) (i : UInt8) : Cl := { s with id := i, has := true }
set_option maxHeartbeats 4000000 in
set_option maxRecDepth 100000 in
theorem respond_any (g : Nat) (s : Cl) (p : Pk) (w : World) (h : CAt w g s) (hG : Globs w) (hn : s.name.size ≤ 255) (hz : s.secret.size ≤ 255) (hd : p.d.size ≤ maxLen) :
    Calls Tryd.prog 97 #[ptr g, .agg #[.int .u8 p.c.toNat, .int .u8 p.i.toNat, .string p.d]] w (OutQ g (pvC (if Chp.rdE p.c p.d = 0 then hearS s p.i else s)) 69 (if Chp.rdE p.c p.d = 0 then sends [respP s p] else no) w) := by
  obtain ⟨V, hV, hs, HP, HB, HX⟩ := start_two h [.int .u8 p.c.toNat, .int .u8 p.i.toNat, .string p.d] 46
  have x0 : V.cell? ⟨w.heap.size, 0, none⟩ = some (.int .u8 p.c.toNat) := HX.out.at_ 0
  have x1 : V.cell? ⟨w.heap.size, 1, none⟩ = some (.int .u8 p.i.toNat) := HX.out.at_ 1
  have x2 : V.cell? ⟨w.heap.size, 2, none⟩ = some (.string p.d) := HX.out.at_ 2
  have HRd := Lib.hid (Chp.read_any p.c p.i p.d V hd)
  unfold Chp.rdV at HRd
  have HGV := Lib.hid (hG.below HB.out)
  have HBl : Hid (Blk V g (pvC s) 69) := HP.out.blk
  by_cases hE : Chp.rdE p.c p.d = 0
  · rw [if_pos hE, if_pos hE]
    rw [hE] at HRd
    have hva : (Chp.rdA p.c p.d).size ≤ 255 := by
      unfold Chp.rdA
      rw [if_pos hE]
      exact rdA_small hE
    have HC' : Hid (∀ W, Globs W → Calls Tryd.prog 18 #[.int .u8 p.i.toNat, .string s.secret, .string (Chp.rdA p.c p.d), .string s.name] W fun e w' => e = .returned (.tuple #[.agg #[.int .u8 (respP s p).c.toNat, .int .u8 (respP s p).i.toNat, .string (respP s p).d], .int .i64 (Chp.chE (Chp.rdA p.c p.d) s.name)]) ∧ Below W.heap.size W w') := fun W hW => by
      have := Chp.response_any p.i s.secret (Chp.rdA p.c p.d) s.name W (by omega) (by omega) (by omega) hW
      rw [chp_pkV] at this
      exact this
    have t1 : Hid ((pvC (hearS s p.i))[8]? = some (.string s.secret)) := rfl
    have t2 : Hid ((pvC (hearS s p.i))[3]? = some (.string s.name)) := rfl
    have e1 : ((pvC s).set 5 (.int .u8 p.i.toNat)).set 9 (.bool true) = pvC (hearS s p.i) := rfl
    have HT5 : Hid (∃ a, (pvC s)[5]? = some (.int .u8 a)) := ⟨_, rfl⟩
    have HT9 : Hid (∃ a, (pvC s)[9]? = some (.bool a)) := ⟨_, rfl⟩
    have hGm : Hid (∀ W W', Globs W → Blk W g (pvC s) 69 → Moves (fun k => k = g) W W' → Globs W') := fun W W' h1 h2 h3 => globs_client h1 h2 h3
    generalize respP s p = P at *
    generalize Chp.chE (Chp.rdA p.c p.d) s.name = E at *
    generalize Chp.rdA p.c p.d = X at *
    generalize Chp.rdB p.c p.d = Y at *
    generalize pvC (hearS s p.i) = cs at *
    generalize pvC s = ps at *
    have HE1 := Lib.hid e1
    clear h hG hs hn hz hd hva hE e1
    unfold ptr at *
    go_enter Tryd.func97, Tryd.ntmps97
    go_wp2_with fail
    refine HRd.out.mono ?_
    rintro e w1 ⟨rfl, hb⟩
    have HP1 := Lib.hid (HP.out.below hb)
    have HX1 := Lib.hid (HX.out.callee hb)
    have HG1 := Lib.hid (HGV.out.below hb)
    clear hb x0 x1 x2
    have x0 : w1.cell? ⟨w.heap.size, 0, none⟩ = some (.int .u8 p.c.toNat) := HX1.out.at_ 0
    have x1 : w1.cell? ⟨w.heap.size, 1, none⟩ = some (.int .u8 p.i.toNat) := HX1.out.at_ 1
    have x2 : w1.cell? ⟨w.heap.size, 2, none⟩ = some (.string p.d) := HX1.out.at_ 2
    obtain ⟨a5, ha5⟩ := HT5.out
    obtain ⟨a9, ha9⟩ := HT9.out
    have q5 : w1.cell? ⟨g, 5, none⟩ = some (.int .u8 a5) := (HP1.out.c 5).trans ha5
    have q9 : w1.cell? ⟨g, 9, none⟩ = some (.bool a9) := (HP1.out.c 9).trans ha9
    have f5 := HP1.out.f 5
    have f9 := HP1.out.f 9
    have ng : ¬ w.heap.size = g := by have := HP.out.hg; omega
    have ng' : ¬ g = w.heap.size := fun e => ng e.symm
    have HP2 := Lib.hid ((HP1.out.set 5 (.int .u8 p.i.toNat)).set 9 (.bool true))
    rw [HE1.out] at HP2
    have hMv : Moves (fun k => k = g) w1 ((w1.setCell ⟨g, 5, none⟩ (.int .u8 p.i.toNat)).setCell ⟨g, 9, none⟩ (.bool true)) := (set1_moves w1 g 5 _).trans (set1_moves _ g 9 _) fun _ _ e => e
    have HX2 := Lib.hid (HX1.out.moves hMv ng)
    have HG2 := Lib.hid (hGm.out _ _ HG1.out HP1.out.blk hMv)
    clear hMv
    go_upto_region 6 with (fail)
    generalize hW1 : (w1.setCell ⟨g, 5, none⟩ (.int .u8 p.i.toNat)).setCell ⟨g, 9, none⟩ (.bool true) = W1 at *
    have s0 : W1.drew.cell? ⟨w.heap.size, 1, none⟩ = some (.int .u8 p.i.toNat) := HX2.out.at_ 1
    have s1 : W1.drew.cell? ⟨g, 8, none⟩ = some (.string s.secret) := (HP2.out.c 8).trans t1.out
    have s2 : W1.drew.cell? ⟨g, 3, none⟩ = some (.string s.name) := (HP2.out.c 3).trans t2.out
    have lg : g < W1.heap.size := HP2.out.blk.lt
    have lb : w.heap.size < W1.heap.size := HX2.out.lt
    have HC : Hid (∀ W, Below W1.heap.size W1 W → Calls Tryd.prog 18 #[.int .u8 p.i.toNat, .string s.secret, .string X, .string s.name] W fun e w' => e = .returned (.tuple #[.agg #[.int .u8 P.c.toNat, .int .u8 P.i.toNat, .string P.d], .int .i64 E]) ∧ Below W.heap.size W w') := fun W hb => HC'.out W (HG2.out.below hb)
    clear hW1 HX1 HP1 HG1 q5 q9 f5 f9 x0 x1 x2 HP hV HC' HRd HBl HGV HX HB
    go_cut [8] from 9 to 43 (fun b wx => ∃ bb, b = .pointer (some ⟨bb, 0, none⟩) ∧ Hid (PkB W1 wx bb P))
    case first =>
      refine wp_region_held_drew (S := fun w' => w'.cell? ⟨w.heap.size, 1, none⟩ = some (.int .u8 p.i.toNat) ∧ w'.cell? ⟨g, 8, none⟩ = some (.string s.secret) ∧ w'.cell? ⟨g, 3, none⟩ = some (.string s.name)) (by kernel_rfl) ⟨s0, s1, s2⟩ (fun hHeld => ?_)
      refine wpAnyH_take (i := 0) (v := ?vv0_23) rfl (by kernel_rfl) (by kernel_rfl) (by kernel_rfl) (fun _ _ _ h => h) (Or.inl ⟨by rfl, ?yy0_23⟩) (by assumption) ?rr0_23
      case yy0_23 => (intro w hSw; (try dsimp only at hSw); (try simp only [List.getElem_toArray, List.getElem_cons_succ, List.getElem_cons_zero, Act.put, List.setIfInBounds_toArray, List.set_cons_zero, List.set_cons_succ]); go_simp; (try (with_reducible rfl)))
      try simp only [List.getElem_toArray, List.getElem_cons_succ, List.getElem_cons_zero, Act.put, List.setIfInBounds_toArray, List.set_cons_zero, List.set_cons_succ]
      refine wpAnyH_take (i := 1) (v := ?vv1_24) rfl (by kernel_rfl) (by kernel_rfl) (by kernel_rfl) (fun _ _ _ h => h) (Or.inl ⟨by rfl, ?yy1_24⟩) (by assumption) ?rr1_24
      case yy1_24 => (intro w hSw; (try dsimp only at hSw); (try simp only [List.getElem_toArray, List.getElem_cons_succ, List.getElem_cons_zero, Act.put, List.setIfInBounds_toArray, List.set_cons_zero, List.set_cons_succ]); go_simp; (try (with_reducible rfl)))
      try simp only [List.getElem_toArray, List.getElem_cons_succ, List.getElem_cons_zero, Act.put, List.setIfInBounds_toArray, List.set_cons_zero, List.set_cons_succ]
      refine wpAnyH_take (i := 2) (v := ?vv2_25) rfl (by kernel_rfl) (by kernel_rfl) (by kernel_rfl) (fun _ _ _ h => h) (Or.inl ⟨by rfl, ?yy2_25⟩) (by assumption) ?rr2_25
      case yy2_25 => (intro w hSw; (try dsimp only at hSw); (try simp only [List.getElem_toArray, List.getElem_cons_succ, List.getElem_cons_zero, Act.put, List.setIfInBounds_toArray, List.set_cons_zero, List.set_cons_succ]); go_simp; (try (with_reducible rfl)))
      try simp only [List.getElem_toArray, List.getElem_cons_succ, List.getElem_cons_zero, Act.put, List.setIfInBounds_toArray, List.set_cons_zero, List.set_cons_succ]
      refine wpAnyH_take (i := 3) (v := ?vv3_26) rfl (by kernel_rfl) (by kernel_rfl) (by kernel_rfl) (fun _ _ _ h => h) (Or.inl ⟨by rfl, ?yy3_26⟩) (by assumption) ?rr3_26
      case yy3_26 => (intro w hSw; (try dsimp only at hSw); (try simp only [List.getElem_toArray, List.getElem_cons_succ, List.getElem_cons_zero, Act.put, List.setIfInBounds_toArray, List.set_cons_zero, List.set_cons_succ]); go_simp; (try (with_reducible rfl)))
      try simp only [List.getElem_toArray, List.getElem_cons_succ, List.getElem_cons_zero, Act.put, List.setIfInBounds_toArray, List.set_cons_zero, List.set_cons_succ]
      refine wpAnyH_take (i := 4) (v := ?vv4_27) rfl (by kernel_rfl) (by kernel_rfl) (by kernel_rfl) (fun _ _ _ h => h) (Or.inl ⟨by rfl, ?yy4_27⟩) (by assumption) ?rr4_27
      case yy4_27 => (intro w hSw; (try dsimp only at hSw); (try simp only [List.getElem_toArray, List.getElem_cons_succ, List.getElem_cons_zero, Act.put, List.setIfInBounds_toArray, List.set_cons_zero, List.set_cons_succ]); go_simp; (try (with_reducible rfl)))
      try simp only [List.getElem_toArray, List.getElem_cons_succ, List.getElem_cons_zero, Act.put, List.setIfInBounds_toArray, List.set_cons_zero, List.set_cons_succ]
      refine wpAnyH_take (i := 5) (v := ?vv5_28) rfl (by kernel_rfl) (by kernel_rfl) (by kernel_rfl) (fun _ _ _ h => h) (Or.inl ⟨by rfl, ?yy5_28⟩) (by assumption) ?rr5_28
      case yy5_28 => (intro w hSw; (try dsimp only at hSw); (try simp only [List.getElem_toArray, List.getElem_cons_succ, List.getElem_cons_zero, Act.put, List.setIfInBounds_toArray, List.set_cons_zero, List.set_cons_succ]); go_simp; (try (with_reducible rfl)))
      try simp only [List.getElem_toArray, List.getElem_cons_succ, List.getElem_cons_zero, Act.put, List.setIfInBounds_toArray, List.set_cons_zero, List.set_cons_succ]
      refine wpAnyH_take (i := 6) (v := ?vv6_29) rfl (by kernel_rfl) (by kernel_rfl) (by kernel_rfl) (fun _ _ _ h => h) (Or.inl ⟨by rfl, ?yy6_29⟩) (by assumption) ?rr6_29
      case yy6_29 => (intro w hSw; (try dsimp only at hSw); (try simp only [List.getElem_toArray, List.getElem_cons_succ, List.getElem_cons_zero, Act.put, List.setIfInBounds_toArray, List.set_cons_zero, List.set_cons_succ]); go_simp; (try (with_reducible rfl)))
      try simp only [List.getElem_toArray, List.getElem_cons_succ, List.getElem_cons_zero, Act.put, List.setIfInBounds_toArray, List.set_cons_zero, List.set_cons_succ]
      refine wpAnyH_take (i := 7) (v := ?vv7_30) rfl (by kernel_rfl) (by kernel_rfl) (by kernel_rfl) (fun _ _ _ h => h) (Or.inl ⟨by rfl, ?yy7_30⟩) (by assumption) ?rr7_30
      case yy7_30 => (intro w hSw; (try dsimp only at hSw); (try simp only [List.getElem_toArray, List.getElem_cons_succ, List.getElem_cons_zero, Act.put, List.setIfInBounds_toArray, List.set_cons_zero, List.set_cons_succ]); go_simp; (try (with_reducible rfl)))
      try simp only [List.getElem_toArray, List.getElem_cons_succ, List.getElem_cons_zero, Act.put, List.setIfInBounds_toArray, List.set_cons_zero, List.set_cons_succ]
      refine wpAnyH_take (i := 8) (v := ?vv8_31) rfl (by kernel_rfl) (by kernel_rfl) (by kernel_rfl) (fun _ _ _ h => h) (Or.inl ⟨by rfl, ?yy8_31⟩) (by assumption) ?rr8_31
      case yy8_31 => (intro w hSw; (try dsimp only at hSw); (try simp only [List.getElem_toArray, List.getElem_cons_succ, List.getElem_cons_zero, Act.put, List.setIfInBounds_toArray, List.set_cons_zero, List.set_cons_succ]); go_simp; (try (with_reducible rfl)))
      try simp only [List.getElem_toArray, List.getElem_cons_succ, List.getElem_cons_zero, Act.put, List.setIfInBounds_toArray, List.set_cons_zero, List.set_cons_succ]
      refine wpAnyH_take (i := 9) (v := ?vv9_32) rfl (by kernel_rfl) (by kernel_rfl) (by kernel_rfl) (fun _ _ _ h => h) (Or.inl ⟨by rfl, ?yy9_32⟩) (by assumption) ?rr9_32
      case yy9_32 => (intro w hSw; (try dsimp only at hSw); (try simp only [List.getElem_toArray, List.getElem_cons_succ, List.getElem_cons_zero, Act.put, List.setIfInBounds_toArray, List.set_cons_zero, List.set_cons_succ]); go_simp; (try (with_reducible rfl)))
      try simp only [List.getElem_toArray, List.getElem_cons_succ, List.getElem_cons_zero, Act.put, List.setIfInBounds_toArray, List.set_cons_zero, List.set_cons_succ]
      refine wpAnyH_take (i := 10) (v := ?vv10_33) rfl (by kernel_rfl) (by kernel_rfl) (by kernel_rfl) (fun _ _ _ h => h) (Or.inl ⟨by rfl, ?yy10_33⟩) (by assumption) ?rr10_33
      case yy10_33 => (intro w hSw; (try dsimp only at hSw); (try simp only [List.getElem_toArray, List.getElem_cons_succ, List.getElem_cons_zero, Act.put, List.setIfInBounds_toArray, List.set_cons_zero, List.set_cons_succ]); go_simp; (try (with_reducible rfl)))
      try simp only [List.getElem_toArray, List.getElem_cons_succ, List.getElem_cons_zero, Act.put, List.setIfInBounds_toArray, List.set_cons_zero, List.set_cons_succ]
      refine wpAnyH_take (i := 11) (v := ?vv11_34) rfl (by kernel_rfl) (by kernel_rfl) (by kernel_rfl) (fun _ _ _ h => h) (Or.inl ⟨by rfl, ?yy11_34⟩) (by assumption) ?rr11_34
      case yy11_34 => (intro w hSw; (try dsimp only at hSw); (try simp only [List.getElem_toArray, List.getElem_cons_succ, List.getElem_cons_zero, Act.put, List.setIfInBounds_toArray, List.set_cons_zero, List.set_cons_succ]); go_simp; (try (with_reducible rfl)))
      try simp only [List.getElem_toArray, List.getElem_cons_succ, List.getElem_cons_zero, Act.put, List.setIfInBounds_toArray, List.set_cons_zero, List.set_cons_succ]
      refine wpAnyH_ready (rs := [12, 16]) (by kernel_rfl) (by simp) ?_
      refine AllReadyH.cons (o := _) rfl (fun K hK => ?_) (AllReadyH.cons (o := _) rfl (fun K hK => ?_) AllReadyH.nil)
      · skip
        try simp only [List.getElem_toArray, List.getElem_cons_succ, List.getElem_cons_zero, Act.put, List.setIfInBounds_toArray, List.set_cons_zero, List.set_cons_succ]
        go_simp
        refine (HC.out _ (Below.drewN' (Below.refl _ W1) 1)).mono ?_
        rintro o w7 ⟨rfl, hb0⟩
        have hb1 : Below W1.heap.size W1 w7 := ⟨hb0.os, hb0.tape, hb0.output, hb0.size, hb0.block⟩
        clear hb0
        have a0 := (hb1.cell (p := ⟨w.heap.size, 1, none⟩) lb).trans s0
        have a1 := (hb1.cell (p := ⟨g, 8, none⟩) lg).trans s1
        have a2 := (hb1.cell (p := ⟨g, 3, none⟩) lg).trans s2
        refine hK.out _ _ ⟨a0, a1, a2⟩ (fun hHeld => ?_)
        clear hK K
        try simp only [List.getElem_toArray, List.getElem_cons_succ, List.getElem_cons_zero, Act.put, List.setIfInBounds_toArray, List.set_cons_zero, List.set_cons_succ]
        refine wpAnyH_take (i := 13) (v := ?vv13_35) rfl (by kernel_rfl) (by kernel_rfl) (by kernel_rfl) (fun _ _ _ h => h) (Or.inl ⟨by rfl, ?yy13_35⟩) (by assumption) ?rr13_35
        case yy13_35 => (intro w hSw; (try dsimp only at hSw); (try simp only [List.getElem_toArray, List.getElem_cons_succ, List.getElem_cons_zero, Act.put, List.setIfInBounds_toArray, List.set_cons_zero, List.set_cons_succ]); go_simp; (try (with_reducible rfl)))
        try simp only [List.getElem_toArray, List.getElem_cons_succ, List.getElem_cons_zero, Act.put, List.setIfInBounds_toArray, List.set_cons_zero, List.set_cons_succ]
        refine wpAnyH_take (i := 14) (v := ?vv14_36) rfl (by kernel_rfl) (by kernel_rfl) (by kernel_rfl) (fun _ _ _ h => h) (Or.inl ⟨by rfl, ?yy14_36⟩) (by assumption) ?rr14_36
        case yy14_36 => (intro w hSw; (try dsimp only at hSw); (try simp only [List.getElem_toArray, List.getElem_cons_succ, List.getElem_cons_zero, Act.put, List.setIfInBounds_toArray, List.set_cons_zero, List.set_cons_succ]); go_simp; (try (with_reducible rfl)))
        try simp only [List.getElem_toArray, List.getElem_cons_succ, List.getElem_cons_zero, Act.put, List.setIfInBounds_toArray, List.set_cons_zero, List.set_cons_succ]
        refine wpAnyH_take (i := 15) (v := ?vv15_37) rfl (by kernel_rfl) (by kernel_rfl) (by kernel_rfl) (fun _ _ _ h => h) (Or.inl ⟨by rfl, ?yy15_37⟩) (by assumption) ?rr15_37
        case yy15_37 => (intro w hSw; (try dsimp only at hSw); (try simp only [List.getElem_toArray, List.getElem_cons_succ, List.getElem_cons_zero, Act.put, List.setIfInBounds_toArray, List.set_cons_zero, List.set_cons_succ]); go_simp; (try (with_reducible rfl)))
        try simp only [List.getElem_toArray, List.getElem_cons_succ, List.getElem_cons_zero, Act.put, List.setIfInBounds_toArray, List.set_cons_zero, List.set_cons_succ]
        have hA := hb1.alloc hb1.size (.cells #[.int .u8 0, .int .u8 0, .string ⟨#[]⟩] 46)
        have b0 := (hA.cell (p := ⟨w.heap.size, 1, none⟩) lb).trans s0
        have b1 := (hA.cell (p := ⟨g, 8, none⟩) lg).trans s1
        have b2 := (hA.cell (p := ⟨g, 3, none⟩) lg).trans s2
        have HU : Hid (Blk (w7.alloc (.cells #[.int .u8 0, .int .u8 0, .string ⟨#[]⟩] 46)) w7.heap.size [.int .u8 0, .int .u8 0, .string ⟨#[]⟩] 46) := blk_new w7 [.int .u8 0, .int .u8 0, .string ⟨#[]⟩] 46
        refine wpAnyH_ready (rs := [16]) (by kernel_rfl) (by simp) ?_
        refine AllReadyH.cons (o := _) rfl (fun K hK => ?_) AllReadyH.nil
        try simp only [List.getElem_toArray, List.getElem_cons_succ, List.getElem_cons_zero, Act.put, List.setIfInBounds_toArray, List.set_cons_zero, List.set_cons_succ]
        go_simp
        refine hK.out _ _ ⟨b0, b1, b2⟩ (fun hHeld => ?_)
        clear hK K
        try simp only [List.getElem_toArray, List.getElem_cons_succ, List.getElem_cons_zero, Act.put, List.setIfInBounds_toArray, List.set_cons_zero, List.set_cons_succ]
        have z0 := HU.out.at_ 0
        have y0 := HU.out.frozen 0
        have z1 := HU.out.at_ 1
        have y1 := HU.out.frozen 1
        have z2 := HU.out.at_ 2
        have y2 := HU.out.frozen 2
        have hA2 := hb1.alloc hb1.size (.cells #[.int .u8 P.c.toNat, .int .u8 P.i.toNat, .string P.d] 46)
        have HQ : Hid (PkB W1 (w7.alloc (.cells #[.int .u8 P.c.toNat, .int .u8 P.i.toNat, .string P.d] 46)) w7.heap.size P) := ⟨blk_new w7 [.int .u8 P.c.toNat, .int .u8 P.i.toNat, .string P.d] 46, hA2, hb1.size⟩
        have g0 := (hA2.cell (p := ⟨w.heap.size, 1, none⟩) lb).trans s0
        have g1 := (hA2.cell (p := ⟨g, 8, none⟩) lg).trans s1
        have g2 := (hA2.cell (p := ⟨g, 3, none⟩) lg).trans s2
        refine wpAnyH_ready (rs := [17]) (by kernel_rfl) (by simp) ?_
        refine AllReadyH.cons (o := _) rfl (fun K hK => ?_) AllReadyH.nil
        try simp only [List.getElem_toArray, List.getElem_cons_succ, List.getElem_cons_zero, Act.put, List.setIfInBounds_toArray, List.set_cons_zero, List.set_cons_succ]
        go_simp
        refine hK.out _ _ ⟨g0, g1, g2⟩ (fun hHeld => ?_)
        clear hK K
        try simp only [List.getElem_toArray, List.getElem_cons_succ, List.getElem_cons_zero, Act.put, List.setIfInBounds_toArray, List.set_cons_zero, List.set_cons_succ]
        refine wpAnyH_take (i := 18) (v := ?vv18_38) rfl (by kernel_rfl) (by kernel_rfl) (by kernel_rfl) (fun _ _ _ h => h) (Or.inl ⟨by rfl, ?yy18_38⟩) (by assumption) ?rr18_38
        case yy18_38 => (intro w hSw; (try dsimp only at hSw); (try simp only [List.getElem_toArray, List.getElem_cons_succ, List.getElem_cons_zero, Act.put, List.setIfInBounds_toArray, List.set_cons_zero, List.set_cons_succ]); go_simp; (try (with_reducible rfl)))
        try simp only [List.getElem_toArray, List.getElem_cons_succ, List.getElem_cons_zero, Act.put, List.setIfInBounds_toArray, List.set_cons_zero, List.set_cons_succ]
        refine wpAnyH_done (by kernel_rfl) ?_ _
        go_wp2_with fail
        go_meet
        case rel => exact ⟨_, rfl, HQ⟩
      · skip
        have hA := (show Below W1.heap.size W1 W1.drew from Below.drewN' (Below.refl _ W1) 1).alloc (Nat.le_refl _) (.cells #[.int .u8 0, .int .u8 0, .string ⟨#[]⟩] 46)
        have b0 := (hA.cell (p := ⟨w.heap.size, 1, none⟩) lb).trans s0
        have b1 := (hA.cell (p := ⟨g, 8, none⟩) lg).trans s1
        have b2 := (hA.cell (p := ⟨g, 3, none⟩) lg).trans s2
        have HU0 : Hid (Blk (W1.drew.alloc (.cells #[.int .u8 0, .int .u8 0, .string ⟨#[]⟩] 46)) W1.heap.size [.int .u8 0, .int .u8 0, .string ⟨#[]⟩] 46 ∧ Below W1.heap.size W1 (W1.drew.alloc (.cells #[.int .u8 0, .int .u8 0, .string ⟨#[]⟩] 46))) := ⟨blk_new W1.drew [.int .u8 0, .int .u8 0, .string ⟨#[]⟩] 46, hA⟩
        try simp only [List.getElem_toArray, List.getElem_cons_succ, List.getElem_cons_zero, Act.put, List.setIfInBounds_toArray, List.set_cons_zero, List.set_cons_succ]
        go_simp
        refine hK.out _ _ ⟨b0, b1, b2⟩ (fun hHeld => ?_)
        clear hK K
        try simp only [List.getElem_toArray, List.getElem_cons_succ, List.getElem_cons_zero, Act.put, List.setIfInBounds_toArray, List.set_cons_zero, List.set_cons_succ]
        refine wpAnyH_ready (rs := [12]) (by kernel_rfl) (by simp) ?_
        refine AllReadyH.cons (o := _) rfl (fun K hK => ?_) AllReadyH.nil
        try simp only [List.getElem_toArray, List.getElem_cons_succ, List.getElem_cons_zero, Act.put, List.setIfInBounds_toArray, List.set_cons_zero, List.set_cons_succ]
        go_simp
        refine (HC.out _ HU0.out.2).mono ?_
        rintro o w7 ⟨rfl, hb0⟩
        have HU : Hid (Blk w7 W1.heap.size [.int .u8 0, .int .u8 0, .string ⟨#[]⟩] 46 ∧ Below W1.heap.size W1 w7 ∧ W1.heap.size ≤ W1.heap.size) := ⟨HU0.out.1.callee hb0, HU0.out.2.trans (hb0.mono HU0.out.2.size), Nat.le_refl _⟩
        clear hb0
        have a0 := (HU.out.2.1.cell (p := ⟨w.heap.size, 1, none⟩) lb).trans s0
        have a1 := (HU.out.2.1.cell (p := ⟨g, 8, none⟩) lg).trans s1
        have a2 := (HU.out.2.1.cell (p := ⟨g, 3, none⟩) lg).trans s2
        refine hK.out _ _ ⟨a0, a1, a2⟩ (fun hHeld => ?_)
        clear hK K
        try simp only [List.getElem_toArray, List.getElem_cons_succ, List.getElem_cons_zero, Act.put, List.setIfInBounds_toArray, List.set_cons_zero, List.set_cons_succ]
        refine wpAnyH_take (i := 13) (v := ?vv13_39) rfl (by kernel_rfl) (by kernel_rfl) (by kernel_rfl) (fun _ _ _ h => h) (Or.inl ⟨by rfl, ?yy13_39⟩) (by assumption) ?rr13_39
        case yy13_39 => (intro w hSw; (try dsimp only at hSw); (try simp only [List.getElem_toArray, List.getElem_cons_succ, List.getElem_cons_zero, Act.put, List.setIfInBounds_toArray, List.set_cons_zero, List.set_cons_succ]); go_simp; (try (with_reducible rfl)))
        try simp only [List.getElem_toArray, List.getElem_cons_succ, List.getElem_cons_zero, Act.put, List.setIfInBounds_toArray, List.set_cons_zero, List.set_cons_succ]
        refine wpAnyH_take (i := 14) (v := ?vv14_40) rfl (by kernel_rfl) (by kernel_rfl) (by kernel_rfl) (fun _ _ _ h => h) (Or.inl ⟨by rfl, ?yy14_40⟩) (by assumption) ?rr14_40
        case yy14_40 => (intro w hSw; (try dsimp only at hSw); (try simp only [List.getElem_toArray, List.getElem_cons_succ, List.getElem_cons_zero, Act.put, List.setIfInBounds_toArray, List.set_cons_zero, List.set_cons_succ]); go_simp; (try (with_reducible rfl)))
        try simp only [List.getElem_toArray, List.getElem_cons_succ, List.getElem_cons_zero, Act.put, List.setIfInBounds_toArray, List.set_cons_zero, List.set_cons_succ]
        refine wpAnyH_take (i := 15) (v := ?vv15_41) rfl (by kernel_rfl) (by kernel_rfl) (by kernel_rfl) (fun _ _ _ h => h) (Or.inl ⟨by rfl, ?yy15_41⟩) (by assumption) ?rr15_41
        case yy15_41 => (intro w hSw; (try dsimp only at hSw); (try simp only [List.getElem_toArray, List.getElem_cons_succ, List.getElem_cons_zero, Act.put, List.setIfInBounds_toArray, List.set_cons_zero, List.set_cons_succ]); go_simp; (try (with_reducible rfl)))
        try simp only [List.getElem_toArray, List.getElem_cons_succ, List.getElem_cons_zero, Act.put, List.setIfInBounds_toArray, List.set_cons_zero, List.set_cons_succ]
        have z0 := HU.out.1.at_ 0
        have y0 := HU.out.1.frozen 0
        have z1 := HU.out.1.at_ 1
        have y1 := HU.out.1.frozen 1
        have z2 := HU.out.1.at_ 2
        have y2 := HU.out.1.frozen 2
        have HQ := Lib.hid (pkb_put HU.out P)
        have g0 := (HQ.out.2.1.cell (p := ⟨w.heap.size, 1, none⟩) lb).trans s0
        have g1 := (HQ.out.2.1.cell (p := ⟨g, 8, none⟩) lg).trans s1
        have g2 := (HQ.out.2.1.cell (p := ⟨g, 3, none⟩) lg).trans s2
        refine wpAnyH_ready (rs := [17]) (by kernel_rfl) (by simp) ?_
        refine AllReadyH.cons (o := _) rfl (fun K hK => ?_) AllReadyH.nil
        try simp only [List.getElem_toArray, List.getElem_cons_succ, List.getElem_cons_zero, Act.put, List.setIfInBounds_toArray, List.set_cons_zero, List.set_cons_succ]
        go_simp
        refine hK.out _ _ ⟨g0, g1, g2⟩ (fun hHeld => ?_)
        clear hK K
        try simp only [List.getElem_toArray, List.getElem_cons_succ, List.getElem_cons_zero, Act.put, List.setIfInBounds_toArray, List.set_cons_zero, List.set_cons_succ]
        refine wpAnyH_take (i := 18) (v := ?vv18_42) rfl (by kernel_rfl) (by kernel_rfl) (by kernel_rfl) (fun _ _ _ h => h) (Or.inl ⟨by rfl, ?yy18_42⟩) (by assumption) ?rr18_42
        case yy18_42 => (intro w hSw; (try dsimp only at hSw); (try simp only [List.getElem_toArray, List.getElem_cons_succ, List.getElem_cons_zero, Act.put, List.setIfInBounds_toArray, List.set_cons_zero, List.set_cons_succ]); go_simp; (try (with_reducible rfl)))
        try simp only [List.getElem_toArray, List.getElem_cons_succ, List.getElem_cons_zero, Act.put, List.setIfInBounds_toArray, List.set_cons_zero, List.set_cons_succ]
        refine wpAnyH_done (by kernel_rfl) ?_ _
        go_wp2_with fail
        go_meet
        case rel => exact ⟨_, rfl, HQ⟩
    case rest =>
      obtain ⟨bb, rfl, HU⟩ := hcut
      have u0 : wc.cell? ⟨bb, 0, none⟩ = some (.int .u8 P.c.toNat) := HU.out.1.at_ 0
      have u1 : wc.cell? ⟨bb, 1, none⟩ = some (.int .u8 P.i.toNat) := HU.out.1.at_ 1
      have u2 : wc.cell? ⟨bb, 2, none⟩ = some (.string P.d) := HU.out.1.at_ 2
      have HP3 := Lib.hid ((HP2.out.below HU.out.2.1).alloc (.cells #[.int .u8 P.c.toNat, .int .u8 P.i.toNat, .string P.d] 46))
      have HS := Lib.hid (send_any _ HP3.out.blk (sn_new wc g P 46 1 (Nat.lt_of_lt_of_le lg HU.out.2.1.size)))
      clear s0 s1 s2 HC
      go_wp2_with fail
      refine HS.out.mono ?_
      rintro e w5 ⟨A, c, rfl, hr, hx, hm⟩
      have HP9 := Lib.hid (HP3.out.moves hm hx)
      have HF := HP3.out.fin (sends [P]) (n := 1) (d := false) (f := false) (nm := bOf []) rfl rfl rfl rfl hr hx hm
      unfold outV outC sends
      (try simp only [List.length_cons, List.length_nil])
      clear hr hx hm
      have c0 := HP9.out.o0
      have c1 := HP9.out.o1
      have c2 := HP9.out.o2
      have c3 := HP9.out.o3
      have f0 := HP9.out.of 0
      have f1 := HP9.out.of 1
      have f2 := HP9.out.of 2
      have f3 := HP9.out.of 3
      go_wp2
      (try simp only [Exit.inBlock, Exit.then])
      refine bodyPost_ret (results_out rfl rfl (by exact HF.out.1)) rfl ?_
      exact HF.out.2
  · rw [if_neg hE, if_neg hE]
    have k0 : (Chp.rdE p.c p.d != 0) = true := by rw [bne_iff_ne]; exact hE
    have HS : Hid (∀ W, CAt W g s → Calls Tryd.prog 25 #[.slice none 0 0] W (OutQ g (pvC s) 69 no W)) := fun W hW => send_none W hW
    unfold CAt at HS
    generalize Chp.rdE p.c p.d = E at *
    generalize Chp.rdA p.c p.d = X at *
    generalize Chp.rdB p.c p.d = Y at *
    generalize pvC s = ps at *
    clear h hG hs hn hz hd hE HGV
    unfold ptr at *
    go_enter Tryd.func97, Tryd.ntmps97
    go_wp2_with fail
    refine HRd.out.mono ?_
    rintro e w1 ⟨rfl, hb⟩
    have HP1 := Lib.hid (HP.out.below hb)
    clear hb
    go_wp2_with fail
    refine (HS.out _ HP1.out.blk).mono ?_
    rintro e w5 ⟨A, c, rfl, hr, hx, hm⟩
    have HP9 := Lib.hid (HP1.out.moves hm hx)
    have HF := HP1.out.fin (no) (n := 0) (d := false) (f := false) (nm := bOf []) rfl rfl rfl rfl hr hx hm
    unfold outV outC no
    (try simp only [List.length_cons, List.length_nil])
    clear hr hx hm
    have c0 := HP9.out.o0
    have c1 := HP9.out.o1
    have c2 := HP9.out.o2
    have c3 := HP9.out.o3
    have f0 := HP9.out.of 0
    have f1 := HP9.out.of 1
    have f2 := HP9.out.of 2
    have f3 := HP9.out.of 3
    go_wp2
    (try simp only [Exit.inBlock, Exit.then])
    refine bodyPost_ret (results_out rfl rfl (by exact HF.out.1)) rfl ?_
    exact HF.out.2
end Go.Proofs.YtpfbknbloeilmaaDoor.Ath
