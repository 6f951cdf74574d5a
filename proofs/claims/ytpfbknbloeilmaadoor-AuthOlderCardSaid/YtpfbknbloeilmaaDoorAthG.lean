/- A server: whether a packet is good; what it claims. -/
import Derived.Test.YtpfbknbloeilmaaDoorAthF
import Derived.Test.YtpfbknbloeilmaaDoorAthMx
namespace Go.Proofs.YtpfbknbloeilmaaDoor.Ath
open Go.RowKit Go.Proofs.YtpfbknbloeilmaaDoor.Oct Go.Proofs.YtpfbknbloeilmaaDoor.Row Go.Proofs.YtpfbknbloeilmaaDoor.Mem Go.Proofs.YtpfbknbloeilmaaDoor.Md5

/-- A new box. -/
theorem start_in {w : World} {g : Nat} {cs : List Value} {T : TypeId} (h : Blk w g cs T) (bs : List Value) (B : TypeId) : ∃ V, w.alloc (.cells bs.toArray B) = V ∧ V.heap.size = w.heap.size + 1 ∧ Hid (Blk V g cs T) ∧ Hid (Below w.heap.size w V) ∧ Hid (Blk V w.heap.size bs B) :=
  ⟨_, rfl, World.size_alloc _ _, h.alloc _, (Below.refl _ w).alloc (Nat.le_refl _) _, blk_new w bs B⟩
/-- Whether what is claimed is good, by its name. -/
def goodB (s : Sv) (i : In) (n : ByteArray) : Bool := i.known && (if pap s.c then Pap.ckB i.p.c i.p.d n i.secret else Chp.ckB i.p.c i.p.i i.p.d s.id i.secret s.value)
theorem kind_no {c : Cf} (h : pap c = false) : ((c.kind.toNat : Int) == 1) = false := by
  have : c.kind ≠ 1 := fun e => by unfold pap at h; rw [e] at h; cases h
  rw [beq_eq_false_iff_ne]
  intro e
  exact this (UInt8.toNat_inj.1 (by show _ = 1; omega))
theorem kind_yes {c : Cf} (h : pap c = true) : ((c.kind.toNat : Int) == 1) = true := by rw [kind_pap h]; rfl
set_option maxHeartbeats 4000000 in
set_option maxRecDepth 100000 in
theorem isGood_any (g : Nat) (s : Sv) (i : In) (n : ByteArray) (w : World) (h : SAt w g s) (hG : Globs w) (hd : i.p.d.size ≤ maxLen) (hs1 : i.secret.size ≤ 8192) (hv : s.value.size ≤ 255) (ho : pap s.c = false → s.opn = true) :
    Calls Tryd.prog 67 #[ptr g, inV i, .string n] w fun e w' => e = .returned (.bool (goodB s i n)) ∧ Below w.heap.size w w' := by
  obtain ⟨V, hV, hs, HG0, HB, HX⟩ := start_in h (inC i) 77
  unfold inC at hV
  have x0 := HX.out.at_ 0
  have x1 := HX.out.at_ 1
  have x2 := HX.out.at_ 2
  have x3 := HX.out.at_ 3
  have x4 := HX.out.at_ 4
  have x5 := HX.out.at_ 5
  unfold inC at x0 x1 x2 x3 x4 x5
  simp only [List.getElem?_cons_zero, List.getElem?_cons_succ] at x0 x1 x2 x3 x4 x5
  have HGV := Lib.hid (hG.below HB.out)
  have q0 : V.cell? ⟨g, 0, none⟩ = some (.int .u8 s.c.kind.toNat) := HG0.out.at_ 0
  unfold goodB
  cases hk : i.known
  · rw [hk] at x5 hV
    rw [Bool.false_and]
    clear h hG hd hs1 hv ho hs q0
    unfold ptr inV inC
    rw [hk]
    clear hk
    go_enter Tryd.func67, Tryd.ntmps67
    go_wp2
    go_ret
    exact ⟨rfl, HB.out⟩
  · rw [hk] at x5 hV
    rw [Bool.true_and]
    cases hp : pap s.c
    · simp only [Bool.false_eq_true, if_false]
      have k0 := kind_no hp
      have HC : Hid (∀ W, Globs W → Calls Tryd.prog 86 #[.agg #[.int .u8 i.p.c.toNat, .int .u8 i.p.i.toNat, .string i.p.d], .int .u8 s.id.toNat, .string i.secret, .string s.value] W fun e w' => e = .returned (.bool (Chp.ckB i.p.c i.p.i i.p.d s.id i.secret s.value)) ∧ Below W.heap.size W w') := fun W hW => Chp.check_any i.p.c i.p.i i.p.d s.id i.secret s.value W hd hs1 (by omega) hW
      have t5 : Hid ((pv s)[5]? = some (.int .u8 s.id.toNat)) := rfl
      have t9 : Hid ((pv s)[9]? = some (.string s.value)) := by show some (Value.string (if s.opn then s.value else bOf [])) = _; rw [ho hp]; rfl
      have y1 : V.drew.cell? ⟨w.heap.size, 1, none⟩ = _ := x1
      have y2 : V.drew.cell? ⟨w.heap.size, 2, none⟩ = _ := x2
      have y3 : V.drew.cell? ⟨w.heap.size, 3, none⟩ = _ := x3
      have y4 : V.drew.cell? ⟨w.heap.size, 4, none⟩ = _ := x4
      have y5 : V.drew.cell? ⟨g, 5, none⟩ = some (.int .u8 s.id.toNat) := (HG0.out.at_ 5).trans t5.out
      have y6 : V.drew.cell? ⟨g, 9, none⟩ = some (.string s.value) := (HG0.out.at_ 9).trans t9.out
      generalize Chp.ckB i.p.c i.p.i i.p.d s.id i.secret s.value = r at *
      generalize pv s = ps at *
      clear h hG hd hs1 hv ho hs hp
      unfold ptr inV inC
      rw [hk]
      clear hk
      go_enter Tryd.func67, Tryd.ntmps67
      go_upto_region 5 with (fail)
      refine wp_region_held_drew (S := fun w' => w'.cell? ⟨w.heap.size, 1, none⟩ = some (.int .u8 i.p.c.toNat) ∧ w'.cell? ⟨w.heap.size, 2, none⟩ = some (.int .u8 i.p.i.toNat) ∧ w'.cell? ⟨w.heap.size, 3, none⟩ = some (.string i.p.d) ∧ w'.cell? ⟨w.heap.size, 4, none⟩ = some (.string i.secret) ∧ w'.cell? ⟨g, 5, none⟩ = some (.int .u8 s.id.toNat) ∧ w'.cell? ⟨g, 9, none⟩ = some (.string s.value)) (by kernel_rfl) ⟨y1, y2, y3, y4, y5, y6⟩ (fun hHeld => ?_)
      refine wpAnyH_take (i := 0) (v := ?vv0_1) rfl (by kernel_rfl) (by kernel_rfl) (by kernel_rfl) (fun _ _ _ h => h) (Or.inl ⟨by rfl, ?yy0_1⟩) (by assumption) ?rr0_1
      case yy0_1 => (intro w hSw; (try dsimp only at hSw); (try simp only [List.getElem_toArray, List.getElem_cons_succ, List.getElem_cons_zero, Act.put, List.setIfInBounds_toArray, List.set_cons_zero, List.set_cons_succ]); go_simp; (try (with_reducible rfl)))
      try simp only [List.getElem_toArray, List.getElem_cons_succ, List.getElem_cons_zero, Act.put, List.setIfInBounds_toArray, List.set_cons_zero, List.set_cons_succ]
      refine wpAnyH_take (i := 1) (v := ?vv1_2) rfl (by kernel_rfl) (by kernel_rfl) (by kernel_rfl) (fun _ _ _ h => h) (Or.inl ⟨by rfl, ?yy1_2⟩) (by assumption) ?rr1_2
      case yy1_2 => (intro w hSw; (try dsimp only at hSw); (try simp only [List.getElem_toArray, List.getElem_cons_succ, List.getElem_cons_zero, Act.put, List.setIfInBounds_toArray, List.set_cons_zero, List.set_cons_succ]); go_simp; (try (with_reducible rfl)))
      try simp only [List.getElem_toArray, List.getElem_cons_succ, List.getElem_cons_zero, Act.put, List.setIfInBounds_toArray, List.set_cons_zero, List.set_cons_succ]
      refine wpAnyH_take (i := 2) (v := ?vv2_3) rfl (by kernel_rfl) (by kernel_rfl) (by kernel_rfl) (fun _ _ _ h => h) (Or.inl ⟨by rfl, ?yy2_3⟩) (by assumption) ?rr2_3
      case yy2_3 => (intro w hSw; (try dsimp only at hSw); (try simp only [List.getElem_toArray, List.getElem_cons_succ, List.getElem_cons_zero, Act.put, List.setIfInBounds_toArray, List.set_cons_zero, List.set_cons_succ]); go_simp; (try (with_reducible rfl)))
      try simp only [List.getElem_toArray, List.getElem_cons_succ, List.getElem_cons_zero, Act.put, List.setIfInBounds_toArray, List.set_cons_zero, List.set_cons_succ]
      refine wpAnyH_take (i := 3) (v := ?vv3_4) rfl (by kernel_rfl) (by kernel_rfl) (by kernel_rfl) (fun _ _ _ h => h) (Or.inl ⟨by rfl, ?yy3_4⟩) (by assumption) ?rr3_4
      case yy3_4 => (intro w hSw; (try dsimp only at hSw); (try simp only [List.getElem_toArray, List.getElem_cons_succ, List.getElem_cons_zero, Act.put, List.setIfInBounds_toArray, List.set_cons_zero, List.set_cons_succ]); go_simp; (try (with_reducible rfl)))
      try simp only [List.getElem_toArray, List.getElem_cons_succ, List.getElem_cons_zero, Act.put, List.setIfInBounds_toArray, List.set_cons_zero, List.set_cons_succ]
      refine wpAnyH_take (i := 4) (v := ?vv4_5) rfl (by kernel_rfl) (by kernel_rfl) (by kernel_rfl) (fun _ _ _ h => h) (Or.inl ⟨by rfl, ?yy4_5⟩) (by assumption) ?rr4_5
      case yy4_5 => (intro w hSw; (try dsimp only at hSw); (try simp only [List.getElem_toArray, List.getElem_cons_succ, List.getElem_cons_zero, Act.put, List.setIfInBounds_toArray, List.set_cons_zero, List.set_cons_succ]); go_simp; (try (with_reducible rfl)))
      try simp only [List.getElem_toArray, List.getElem_cons_succ, List.getElem_cons_zero, Act.put, List.setIfInBounds_toArray, List.set_cons_zero, List.set_cons_succ]
      refine wpAnyH_take (i := 5) (v := ?vv5_6) rfl (by kernel_rfl) (by kernel_rfl) (by kernel_rfl) (fun _ _ _ h => h) (Or.inl ⟨by rfl, ?yy5_6⟩) (by assumption) ?rr5_6
      case yy5_6 => (intro w hSw; (try dsimp only at hSw); (try simp only [List.getElem_toArray, List.getElem_cons_succ, List.getElem_cons_zero, Act.put, List.setIfInBounds_toArray, List.set_cons_zero, List.set_cons_succ]); go_simp; (try (with_reducible rfl)))
      try simp only [List.getElem_toArray, List.getElem_cons_succ, List.getElem_cons_zero, Act.put, List.setIfInBounds_toArray, List.set_cons_zero, List.set_cons_succ]
      refine wpAnyH_take (i := 6) (v := ?vv6_7) rfl (by kernel_rfl) (by kernel_rfl) (by kernel_rfl) (fun _ _ _ h => h) (Or.inl ⟨by rfl, ?yy6_7⟩) (by assumption) ?rr6_7
      case yy6_7 => (intro w hSw; (try dsimp only at hSw); (try simp only [List.getElem_toArray, List.getElem_cons_succ, List.getElem_cons_zero, Act.put, List.setIfInBounds_toArray, List.set_cons_zero, List.set_cons_succ]); go_simp; (try (with_reducible rfl)))
      try simp only [List.getElem_toArray, List.getElem_cons_succ, List.getElem_cons_zero, Act.put, List.setIfInBounds_toArray, List.set_cons_zero, List.set_cons_succ]
      refine wpAnyH_take (i := 7) (v := ?vv7_8) rfl (by kernel_rfl) (by kernel_rfl) (by kernel_rfl) (fun _ _ _ h => h) (Or.inl ⟨by rfl, ?yy7_8⟩) (by assumption) ?rr7_8
      case yy7_8 => (intro w hSw; (try dsimp only at hSw); (try simp only [List.getElem_toArray, List.getElem_cons_succ, List.getElem_cons_zero, Act.put, List.setIfInBounds_toArray, List.set_cons_zero, List.set_cons_succ]); go_simp; (try (with_reducible rfl)))
      try simp only [List.getElem_toArray, List.getElem_cons_succ, List.getElem_cons_zero, Act.put, List.setIfInBounds_toArray, List.set_cons_zero, List.set_cons_succ]
      refine wpAnyH_take (i := 8) (v := ?vv8_9) rfl (by kernel_rfl) (by kernel_rfl) (by kernel_rfl) (fun _ _ _ h => h) (Or.inl ⟨by rfl, ?yy8_9⟩) (by assumption) ?rr8_9
      case yy8_9 => (intro w hSw; (try dsimp only at hSw); (try simp only [List.getElem_toArray, List.getElem_cons_succ, List.getElem_cons_zero, Act.put, List.setIfInBounds_toArray, List.set_cons_zero, List.set_cons_succ]); go_simp; (try (with_reducible rfl)))
      try simp only [List.getElem_toArray, List.getElem_cons_succ, List.getElem_cons_zero, Act.put, List.setIfInBounds_toArray, List.set_cons_zero, List.set_cons_succ]
      refine wpAnyH_take (i := 9) (v := ?vv9_10) rfl (by kernel_rfl) (by kernel_rfl) (by kernel_rfl) (fun _ _ _ h => h) (Or.inl ⟨by rfl, ?yy9_10⟩) (by assumption) ?rr9_10
      case yy9_10 => (intro w hSw; (try dsimp only at hSw); (try simp only [List.getElem_toArray, List.getElem_cons_succ, List.getElem_cons_zero, Act.put, List.setIfInBounds_toArray, List.set_cons_zero, List.set_cons_succ]); go_simp; (try (with_reducible rfl)))
      try simp only [List.getElem_toArray, List.getElem_cons_succ, List.getElem_cons_zero, Act.put, List.setIfInBounds_toArray, List.set_cons_zero, List.set_cons_succ]
      refine wpAnyH_take (i := 10) (v := ?vv10_11) rfl (by kernel_rfl) (by kernel_rfl) (by kernel_rfl) (fun _ _ _ h => h) (Or.inl ⟨by rfl, ?yy10_11⟩) (by assumption) ?rr10_11
      case yy10_11 => (intro w hSw; (try dsimp only at hSw); (try simp only [List.getElem_toArray, List.getElem_cons_succ, List.getElem_cons_zero, Act.put, List.setIfInBounds_toArray, List.set_cons_zero, List.set_cons_succ]); go_simp; (try (with_reducible rfl)))
      try simp only [List.getElem_toArray, List.getElem_cons_succ, List.getElem_cons_zero, Act.put, List.setIfInBounds_toArray, List.set_cons_zero, List.set_cons_succ]
      refine wpAnyH_take (i := 11) (v := ?vv11_12) rfl (by kernel_rfl) (by kernel_rfl) (by kernel_rfl) (fun _ _ _ h => h) (Or.inl ⟨by rfl, ?yy11_12⟩) (by assumption) ?rr11_12
      case yy11_12 => (intro w hSw; (try dsimp only at hSw); (try simp only [List.getElem_toArray, List.getElem_cons_succ, List.getElem_cons_zero, Act.put, List.setIfInBounds_toArray, List.set_cons_zero, List.set_cons_succ]); go_simp; (try (with_reducible rfl)))
      try simp only [List.getElem_toArray, List.getElem_cons_succ, List.getElem_cons_zero, Act.put, List.setIfInBounds_toArray, List.set_cons_zero, List.set_cons_succ]
      refine wpAnyH_take (i := 12) (v := ?vv12_13) rfl (by kernel_rfl) (by kernel_rfl) (by kernel_rfl) (fun _ _ _ h => h) (Or.inl ⟨by rfl, ?yy12_13⟩) (by assumption) ?rr12_13
      case yy12_13 => (intro w hSw; (try dsimp only at hSw); (try simp only [List.getElem_toArray, List.getElem_cons_succ, List.getElem_cons_zero, Act.put, List.setIfInBounds_toArray, List.set_cons_zero, List.set_cons_succ]); go_simp; (try (with_reducible rfl)))
      try simp only [List.getElem_toArray, List.getElem_cons_succ, List.getElem_cons_zero, Act.put, List.setIfInBounds_toArray, List.set_cons_zero, List.set_cons_succ]
      refine wpAnyH_ready (rs := [13]) (by kernel_rfl) (by simp) ?_
      refine AllReadyH.cons (o := _) rfl (fun K hK => ?_) AllReadyH.nil
      try simp only [List.getElem_toArray, List.getElem_cons_succ, List.getElem_cons_zero, Act.put, List.setIfInBounds_toArray, List.set_cons_zero, List.set_cons_succ]
      go_simp
      refine (HC.out _ (HGV.out.below (Below.drewN' (Below.refl _ V) 1))).mono ?_
      rintro e w5 ⟨rfl, hb⟩
      have HB5 := Lib.hid (HB.out.trans ((show Below V.heap.size V w5 from ⟨hb.os, hb.tape, hb.output, hb.size, hb.block⟩).mono HB.out.size))
      have HX5 := Lib.hid (HX.out.drew.callee hb)
      have HG5 := Lib.hid (HG0.out.drew.callee hb)
      clear hb
      refine hK.out _ _ ⟨HX5.out.at_ 1, HX5.out.at_ 2, HX5.out.at_ 3, HX5.out.at_ 4, (HG5.out.at_ 5).trans t5.out, (HG5.out.at_ 9).trans t9.out⟩ (fun hHeld => ?_)
      clear hK K
      try simp only [List.getElem_toArray, List.getElem_cons_succ, List.getElem_cons_zero, Act.put, List.setIfInBounds_toArray, List.set_cons_zero, List.set_cons_succ]
      refine wpAnyH_take (i := 14) (v := ?vv14_14) rfl (by kernel_rfl) (by kernel_rfl) (by kernel_rfl) (fun _ _ _ h => h) (Or.inl ⟨by rfl, ?yy14_14⟩) (by assumption) ?rr14_14
      case yy14_14 => (intro w hSw; (try dsimp only at hSw); (try simp only [List.getElem_toArray, List.getElem_cons_succ, List.getElem_cons_zero, Act.put, List.setIfInBounds_toArray, List.set_cons_zero, List.set_cons_succ]); go_simp; (try (with_reducible rfl)))
      try simp only [List.getElem_toArray, List.getElem_cons_succ, List.getElem_cons_zero, Act.put, List.setIfInBounds_toArray, List.set_cons_zero, List.set_cons_succ]
      refine wpAnyH_done (by kernel_rfl) ?_ _
      go_wp2
      go_ret
      exact ⟨rfl, HB5.out⟩
    · simp only [if_true]
      have k0 := kind_yes hp
      have HC := Lib.hid (fun W => Pap.check_any i.p.c i.p.i i.p.d n i.secret W hd)
      generalize Pap.ckB i.p.c i.p.d n i.secret = r at *
      clear h hG hd hs1 hv ho hs hp
      unfold ptr inV inC
      rw [hk]
      clear hk
      go_enter Tryd.func67, Tryd.ntmps67
      go_wp2_with fail
      refine (HC.out _).mono ?_
      rintro e w5 ⟨rfl, hb⟩
      have HB5 := Lib.hid (HB.out.trans (hb.mono HB.out.size))
      clear hb
      go_wp2
      go_ret
      exact ⟨rfl, HB5.out⟩

set_option maxHeartbeats 1000000 in
set_option maxRecDepth 100000 in
theorem isGood_pap (g : Nat) (s : Sv) (i : In) (n : ByteArray) (w : World) (h : SAt w g s) (hd : i.p.d.size ≤ maxLen) (hp : pap s.c = true) :
    Calls Tryd.prog 67 #[ptr g, inV i, .string n] w fun e w' => e = .returned (.bool (goodB s i n)) ∧ Below w.heap.size w w' := by
  obtain ⟨V, hV, hs, HG0, HB, HX⟩ := start_in h (inC i) 77
  unfold inC at hV
  have x0 := HX.out.at_ 0
  have x1 := HX.out.at_ 1
  have x2 := HX.out.at_ 2
  have x3 := HX.out.at_ 3
  have x4 := HX.out.at_ 4
  have x5 := HX.out.at_ 5
  unfold inC at x0 x1 x2 x3 x4 x5
  simp only [List.getElem?_cons_zero, List.getElem?_cons_succ] at x0 x1 x2 x3 x4 x5
  have q0 : V.cell? ⟨g, 0, none⟩ = some (.int .u8 s.c.kind.toNat) := HG0.out.at_ 0
  unfold goodB
  cases hk : i.known
  · rw [hk] at x5 hV
    rw [Bool.false_and]
    clear h hd hs q0
    unfold ptr inV inC
    rw [hk]
    clear hk
    go_enter Tryd.func67, Tryd.ntmps67
    go_wp2
    go_ret
    exact ⟨rfl, HB.out⟩
  · rw [hk] at x5 hV
    rw [Bool.true_and, if_pos hp]
    have k0 := kind_yes hp
    have HC := Lib.hid (fun W => Pap.check_any i.p.c i.p.i i.p.d n i.secret W hd)
    generalize Pap.ckB i.p.c i.p.d n i.secret = r at *
    clear h hd hs hp
    unfold ptr inV inC
    rw [hk]
    clear hk
    go_enter Tryd.func67, Tryd.ntmps67
    go_wp2_with fail
    refine (HC.out _).mono ?_
    rintro e w5 ⟨rfl, hb⟩
    have HB5 := Lib.hid (HB.out.trans (hb.mono HB.out.size))
    clear hb
    go_wp2
    go_ret
    exact ⟨rfl, HB5.out⟩

/-! ### what is claimed -/
def ClQ (s : Sv) (p : Pk) (w : World) (e : Ending) (w' : World) : Prop := e = .returned (.tuple #[.string (nameIn s p), .bool (claims s p)]) ∧ Below w.heap.size w w'
theorem as_none {c : UInt8} {d : ByteArray} (h : Pap.asE c d ≠ 0) : Pap.asT c d 0 = bOf [] := by
  unfold Pap.asE at h
  unfold Pap.asT
  by_cases hc : c = 1
  · rw [if_pos hc] at h ⊢
    rw [Pap.rdT_bad h]
    rfl
  · rw [if_neg hc]
theorem claims_pap {s : Sv} (p : Pk) (hp : pap s.c = true) (h1 : s.st = 1) : nameIn s p = Pap.asT p.c p.d 0 ∧ claims s p = decide (Pap.asE p.c p.d = 0) := by
  have hc : claims s p = decide (Pap.asE p.c p.d = 0) := by unfold claims; rw [if_pos hp, decide_eq_true h1, Bool.true_and]
  refine ⟨?_, hc⟩
  unfold nameIn
  rw [hc, if_pos hp]
  by_cases h : Pap.asE p.c p.d = 0
  · rw [decide_eq_true h, if_pos rfl]
  · rw [decide_eq_false h, if_neg (by decide), as_none h]
theorem claims_pap_no {s : Sv} (p : Pk) (hp : pap s.c = true) (h1 : s.st ≠ 1) : nameIn s p = bOf [] ∧ claims s p = false := by
  have hc : claims s p = false := by unfold claims; rw [if_pos hp, decide_eq_false h1, Bool.false_and]
  refine ⟨?_, hc⟩
  unfold nameIn
  rw [hc, if_neg (by decide)]
set_option maxHeartbeats 1000000 in
set_option maxRecDepth 100000 in
theorem claimsRequest_any (g : Nat) (s : Sv) (p : Pk) (w : World) (h : SAt w g s) (hd : p.d.size ≤ maxLen) (hp : pap s.c = true) :
    Calls Tryd.prog 41 #[ptr g, .agg #[.int .u8 p.c.toNat, .int .u8 p.i.toNat, .string p.d]] w (ClQ s p w) := by
  obtain ⟨V, hV, hs, HG0, HB, HX⟩ := start_in h [.int .u8 p.c.toNat, .int .u8 p.i.toNat, .string p.d] 46
  have x0 := HX.out.at_ 0
  have x1 := HX.out.at_ 1
  have x2 := HX.out.at_ 2
  simp only [List.getElem?_cons_zero, List.getElem?_cons_succ] at x0 x1 x2
  have q4 : V.cell? ⟨g, 4, none⟩ = some (.int .u8 s.st) := HG0.out.at_ 4
  unfold ClQ
  by_cases h1 : s.st = 1
  · rw [(claims_pap p hp h1).1, (claims_pap p hp h1).2]
    rw [h1] at q4
    have HC := Lib.hid (fun W => Pap.asked_any p.c p.i p.d W hd)
    unfold Pap.asV at HC
    have hq : (Pap.asE p.c p.d == 0) = decide (Pap.asE p.c p.d = 0) := by
      by_cases h : Pap.asE p.c p.d = 0
      · rw [decide_eq_true h, beq_iff_eq]; exact h
      · rw [decide_eq_false h, beq_eq_false_iff_ne]; exact h
    generalize decide (Pap.asE p.c p.d = 0) = r at *
    generalize Pap.asE p.c p.d = E at *
    generalize Pap.asT p.c p.d 0 = a at *
    generalize Pap.asT p.c p.d 1 = b at *
    clear h hd hp hs h1
    unfold ptr
    go_enter Tryd.func41, Tryd.ntmps41
    go_wp2_with fail
    refine (HC.out _).mono ?_
    rintro e w5 ⟨rfl, hb⟩
    have HB5 := Lib.hid (HB.out.trans (hb.mono HB.out.size))
    clear hb
    go_wp2
    go_ret2
    exact ⟨rfl, HB5.out⟩
  · rw [(claims_pap_no p hp h1).1, (claims_pap_no p hp h1).2]
    have k0 : ((s.st : Int) != 1) = true := by rw [bne_iff_ne]; omega
    clear h hd hp hs h1
    unfold ptr
    go_enter Tryd.func41, Tryd.ntmps41
    go_wp2
    go_ret2
    exact ⟨rfl, HB.out⟩
theorem claims_chp {s : Sv} (p : Pk) (hp : pap s.c = false) : claims s p = (s.opn && decide (p.c = 2) && decide (p.i = s.id) && decide (Chp.rdE p.c p.d = 0)) ∧ nameIn s p = (if claims s p then Chp.rdB p.c p.d else bOf []) := by
  constructor
  · unfold claims
    rw [if_neg (by rw [hp]; decide)]
    cases s.opn <;> cases decide (p.c = 2) <;> cases decide (p.i = s.id) <;> cases decide (Chp.rdE p.c p.d = 0) <;> rfl
  · unfold nameIn
    rw [show pap s.c = false from hp]
    simp only [Bool.false_eq_true, if_false]
theorem u8_ne {a b : UInt8} : ((a.toNat : Int) != (b.toNat : Int)) = !decide (a = b) := by
  by_cases h : a = b
  · subst h; simp
  · rw [decide_eq_false h, Bool.not_false, bne_iff_ne]
    intro e
    exact h (UInt8.toNat_inj.1 (by omega))
set_option maxHeartbeats 4000000 in
set_option maxRecDepth 100000 in
theorem claimsResponse_any (g : Nat) (s : Sv) (p : Pk) (w : World) (h : SAt w g s) (hd : p.d.size ≤ maxLen) (hv : s.opn = true → s.value.size = 16) (hp : pap s.c = false) :
    Calls Tryd.prog 42 #[ptr g, .agg #[.int .u8 p.c.toNat, .int .u8 p.i.toNat, .string p.d]] w (ClQ s p w) := by
  obtain ⟨V, hV, hs, HG0, HB, HX⟩ := start_in h [.int .u8 p.c.toNat, .int .u8 p.i.toNat, .string p.d] 46
  have x0 := HX.out.at_ 0
  have x1 := HX.out.at_ 1
  have x2 := HX.out.at_ 2
  simp only [List.getElem?_cons_zero, List.getElem?_cons_succ] at x0 x1 x2
  have q5 : V.cell? ⟨g, 5, none⟩ = some (.int .u8 s.id.toNat) := HG0.out.at_ 5
  have q9 : V.cell? ⟨g, 9, none⟩ = some (.string (if s.opn then s.value else bOf [])) := HG0.out.at_ 9
  have hkc : ((p.c.toNat : Int) != 2) = !decide (p.c = 2) := u8_ne (b := 2)
  have hki : ((p.i.toNat : Int) != (s.id.toNat : Int)) = !decide (p.i = s.id) := u8_ne
  unfold ClQ
  rw [(claims_chp p hp).2, (claims_chp p hp).1]
  have HC := Lib.hid (fun W => Chp.read_any p.c p.i p.d W hd)
  have HNo : Hid (Chp.rdE p.c p.d ≠ 0 → Chp.rdB p.c p.d = bOf []) := fun e => by unfold Chp.rdB; rw [if_neg e]
  unfold Chp.rdV at HC
  generalize Chp.rdA p.c p.d = x at *
  generalize Chp.rdB p.c p.d = y at *
  have hq : (Chp.rdE p.c p.d == 0) = decide (Chp.rdE p.c p.d = 0) := by
    by_cases h : Chp.rdE p.c p.d = 0
    · rw [decide_eq_true h, beq_iff_eq]; exact h
    · rw [decide_eq_false h, beq_eq_false_iff_ne]; exact h
  have HY : Hid ((if decide (Chp.rdE p.c p.d = 0) = true then y else bOf []) = y) := by
    show _ = _
    by_cases h : Chp.rdE p.c p.d = 0
    · rw [decide_eq_true h, if_pos rfl]
    · rw [decide_eq_false h, if_neg (by decide), HNo.out h]
  clear HNo
  generalize decide (Chp.rdE p.c p.d = 0) = r at *
  generalize Chp.rdE p.c p.d = E at *
  generalize decide (p.c = 2) = rc at *
  generalize decide (p.i = s.id) = ri at *
  cases ho : s.opn
  · rw [ho] at q9
    simp only [Bool.false_eq_true, if_false, Bool.false_and] at q9 ⊢
    have k0 := str_none
    obtain ⟨nl, hnl⟩ : ∃ nl, nl = bOf [] := ⟨_, rfl⟩
    rw [← hnl] at q9 k0
    clear hnl
    clear h hd hp hs hv ho HY hq HC
    unfold ptr
    go_enter Tryd.func42, Tryd.ntmps42
    go_wp2
    go_quiet (fail)
    go_wp2
    go_ret2
    exact ⟨rfl, HB.out.drewN' _⟩
  · rw [ho] at q9
    simp only [if_true, Bool.true_and] at q9 ⊢
    have k0 := str_full (hv ho)
    generalize s.value = vl at *
    clear h hd hp hs hv ho
    cases rc
    · simp only [Bool.false_eq_true, if_false, Bool.false_and, Bool.not_false] at hkc ⊢
      clear HY hq HC
      unfold ptr
      go_enter Tryd.func42, Tryd.ntmps42
      go_wp2
      go_quiet (fail)
      go_wp2
      go_ret2
      exact ⟨rfl, HB.out.drewN' _⟩
    · cases ri
      · simp only [Bool.false_eq_true, if_false, Bool.false_and, Bool.true_and, Bool.not_false, Bool.not_true] at hkc hki ⊢
        clear HY hq HC
        unfold ptr
        go_enter Tryd.func42, Tryd.ntmps42
        go_wp2
        go_quiet (fail)
        go_wp2
        go_ret2
        exact ⟨rfl, HB.out.drewN' _⟩
      · simp only [Bool.true_and, Bool.not_true] at hkc hki ⊢
        rw [HY.out]
        clear HY
        unfold ptr
        go_enter Tryd.func42, Tryd.ntmps42
        go_wp2
        go_quiet (fail)
        go_wp2_with fail
        refine (HC.out _).mono ?_
        rintro e w5 ⟨rfl, hb⟩
        have HB5 : Hid (Below w.heap.size w w5) := (HB.out.drewN' nq).trans (hb.mono HB.out.size)
        clear hb
        go_wp2
        go_ret2
        exact ⟨rfl, HB5.out⟩
set_option maxHeartbeats 1000000 in
set_option maxRecDepth 100000 in
theorem claims_any (g : Nat) (s : Sv) (p : Pk) (w : World) (h : SAt w g s) (hd : p.d.size ≤ maxLen) (hv : s.opn = true → s.value.size = 16) :
    Calls Tryd.prog 19 #[ptr g, .agg #[.int .u8 p.c.toNat, .int .u8 p.i.toNat, .string p.d]] w (ClQ s p w) := by
  obtain ⟨V, hV, hs, HG0, HB, HX⟩ := start_in h [.int .u8 p.c.toNat, .int .u8 p.i.toNat, .string p.d] 46
  have x0 := HX.out.at_ 0
  have x1 := HX.out.at_ 1
  have x2 := HX.out.at_ 2
  simp only [List.getElem?_cons_zero, List.getElem?_cons_succ] at x0 x1 x2
  have q0 : V.cell? ⟨g, 0, none⟩ = some (.int .u8 s.c.kind.toNat) := HG0.out.at_ 0
  cases hp : pap s.c
  · have k0 := kind_no hp
    have HC := Lib.hid (claimsResponse_any g s p V HG0.out hd hv hp)
    unfold ClQ at *
    generalize nameIn s p = a at *
    generalize claims s p = r at *
    clear h hd hs hp hv
    unfold ptr at *
    go_enter Tryd.func19, Tryd.ntmps19
    go_wp2_with fail
    refine HC.out.mono ?_
    rintro e w5 ⟨rfl, hb⟩
    have HB5 := Lib.hid (HB.out.trans (hb.mono HB.out.size))
    clear hb
    go_wp2
    go_ret2
    exact ⟨rfl, HB5.out⟩
  · have k0 := kind_yes hp
    have HC := Lib.hid (claimsRequest_any g s p V HG0.out hd hp)
    unfold ClQ at *
    generalize nameIn s p = a at *
    generalize claims s p = r at *
    clear h hd hs hp hv
    unfold ptr at *
    go_enter Tryd.func19, Tryd.ntmps19
    go_wp2_with fail
    refine HC.out.mono ?_
    rintro e w5 ⟨rfl, hb⟩
    have HB5 := Lib.hid (HB.out.trans (hb.mono HB.out.size))
    clear hb
    go_wp2
    go_ret2
    exact ⟨rfl, HB5.out⟩
end Go.Proofs.YtpfbknbloeilmaaDoor.Ath
