/- The laws' own examples ('alive') of options. -/
import Derived.Test.YtbmifcfgpmgcpaaOptC
import Derived.Test.YtbmifcfgpmgcpaaOptE
import Derived.Test.YtbmifcfgpmgcpaaOptI
namespace Go.Proofs.Ytbmifcfgpmgcpaa.Opt
open Go.RowKit Go.Proofs.Ytbmifcfgpmgcpaa.Oct Go.Proofs.Ytbmifcfgpmgcpaa.Row Go.Proofs.Ytbmifcfgpmgcpaa.Mem

theorem own : ownKnob Try.prog.godebug = none := by kernel_rfl
theorem laidOut : laidOutB Try.prog = true := by kernel_rfl
theorem opts_blk {w : World} {g : Nat} {l : List Opt} {t : TypeId} (h : Blk w g (optsV l) t) (hz : ∀ o ∈ l, o.2.size ≤ 140737488351232) : Opts w w.heap.size (some ⟨g, 0, none⟩) l.length l :=
  ⟨rfl, hz, fun _ => ⟨_, rfl, h.lt, fun j hj => by
    obtain ⟨v0, v1⟩ := optsV_at l j hj
    rw [add_zero_at]
    refine ⟨?_, ?_⟩
    · rw [h.at_, Nat.zero_add]; exact v0
    · show w.cell? ⟨g, 0 + j * 2 + 1, none⟩ = _
      rw [h.at_, Nat.zero_add]; exact v1⟩⟩
theorem getQ_is {s : List UInt8} {L : List Opt} {N E : Nat} (hg : got s = (L, N, E)) {w : World} {e : Ending} {w' : World} (h : GetQ s w e w') :
    ∃ A c, e = .returned (.tuple #[.slice A L.length c, .int .i64 N, .int .i64 E]) ∧ Opts w' w'.heap.size A L.length L ∧ Below w.heap.size w w' := by
  obtain ⟨A, c, he, hO, hb⟩ := h
  have h1 : gL s = L := by unfold gL; rw [hg]
  have h2 : gN s = N := by unfold gN; rw [hg]
  have h3 : gE s = E := by unfold gE; rw [hg]
  rw [h1] at hO
  rw [h1, h2, h3] at he
  exact ⟨A, c, he, hO, hb⟩

/-- The examples' row. -/
def ex : List Opt := [(1, ⟨#[97, 98]⟩), (7, ⟨#[]⟩)]
theorem ex_enc : pE ex = 0 ∧ pA ex = [1, 4, 97, 98, 7, 2] := by decide +kernel
theorem ex_got1 : got [1, 4, 97, 98, 7, 2] = (ex, 6, 0) := by
  have h := got_enc ex_enc.1
  rw [ex_enc.2] at h
  exact h
theorem ex_got2 : got [1, 4, 97] = ([], 0, 6) := by
  unfold got
  rw [if_neg (by decide), seq_bad (by decide) (by decide +kernel), fi, if_neg (by decide), if_pos (by decide +kernel)]
  exact congrArg (fun e => (([] : List Opt), 0, e)) (show (rd [1, 4, 97]).2 = 6 by decide +kernel)
theorem ex_got3 : got [7, 2, 1, 1] = ([], 2, 7) := by
  unfold got
  have h := seq_enc (7, ⟨#[]⟩) [1, 1] 0 (by decide)
  rw [show encO (7, ⟨#[]⟩) ++ [1, 1] = [7, 2, 1, 1] by decide +kernel, seq_bad (s := [1, 1]) (by decide) (by decide +kernel)] at h
  rw [if_neg (by decide), h, fi, if_neg (by decide), if_neg (by decide), fi, if_neg (by decide), if_pos (by decide +kernel)]
  exact congrArg (fun e => (([] : List Opt), 2, e)) (show (rd [1, 1]).2 = 7 by decide +kernel)
theorem ex_find : fA 7 ex = (7, ⟨#[]⟩) ∧ fB 7 ex = true ∧ wo 7 ex = [(1, ⟨#[97, 98]⟩)] := by decide +kernel
theorem ex_size : ∀ o ∈ ex, o.2.size ≤ 140737488351232 := by decide +kernel

/-- What 'alive' lays. -/
def ExIn (w : World) (g : Nat) : Prop := Blk w g (optsV ex) 32
theorem ExIn.callee {w w' : World} {g : Nat} (h : ExIn w g) (hb : Below w.heap.size w w') : ExIn w' g := Blk.callee h hb
theorem ExIn.opts {w : World} {g : Nat} (h : ExIn w g) : Opts w w.heap.size (some ⟨g, 0, none⟩) 2 ex := opts_blk h ex_size
theorem ex_put (w : World) (g : Nat) (h : ExIn w g) : Calls Try.prog 9 #[.slice (some ⟨g, 0, none⟩) 2 2] w fun e w' => e = .returned (.tuple #[.string ⟨#[1, 4, 97, 98, 7, 2]⟩, .int .i64 0]) ∧ Below w.heap.size w w' := by
  have h' := put_any ex w.heap.size _ 2 2 w h.opts (by decide) (Nat.le_refl _)
  rw [ex_enc.1, ex_enc.2] at h'
  exact h'
theorem ex_get1 (w : World) : Calls Try.prog 11 #[.string ⟨#[1, 4, 97, 98, 7, 2]⟩] w fun e w' => ∃ A c, e = .returned (.tuple #[.slice A 2 c, .int .i64 6, .int .i64 0]) ∧ Opts w' w'.heap.size A 2 ex ∧ Below w.heap.size w w' :=
  (get_any (bOf [1, 4, 97, 98, 7, 2]) w).mono fun e w' h => getQ_is (L := ex) (N := 6) (E := 0) (by rw [toList_bOf]; exact ex_got1) h
theorem ex_get2 (w : World) : Calls Try.prog 11 #[.string ⟨#[1, 4, 97]⟩] w fun e w' => ∃ A c, e = .returned (.tuple #[.slice A 0 c, .int .i64 0, .int .i64 6]) ∧ Opts w' w'.heap.size A 0 [] ∧ Below w.heap.size w w' :=
  (get_any (bOf [1, 4, 97]) w).mono fun e w' h => getQ_is (L := []) (N := 0) (E := 6) (by rw [toList_bOf]; exact ex_got2) h
theorem ex_get3 (w : World) : Calls Try.prog 11 #[.string ⟨#[7, 2, 1, 1]⟩] w fun e w' => ∃ A c, e = .returned (.tuple #[.slice A 0 c, .int .i64 2, .int .i64 7]) ∧ Opts w' w'.heap.size A 0 [] ∧ Below w.heap.size w w' :=
  (get_any (bOf [7, 2, 1, 1]) w).mono fun e w' h => getQ_is (L := []) (N := 2) (E := 7) (by rw [toList_bOf]; exact ex_got3) h
theorem ex_found (w : World) (g : Nat) (h : ExIn w g) : Calls Try.prog 13 #[.int .u8 7, .slice (some ⟨g, 0, none⟩) 2 2] w fun e w' => e = .returned (.tuple #[.agg #[.int .u8 7, .string ⟨#[]⟩], .bool true]) ∧ Below w.heap.size w w' := by
  have h' := find_any 7 ex w.heap.size _ 2 2 w h.opts (by decide) (Nat.le_refl _)
  rw [ex_find.1, ex_find.2.1] at h'
  exact h'
theorem ex_left (w : World) (g : Nat) (h : ExIn w g) : Calls Try.prog 16 #[.int .u8 7, .slice (some ⟨g, 0, none⟩) 2 2] w fun e w' => ∃ A c, e = .returned (.slice A 1 c) ∧ Below w.heap.size w w' := by
  have h' := without_any 7 ex w.heap.size _ 2 2 w h.opts (by decide) (Nat.le_refl _)
  rw [ex_find.2.2] at h'
  exact h'.mono fun e w' ⟨A, c, he, _, hb⟩ => ⟨A, c, he, hb⟩
theorem ex_alike (w : World) (g B : Nat) (A : Option Addr) (c : Nat) (h : ExIn w g) (hm : Opts w B A 2 ex) (hB : B ≤ w.heap.size) : Calls Try.prog 18 #[.slice A 2 c, .slice (some ⟨g, 0, none⟩) 2 2] w fun e w' => e = .returned (.bool true) ∧ Below w.heap.size w w' := by
  have h' := alike_any ex ex w.heap.size A _ 2 2 c 2 w (hm.more hB) h.opts (by decide) (by decide) (Nat.le_refl _)
  rw [sm_self] at h'
  exact h'

set_option maxHeartbeats 4000000 in
set_option maxRecDepth 100000 in
theorem alive_any (w : World) : Calls Try.prog 8 #[] w fun e w' => e = .returned (.bool true) ∧ Below w.heap.size w w' := by
  obtain ⟨W, hW, HW⟩ : ∃ W, w.alloc (.cells #[.int .u8 1, .string ⟨#[97, 98]⟩, .int .u8 7, .string ⟨#[]⟩] 32) = W ∧ Hid (ExIn W w.heap.size ∧ Below w.heap.size w W ∧ w.heap.size < W.heap.size) := ⟨_, rfl, blk_new w (optsV ex) _, (Below.refl w.heap.size w).alloc (Nat.le_refl _) _, by rw [World.size_alloc]; exact Nat.lt_succ_self _⟩
  go_enter Try.func8, Try.ntmps8
  go_wp2_with fail
  refine (ex_put W _ HW.out.1).mono ?_
  rintro e w1 ⟨rfl, hb1⟩
  clear hW
  have HE1 := Lib.hid (HW.out.1.callee hb1)
  have HB1 := Lib.hid (HW.out.2.1.trans (hb1.mono HW.out.2.1.size))
  have hg1 : w.heap.size < w1.heap.size := Nat.lt_of_lt_of_le HW.out.2.2 hb1.size
  clear hb1 HW
  go_wp2_with fail
  refine (ex_get1 w1).mono ?_
  rintro e w2 ⟨A2, c2, rfl, hO2, hb2⟩
  have HE2 := Lib.hid (HE1.out.callee hb2)
  have HB2 := Lib.hid (HB1.out.trans (hb2.mono HB1.out.size))
  have hg2 : w.heap.size < w2.heap.size := Nat.lt_of_lt_of_le hg1 hb2.size
  have HO2 := Lib.hid hO2
  clear hb2 HE1 HB1 hO2 hg1
  go_wp2_with fail
  refine (ex_get2 w2).mono ?_
  rintro e w3 ⟨A3, c3, rfl, _, hb3⟩
  have HE3 := Lib.hid (HE2.out.callee hb3)
  have HB3 := Lib.hid (HB2.out.trans (hb3.mono HB2.out.size))
  have HO3 := Lib.hid (HO2.out.below hb3)
  have hz3 := hb3.size
  clear hb3 HE2 HB2 HO2
  go_wp2_with fail
  refine (ex_get3 w3).mono ?_
  rintro e w4 ⟨A4, c4, rfl, _, hb4⟩
  have HE4 := Lib.hid (HE3.out.callee hb4)
  have HB4 := Lib.hid (HB3.out.trans (hb4.mono HB3.out.size))
  have HO4 := Lib.hid (HO3.out.callee hb4 hz3)
  have hz4 := Nat.le_trans hz3 hb4.size
  clear hb4 HE3 HB3 HO3 hz3
  go_wp2_with fail
  refine (ex_found w4 _ HE4.out).mono ?_
  rintro e w5 ⟨rfl, hb5⟩
  have HE5 := Lib.hid (HE4.out.callee hb5)
  have HB5 := Lib.hid (HB4.out.trans (hb5.mono HB4.out.size))
  have HO5 := Lib.hid (HO4.out.callee hb5 hz4)
  have hz5 := Nat.le_trans hz4 hb5.size
  clear hb5 HE4 HB4 HO4 hz4
  go_wp2
  obtain ⟨V, hV, HV⟩ : ∃ V, w5.alloc (.cells #[.int .u8 7, .string ⟨#[]⟩] 32) = V ∧ Hid (At V w5.heap.size (7, ⟨#[]⟩) ∧ Below w5.heap.size w5 V) := ⟨_, rfl, at_new w5 7 ⟨#[]⟩, (Below.refl _ _).alloc (Nat.le_refl _) _⟩
  rw [hV]
  clear hV
  have HE := Lib.hid (HE5.out.callee HV.out.2)
  have HB := Lib.hid (HB5.out.trans (HV.out.2.mono HB5.out.size))
  have HO := Lib.hid (HO5.out.callee HV.out.2 hz5)
  have hz := Nat.le_trans hz5 HV.out.2.size
  clear HE5 HB5 HO5 hz5
  have HBd := Lib.hid HB.out.drew
  have C1 := Lib.hid (ex_alike V.drew w.heap.size w2.heap.size A2 c2 HE.out HO.out hz)
  have x0 : V.drew.cell? ⟨w5.heap.size, 0, none⟩ = some (.int .u8 7) := HV.out.1.c0
  have x1 : V.drew.cell? ⟨w5.heap.size, 1, none⟩ = some (.string ⟨#[]⟩) := HV.out.1.c1
  have x2 : V.drew.cell? ⟨w.heap.size, 2, none⟩ = some (.int .u8 7) := Blk.at_ HE.out 2
  have x3 : V.drew.cell? ⟨w.heap.size, 3, none⟩ = some (.string ⟨#[]⟩) := Blk.at_ HE.out 3
  go_region_held3 (fun w' => w'.cell? ⟨w5.heap.size, 0, none⟩ = some (.int .u8 7) ∧ w'.cell? ⟨w5.heap.size, 1, none⟩ = some (.string ⟨#[]⟩) ∧ w'.cell? ⟨w.heap.size, 2, none⟩ = some (.int .u8 7) ∧ w'.cell? ⟨w.heap.size, 3, none⟩ = some (.string ⟨#[]⟩))
    (first | assumption | (refine ⟨?_, ?_, ?_, ?_⟩ <;> assumption) | (go_split_ands; refine ⟨?_, ?_, ?_, ?_⟩ <;> assumption))
    (first
      | (go_at_call 18; (refine (C1.out).mono ?_; clear C1; rintro e w6 ⟨rfl, hb6⟩; have HE6 := Lib.hid (ExIn.callee (w := V.drew) HE.out hb6); have HB6 := Lib.hid (HBd.out.trans (hb6.mono HBd.out.size)); have y0 : w6.cell? ⟨w5.heap.size, 0, none⟩ = some (.int .u8 7) := (At.callee (W := V.drew) HV.out.1 hb6).c0; have y1 : w6.cell? ⟨w5.heap.size, 1, none⟩ = some (.string ⟨#[]⟩) := (At.callee (W := V.drew) HV.out.1 hb6).c1; have y2 : w6.cell? ⟨w.heap.size, 2, none⟩ = some (.int .u8 7) := Blk.at_ HE6.out 2; have y3 : w6.cell? ⟨w.heap.size, 3, none⟩ = some (.string ⟨#[]⟩) := Blk.at_ HE6.out 3))
      | (go_at_call 16; (refine (ex_left w6 _ HE6.out).mono ?_; rintro e w7 ⟨A7, c7, rfl, hb7⟩; have HB7 := Lib.hid (HB6.out.trans (hb7.mono HB6.out.size)); have z0 : w7.cell? ⟨w5.heap.size, 0, none⟩ = some (.int .u8 7) := (hb7.cell (World.block_lt_of_cell? _ _ y0)).trans y0; have z1 : w7.cell? ⟨w5.heap.size, 1, none⟩ = some (.string ⟨#[]⟩) := (hb7.cell (World.block_lt_of_cell? _ _ y1)).trans y1; have z2 : w7.cell? ⟨w.heap.size, 2, none⟩ = some (.int .u8 7) := (hb7.cell (World.block_lt_of_cell? _ _ y2)).trans y2; have z3 : w7.cell? ⟨w.heap.size, 3, none⟩ = some (.string ⟨#[]⟩) := (hb7.cell (World.block_lt_of_cell? _ _ y3)).trans y3))
      | fail)
  go_wp2
  go_ret
  exact ⟨rfl, HB7.out⟩
end Go.Proofs.Ytbmifcfgpmgcpaa.Opt
