/- Put together: LcoK, LcoRw. -/
import Derived.Test.YtpppggicihfbgaaGreatGLcoC
import Derived.Test.YtpppggicihfbgaaGreatLcoG
import Derived.Laws.EntriesVeiled
import Derived.OwnWalk
import Derived.Maps.AppendAt
import Derived.Test.YtpppggicihfbgaaGreatGOpts
import Derived.Test.YtpppggicihfbgaaGreatGOptsApp

/- Contract of lcpopt's Get. -/
namespace Go.Proofs.YtpppggicihfbgaaGreat.Lco
open Go.RowKit Go.Proofs.YtpppggicihfbgaaGreat.Oct Go.Proofs.YtpppggicihfbgaaGreat.Row Go.Proofs.YtpppggicihfbgaaGreat.Mem Go.Proofs.YtpppggicihfbgaaGreat.Opt

set_option maxRecDepth 100000 in
theorem field0 (D R : Nat) (w : World) : (Instr.field 255 (.agg #[.func (.func D) #[] #[], .func (.func R) #[] #[]]) 0).run Tryz.prog w = .ok (.func (.func D) #[] #[]) w := by kernel_rfl
def GetQ (l : List Opt) (w : World) (e : Ending) (w' : World) : Prop := ∃ A c, e = .returned (.tuple #[.agg (lv (gL l)).toArray, .slice A (gO l).length c, .int .i64 (gE l)]) ∧ Opts w' w'.heap.size A (gO l).length (gO l) ∧ Below w.heap.size w w'
def Gos (g m : Nat) (w wr : World) (l : List Opt) (k : Nat) (x : Lcp) (odd : List Opt) (A : Option Addr) (n c : Nat) : Prop :=
  LAt wr g x ∧ Mp wr m ∧ wr.ownsRow g 177 2 (.slice A n c) n (optsV odd) ∧ n = odd.length ∧ n ≤ k ∧ st (l.take k) = some (x, odd) ∧ Below w.heap.size w wr
theorem Gos.callee {g m : Nat} {w wr W' : World} {l : List Opt} {k : Nat} {x : Lcp} {odd : List Opt} {A : Option Addr} {n c : Nat} (h : Gos g m w wr l k x odd A n c) (hb : Below wr.heap.size wr W') : Gos g m w W' l k x odd A n c :=
  ⟨h.1.callee hb, h.2.1.callee hb, (Moves.of_below (S := fun _ => False) hb).row h.2.2.1 (fun _ _ x => x), h.2.2.2.1, h.2.2.2.2.1, h.2.2.2.2.2.1, h.2.2.2.2.2.2.trans (hb.mono h.2.2.2.2.2.2.size)⟩
theorem row_not_map' {W : World} {m k base n : Nat} {v : Value} {xs : List Value} (h : Mp W m) (hr : W.ownsRow base 177 2 v n xs) (hk : v.ownBlock = some k) : ¬ m = k := by
  intro e
  subst e
  rcases hr.2 with ⟨rfl, _⟩ | ⟨g, cap, cur, rfl, _, hgb, _⟩
  · cases hk
  · obtain rfl : g = m := by simpa [Value.ownBlock] using hk
    rw [show W.heap[g]? = _ from h] at hgb; cases hgb
theorem mp_lat {W : World} {m : Nat} {x : Lcp} (h : Mp W m) (h2 : LAt W m x) : False := by
  have := (show W.heap[m]? = _ from h).symm.trans (show W.heap[m]? = _ from h2)
  cases this
theorem Gos.said {g m : Nat} {w wr : World} {l : List Opt} {k : Nat} {x y : Lcp} {odd : List Opt} {A : Option Addr} {n c : Nat} (h : Gos g m w wr l k x odd A n c) (hg : w.heap.size ≤ g) (hst : st (l.take (k + 1)) = some (y, odd)) : Gos g m w (setL wr g (lv y)) l (k + 1) y odd A n c := by
  obtain ⟨h1, h2, h3, h4, h5, h6, h7⟩ := h
  have hm := setL_moves wr g (lv y)
  refine ⟨setL_blk h1, h2.moves hm (fun e => ?_), hm.row h3 (fun k hk e => cells_not_row h1 (by decide) h3 (by rw [hk, e])), h4, by omega, hst, h7.trans (hm.below h7.size (fun k e => by subst e; exact hg))⟩
  subst e
  exact mp_lat h2 h1
theorem Gos.grown {g m n' c' : Nat} {w wr W' : World} {l : List Opt} {k : Nat} {x : Lcp} {odd : List Opt} {o : Opt} {A A' : Option Addr} {n c : Nat} (h : Gos g m w wr l k x odd A n c) (hw : w.heap.size ≤ g) (hst : st (l.take (k + 1)) = some (x, odd ++ [o]))
    (hg : wr.grownBy W' (Value.slice A n c).ownBlock) (hr : W'.ownsRow g 177 2 (.slice A' n' c') n' (optsV (odd ++ [o]))) (hn : n' = n + 1) : Gos g m w W' l (k + 1) x (odd ++ [o]) A' n' c' := by
  obtain ⟨h1, h2, h3, h4, h5, h6, h7⟩ := h
  have hm : Moves (fun k => (Value.slice A n c).ownBlock = some k) wr W' := Moves.of_grown hg (fun k e _ => e)
  refine ⟨Blk.moves h1 hm (fun e => cells_not_row h1 (by decide) h3 e), h2.moves hm (fun e => row_not_map' h2 h3 e rfl), hr, by rw [List.length_append, List.length_singleton]; omega, by omega, hst, h7.grown hg h7.size (fun k e => ?_)⟩
  exact Nat.le_trans hw (h3.lt k e).1
theorem st_take {l : List Opt} {k : Nat} {x : Lcp} {odd : List Opt} {o : Opt} (h : st (l.take k) = some (x, odd)) (ho : l[k]? = some o) : (good o = false → st (l.take (k + 1)) = some (x, odd ++ [o])) ∧ (good o = true → has o.1 x = false → st (l.take (k + 1)) = some (say x o, odd)) ∧ (good o = true → has o.1 x = true → st l = none) := by
  obtain ⟨hk, rfl⟩ := List.getElem?_eq_some_iff.1 ho
  have e : st (l.take (k + 1)) = step (some (x, odd)) l[k] := by rw [List.take_succ_eq_append_getElem hk, st_snoc, h]
  refine ⟨fun hg => ?_, fun hg hh => ?_, fun hg hh => st_cut (k := k + 1) ?_⟩
  · rw [e]; simp [step, hg]
  · rw [e]; simp [step, hg, hh]
  · rw [e]; simp [step, hg, hh]
theorem get_none {l : List Opt} (h : st l = none) : gL l = lz ∧ gO l = [] ∧ gE l = 9 := by unfold gL gO gE; rw [h]; exact ⟨rfl, rfl, rfl⟩
theorem get_some {l : List Opt} {x : Lcp} {odd : List Opt} (h : st l = some (x, odd)) : gL l = x ∧ gO l = odd ∧ gE l = 0 := by unfold gL gO gE; rw [h]; exact ⟨rfl, rfl, rfl⟩
theorem row_opts {w : World} {A : Option Addr} {base n c : Nat} {l : List Opt} (h : w.ownsRow base 177 2 (.slice A n c) n (optsV l)) (hz : ∀ o ∈ l, o.2.size ≤ 140737488351232) : Opts w w.heap.size A n l := by
  obtain ⟨A', c', e, ho⟩ := opts_own h hz
  cases e
  exact ho
theorem odds_mem {l : List Opt} {x : Lcp} {odd : List Opt} (h : st l = some (x, odd)) : ∀ o ∈ odd, o ∈ l := by
  intro o ho
  rw [(st_some h).2.1] at ho
  exact (List.mem_filter.1 ho).1
set_option maxHeartbeats 8000000 in
set_option maxRecDepth 100000 in
theorem get_any (l : List Opt) (B : Nat) (A0 : Option Addr) (n0 c0 : Nat) (w : World) (hl : Opts w B A0 n0 l) (hn : n0 ≤ 1000) (hBw : B ≤ w.heap.size) : Calls Tryz.prog 129 #[.slice A0 n0 c0] w (GetQ l w) := by
  obtain ⟨i0, hi, hz0, hz1, hz2⟩ := info_parts Tryz.info177
  have Hn := Lib.hid hl.1
  have Hl := Lib.hid hl; clear hl
  obtain ⟨W, hW, HW⟩ : ∃ W, w.alloc (.cells #[Value.bool false, .int .u16 0, .bool false, .int .u32 0, .int .u8 0, .bool false, .int .u32 0, .bool false, .bool false] 42) = W ∧ Hid (LAt W w.heap.size lz ∧ Below w.heap.size w W) := ⟨_, rfl, lat_new w lz, (Below.refl w.heap.size w).alloc (Nat.le_refl _) _⟩
  have HC1 := Lib.hid (fun w => meanings_m w)
  go_enter Tryz.func129, Tryz.ntmps129
  go_wp2_with fail
  refine (HC1.out _).mono ?_
  rintro e w1 ⟨m, rfl, hm1, hb1⟩
  have HS : Hid (Gos w.heap.size m w w1 l 0 lz [] none 0 0) := ⟨HW.out.1.callee hb1, hm1, World.ownsRow_nil _ _ _ _, rfl, Nat.le_refl _, rfl, HW.out.2.trans (hb1.mono HW.out.2.size)⟩
  clear hW hm1 hb1 HC1 HW
  go_wp2
  go_loopw [3, 15] (fun v i wr => ∃ (k : Nat) (x : Lcp) (odd : List Opt) (A : Option Addr) (n c : Nat), k ≤ n0 ∧ i = .int .i64 k ∧ v = .slice A n c ∧ Hid (Gos w.heap.size m w wr l k x odd A n c)) (fun _ i _ => n0 - (intOf i).toNat)
  case atStart => exact ⟨0, lz, [], none, 0, 0, Nat.zero_le _, rfl, rfl, HS⟩
  case round =>
    obtain ⟨k, x, odd, A, n, c, hk, rfl, rfl, HS⟩ := hrel
    by_cases hlt : k < n0
    · obtain ⟨ad, ⟨t, d⟩, rfl, hB, ho, hS1, hc0, hc1⟩ := (Hl.out.below (HS.out.2.2.2.2.2.2.mono hBw)).at_ hlt
      have hd : d.size ≤ maxLen := by unfold maxLen; exact Nat.le_trans hS1 (by omega)
      obtain ⟨V1, hV1, HV1⟩ : ∃ V1, wr.alloc (.cells #[.int .u8 t.toNat, .string d] 177) = V1 ∧ Hid (At V1 wr.heap.size (t, d) ∧ Below wr.heap.size wr V1) := ⟨_, rfl, at_new wr t d, (Below.refl _ _).alloc (Nat.le_refl _) _⟩
      have HS1 := Lib.hid (HS.out.callee HV1.out.2)
      have hst := st_take HS.out.2.2.2.2.2.1 ho
      have HA1 := Lib.hid HV1.out.1
      have x0 : V1.cell? ⟨w.heap.size, 0, none⟩ = some (Value.bool x.hm) := HS1.out.1.c 0
      have x1 : V1.cell? ⟨w.heap.size, 1, none⟩ = some (.int .u16 x.mru.toNat) := HS1.out.1.c 1
      have x2 : V1.cell? ⟨w.heap.size, 2, none⟩ = some (.bool x.ha) := HS1.out.1.c 2
      have x3 : V1.cell? ⟨w.heap.size, 3, none⟩ = some (.int .u32 x.accm.toNat) := HS1.out.1.c 3
      have x4 : V1.cell? ⟨w.heap.size, 4, none⟩ = some (.int .u8 x.auth.toNat) := HS1.out.1.c 4
      have x5 : V1.cell? ⟨w.heap.size, 5, none⟩ = some (.bool x.hg) := HS1.out.1.c 5
      have x6 : V1.cell? ⟨w.heap.size, 6, none⟩ = some (.int .u32 x.magic.toNat) := HS1.out.1.c 6
      have x7 : V1.cell? ⟨w.heap.size, 7, none⟩ = some (.bool x.pfc) := HS1.out.1.c 7
      have x8 : V1.cell? ⟨w.heap.size, 8, none⟩ = some (.bool x.acfc) := HS1.out.1.c 8
      have o0 : V1.cell? ⟨wr.heap.size, 0, none⟩ = some (.int .u8 t.toNat) := HA1.out.c0
      have o1 : V1.cell? ⟨wr.heap.size, 1, none⟩ = some (.string d) := HA1.out.c1
      have hnk := HS.out.2.2.2.2.1
      clear HV1 ho
      cases hgd : good (t, d)
      · have C2 : Hid (∀ W, Mp W m → Calls Tryz.prog 142 #[.agg #[Value.bool x.hm, .int .u16 x.mru.toNat, .bool x.ha, .int .u32 x.accm.toNat, .int .u8 x.auth.toNat, .bool x.hg, .int .u32 x.magic.toNat, .bool x.pfc, .bool x.acfc], .agg #[.int .u8 t.toNat, .string d], .map (some m)] W fun e w' => ∃ y, e = .returned (.tuple #[.agg (lv y).toArray, .bool false]) ∧ Below W.heap.size W w') := fun W h =>
          (add_any x t d m W h hd).mono fun e w' ⟨y, he, _, hb⟩ => ⟨y, by rw [hgd] at he; exact he, hb⟩
        have HST := Lib.hid (hst.1 hgd)
        clear hst hgd
        go_wp2_with fail
        refine (C2.out _ HS1.out.2.1).mono ?_
        rintro e w2 ⟨y, rfl, hb2⟩
        have HS2 := Lib.hid (HS1.out.callee hb2)
        have HA2 := Lib.hid (HA1.out.callee hb2)
        clear hb2 C2 hV1 HS1 HA1 HS x0 x1 x2 x3 x4 x5 x6 x7 x8 o0 o1 hc0 hc1
        unfold lv
        obtain ⟨V2, hV2, HV2⟩ : ∃ V2, w2.alloc (.cells #[Value.bool y.hm, .int .u16 y.mru.toNat, .bool y.ha, .int .u32 y.accm.toNat, .int .u8 y.auth.toNat, .bool y.hg, .int .u32 y.magic.toNat, .bool y.pfc, .bool y.acfc] 42) = V2 ∧ Hid (LAt V2 w2.heap.size y ∧ Below w2.heap.size w2 V2) := ⟨_, rfl, lat_new w2 y, (Below.refl _ _).alloc (Nat.le_refl _) _⟩
        have HS3 := Lib.hid (HS2.out.callee HV2.out.2)
        have HA3 := Lib.hid (HA2.out.callee HV2.out.2)
        have o0 : V2.cell? ⟨wr.heap.size, 0, none⟩ = some (.int .u8 t.toNat) := HA3.out.c0
        have o1 : V2.cell? ⟨wr.heap.size, 1, none⟩ = some (.string d) := HA3.out.c1
        have HO3 := Lib.hid HS3.out.2.2.1
        have HSz := HS3.out.2.2.2.2.2.2.size
        have HSA := Lib.hid (HS3.out.callee ((Below.refl _ V2).alloc (Nat.le_refl _) (.cells #[.int .u8 t.toNat, .string d] 177)))
        clear HS2 HA2 HV2 HA3
        go_wp2_with (at_builtin; refine wpList_append_own _ rfl _ _ 86 rfl w.heap.size 177 i0 _ 2 24 Tryz.underlying86 hi hz0 hz1 hz2 rfl (by decide) _ _ _ rfl (HO3.out.alloc _) ⟨V2.heap.size, 0, none⟩ 1 1 (optsV [(t, d)]) rfl rfl (by rw [optsV_one]; exact cells_new _ _ _) (optsV_ones _) (by unfold maxLen; omega) (by omega) (by simp; omega) ?_; intro v1 w4 hown1 hgr1 _; have Hown1 := Lib.hid hown1; have Hgr1 := Lib.hid hgr1; clear hown1 hgr1; obtain ⟨g1, cap1, rfl⟩ := ownsRow_succ Hown1.out)
        have HS4 : Hid (Gos w.heap.size m w w4 l (k + 1) x (odd ++ [(t, d)]) (some ⟨g1, 0, none⟩) (n + 1) cap1) := HSA.out.grown (Nat.le_refl _) HST.out Hgr1.out (by rw [optsV_append]; exact Hown1.out) rfl
        go_roundw
        case rel => exact ⟨k + 1, x, odd ++ [(t, d)], _, n + 1, _, by omega, by go_num, rfl, HS4⟩
        case measure => simp [intOf]; omega
      · have C2 : Hid (∀ W, Mp W m → Calls Tryz.prog 142 #[.agg #[Value.bool x.hm, .int .u16 x.mru.toNat, .bool x.ha, .int .u32 x.accm.toNat, .int .u8 x.auth.toNat, .bool x.hg, .int .u32 x.magic.toNat, .bool x.pfc, .bool x.acfc], .agg #[.int .u8 t.toNat, .string d], .map (some m)] W fun e w' => e = .returned (.tuple #[.agg (lv (say x (t, d))).toArray, .bool true]) ∧ Below W.heap.size W w') := fun W h =>
          (add_any x t d m W h hd).mono fun e w' ⟨y, he, hy, hb⟩ => ⟨by rw [hgd] at he; rw [he, hy hgd], hb⟩
        have ht : known t = true := good_known hgd
        have hst2 := hst.2.1 hgd
        have hst3 := hst.2.2 hgd
        clear hst hgd
        generalize say x (t, d) = y at *
        unfold lv at C2
        have hD := data_enters ht
        cases hh : has t x
        · have HST := Lib.hid (hst2 hh)
          have HD : Hid (∀ W, Calls Tryz.prog (fnD t) #[.agg #[Value.bool x.hm, .int .u16 x.mru.toNat, .bool x.ha, .int .u32 x.accm.toNat, .int .u8 x.auth.toNat, .bool x.hg, .int .u32 x.magic.toNat, .bool x.pfc, .bool x.acfc]] W fun e w' => e = .returned (.tuple #[.string (dat t x), .bool false]) ∧ Below W.heap.size W w') := fun W => by
            have := data_any ht x W
            unfold DataQ at this
            rw [hh] at this
            exact this
          clear hst2 hst3 hh
          go_wp2_with fail
          refine (C2.out _ HS1.out.2.1).mono ?_
          rintro e w2 ⟨rfl, hb2⟩
          have HS2 := Lib.hid (HS1.out.callee hb2)
          have HA2 := Lib.hid (HA1.out.callee hb2)
          clear hb2 C2 hV1 HS1 HA1 HS x0 x1 x2 x3 x4 x5 x6 x7 x8 o0 o1 hc0 hc1
          obtain ⟨V2, hV2, HV2⟩ : ∃ V2, w2.alloc (.cells #[Value.bool y.hm, .int .u16 y.mru.toNat, .bool y.ha, .int .u32 y.accm.toNat, .int .u8 y.auth.toNat, .bool y.hg, .int .u32 y.magic.toNat, .bool y.pfc, .bool y.acfc] 42) = V2 ∧ Hid (LAt V2 w2.heap.size y ∧ Below w2.heap.size w2 V2) := ⟨_, rfl, lat_new w2 y, (Below.refl _ _).alloc (Nat.le_refl _) _⟩
          have HS3 := Lib.hid (HS2.out.callee HV2.out.2)
          have HA3 := Lib.hid (HA2.out.callee HV2.out.2)
          have HY3 := Lib.hid HV2.out.1
          have hl := look_yes ht false HS3.out.2.1
          simp only [pair, Bool.false_eq_true, if_false] at hl
          have o0 : V2.cell? ⟨wr.heap.size, 0, none⟩ = some (.int .u8 t.toNat) := HA3.out.c0
          have x0 : V2.cell? ⟨w.heap.size, 0, none⟩ = some (Value.bool x.hm) := HS3.out.1.c 0
          have x1 : V2.cell? ⟨w.heap.size, 1, none⟩ = some (.int .u16 x.mru.toNat) := HS3.out.1.c 1
          have x2 : V2.cell? ⟨w.heap.size, 2, none⟩ = some (.bool x.ha) := HS3.out.1.c 2
          have x3 : V2.cell? ⟨w.heap.size, 3, none⟩ = some (.int .u32 x.accm.toNat) := HS3.out.1.c 3
          have x4 : V2.cell? ⟨w.heap.size, 4, none⟩ = some (.int .u8 x.auth.toNat) := HS3.out.1.c 4
          have x5 : V2.cell? ⟨w.heap.size, 5, none⟩ = some (.bool x.hg) := HS3.out.1.c 5
          have x6 : V2.cell? ⟨w.heap.size, 6, none⟩ = some (.int .u32 x.magic.toNat) := HS3.out.1.c 6
          have x7 : V2.cell? ⟨w.heap.size, 7, none⟩ = some (.bool x.pfc) := HS3.out.1.c 7
          have x8 : V2.cell? ⟨w.heap.size, 8, none⟩ = some (.bool x.acfc) := HS3.out.1.c 8
          clear HV2 HS2 HA2 HA3 ht
          generalize fnR t = R at *
          generalize fnD t = D at *
          generalize dat t x = s at *
          have hfl := field0 D R V2
          go_wp2_with fail
          refine (HD.out _).mono ?_
          rintro e w4 ⟨rfl, hb4⟩
          have HS4 := Lib.hid (HS3.out.callee hb4)
          have HY4 := Lib.hid (HY3.out.callee hb4)
          clear hb4 hV2 hl hfl HS3 HY3 x0 x1 x2 x3 x4 x5 x6 x7 x8 o0 HD hD
          have x0 : w4.cell? ⟨w.heap.size, 0, none⟩ = some (Value.bool x.hm) := HS4.out.1.c 0
          have x1 : w4.cell? ⟨w.heap.size, 1, none⟩ = some (.int .u16 x.mru.toNat) := HS4.out.1.c 1
          have x2 : w4.cell? ⟨w.heap.size, 2, none⟩ = some (.bool x.ha) := HS4.out.1.c 2
          have x3 : w4.cell? ⟨w.heap.size, 3, none⟩ = some (.int .u32 x.accm.toNat) := HS4.out.1.c 3
          have x4 : w4.cell? ⟨w.heap.size, 4, none⟩ = some (.int .u8 x.auth.toNat) := HS4.out.1.c 4
          have x5 : w4.cell? ⟨w.heap.size, 5, none⟩ = some (.bool x.hg) := HS4.out.1.c 5
          have x6 : w4.cell? ⟨w.heap.size, 6, none⟩ = some (.int .u32 x.magic.toNat) := HS4.out.1.c 6
          have x7 : w4.cell? ⟨w.heap.size, 7, none⟩ = some (.bool x.pfc) := HS4.out.1.c 7
          have x8 : w4.cell? ⟨w.heap.size, 8, none⟩ = some (.bool x.acfc) := HS4.out.1.c 8
          have f0 : w4.frozen? ⟨w.heap.size, 0, none⟩ = false := HS4.out.1.f 0
          have f1 : w4.frozen? ⟨w.heap.size, 1, none⟩ = false := HS4.out.1.f 1
          have f2 : w4.frozen? ⟨w.heap.size, 2, none⟩ = false := HS4.out.1.f 2
          have f3 : w4.frozen? ⟨w.heap.size, 3, none⟩ = false := HS4.out.1.f 3
          have f4 : w4.frozen? ⟨w.heap.size, 4, none⟩ = false := HS4.out.1.f 4
          have f5 : w4.frozen? ⟨w.heap.size, 5, none⟩ = false := HS4.out.1.f 5
          have f6 : w4.frozen? ⟨w.heap.size, 6, none⟩ = false := HS4.out.1.f 6
          have f7 : w4.frozen? ⟨w.heap.size, 7, none⟩ = false := HS4.out.1.f 7
          have f8 : w4.frozen? ⟨w.heap.size, 8, none⟩ = false := HS4.out.1.f 8
          have y0 : w4.cell? ⟨w2.heap.size, 0, none⟩ = some (Value.bool y.hm) := HY4.out.c 0
          have y1 : w4.cell? ⟨w2.heap.size, 1, none⟩ = some (.int .u16 y.mru.toNat) := HY4.out.c 1
          have y2 : w4.cell? ⟨w2.heap.size, 2, none⟩ = some (.bool y.ha) := HY4.out.c 2
          have y3 : w4.cell? ⟨w2.heap.size, 3, none⟩ = some (.int .u32 y.accm.toNat) := HY4.out.c 3
          have y4 : w4.cell? ⟨w2.heap.size, 4, none⟩ = some (.int .u8 y.auth.toNat) := HY4.out.c 4
          have y5 : w4.cell? ⟨w2.heap.size, 5, none⟩ = some (.bool y.hg) := HY4.out.c 5
          have y6 : w4.cell? ⟨w2.heap.size, 6, none⟩ = some (.int .u32 y.magic.toNat) := HY4.out.c 6
          have y7 : w4.cell? ⟨w2.heap.size, 7, none⟩ = some (.bool y.pfc) := HY4.out.c 7
          have y8 : w4.cell? ⟨w2.heap.size, 8, none⟩ = some (.bool y.acfc) := HY4.out.c 8
          go_wp2
          have HS5 : Hid (Gos w.heap.size m w (setL w4 w.heap.size (lv y)) l (k + 1) y odd A n c) := HS4.out.said (Nat.le_refl _) HST.out
          go_roundw
          case rel => exact ⟨k + 1, y, odd, A, n, c, by omega, by go_num, rfl, HS5⟩
          case measure => simp [intOf]; omega
        · have HST := Lib.hid (get_none (hst3 hh))
          have HD : Hid (∀ W, Calls Tryz.prog (fnD t) #[.agg #[Value.bool x.hm, .int .u16 x.mru.toNat, .bool x.ha, .int .u32 x.accm.toNat, .int .u8 x.auth.toNat, .bool x.hg, .int .u32 x.magic.toNat, .bool x.pfc, .bool x.acfc]] W fun e w' => e = .returned (.tuple #[.string (dat t x), .bool true]) ∧ Below W.heap.size W w') := fun W => by
            have := data_any ht x W
            unfold DataQ at this
            rw [hh] at this
            exact this
          clear hst2 hst3 hh
          go_wp2_with fail
          refine (C2.out _ HS1.out.2.1).mono ?_
          rintro e w2 ⟨rfl, hb2⟩
          have HS2 := Lib.hid (HS1.out.callee hb2)
          have HA2 := Lib.hid (HA1.out.callee hb2)
          clear hb2 C2 hV1 HS1 HA1 HS x0 x1 x2 x3 x4 x5 x6 x7 x8 o0 o1 hc0 hc1
          obtain ⟨V2, hV2, HV2⟩ : ∃ V2, w2.alloc (.cells #[Value.bool y.hm, .int .u16 y.mru.toNat, .bool y.ha, .int .u32 y.accm.toNat, .int .u8 y.auth.toNat, .bool y.hg, .int .u32 y.magic.toNat, .bool y.pfc, .bool y.acfc] 42) = V2 ∧ Hid (LAt V2 w2.heap.size y ∧ Below w2.heap.size w2 V2) := ⟨_, rfl, lat_new w2 y, (Below.refl _ _).alloc (Nat.le_refl _) _⟩
          have HS3 := Lib.hid (HS2.out.callee HV2.out.2)
          have HA3 := Lib.hid (HA2.out.callee HV2.out.2)
          have hl := look_yes ht false HS3.out.2.1
          simp only [pair, Bool.false_eq_true, if_false] at hl
          have o0 : V2.cell? ⟨wr.heap.size, 0, none⟩ = some (.int .u8 t.toNat) := HA3.out.c0
          have x0 : V2.cell? ⟨w.heap.size, 0, none⟩ = some (Value.bool x.hm) := HS3.out.1.c 0
          have x1 : V2.cell? ⟨w.heap.size, 1, none⟩ = some (.int .u16 x.mru.toNat) := HS3.out.1.c 1
          have x2 : V2.cell? ⟨w.heap.size, 2, none⟩ = some (.bool x.ha) := HS3.out.1.c 2
          have x3 : V2.cell? ⟨w.heap.size, 3, none⟩ = some (.int .u32 x.accm.toNat) := HS3.out.1.c 3
          have x4 : V2.cell? ⟨w.heap.size, 4, none⟩ = some (.int .u8 x.auth.toNat) := HS3.out.1.c 4
          have x5 : V2.cell? ⟨w.heap.size, 5, none⟩ = some (.bool x.hg) := HS3.out.1.c 5
          have x6 : V2.cell? ⟨w.heap.size, 6, none⟩ = some (.int .u32 x.magic.toNat) := HS3.out.1.c 6
          have x7 : V2.cell? ⟨w.heap.size, 7, none⟩ = some (.bool x.pfc) := HS3.out.1.c 7
          have x8 : V2.cell? ⟨w.heap.size, 8, none⟩ = some (.bool x.acfc) := HS3.out.1.c 8
          clear HV2 HS2 HA2 HA3 ht
          generalize fnR t = R at *
          generalize fnD t = D at *
          generalize dat t x = s at *
          have hfl := field0 D R V2
          go_wp2_with fail
          refine (HD.out _).mono ?_
          rintro e w4 ⟨rfl, hb4⟩
          have HS4 := Lib.hid (HS3.out.callee hb4)
          clear hb4 hV2 hl hfl HS3 x0 x1 x2 x3 x4 x5 x6 x7 x8 o0 HD hD
          have x0 : w4.cell? ⟨w.heap.size, 0, none⟩ = some (Value.bool x.hm) := HS4.out.1.c 0
          have x1 : w4.cell? ⟨w.heap.size, 1, none⟩ = some (.int .u16 x.mru.toNat) := HS4.out.1.c 1
          have x2 : w4.cell? ⟨w.heap.size, 2, none⟩ = some (.bool x.ha) := HS4.out.1.c 2
          have x3 : w4.cell? ⟨w.heap.size, 3, none⟩ = some (.int .u32 x.accm.toNat) := HS4.out.1.c 3
          have x4 : w4.cell? ⟨w.heap.size, 4, none⟩ = some (.int .u8 x.auth.toNat) := HS4.out.1.c 4
          have x5 : w4.cell? ⟨w.heap.size, 5, none⟩ = some (.bool x.hg) := HS4.out.1.c 5
          have x6 : w4.cell? ⟨w.heap.size, 6, none⟩ = some (.int .u32 x.magic.toNat) := HS4.out.1.c 6
          have x7 : w4.cell? ⟨w.heap.size, 7, none⟩ = some (.bool x.pfc) := HS4.out.1.c 7
          have x8 : w4.cell? ⟨w.heap.size, 8, none⟩ = some (.bool x.acfc) := HS4.out.1.c 8
          have f0 : w4.frozen? ⟨w.heap.size, 0, none⟩ = false := HS4.out.1.f 0
          have f1 : w4.frozen? ⟨w.heap.size, 1, none⟩ = false := HS4.out.1.f 1
          have f2 : w4.frozen? ⟨w.heap.size, 2, none⟩ = false := HS4.out.1.f 2
          have f3 : w4.frozen? ⟨w.heap.size, 3, none⟩ = false := HS4.out.1.f 3
          have f4 : w4.frozen? ⟨w.heap.size, 4, none⟩ = false := HS4.out.1.f 4
          have f5 : w4.frozen? ⟨w.heap.size, 5, none⟩ = false := HS4.out.1.f 5
          have f6 : w4.frozen? ⟨w.heap.size, 6, none⟩ = false := HS4.out.1.f 6
          have f7 : w4.frozen? ⟨w.heap.size, 7, none⟩ = false := HS4.out.1.f 7
          have f8 : w4.frozen? ⟨w.heap.size, 8, none⟩ = false := HS4.out.1.f 8
          go_wp2
          have HR := setL_blk (y := lz) HS4.out.1
          have HBe := setL_below HS4.out.2.2.2.2.2.2 HS4.out.2.2.2.2.2.2.size (g := w.heap.size) (Nat.le_refl _) (lv lz)
          (try simp only [Exit.inBlock, Exit.then])
          refine bodyPost_ret (results_row2 rfl _ _ w.heap.size (lv lz) _ _ rfl HR Tryz.underlying42 rfl (by kernel_rfl)) rfl ?_
          unfold GetQ
          rw [HST.out.1, HST.out.2.1, HST.out.2.2]
          exact ⟨none, 0, rfl, opts_nil _ _, HBe⟩
    · obtain rfl : k = n0 := by omega
      have HST : Hid (st l = some (x, odd)) := by
        have h := HS.out.2.2.2.2.2.1
        rw [List.take_of_length_le (by rw [Hn.out]; exact Nat.le_refl _)] at h
        exact h
      have HGS := Lib.hid (get_some HST.out)
      have x0 : wr.cell? ⟨w.heap.size, 0, none⟩ = some (Value.bool x.hm) := HS.out.1.c 0
      have x1 : wr.cell? ⟨w.heap.size, 1, none⟩ = some (.int .u16 x.mru.toNat) := HS.out.1.c 1
      have x2 : wr.cell? ⟨w.heap.size, 2, none⟩ = some (.bool x.ha) := HS.out.1.c 2
      have x3 : wr.cell? ⟨w.heap.size, 3, none⟩ = some (.int .u32 x.accm.toNat) := HS.out.1.c 3
      have x4 : wr.cell? ⟨w.heap.size, 4, none⟩ = some (.int .u8 x.auth.toNat) := HS.out.1.c 4
      have x5 : wr.cell? ⟨w.heap.size, 5, none⟩ = some (.bool x.hg) := HS.out.1.c 5
      have x6 : wr.cell? ⟨w.heap.size, 6, none⟩ = some (.int .u32 x.magic.toNat) := HS.out.1.c 6
      have x7 : wr.cell? ⟨w.heap.size, 7, none⟩ = some (.bool x.pfc) := HS.out.1.c 7
      have x8 : wr.cell? ⟨w.heap.size, 8, none⟩ = some (.bool x.acfc) := HS.out.1.c 8
      have f0 : wr.frozen? ⟨w.heap.size, 0, none⟩ = false := HS.out.1.f 0
      have f1 : wr.frozen? ⟨w.heap.size, 1, none⟩ = false := HS.out.1.f 1
      have f2 : wr.frozen? ⟨w.heap.size, 2, none⟩ = false := HS.out.1.f 2
      have f3 : wr.frozen? ⟨w.heap.size, 3, none⟩ = false := HS.out.1.f 3
      have f4 : wr.frozen? ⟨w.heap.size, 4, none⟩ = false := HS.out.1.f 4
      have f5 : wr.frozen? ⟨w.heap.size, 5, none⟩ = false := HS.out.1.f 5
      have f6 : wr.frozen? ⟨w.heap.size, 6, none⟩ = false := HS.out.1.f 6
      have f7 : wr.frozen? ⟨w.heap.size, 7, none⟩ = false := HS.out.1.f 7
      have f8 : wr.frozen? ⟨w.heap.size, 8, none⟩ = false := HS.out.1.f 8
      go_wp2
      have HR := setL_blk (y := x) HS.out.1
      have HM := setL_moves wr w.heap.size (lv x)
      have HBe := setL_below HS.out.2.2.2.2.2.2 HS.out.2.2.2.2.2.2.size (g := w.heap.size) (Nat.le_refl _) (lv x)
      (try simp only [Exit.inBlock, Exit.then])
      refine bodyPost_ret (results_row2 rfl _ _ w.heap.size (lv x) _ _ rfl HR Tryz.underlying42 rfl (by kernel_rfl)) rfl ?_
      unfold GetQ
      rw [HGS.out.1, HGS.out.2.1, HGS.out.2.2]
      refine ⟨A, c, by rw [← HS.out.2.2.2.1]; rfl, ?_, HBe⟩
      have hr := HM.row HS.out.2.2.1 (fun k hk e => cells_not_row HS.out.1 (by decide) HS.out.2.2.1 (by rw [hk, e]))
      rw [← HS.out.2.2.2.1]
      exact row_opts hr (fun o ho => Hl.out.2.1 o (odds_mem HST.out o ho))
end Go.Proofs.YtpppggicihfbgaaGreat.Lco

/- The contracts of Get, Same, Long by rows. -/
namespace Go.Proofs.YtpppggicihfbgaaGreat.Lco
open Go.RowKit Go.Proofs.YtpppggicihfbgaaGreat.Oct Go.Proofs.YtpppggicihfbgaaGreat.Row Go.Proofs.YtpppggicihfbgaaGreat.Mem Go.Proofs.YtpppggicihfbgaaGreat.Opt

theorem get_row (l : List Opt) (A : Option Addr) (n c : Nat) (w : World) (hl : Opts w w.heap.size A n l) (hn : n ≤ 1000) : Calls Tryz.prog 129 #[.slice A n c] w (GetQ l w) := get_any l _ A n c w hl hn (Nat.le_refl _)
theorem one_opt (w : World) (o : Opt) (hz : o.2.size ≤ 140737488351232) : Opts (w.alloc (.cells #[.int .u8 o.1.toNat, .string o.2] 177)) (w.alloc (.cells #[.int .u8 o.1.toNat, .string o.2] 177)).heap.size (some ⟨w.heap.size, 0, none⟩) 1 [o] := by
  refine ⟨rfl, fun p hp => by rw [List.mem_singleton] at hp; rw [hp]; exact hz, fun _ => ⟨_, rfl, by simp, fun j hj => ?_⟩⟩
  obtain rfl : j = 0 := by simp at hj; omega
  have h := at_new w o.1 o.2
  exact ⟨h.c0, h.c1⟩
def GetC (y : Lcp) (odd : List Opt) (E : Nat) (w : World) (e : Ending) (w' : World) : Prop := ∃ A c, e = .returned (.tuple #[.agg #[Value.bool y.hm, .int .u16 y.mru.toNat, .bool y.ha, .int .u32 y.accm.toNat, .int .u8 y.auth.toNat, .bool y.hg, .int .u32 y.magic.toNat, .bool y.pfc, .bool y.acfc], .slice A odd.length c, .int .i64 E]) ∧ Opts w' w'.heap.size A odd.length odd ∧ Below w.heap.size w w'
theorem get_c (l : List Opt) (A : Option Addr) (n c : Nat) (w : World) (hl : Opts w w.heap.size A n l) (hn : n ≤ 1000) : Calls Tryz.prog 129 #[.slice A n c] w (GetC (gL l) (gO l) (gE l) w) := get_row l A n c w hl hn
end Go.Proofs.YtpppggicihfbgaaGreat.Lco
