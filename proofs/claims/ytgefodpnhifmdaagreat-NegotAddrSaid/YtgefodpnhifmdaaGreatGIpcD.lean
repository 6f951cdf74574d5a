/- Put together: IpcD, IpcGr. -/
import Derived.Test.YtgefodpnhifmdaaGreatGIppN
import Derived.Deep.DeepCutAuto

/- Contract of ipcpopt's Get. -/
namespace Go.Proofs.YtgefodpnhifmdaaGreat.Ipc
open Go.RowKit Go.Proofs.YtgefodpnhifmdaaGreat.Oct Go.Proofs.YtgefodpnhifmdaaGreat.Row Go.Proofs.YtgefodpnhifmdaaGreat.Mem Go.Proofs.YtgefodpnhifmdaaGreat.Opt

/-- What Get answers. -/
def GetQ (l : List Opt) (w : World) (e : Ending) (w' : World) : Prop := ∃ A c, e = .returned (.tuple #[.agg (lv (gL l)).toArray, .slice A (gO l).length c, .int .i64 (gE l)]) ∧ Opts w' w'.heap.size A (gO l).length (gO l) ∧ Below w.heap.size w w'
/-- What stands while the options are gone over: x is said, odd are the others. -/
def Gos (g : Nat) (w wr : World) (l : List Opt) (k : Nat) (x : Ipc) (odd : List Opt) (A : Option Addr) (n c : Nat) : Prop :=
  LAt wr g x ∧ wr.ownsRow g 157 2 (.slice A n c) n (optsV odd) ∧ n = odd.length ∧ n ≤ k ∧ st (l.take k) = some (x, odd) ∧ Below w.heap.size w wr
theorem Gos.callee {g : Nat} {w wr W' : World} {l : List Opt} {k : Nat} {x : Ipc} {odd : List Opt} {A : Option Addr} {n c : Nat} (h : Gos g w wr l k x odd A n c) (hb : Below wr.heap.size wr W') : Gos g w W' l k x odd A n c :=
  ⟨h.1.callee hb, (Moves.of_below (S := fun _ => False) hb).row h.2.1 (fun _ _ x => x), h.2.2.1, h.2.2.2.1, h.2.2.2.2.1, h.2.2.2.2.2.trans (hb.mono h.2.2.2.2.2.size)⟩
/-- What is said is laid over what was. -/
theorem Gos.said {g : Nat} {w wr : World} {l : List Opt} {k : Nat} {x y : Ipc} {odd : List Opt} {A : Option Addr} {n c : Nat} (h : Gos g w wr l k x odd A n c) (hg : w.heap.size ≤ g) (hst : st (l.take (k + 1)) = some (y, odd)) : Gos g w (setL wr g (lv y)) l (k + 1) y odd A n c := by
  obtain ⟨h1, h3, h4, h5, h6, h7⟩ := h
  have hm := setL_moves wr g (lv y)
  exact ⟨setL_blk h1, hm.row h3 (fun k hk e => cells_not_row h1 (by decide) h3 (by rw [hk, e])), h4, by omega, hst, h7.trans (hm.below h7.size (fun k e => by subst e; exact hg))⟩
/-- An odd one more. -/
theorem Gos.grown {g n' c' : Nat} {w wr W' : World} {l : List Opt} {k : Nat} {x : Ipc} {odd : List Opt} {o : Opt} {A A' : Option Addr} {n c : Nat} (h : Gos g w wr l k x odd A n c) (hw : w.heap.size ≤ g) (hst : st (l.take (k + 1)) = some (x, odd ++ [o]))
    (hg : wr.grownBy W' (Value.slice A n c).ownBlock) (hr : W'.ownsRow g 157 2 (.slice A' n' c') n' (optsV (odd ++ [o]))) (hn : n' = n + 1) : Gos g w W' l (k + 1) x (odd ++ [o]) A' n' c' := by
  obtain ⟨h1, h3, h4, h5, h6, h7⟩ := h
  have hm : Moves (fun k => (Value.slice A n c).ownBlock = some k) wr W' := Moves.of_grown hg (fun k e _ => e)
  refine ⟨Blk.moves h1 hm (fun e => cells_not_row h1 (by decide) h3 e), hr, by rw [List.length_append, List.length_singleton]; omega, by omega, hst, h7.grown hg h7.size (fun k e => ?_)⟩
  exact Nat.le_trans hw (h3.lt k e).1
theorem st_take {l : List Opt} {k : Nat} {x : Ipc} {odd : List Opt} {o : Opt} (h : st (l.take k) = some (x, odd)) (ho : l[k]? = some o) : (good o = false → st (l.take (k + 1)) = some (x, odd ++ [o])) ∧ (good o = true → has o.1 x = false → st (l.take (k + 1)) = some (say x o, odd)) ∧ (good o = true → has o.1 x = true → st l = none) := by
  obtain ⟨hk, rfl⟩ := List.getElem?_eq_some_iff.1 ho
  have e : st (l.take (k + 1)) = step (some (x, odd)) l[k] := by rw [List.take_succ_eq_append_getElem hk, st_snoc, h]
  refine ⟨fun hg => ?_, fun hg hh => ?_, fun hg hh => st_cut (k := k + 1) ?_⟩
  · rw [e]; simp [step, hg]
  · rw [e]; simp [step, hg, hh]
  · rw [e]; simp [step, hg, hh]
theorem get_none {l : List Opt} (h : st l = none) : gL l = lz ∧ gO l = [] ∧ gE l = 9 := by unfold gL gO gE; rw [h]; exact ⟨rfl, rfl, rfl⟩
theorem get_some {l : List Opt} {x : Ipc} {odd : List Opt} (h : st l = some (x, odd)) : gL l = x ∧ gO l = odd ∧ gE l = 0 := by unfold gL gO gE; rw [h]; exact ⟨rfl, rfl, rfl⟩
theorem row_opts {w : World} {A : Option Addr} {base n c : Nat} {l : List Opt} (h : w.ownsRow base 157 2 (.slice A n c) n (optsV l)) (hz : ∀ o ∈ l, o.2.size ≤ 140737488351232) : Opts w w.heap.size A n l := by
  obtain ⟨A', c', e, ho⟩ := opts_own h hz
  cases e
  exact ho
theorem odds_mem {l : List Opt} {x : Ipc} {odd : List Opt} (h : st l = some (x, odd)) : ∀ o ∈ odd, o ∈ l := by
  intro o ho
  rw [(st_some h).2.1] at ho
  exact (List.mem_filter.1 ho).1
set_option maxHeartbeats 8000000 in
set_option maxRecDepth 100000 in
theorem get_any (l : List Opt) (B : Nat) (A0 : Option Addr) (n0 c0 : Nat) (w : World) (hl : Opts w B A0 n0 l) (hn : n0 ≤ 1001) (hBw : B ≤ w.heap.size) : Calls Tryz.prog 120 #[.slice A0 n0 c0] w (GetQ l w) := by
  obtain ⟨i0, hi, hz0, hz1, hz2⟩ := info_parts Tryz.info157
  have Hn := Lib.hid hl.1
  have Hl := Lib.hid hl; clear hl
  obtain ⟨W, hW, HW⟩ : ∃ W, w.alloc (.cells #[Value.bool false, .int .u32 0, .bool false, .int .u32 0, .bool false, .int .u32 0] 40) = W ∧ Hid (LAt W w.heap.size lz ∧ Below w.heap.size w W) := ⟨_, rfl, lat_new w lz, (Below.refl w.heap.size w).alloc (Nat.le_refl _) _⟩
  have HS : Hid (Gos w.heap.size w W l 0 lz [] none 0 0) := ⟨HW.out.1, World.ownsRow_nil _ _ _ _, rfl, Nat.le_refl _, rfl, HW.out.2⟩
  clear HW
  go_enter Tryz.func120, Tryz.ntmps120
  go_wp2
  clear hW
  go_loopw [3, 14] (fun v i wr => ∃ (k : Nat) (x : Ipc) (odd : List Opt) (A : Option Addr) (n c : Nat), k ≤ n0 ∧ i = .int .i64 k ∧ v = .slice A n c ∧ Hid (Gos w.heap.size w wr l k x odd A n c)) (fun _ i _ => n0 - (intOf i).toNat)
  case atStart => exact ⟨0, lz, [], none, 0, 0, Nat.zero_le _, rfl, rfl, HS⟩
  case round =>
    obtain ⟨k, x, odd, A, n, c, hk, rfl, rfl, HS⟩ := hrel
    by_cases hlt : k < n0
    · obtain ⟨ad, ⟨t, d⟩, rfl, hB, ho, hS1, hc0, hc1⟩ := (Hl.out.below (HS.out.2.2.2.2.2.mono hBw)).at_ hlt
      have hd : d.size ≤ maxLen := by unfold maxLen; exact Nat.le_trans hS1 (by omega)
      obtain ⟨V1, hV1, HV1⟩ : ∃ V1, wr.alloc (.cells #[.int .u8 t.toNat, .string d] 157) = V1 ∧ Hid (At V1 wr.heap.size (t, d) ∧ Below wr.heap.size wr V1) := ⟨_, rfl, at_new wr t d, (Below.refl _ _).alloc (Nat.le_refl _) _⟩
      have HS1 := Lib.hid (HS.out.callee HV1.out.2)
      have hst := st_take HS.out.2.2.2.2.1 ho
      have HA1 := Lib.hid HV1.out.1
      have o0 : V1.cell? ⟨wr.heap.size, 0, none⟩ = some (.int .u8 t.toNat) := HA1.out.c0
      have o1 : V1.cell? ⟨wr.heap.size, 1, none⟩ = some (.string d) := HA1.out.c1
      have hnk := HS.out.2.2.2.1
      have C1 : Hid (∀ W, Calls Tryz.prog 130 #[.agg #[.int .u8 t.toNat, .string d]] W (ReadQ (t, d) W)) := fun W => read_opt t d W hd
      clear HV1 ho
      go_wp2_with fail
      refine (C1.out _).mono ?_
      rintro e w2 ⟨M, a, rfl, hM, hb2⟩
      have HS2 := Lib.hid (HS1.out.callee hb2)
      have HA2 := Lib.hid (HA1.out.callee hb2)
      clear hb2 C1 hV1 HS1 HA1 HS o0 o1 hc0 hc1
      cases hgd : good (t, d)
      · have HST := Lib.hid (hst.1 hgd)
        clear hst
        rcases hM with ⟨q, hq, -, rfl, -⟩ | ⟨rfl, -⟩
        · unfold mV
          generalize fS q = S at *
          generalize fW q = R at *
          generalize (kd q).toNat = kq at *
          have HS3 := Lib.hid (HS2.out.callee ((Below.refl _ w2).alloc (Nat.le_refl _) (.cells #[.int .u8 kq, .func (.func S) #[] #[], .func (.func R) #[] #[]] 227)))
          have HA3 := Lib.hid (HA2.out.callee ((Below.refl _ w2).alloc (Nat.le_refl _) (.cells #[.int .u8 kq, .func (.func S) #[] #[], .func (.func R) #[] #[]] 227)))
          obtain ⟨V2, hV2⟩ : ∃ V2, w2.alloc (.cells #[.int .u8 kq, .func (.func S) #[] #[], .func (.func R) #[] #[]] 227) = V2 := ⟨_, rfl⟩
          rw [hV2] at HS3 HA3
          have o0 : V2.cell? ⟨wr.heap.size, 0, none⟩ = some (.int .u8 t.toNat) := HA3.out.c0
          have o1 : V2.cell? ⟨wr.heap.size, 1, none⟩ = some (.string d) := HA3.out.c1
          have HO3 := Lib.hid HS3.out.2.1
          have HSz := HS3.out.2.2.2.2.2.size
          have HSA := Lib.hid (HS3.out.callee ((Below.refl _ V2).alloc (Nat.le_refl _) (.cells #[.int .u8 t.toNat, .string d] 157)))
          clear HS2 HA2 HA3
          clear hgd
          go_wp2_with (at_builtin; refine wpList_append_own _ rfl _ _ 76 rfl w.heap.size 157 i0 _ 2 24 Tryz.underlying76 hi hz0 hz1 hz2 rfl (by decide) _ _ _ rfl (HO3.out.alloc _) ⟨V2.heap.size, 0, none⟩ 1 1 (optsV [(t, d)]) rfl rfl (by rw [optsV_one]; exact cells_new _ _ _) (optsV_ones _) (by unfold maxLen; omega) (by omega) (by simp; omega) ?_; intro v1 w4 hown1 hgr1 _; have Hown1 := Lib.hid hown1; have Hgr1 := Lib.hid hgr1; clear hown1 hgr1; obtain ⟨g1, cap1, rfl⟩ := ownsRow_succ Hown1.out)
          have HS4 : Hid (Gos w.heap.size w w4 l (k + 1) x (odd ++ [(t, d)]) (some ⟨g1, 0, none⟩) (n + 1) cap1) := HSA.out.grown (Nat.le_refl _) HST.out Hgr1.out (by rw [optsV_append]; exact Hown1.out) rfl
          go_roundw
          case rel => exact ⟨k + 1, x, odd ++ [(t, d)], _, n + 1, _, by omega, by go_num, rfl, HS4⟩
          case measure => simp [intOf]; omega
        · unfold mZ
          have HS3 := Lib.hid (HS2.out.callee ((Below.refl _ w2).alloc (Nat.le_refl _) (.cells #[.int .u8 0, .nilFunc, .nilFunc] 227)))
          have HA3 := Lib.hid (HA2.out.callee ((Below.refl _ w2).alloc (Nat.le_refl _) (.cells #[.int .u8 0, .nilFunc, .nilFunc] 227)))
          clear hgd
          go_upto_region 6 with fail
          generalize (w2.alloc (.cells #[.int .u8 0, .nilFunc, .nilFunc] 227)) = V2 at *
          have o0 : V2.cell? ⟨wr.heap.size, 0, none⟩ = some (.int .u8 t.toNat) := HA3.out.c0
          have o1 : V2.cell? ⟨wr.heap.size, 1, none⟩ = some (.string d) := HA3.out.c1
          have HO3 := Lib.hid HS3.out.2.1
          have HSz := HS3.out.2.2.2.2.2.size
          have HSA := Lib.hid (HS3.out.callee ((Below.refl _ V2).alloc (Nat.le_refl _) (.cells #[.int .u8 t.toNat, .string d] 157)))
          clear HS2 HA2 HA3
          go_wp2_with (at_builtin; refine wpList_append_own _ rfl _ _ 76 rfl w.heap.size 157 i0 _ 2 24 Tryz.underlying76 hi hz0 hz1 hz2 rfl (by decide) _ _ _ rfl (HO3.out.alloc _) ⟨V2.heap.size, 0, none⟩ 1 1 (optsV [(t, d)]) rfl rfl (by rw [optsV_one]; exact cells_new _ _ _) (optsV_ones _) (by unfold maxLen; omega) (by omega) (by simp; omega) ?_; intro v1 w4 hown1 hgr1 _; have Hown1 := Lib.hid hown1; have Hgr1 := Lib.hid hgr1; clear hown1 hgr1; obtain ⟨g1, cap1, rfl⟩ := ownsRow_succ Hown1.out)
          have HS4 : Hid (Gos w.heap.size w w4 l (k + 1) x (odd ++ [(t, d)]) (some ⟨g1, 0, none⟩) (n + 1) cap1) := HSA.out.grown (Nat.le_refl _) HST.out Hgr1.out (by rw [optsV_append]; exact Hown1.out) rfl
          go_roundw
          case rel => exact ⟨k + 1, x, odd ++ [(t, d)], _, n + 1, _, by omega, by go_num, rfl, HS4⟩
          case measure => simp [intOf]; omega
      · rcases hM with ⟨q, hq, hkq, rfl, ha⟩ | ⟨-, hbad⟩
        · have ha2 := ha hgd
          have hsz := good_size hgd
          have hav : (a : Int) = (((UInt32.ofNat (val d.toList)).toNat : Nat) : Int) := by rw [u32_val hsz, ha2]
          have hst2 := hst.2.1 hgd
          have hst3 := hst.2.2 hgd
          have hen := said_enters q hq
          have hen2 := with_enters q hq
          have C2 : Hid (∀ W, Calls Tryz.prog (fS q) #[.agg #[Value.bool x.ha, .int .u32 x.addr.toNat, .bool x.h1, .int .u32 x.dns1.toNat, .bool x.h2, .int .u32 x.dns2.toNat]] W (SaidQ (kd q) x W)) := fun W => said_any q hq x W
          have C3 : Hid (∀ W, Calls Tryz.prog (fW q) #[.agg #[Value.bool x.ha, .int .u32 x.addr.toNat, .bool x.h1, .int .u32 x.dns1.toNat, .bool x.h2, .int .u32 x.dns2.toNat], .int .u32 (UInt32.ofNat (val d.toList)).toNat] W (WithQ (kd q) x (UInt32.ofNat (val d.toList)) W)) := fun W => with_any q hq x _ W
          have HY : Hid (set (kd q) x (UInt32.ofNat (val d.toList)) = say x (t, d)) := by show set (kd q) x _ = set t x _; rw [hkq]
          unfold SaidQ at C2
          unfold WithQ at C3
          rw [HY.out] at C3
          rw [hkq] at C2
          rw [hav]
          clear hst ha ha2 hsz hav HY hgd hd
          generalize UInt32.ofNat (val d.toList) = v at *
          generalize say x (t, d) = y at *
          unfold mV
          generalize fS q = S at *
          generalize fW q = R at *
          clear hkq hq
          generalize (kd q).toNat = kq at *
          unfold lv at C3
          obtain ⟨V2, hV2, HV2⟩ : ∃ V2, w2.alloc (.cells #[.int .u8 kq, .func (.func S) #[] #[], .func (.func R) #[] #[]] 227) = V2 ∧ Hid (Blk V2 w2.heap.size [.int .u8 kq, .func (.func S) #[] #[], .func (.func R) #[] #[]] 227 ∧ Below w2.heap.size w2 V2) := ⟨_, rfl, blk_new _ _ _, (Below.refl _ _).alloc (Nat.le_refl _) _⟩
          have HS3 := Lib.hid (HS2.out.callee HV2.out.2)
          have HM3 := Lib.hid HV2.out.1
          have m1 : V2.cell? ⟨w2.heap.size, 1, none⟩ = some (.func (.func S) #[] #[]) := Blk.at_ HM3.out 1
          have x0 : V2.cell? ⟨w.heap.size, 0, none⟩ = some (Value.bool x.ha) := HS3.out.1.c 0
          have x1 : V2.cell? ⟨w.heap.size, 1, none⟩ = some (.int .u32 x.addr.toNat) := HS3.out.1.c 1
          have x2 : V2.cell? ⟨w.heap.size, 2, none⟩ = some (.bool x.h1) := HS3.out.1.c 2
          have x3 : V2.cell? ⟨w.heap.size, 3, none⟩ = some (.int .u32 x.dns1.toNat) := HS3.out.1.c 3
          have x4 : V2.cell? ⟨w.heap.size, 4, none⟩ = some (.bool x.h2) := HS3.out.1.c 4
          have x5 : V2.cell? ⟨w.heap.size, 5, none⟩ = some (.int .u32 x.dns2.toNat) := HS3.out.1.c 5
          clear HV2 HS2 HA2
          go_wp2_with fail
          refine (C2.out _).mono ?_
          rintro e w4 ⟨rfl, hb4⟩
          have HS4 := Lib.hid (HS3.out.callee hb4)
          have HM4 := Lib.hid (Blk.callee HM3.out hb4)
          clear hb4 hV2 HS3 HM3 m1 x0 x1 x2 x3 x4 x5 C2 hen
          have m2 : w4.cell? ⟨w2.heap.size, 2, none⟩ = some (.func (.func R) #[] #[]) := Blk.at_ HM4.out 2
          have x0 : w4.cell? ⟨w.heap.size, 0, none⟩ = some (Value.bool x.ha) := HS4.out.1.c 0
          have x1 : w4.cell? ⟨w.heap.size, 1, none⟩ = some (.int .u32 x.addr.toNat) := HS4.out.1.c 1
          have x2 : w4.cell? ⟨w.heap.size, 2, none⟩ = some (.bool x.h1) := HS4.out.1.c 2
          have x3 : w4.cell? ⟨w.heap.size, 3, none⟩ = some (.int .u32 x.dns1.toNat) := HS4.out.1.c 3
          have x4 : w4.cell? ⟨w.heap.size, 4, none⟩ = some (.bool x.h2) := HS4.out.1.c 4
          have x5 : w4.cell? ⟨w.heap.size, 5, none⟩ = some (.int .u32 x.dns2.toNat) := HS4.out.1.c 5
          have f0 : w4.frozen? ⟨w.heap.size, 0, none⟩ = false := HS4.out.1.f 0
          have f1 : w4.frozen? ⟨w.heap.size, 1, none⟩ = false := HS4.out.1.f 1
          have f2 : w4.frozen? ⟨w.heap.size, 2, none⟩ = false := HS4.out.1.f 2
          have f3 : w4.frozen? ⟨w.heap.size, 3, none⟩ = false := HS4.out.1.f 3
          have f4 : w4.frozen? ⟨w.heap.size, 4, none⟩ = false := HS4.out.1.f 4
          have f5 : w4.frozen? ⟨w.heap.size, 5, none⟩ = false := HS4.out.1.f 5
          cases hh : has t x
          · have HST := Lib.hid (hst2 hh)
            clear hst2 hst3 hh
            go_wp2_with fail
            refine (C3.out _).mono ?_
            rintro e w5 ⟨rfl, hb5⟩
            have HS5 := Lib.hid (HS4.out.callee hb5)
            clear hb5 HS4 HM4 m2 x0 x1 x2 x3 x4 x5 f0 f1 f2 f3 f4 f5 C3 hen2
            have x0 : w5.cell? ⟨w.heap.size, 0, none⟩ = some (Value.bool x.ha) := HS5.out.1.c 0
            have x1 : w5.cell? ⟨w.heap.size, 1, none⟩ = some (.int .u32 x.addr.toNat) := HS5.out.1.c 1
            have x2 : w5.cell? ⟨w.heap.size, 2, none⟩ = some (.bool x.h1) := HS5.out.1.c 2
            have x3 : w5.cell? ⟨w.heap.size, 3, none⟩ = some (.int .u32 x.dns1.toNat) := HS5.out.1.c 3
            have x4 : w5.cell? ⟨w.heap.size, 4, none⟩ = some (.bool x.h2) := HS5.out.1.c 4
            have x5 : w5.cell? ⟨w.heap.size, 5, none⟩ = some (.int .u32 x.dns2.toNat) := HS5.out.1.c 5
            have f0 : w5.frozen? ⟨w.heap.size, 0, none⟩ = false := HS5.out.1.f 0
            have f1 : w5.frozen? ⟨w.heap.size, 1, none⟩ = false := HS5.out.1.f 1
            have f2 : w5.frozen? ⟨w.heap.size, 2, none⟩ = false := HS5.out.1.f 2
            have f3 : w5.frozen? ⟨w.heap.size, 3, none⟩ = false := HS5.out.1.f 3
            have f4 : w5.frozen? ⟨w.heap.size, 4, none⟩ = false := HS5.out.1.f 4
            have f5 : w5.frozen? ⟨w.heap.size, 5, none⟩ = false := HS5.out.1.f 5
            go_wp2
            have HS6 : Hid (Gos w.heap.size w (setL w5 w.heap.size (lv y)) l (k + 1) y odd A n c) := HS5.out.said (Nat.le_refl _) HST.out
            go_roundw
            case rel => exact ⟨k + 1, y, odd, A, n, c, by omega, by go_num, rfl, HS6⟩
            case measure => simp [intOf]; omega
          · have HST := Lib.hid (get_none (hst3 hh))
            clear hst2 hst3 hh
            go_wp2
            have HR := setL_blk (y := lz) HS4.out.1
            have HBe := setL_below HS4.out.2.2.2.2.2 HS4.out.2.2.2.2.2.size (g := w.heap.size) (Nat.le_refl _) (lv lz)
            (try simp only [Exit.inBlock, Exit.then])
            refine bodyPost_ret (results_row2 rfl _ _ w.heap.size (lv lz) _ _ rfl HR Tryz.underlying40 rfl (by kernel_rfl)) rfl ?_
            unfold GetQ
            rw [HST.out.1, HST.out.2.1, HST.out.2.2]
            exact ⟨none, 0, rfl, opts_nil _ _, HBe⟩
        · rw [hgd] at hbad
          cases hbad
    · obtain rfl : k = n0 := by omega
      have HST : Hid (st l = some (x, odd)) := by
        have h := HS.out.2.2.2.2.1
        rw [List.take_of_length_le (by rw [Hn.out]; exact Nat.le_refl _)] at h
        exact h
      have HGS := Lib.hid (get_some HST.out)
      have x0 : wr.cell? ⟨w.heap.size, 0, none⟩ = some (Value.bool x.ha) := HS.out.1.c 0
      have x1 : wr.cell? ⟨w.heap.size, 1, none⟩ = some (.int .u32 x.addr.toNat) := HS.out.1.c 1
      have x2 : wr.cell? ⟨w.heap.size, 2, none⟩ = some (.bool x.h1) := HS.out.1.c 2
      have x3 : wr.cell? ⟨w.heap.size, 3, none⟩ = some (.int .u32 x.dns1.toNat) := HS.out.1.c 3
      have x4 : wr.cell? ⟨w.heap.size, 4, none⟩ = some (.bool x.h2) := HS.out.1.c 4
      have x5 : wr.cell? ⟨w.heap.size, 5, none⟩ = some (.int .u32 x.dns2.toNat) := HS.out.1.c 5
      have f0 : wr.frozen? ⟨w.heap.size, 0, none⟩ = false := HS.out.1.f 0
      have f1 : wr.frozen? ⟨w.heap.size, 1, none⟩ = false := HS.out.1.f 1
      have f2 : wr.frozen? ⟨w.heap.size, 2, none⟩ = false := HS.out.1.f 2
      have f3 : wr.frozen? ⟨w.heap.size, 3, none⟩ = false := HS.out.1.f 3
      have f4 : wr.frozen? ⟨w.heap.size, 4, none⟩ = false := HS.out.1.f 4
      have f5 : wr.frozen? ⟨w.heap.size, 5, none⟩ = false := HS.out.1.f 5
      go_wp2
      have HR := setL_blk (y := x) HS.out.1
      have HM := setL_moves wr w.heap.size (lv x)
      have HBe := setL_below HS.out.2.2.2.2.2 HS.out.2.2.2.2.2.size (g := w.heap.size) (Nat.le_refl _) (lv x)
      (try simp only [Exit.inBlock, Exit.then])
      refine bodyPost_ret (results_row2 rfl _ _ w.heap.size (lv x) _ _ rfl HR Tryz.underlying40 rfl (by kernel_rfl)) rfl ?_
      unfold GetQ
      rw [HGS.out.1, HGS.out.2.1, HGS.out.2.2]
      refine ⟨A, c, by rw [← HS.out.2.2.1]; rfl, ?_, HBe⟩
      have hr := HM.row HS.out.2.1 (fun k hk e => cells_not_row HS.out.1 (by decide) HS.out.2.1 (by rw [hk, e]))
      rw [← HS.out.2.2.1]
      exact row_opts hr (fun o ho => Hl.out.2.1 o (odds_mem HST.out o ho))
end Go.Proofs.YtgefodpnhifmdaaGreat.Ipc

/- IpcGr: parted from XIpcRw.lean.tpl: the program's Get, of a row. -/
namespace Go.Proofs.YtgefodpnhifmdaaGreat.Ipc
open Go.RowKit Go.Proofs.YtgefodpnhifmdaaGreat.Oct Go.Proofs.YtgefodpnhifmdaaGreat.Row Go.Proofs.YtgefodpnhifmdaaGreat.Mem Go.Proofs.YtgefodpnhifmdaaGreat.Opt

theorem get_row (l : List Opt) (A : Option Addr) (n c : Nat) (w : World) (hl : Opts w w.heap.size A n l) (hn : n ≤ 1001) : Calls Tryz.prog 120 #[.slice A n c] w (GetQ l w) := get_any l _ A n c w hl hn (Nat.le_refl _)
theorem getQ_some {l : List Opt} {x : Ipc} {odd : List Opt} (h : st l = some (x, odd)) {w : World} {e : Ending} {w' : World} (hq : GetQ l w e w') : ∃ A c, e = .returned (.tuple #[.agg (lv x).toArray, .slice A odd.length c, .int .i64 0]) ∧ Opts w' w'.heap.size A odd.length odd ∧ Below w.heap.size w w' := by
  unfold GetQ at hq
  rw [(get_some h).1, (get_some h).2.1, (get_some h).2.2] at hq
  exact hq
end Go.Proofs.YtgefodpnhifmdaaGreat.Ipc
