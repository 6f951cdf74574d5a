/- Put together: IpcE, IpcF. -/
import Derived.Test.YthoangihndplkaaGIpcB
import Derived.Laws.BitsAllLaws
import Derived.Deep.DeepCutAuto

/- Contracts of the document's Good, num and value. -/
namespace Go.Proofs.Ythoangihndplkaa.Ipc
open Go.RowKit Go.Proofs.Ythoangihndplkaa.Oct Go.Proofs.Ythoangihndplkaa.Row Go.Proofs.Ythoangihndplkaa.Mem Go.Proofs.Ythoangihndplkaa.Opt

theorem u8_is {a : UInt8} {n : Nat} (h : a.toNat = n) : ((a.toNat : Int) == (n : Int)) = true := by rw [h]; simp
theorem u8_not {a : UInt8} {n : Nat} (h : ¬ a.toNat = n) : ((a.toNat : Int) == (n : Int)) = false := by rw [beq_eq_false_iff_ne]; omega
theorem u8_isnt {a : UInt8} {n : Nat} (hn : n < 256) (h : ¬ a = UInt8.ofNat n) : ¬ a.toNat = n := fun e => h (UInt8.toNat_inj.1 (by rw [UInt8.toNat_ofNat']; omega))
set_option maxHeartbeats 2000000 in
set_option maxRecDepth 100000 in
theorem rgood_w (t : UInt8) (d : ByteArray) (w : World) : Calls Try.prog 72 #[.agg #[.int .u8 t.toNat, .string d]] w fun e w' => e = .returned (.bool (good (t, d))) ∧ w' = w.alloc (.cells #[.int .u8 t.toNat, .string d] 48) := by
  obtain ⟨W, hW, HW⟩ : ∃ W, w.alloc (.cells #[.int .u8 t.toNat, .string d] 48) = W ∧ Hid (At W w.heap.size (t, d) ∧ W = w.alloc (.cells #[.int .u8 t.toNat, .string d] 48)) := ⟨_, rfl, at_new w t d, rfl⟩
  have HB := Lib.hid HW.out.2
  have c0 : W.cell? ⟨w.heap.size, 0, none⟩ = some (.int .u8 t.toNat) := HW.out.1.c0
  have c1 : W.cell? ⟨w.heap.size, 1, none⟩ = some (.string d) := HW.out.1.c1
  have HG : Hid (good (t, d) = (known t && ((d.size : Int) == 4))) := by
    show _ = _
    unfold good
    congr 1
    by_cases h : d.size = 4
    · rw [h]; rfl
    · have h2 : ((d.size : Int) == 4) = false := by rw [beq_eq_false_iff_ne]; omega
      rw [h2]
      exact decide_eq_false h
  clear HW
  cases hk : known t
  · have HK := Lib.hid hk
    have q3 : ((t.toNat : Int) == 3) = false := u8_not (n := 3) (u8_isnt (by omega) (fun e => by rw [e] at hk; cases hk))
    have q129 : ((t.toNat : Int) == 129) = false := u8_not (n := 129) (u8_isnt (by omega) (fun e => by rw [e] at hk; cases hk))
    have q131 : ((t.toNat : Int) == 131) = false := u8_not (n := 131) (u8_isnt (by omega) (fun e => by rw [e] at hk; cases hk))
    clear hk
    go_enter Try.func72, Try.ntmps72
    go_wp2
    go_ret
    exact ⟨by rw [HG.out, HK.out] <;> rfl, HB.out⟩
  · have HK := Lib.hid hk
    rcases known_cases hk with e | e | e
    · clear hk
      have q3 : ((t.toNat : Int) == 3) = true := u8_is (n := 3) (by rw [e]; rfl)
      have q129 : ((t.toNat : Int) == 129) = false := u8_not (n := 129) (by rw [e]; decide)
      have q131 : ((t.toNat : Int) == 131) = false := u8_not (n := 131) (by rw [e]; decide)
      clear e
      go_enter Try.func72, Try.ntmps72
      go_wp2
      go_ret
      exact ⟨by rw [HG.out, HK.out] <;> rfl, HB.out⟩
    · clear hk
      have q3 : ((t.toNat : Int) == 3) = false := u8_not (n := 3) (by rw [e]; decide)
      have q129 : ((t.toNat : Int) == 129) = true := u8_is (n := 129) (by rw [e]; rfl)
      have q131 : ((t.toNat : Int) == 131) = false := u8_not (n := 131) (by rw [e]; decide)
      clear e
      go_enter Try.func72, Try.ntmps72
      go_wp2
      go_ret
      exact ⟨by rw [HG.out, HK.out] <;> rfl, HB.out⟩
    · clear hk
      have q3 : ((t.toNat : Int) == 3) = false := u8_not (n := 3) (by rw [e]; decide)
      have q129 : ((t.toNat : Int) == 129) = false := u8_not (n := 129) (by rw [e]; decide)
      have q131 : ((t.toNat : Int) == 131) = true := u8_is (n := 131) (by rw [e]; rfl)
      clear e
      go_enter Try.func72, Try.ntmps72
      go_wp2
      go_ret
      exact ⟨by rw [HG.out, HK.out] <;> rfl, HB.out⟩
theorem rgood_any (t : UInt8) (d : ByteArray) (w : World) : Calls Try.prog 72 #[.agg #[.int .u8 t.toNat, .string d]] w fun e w' => e = .returned (.bool (good (t, d))) ∧ Below w.heap.size w w' :=
  (rgood_w t d w).mono fun _ _ ⟨he, hw⟩ => ⟨he, by rw [hw]; exact (Below.refl _ _).alloc (Nat.le_refl _) _⟩
theorem z32 (v : UInt32) : (v == 0) = ((v.toNat : Int) == 0) := by
  rw [Bool.eq_iff_iff, beq_iff_eq, beq_iff_eq]
  constructor
  · rintro rfl; rfl
  · intro h; exact UInt32.toNat_inj.1 (by show v.toNat = 0; omega)
set_option maxHeartbeats 400000 in
set_option maxRecDepth 100000 in
theorem rnum_any (v : Nat) (w : World) (h2 : v < 4294967296) :
    Calls Try.prog 65 #[.int .u32 v] w fun e w' => e = .returned (.string (bOf (numS v 4))) ∧ Below w.heap.size w w' := by
  have hv : bOf (numS v 4) = strOfNums [(v : Int) / 16777216, (v : Int) / 65536 % 256, (v : Int) / 256 % 256, (v : Int) % 256] := by
    rw [nums_bOf, numS_four]
    congr 1
    simp only [List.map_cons, List.map_nil]
    congr 1
    · congr 1; omega
  have H := Lib.hid hv; clear hv
  have hcv := conv_new (P := Try.prog) w 80 9 5 5 (by kernel_rfl) (by kernel_rfl) (by kernel_rfl) [(v : Int) / 16777216, (v : Int) / 65536 % 256, (v : Int) / 256 % 256, (v : Int) % 256] 4
  simp only [List.length_cons, List.length_nil, List.map_cons, List.map_nil] at hcv
  have h1 : (0 : Int) ≤ v := by omega
  have h3 : (v : Int) < 4294967296 := by omega
  rw [H.out]
  go_enter Try.func65, Try.ntmps65
  go_wp2
  go_ret
  exact ⟨rfl, (Below.refl _ _).alloc (Nat.le_refl _) _⟩
set_option maxHeartbeats 1000000 in
set_option maxRecDepth 100000 in
theorem rvalue_any (s : ByteArray) (w : World) (h : s.size = 4) : Calls Try.prog 74 #[.string s] w fun e w' => e = .returned (.int .u32 (val s.toList)) ∧ ∃ k, w' = w.drewN k := by
  have h0 : 0 < s.size := by omega
  have h1 : (1 : Int) < s.size := by omega
  have h2 : (2 : Int) < s.size := by omega
  have h3 : (3 : Int) < s.size := by omega
  have h5 : s.size < 5 := by omega
  have Hh := Lib.hid h; clear h
  go_enter Try.func74, Try.ntmps74
  go_wp2
  go_quiet (fail)
  go_wp2
  go_ret
  refine ⟨?_, nq, rfl⟩
  rw [or32, val_four s Hh.out]
  rfl
end Go.Proofs.Ythoangihndplkaa.Ipc

/- Contract of the document's Put. -/
namespace Go.Proofs.Ythoangihndplkaa.Ipc
open Go.RowKit Go.Proofs.Ythoangihndplkaa.Oct Go.Proofs.Ythoangihndplkaa.Row Go.Proofs.Ythoangihndplkaa.Mem Go.Proofs.Ythoangihndplkaa.Opt

/-- What stands between the document's steps. -/
def Ptd (w wr : World) (x : Ipc) (k n : Nat) (A : Option Addr) (c : Nat) : Prop := LAt wr w.heap.size x ∧ wr.ownsRow (w.heap.size + 1) 48 2 (.slice A n c) n (optsV (gat x k)) ∧ n = (gat x k).length ∧ Below w.heap.size w wr
theorem Ptd.callee {w wr W' : World} {x : Ipc} {k n : Nat} {A : Option Addr} {c : Nat} (h : Ptd w wr x k n A c) (hb : Below wr.heap.size wr W') : Ptd w W' x k n A c :=
  ⟨h.1.callee hb, (Moves.of_below (S := fun _ => False) hb).row h.2.1 (fun _ _ x => x), h.2.2.1, h.2.2.2.trans (hb.mono h.2.2.2.size)⟩
theorem Ptd.skip {w wr : World} {x : Ipc} {k n : Nat} {A : Option Addr} {c : Nat} (h : Ptd w wr x k n A c) (hk : k < 3) (hh : has (kd k) x = false) : Ptd w wr x (k + 1) n A c := by
  obtain ⟨h1, h2, h3, h5⟩ := h
  exact ⟨h1, by rw [gat_no hk hh]; exact h2, by rw [gat_no hk hh]; exact h3, h5⟩
theorem Ptd.grown {w wr W' : World} {x : Ipc} {k n n' c' : Nat} {A A' : Option Addr} {c : Nat} {s : ByteArray} (h : Ptd w wr x k n A c) (hk : k < 3) (hh : has (kd k) x = true) (hs : dat (kd k) x = s)
    (hg : wr.grownBy W' (Value.slice A n c).ownBlock) (hr : W'.ownsRow (w.heap.size + 1) 48 2 (.slice A' n' c') n' (optsV (gat x k ++ [(kd k, s)]))) (hn : n' = n + 1) : Ptd w W' x (k + 1) n' A' c' := by
  obtain ⟨h1, h2, h3, h5⟩ := h
  have hm : Moves (fun k => (Value.slice A n c).ownBlock = some k) wr W' := Moves.of_grown hg (fun k e _ => e)
  subst hs
  refine ⟨Blk.moves h1 hm (fun e => cells_not_row h1 (by decide) h2 e), by rw [gat_yes hk hh]; exact hr, by rw [gat_yes hk hh, List.length_append, ← h3]; exact hn, h5.grown hg h5.size (fun k e => ?_)⟩
  have := (h2.lt k e).1
  omega
/-- What the document's Put answers. -/
def RPutQ (x : Ipc) (w : World) (e : Ending) (w' : World) : Prop := ∃ A c, e = .returned (.slice A (put x).length c) ∧ Opts w' w'.heap.size A (put x).length (put x) ∧ Below w.heap.size w w'
/-- .. and the room behind it. -/
def RPutR (x : Ipc) (w : World) (e : Ending) (w' : World) : Prop := ∃ A c, e = .returned (.slice A (put x).length c) ∧ Opts w' w'.heap.size A (put x).length (put x) ∧ Below w.heap.size w w' ∧ (put x).length ≤ c ∧ (A = none → c = 0)
theorem ptd_end {x : Ipc} {w wr : World} {A : Option Addr} {n c : Nat} (h : Ptd w wr x 3 n A c) : RPutR x w (.returned (.slice A n c)) wr := by
  obtain ⟨h1, h2, h3, h4⟩ := h
  rw [gat_three] at h2 h3
  refine ⟨A, c, by rw [h3], ?_, h4, by rw [← h3]; exact own_room h2, own_nil h2⟩
  rw [← h3]
  obtain ⟨A', c', e', ho⟩ := opts_own h2 (fun o ho => gat_size x 3 o ho)
  cases e'
  exact ho
set_option maxHeartbeats 16000000 in
set_option maxRecDepth 100000 in
theorem rput_room (x : Ipc) (w : World) : Calls Try.prog 43 #[.agg (lv x).toArray] w (RPutR x w) := by
  show Calls Try.prog 43 #[.agg #[Value.bool x.ha, .int .u32 x.addr.toNat, .bool x.h1, .int .u32 x.dns1.toNat, .bool x.h2, .int .u32 x.dns2.toNat]] w (RPutR x w)
  obtain ⟨i0, hi, hz0, hz1, hz2⟩ := info_parts Try.info48
  obtain ⟨W, hW, HW⟩ := boxL w x
  have HP0 : Hid (Ptd w W x 0 0 none 0) := ⟨HW.out.1, World.ownsRow_nil _ _ _ _, rfl, HW.out.2.1⟩
  have N0 := Lib.hid (fun W => rnum_any x.addr.toNat W (by have := x.addr.toNat_lt; omega))
  have Z0 : Hid ((bOf (numS x.addr.toNat 4)).size = 4) := by show _ = _; rw [size_bOf, numS_length]
  obtain ⟨b0, HB0⟩ : ∃ b, Hid (b = has (kd 0) x) := ⟨_, rfl⟩
  obtain ⟨s0, hs0⟩ : ∃ s, bOf (numS x.addr.toNat 4) = s := ⟨_, rfl⟩
  rw [hs0] at N0 Z0
  have S0 : Hid (dat (kd 0) x = s0) := hs0
  clear hs0
  have b0_ : (x.addr.toNat : Int) ≤ 4294967295 := by have := x.addr.toNat_lt; omega
  have N1 := Lib.hid (fun W => rnum_any x.dns1.toNat W (by have := x.dns1.toNat_lt; omega))
  have Z1 : Hid ((bOf (numS x.dns1.toNat 4)).size = 4) := by show _ = _; rw [size_bOf, numS_length]
  obtain ⟨b1, HB1⟩ : ∃ b, Hid (b = has (kd 1) x) := ⟨_, rfl⟩
  obtain ⟨s1, hs1⟩ : ∃ s, bOf (numS x.dns1.toNat 4) = s := ⟨_, rfl⟩
  rw [hs1] at N1 Z1
  have S1 : Hid (dat (kd 1) x = s1) := hs1
  clear hs1
  have b1_ : (x.dns1.toNat : Int) ≤ 4294967295 := by have := x.dns1.toNat_lt; omega
  have N2 := Lib.hid (fun W => rnum_any x.dns2.toNat W (by have := x.dns2.toNat_lt; omega))
  have Z2 : Hid ((bOf (numS x.dns2.toNat 4)).size = 4) := by show _ = _; rw [size_bOf, numS_length]
  obtain ⟨b2, HB2⟩ : ∃ b, Hid (b = has (kd 2) x) := ⟨_, rfl⟩
  obtain ⟨s2, hs2⟩ : ∃ s, bOf (numS x.dns2.toNat 4) = s := ⟨_, rfl⟩
  rw [hs2] at N2 Z2
  have S2 : Hid (dat (kd 2) x = s2) := hs2
  clear hs2
  have b2_ : (x.dns2.toNat : Int) ≤ 4294967295 := by have := x.dns2.toNat_lt; omega
  have c0 : W.cell? ⟨w.heap.size, 0, none⟩ = some (.bool b0) := by rw [HB0.out]; exact HW.out.1.c 0
  clear HW
  go_enter Try.func43, Try.ntmps43
  go_upto_if 5 with (fail)
  clear hW c0
  go_cut [3] (fun v wx => ∃ (A : Option Addr) (n c : Nat), v = .slice A n c ∧ n ≤ 1 ∧ Hid (Ptd w wx x 1 n A c))
  case first =>
    cases b0
    · have HX := Lib.hid (HP0.out.skip (by omega) HB0.out.symm)
      go_wp2
      go_meet
      exact ⟨none, 0, 0, rfl, by omega, HX⟩
    · have d0 : W.cell? ⟨w.heap.size, 1, none⟩ = some (.int .u32 x.addr.toNat) := HP0.out.1.c 1
      go_wp2_with fail
      refine (N0.out _).mono ?_
      rintro e v5 ⟨rfl, hb5⟩
      have HQ := Lib.hid (HP0.out.callee hb5)
      have HR := Lib.hid (HQ.out.callee ((Below.refl _ v5).alloc (Nat.le_refl _) (.cells #[.int .u8 3, .string s0] 48)))
      have HO := Lib.hid HQ.out.2.1
      have HZ := HQ.out.2.2.2.size
      clear hb5
      go_wp2_with (at_builtin; refine wpList_append_own _ rfl _ _ 29 rfl (w.heap.size + 1) 48 i0 _ 2 24 Try.underlying29 hi hz0 hz1 hz2 rfl (by decide) _ _ _ rfl (HO.out.alloc _) ⟨v5.heap.size, 0, none⟩ 1 1 (optsV [((3 : UInt8), s0)]) rfl rfl (by rw [optsV_one]; exact cells_new _ _ _) (optsV_ones _) (by unfold maxLen; omega) (by omega) (by simp; omega) ?_; intro v1 w6 hown1 hgr1 _; have Hown1 := Lib.hid hown1; have Hgr1 := Lib.hid hgr1; clear hown1 hgr1; obtain ⟨g1, cap1, rfl⟩ := ownsRow_succ Hown1.out)
      go_meet
      exact ⟨some ⟨g1, 0, none⟩, 0 + 1, cap1, rfl, by omega, HR.out.grown (by omega) HB0.out.symm S0.out Hgr1.out (by rw [optsV_append]; exact Hown1.out) rfl⟩
  case rest =>
  obtain ⟨A1, n1, c1, rfl, hn1, HP1⟩ := hcut
  clear HP0
  generalize hw1 : wc = wc1 at *
  clear hw1
  have t1 : wc1.cell? ⟨w.heap.size, 2, none⟩ = some (.bool b1) := by rw [HB1.out]; exact HP1.out.1.c 2
  go_upto_if 14 with (fail)
  clear t1
  go_cut [3] (fun v wx => ∃ (A : Option Addr) (n c : Nat), v = .slice A n c ∧ n ≤ 2 ∧ Hid (Ptd w wx x 2 n A c))
  case first =>
    cases b1
    · have HX := Lib.hid (HP1.out.skip (by omega) HB1.out.symm)
      go_wp2
      go_meet
      exact ⟨A1, n1, c1, rfl, by omega, HX⟩
    · have d1 : wc1.cell? ⟨w.heap.size, 3, none⟩ = some (.int .u32 x.dns1.toNat) := HP1.out.1.c 3
      go_wp2_with fail
      refine (N1.out _).mono ?_
      rintro e v5 ⟨rfl, hb5⟩
      have HQ := Lib.hid (HP1.out.callee hb5)
      have HR := Lib.hid (HQ.out.callee ((Below.refl _ v5).alloc (Nat.le_refl _) (.cells #[.int .u8 129, .string s1] 48)))
      have HO := Lib.hid HQ.out.2.1
      have HZ := HQ.out.2.2.2.size
      clear hb5
      go_wp2_with (at_builtin; refine wpList_append_own _ rfl _ _ 29 rfl (w.heap.size + 1) 48 i0 _ 2 24 Try.underlying29 hi hz0 hz1 hz2 rfl (by decide) _ _ _ rfl (HO.out.alloc _) ⟨v5.heap.size, 0, none⟩ 1 1 (optsV [((129 : UInt8), s1)]) rfl rfl (by rw [optsV_one]; exact cells_new _ _ _) (optsV_ones _) (by unfold maxLen; omega) (by omega) (by simp; omega) ?_; intro v1 w6 hown1 hgr1 _; have Hown1 := Lib.hid hown1; have Hgr1 := Lib.hid hgr1; clear hown1 hgr1; obtain ⟨g1, cap1, rfl⟩ := ownsRow_succ Hown1.out)
      go_meet
      exact ⟨some ⟨g1, 0, none⟩, n1 + 1, cap1, rfl, by omega, HR.out.grown (by omega) HB1.out.symm S1.out Hgr1.out (by rw [optsV_append]; exact Hown1.out) rfl⟩
  case rest =>
  obtain ⟨A2, n2, c2, rfl, hn2, HP2⟩ := hcut
  clear HP1
  generalize hw2 : wc = wc2 at *
  clear hw2
  have t2 : wc2.cell? ⟨w.heap.size, 4, none⟩ = some (.bool b2) := by rw [HB2.out]; exact HP2.out.1.c 4
  go_upto_if 23 with (fail)
  clear t2
  go_cut [3] (fun v wx => ∃ (A : Option Addr) (n c : Nat), v = .slice A n c ∧ n ≤ 3 ∧ Hid (Ptd w wx x 3 n A c))
  case first =>
    cases b2
    · have HX := Lib.hid (HP2.out.skip (by omega) HB2.out.symm)
      go_wp2
      go_meet
      exact ⟨A2, n2, c2, rfl, by omega, HX⟩
    · have d2 : wc2.cell? ⟨w.heap.size, 5, none⟩ = some (.int .u32 x.dns2.toNat) := HP2.out.1.c 5
      go_wp2_with fail
      refine (N2.out _).mono ?_
      rintro e v5 ⟨rfl, hb5⟩
      have HQ := Lib.hid (HP2.out.callee hb5)
      have HR := Lib.hid (HQ.out.callee ((Below.refl _ v5).alloc (Nat.le_refl _) (.cells #[.int .u8 131, .string s2] 48)))
      have HO := Lib.hid HQ.out.2.1
      have HZ := HQ.out.2.2.2.size
      clear hb5
      go_wp2_with (at_builtin; refine wpList_append_own _ rfl _ _ 29 rfl (w.heap.size + 1) 48 i0 _ 2 24 Try.underlying29 hi hz0 hz1 hz2 rfl (by decide) _ _ _ rfl (HO.out.alloc _) ⟨v5.heap.size, 0, none⟩ 1 1 (optsV [((131 : UInt8), s2)]) rfl rfl (by rw [optsV_one]; exact cells_new _ _ _) (optsV_ones _) (by unfold maxLen; omega) (by omega) (by simp; omega) ?_; intro v1 w6 hown1 hgr1 _; have Hown1 := Lib.hid hown1; have Hgr1 := Lib.hid hgr1; clear hown1 hgr1; obtain ⟨g1, cap1, rfl⟩ := ownsRow_succ Hown1.out)
      go_meet
      exact ⟨some ⟨g1, 0, none⟩, n2 + 1, cap1, rfl, by omega, HR.out.grown (by omega) HB2.out.symm S2.out Hgr1.out (by rw [optsV_append]; exact Hown1.out) rfl⟩
  case rest =>
  obtain ⟨A3, n3, c3, rfl, hn3, HP3⟩ := hcut
  clear HP2
  generalize hw3 : wc = wc3 at *
  clear hw3
  go_wp2
  go_ret
  exact ptd_end HP3.out
theorem rput_any (x : Ipc) (w : World) : Calls Try.prog 43 #[.agg (lv x).toArray] w (RPutQ x w) :=
  (rput_room x w).mono fun _ _ ⟨A, c, h1, h2, h3, _⟩ => ⟨A, c, h1, h2, h3⟩
end Go.Proofs.Ythoangihndplkaa.Ipc
