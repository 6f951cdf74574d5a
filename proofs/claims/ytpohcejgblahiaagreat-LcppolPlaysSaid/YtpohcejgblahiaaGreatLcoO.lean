/- Contract of the document's Put (layer 9). -/
import Derived.Test.YtpohcejgblahiaaGreatGOptEu
import Derived.Test.YtpohcejgblahiaaGreatGLcoH
import Derived.Deep.DeepCutAuto
import Derived.Lib.AppendStr
namespace Go.Proofs.YtpohcejgblahiaaGreat.Lco
open Go.RowKit Go.Proofs.YtpohcejgblahiaaGreat.Oct Go.Proofs.YtpohcejgblahiaaGreat.Row Go.Proofs.YtpohcejgblahiaaGreat.Mem Go.Proofs.YtpohcejgblahiaaGreat.Opt

/-- What stands between the document's steps: the row holds acc. -/
def Pt (x : Lcp) (g : Nat) (w wr : World) (acc : List Opt) (A : Option Addr) (n c : Nat) : Prop :=
  LAt wr g x ∧ wr.ownsRow g 51 2 (.slice A n c) n (optsV acc) ∧ n = acc.length ∧ Below w.heap.size w wr
theorem Pt.callee {x : Lcp} {g : Nat} {w wr W' : World} {acc : List Opt} {A : Option Addr} {n c : Nat} (h : Pt x g w wr acc A n c) (hb : Below wr.heap.size wr W') : Pt x g w W' acc A n c :=
  ⟨h.1.callee hb, (Moves.of_below (S := fun _ => False) hb).row h.2.1 (fun _ _ x => x), h.2.2.1, h.2.2.2.trans (hb.mono h.2.2.2.size)⟩
theorem Pt.grown {x : Lcp} {g n' c' : Nat} {w wr W' : World} {acc acc' : List Opt} {A A' : Option Addr} {n c : Nat} (h : Pt x g w wr acc A n c) (hw : w.heap.size ≤ g)
    (hg : wr.grownBy W' (Value.slice A n c).ownBlock) (hr : W'.ownsRow g 51 2 (.slice A' n' c') n' (optsV acc')) (hn : n' = acc'.length) : Pt x g w W' acc' A' n' c' := by
  obtain ⟨h1, h2, h3, h4⟩ := h
  have hm : Moves (fun k => (Value.slice A n c).ownBlock = some k) wr W' := Moves.of_grown hg (fun k e _ => e)
  refine ⟨Blk.moves h1 hm (fun e => cells_not_row h1 (by decide) h2 e), hr, hn, h4.grown hg h4.size (fun k e => ?_)⟩
  exact Nat.le_trans hw (h2.lt k e).1
def autA (x : Lcp) : List Opt := if x.auth = 1 then [(3, authD 1)] else []
theorem aut_1 {x : Lcp} (h : x.auth = 1) : autA x = [(3, authD 1)] := if_pos h
theorem aut_0 {x : Lcp} (h : ¬ x.auth = 1) : autA x = [] := if_neg h
theorem aut_2 {x : Lcp} (ts : List UInt8) (h : x.auth = 2) : gat x (ts ++ [3]) = gat x ts ++ autA x ++ [(3, authD 2)] := by
  rw [gat_snoc, aut_0 (by rw [h]; decide), List.append_nil, if_pos (by show (x.auth != 0) = true; rw [h]; rfl)]
  show gat x ts ++ [(3, authD x.auth)] = _
  rw [h]
theorem aut_n2 {x : Lcp} (ts : List UInt8) (h : ¬ x.auth = 2) (hx : x.auth ≤ 2) : gat x (ts ++ [3]) = gat x ts ++ autA x := by
  rw [gat_snoc]
  by_cases h1 : x.auth = 1
  · rw [aut_1 h1, if_pos (by show (x.auth != 0) = true; rw [h1]; rfl)]
    show gat x ts ++ [(3, authD x.auth)] = _
    rw [h1]
  · rw [aut_0 h1, List.append_nil, if_neg]
    show ¬ (x.auth != 0) = true
    have h2 := UInt8.le_iff_toNat_le.1 hx
    have e2 : (2 : UInt8).toNat = 2 := rfl
    have h3 : x.auth.toNat ≠ 1 := fun e => h1 (UInt8.toNat_inj.1 e)
    have h4 : x.auth.toNat ≠ 2 := fun e => h (UInt8.toNat_inj.1 e)
    have h5 : x.auth = 0 := UInt8.toNat_inj.1 (by show x.auth.toNat = 0; omega)
    rw [h5]
    decide
/-- What the document's Put answers. -/
def RPutQ (x : Lcp) (w : World) (e : Ending) (w' : World) : Prop := ∃ A c, e = .returned (.slice A (put x).length c) ∧ Opts w' w'.heap.size A (put x).length (put x) ∧ Below w.heap.size w w'
theorem own_empty {w : World} {base n c : Nat} {e : TypeId} {A : Option Addr} {xs : List Value} (h : w.ownsRow base e 2 (.slice A n c) n xs) : n ≤ c ∧ (A = none → c = 0) := by
  rcases h.2 with ⟨e', h2⟩ | ⟨g, cap, cur, e', _, _, h2, _⟩
  · cases e'
    exact ⟨by rw [h2]; exact Nat.zero_le _, fun _ => rfl⟩
  · cases e'
    exact ⟨h2, fun e => by cases e⟩
/-- .. with the row's room. -/
def RPutR (x : Lcp) (w : World) (e : Ending) (w' : World) : Prop := ∃ A c, e = .returned (.slice A (put x).length c) ∧ Opts w' w'.heap.size A (put x).length (put x) ∧ Below w.heap.size w w' ∧ (put x).length ≤ c ∧ (A = none → c = 0)
theorem pt_end {x : Lcp} {g : Nat} {w wr : World} {A : Option Addr} {n c : Nat} (h : Pt x g w wr (gat x six) A n c) : RPutR x w (.returned (.slice A n c)) wr := by
  obtain ⟨h1, h2, h3, h4⟩ := h
  have e : gat x six = put x := rfl
  rw [e] at h2 h3
  refine ⟨A, c, by rw [h3], ?_, h4, by rw [← h3]; exact (own_empty h2).1, (own_empty h2).2⟩
  rw [← h3]
  obtain ⟨A', c', e', ho⟩ := opts_own h2 (fun o ho => Nat.le_trans (put_size x o ho) (by omega))
  cases e'
  exact ho
theorem gat_t {x : Lcp} (ts : List UInt8) (t : UInt8) (h : has t x = true) : gat x (ts ++ [t]) = gat x ts ++ [(t, dat t x)] := by rw [gat_snoc, if_pos h]
theorem gat_f {x : Lcp} (ts : List UInt8) (t : UInt8) (h : has t x = false) : gat x (ts ++ [t]) = gat x ts := by rw [gat_snoc, if_neg (by rw [h]; decide)]
set_option maxHeartbeats 16000000 in
set_option maxRecDepth 100000 in
theorem rput_room (x : Lcp) (w : World) (hx : may x = true) : Calls Tryz.prog 89 #[.agg (lv x).toArray] w (RPutR x w) := by
  show Calls Tryz.prog 89 #[.agg #[Value.bool x.hm, .int .u16 x.mru.toNat, .bool x.ha, .int .u32 x.accm.toNat, .int .u8 x.auth.toNat, .bool x.hg, .int .u32 x.magic.toNat, .bool x.pfc, .bool x.acfc]] w (RPutR x w)
  obtain ⟨i0, hi, hz0, hz1, hz2⟩ := info_parts Tryz.info51
  have HA := Lib.hid ((may_iff x).1 hx).1
  clear hx
  obtain ⟨W, hW, HW⟩ := boxL w x
  have HP : Hid (Pt x w.heap.size w W (gat x []) none 0 0) := ⟨HW.out.1, World.ownsRow_nil _ _ _ _, rfl, HW.out.2.1⟩
  obtain ⟨b1, Hb1⟩ : ∃ b, Hid (b = x.hm) := ⟨_, rfl⟩
  have c0 : W.cell? ⟨w.heap.size, 0, none⟩ = some (.bool b1) := by rw [Hb1.out]; exact HW.out.1.c 0
  have b1_ : (x.mru.toNat : Int) ≤ 65535 := by have := x.mru.toNat_lt; omega
  have b2_ : (x.accm.toNat : Int) ≤ 4294967295 := by have := x.accm.toNat_lt; omega
  have b3_ : (x.magic.toNat : Int) ≤ 4294967295 := by have := x.magic.toNat_lt; omega
  clear HW
  go_enter Tryz.func89, Tryz.ntmps89
  go_upto_if 5 with (fail)
  clear hW
  go_cut [3] (fun v wx => ∃ (A : Option Addr) (n c : Nat), v = .slice A n c ∧ n ≤ 1 ∧ Hid (Pt x w.heap.size w wx (gat x ([] ++ [1])) A n c))
  case first =>
    cases b1
    · have HE : Hid (gat x ([] ++ [1]) = gat x []) := gat_f _ 1 Hb1.out.symm
      go_wp2
      go_meet
      exact ⟨none, 0, 0, rfl, by omega, by show Pt _ _ _ _ _ _ _ _; rw [HE.out]; exact HP.out⟩
    · have HE : Hid (gat x ([] ++ [1]) = gat x [] ++ [((1 : UInt8), bOf (numS x.mru.toNat 2))]) := gat_t _ 1 Hb1.out.symm
      have d1 : W.cell? ⟨w.heap.size, 1, none⟩ = some (.int .u16 x.mru.toNat) := HP.out.1.c 1
      have hz : (bOf (numS x.mru.toNat 2)).size ≤ 4 := by rw [size_bOf, numS_length]; omega
      go_wp2_with fail
      refine (rnum_any x.mru.toNat 2 _ (by omega) (by omega)).mono ?_
      rintro e w5 ⟨rfl, hb5⟩
      generalize bOf (numS x.mru.toNat 2) = s5 at *
      have HP5 := Lib.hid (HP.out.callee hb5)
      clear hb5
      have HPz := Lib.hid (HP5.out.callee ((Below.refl _ w5).alloc (Nat.le_refl _) (.cells #[.int .u8 1, .string s5] 51)))
      have HO := Lib.hid HP5.out.2.1
      have HSz := HP5.out.2.2.2.size
      go_wp2_with (at_builtin; refine wpList_append_own _ rfl _ _ 30 rfl w.heap.size 51 i0 _ 2 24 Tryz.underlying30 hi hz0 hz1 hz2 rfl (by decide) _ _ _ rfl (HO.out.alloc _) ⟨w5.heap.size, 0, none⟩ 1 1 (optsV [((1 : UInt8), s5)]) rfl rfl (by rw [optsV_one]; exact cells_new _ _ _) (optsV_ones _) (by unfold maxLen; omega) (by omega) (by simp; omega) ?_; intro v1 w6 hown1 hgr1 _; have Hown1 := Lib.hid hown1; have Hgr1 := Lib.hid hgr1; clear hown1 hgr1; obtain ⟨g1, cap1, rfl⟩ := ownsRow_succ Hown1.out)
      go_meet
      exact ⟨some ⟨g1, 0, none⟩, 0 + 1, cap1, rfl, by omega, by show Pt _ _ _ _ _ _ _ _; rw [HE.out]; exact HPz.out.grown (Nat.le_refl _) Hgr1.out (by rw [optsV_append]; exact Hown1.out) (by rw [List.length_append, List.length_singleton, HPz.out.2.2.1])⟩
  case rest =>
  obtain ⟨A1, n1, c1, rfl, hn1, HP1⟩ := hcut
  clear HP c0
  generalize hw1 : wc = wc1 at *
  clear hw1
  obtain ⟨b2, Hb2⟩ : ∃ b, Hid (b = x.ha) := ⟨_, rfl⟩
  have t2 : wc1.cell? ⟨w.heap.size, 2, none⟩ = some (.bool b2) := by rw [Hb2.out]; exact HP1.out.1.c 2
  go_upto_if 15 with (fail)
  go_cut [3] (fun v wx => ∃ (A : Option Addr) (n c : Nat), v = .slice A n c ∧ n ≤ 2 ∧ Hid (Pt x w.heap.size w wx (gat x ([1] ++ [2])) A n c))
  case first =>
    cases b2
    · have HE : Hid (gat x ([1] ++ [2]) = gat x ([] ++ [1])) := gat_f _ 2 Hb2.out.symm
      go_wp2
      go_meet
      exact ⟨A1, n1, c1, rfl, by omega, by show Pt _ _ _ _ _ _ _ _; rw [HE.out]; exact HP1.out⟩
    · have HE : Hid (gat x ([1] ++ [2]) = gat x ([] ++ [1]) ++ [((2 : UInt8), bOf (numS x.accm.toNat 4))]) := gat_t _ 2 Hb2.out.symm
      have d1 : wc1.cell? ⟨w.heap.size, 3, none⟩ = some (.int .u32 x.accm.toNat) := HP1.out.1.c 3
      have hz : (bOf (numS x.accm.toNat 4)).size ≤ 4 := by rw [size_bOf, numS_length]; omega
      go_wp2_with fail
      refine (rnum_any x.accm.toNat 4 _ (by omega) (by omega)).mono ?_
      rintro e w5 ⟨rfl, hb5⟩
      generalize bOf (numS x.accm.toNat 4) = s5 at *
      have HP5 := Lib.hid (HP1.out.callee hb5)
      clear hb5
      have HPz := Lib.hid (HP5.out.callee ((Below.refl _ w5).alloc (Nat.le_refl _) (.cells #[.int .u8 2, .string s5] 51)))
      have HO := Lib.hid HP5.out.2.1
      have HSz := HP5.out.2.2.2.size
      go_wp2_with (at_builtin; refine wpList_append_own _ rfl _ _ 30 rfl w.heap.size 51 i0 _ 2 24 Tryz.underlying30 hi hz0 hz1 hz2 rfl (by decide) _ _ _ rfl (HO.out.alloc _) ⟨w5.heap.size, 0, none⟩ 1 1 (optsV [((2 : UInt8), s5)]) rfl rfl (by rw [optsV_one]; exact cells_new _ _ _) (optsV_ones _) (by unfold maxLen; omega) (by omega) (by simp; omega) ?_; intro v1 w6 hown1 hgr1 _; have Hown1 := Lib.hid hown1; have Hgr1 := Lib.hid hgr1; clear hown1 hgr1; obtain ⟨g1, cap1, rfl⟩ := ownsRow_succ Hown1.out)
      go_meet
      exact ⟨some ⟨g1, 0, none⟩, n1 + 1, cap1, rfl, by omega, by show Pt _ _ _ _ _ _ _ _; rw [HE.out]; exact HPz.out.grown (Nat.le_refl _) Hgr1.out (by rw [optsV_append]; exact Hown1.out) (by rw [List.length_append, List.length_singleton, HPz.out.2.2.1])⟩
  case rest =>
  obtain ⟨A2, n2, c2, rfl, hn2, HP2⟩ := hcut
  clear HP1 t2
  generalize hw2 : wc = wc2 at *
  clear hw2
  have t3 : wc2.cell? ⟨w.heap.size, 4, none⟩ = some (.int .u8 x.auth.toNat) := HP2.out.1.c 4
  go_upto_if 26 with (fail)
  go_cut [3] (fun v wx => ∃ (A : Option Addr) (n c : Nat), v = .slice A n c ∧ n ≤ 3 ∧ Hid (Pt x w.heap.size w wx (gat x ([1] ++ [2]) ++ autA x) A n c))
  case first =>
    by_cases h1 : x.auth = 1
    · have q1 : ((x.auth.toNat : Int) == 1) = true := u8_is (n := 1) (by rw [h1]; rfl)
      have HE : Hid (gat x ([1] ++ [2]) ++ autA x = gat x ([1] ++ [2]) ++ [((3 : UInt8), bOf (numS 49187 2))]) := by show _ = _; rw [aut_1 h1, numS_two]; rfl
      clear h1
      have hz : (bOf (numS 49187 2)).size ≤ 4 := by rw [size_bOf, numS_length]; omega
      go_wp2_with fail
      refine (rnum_any 49187 2 _ (by omega) (by omega)).mono ?_
      rintro e w5 ⟨rfl, hb5⟩
      generalize bOf (numS 49187 2) = s5 at *
      have HP5 := Lib.hid (HP2.out.callee hb5)
      clear hb5
      have HPz := Lib.hid (HP5.out.callee ((Below.refl _ w5).alloc (Nat.le_refl _) (.cells #[.int .u8 3, .string s5] 51)))
      have HO := Lib.hid HP5.out.2.1
      have HSz := HP5.out.2.2.2.size
      go_wp2_with (at_builtin; refine wpList_append_own _ rfl _ _ 30 rfl w.heap.size 51 i0 _ 2 24 Tryz.underlying30 hi hz0 hz1 hz2 rfl (by decide) _ _ _ rfl (HO.out.alloc _) ⟨w5.heap.size, 0, none⟩ 1 1 (optsV [((3 : UInt8), s5)]) rfl rfl (by rw [optsV_one]; exact cells_new _ _ _) (optsV_ones _) (by unfold maxLen; omega) (by omega) (by simp; omega) ?_; intro v1 w6 hown1 hgr1 _; have Hown1 := Lib.hid hown1; have Hgr1 := Lib.hid hgr1; clear hown1 hgr1; obtain ⟨g1, cap1, rfl⟩ := ownsRow_succ Hown1.out)
      go_meet
      exact ⟨some ⟨g1, 0, none⟩, n2 + 1, cap1, rfl, by omega, by show Pt _ _ _ _ _ _ _ _; rw [HE.out]; exact HPz.out.grown (Nat.le_refl _) Hgr1.out (by rw [optsV_append]; exact Hown1.out) (by rw [List.length_append, List.length_singleton, HPz.out.2.2.1])⟩
    · have q1 : ((x.auth.toNat : Int) == 1) = false := u8_not (n := 1) (u8_isnt (by omega) h1)
      have HE : Hid (gat x ([1] ++ [2]) ++ autA x = gat x ([1] ++ [2])) := by show _ = _; rw [aut_0 h1, List.append_nil]
      clear h1
      go_wp2
      go_meet
      exact ⟨A2, n2, c2, rfl, by omega, by show Pt _ _ _ _ _ _ _ _; rw [HE.out]; exact HP2.out⟩
  case rest =>
  obtain ⟨A3, n3, c3, rfl, hn3, HP3⟩ := hcut
  clear HP2 t3
  generalize hw3 : wc = wc3 at *
  clear hw3
  have t4 : wc3.cell? ⟨w.heap.size, 4, none⟩ = some (.int .u8 x.auth.toNat) := HP3.out.1.c 4
  go_upto_if 34 with (fail)
  go_cut [3] (fun v wx => ∃ (A : Option Addr) (n c : Nat), v = .slice A n c ∧ n ≤ 4 ∧ Hid (Pt x w.heap.size w wx (gat x ([1, 2] ++ [3])) A n c))
  case first =>
    by_cases h1 : x.auth = 2
    · have q1 : ((x.auth.toNat : Int) == 2) = true := u8_is (n := 2) (by rw [h1]; rfl)
      have HE : Hid (gat x ([1, 2] ++ [3]) = gat x ([1] ++ [2]) ++ autA x ++ [((3 : UInt8), bOf (numS 49699 2) ++ (⟨#[5]⟩ : ByteArray))]) := by show _ = _; rw [show (gat x ([1, 2] ++ [3])) = gat x ([1, 2] ++ [3]) from rfl, aut_2 _ h1, numS_two, show (⟨#[5]⟩ : ByteArray) = bOf [5] from rfl, append_bOf, toList_bOf, toList_bOf]; rfl
      clear h1
      have hz : (bOf (numS 49699 2)).size = 2 := by rw [size_bOf, numS_length]
      have Hz := Lib.hid hz
      clear hz
      go_wp2_with fail
      refine (rnum_any 49699 2 _ (by omega) (by omega)).mono ?_
      rintro e w5 ⟨rfl, hb5⟩
      generalize bOf (numS 49699 2) = s5 at *
      have hs5z : s5.size ≤ 2 := by have := Hz.out; omega
      obtain ⟨s6, hs6⟩ : ∃ s6, s5 ++ (⟨#[5]⟩ : ByteArray) = s6 := ⟨_, rfl⟩
      rw [hs6] at HE
      have HP5 := Lib.hid (HP3.out.callee hb5)
      clear hb5
      have HPz := Lib.hid (HP5.out.callee ((Below.refl _ w5).alloc (Nat.le_refl _) (.cells #[.int .u8 3, .string s6] 51)))
      have HO := Lib.hid HP5.out.2.1
      have HSz := HP5.out.2.2.2.size
      go_wp2_with (at_builtin; refine wpList_append_own _ rfl _ _ 30 rfl w.heap.size 51 i0 _ 2 24 Tryz.underlying30 hi hz0 hz1 hz2 rfl (by decide) _ _ _ rfl (HO.out.alloc _) ⟨w5.heap.size, 0, none⟩ 1 1 (optsV [((3 : UInt8), s6)]) rfl rfl (by rw [optsV_one]; exact cells_new _ _ _) (optsV_ones _) (by unfold maxLen; omega) (by omega) (by simp; omega) ?_; intro v1 w6 hown1 hgr1 _; have Hown1 := Lib.hid hown1; have Hgr1 := Lib.hid hgr1; clear hown1 hgr1; obtain ⟨g1, cap1, rfl⟩ := ownsRow_succ Hown1.out)
      go_meet
      exact ⟨some ⟨g1, 0, none⟩, n3 + 1, cap1, rfl, by omega, by show Pt _ _ _ _ _ _ _ _; rw [HE.out]; exact HPz.out.grown (Nat.le_refl _) Hgr1.out (by rw [optsV_append]; exact Hown1.out) (by rw [List.length_append, List.length_singleton, HPz.out.2.2.1])⟩
    · have q1 : ((x.auth.toNat : Int) == 2) = false := u8_not (n := 2) (u8_isnt (by omega) h1)
      have HE : Hid (gat x ([1, 2] ++ [3]) = gat x ([1] ++ [2]) ++ autA x) := aut_n2 [1, 2] h1 HA.out
      clear h1
      go_wp2
      go_meet
      exact ⟨A3, n3, c3, rfl, by omega, by show Pt _ _ _ _ _ _ _ _; rw [HE.out]; exact HP3.out⟩
  case rest =>
  obtain ⟨A4, n4, c4, rfl, hn4, HP4⟩ := hcut
  clear HP3 t4
  generalize hw4 : wc = wc4 at *
  clear hw4
  obtain ⟨b5, Hb5⟩ : ∃ b, Hid (b = x.hg) := ⟨_, rfl⟩
  have t5 : wc4.cell? ⟨w.heap.size, 5, none⟩ = some (.bool b5) := by rw [Hb5.out]; exact HP4.out.1.c 5
  go_upto_if 42 with (fail)
  go_cut [3] (fun v wx => ∃ (A : Option Addr) (n c : Nat), v = .slice A n c ∧ n ≤ 5 ∧ Hid (Pt x w.heap.size w wx (gat x ([1, 2, 3] ++ [5])) A n c))
  case first =>
    cases b5
    · have HE : Hid (gat x ([1, 2, 3] ++ [5]) = gat x ([1, 2] ++ [3])) := gat_f _ 5 Hb5.out.symm
      go_wp2
      go_meet
      exact ⟨A4, n4, c4, rfl, by omega, by show Pt _ _ _ _ _ _ _ _; rw [HE.out]; exact HP4.out⟩
    · have HE : Hid (gat x ([1, 2, 3] ++ [5]) = gat x ([1, 2] ++ [3]) ++ [((5 : UInt8), bOf (numS x.magic.toNat 4))]) := gat_t _ 5 Hb5.out.symm
      have d1 : wc4.cell? ⟨w.heap.size, 6, none⟩ = some (.int .u32 x.magic.toNat) := HP4.out.1.c 6
      have hz : (bOf (numS x.magic.toNat 4)).size ≤ 4 := by rw [size_bOf, numS_length]; omega
      go_wp2_with fail
      refine (rnum_any x.magic.toNat 4 _ (by omega) (by omega)).mono ?_
      rintro e w5 ⟨rfl, hb5⟩
      generalize bOf (numS x.magic.toNat 4) = s5 at *
      have HP5 := Lib.hid (HP4.out.callee hb5)
      clear hb5
      have HPz := Lib.hid (HP5.out.callee ((Below.refl _ w5).alloc (Nat.le_refl _) (.cells #[.int .u8 5, .string s5] 51)))
      have HO := Lib.hid HP5.out.2.1
      have HSz := HP5.out.2.2.2.size
      go_wp2_with (at_builtin; refine wpList_append_own _ rfl _ _ 30 rfl w.heap.size 51 i0 _ 2 24 Tryz.underlying30 hi hz0 hz1 hz2 rfl (by decide) _ _ _ rfl (HO.out.alloc _) ⟨w5.heap.size, 0, none⟩ 1 1 (optsV [((5 : UInt8), s5)]) rfl rfl (by rw [optsV_one]; exact cells_new _ _ _) (optsV_ones _) (by unfold maxLen; omega) (by omega) (by simp; omega) ?_; intro v1 w6 hown1 hgr1 _; have Hown1 := Lib.hid hown1; have Hgr1 := Lib.hid hgr1; clear hown1 hgr1; obtain ⟨g1, cap1, rfl⟩ := ownsRow_succ Hown1.out)
      go_meet
      exact ⟨some ⟨g1, 0, none⟩, n4 + 1, cap1, rfl, by omega, by show Pt _ _ _ _ _ _ _ _; rw [HE.out]; exact HPz.out.grown (Nat.le_refl _) Hgr1.out (by rw [optsV_append]; exact Hown1.out) (by rw [List.length_append, List.length_singleton, HPz.out.2.2.1])⟩
  case rest =>
  obtain ⟨A5, n5, c5, rfl, hn5, HP5⟩ := hcut
  clear HP4 t5
  generalize hw5 : wc = wc5 at *
  clear hw5
  obtain ⟨b6, Hb6⟩ : ∃ b, Hid (b = x.pfc) := ⟨_, rfl⟩
  have t6 : wc5.cell? ⟨w.heap.size, 7, none⟩ = some (.bool b6) := by rw [Hb6.out]; exact HP5.out.1.c 7
  go_upto_if 52 with (fail)
  go_cut [3] (fun v wx => ∃ (A : Option Addr) (n c : Nat), v = .slice A n c ∧ n ≤ 6 ∧ Hid (Pt x w.heap.size w wx (gat x ([1, 2, 3, 5] ++ [7])) A n c))
  case first =>
    cases b6
    · have HE : Hid (gat x ([1, 2, 3, 5] ++ [7]) = gat x ([1, 2, 3] ++ [5])) := gat_f _ 7 Hb6.out.symm
      go_wp2
      go_meet
      exact ⟨A5, n5, c5, rfl, by omega, by show Pt _ _ _ _ _ _ _ _; rw [HE.out]; exact HP5.out⟩
    · have HE : Hid (gat x ([1, 2, 3, 5] ++ [7]) = gat x ([1, 2, 3] ++ [5]) ++ [((7 : UInt8), (⟨#[]⟩ : ByteArray))]) := gat_t _ 7 Hb6.out.symm
      have HPz := Lib.hid (HP5.out.callee ((Below.refl _ wc5).alloc (Nat.le_refl _) (.cells #[.int .u8 7, .string (⟨#[]⟩ : ByteArray)] 51)))
      have HO := Lib.hid HP5.out.2.1
      have HSz := HP5.out.2.2.2.size
      go_wp2_with (at_builtin; refine wpList_append_own _ rfl _ _ 30 rfl w.heap.size 51 i0 _ 2 24 Tryz.underlying30 hi hz0 hz1 hz2 rfl (by decide) _ _ _ rfl (HO.out.alloc _) ⟨wc5.heap.size, 0, none⟩ 1 1 (optsV [((7 : UInt8), (⟨#[]⟩ : ByteArray))]) rfl rfl (by rw [optsV_one]; exact cells_new _ _ _) (optsV_ones _) (by unfold maxLen; omega) (by omega) (by simp; omega) ?_; intro v1 w6 hown1 hgr1 _; have Hown1 := Lib.hid hown1; have Hgr1 := Lib.hid hgr1; clear hown1 hgr1; obtain ⟨g1, cap1, rfl⟩ := ownsRow_succ Hown1.out)
      go_meet
      exact ⟨some ⟨g1, 0, none⟩, n5 + 1, cap1, rfl, by omega, by show Pt _ _ _ _ _ _ _ _; rw [HE.out]; exact HPz.out.grown (Nat.le_refl _) Hgr1.out (by rw [optsV_append]; exact Hown1.out) (by rw [List.length_append, List.length_singleton, HPz.out.2.2.1])⟩
  case rest =>
  obtain ⟨A6, n6, c6, rfl, hn6, HP6⟩ := hcut
  clear HP5 t6
  generalize hw6 : wc = wc6 at *
  clear hw6
  obtain ⟨b7, Hb7⟩ : ∃ b, Hid (b = x.acfc) := ⟨_, rfl⟩
  have t7 : wc6.cell? ⟨w.heap.size, 8, none⟩ = some (.bool b7) := by rw [Hb7.out]; exact HP6.out.1.c 8
  go_upto_if 58 with (fail)
  go_cut [3] (fun v wx => ∃ (A : Option Addr) (n c : Nat), v = .slice A n c ∧ n ≤ 7 ∧ Hid (Pt x w.heap.size w wx (gat x ([1, 2, 3, 5, 7] ++ [8])) A n c))
  case first =>
    cases b7
    · have HE : Hid (gat x ([1, 2, 3, 5, 7] ++ [8]) = gat x ([1, 2, 3, 5] ++ [7])) := gat_f _ 8 Hb7.out.symm
      go_wp2
      go_meet
      exact ⟨A6, n6, c6, rfl, by omega, by show Pt _ _ _ _ _ _ _ _; rw [HE.out]; exact HP6.out⟩
    · have HE : Hid (gat x ([1, 2, 3, 5, 7] ++ [8]) = gat x ([1, 2, 3, 5] ++ [7]) ++ [((8 : UInt8), (⟨#[]⟩ : ByteArray))]) := gat_t _ 8 Hb7.out.symm
      have HPz := Lib.hid (HP6.out.callee ((Below.refl _ wc6).alloc (Nat.le_refl _) (.cells #[.int .u8 8, .string (⟨#[]⟩ : ByteArray)] 51)))
      have HO := Lib.hid HP6.out.2.1
      have HSz := HP6.out.2.2.2.size
      go_wp2_with (at_builtin; refine wpList_append_own _ rfl _ _ 30 rfl w.heap.size 51 i0 _ 2 24 Tryz.underlying30 hi hz0 hz1 hz2 rfl (by decide) _ _ _ rfl (HO.out.alloc _) ⟨wc6.heap.size, 0, none⟩ 1 1 (optsV [((8 : UInt8), (⟨#[]⟩ : ByteArray))]) rfl rfl (by rw [optsV_one]; exact cells_new _ _ _) (optsV_ones _) (by unfold maxLen; omega) (by omega) (by simp; omega) ?_; intro v1 w6 hown1 hgr1 _; have Hown1 := Lib.hid hown1; have Hgr1 := Lib.hid hgr1; clear hown1 hgr1; obtain ⟨g1, cap1, rfl⟩ := ownsRow_succ Hown1.out)
      go_meet
      exact ⟨some ⟨g1, 0, none⟩, n6 + 1, cap1, rfl, by omega, by show Pt _ _ _ _ _ _ _ _; rw [HE.out]; exact HPz.out.grown (Nat.le_refl _) Hgr1.out (by rw [optsV_append]; exact Hown1.out) (by rw [List.length_append, List.length_singleton, HPz.out.2.2.1])⟩
  case rest =>
  obtain ⟨A7, n7, c7, rfl, hn7, HP7⟩ := hcut
  clear HP6 t7
  generalize hw7 : wc = wc7 at *
  clear hw7
  go_wp2
  go_ret
  exact pt_end HP7.out
theorem rput_any (x : Lcp) (w : World) (hx : may x = true) : Calls Tryz.prog 89 #[.agg (lv x).toArray] w (RPutQ x w) :=
  (rput_room x w hx).mono fun _ _ ⟨A, c, h1, h2, h3, _⟩ => ⟨A, c, h1, h2, h3⟩
end Go.Proofs.YtpohcejgblahiaaGreat.Lco
