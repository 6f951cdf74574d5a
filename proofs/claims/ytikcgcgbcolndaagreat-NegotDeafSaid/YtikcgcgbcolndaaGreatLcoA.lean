/- The struct in a block; contracts of authData and authKind. -/
import Derived.Test.YtikcgcgbcolndaaGreatG17
import Derived.Test.YtikcgcgbcolndaaGreatG1
import Derived.Deep.RegionHeld3
namespace Go.Proofs.YtikcgcgbcolndaaGreat.Lco
open Go.RowKit Go.Proofs.YtikcgcgbcolndaaGreat.Oct Go.Proofs.YtikcgcgbcolndaaGreat.Row Go.Proofs.YtikcgcgbcolndaaGreat.Mem Go.Proofs.YtikcgcgbcolndaaGreat.Opt

/-- The struct lies in block g. -/
def LAt (W : World) (g : Nat) (x : Lcp) : Prop := Blk W g (lv x) 42
theorem LAt.callee {W W' : World} {g : Nat} {x : Lcp} (h : LAt W g x) (hb : Below W.heap.size W W') : LAt W' g x := Blk.callee h hb
theorem LAt.below {W W' : World} {g n : Nat} {x : Lcp} (h : LAt W g x) (hb : Below n W W') (hg : g < n) : LAt W' g x := Blk.below h hb hg
theorem LAt.alloc {W : World} {g : Nat} {x : Lcp} (h : LAt W g x) (o : Obj) : LAt (W.alloc o) g x := Blk.alloc h o
theorem LAt.lt {W : World} {g : Nat} {x : Lcp} (h : LAt W g x) : g < W.heap.size := Blk.lt h
theorem lat_new (W : World) (x : Lcp) : LAt (W.alloc (.cells (lv x).toArray 42)) W.heap.size x := blk_new W (lv x) _
theorem LAt.c {W : World} {g : Nat} {x : Lcp} (h : LAt W g x) (i : Nat) : W.cell? ⟨g, i, none⟩ = (lv x)[i]? := Blk.at_ h i
theorem LAt.f {W : World} {g : Nat} {x : Lcp} (h : LAt W g x) (i : Nat) : W.frozen? ⟨g, i, none⟩ = false := Blk.frozen h i

theorem authD_1 : authD 1 = bOf [192, 35] := rfl
theorem authD_2 : authD 2 = bOf [194, 35, 5] := rfl
theorem u8_is {a : UInt8} {n : Nat} (h : a.toNat = n) : ((a.toNat : Int) == (n : Int)) = true := by rw [h]; simp
theorem u8_not {a : UInt8} {n : Nat} (h : ¬ a.toNat = n) : ((a.toNat : Int) == (n : Int)) = false := by rw [beq_eq_false_iff_ne]; omega
theorem u8_isnt {a : UInt8} {n : Nat} (hn : n < 256) (h : ¬ a = UInt8.ofNat n) : ¬ a.toNat = n := fun e => h (UInt8.toNat_inj.1 (by rw [UInt8.toNat_ofNat']; omega))
set_option maxHeartbeats 400000 in
set_option maxRecDepth 100000 in
theorem authData_any (a : UInt8) (w : World) :
    Calls Tryz.prog 196 #[.int .u8 a.toNat] w fun e w' => e = .returned (.string (authD a)) ∧ Below w.heap.size w w' := by
  by_cases h1 : a = 1
  · have hv : bOf (numS 49187 2) = authD a := by rw [numS_two, h1]; rfl
    have hx : ((a.toNat : Int) == 1) = true := u8_is (n := 1) (by rw [h1]; rfl)
    have H := Lib.hid hv; clear hv h1
    go_enter Tryz.func196, Tryz.ntmps196
    go_wp2_with fail
    refine (put16_any 49187 _ (by omega)).mono ?_
    rintro e w1 ⟨rfl, hb1⟩
    have HB1 := Lib.hid hb1; clear hb1
    go_wp2
    go_ret
    exact ⟨by rw [H.out] <;> rfl, HB1.out⟩
  · have hx1 : ((a.toNat : Int) == 1) = false := u8_not (n := 1) (u8_isnt (by omega) h1)
    by_cases h2 : a = 2
    · have hx : ((a.toNat : Int) == 2) = true := u8_is (n := 2) (by rw [h2]; rfl)
      have hv : bOf (numS 49699 2) ++ (⟨#[5]⟩ : ByteArray) = authD a := by rw [numS_two, show (⟨#[5]⟩ : ByteArray) = bOf [5] from rfl, append_bOf, toList_bOf, toList_bOf, h2]; rfl
      have hz : (bOf (numS 49699 2)).size = 2 := by rw [size_bOf, numS_length]
      have H := Lib.hid hv; clear hv
      have HZ := Lib.hid hz; clear hz h1 h2
      go_enter Tryz.func196, Tryz.ntmps196
      go_wp2_with fail
      refine (put16_any 49699 _ (by omega)).mono ?_
      rintro e w1 ⟨rfl, hb1⟩
      have HB1 := Lib.hid hb1; clear hb1
      generalize bOf (numS 49699 2) = s at *
      have hz1 : s.size ≤ 2 := by have := HZ.out; omega
      go_wp2
      go_ret
      exact ⟨by rw [H.out] <;> rfl, HB1.out⟩
    · have hx : ((a.toNat : Int) == 2) = false := u8_not (n := 2) (u8_isnt (by omega) h2)
      have hv : authD a = bOf [] := by unfold authD; rw [if_neg h1, if_neg h2]
      have H := Lib.hid hv; clear hv h1 h2
      go_enter Tryz.func196, Tryz.ntmps196
      go_wp2
      go_ret
      exact ⟨by rw [H.out]; rfl, Below.refl _ _⟩
theorem txt_is {s t : ByteArray} (h : s = t) : (s.toList == t.toList) = true := by rw [h]; simp
theorem txt_not {s t : ByteArray} (h : ¬ s = t) : (s.toList == t.toList) = false := by rw [beq_toList]; exact decide_eq_false fun e => h (toList_inj e)
set_option maxHeartbeats 400000 in
set_option maxRecDepth 100000 in
theorem authKind_any (s : ByteArray) (w : World) :
    Calls Tryz.prog 198 #[.string s] w fun e w' => e = .returned (.int .u8 (authK s).toNat) ∧ Below w.heap.size w w' := by
  have C1 : ∀ w, Calls Tryz.prog 196 #[.int .u8 1] w fun e w' => e = .returned (.string (authD 1)) ∧ Below w.heap.size w w' := fun w => authData_any 1 w
  have C2 : ∀ w, Calls Tryz.prog 196 #[.int .u8 2] w fun e w' => e = .returned (.string (authD 2)) ∧ Below w.heap.size w w' := fun w => authData_any 2 w
  have HC1 := Lib.hid C1; clear C1
  have HC2 := Lib.hid C2; clear C2
  by_cases h1 : s = authD 1
  · have h3 := txt_is h1
    have H : Hid ((authK s).toNat = 1) := by show _ = _; unfold authK; rw [← authD_1, if_pos h1]; rfl
    clear h1
    generalize authD 1 = p at *
    go_enter Tryz.func198, Tryz.ntmps198
    go_wp2_with fail
    refine (HC1.out _).mono ?_
    rintro e w1 ⟨rfl, hb1⟩
    have HB1 := Lib.hid hb1; clear hb1
    go_wp2
    go_ret
    exact ⟨by rw [H.out]; rfl, HB1.out⟩
  · have h3 := txt_not h1
    by_cases h2 : s = authD 2
    · have h4 := txt_is h2
      have H : Hid ((authK s).toNat = 2) := by show _ = _; unfold authK; rw [← authD_1, if_neg h1, ← authD_2, if_pos h2]; rfl
      clear h1 h2
      generalize authD 1 = p at *
      generalize authD 2 = q at *
      go_enter Tryz.func198, Tryz.ntmps198
      go_wp2_with fail
      refine (HC1.out _).mono ?_
      rintro e w1 ⟨rfl, hb1⟩
      have HB1 := Lib.hid hb1; clear hb1
      go_wp2_with fail
      refine (HC2.out _).mono ?_
      rintro e w2 ⟨rfl, hb2⟩
      have HB2 := Lib.hid (HB1.out.trans (hb2.mono HB1.out.size)); clear hb2
      go_wp2
      go_ret
      exact ⟨by rw [H.out]; rfl, HB2.out⟩
    · have h4 := txt_not h2
      have H : Hid ((authK s).toNat = 0) := by show _ = _; unfold authK; rw [← authD_1, if_neg h1, ← authD_2, if_neg h2]; rfl
      clear h1 h2
      generalize authD 1 = p at *
      generalize authD 2 = q at *
      go_enter Tryz.func198, Tryz.ntmps198
      go_wp2_with fail
      refine (HC1.out _).mono ?_
      rintro e w1 ⟨rfl, hb1⟩
      have HB1 := Lib.hid hb1; clear hb1
      go_wp2_with fail
      refine (HC2.out _).mono ?_
      rintro e w2 ⟨rfl, hb2⟩
      have HB2 := Lib.hid (HB1.out.trans (hb2.mono HB1.out.size)); clear hb2
      go_wp2
      go_ret
      exact ⟨by rw [H.out]; rfl, HB2.out⟩
end Go.Proofs.YtikcgcgbcolndaaGreat.Lco
