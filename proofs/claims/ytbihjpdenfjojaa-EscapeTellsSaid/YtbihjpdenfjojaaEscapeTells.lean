/- PROVED: 'halyardlaw03.EscapeTells' returns true for every text, every map and every byte, and leaves them as they were. No condition. -/
import Derived.Test.YtbihjpdenfjojaaEscH
import Derived.Test.YtbihjpdenfjojaaLaw
import Derived.Test.YtbihjpdenfjojaaRows
namespace Go.Proofs.Ytbihjpdenfjojaa.EscapeTells
open Go.ChangeShapes Go.WideShapes Go.ChangeAt Go.RowKit Go.Proofs.Ytbihjpdenfjojaa.Oct Go.Proofs.Ytbihjpdenfjojaa.Row Go.Proofs.Ytbihjpdenfjojaa.Esc Go.Proofs.Ytbihjpdenfjojaa.Law
open Go.ChangeMaps (open_string shut_string)

set_option maxHeartbeats 2000000 in
set_option maxRecDepth 100000 in
theorem walk (s : ByteArray) (a : Nat) (k : Nat) (hs : s.size ≤ maxLen) (ha : a < 4294967296) (hk : k < 256) (w : World) :
    Calls Try.prog 3 #[.string s, .int .u32 a, .int .u8 k] w fun e w' => e = .returned (.bool true) ∧ Below w.heap.size w w' := by
  obtain ⟨b, rfl⟩ : ∃ b : UInt8, b.toNat = k := ⟨UInt8.ofNat k, by rw [UInt8.toNat_ofNat']; omega⟩
  have Ha := Lib.hid ha
  unfold maxLen at hs
  clear ha hk
  by_cases h : 8192 < (s.size : Int)
  · go_enter Try.func3, Try.ntmps3
    go_wp2_with fail
    refine (alive_any _).mono ?_
    rintro e w1 ⟨rfl, hb1⟩
    go_wp2_with fail
    go_ret
    have B1 := hb1
    exact ⟨rfl, B1⟩
  · have h1 : s.size ≤ 1048576 := by omega
    have hx1 := beq_self (bOf (put a s.toList))
    have hx2 := beq_self (getA s)
    have hx3 : (getE s == getE s) = true := by simp
    have hx4 : (mapped a b == mapped a b) = true := by simp
    have hx5 : (((put a s.toList).length : Int) == ((bOf (put a s.toList)).size : Int)) = true := by rw [size_bOf]; simp
    have hx6 := beq_self (bOf (strip a s.toList))
    go_enter Try.func3, Try.ntmps3
    go_wp2_with fail
    refine (get_any s _ h1).mono ?_
    rintro e w1 ⟨rfl, hb1⟩
    go_wp2_with fail
    refine (rget_any s _ h1).mono ?_
    rintro e w2 ⟨rfl, hb2⟩
    go_wp2_with fail
    refine (rput_any s a _ Ha.out h1).mono ?_
    rintro e w3 ⟨rfl, hb3⟩
    go_wp2_with fail
    refine (calls_below_eq (mapped_any a b _ Ha.out)).mono ?_
    rintro e w4 ⟨rfl, hb4⟩
    go_wp2_with fail
    refine (calls_below_eq (rmapped_any a b _ Ha.out)).mono ?_
    rintro e w5 ⟨rfl, hb5⟩
    go_wp2_with fail
    refine (put_any s a _ Ha.out h1).mono ?_
    rintro e w6 ⟨rfl, hb6⟩
    go_wp2_with fail
    refine (size_any s a _ Ha.out h1).mono ?_
    rintro e w7 ⟨rfl, hb7⟩
    go_wp2_with fail
    refine (strip_any s a _ Ha.out h1).mono ?_
    rintro e w8 ⟨rfl, hb8⟩
    go_wp2_with fail
    refine (rstrip_any s a _ Ha.out h1).mono ?_
    rintro e w9 ⟨rfl, hb9⟩
    go_wp2_with fail
    refine (alive_any _).mono ?_
    rintro e w10 ⟨rfl, hb10⟩
    go_wp2_with fail
    go_ret
    have B1 := hb1
    have B2 := B1.trans (hb2.mono B1.size)
    have B3 := B2.trans (hb3.mono B2.size)
    have B4 := B3.trans (hb4.mono B3.size)
    have B5 := B4.trans (hb5.mono B4.size)
    have B6 := B5.trans (hb6.mono B5.size)
    have B7 := B6.trans (hb7.mono B6.size)
    have B8 := B7.trans (hb8.mono B7.size)
    have B9 := B8.trans (hb9.mono B8.size)
    have B10 := B9.trans (hb10.mono B9.size)
    exact ⟨rfl, B10⟩

set_option maxRecDepth 100000 in
theorem lifted (os : Os) (started : os.Started) (H : Type) (enc : TypeId × Value → H) :
    ReturnsInHanded {} Try.checked os 3 .any (Rows.escapeTellsSpec.pre6 enc Try.prog Try.f3 Rows.escapeTellsRow.domain false) (Rows.escapeTellsSpec.post enc Try.prog Try.f3 false true false false) := by
  refine returnsInHanded_of_change (C := Try.checked) own started (by kernel_rfl) Try.func3
    (ChangeSpec.witness6 (enc := enc) (C := Try.checked) false ⟨#[], #[.string ByteArray.empty, .int .u32 0, .int .u8 0], []⟩ 8 (by kernel_rfl) (by kernel_rfl) (by kernel_rfl) (by kernel_rfl)) ?_
  intro W base args ds gs before hval0 hW hcnd _
  have hval : ∀ (j : Nat) t v, Try.f3.params[j]? = some t → args[j]? = some v → Value.okWide Try.prog W .any base t v := hval0
  have hW' := hW
  obtain ⟨p, q, hA0, hV, rfl, hfz, hnd⟩ := hW
  have hlt := hW'.lt
  have hA : DataW.TrodAll enc Try.prog W 0 (fun _ => true) true Try.f3.params.toList args.toList ds p := hA0
  rw [Try.params3] at hA hval
  obtain ⟨v0, vs0, d0, ds0, p0, q0, hargs, rfl, rfl, h0, r0⟩ := trodAll_cons hA
  obtain ⟨v1, vs1, d1, ds1, p1, q1, rfl, rfl, rfl, h1, r1⟩ := trodAll_cons r0
  obtain ⟨v2, vs2, d2, ds2, p2, q2, rfl, rfl, rfl, h2, r2⟩ := trodAll_cons r1
  obtain ⟨rfl, rfl, rfl⟩ := trodAll_nil r2
  obtain rfl : args = #[v0, v1, v2] := by cases args; simp_all
  obtain ⟨rfl, rfl⟩ := trodVars_none hV
  obtain ⟨a0, rfl, rfl, rfl, w0⟩ := open_string Try.underlying9 (hval 0 9 v0 rfl rfl) h0
  obtain ⟨z1, rfl, rfl, rfl, w1⟩ := open_int Try.underlying22 (hval 1 22 v1 rfl rfl) h1
  obtain ⟨a1, rfl⟩ : ∃ n : Nat, z1 = n := ⟨z1.toNat, by have := bounds_u32 w1; omega⟩
  have b1 := bounds_u32 w1
  obtain ⟨z2, rfl, rfl, rfl, w2⟩ := open_int Try.underlying5 (hval 2 5 v2 rfl rfl) h2
  obtain ⟨a2, rfl⟩ : ∃ n : Nat, z2 = n := ⟨z2.toNat, by have := bounds_u8 w2; omega⟩
  have b2 := bounds_u8 w2
  clear hA0 hval0
  exact (walk a0 a1 a2 w0 (by omega) (by omega) W).mono fun e W' ⟨he, hb⟩ => ⟨_, he, law_post (t := 4) laidOut (by kernel_rfl) rfl rfl Try.underlying4 ⟨rfl, rfl, rfl⟩ hW' hb⟩

theorem over : Rows.escapeTellsRow.holds Try.pinned (OpenSpec.ofChange Rows.escapeTellsSpec) :=
  OpenClaim.holds_of_wide 3 Try.f3 rfl rfl rfl rfl rfl rfl rfl ⟨rfl, rfl, rfl, rfl, rfl⟩ rfl rfl rfl rfl rfl (by kernel_rfl) Try.func3 (by kernel_rfl)
    (of_decide_eq_true (by kernel_rfl)) (by unfold Func.isWrapper; first | (rw [if_pos (by decide +kernel)]; kernel_rfl) | (rw [if_neg (by decide +kernel)]; exact ⟨rfl, rfl⟩))
    (fun os started H enc _ => lifted os started H enc)

theorem proved : Rows.EscapeTellsSaid :=
  over
#print axioms proved
end Go.Proofs.Ytbihjpdenfjojaa.EscapeTells
