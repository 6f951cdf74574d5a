/- PROVED: 'halyardlaw02.FcsBursts' returns true for every text, wherever the bits begin, whichever of 16, and leaves them as they were. No condition. -/
import Derived.Test.YtikgcngolicbfaaFcsG
import Derived.Test.YtikgcngolicbfaaLaw
import Derived.Test.YtikgcngolicbfaaRows
import Derived.Test.YtikgcngolicbfaaFcsBurst
import Derived.Test.YtikgcngolicbfaaBytes
import Derived.SizedLaws
namespace Go.Proofs.Ytikgcngolicbfaa.FcsBursts
open Go.ChangeShapes Go.WideShapes Go.ChangeAt Go.RowKit Go.Proofs.Ytikgcngolicbfaa.Oct Go.Proofs.Ytikgcngolicbfaa.Fcs Go.Proofs.Ytikgcngolicbfaa.Law
open Go.ChangeMaps (open_string shut_string)

theorem xor_byte (x : UInt8) (r : Nat) (h : r < 8) : bits .xor .u8 (x.toNat : Int) (2 ^ r % 256) = ((x ^^^ UInt8.ofNat (2 ^ r)).toNat : Int) := by
  have hp : 2 ^ r < 256 := Nat.pow_lt_pow_right (n := 8) (by omega) (by omega)
  have e : ((2 : Int) ^ r % 256) = ((2 ^ r : Nat) : Int) := by
    rw [show ((2 : Int) ^ r) = ((2 ^ r : Nat) : Int) from by simp]
    clear h; generalize 2 ^ r = q at *; omega
  rw [e, u8_xor_nat _ _ x.toNat_lt hp, UInt8.toNat_xor, UInt8.toNat_ofNat', Nat.mod_eq_of_lt hp]
theorem shr_bit (v i : Nat) : (((v : Int) / 2 ^ i).tmod 2 == 1) = v.testBit i := by
  rw [Nat.testBit_eq_decide_div_mod_eq, show ((2 : Int) ^ i) = ((2 ^ i : Nat) : Int) from by simp, ← Int.natCast_ediv]
  generalize v / 2 ^ i = q
  rw [Int.tmod_eq_emod_of_nonneg (by omega)]
  by_cases e : q % 2 = 1
  · have : (q : Int) % 2 = 1 := by omega
    simp [e, this]
  · have : ¬ (q : Int) % 2 = 1 := by omega
    simp [e, this]

set_option maxHeartbeats 4000000 in
set_option maxRecDepth 100000 in
theorem walk (s : ByteArray) (p v : Nat) (hs : s.size ≤ maxLen) (hp : p < 65536) (hv : v < 65536) (w : World) :
    Calls Try.prog 5 #[.string s, .int .u16 p, .int .u16 v] w fun e w' => e = .returned (.bool true) ∧ Below w.heap.size w w' := by
  unfold maxLen at hs
  have Hv := Lib.hid hv
  have hv1 : (0 : Int) ≤ v := by omega
  have hv2 : (v : Int) ≤ 65535 := by omega
  have hp1 : (0 : Int) ≤ p := by omega
  have hp2 : (p : Int) ≤ 65535 := by omega
  clear hv hp
  by_cases h : 4096 < (s.size : Int)
  · go_enter Try.func5, Try.ntmps5
    go_wp2_with fail
    refine (alive_any _).mono ?_
    rintro e w1 ⟨rfl, hb1⟩
    go_wp2_with fail
    go_ret
    have B1 := hb1
    exact ⟨rfl, B1⟩
  · by_cases h0 : v = 0
    · subst h0
      go_enter Try.func5, Try.ntmps5
      go_wp2_with fail
      refine (alive_any _).mono ?_
      rintro e w1 ⟨rfl, hb1⟩
      go_wp2_with fail
      go_ret
      have B1 := hb1
      exact ⟨rfl, B1⟩
    · have Hz : Hid ((bOf (seal_ s.toList)).size = s.size + 2) := by show _ = _; rw [size_bOf, seal_length, ← size_toList]
      have HG : Hid (good (bOf (seal_ s.toList)).toList = true) := by show _ = _; rw [toList_bOf]; exact good_seal _
      have h3 : s.size ≤ 1048576 := by omega
      have hv0 : ((v : Int) == 0) = false := by simp; omega
      have H0 := Lib.hid h0
      clear h0
      have hcv := fun w s => run_bytes_of_string (P := Try.prog) w 9 33 5 s Try.underlying9 Try.underlying33 Try.underlying5
      go_enter Try.func5, Try.ntmps5
      go_wp2_with fail
      refine (seal_any s _ h3).mono ?_
      generalize bOf (seal_ s.toList) = T at *
      rintro e w1 ⟨rfl, hb1⟩
      have hT0 : ((T.size : Int) != (s.size : Int) + 2) = false := by have := Hz.out; simp; omega
      have hT1 : (2 : Int) ≤ T.size := by have := Hz.out; omega
      have hT2 : (T.size : Int) ≤ 4098 := by have := Hz.out; omega
      go_wp2
      have HY := Lib.hid (bytes_made w1 T 5 (grownCap w1 T.size 0 5))
      have HW : Hid (Below w.heap.size w (w1.drew.alloc (.cells (bytesRow T (grownCap w1 T.size 0 5)) 5 ((bytesRow T (grownCap w1 T.size 0 5)).size, (bytesRow T (grownCap w1 T.size 0 5)).size + 1)))) := hb1.drew.alloc hb1.size _
      have Hg := Lib.hid hb1.size
      clear hb1 hcv
      obtain ⟨N, hN, hN2⟩ : ∃ N : Nat, (p : Int) % (8 * (T.size : Int) - 15) = (N : Int) ∧ N + 16 ≤ 8 * T.size := by
        have h1 := Int.emod_nonneg (p : Int) (b := 8 * (T.size : Int) - 15) (by omega)
        have h2 := Int.emod_lt_of_pos (p : Int) (b := 8 * (T.size : Int) - 15) (by omega)
        exact ⟨((p : Int) % (8 * (T.size : Int) - 15)).toNat, by omega, by omega⟩
      rw [hN]
      clear hN
      change Hid (Bytes (w1.alloc (.cells (bytesRow T (grownCap w1 T.size 0 5)) 5 ((bytesRow T (grownCap w1 T.size 0 5)).size, (bytesRow T (grownCap w1 T.size 0 5)).size + 1))).drew w1.heap.size T.toList) at HY
      change Hid (Below w.heap.size w (w1.alloc (.cells (bytesRow T (grownCap w1 T.size 0 5)) 5 ((bytesRow T (grownCap w1 T.size 0 5)).size, (bytesRow T (grownCap w1 T.size 0 5)).size + 1))).drew) at HW
      generalize (w1.alloc (.cells (bytesRow T (grownCap w1 T.size 0 5)) 5 ((bytesRow T (grownCap w1 T.size 0 5)).size, (bytesRow T (grownCap w1 T.size 0 5)).size + 1))).drew = W1 at *
      generalize grownCap w1 T.size 0 5 = cap at *
      generalize w1.heap.size = g at *
      go_loopw [10] (fun x wr => ∃ i : Nat, i ≤ 16 ∧ x = .int .i64 i ∧ Hid (∃ l : List UInt8, l.length = T.size ∧ Bytes wr g l ∧ ∀ j, j < 8 * T.size → bitAt l j = (bitAt T.toList j ^^ err N i v j)) ∧ Below w.heap.size w wr) (fun x _ => 16 - (intOf x).toNat)
      case atStart => exact ⟨0, Nat.zero_le _, rfl, ⟨T.toList, by rw [← size_toList], HY.out, fun j _ => by rw [err_zero, Bool.xor_false]⟩, HW.out⟩
      case round =>
        obtain ⟨i, hi, rfl, ⟨l, hl, hB, hbit⟩, hb⟩ := hrel
        have Hl := Lib.hid hl
        have HB := Lib.hid hB
        have Hbit := Lib.hid hbit
        have Hb := Lib.hid hb
        clear hl hB hbit hb
        by_cases hlt : i < 16
        · have hi1 : (0 : Int) ≤ i := by omega
          have hi2 : (i : Int) < 64 := by omega
          have HT := Lib.hid (shr_bit v i)
          obtain ⟨x, hcell, hfz, hx⟩ := HB.out.at_ ((N + i) / 8) (by rw [Hl.out]; omega)
          have HX := Lib.hid hx
          have hD2 : (N + i) / 8 < T.size := by omega
          clear hx
          cases htb : v.testBit i
          · have hte : (((v : Int) / 2 ^ i).tmod 2 == 1) = false := by rw [HT.out, htb]
            have HE := Lib.hid (err_no N i v htb)
            clear htb
            go_wp2
            go_roundw
            case rel => exact ⟨i + 1, by omega, by go_num, ⟨l, Hl.out, HB.out, fun j hj => by rw [HE.out]; exact Hbit.out j hj⟩, Hb.out⟩
            case measure => simp [intOf]; omega
          · have hte : (((v : Int) / 2 ^ i).tmod 2 == 1) = true := by rw [HT.out, htb]
            have HE := Lib.hid (err_yes N i v htb)
            clear htb
            have HXB := Lib.hid (xor_byte x ((N + i) % 8) (by omega))
            have hset := HB.out.set ((N + i) / 8) (x ^^^ UInt8.ofNat (2 ^ ((N + i) % 8)))
            rw [← HXB.out] at hset
            have Hset := Lib.hid hset
            clear hset
            go_wp2
            go_roundw
            case rel =>
              refine ⟨i + 1, by omega, by go_num, ⟨flipAt l (N + i), (flipAt_length _ _).trans Hl.out, ?_, fun j hj => ?_⟩, Hb.out.setCell (p := ⟨g, (N + i) / 8, none⟩) Hg.out _⟩
              · unfold flipAt; rw [HX.out]; exact Hset.out
              · rw [HE.out, bitAt_flip _ _ _ (by have := Hl.out; omega), Hbit.out j hj, Bool.xor_assoc]
            case measure => simp [intOf]; omega
        · obtain rfl : i = 16 := by omega
          have hcv := conv_bytes (c := cap) Try.underlying33 Try.underlying5 Try.underlying9 HB.out Hl.out
          have Hbad : Hid (good (bOf l).toList = false) := by
            show _ = _
            rw [toList_bOf]
            have hz : T.toList.length = T.size := (size_toList T).symm
            exact burst T.toList l N v (by rw [Hl.out, hz]) (by rw [hz]; exact hN2) H0.out Hv.out (by rw [hz]; exact Hbit.out) HG.out
          have Hsz : Hid ((bOf l).size = T.size) := by show _ = _; rw [size_bOf, Hl.out]
          have HA : Hid (openA (bOf l) = bOf [] ∧ openE (bOf l) = 7) := by
            have h1 : ¬ (bOf l).size < 2 := by rw [Hsz.out]; omega
            show _ ∧ _
            unfold openA openE
            rw [if_neg h1, if_neg h1, Hbad.out]
            exact ⟨rfl, rfl⟩
          have Hle : Hid ((bOf l).size ≤ 1048576) := by show _ ≤ _; rw [Hsz.out]; omega
          have hgl : g < wr.heap.size := World.block_lt_of_cell? wr ⟨g, 0, none⟩ (HB.out 0 (by rw [Hl.out]; omega)).1
          go_wp2_with fail
          refine (open_any (bOf l) _ Hle.out).mono ?_
          rw [HA.out.1, HA.out.2]
          rintro e w2 ⟨rfl, hb2⟩
          have hcv2 := conv_bytes (c := cap) Try.underlying33 Try.underlying5 Try.underlying9 (HB.out.below hb2 hgl) Hl.out
          go_wp2_with fail
          refine (good_any (bOf l) _ Hle.out).mono ?_
          rw [Hbad.out]
          rintro e w3 ⟨rfl, hb3⟩
          go_wp2_with fail
          refine (alive_any _).mono ?_
          rintro e w4 ⟨rfl, hb4⟩
          go_wp2_with fail
          go_ret
          have B2 := Hb.out.trans (hb2.mono Hb.out.size)
          have B3 := B2.trans (hb3.mono B2.size)
          exact ⟨rfl, B3.trans (hb4.mono B3.size)⟩

set_option maxRecDepth 100000 in
theorem lifted (os : Os) (started : os.Started) (H : Type) (enc : TypeId × Value → H) :
    ReturnsInHanded {} Try.checked os 5 .any (Rows.fcsBurstsSpec.pre6 enc Try.prog Try.f5 Rows.fcsBurstsRow.domain false) (Rows.fcsBurstsSpec.post enc Try.prog Try.f5 false true false false) := by
  refine returnsInHanded_of_change (C := Try.checked) own started (by kernel_rfl) Try.func5
    (ChangeSpec.witness6 (enc := enc) (C := Try.checked) false ⟨#[], #[.string ByteArray.empty, .int .u16 0, .int .u16 0], []⟩ 8 (by kernel_rfl) (by kernel_rfl) (by kernel_rfl) (by kernel_rfl)) ?_
  intro W base args ds gs before hval0 hW hcnd _
  have hval : ∀ (j : Nat) t v, Try.f5.params[j]? = some t → args[j]? = some v → Value.okWide Try.prog W .any base t v := hval0
  have hW' := hW
  obtain ⟨p, q, hA0, hV, rfl, hfz, hnd⟩ := hW
  have hlt := hW'.lt
  have hA : DataW.TrodAll enc Try.prog W 0 (fun _ => true) true Try.f5.params.toList args.toList ds p := hA0
  rw [Try.params5] at hA hval
  obtain ⟨v0, vs0, d0, ds0, p0, q0, hargs, rfl, rfl, h0, r0⟩ := trodAll_cons hA
  obtain ⟨v1, vs1, d1, ds1, p1, q1, rfl, rfl, rfl, h1, r1⟩ := trodAll_cons r0
  obtain ⟨v2, vs2, d2, ds2, p2, q2, rfl, rfl, rfl, h2, r2⟩ := trodAll_cons r1
  obtain ⟨rfl, rfl, rfl⟩ := trodAll_nil r2
  obtain rfl : args = #[v0, v1, v2] := by cases args; simp_all
  obtain ⟨rfl, rfl⟩ := trodVars_none hV
  obtain ⟨a0, rfl, rfl, rfl, w0⟩ := open_string Try.underlying9 (hval 0 9 v0 rfl rfl) h0
  obtain ⟨z1, rfl, rfl, rfl, w1⟩ := open_int Try.underlying22 (hval 1 22 v1 rfl rfl) h1
  obtain ⟨a1, rfl⟩ : ∃ n : Nat, z1 = n := ⟨z1.toNat, by have := bounds_u16 w1; omega⟩
  have b1 := bounds_u16 w1
  obtain ⟨z2, rfl, rfl, rfl, w2⟩ := open_int Try.underlying22 (hval 2 22 v2 rfl rfl) h2
  obtain ⟨a2, rfl⟩ : ∃ n : Nat, z2 = n := ⟨z2.toNat, by have := bounds_u16 w2; omega⟩
  have b2 := bounds_u16 w2
  clear hA0 hval0
  exact (walk a0 a1 a2 w0 (by omega) (by omega) W).mono fun e W' ⟨he, hb⟩ => ⟨_, he, law_post (t := 4) laidOut (by kernel_rfl) rfl rfl Try.underlying4 ⟨rfl, rfl, rfl⟩ hW' hb⟩

theorem over : Rows.fcsBurstsRow.holds Try.pinned (OpenSpec.ofChange Rows.fcsBurstsSpec) :=
  OpenClaim.holds_of_wide 5 Try.f5 rfl rfl rfl rfl rfl rfl rfl ⟨rfl, rfl, rfl, rfl, rfl⟩ rfl rfl rfl rfl rfl (by kernel_rfl) Try.func5 (by kernel_rfl)
    (of_decide_eq_true (by kernel_rfl)) (by unfold Func.isWrapper; first | (rw [if_pos (by decide +kernel)]; kernel_rfl) | (rw [if_neg (by decide +kernel)]; exact ⟨rfl, rfl⟩))
    (fun os started H enc _ => lifted os started H enc)

theorem proved : Rows.FcsBurstsSaid :=
  over
#print axioms proved
end Go.Proofs.Ytikgcngolicbfaa.FcsBursts
