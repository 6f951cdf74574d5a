/- PROVED: 'halyardlaw02.FcsLinear' returns true for every two registers and every two texts, and leaves them as they were. No condition. -/
import Derived.Test.YtikgcngolicbfaaFcsG
import Derived.Test.YtikgcngolicbfaaLaw
import Derived.Test.YtikgcngolicbfaaRows
import Derived.Test.YtikgcngolicbfaaBytes
import Derived.Deep.RegionHeld3
import Derived.SizedLaws
namespace Go.Proofs.Ytikgcngolicbfaa.FcsLinear
open Go.ChangeShapes Go.WideShapes Go.ChangeAt Go.RowKit Go.Proofs.Ytikgcngolicbfaa.Oct Go.Proofs.Ytikgcngolicbfaa.Fcs Go.Proofs.Ytikgcngolicbfaa.Law
open Go.ChangeMaps (open_string shut_string)

theorem Try.info5 : (Try.prog.info? 5).map (fun i => (i.zero, i.size, i.bytes)) = some (some (.int .u8 0), 1, 1) := by kernel_rfl
theorem xor_u8 (x y : UInt8) : bits .xor .u8 (x.toNat : Int) (y.toNat : Int) = ((x ^^^ y).toNat : Int) := by
  rw [u8_xor_nat _ _ x.toNat_lt y.toNat_lt, UInt8.toNat_xor]
theorem zip_of (s t u : List UInt8) (ht : t.length = s.length) (hu : u.length = s.length) (h : ∀ j, j < s.length → u.getD j 0 = s.getD j 0 ^^^ t.getD j 0) : u = List.zipWith (· ^^^ ·) s t := by
  apply List.ext_getElem
  · simp [ht, hu]
  · intro j h1 h2
    have := h j (by omega)
    rw [List.getD_eq_getElem?_getD, List.getD_eq_getElem?_getD, List.getD_eq_getElem?_getD, List.getElem?_eq_getElem h1, List.getElem?_eq_getElem (by omega), List.getElem?_eq_getElem (by omega)] at this
    simpa using this

set_option maxHeartbeats 4000000 in
set_option maxRecDepth 100000 in
theorem walk (c d : Nat) (s y : ByteArray) (hc : c < 65536) (hd : d < 65536) (hs : s.size ≤ maxLen) (hy : y.size ≤ maxLen) (w : World) :
    Calls Try.prog 6 #[.int .u16 c, .int .u16 d, .string s, .string y] w fun e w' => e = .returned (.bool true) ∧ Below w.heap.size w w' := by
  unfold maxLen at hs hy
  have Hc := Lib.hid hc
  have Hd := Lib.hid hd
  clear hc hd
  by_cases h : 4096 < (s.size : Int)
  · go_enter Try.func6, Try.ntmps6
    go_wp2_with fail
    refine (alive_any _).mono ?_
    rintro e w1 ⟨rfl, hb1⟩
    go_wp2_with fail
    go_ret
    have B1 := hb1
    exact ⟨rfl, B1⟩
  · obtain ⟨i0, hi, hz0, hz1, hz2⟩ := info_parts Try.info5
    go_enter Try.func6, Try.ntmps6
    go_wp2_with (first
      | (refine wpList_make_full w rfl _ _ 33 rfl w.heap.size 5 i0 (.int .u8 0) 1 Try.underlying33 hi hz0 hz1 .i64 .i64 s.size s.size s.size rfl rfl rfl rfl (by rw [hz2]; omega) (by unfold maxLen; omega) (Nat.le_refl _) ?_; intro w1 hown1 hgr1; have Hown1 := Lib.hid hown1; clear hown1; have Hgr1 := Lib.hid hgr1; clear hgr1)
      | (refine wpList_make_full w1 rfl _ _ 33 rfl w.heap.size 5 i0 (.int .u8 0) 1 Try.underlying33 hi hz0 hz1 .i64 .i64 s.size s.size s.size rfl rfl rfl rfl (by rw [hz2]; omega) (by unfold maxLen; omega) Hgr1.out.size ?_; intro w2 hown2 hgr2; have Hown2 := Lib.hid hown2; clear hown2; have Hgr2 := Lib.hid hgr2; clear hgr2))
    have HlT := Lib.hid (Hown1.out.lt _ rfl).2
    have HT2 : Hid (Bytes w2 w.heap.size (List.replicate s.size 0)) := (bytes_zero (z := .int .u8 0) rfl Hown1.out).grown Hgr2.out
    have HU2 : Hid (Bytes w2 w1.heap.size (List.replicate s.size 0)) := bytes_zero (z := .int .u8 0) rfl Hown2.out
    have HB2 : Hid (Below w.heap.size w w2) := ((Below.refl w.heap.size w).grown Hgr1.out (Nat.le_refl _) (fun _ e => by cases e)).grown Hgr2.out Hgr1.out.size (fun _ e => by cases e)
    have hgg : w.heap.size < w1.heap.size := HlT.out
    clear HlT Hown1 Hown2 Hgr1 Hgr2 hi hz0 hz1 hz2
    have Hs : Hid (s.toList.length = s.size) := (size_toList s).symm
    generalize hgT : w.heap.size = gT at *
    generalize w1.heap.size = gU at *
    have HgT := Lib.hid hgT
    clear hgT
    go_loopw [11] (fun x wr => ∃ i : Nat, i ≤ s.size ∧ x = .int .i64 i ∧ Hid (∃ tl ul : List UInt8, tl.length = s.size ∧ ul.length = s.size ∧ Bytes wr gT tl ∧ Bytes wr gU ul ∧ ∀ j, j < i → ul.getD j 0 = s.toList.getD j 0 ^^^ tl.getD j 0) ∧ Hid (Below gT w wr)) (fun x _ => s.size - (intOf x).toNat)
    case atStart => exact ⟨0, Nat.zero_le _, rfl, ⟨_, _, List.length_replicate, List.length_replicate, HT2.out, HU2.out, fun j hj => absurd hj (Nat.not_lt_zero _)⟩, HB2⟩
    case round =>
      obtain ⟨i, hi, rfl, ⟨tl, ul, hl1, hl2, hT, hU, hx⟩, Hb⟩ := hrel
      have HL1 := Lib.hid hl1
      have HL2 := Lib.hid hl2
      have HT := Lib.hid hT
      have HU := Lib.hid hU
      have HX := Lib.hid hx
      clear hl1 hl2 hT hU hx
      by_cases hlt : i < s.size
      · have hi1 : (0 : Int) ≤ i := by omega
        have hi2 : (i : Int) < s.size := by omega
        obtain ⟨x, hsx, HSX⟩ : ∃ x : UInt8, s[i] = x ∧ Hid (s.toList.getD i 0 = x) := ⟨s[i], rfl, by show _ = _; rw [List.getD_eq_getElem?_getD, List.getElem?_eq_getElem (by rw [← size_toList]; exact hlt), getElem_toList]; rfl⟩
        by_cases hy0 : y.size = 0
        · have hy1 : decide (0 < y.size) = false := decide_eq_false (by omega)
          have Hy0 := Lib.hid hy0
          clear hy0
          go_wp2_with fail
          obtain ⟨tk, HTk, HLk, HXk⟩ : ∃ tk : List UInt8, Hid (Bytes wr gT tk) ∧ Hid (tk.length = s.size) ∧ Hid (∀ j, j < i → ul.getD j 0 = s.toList.getD j 0 ^^^ tk.getD j 0) := ⟨tl, HT, HL1, HX⟩
          have HUk := HU
          have Hbk := Hb
          obtain ⟨xt, hcT', hfT', hxt⟩ := HTk.out.at_ i (by rw [HLk.out]; exact hlt)
          obtain ⟨xu, hcU, hfU, hxu⟩ := HUk.out.at_ i (by rw [HL2.out]; exact hlt)
          have Hxt := Lib.hid hxt
          have HXX := Lib.hid (xor_u8 x xt)
          have HSU := Lib.hid (HUk.out.set i (x ^^^ xt))
          have HST := Lib.hid (HTk.out.set_other (g' := gU) (by omega) i (.int .u8 ((x ^^^ xt).toNat : Int)))
          have HSB := Lib.hid (Hbk.out.setCell (p := ⟨gU, i, none⟩) (Nat.le_of_lt hgg) (.int .u8 ((x ^^^ xt).toNat : Int)))
          clear hxt hxu
          go_region
          rw [HXX.out]
          go_wp2
          go_roundw
          case rel =>
            refine ⟨i + 1, by omega, by go_num, ⟨tk, ul.set i (x ^^^ xt), HLk.out, by rw [List.length_set, HL2.out], HST.out, HSU.out, fun j hj => ?_⟩, HSB.out.drew⟩
            by_cases e : j = i
            · subst e
              rw [List.getD_eq_getElem?_getD, List.getElem?_set_self (by rw [HL2.out]; exact hlt), HSX.out, Hxt.out]; rfl
            · rw [List.getD_eq_getElem?_getD, List.getElem?_set_ne (fun h => e h.symm), ← List.getD_eq_getElem?_getD]
              exact HXk.out j (by omega)
          case measure => simp [intOf]; omega
        · have hy1 : decide (0 < y.size) = true := decide_eq_true (by omega)
          have hm1 : (0 : Int) ≤ (i : Int) % (y.size : Int) := Int.emod_nonneg _ (by omega)
          have hm2 : (i : Int) % (y.size : Int) < (y.size : Int) := Int.emod_lt_of_pos _ (by omega)
          obtain ⟨x0, hcT, hfT, hx0⟩ := HT.out.at_ i (by rw [HL1.out]; exact hlt)
          have hyl : i % y.size < y.size := Nat.mod_lt _ (by omega)
          clear hy0 hx0
          go_wp2_with fail
          obtain ⟨b, hb⟩ : ∃ b : UInt8, y[i % y.size] = b := ⟨_, rfl⟩
          rw [hb]
          obtain ⟨tk, HTk, HLk, HXk⟩ : ∃ tk : List UInt8, Hid (Bytes (wr.setCell ⟨gT, i, none⟩ (.int .u8 (b.toNat : Int))) gT tk) ∧ Hid (tk.length = s.size) ∧ Hid (∀ j, j < i → ul.getD j 0 = s.toList.getD j 0 ^^^ tk.getD j 0) := by
            refine ⟨tl.set i b, HT.out.set i b, ?_, fun j hj => ?_⟩
            · show _ = _; rw [List.length_set, HL1.out]
            · rw [HX.out j hj, List.getD_eq_getElem?_getD (l := tl.set i b), List.getElem?_set_ne (by omega), ← List.getD_eq_getElem?_getD]
          have HUk : Hid (Bytes (wr.setCell ⟨gT, i, none⟩ (.int .u8 (b.toNat : Int))) gU ul) := HU.out.set_other (by omega) i _
          have Hbk : Hid (Below gT w (wr.setCell ⟨gT, i, none⟩ (.int .u8 (b.toNat : Int)))) := Hb.out.setCell (p := ⟨gT, i, none⟩) (Nat.le_refl _) _
          clear hcT hfT hb hm1 hm2 hyl hy1
          generalize wr.setCell ⟨gT, i, none⟩ (.int .u8 (b.toNat : Int)) = ws at *
          obtain ⟨xt, hcT', hfT', hxt⟩ := HTk.out.at_ i (by rw [HLk.out]; exact hlt)
          obtain ⟨xu, hcU, hfU, hxu⟩ := HUk.out.at_ i (by rw [HL2.out]; exact hlt)
          have Hxt := Lib.hid hxt
          have HXX := Lib.hid (xor_u8 x xt)
          have HSU := Lib.hid (HUk.out.set i (x ^^^ xt))
          have HST := Lib.hid (HTk.out.set_other (g' := gU) (by omega) i (.int .u8 ((x ^^^ xt).toNat : Int)))
          have HSB := Lib.hid (Hbk.out.setCell (p := ⟨gU, i, none⟩) (Nat.le_of_lt hgg) (.int .u8 ((x ^^^ xt).toNat : Int)))
          clear hxt hxu
          go_region
          rw [HXX.out]
          go_wp2
          go_roundw
          case rel =>
            refine ⟨i + 1, by omega, by go_num, ⟨tk, ul.set i (x ^^^ xt), HLk.out, by rw [List.length_set, HL2.out], HST.out, HSU.out, fun j hj => ?_⟩, HSB.out.drew⟩
            by_cases e : j = i
            · subst e
              rw [List.getD_eq_getElem?_getD, List.getElem?_set_self (by rw [HL2.out]; exact hlt), HSX.out, Hxt.out]; rfl
            · rw [List.getD_eq_getElem?_getD, List.getElem?_set_ne (fun h => e h.symm), ← List.getD_eq_getElem?_getD]
              exact HXk.out j (by omega)
          case measure => simp [intOf]; omega
      · obtain rfl : i = s.size := by omega
        have HUL : Hid (ul = List.zipWith (· ^^^ ·) s.toList tl) := zip_of s.toList tl ul (by rw [HL1.out, Hs.out]) (by rw [HL2.out, Hs.out]) (by rw [Hs.out]; exact HX.out)
        have HQ : Hid (more (c ^^^ d) ul = more c s.toList ^^^ more d tl) := by show _ = _; rw [HUL.out]; exact more_lin _ _ _ _ (by rw [HL1.out, Hs.out])
        have hcd := u16_xor_nat c d Hc.out Hd.out
        have HCD : Hid (c ^^^ d < 65536) := Nat.xor_lt_two_pow (n := 16) Hc.out Hd.out
        have hqq := u16_xor_nat (more c s.toList) (more d tl) (more_lt _ _ Hc.out) (more_lt _ _ Hd.out)
        rw [← HQ.out] at hqq
        have C1 : Hid (∀ W, Calls Try.prog 10 #[.int .u16 ((c ^^^ d : Nat) : Int), .string (bOf ul)] W fun e w' => e = .returned (.int .u16 (more (c ^^^ d) ul)) ∧ Below W.heap.size W w') := fun W => by
          have := more_any (c ^^^ d) (bOf ul) W HCD.out (by rw [size_bOf, HL2.out]; unfold maxLen; omega)
          rw [toList_bOf] at this
          exact this
        have C2 : Hid (∀ W, Calls Try.prog 10 #[.int .u16 c, .string s] W fun e w' => e = .returned (.int .u16 (more c s.toList)) ∧ Below W.heap.size W w') := fun W => more_any c s W Hc.out (by unfold maxLen; omega)
        have C3 : Hid (∀ W, Calls Try.prog 10 #[.int .u16 d, .string (bOf tl)] W fun e w' => e = .returned (.int .u16 (more d tl)) ∧ Below W.heap.size W w') := fun W => by
          have := more_any d (bOf tl) W Hd.out (by rw [size_bOf, HL1.out]; unfold maxLen; omega)
          rw [toList_bOf] at this
          exact this
        generalize more (c ^^^ d) ul = q1 at *
        generalize more c s.toList = q2 at *
        generalize more d tl = q3 at *
        generalize c ^^^ d = cd at *
        have hcvT : ∀ w', Bytes w' gT tl → (convert 33 9 (.slice (some ⟨gT, 0, none⟩) s.size s.size)).run Try.prog w' = .ok (.string (bOf tl)) w' := fun w' hT => conv_bytes Try.underlying33 Try.underlying5 Try.underlying9 hT HL1.out
        have hcvU : ∀ w', Bytes w' gU ul → (convert 33 9 (.slice (some ⟨gU, 0, none⟩) s.size s.size)).run Try.prog w' = .ok (.string (bOf ul)) w' := fun w' hU => conv_bytes Try.underlying33 Try.underlying5 Try.underlying9 hU HL2.out
        clear HUL HQ HCD HX Hc Hd
        have hT := HT.out.drew
        have hU := HU.out.drew
        have hB := Hb.out.drew
        go_wp2_with fail
        go_region_held3 (fun w' => Bytes w' gT tl ∧ Bytes w' gU ul ∧ Below gT w w')
          (first | assumption | (go_split_ands; refine ⟨?_, ?_, ?_⟩ <;> assumption))
          (first
            | (go_at_call 10; (refine (C1.out _).mono ?_; clear C1; rintro e w1 ⟨rfl, hb1⟩; have hT1 := hT.callee hb1; have hU1 := hU.callee hb1; have hB1 := hB.trans (hb1.mono (by have := hB.size; have := HgT.out; omega))))
            | (go_at_call 10; (refine (C2.out _).mono ?_; clear C2; rintro e w2 ⟨rfl, hb2⟩; have hT2 := hT1.callee hb2; have hU2 := hU1.callee hb2; have hB2 := hB1.trans (hb2.mono (by have := hB1.size; have := HgT.out; omega))))
            | (go_at_call 10; (refine (C3.out _).mono ?_; clear C3; rintro e w3 ⟨rfl, hb3⟩; have hT3 := hT2.callee hb3; have hU3 := hU2.callee hb3; have hB3 := hB2.trans (hb3.mono (by have := hB2.size; have := HgT.out; omega))))
            | (go_at_call 7; (refine (alive_any _).mono ?_; rintro e w4 ⟨rfl, hb4⟩; have hT4 := hT3.callee hb4; have hU4 := hU3.callee hb4; have hB4 := hB3.trans (hb4.mono (by have := hB3.size; have := HgT.out; omega)))))
        go_wp2_with fail
        go_ret
        exact ⟨rfl, by rw [HgT.out]; exact hB4⟩

set_option maxRecDepth 100000 in
theorem lifted (os : Os) (started : os.Started) (H : Type) (enc : TypeId × Value → H) :
    ReturnsInHanded {} Try.checked os 6 .any (Rows.fcsLinearSpec.pre6 enc Try.prog Try.f6 Rows.fcsLinearRow.domain false) (Rows.fcsLinearSpec.post enc Try.prog Try.f6 false true false false) := by
  refine returnsInHanded_of_change (C := Try.checked) own started (by kernel_rfl) Try.func6
    (ChangeSpec.witness6 (enc := enc) (C := Try.checked) false ⟨#[], #[.int .u16 0, .int .u16 0, .string ByteArray.empty, .string ByteArray.empty], []⟩ 8 (by kernel_rfl) (by kernel_rfl) (by kernel_rfl) (by kernel_rfl)) ?_
  intro W base args ds gs before hval0 hW hcnd _
  have hval : ∀ (j : Nat) t v, Try.f6.params[j]? = some t → args[j]? = some v → Value.okWide Try.prog W .any base t v := hval0
  have hW' := hW
  obtain ⟨p, q, hA0, hV, rfl, hfz, hnd⟩ := hW
  have hlt := hW'.lt
  have hA : DataW.TrodAll enc Try.prog W 0 (fun _ => true) true Try.f6.params.toList args.toList ds p := hA0
  rw [Try.params6] at hA hval
  obtain ⟨v0, vs0, d0, ds0, p0, q0, hargs, rfl, rfl, h0, r0⟩ := trodAll_cons hA
  obtain ⟨v1, vs1, d1, ds1, p1, q1, rfl, rfl, rfl, h1, r1⟩ := trodAll_cons r0
  obtain ⟨v2, vs2, d2, ds2, p2, q2, rfl, rfl, rfl, h2, r2⟩ := trodAll_cons r1
  obtain ⟨v3, vs3, d3, ds3, p3, q3, rfl, rfl, rfl, h3, r3⟩ := trodAll_cons r2
  obtain ⟨rfl, rfl, rfl⟩ := trodAll_nil r3
  obtain rfl : args = #[v0, v1, v2, v3] := by cases args; simp_all
  obtain ⟨rfl, rfl⟩ := trodVars_none hV
  obtain ⟨z0, rfl, rfl, rfl, w0⟩ := open_int Try.underlying22 (hval 0 22 v0 rfl rfl) h0
  obtain ⟨a0, rfl⟩ : ∃ n : Nat, z0 = n := ⟨z0.toNat, by have := bounds_u16 w0; omega⟩
  have b0 := bounds_u16 w0
  obtain ⟨z1, rfl, rfl, rfl, w1⟩ := open_int Try.underlying22 (hval 1 22 v1 rfl rfl) h1
  obtain ⟨a1, rfl⟩ : ∃ n : Nat, z1 = n := ⟨z1.toNat, by have := bounds_u16 w1; omega⟩
  have b1 := bounds_u16 w1
  obtain ⟨a2, rfl, rfl, rfl, w2⟩ := open_string Try.underlying9 (hval 2 9 v2 rfl rfl) h2
  obtain ⟨a3, rfl, rfl, rfl, w3⟩ := open_string Try.underlying9 (hval 3 9 v3 rfl rfl) h3
  clear hA0 hval0
  exact (walk a0 a1 a2 a3 (by omega) (by omega) w2 w3 W).mono fun e W' ⟨he, hb⟩ => ⟨_, he, law_post (t := 4) laidOut (by kernel_rfl) rfl rfl Try.underlying4 ⟨rfl, rfl, rfl⟩ hW' hb⟩

theorem over : Rows.fcsLinearRow.holds Try.pinned (OpenSpec.ofChange Rows.fcsLinearSpec) :=
  OpenClaim.holds_of_wide 6 Try.f6 rfl rfl rfl rfl rfl rfl rfl ⟨rfl, rfl, rfl, rfl, rfl⟩ rfl rfl rfl rfl rfl (by kernel_rfl) Try.func6 (by kernel_rfl)
    (of_decide_eq_true (by kernel_rfl)) (by unfold Func.isWrapper; first | (rw [if_pos (by decide +kernel)]; kernel_rfl) | (rw [if_neg (by decide +kernel)]; exact ⟨rfl, rfl⟩))
    (fun os started H enc _ => lifted os started H enc)

theorem proved : Rows.FcsLinearSaid :=
  over
#print axioms proved
end Go.Proofs.Ytikgcngolicbfaa.FcsLinear
