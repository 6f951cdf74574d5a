/- PROVED: 'halyardlaw04.HdlcPieces' returns true for every most, every map, every bytes, and whatever number of bytes a piece has, and leaves them as they were. No condition. -/
import Derived.Test.YtfcmpnfdgfdclaaHdlK
import Derived.Test.YtfcmpnfdgfdclaaLaw
import Derived.Test.YtfcmpnfdgfdclaaRows
namespace Go.Proofs.Ytfcmpnfdgfdclaa.HdlcPieces
open Go.ChangeShapes Go.WideShapes Go.ChangeAt Go.RowKit Go.Proofs.Ytfcmpnfdgfdclaa.Oct Go.Proofs.Ytfcmpnfdgfdclaa.Row Go.Proofs.Ytfcmpnfdgfdclaa.Esc Go.Proofs.Ytfcmpnfdgfdclaa.Fcs Go.Proofs.Ytfcmpnfdgfdclaa.Hdl Go.Proofs.Ytfcmpnfdgfdclaa.Law
open Go.ChangeMaps (open_string shut_string)

set_option maxHeartbeats 4000000 in
set_option maxRecDepth 100000 in
theorem walk (m a : Nat) (s : ByteArray) (p : Nat) (hm : m < 65536) (ha : a < 4294967296) (hp : p < 256) (hs : s.size ≤ maxLen) (w : World) :
    Calls Try.prog 5 #[.int .u16 m, .int .u32 a, .string s, .int .u8 p] w fun e w' => e = .returned (.bool true) ∧ Below w.heap.size w w' := by
  obtain ⟨i0, hi, hz0, hz1, hz2⟩ := info_parts Try.info9
  unfold maxLen at hs
  have Ha := Lib.hid ha; clear ha
  by_cases h : 4096 < (s.size : Int)
  · go_enter Try.func5, Try.ntmps5
    go_wp2_with fail
    refine (alive_any _).mono ?_
    rintro e w1 ⟨rfl, hb1⟩
    go_wp2
    go_ret
    exact ⟨rfl, hb1⟩
  · have hs4 : s.size ≤ 4096 := by omega
    obtain ⟨M, hM⟩ : ∃ M : Nat, 2 + m % 1507 = M := ⟨_, rfl⟩
    have HM : Hid (2 + (m : Int) % 1507 = (M : Int)) := by show _ = _; omega
    have hM1 : 2 ≤ M := by omega
    have hM2 : M ≤ 1508 := by omega
    clear hM
    have HI0 := Lib.hid (fresh_inv hM1 hM2 Ha.out)
    have HS0 := Lib.hid (fresh_small M a)
    go_enter Try.func5, Try.ntmps5
    go_wp2_with fail
    rw [HM.out]
    refine (new_yes M a _ hM1 hM2).mono ?_
    rintro e w1 ⟨rfl, hR1, hb1, hy1⟩
    have HR1 := Lib.hid hR1; clear hR1
    have Hb1 := Lib.hid hb1; clear hb1
    have Hy1 := Lib.hid hy1; clear hy1
    go_wp2_with fail
    refine (new_yes M a _ hM1 hM2).mono ?_
    rintro e w2 ⟨rfl, hR2, hb2, hy2⟩
    have HR1' := Lib.hid (HR1.out.below hb2)
    have Hb2 := Lib.hid (Hb1.out.trans (hb2.mono Hb1.out.size)); clear hb2
    rw [Hy1.out] at hR2 hy2 ⊢
    have HR2 := Lib.hid (hR2.lower (n₁ := w.heap.size) (by omega)); clear hR2
    clear hy2 Hb1 HR1
    generalize fresh M a = r0 at *
    go_wp2
    go_loopg [15, 16] (s.size + 1) (fun gk u i wr => ∃ j : Nat, j ≤ s.size + 256 ∧ gk = s.size + 1 - j ∧ i = .int .i64 j ∧ PieR w w.heap.size (w.heap.size + 1) r0 (s.toList.take j) u wr)
    case atStart => exact ⟨0, Nat.zero_le _, rfl, rfl, _, HR1'.out, HR2.out, Hb2.out, World.ownsRow_nil _ _ _ _⟩
    case round =>
      obtain ⟨j, hj, hgk, rfl, va, hRa, hRb, hB, hT⟩ := hrel
      have Hgk := Lib.hid hgk; clear hgk
      have HRa := Lib.hid hRa; clear hRa
      have HRb := Lib.hid hRb; clear hRb
      have HB := Lib.hid hB; clear hB
      have HT := Lib.hid hT; clear hT
      have hll : (s.toList.take j).length ≤ 4096 := by rw [List.length_take, ← size_toList]; omega
      have HIj := Lib.hid (feeds_inv HI0.out (s.toList.take j))
      have HSm : Hid (Small (feeds r0 (s.toList.take j)) 4096) := small_mono (feeds_small HS0.out (s.toList.take j)) (by omega)
      have hol := outs_le r0 (s.toList.take j)
      by_cases hlt : j < s.size
      · have hsp : j ≤ s.size := by omega
        have HTk := Lib.hid (take_piece s.toList j (1 + p))
        by_cases hmn : j + (1 + p) ≤ s.size
        · have hmi : (j : Int) + (1 + (p : Int)) ≤ (s.size : Int) := by omega
          have HKA : Hid (((j : Int) + (1 + (p : Int))).toNat = j + (1 + p)) := by show _ = _; omega
          have HX := Lib.hid (extract_piece s j (1 + p) (j + (1 + p)) hsp (by omega))
          have HXs : Hid ((s.extract j (j + (1 + p))).size ≤ 4096) := by show _ ≤ _; rw [ByteArray.size_extract]; omega
          generalize s.toList.take j = l at *
          go_wp2_with fail
          refine (push_q _ _ _ _ _ _ HRa.out HIj.out 4096 HSm.out (by have := HXs.out; omega) (by have := HXs.out; omega)).mono ?_
          rw [HX.out]
          rintro e w3 ⟨A, c, v1, rfl, hT3, hR3, hM3, _⟩
          have HR3 := Lib.hid hR3; clear hR3
          have HM3 := Lib.hid hM3; clear hM3
          have hol2 := outs_le (feeds r0 l) ((s.toList.drop j).take (1 + p))
          have hpl : ((s.toList.drop j).take (1 + p)).length ≤ 256 := by rw [List.length_take]; omega
          have HB3 := Lib.hid (HB.out.trans (HM3.out.below HB.out.size fun k hk => (HRa.out.low k hk).1))
          have hsz3 := HB3.out.size
          have HT3' := Lib.hid (HT.out.past HRa.out HM3.out)
          rcases hT3.2 with ⟨hnil, hl0⟩ | ⟨gg, cap, cur, heq, _⟩
          · obtain ⟨rfl, _, rfl⟩ : A = none ∧ True ∧ c = 0 := by cases A with | none => exact ⟨rfl, trivial, by simp at hnil; exact hnil.2⟩ | some x => simp at hnil
            rw [hl0]
            have Hl0 := Lib.hid hl0; clear hl0 hnil hT3
            go_wp2_with (at_builtin; refine wpList_append_own_none rfl _ _ 27 rfl w.heap.size 9 i0 1 Try.underlying27 hi u15 (outs r0 l).length (textsV (outs r0 l)) rfl HT3'.out rfl ?_)
            go_roundg (s.size + 1 - (j + (1 + p)))
            case measure => rw [Hgk.out]; omega
            case rel =>
              refine ⟨j + (1 + p), by omega, rfl, by go_num, ?_⟩
              rw [HTk.out]
              exact pie_none (by omega) HRa.out HRb.out HB.out HT.out Hl0.out HR3.out HM3.out
          · obtain ⟨rfl, rfl⟩ : A = some ⟨gg, 0, none⟩ ∧ c = cap := by simp at heq; exact heq
            have HT3 := Lib.hid hT3; clear hT3 heq
            go_wp2_with (at_builtin; refine wpList_append_own _ rfl _ _ 27 rfl w.heap.size 9 i0 (.string ByteArray.empty) 1 16 Try.underlying27 hi hz0 hz1 hz2 rfl (by decide) u15 (outs r0 l).length (textsV (outs r0 l)) rfl HT3'.out ⟨gg, 0, none⟩ (outs (feeds r0 l) ((s.toList.drop j).take (1 + p))).length c (textsV (outs (feeds r0 l) ((s.toList.drop j).take (1 + p)))) rfl (by rw [textsV_length, Nat.mul_one]) (HT3.out.cells rfl) (texts_one _) (by unfold maxLen; omega) (by omega) (by omega) ?_; intro u4 w4 hown4 hgr4 _; have Hown4 := Lib.hid hown4; clear hown4; have Hgr4 := Lib.hid hgr4; clear hgr4)
            go_roundg (s.size + 1 - (j + (1 + p)))
            case measure => rw [Hgk.out]; omega
            case rel =>
              refine ⟨j + (1 + p), by omega, rfl, by go_num, ?_⟩
              rw [HTk.out]
              exact pie_some (by omega) HRa.out HRb.out HB.out HT.out HR3.out HM3.out Hgr4.out Hown4.out
        · have hmi : ¬ (j : Int) + (1 + (p : Int)) ≤ (s.size : Int) := by omega
          have HX := Lib.hid (extract_piece s j (1 + p) s.size hsp (by omega))
          have HXs : Hid ((s.extract j s.size).size ≤ 4096) := by show _ ≤ _; rw [ByteArray.size_extract]; omega
          generalize s.toList.take j = l at *
          go_wp2_with fail
          refine (push_q _ _ _ _ _ _ HRa.out HIj.out 4096 HSm.out (by have := HXs.out; omega) (by have := HXs.out; omega)).mono ?_
          rw [HX.out]
          rintro e w3 ⟨A, c, v1, rfl, hT3, hR3, hM3, _⟩
          have HR3 := Lib.hid hR3; clear hR3
          have HM3 := Lib.hid hM3; clear hM3
          have hol2 := outs_le (feeds r0 l) ((s.toList.drop j).take (1 + p))
          have hpl : ((s.toList.drop j).take (1 + p)).length ≤ 256 := by rw [List.length_take]; omega
          have HB3 := Lib.hid (HB.out.trans (HM3.out.below HB.out.size fun k hk => (HRa.out.low k hk).1))
          have hsz3 := HB3.out.size
          have HT3' := Lib.hid (HT.out.past HRa.out HM3.out)
          rcases hT3.2 with ⟨hnil, hl0⟩ | ⟨gg, cap, cur, heq, _⟩
          · obtain ⟨rfl, _, rfl⟩ : A = none ∧ True ∧ c = 0 := by cases A with | none => exact ⟨rfl, trivial, by simp at hnil; exact hnil.2⟩ | some x => simp at hnil
            rw [hl0]
            have Hl0 := Lib.hid hl0; clear hl0 hnil hT3
            go_wp2_with (at_builtin; refine wpList_append_own_none rfl _ _ 27 rfl w.heap.size 9 i0 1 Try.underlying27 hi u15 (outs r0 l).length (textsV (outs r0 l)) rfl HT3'.out rfl ?_)
            go_roundg (s.size + 1 - (j + (1 + p)))
            case measure => rw [Hgk.out]; omega
            case rel =>
              refine ⟨j + (1 + p), by omega, rfl, by go_num, ?_⟩
              rw [HTk.out]
              exact pie_none (by omega) HRa.out HRb.out HB.out HT.out Hl0.out HR3.out HM3.out
          · obtain ⟨rfl, rfl⟩ : A = some ⟨gg, 0, none⟩ ∧ c = cap := by simp at heq; exact heq
            have HT3 := Lib.hid hT3; clear hT3 heq
            go_wp2_with (at_builtin; refine wpList_append_own _ rfl _ _ 27 rfl w.heap.size 9 i0 (.string ByteArray.empty) 1 16 Try.underlying27 hi hz0 hz1 hz2 rfl (by decide) u15 (outs r0 l).length (textsV (outs r0 l)) rfl HT3'.out ⟨gg, 0, none⟩ (outs (feeds r0 l) ((s.toList.drop j).take (1 + p))).length c (textsV (outs (feeds r0 l) ((s.toList.drop j).take (1 + p)))) rfl (by rw [textsV_length, Nat.mul_one]) (HT3.out.cells rfl) (texts_one _) (by unfold maxLen; omega) (by omega) (by omega) ?_; intro u4 w4 hown4 hgr4 _; have Hown4 := Lib.hid hown4; clear hown4; have Hgr4 := Lib.hid hgr4; clear hgr4)
            go_roundg (s.size + 1 - (j + (1 + p)))
            case measure => rw [Hgk.out]; omega
            case rel =>
              refine ⟨j + (1 + p), by omega, rfl, by go_num, ?_⟩
              rw [HTk.out]
              exact pie_some (by omega) HRa.out HRb.out HB.out HT.out HR3.out HM3.out Hgr4.out Hown4.out
      · have HAll : Hid (s.toList.take j = s.toList) := List.take_of_length_le (by rw [← size_toList]; omega)
        have hss := size_toList s
        rw [HAll.out] at HRa HT hol
        clear hll HAll
        go_wp2_with fail
        refine (push_q _ _ r0 _ s _ HRb.out HI0.out 0 HS0.out (by omega) (by omega)).mono ?_
        rintro e w3 ⟨A, c, vb, rfl, hT3, hRb3, hM3, _⟩
        have hlow : ∀ k, Foot (w.heap.size + 1) (.slice none 0 0) k → w.heap.size ≤ k := fun k hk => (HRb.out.low k hk).1
        have HRa3 := Lib.hid (HRa.out.past HRb.out (by omega) (fun k _ h => by cases h) hM3)
        have HT3' := Lib.hid (HT.out.past HRb.out hM3)
        have HB3 := Lib.hid (HB.out.trans (hM3.below HB.out.size hlow)); clear hM3 hlow
        have HRb3 := Lib.hid hRb3; clear hRb3
        have HT3 := Lib.hid hT3; clear hT3
        have HSl := Lib.hid (outs_small HI0.out s.toList)
        obtain ⟨A', c', rfl⟩ := HT3'.out.form
        go_wp2_with fail
        refine (same_q _ _ _ _ _ _ (outs r0 s.toList) (outs r0 s.toList) _ true (by unfold maxLen; omega) (HT3'.out.strs HSl.out) (HT3.out.strs HSl.out) (decide_eq_true rfl)).mono ?_
        rintro e w4 ⟨rfl, hb4⟩
        have HRa4 := Lib.hid (HRa3.out.below hb4)
        have HRb4 := Lib.hid (HRb3.out.below hb4)
        have HB4 := Lib.hid (HB3.out.trans (hb4.mono HB3.out.size)); clear hb4
        go_wp2_with fail
        refine (heard_any _ _ _ _ _ HRa4.out).mono ?_
        rintro e w5 ⟨rfl, hb5⟩
        have HRa5 := Lib.hid (HRa4.out.below hb5)
        have HRb5 := Lib.hid (HRb4.out.below hb5)
        have HB5 := Lib.hid (HB4.out.trans (hb5.mono HB4.out.size)); clear hb5
        go_wp2_with fail
        refine (heard_any _ _ _ _ _ HRb5.out).mono ?_
        rintro e w6 ⟨rfl, hb6⟩
        have HRa6 := Lib.hid (HRa5.out.below hb6)
        have HRb6 := Lib.hid (HRb5.out.below hb6)
        have HB6 := Lib.hid (HB5.out.trans (hb6.mono HB5.out.size)); clear hb6
        unfold heardV
        go_wp2_with fail
        refine (inside_any _ _ _ _ _ HRa6.out).mono ?_
        rintro e w7 ⟨rfl, rfl⟩
        go_wp2_with fail
        refine (inside_any _ _ _ _ _ HRb6.out).mono ?_
        rintro e w7 ⟨rfl, rfl⟩
        have hin : (inside (feeds r0 s.toList) == inside (feeds r0 s.toList)) = true := by simp
        go_wp2_with fail
        refine (alive_any _).mono ?_
        rintro e w8 ⟨rfl, hb8⟩
        go_wp2
        go_ret
        exact ⟨rfl, HB6.out.trans (hb8.mono HB6.out.size)⟩

set_option maxRecDepth 100000 in
theorem lifted (os : Os) (started : os.Started) (H : Type) (enc : TypeId × Value → H) :
    ReturnsInHanded {} Try.checked os 5 .any (Rows.hdlcPiecesSpec.pre6 enc Try.prog Try.f5 Rows.hdlcPiecesRow.domain false) (Rows.hdlcPiecesSpec.post enc Try.prog Try.f5 false true false false) := by
  refine returnsInHanded_of_change (C := Try.checked) own started (by kernel_rfl) Try.func5
    (ChangeSpec.witness6 (enc := enc) (C := Try.checked) false ⟨#[], #[.int .u16 0, .int .u32 0, .string ByteArray.empty, .int .u8 0], []⟩ 8 (by kernel_rfl) (by kernel_rfl) (by kernel_rfl) (by kernel_rfl)) ?_
  intro W base args ds gs before hval0 hW hcnd _
  have hval : ∀ (j : Nat) t v, Try.f5.params[j]? = some t → args[j]? = some v → Value.okWide Try.prog W .any base t v := hval0
  have hW' := hW
  obtain ⟨p, q, hA0, hV, rfl, hfz, hnd⟩ := hW
  have hlt := hW'.lt
  have hA : DataW.TrodAll enc Try.prog W 0 (fun _ => true) true Try.f5.params.toList args.toList ds p := hA0
  rw [Try.params5] at hA hval
  obtain ⟨v0, vs0, d0, ds0, p0, q0, hargs, rfl, rfl, h0, r0⟩ := trodAll_cons hA
  obtain ⟨v1, vs1, d1, ds1, p1, q1, rfl, rfl, rfl, h1, r1⟩ := trodAll_cons r0
  obtain ⟨v2, vs2, d2, ds2, p2, q2, rfl, rfl, rfl, h2, r2⟩ := trodAll_cons r1
  obtain ⟨v3, vs3, d3, ds3, p3, q3, rfl, rfl, rfl, h3, r3⟩ := trodAll_cons r2
  obtain ⟨rfl, rfl, rfl⟩ := trodAll_nil r3
  obtain rfl : args = #[v0, v1, v2, v3] := by cases args; simp_all
  obtain ⟨rfl, rfl⟩ := trodVars_none hV
  obtain ⟨z0, rfl, rfl, rfl, w0⟩ := open_int Try.underlying51 (hval 0 51 v0 rfl rfl) h0
  obtain ⟨a0, rfl⟩ : ∃ n : Nat, z0 = n := ⟨z0.toNat, by have := bounds_u16 w0; omega⟩
  have b0 := bounds_u16 w0
  obtain ⟨z1, rfl, rfl, rfl, w1⟩ := open_int Try.underlying22 (hval 1 22 v1 rfl rfl) h1
  obtain ⟨a1, rfl⟩ : ∃ n : Nat, z1 = n := ⟨z1.toNat, by have := bounds_u32 w1; omega⟩
  have b1 := bounds_u32 w1
  obtain ⟨a2, rfl, rfl, rfl, w2⟩ := open_string Try.underlying9 (hval 2 9 v2 rfl rfl) h2
  obtain ⟨z3, rfl, rfl, rfl, w3⟩ := open_int Try.underlying5 (hval 3 5 v3 rfl rfl) h3
  obtain ⟨a3, rfl⟩ : ∃ n : Nat, z3 = n := ⟨z3.toNat, by have := bounds_u8 w3; omega⟩
  have b3 := bounds_u8 w3
  clear hA0 hval0
  exact (walk a0 a1 a2 a3 (by omega) (by omega) (by omega) w2 W).mono fun e W' ⟨he, hb⟩ => ⟨_, he, law_post (t := 4) laidOut (by kernel_rfl) rfl rfl Try.underlying4 ⟨rfl, rfl, rfl⟩ hW' hb⟩

theorem over : Rows.hdlcPiecesRow.holds Try.pinned (OpenSpec.ofChange Rows.hdlcPiecesSpec) :=
  OpenClaim.holds_of_wide 5 Try.f5 rfl rfl rfl rfl rfl rfl rfl ⟨rfl, rfl, rfl, rfl, rfl⟩ rfl rfl rfl rfl rfl (by kernel_rfl) Try.func5 (by kernel_rfl)
    (of_decide_eq_true (by kernel_rfl)) (by unfold Func.isWrapper; first | (rw [if_pos (by decide +kernel)]; kernel_rfl) | (rw [if_neg (by decide +kernel)]; exact ⟨rfl, rfl⟩))
    (fun os started H enc _ => lifted os started H enc)

theorem proved : Rows.HdlcPiecesSaid :=
  over
#print axioms proved
end Go.Proofs.Ytfcmpnfdgfdclaa.HdlcPieces
