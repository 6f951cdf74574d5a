/- Md5Parts is proved: in whatever parts a text is written its digest is the same, whatever was asked between, and so of copies; nil answers what the document says. Conditions: the row's own (package md5's two tables hold what the program's text lays: the card ties that). -/
import Derived.Test.YtdpmndfoplndnaaDoorMd5P
import Derived.Test.YtdpmndfoplndnaaDoorCards
import Derived.Test.YtdpmndfoplndnaaDoorTie
import Derived.SevenTiedAt
import Derived.ChangeMaps5
namespace Go.Proofs.YtdpmndfoplndnaaDoor.Md5Parts
open Go.ChangeShapes Go.WideShapes Go.ChangeAt Go.RowKit Go.WideElems Go.Proofs.YtdpmndfoplndnaaDoor.Oct Go.Proofs.YtdpmndfoplndnaaDoor.Row Go.Proofs.YtdpmndfoplndnaaDoor.Mem Go.Proofs.YtdpmndfoplndnaaDoor.Md5
open Go.ChangeMaps (open_string shut_string)

set_option maxHeartbeats 4000000 in
set_option maxRecDepth 100000 in
theorem walk (A : Option Addr) (n c : Nat) (l : List ByteArray) (cp : Nat) (hn : n ≤ maxLen) (hq : ∀ x ∈ l, x.size ≤ 140737488351232) (hcp : cp ≤ 255) (w : World) (hl : Strs w w.heap.size A n l) (hG : Globs w) :
    Calls Tryd.prog 4 #[.slice A n c, .int .u8 cp] w fun e w' => e = .returned (.bool true) ∧ Below w.heap.size w w' := by
  have HG := Lib.hid hG; clear hG
  have HL := Lib.hid hl
  have CL := Lib.hid (fun W h => long_any A n c l W hn h hq)
  cases hlo : isLong l
  · obtain ⟨hl60, hl81⟩ := long_no hlo
    have Hlo := Lib.hid hlo; clear hlo
    have hn60 : n ≤ 60 := by rw [← hl.1]; exact hl60
    have Hln := Lib.hid hl.1
    have CS := Lib.hid (fun W h g => sum_any A n c l W hn h g (by omega))
    have C0 : Hid (∀ W, Globs W → Calls Tryd.prog 7 #[.slice none 0 0] W fun e w' => e = .returned (.string (bOf (md5 []))) ∧ Below W.heap.size W w') := fun W g => sum_any none 0 0 [] W (by unfold maxLen; omega) ⟨rfl, fun _ h => absurd h List.not_mem_nil, fun h => absurd h (Nat.lt_irrefl 0)⟩ g (by simp [cat])
    have H81 := Lib.hid hl81
    clear hl hl60 hl81 hq
    unfold maxLen at hn
    go_enter Tryd.func4, Tryd.ntmps4
    go_wp2_with fail
    refine (CL.out _ HL.out).mono ?_
    rw [Hlo.out]
    rintro e w1 ⟨rfl, hww⟩
    obtain rfl := hww.symm
    go_wp2_with fail
    refine (write_nil _ _).mono ?_
    rintro e w1 ⟨rfl, rfl⟩
    go_wp2_with fail
    refine (sum_nil _).mono ?_
    rintro e w1 ⟨rfl, hww⟩
    obtain rfl := hww.symm
    go_wp2_with fail
    refine (len_nil _).mono ?_
    rintro e w1 ⟨rfl, hww⟩
    obtain rfl := hww.symm
    go_wp2_with fail
    refine (copy_nil _).mono ?_
    rintro e w1 ⟨rfl, hww⟩
    obtain rfl := hww.symm
    go_wp2_with fail
    refine (new_any _).mono ?_
    rintro e w1 ⟨g, rfl, hg, hH1, hb1⟩
    have HH1 := Lib.hid hH1
    have Hb1 := Lib.hid hb1
    clear hH1 hb1
    go_wp2_with fail
    refine (len_any g _ _ HH1.out (by simp)).mono ?_
    rintro e w2 ⟨rfl, hww⟩
    obtain rfl := hww.symm
    go_wp2_with fail
    refine (hsum_any g _ _ HH1.out (HG.out.below Hb1.out) (by simp)).mono ?_
    rintro e w2 ⟨rfl, hb2⟩
    have Hb2 := Lib.hid (Hb1.out.trans (hb2.mono Hb1.out.size))
    have HH2 := Lib.hid (HH1.out.below hb2)
    clear hb2
    go_wp2_with fail
    refine (C0.out _ (HG.out.below Hb2.out)).mono ?_
    rintro e w3 ⟨rfl, hb3⟩
    have Hb3 := Lib.hid (Hb2.out.trans (hb3.mono Hb2.out.size))
    have HH3 := Lib.hid (HH2.out.below hb3)
    clear hb3
    have hbq : ((bOf (md5 [])).toList == (bOf (md5 [])).toList) = true := by simp
    generalize bOf (md5 []) = D0 at *
    go_wp2
    clear hbq C0
    go_loopw [6, 7, 8] (fun h s i wr => ∃ (k g : Nat), k ≤ n ∧ i = .int .i64 k ∧ h = .pointer (some ⟨g, 0, none⟩) ∧ w.heap.size ≤ g ∧ s = .string (bOf (cat (l.take k))) ∧ Hid (Hsh wr g (cat (l.take k))) ∧ Hid (Below w.heap.size w wr)) (fun _ _ i _ => n - (intOf i).toNat)
    case atStart => exact ⟨0, g, Nat.zero_le _, rfl, rfl, hg, rfl, HH3.out, Hb3.out⟩
    case round =>
      clear HH1 HH2 HH3 Hb1 Hb2 Hb3 hg
      obtain ⟨k, g, hk, rfl, rfl, hg, rfl, HHk, Hbk⟩ := hrel
      by_cases hlt : k < n
      · obtain ⟨ad, t, rfl, hB, ht, htl, hc⟩ := (HL.out.below Hbk.out).at_ hlt
        have Ht := Lib.hid ht
        have Hle := Lib.hid (Nat.le_trans (cat_at_le l k t ht) H81.out)
        have Hle2 := Lib.hid (Nat.le_trans (cat_take_le l (k + 1)) H81.out)
        have hsz : (bOf (cat (l.take k))).size ≤ 8192 := by rw [size_bOf]; have := Hle.out; omega
        have htz : t.size ≤ 8192 := by have := Hle.out; omega
        have hCC : bOf (cat (l.take k)) ++ t = bOf (cat (l.take (k + 1))) := by rw [cat_snoc l k t ht, append_bOf, toList_bOf]
        have C1 : Hid (∀ b W', W'.cell? ⟨b, 0, none⟩ = some (.string (bOf (cat (l.take (k + 1))))) → Globs W' → Calls Tryd.prog 7 #[.slice (some ⟨b, 0, none⟩) 1 1] W' fun e w' => e = .returned (.string (bOf (md5 (cat (l.take (k + 1)))))) ∧ Below W'.heap.size W' w') := fun b W' h1 h2 => by
          have h := sum_one b (bOf (cat (l.take (k + 1)))) W' h1 (by rw [size_bOf]; have := Hle2.out; omega) h2
          rw [toList_bOf] at h
          exact h
        obtain ⟨S2, hS2⟩ : ∃ S2, bOf (cat (l.take (k + 1))) = S2 := ⟨_, rfl⟩
        have HLn : Hid (((cat (l.take (k + 1))).length : Int) = (S2.size : Int)) := by show _ = _; rw [← hS2, size_bOf]
        have hS2z : S2.size ≤ 8192 := by rw [← hS2, size_bOf]; exact Hle2.out
        rw [hS2] at hCC C1
        have HC := Lib.hid hCC
        have HS2 := Lib.hid hS2
        clear ht htl hCC hS2
        by_cases hkc : k = cp
        · have hkb : ((k : Int) == (cp : Int)) = true := by rw [hkc]; simp
          have hkc2 := Lib.hid hkc
          clear hkc
          go_wp2_with fail
          refine (copy_any g _ _ HHk.out).mono ?_
          rintro e w2 ⟨rfl, hH2, hb2, _⟩
          have HHg := Lib.hid (HHk.out.below hb2)
          have hgl := HHk.out.lt
          have Hbc := Lib.hid (Hbk.out.trans (hb2.mono Hbk.out.size))
          have HHc := Lib.hid hH2
          clear hb2 hH2
          obtain ⟨g2, hg2⟩ : ∃ g2, wr.heap.size = g2 := ⟨_, rfl⟩
          rw [hg2] at HHc hgl ⊢
          have hg2w : w.heap.size ≤ g2 := by rw [← hg2]; exact Hbk.out.size
          clear hg2
          go_wp2_with fail
          refine (write_any g _ ⟨#[115, 112, 111, 105, 108, 116]⟩ _ HHg.out (HG.out.below Hbc.out) (by have := Hle.out; show _ + 6 ≤ _; omega)).mono ?_
          rintro e w2' ⟨rfl, _, hm2⟩
          have Hb2 : Hid (Below w.heap.size w w2') := Hbc.out.trans (hm2.below Hbc.out.size (fun j hj => by omega))
          have HH2 := Lib.hid (HHc.out.moves hm2 (by omega))
          clear hm2
          have HL2 := Lib.hid (HL.out.below Hb2.out)
          obtain ⟨ad2, t2, hAd2, _, ht2, _, hc2⟩ := HL2.out.at_ hlt
          obtain rfl := Option.some.inj hAd2
          obtain rfl : t = t2 := Option.some.inj (Ht.out.symm.trans ht2)
          clear ht2 hAd2 hc
          go_wp2_with fail
          refine (write_any g2 _ t _ HH2.out (HG.out.below Hb2.out) (by have := Hle.out; omega)).mono ?_
          rw [← cat_snoc l k t Ht.out]
          rintro e w3 ⟨rfl, hH3, hm3⟩
          have Hb3 : Hid (Below w.heap.size w w3) := Hb2.out.trans (hm3.below Hb2.out.size (fun j hj => by omega))
          have HH3 := Lib.hid hH3
          clear hH3 hm3
          have HL3 := Lib.hid (HL.out.below Hb3.out)
          obtain ⟨ad3, t3, hAd3, _, ht3, _, hc3⟩ := HL3.out.at_ hlt
          obtain rfl := Option.some.inj hAd3
          obtain rfl : t = t3 := Option.some.inj (Ht.out.symm.trans ht3)
          clear ht3 hAd3
          go_wp2_with fail
          refine (hsum_any g2 _ _ HH3.out (HG.out.below Hb3.out) (by have := Hle2.out; omega)).mono ?_
          rintro e w4 ⟨rfl, hb4⟩
          have Hb4 := Lib.hid (Hb3.out.trans (hb4.mono Hb3.out.size))
          have HH4 := Lib.hid (HH3.out.below hb4)
          clear hb4 hc3
          rw [HC.out]
          go_wp2_with fail
          have hba : Below w.heap.size w (w4.alloc (.cells #[.string S2] 9)) := Hb4.out.alloc Hb4.out.size _
          have hbb : Below w4.heap.size w4 (w4.alloc (.cells #[.string S2] 9)) := (Below.refl _ w4).alloc (Nat.le_refl _) _
          refine (C1.out _ _ (World.cell?_alloc_new w4 _ _ 0) (HG.out.below hba)).mono ?_
          rintro e w5 ⟨rfl, hb5⟩
          have Hb5 := Lib.hid (hba.trans (hb5.mono hba.size))
          have HH5 := Lib.hid (HH4.out.below (hbb.trans (hb5.mono hbb.size)))
          clear hb5 hba hbb
          go_wp2_with fail
          refine (len_any g2 _ _ HH5.out (by have := Hle2.out; omega)).mono ?_
          rw [HLn.out]
          rintro e w6 ⟨rfl, hww⟩
          obtain rfl := hww.symm
          go_wp2
          go_roundw
          case rel => exact ⟨k + 1, g2, by omega, by go_num, rfl, by omega, by rw [HS2.out], HH5.out, Hb5.out⟩
          case measure => simp [intOf]; omega
        · have hkb : ((k : Int) == (cp : Int)) = false := by simp; omega
          have HH2 := HHk
          have Hb2 := Hbk
          obtain ⟨g2, hg2⟩ : ∃ g2, g = g2 := ⟨_, rfl⟩
          subst hg2
          have hg2w := hg
          go_wp2_with fail
          refine (write_any g _ t _ HH2.out (HG.out.below Hb2.out) (by have := Hle.out; omega)).mono ?_
          rw [← cat_snoc l k t Ht.out]
          rintro e w3 ⟨rfl, hH3, hm3⟩
          have Hb3 : Hid (Below w.heap.size w w3) := Hb2.out.trans (hm3.below Hb2.out.size (fun j hj => by omega))
          have HH3 := Lib.hid hH3
          clear hH3 hm3
          have HL3 := Lib.hid (HL.out.below Hb3.out)
          obtain ⟨ad3, t3, hAd3, _, ht3, _, hc3⟩ := HL3.out.at_ hlt
          obtain rfl := Option.some.inj hAd3
          obtain rfl : t = t3 := Option.some.inj (Ht.out.symm.trans ht3)
          clear ht3 hAd3
          go_wp2_with fail
          refine (hsum_any g _ _ HH3.out (HG.out.below Hb3.out) (by have := Hle2.out; omega)).mono ?_
          rintro e w4 ⟨rfl, hb4⟩
          have Hb4 := Lib.hid (Hb3.out.trans (hb4.mono Hb3.out.size))
          have HH4 := Lib.hid (HH3.out.below hb4)
          clear hb4 hc3
          rw [HC.out]
          go_wp2_with fail
          have hba : Below w.heap.size w (w4.alloc (.cells #[.string S2] 9)) := Hb4.out.alloc Hb4.out.size _
          have hbb : Below w4.heap.size w4 (w4.alloc (.cells #[.string S2] 9)) := (Below.refl _ w4).alloc (Nat.le_refl _) _
          refine (C1.out _ _ (World.cell?_alloc_new w4 _ _ 0) (HG.out.below hba)).mono ?_
          rintro e w5 ⟨rfl, hb5⟩
          have Hb5 := Lib.hid (hba.trans (hb5.mono hba.size))
          have HH5 := Lib.hid (HH4.out.below (hbb.trans (hb5.mono hbb.size)))
          clear hb5 hba hbb
          go_wp2_with fail
          refine (len_any g _ _ HH5.out (by have := Hle2.out; omega)).mono ?_
          rw [HLn.out]
          rintro e w6 ⟨rfl, hww⟩
          obtain rfl := hww.symm
          go_wp2
          go_roundw
          case rel => exact ⟨k + 1, g, by omega, by go_num, rfl, by omega, by rw [HS2.out], HH5.out, Hb5.out⟩
          case measure => simp [intOf]; omega
      · obtain rfl : k = n := by omega
        have e : l.take k = l := List.take_of_length_le (by rw [Hln.out]; exact Nat.le_refl _)
        rw [e] at HHk
        rw [e]
        clear e
        have hcz : (bOf (cat l)).size ≤ 8192 := by rw [size_bOf]; exact H81.out
        have C1 : Hid (∀ b W', W'.cell? ⟨b, 0, none⟩ = some (.string (bOf (cat l))) → Globs W' → Calls Tryd.prog 7 #[.slice (some ⟨b, 0, none⟩) 1 1] W' fun e w' => e = .returned (.string (bOf (md5 (cat l)))) ∧ Below W'.heap.size W' w') := fun b W' h1 h2 => by
          have h := sum_one b (bOf (cat l)) W' h1 (by omega) h2
          rw [toList_bOf] at h
          exact h
        have CH := Lib.hid (fun W' h g' => hsum_any g (cat l) W' h g' (by have := H81.out; omega))
        generalize bOf (md5 (cat l)) = D at *
        generalize bOf (cat l) = X at *
        have HL2 := Lib.hid (HL.out.below Hbk.out)
        go_wp2_with fail
        refine (CS.out _ (HL2.out.more Hbk.out.size) (HG.out.below Hbk.out)).mono ?_
        rintro e w3 ⟨rfl, hb3⟩
        have Hb3 := Lib.hid (Hbk.out.trans (hb3.mono Hbk.out.size))
        have HH3 := Lib.hid (HHk.out.below hb3)
        clear hb3
        go_wp2_with fail
        have hba : Below w.heap.size w (w3.alloc (.cells #[.string X] 9)) := Hb3.out.alloc Hb3.out.size _
        have hbb : Below w3.heap.size w3 (w3.alloc (.cells #[.string X] 9)) := (Below.refl _ w3).alloc (Nat.le_refl _) _
        refine (C1.out _ _ (World.cell?_alloc_new w3 _ _ 0) (HG.out.below hba)).mono ?_
        rintro e w4 ⟨rfl, hb4⟩
        have Hb4 := Lib.hid (hba.trans (hb4.mono hba.size))
        have HH4 := Lib.hid (HH3.out.below (hbb.trans (hb4.mono hbb.size)))
        clear hb4 hba hbb
        go_wp2_with fail
        refine (CH.out _ HH4.out (HG.out.below Hb4.out)).mono ?_
        rintro e w5 ⟨rfl, hb5⟩
        have Hb5 := Lib.hid (Hb4.out.trans (hb5.mono Hb4.out.size))
        have HH5 := Lib.hid (HH4.out.below hb5)
        clear hb5
        go_wp2_with fail
        refine (CH.out _ HH5.out (HG.out.below Hb5.out)).mono ?_
        rintro e w6 ⟨rfl, hb6⟩
        have Hb6 := Lib.hid (Hb5.out.trans (hb6.mono Hb5.out.size))
        clear hb6
        go_wp2_with fail
        refine (alive_any _ (HG.out.below Hb6.out)).mono ?_
        rintro e w7 ⟨rfl, hb7⟩
        go_wp2
        go_ret
        exact ⟨rfl, Hb6.out.trans (hb7.mono Hb6.out.size)⟩
  · have Hlo := Lib.hid hlo; clear hlo
    go_enter Tryd.func4, Tryd.ntmps4
    go_wp2_with fail
    refine (CL.out _ HL.out).mono ?_
    rw [Hlo.out]
    rintro e w1 ⟨rfl, hww⟩
    obtain rfl := hww.symm
    go_wp2_with fail
    refine (alive_any _ HG.out).mono ?_
    rintro e w1 ⟨rfl, hb⟩
    go_wp2
    go_ret
    exact ⟨rfl, hb⟩

set_option maxRecDepth 100000 in
theorem lifted (os : Os) (started : os.Started) (H : Type) (enc : TypeId × Value → H) :
    ReturnsInHanded {} Tryd.checked os 4 .any (fun w args => (Rows.md5PartsSpec.pre enc Tryd.prog Tryd.f4 [] false w args ∧ laidMetH Tryd.prog laid2 w) ∧ sizedMet enc Tryd.prog Tryd.f4 (OpenSpec.ofChange Rows.md5PartsSpec) false w args)
      (Rows.md5PartsSpec.post enc Tryd.prog Tryd.f4 false true false false) := by
  refine returnsInHanded_of_change_and (C := Tryd.checked) (X := fun w _ => laidMetH Tryd.prog laid2 w) (fun _ _ _ hh h => h.of_heap hh) own started (by kernel_rfl) Tryd.func4
    (ChangeSpec.witness_shaped (enc := enc) (C := Tryd.checked) (os := os) (X := fun w _ => laidMetH Tryd.prog laid2 w) false (World.doorLaid Tryd.prog 400 os) #[.slice none 0 0, .int .u8 0] 8 rfl (World.shaped_of_RefB (by kernel_rfl) (by kernel_rfl)) (by kernel_rfl) (by kernel_rfl) (by kernel_rfl) (door_met os _)) ?_
  intro W base args ds gs before hval0 hW _ hsz0 hL _
  have hsz : (DataW.weightsEach Tryd.prog (Tryd.f4.params.toList ++ Rows.md5PartsSpec.plain.varTypes Tryd.prog) (ds ++ gs)).all (· ≤ reachBytes) = true := hsz0
  have hval : ∀ (j : Nat) t v, Tryd.f4.params[j]? = some t → args[j]? = some v → Value.okWide Tryd.prog W .any base t v := hval0
  have hW' := hW
  obtain ⟨p, q, hA0, hV, rfl, hfz, hnd⟩ := hW
  have hlt := hW'.lt
  have hA : DataW.TrodAll enc Tryd.prog W 0 (fun _ => true) true Tryd.f4.params.toList args.toList ds p := hA0
  rw [Tryd.params4] at hA hval hsz
  obtain ⟨v0, vs0, d0, ds0, p0, q0, hargs, rfl, rfl, h0, r0⟩ := trodAll_cons hA
  obtain ⟨v1, vs1, d1, ds1, p1, q1, rfl, rfl, rfl, h1, r1⟩ := trodAll_cons r0
  obtain ⟨rfl, rfl, rfl⟩ := trodAll_nil r1
  obtain rfl : args = #[v0, v1] := by cases args; simp_all
  obtain ⟨rfl, rfl⟩ := trodVars_none hV
  obtain ⟨A0, n0, c0, rfl, m0, x0, l0, hS0, y0⟩ := strs_sized Tryd.underlying26 Tryd.underlying9 (by kernel_rfl) (hval 0 26 v0 rfl rfl) h0 (fun n hn => of_decide_eq_true (List.all_eq_true.1 hsz n (DataW.weights_mem_each (j := 0) (t := 26) rfl rfl n hn)))
  obtain ⟨z1, rfl, rfl, rfl, w1⟩ := open_int Tryd.underlying5 (hval 1 5 v1 rfl rfl) h1
  obtain ⟨a1, rfl⟩ : ∃ n : Nat, z1 = n := ⟨z1.toNat, by have := bounds_u8 w1; omega⟩
  have b1 := bounds_u8 w1
  clear hA0 hval0 hsz0
  exact (walk A0 n0 c0 l0 a1 m0 y0 (by omega) W hS0 (of_laid hL)).mono fun e W' ⟨he, hb⟩ => ⟨_, he, Law.law_post (t := 4) laidOut (by kernel_rfl) rfl rfl Tryd.underlying4 ⟨rfl, rfl, rfl⟩ hW' hb⟩

theorem over : Rows.md5PartsRow.holds Tryd.pinned (OpenSpec.ofChange Rows.md5PartsSpec) :=
  OpenClaim.holds_of_wide 4 Tryd.f4 rfl rfl rfl rfl rfl rfl rfl ⟨rfl, rfl, rfl, rfl, rfl⟩ rfl rfl rfl rfl rfl (by kernel_rfl) Tryd.func4 (by kernel_rfl)
    (of_decide_eq_true (by kernel_rfl)) (by unfold Func.isWrapper; first | (rw [if_pos (by decide +kernel)]; kernel_rfl) | (rw [if_neg (by decide +kernel)]; exact ⟨rfl, rfl⟩))
    (fun os started H enc _ => lifted os started H enc)

theorem proved : Rows.Md5PartsCardSaid :=
  Claim7.holds_tied_plain_at .later [] [.data, .data] true _ false
    over (fun _ h => by cases h) (by kernel_rfl) (fun _ h => by cases h) md5Parts_row_tie rfl ⟨rfl, rfl⟩ (by kernel_rfl) rfl
    (fun f fn hf hfn => by
      obtain rfl : f = 4 := Option.some.inj ((show Tryd.prog.funcNamed "halyard/halyardlaw05.Md5Parts" = some 4 by kernel_rfl).symm.trans hf) |>.symm
      obtain rfl : fn = Tryd.f4 := (Option.some.inj (Tryd.func4.symm.trans hfn)).symm
      exact ⟨by kernel_rfl, fun j t ht => by
        rw [Tryd.params4] at ht
        rcases j with _ | j
        · obtain rfl : t = 26 := by simpa using ht.symm
          exact (show Tryd.prog.wantsStandIn 26 = false by kernel_rfl)
        rcases j with _ | j
        · obtain rfl : t = 5 := by simpa using ht.symm
          exact (show Tryd.prog.wantsStandIn 5 = false by kernel_rfl)
        simp at ht⟩)
    (by kernel_rfl)
#print axioms proved
end Go.Proofs.YtdpmndfoplndnaaDoor.Md5Parts
