/- Md5Joins is proved: parts are digested as they are one behind the other, wherever they are parted; digits are two a byte, and tell bytes apart. Conditions: the row's own (package md5's two tables hold what the program's text lays: the card ties that). -/
import Derived.Test.YtdpmndfoplndnaaDoorMd5P
import Derived.Test.YtdpmndfoplndnaaDoorCards
import Derived.Test.YtdpmndfoplndnaaDoorTie
import Derived.SevenTiedAt
import Derived.ChangeMaps5
namespace Go.Proofs.YtdpmndfoplndnaaDoor.Md5Joins
open Go.ChangeShapes Go.WideShapes Go.ChangeAt Go.RowKit Go.WideElems Go.Proofs.YtdpmndfoplndnaaDoor.Oct Go.Proofs.YtdpmndfoplndnaaDoor.Row Go.Proofs.YtdpmndfoplndnaaDoor.Mem Go.Proofs.YtdpmndfoplndnaaDoor.Md5
open Go.ChangeMaps (open_string shut_string)

theorem bool_hex (s t : ByteArray) : ((bOf (hex s.toList)).toList == (bOf (hex t.toList)).toList) = (s.toList == t.toList) := by
  rw [toList_bOf, toList_bOf]
  by_cases h : s.toList = t.toList
  · rw [h]; simp
  · rw [beq_eq_false_iff_ne.2 h, beq_eq_false_iff_ne.2 (fun e => h (hex_inj e))]
theorem cat_two (l : List ByteArray) (s t : ByteArray) : cat (l ++ [s, t]) = cat [bOf (cat l), s ++ t] := by
  rw [cat_append]
  simp only [cat, List.append_nil, toList_bOf]
  rw [append_bOf, toList_bOf]
set_option linter.unusedSimpArgs false in
set_option maxHeartbeats 4000000 in
set_option maxRecDepth 100000 in
theorem walk (A : Option Addr) (n c : Nat) (l : List ByteArray) (s t : ByteArray) (hn : n ≤ maxLen) (hA : A = none → n = 0 ∧ c = 0) (hq : ∀ x ∈ l, x.size ≤ 140737488351232) (hs : s.size ≤ 140737488351232) (ht : t.size ≤ 140737488351232) (w : World) (hl : Strs w w.heap.size A n l) (hG : Globs w) :
    Calls Tryd.prog 5 #[.slice A n c, .string s, .string t] w fun e w' => e = .returned (.bool true) ∧ Below w.heap.size w w' := by
  obtain ⟨i0, hi, hz0, hz1, hz2⟩ := info_parts infoS
  have HG := Lib.hid hG; clear hG
  have HL := Lib.hid hl
  have CL := Lib.hid (fun W h => long_any A n c l W hn h hq)
  cases hlo : isLong l
  · obtain ⟨hl60, hl81⟩ := long_no hlo
    have Hlo := Lib.hid hlo; clear hlo
    have hn60 : n ≤ 60 := by rw [← hl.1]; exact hl60
    have Hln := Lib.hid hl.1
    have Hz := Lib.hid hl.2.1
    by_cases hbig : 4096 < s.size + t.size
    · have hbi : (4096 : Int) < (s.size : Int) + (t.size : Int) := by omega
      clear hl
      go_enter Tryd.func5, Tryd.ntmps5
      go_wp2_with fail
      refine (CL.out _ HL.out).mono ?_
      rw [Hlo.out]
      rintro e w1 ⟨rfl, hww⟩
      obtain rfl := hww.symm
      go_wp2_with fail
      refine (alive_any _ HG.out).mono ?_
      rintro e w1 ⟨rfl, hb⟩
      go_wp2
      go_ret
      exact ⟨rfl, hb⟩
    · have hbi : ¬ (4096 : Int) < (s.size : Int) + (t.size : Int) := by omega
      have CA := Lib.hid (fun W h => all_any A n c l W hn60 h hl81)
      have CS := Lib.hid (fun W h g => sum_any A n c l W hn h g (by omega))
      have hcz : (bOf (cat l)).size ≤ 8192 := by rw [size_bOf]; exact hl81
      have C1 : Hid (∀ b W', W'.cell? ⟨b, 0, none⟩ = some (.string (bOf (cat l))) → Globs W' → Calls Tryd.prog 7 #[.slice (some ⟨b, 0, none⟩) 1 1] W' fun e w' => e = .returned (.string (bOf (md5 (cat l)))) ∧ Below W'.heap.size W' w') := fun b W' h1 h2 => by
        have h := sum_one b (bOf (cat l)) W' h1 (by omega) h2
        rw [toList_bOf] at h
        exact h
      have hc2 : (cat (l ++ [s, t])).length ≤ 20000 := by
        rw [cat_append]
        simp only [cat, List.append_nil, List.length_append]
        rw [← size_toList, ← size_toList]; omega
      have C2 : Hid (∀ A' c' W', Strs W' W'.heap.size A' (n + 2) (l ++ [s, t]) → Globs W' → Calls Tryd.prog 7 #[.slice A' ((n + 2 : Nat)) c'] W' fun e w' => e = .returned (.string (bOf (md5 (cat (l ++ [s, t]))))) ∧ Below W'.heap.size W' w') := fun A' c' W' h g => sum_any A' (n + 2) c' _ W' (by unfold maxLen; omega) h g (by omega)
      have C3 : Hid (∀ W', Globs W' → Calls Tryd.prog 7 #[.slice (some ⟨W'.heap.size, 0, none⟩) 2 2] (W'.alloc (.cells (textsV [bOf (cat l), s ++ t]).toArray 9)) fun e w' => e = .returned (.string (bOf (md5 (cat (l ++ [s, t]))))) ∧ Below W'.heap.size W' w') := fun W' g => by
        have hb := (Below.refl W'.heap.size W').alloc (Nat.le_refl _) (.cells (textsV [bOf (cat l), s ++ t]).toArray 9)
        have h := sum_any (some ⟨W'.heap.size, 0, none⟩) 2 2 [bOf (cat l), s ++ t] (W'.alloc (.cells (textsV [bOf (cat l), s ++ t]).toArray 9)) (by unfold maxLen; omega) (strs_new W' _ (fun x hx => by
          rcases List.mem_cons.1 hx with rfl | hx
          · unfold maxLen; omega
          · rw [List.mem_singleton] at hx; subst hx; rw [append_bOf, size_bOf, List.length_append, ← size_toList, ← size_toList]; unfold maxLen; omega)) (g.below hb) (by rw [← cat_two]; omega)
        rw [← cat_two] at h
        exact h.mono fun e w' hh => ⟨hh.1, hb.trans (hh.2.mono hb.size)⟩
      have CHs := Lib.hid (fun W' => hex_any s W' (by omega))
      have CHt := Lib.hid (fun W' => hex_any t W' (by omega))
      have hcs : (s ++ t : ByteArray).size = s.size + t.size := by rw [append_bOf, size_bOf, List.length_append, ← size_toList, ← size_toList]
      have CHst := Lib.hid (fun W' => hex_any (s ++ t) W' (by omega))
      have e1 := bool_hex s t
      have z1 : (bOf (hex s.toList)).size = 2 * s.size := by rw [size_bOf, hex_length, ← size_toList]
      have z2 : (bOf (hex t.toList)).size = 2 * t.size := by rw [size_bOf, hex_length, ← size_toList]
      have e2 : bOf (hex s.toList) ++ bOf (hex t.toList) = bOf (hex (s ++ t : ByteArray).toList) := by
        rw [append_bOf, toList_bOf, toList_bOf, ← hex_append, append_bOf, toList_bOf]
      have z3 : (bOf (md5 (cat l))).size = 16 := by rw [size_bOf]; rfl
      have hzt : ∀ x ∈ l ++ [s, t], x.size ≤ maxLen := fun x hx => by
        rcases List.mem_append.1 hx with hx | hx
        · exact Hz.out x hx
        · simp only [List.mem_cons, List.not_mem_nil, or_false] at hx
          rcases hx with rfl | rfl <;> (unfold maxLen; omega)
      have Hzt := Lib.hid hzt; clear hzt
      generalize bOf (hex s.toList) = Hs at *
      generalize bOf (hex t.toList) = Ht at *
      generalize bOf (hex (s ++ t : ByteArray).toList) = Hst at *
      generalize bOf (md5 (cat l)) = D at *
      generalize bOf (md5 (cat (l ++ [s, t]))) = D2 at *
      generalize bOf (cat l) = X at *
      have E2 := Lib.hid e2; clear e2
      have HAn := Lib.hid hA; clear hA
      clear hl hl60 hl81 hc2 hq hn
      go_enter Tryd.func5, Tryd.ntmps5
      go_wp2_with fail
      refine (CL.out _ HL.out).mono ?_
      rw [Hlo.out]
      rintro e w1 ⟨rfl, hww⟩
      obtain rfl := hww.symm
      go_wp2_with fail
      refine (CA.out _ HL.out).mono ?_
      rintro e w1 ⟨rfl, hww⟩
      obtain rfl := hww.symm
      go_wp2_with fail
      refine (CS.out _ HL.out HG.out).mono ?_
      rintro e w1 ⟨rfl, hb1⟩
      have Hb1 := Lib.hid hb1; clear hb1
      go_wp2_with fail
      have hba : Below w.heap.size w (w1.alloc (.cells #[.string X] 9)) := Hb1.out.alloc Hb1.out.size _
      refine (C1.out _ _ (World.cell?_alloc_new w1 _ _ 0) (HG.out.below hba)).mono ?_
      rintro e w2 ⟨rfl, hb2⟩
      have Hb2 := Lib.hid (hba.trans (hb2.mono hba.size)); clear hb2 hba
      go_wp2_with fail
      have hba : Below w.heap.size w (w2.alloc (.cells #[.string X] 9)) := Hb2.out.alloc Hb2.out.size _
      refine (C1.out _ _ (World.cell?_alloc_new w2 _ _ 0) (HG.out.below hba)).mono ?_
      rintro e w3 ⟨rfl, hb3⟩
      have Hb3 := Lib.hid (hba.trans (hb3.mono hba.size)); clear hb3 hba
      have HA3 : Hid (∀ W, Below w.heap.size w W → Adds W A n c (.slice none 0 0) 0 (textsV l)) := fun W hW => adds_strs HAn.out (HL.out.below hW)
      have hlt : (textsV l).length = n := by unfold textsV; rw [List.length_map]; exact Hln.out
      have Hlt := Lib.hid hlt; clear hlt
      have H3z := Hb3.out.size
      iterate 12 (first | go_values | go_skip | go_guarded | go_step | go_upon | go_back | (simp only [Int.not_lt, Int.not_le] at *; go_simp) | (go_values <;> (try go_simp)) | (go_ite <;> go_prune <;> (try go_simp)))
      refine wpList_append_row (by rfl) _ _ 26 rfl w.heap.size 9 i0 (.string ByteArray.empty) 16 Tryd.underlying26 hi hz0 hz1 hz2 rfl (.slice none 0 0) 0 [] rfl (World.ownsRow_nil _ _ _ _) A n c (textsV l) rfl Hlt.out (HA3.out _ Hb3.out) (texts_one l) (by unfold maxLen; omega) (by omega) H3z ?_
      intro v4 w4 hown4 hgr4
      rw [Nat.zero_add, List.nil_append] at hown4
      have Hown4 := Lib.hid hown4; clear hown4
      have Hb4 := Lib.hid (Hb3.out.grown hgr4 H3z (fun q hq => by cases hq)); clear hgr4
      have H4z := Hb4.out.size
      iterate 6 (first | go_values | go_skip | go_guarded | go_step | go_upon | go_back | (simp only [Int.not_lt, Int.not_le] at *; go_simp) | (go_values <;> (try go_simp)) | (go_ite <;> go_prune <;> (try go_simp)))
      have hba : Below w.heap.size w (w4.alloc (.cells (textsV [s, t]).toArray 9)) := Hb4.out.alloc H4z _
      refine wpList_append_row (by rfl) _ _ 26 rfl w.heap.size 9 i0 (.string ByteArray.empty) 16 Tryd.underlying26 hi hz0 hz1 hz2 rfl v4 n (textsV l) rfl (Hown4.out.alloc _) (some ⟨w4.heap.size, 0, none⟩) 2 2 (textsV [s, t]) rfl rfl (.inr ⟨_, rfl, texts_new w4 [s, t]⟩) (texts_one [s, t]) (by unfold maxLen; omega) (by omega) hba.size ?_
      intro v5 w5 hown5 hgr5
      have Hb5 := Lib.hid (hba.grown hgr5 hba.size (fun q hq => (Hown4.out.lt q hq).1)); clear hgr5 hba
      have hx5 : textsV (l ++ [s, t]) = textsV l ++ textsV [s, t] := by unfold textsV; rw [List.map_append]
      rw [← hx5] at hown5
      obtain ⟨A5, c5, rfl, hS5⟩ := strs_own hown5 Hzt.out
      have HS5 := Lib.hid hS5; clear hS5 hown5 hx5
      have H5z := Hb5.out.size
      go_wp2_with fail
      refine (C2.out _ _ _ HS5.out (HG.out.below Hb5.out)).mono ?_
      rintro e w6 ⟨rfl, hb6⟩
      have Hb6 := Lib.hid (Hb5.out.trans (hb6.mono H5z)); clear hb6
      go_wp2_with fail
      refine (C3.out w6 (HG.out.below Hb6.out)).mono ?_
      rintro e w7 ⟨rfl, hb7⟩
      have Hb7 := Lib.hid (Hb6.out.trans (hb7.mono Hb6.out.size)); clear hb7
      go_wp2_with fail
      refine (CHs.out _).mono ?_
      rintro e w8 ⟨rfl, hb8⟩
      have Hb8 := Lib.hid (Hb7.out.trans (hb8.mono Hb7.out.size)); clear hb8
      go_wp2_with fail
      refine (CHs.out _).mono ?_
      rintro e w9 ⟨rfl, hb9⟩
      have Hb9 := Lib.hid (Hb8.out.trans (hb9.mono Hb8.out.size)); clear hb9
      go_wp2_with fail
      refine (CHt.out _).mono ?_
      rintro e w10 ⟨rfl, hb10⟩
      have Hb10 := Lib.hid (Hb9.out.trans (hb10.mono Hb9.out.size)); clear hb10
      go_wp2_with fail
      refine (CHst.out _).mono ?_
      rintro e w11 ⟨rfl, hb11⟩
      have Hb11 := Lib.hid (Hb10.out.trans (hb11.mono Hb10.out.size)); clear hb11
      go_wp2_with fail
      refine (CHs.out _).mono ?_
      rintro e w12 ⟨rfl, hb12⟩
      have Hb12 := Lib.hid (Hb11.out.trans (hb12.mono Hb11.out.size)); clear hb12
      go_wp2_with fail
      refine (CHt.out _).mono ?_
      rintro e w13 ⟨rfl, hb13⟩
      have Hb13 := Lib.hid (Hb12.out.trans (hb13.mono Hb12.out.size)); clear hb13
      rw [← E2.out]
      go_wp2_with fail
      refine (alive_any _ (HG.out.below Hb13.out)).mono ?_
      rintro e w14 ⟨rfl, hb14⟩
      have Hb14 := Lib.hid (Hb13.out.trans (hb14.mono Hb13.out.size)); clear hb14
      go_wp2
      go_ret
      exact ⟨rfl, Hb14.out⟩
  · clear hl
    have Hlo := Lib.hid hlo; clear hlo
    go_enter Tryd.func5, Tryd.ntmps5
    go_wp2_with fail
    refine (CL.out _ HL.out).mono ?_
    rw [Hlo.out]
    rintro e w1 ⟨rfl, hww⟩
    obtain rfl := hww.symm
    go_wp2_with fail
    refine (alive_any _ HG.out).mono ?_
    rintro e w1 ⟨rfl, hb⟩
    go_wp2
    go_ret
    exact ⟨rfl, hb⟩

set_option maxRecDepth 100000 in
theorem lifted (os : Os) (started : os.Started) (H : Type) (enc : TypeId × Value → H) :
    ReturnsInHanded {} Tryd.checked os 5 .any (fun w args => (Rows.md5JoinsSpec.pre enc Tryd.prog Tryd.f5 [] false w args ∧ laidMetH Tryd.prog laid2 w) ∧ sizedMet enc Tryd.prog Tryd.f5 (OpenSpec.ofChange Rows.md5JoinsSpec) false w args)
      (Rows.md5JoinsSpec.post enc Tryd.prog Tryd.f5 false true false false) := by
  refine returnsInHanded_of_change_and (C := Tryd.checked) (X := fun w _ => laidMetH Tryd.prog laid2 w) (fun _ _ _ hh h => h.of_heap hh) own started (by kernel_rfl) Tryd.func5
    (ChangeSpec.witness_shaped (enc := enc) (C := Tryd.checked) (os := os) (X := fun w _ => laidMetH Tryd.prog laid2 w) false (World.doorLaid Tryd.prog 400 os) #[.slice none 0 0, .string ByteArray.empty, .string ByteArray.empty] 8 rfl (World.shaped_of_RefB (by kernel_rfl) (by kernel_rfl)) (by kernel_rfl) (by kernel_rfl) (by kernel_rfl) (door_met os _)) ?_
  intro W base args ds gs before hval0 hW _ hsz0 hL _
  have hsz : (DataW.weightsEach Tryd.prog (Tryd.f5.params.toList ++ Rows.md5JoinsSpec.plain.varTypes Tryd.prog) (ds ++ gs)).all (· ≤ reachBytes) = true := hsz0
  have hval : ∀ (j : Nat) t v, Tryd.f5.params[j]? = some t → args[j]? = some v → Value.okWide Tryd.prog W .any base t v := hval0
  have hW' := hW
  obtain ⟨p, q, hA0, hV, rfl, hfz, hnd⟩ := hW
  have hlt := hW'.lt
  have hA : DataW.TrodAll enc Tryd.prog W 0 (fun _ => true) true Tryd.f5.params.toList args.toList ds p := hA0
  rw [Tryd.params5] at hA hval hsz
  obtain ⟨v0, vs0, d0, ds0, p0, q0, hargs, rfl, rfl, h0, r0⟩ := trodAll_cons hA
  obtain ⟨v1, vs1, d1, ds1, p1, q1, rfl, rfl, rfl, h1, r1⟩ := trodAll_cons r0
  obtain ⟨v2, vs2, d2, ds2, p2, q2, rfl, rfl, rfl, h2, r2⟩ := trodAll_cons r1
  obtain ⟨rfl, rfl, rfl⟩ := trodAll_nil r2
  obtain rfl : args = #[v0, v1, v2] := by cases args; simp_all
  obtain ⟨rfl, rfl⟩ := trodVars_none hV
  obtain ⟨A0, n0, c0, rfl, m0, x0, l0, hS0, y0⟩ := strs_sized Tryd.underlying26 Tryd.underlying9 (by kernel_rfl) (hval 0 26 v0 rfl rfl) h0 (fun n hn => of_decide_eq_true (List.all_eq_true.1 hsz n (DataW.weights_mem_each (j := 0) (t := 26) rfl rfl n hn)))
  obtain ⟨a1, rfl, rfl, rfl, w1⟩ := open_string Tryd.underlying9 (hval 1 9 v1 rfl rfl) h1
  obtain ⟨a2, rfl, rfl, rfl, w2⟩ := open_string Tryd.underlying9 (hval 2 9 v2 rfl rfl) h2
  have z1 : a1.size ≤ 140737488351232 := by have h := sized_string hsz (j := 1) (t := 9) rfl rfl; rw [Array.length_toList] at h; exact h
  have z2 : a2.size ≤ 140737488351232 := by have h := sized_string hsz (j := 2) (t := 9) rfl rfl; rw [Array.length_toList] at h; exact h
  clear hA0 hval0 hsz0
  exact (walk A0 n0 c0 l0 a1 a2 m0 x0 y0 z1 z2 W hS0 (of_laid hL)).mono fun e W' ⟨he, hb⟩ => ⟨_, he, Law.law_post (t := 4) laidOut (by kernel_rfl) rfl rfl Tryd.underlying4 ⟨rfl, rfl, rfl⟩ hW' hb⟩

theorem over : Rows.md5JoinsRow.holds Tryd.pinned (OpenSpec.ofChange Rows.md5JoinsSpec) :=
  OpenClaim.holds_of_wide 5 Tryd.f5 rfl rfl rfl rfl rfl rfl rfl ⟨rfl, rfl, rfl, rfl, rfl⟩ rfl rfl rfl rfl rfl (by kernel_rfl) Tryd.func5 (by kernel_rfl)
    (of_decide_eq_true (by kernel_rfl)) (by unfold Func.isWrapper; first | (rw [if_pos (by decide +kernel)]; kernel_rfl) | (rw [if_neg (by decide +kernel)]; exact ⟨rfl, rfl⟩))
    (fun os started H enc _ => lifted os started H enc)

theorem proved : Rows.Md5JoinsCardSaid :=
  Claim7.holds_tied_plain_at .later [] [.data, .data] true _ false
    over (fun _ h => by cases h) (by kernel_rfl) (fun _ h => by cases h) md5Joins_row_tie rfl ⟨rfl, rfl⟩ (by kernel_rfl) rfl
    (fun f fn hf hfn => by
      obtain rfl : f = 5 := Option.some.inj ((show Tryd.prog.funcNamed "halyard/halyardlaw05.Md5Joins" = some 5 by kernel_rfl).symm.trans hf) |>.symm
      obtain rfl : fn = Tryd.f5 := (Option.some.inj (Tryd.func5.symm.trans hfn)).symm
      exact ⟨by kernel_rfl, fun j t ht => by
        rw [Tryd.params5] at ht
        rcases j with _ | j
        · obtain rfl : t = 26 := by simpa using ht.symm
          exact (show Tryd.prog.wantsStandIn 26 = false by kernel_rfl)
        rcases j with _ | j
        · obtain rfl : t = 9 := by simpa using ht.symm
          exact (show Tryd.prog.wantsStandIn 9 = false by kernel_rfl)
        rcases j with _ | j
        · obtain rfl : t = 9 := by simpa using ht.symm
          exact (show Tryd.prog.wantsStandIn 9 = false by kernel_rfl)
        simp at ht⟩)
    (by kernel_rfl)
#print axioms proved
end Go.Proofs.YtdpmndfoplndnaaDoor.Md5Joins
