/- PROVED: 'halyardlaw04.HdlcPlays' returns true for every most, every map, every steps and every information, and leaves them as they were. No condition. -/
import Derived.Test.YtfcmpnfdgfdclaaHdlO
import Derived.Test.YtfcmpnfdgfdclaaLaw
import Derived.Test.YtfcmpnfdgfdclaaRows
import Derived.Deep.CutRange
import Derived.Deep.DeepCutAuto
namespace Go.Proofs.Ytfcmpnfdgfdclaa.HdlcPlays
open Go.ChangeShapes Go.WideShapes Go.ChangeAt Go.RowKit Go.Proofs.Ytfcmpnfdgfdclaa.Oct Go.Proofs.Ytfcmpnfdgfdclaa.Row Go.Proofs.Ytfcmpnfdgfdclaa.Esc Go.Proofs.Ytfcmpnfdgfdclaa.Fcs Go.Proofs.Ytfcmpnfdgfdclaa.Hdl Go.Proofs.Ytfcmpnfdgfdclaa.Law
open Go.ChangeMaps (open_string shut_string)

set_option linter.unusedSimpArgs false in
set_option linter.unusedVariables false in
set_option maxHeartbeats 8000000 in
set_option maxRecDepth 100000 in
theorem walk (mo : Int) (a : Nat) (A : Option Addr) (n c : Nat) (info : ByteArray) (ha : a < 4294967296) (hn : n ≤ maxLen) (hin : info.size ≤ maxLen) (w : World) (hT : Stps w w.heap.size A n) :
    Calls Try.prog 3 #[.int .i64 mo, .int .u32 a, .slice A n c, .string info] w fun e w' => e = .returned (.bool true) ∧ Below w.heap.size w w' := by
  have Ha := Lib.hid ha; clear ha
  have HT := Lib.hid hT
  have Hn := Lib.hid hn
  unfold maxLen at hin hn
  go_enter Try.func3, Try.ntmps3
  go_wp2_with fail
  refine (long_any A n c _ hT Hn.out).mono ?_
  clear hT
  rintro e w1 ⟨b, rfl, hL, rfl⟩
  have HL := Lib.hid hL; clear hL
  cases b
  case true =>
    go_wp2_with fail
    refine (alive_any _).mono ?_
    rintro e w1 ⟨rfl, hb1⟩
    go_wp2
    go_ret
    exact ⟨rfl, hb1⟩
  case false =>
    by_cases hi4 : 4096 < (info.size : Int)
    · go_wp2_with fail
      refine (alive_any _).mono ?_
      rintro e w1 ⟨rfl, hb1⟩
      go_wp2
      go_ret
      exact ⟨rfl, hb1⟩
    · have hd4 : decide (4096 < (info.size : Int)) = false := decide_eq_false hi4
      have hn60 := (HL.out rfl).1
      have HS8 := Lib.hid (HL.out rfl).2; clear HL
      obtain ⟨Fr, hFr⟩ : ∃ Fr, bOf (126 :: (put a (seal_ info.toList) ++ [126])) = Fr := ⟨_, rfl⟩
      have HFr := Lib.hid hFr; clear hFr
      have hFF : (Fr.toList != Fr.toList) = false := by simp
      go_wp2_with fail
      refine (push_nil ⟨#[126]⟩ _).mono ?_
      rintro e w1 ⟨rfl, rfl⟩
      go_wp2_with fail
      refine (set_nil 2 0 _).mono ?_
      rintro e w1 ⟨rfl, rfl⟩
      go_wp2_with fail
      refine (heard_nil _).mono ?_
      rintro e w1 ⟨rfl, hb1⟩
      have Hb1 := Lib.hid hb1; clear hb1
      go_wp2_with fail
      refine (inside_nil _).mono ?_
      rintro e w2 ⟨rfl, rfl⟩
      go_wp2_with fail
      refine (copy_nil _).mono ?_
      rintro e w2 ⟨rfl, rfl⟩
      go_wp2_with fail
      refine (frame_any info a _ (by omega) Ha.out).mono ?_
      rw [HFr.out]
      rintro e w2 ⟨rfl, hb2⟩
      have Hb2 := Lib.hid (Hb1.out.trans (hb2.mono Hb1.out.size)); clear hb2
      go_wp2_with fail
      refine (rframe_any info a _ (by omega) Ha.out).mono ?_
      rw [HFr.out]
      rintro e w3 ⟨rfl, hb3⟩
      have Hb3 := Lib.hid (Hb2.out.trans (hb3.mono Hb2.out.size)); clear hb3 Hb1 Hb2
      cases hmay : may mo
      · have HMay := Lib.hid hmay; clear hmay
        go_wp2_with fail
        refine (new_no mo a _ HMay.out).mono ?_
        rintro e w4 ⟨rfl, rfl⟩
        go_wp2_with fail
        refine (rmay_any mo _).mono ?_
        rw [HMay.out]
        rintro e w4 ⟨rfl, rfl⟩
        go_wp2_with fail
        refine (alive_any _).mono ?_
        rintro e w4 ⟨rfl, hb4⟩
        go_wp2
        go_ret
        exact ⟨rfl, Hb3.out.trans (hb4.mono Hb3.out.size)⟩
      · have hmm := may_iff hmay
        have HMay := Lib.hid hmay; clear hmay
        obtain ⟨M, rfl⟩ : ∃ M : Nat, (M : Int) = mo := ⟨mo.toNat, by omega⟩
        have hM1 : 2 ≤ M := by omega
        have hM2 : M ≤ 1508 := by omega
        clear hmm
        go_wp2_with fail
        refine (new_yes M a _ hM1 hM2).mono ?_
        rintro e w4 ⟨rfl, hR4, hb4, hy4⟩
        have HR4 := Lib.hid (hR4.lower (n₁ := w.heap.size) Hb3.out.size); clear hR4 hy4
        have Hb4 := Lib.hid (Hb3.out.trans (hb4.mono Hb3.out.size)); clear hb4
        go_wp2_with fail
        refine (rmay_any M _).mono ?_
        rw [HMay.out]
        rintro e w5 ⟨rfl, rfl⟩
        generalize w3.heap.size = g0 at *
        go_wp2
        obtain ⟨w5, hw5⟩ : ∃ W, w4.alloc (.cells (cellsD (fresh M a)) 41) = W := ⟨_, rfl⟩
        have hD5 : Doc w5 w4.heap.size (fresh M a) := by rw [← hw5]; exact World.alloc_heap_new w4 _
        have hB45 : Below w4.heap.size w4 w5 := by rw [← hw5]; exact (Below.refl _ _).alloc (Nat.le_refl _) _
        have HP0 : Hid (PlayR w w4.heap.size g0 (fresh M a) (.slice none 0 0) (9000 * 0) w5) := ⟨HR4.out.below hB45, hD5, fresh_inv hM1 hM2 Ha.out, fresh_small M a, Nat.zero_le _, Hb4.out.trans (hB45.mono Hb4.out.size), Hb4.out.size⟩
        have hw5' : w4.alloc (.cells #[.int .i64 M, .int .u32 a, .bool false, .string ⟨#[]⟩, .int .i64 0, .int .i64 0, .int .i64 0, .int .i64 0, .int .i64 0] 41) = w5 := hw5
        rw [hw5']
        clear hw5 hw5' hD5 hB45
        generalize fresh M a = r0 at *
        generalize w4.heap.size = gd at *
        go_loopg [10, 13] n (fun gk xv i wr => ∃ (k g : Nat) (r : St) (v : Value), k ≤ n ∧ gk = n - k ∧ i = .int .i64 k ∧ xv = .pointer (some ⟨g, 0, none⟩) ∧ Hid (PlayR w gd g r v (9000 * k) wr))
        case atStart => exact ⟨0, g0, r0, _, Nat.zero_le _, rfl, rfl, rfl, HP0⟩
        case round =>
          obtain ⟨k, g, r, v, hk, hgk, rfl, rfl, HP⟩ := hrel
          have Hgk := Lib.hid hgk; clear hgk
          by_cases hlt : k < n
          · obtain ⟨ad, S, st, m, a2, cp, rfl, hB, hs, hS1, ha2⟩ := (HT.out.below HP.out.2.2.2.2.2.1) k hlt
            have hS8 : S.size ≤ 8192 := HS8.out k hlt ad S rfl ((HP.out.2.2.2.2.2.1.cell (by rw [add_block, add_block]; exact hB)).symm.trans hs.1)
            have hwl := Nat.lt_of_lt_of_le hB HP.out.2.2.2.2.2.1.size
            obtain ⟨h0, h1, h2, h3, h4⟩ := hs
            have h0' : wr.cell? (ad.add (k * 5)) = some (.string S) := by have h := h0; rw [add_five] at h; exact h
            have h1' : wr.cell? ⟨(ad.add (k * 5)).block, (ad.add (k * 5)).off + 1, none⟩ = some (.bool st) := h1
            have h2' : wr.cell? ⟨(ad.add (k * 5)).block, (ad.add (k * 5)).off + 2, none⟩ = some (.int .i64 m) := h2
            have h3' : wr.cell? ⟨(ad.add (k * 5)).block, (ad.add (k * 5)).off + 3, none⟩ = some (.int .u32 a2) := h3
            have h4' : wr.cell? ⟨(ad.add (k * 5)).block, (ad.add (k * 5)).off + 4, none⟩ = some (.bool cp) := h4
            clear h0 h1 h2 h3 h4
            have HP1 : Hid (PlayR w gd g r v (9000 * k) (wr.alloc (.cells #[.string S, .bool st, .int .i64 m, .int .u32 a2, .bool cp] 43)) ∧ Own43 (wr.alloc (.cells #[.string S, .bool st, .int .i64 m, .int .u32 a2, .bool cp] 43)) wr.heap.size S st m a2 cp) := ⟨HP.out.mono ((Below.refl _ _).alloc (Nat.le_refl _) _), World.alloc_heap_new wr _⟩
            go_upto_if 97 with (fail)
            obtain ⟨W1, hW1⟩ : ∃ W, wr.alloc (.cells #[.string S, .bool st, .int .i64 m, .int .u32 a2, .bool cp] 43) = W := ⟨_, rfl⟩
            rw [hW1] at HP1 ⊢
            have HW1 := Lib.hid hW1; clear hW1 h0' h1' h2' h3' h4' hB hwl
            generalize wr.heap.size = b at *
            go_cut [15] from 86 to 173 (fun _ wx => ∃ r1 : St, Hid (PlayR w gd g r1 v (9000 * k) wx ∧ Own43 wx b S st m a2 cp))
            case first =>
              have p2 : W1.cell? ⟨b, 2, none⟩ = some (.int .i64 m) := (cellR HP1.out.2 2).1
              have p3 : W1.cell? ⟨b, 3, none⟩ = some (.int .u32 a2) := (cellR HP1.out.2 3).1
              have hbl := (Array.getElem?_eq_some_iff.1 HP1.out.2).1
              cases st
              · go_wp2_with fail
                go_meet
                exact ⟨r, HP1⟩
              · cases hmay : may m
                · have HMm := Lib.hid hmay; clear hmay
                  go_wp2_with fail
                  refine (set_no g m a2 _ HMm.out).mono ?_
                  rintro e w6 ⟨rfl, rfl⟩
                  go_wp2_with fail
                  refine (rmay_any m _).mono ?_
                  rw [HMm.out]
                  rintro e w6 ⟨rfl, rfl⟩
                  go_wp2_with fail
                  go_meet
                  exact ⟨r, HP1⟩
                · have hmm := may_iff hmay
                  have HMm := Lib.hid hmay; clear hmay
                  obtain ⟨M1, rfl⟩ : ∃ M1 : Nat, (M1 : Int) = m := ⟨m.toNat, by omega⟩
                  have hM11 : 2 ≤ M1 := by omega
                  have hM12 : M1 ≤ 1508 := by omega
                  clear hmm
                  go_wp2_with fail
                  refine (set_yes w.heap.size g r v M1 a2 _ HP1.out.1.1 hM11 hM12).mono ?_
                  rintro e w6 ⟨rfl, hR6, hM6⟩
                  have hO6 : Own43 w6 b S true M1 a2 cp := cells_past HP1.out.2 (by decide) (by decide) HP1.out.1.1 hM6
                  have hD6 : Doc w6 gd r := cells_past HP1.out.1.2.1 (by decide) (by decide) HP1.out.1.1 hM6
                  have HPS := Lib.hid (play_set HP1.out.1 hR6 hM6 hM11 hM12 ha2)
                  have HOS : Hid (Own43 ((w6.setCell ⟨gd, 0, none⟩ (.int .i64 M1)).setCell ⟨gd, 1, none⟩ (.int .u32 a2)) b S true M1 a2 cp) := cells_pastd hO6 (by decide) hD6 (((Moves.refl (fun k => k = gd) w6).setCell ⟨gd, 0, none⟩ (fun _ => rfl) _).setCell ⟨gd, 1, none⟩ (fun _ => rfl) _)
                  have q2 : w6.cell? ⟨b, 2, none⟩ = some (.int .i64 M1) := (cellR hO6 2).1
                  have q3 : w6.cell? ⟨b, 3, none⟩ = some (.int .u32 a2) := (cellR hO6 3).1
                  have s0 : w6.cell? ⟨gd, 0, none⟩ = some (.int .i64 r.most) := (cellR hD6 0).1
                  have s1 : w6.cell? ⟨gd, 1, none⟩ = some (.int .u32 r.accm) := (cellR hD6 1).1
                  have fs0 := (cellR hD6 0).2
                  have fs1 := (cellR hD6 1).2
                  have hbg : b ≠ gd := by rintro rfl; exact absurd (cells_type hO6 hD6) (by decide)
                  clear hR6 hM6 hO6 hD6
                  go_wp2_with fail
                  refine (rmay_any M1 _).mono ?_
                  rw [HMm.out]
                  rintro e w7 ⟨rfl, rfl⟩
                  go_wp2_with fail
                  go_meet
                  exact ⟨_, HPS.out, HOS.out⟩
            case rest =>
              obtain ⟨r1, H1⟩ := hcut
              clear HP1
              obtain ⟨w5, rfl⟩ : ∃ x, x = wc := ⟨_, rfl⟩
              have p4 : w5.cell? ⟨b, 4, none⟩ = some (.bool cp) := (cellR H1.out.2 4).1
              go_upto_if 131 with (fail)
              go_cut [10, 16] from 86 to 173 (fun s10 _ wx => ∃ (g1 : Nat) (v1 : Value), s10 = .pointer (some ⟨g1, 0, none⟩) ∧ Hid (PlayR w gd g1 r1 v1 (9000 * k) wx ∧ Own43 wx b S st m a2 cp))
              case first =>
                cases cp
                · go_wp2_with fail
                  go_meet
                  exact ⟨g, v, rfl, H1⟩
                · go_wp2_with fail
                  refine (copy_any w.heap.size g r1 v _ H1.out.1.1).mono ?_
                  rintro e w6 ⟨rfl, v6, hR6, hb6⟩
                  have HRo := Lib.hid (H1.out.1.1.below hb6)
                  have HDo := Lib.hid (H1.out.1.2.1.below hb6)
                  have HOo : Hid (Own43 w6 b S st m a2 true) := (hb6.block _ ((Array.getElem?_eq_some_iff.1 H1.out.2).1)).trans H1.out.2
                  have HBo := Lib.hid (H1.out.1.2.2.2.2.2.1.trans (hb6.mono H1.out.1.2.2.2.2.2.1.size))
                  have HRn := Lib.hid hR6
                  have hgl := H1.out.1.1.lt
                  have HRl := Lib.hid (fun k hk => (H1.out.1.1.2.2.lt k hk).2)
                  clear hR6 hb6
                  go_wp2_with fail
                  refine (push_q w.heap.size g r1 v ⟨#[115, 112, 111, 105, 108, 116, 126]⟩ _ HRo.out H1.out.1.2.2.1 (9000 * k) H1.out.1.2.2.2.1 (by show 9000 * k + 7 ≤ _; omega) (by decide)).mono ?_
                  rintro e w7 ⟨A7, c7, v7, rfl, _, _, hM7, _⟩
                  have HRn7 := Lib.hid (HRn.out.past HRo.out (by omega) (fun j hj h => by have h1 := (HRn.out.2.2.lt j hj).1; have h2 := HRl.out j h; omega) hM7)
                  have HDn7 : Hid (Doc w7 gd r1) := cells_past HDo.out (by decide) (by decide) HRo.out hM7
                  have HOn7 : Hid (Own43 w7 b S st m a2 true) := cells_past HOo.out (by decide) (by decide) HRo.out hM7
                  have HBn7 := Lib.hid (HBo.out.trans (hM7.below HBo.out.size fun k hk => (HRo.out.low k hk).1))
                  clear hM7
                  go_wp2_with fail
                  go_meet
                  exact ⟨_, v6, rfl, ⟨HRn7.out.lower H1.out.1.2.2.2.2.2.1.size, HDn7.out, H1.out.1.2.2.1, H1.out.1.2.2.2.1, H1.out.1.2.2.2.2.1, HBn7.out, H1.out.1.2.2.2.2.2.2⟩, HOn7.out⟩
              case rest =>
                obtain ⟨g1, v1, rfl, H2⟩ := hcut
                clear H1 p4
                have HR0 := Lib.hid H2.out.1.1
                have HD0 := Lib.hid H2.out.1.2.1
                have HO0 := Lib.hid H2.out.2
                have HI0 := Lib.hid H2.out.1.2.2.1
                have HN0 := Lib.hid H2.out.1.2.2.2.1
                have hpl := H2.out.1.2.2.2.2.1
                have HB0 := Lib.hid H2.out.1.2.2.2.2.2.1
                have hgd := H2.out.1.2.2.2.2.2.2
                have hst := size_toList S
                have HI6 := Lib.hid (feeds_inv HI0.out S.toList)
                have HN6 : Hid (Small (feeds r1 S.toList) (9000 * (k + 1))) := small_mono (feeds_small HN0.out S.toList) (by omega)
                have hpl6 := feeds_len r1 S.toList
                have hol := outs_le r1 S.toList
                have HSl := Lib.hid (outs_small HI0.out S.toList)
                have c0 : wc.cell? ⟨b, 0, none⟩ = some (.string S) := (cellR HO0.out 0).1
                rw [← hst] at hpl6 hol
                clear hst
                go_wp2_with fail
                generalize hr6 : feeds r1 S.toList = r6 at *
                generalize ho6 : outs r1 S.toList = o6 at *
                have Hr6 := Lib.hid hr6; clear hr6
                have Ho6 := Lib.hid ho6; clear ho6
                by_cases hpe : r6.piece = []
                · have HIn : Hid (inside r6 = false) := by show _ = _; unfold inside; rw [hpe]; rfl
                  have HPc : Hid ((.string (bOf r6.piece) : Value) = .string ⟨#[]⟩) := by show _ = _; rw [hpe]; rfl
                  clear hpe
                  cases hbg : r6.begun
                  · have HBg : Hid ((.bool r6.begun : Value) = .bool false) := by show _ = _; rw [hbg]
                    clear hbg
                    refine wp_region_held_drew (S := fun w' => w'.cell? ⟨b, 0, none⟩ = some (.string S)) (by kernel_rfl) c0 (fun hHeld => ?_)
                    refine wpAnyH_take (i := 0) (v := ?vv0_1) rfl (by kernel_rfl) (by kernel_rfl) (by kernel_rfl) (fun _ _ _ h => h) (Or.inl ⟨by rfl, ?yy0_1⟩) (by assumption) ?rr0_1
                    case yy0_1 => (intro w hSw; (try dsimp only at hSw); (try simp only [List.getElem_toArray, List.getElem_cons_succ, List.getElem_cons_zero, Act.put, List.setIfInBounds_toArray, List.set_cons_zero, List.set_cons_succ]); go_simp; (try (with_reducible rfl)))
                    try simp only [List.getElem_toArray, List.getElem_cons_succ, List.getElem_cons_zero, Act.put, List.setIfInBounds_toArray, List.set_cons_zero, List.set_cons_succ]
                    refine wpAnyH_take (i := 1) (v := ?vv1_2) rfl (by kernel_rfl) (by kernel_rfl) (by kernel_rfl) (fun _ _ _ h => h) (Or.inl ⟨by rfl, ?yy1_2⟩) (by assumption) ?rr1_2
                    case yy1_2 => (intro w hSw; (try dsimp only at hSw); (try simp only [List.getElem_toArray, List.getElem_cons_succ, List.getElem_cons_zero, Act.put, List.setIfInBounds_toArray, List.set_cons_zero, List.set_cons_succ]); go_simp; (try (with_reducible rfl)))
                    try simp only [List.getElem_toArray, List.getElem_cons_succ, List.getElem_cons_zero, Act.put, List.setIfInBounds_toArray, List.set_cons_zero, List.set_cons_succ]
                    refine wpAnyH_take (i := 2) (v := ?vv2_3) rfl (by kernel_rfl) (by kernel_rfl) (by kernel_rfl) (fun _ _ _ h => h) (Or.inl ⟨by rfl, ?yy2_3⟩) (by assumption) ?rr2_3
                    case yy2_3 => (intro w hSw; (try dsimp only at hSw); (try simp only [List.getElem_toArray, List.getElem_cons_succ, List.getElem_cons_zero, Act.put, List.setIfInBounds_toArray, List.set_cons_zero, List.set_cons_succ]); go_simp; (try (with_reducible rfl)))
                    try simp only [List.getElem_toArray, List.getElem_cons_succ, List.getElem_cons_zero, Act.put, List.setIfInBounds_toArray, List.set_cons_zero, List.set_cons_succ]
                    refine wpAnyH_take (i := 4) (v := ?vv4_4) rfl (by kernel_rfl) (by kernel_rfl) (by kernel_rfl) (fun _ _ _ h => h) (Or.inl ⟨by rfl, ?yy4_4⟩) (by assumption) ?rr4_4
                    case yy4_4 => (intro w hSw; (try dsimp only at hSw); (try simp only [List.getElem_toArray, List.getElem_cons_succ, List.getElem_cons_zero, Act.put, List.setIfInBounds_toArray, List.set_cons_zero, List.set_cons_succ]); go_simp; (try (with_reducible rfl)))
                    try simp only [List.getElem_toArray, List.getElem_cons_succ, List.getElem_cons_zero, Act.put, List.setIfInBounds_toArray, List.set_cons_zero, List.set_cons_succ]
                    refine wpAnyH_take (i := 5) (v := ?vv5_5) rfl (by kernel_rfl) (by kernel_rfl) (by kernel_rfl) (fun _ _ _ h => h) (Or.inl ⟨by rfl, ?yy5_5⟩) (by assumption) ?rr5_5
                    case yy5_5 => (intro w hSw; (try dsimp only at hSw); (try simp only [List.getElem_toArray, List.getElem_cons_succ, List.getElem_cons_zero, Act.put, List.setIfInBounds_toArray, List.set_cons_zero, List.set_cons_succ]); go_simp; (try (with_reducible rfl)))
                    try simp only [List.getElem_toArray, List.getElem_cons_succ, List.getElem_cons_zero, Act.put, List.setIfInBounds_toArray, List.set_cons_zero, List.set_cons_succ]
                    refine wpAnyH_take (i := 6) (v := ?vv6_6) rfl (by kernel_rfl) (by kernel_rfl) (by kernel_rfl) (fun _ _ _ h => h) (Or.inl ⟨by rfl, ?yy6_6⟩) (by assumption) ?rr6_6
                    case yy6_6 => (intro w hSw; (try dsimp only at hSw); (try simp only [List.getElem_toArray, List.getElem_cons_succ, List.getElem_cons_zero, Act.put, List.setIfInBounds_toArray, List.set_cons_zero, List.set_cons_succ]); go_simp; (try (with_reducible rfl)))
                    try simp only [List.getElem_toArray, List.getElem_cons_succ, List.getElem_cons_zero, Act.put, List.setIfInBounds_toArray, List.set_cons_zero, List.set_cons_succ]
                    refine wpAnyH_ready (rs := [3]) (by kernel_rfl) (by simp) ?_
                    refine AllReadyH.cons (o := _) rfl (fun K hK => ?_) AllReadyH.nil
                    try simp only [List.getElem_toArray, List.getElem_cons_succ, List.getElem_cons_zero, Act.put, List.setIfInBounds_toArray, List.set_cons_zero, List.set_cons_succ]
                    go_simp
                    refine (push_q w.heap.size g1 r1 v1 S _ (by exact HR0.out) HI0.out (9000 * k) HN0.out (by omega) (by omega)).mono ?_
                    rintro e w6 ⟨A6, q6, v6, rfl, hT6, hR6, hM6', _⟩
                    rw [Ho6.out] at hT6 ⊢
                    rw [Hr6.out] at hR6
                    have hM6 : Moves (Foot g1 v1) wc w6 := ⟨hM6'.os, hM6'.tape, hM6'.output, hM6'.size, hM6'.block⟩
                    have HR6 := Lib.hid hR6
                    have HT6 : Hid (Texts w6 w.heap.size (.slice A6 o6.length q6) o6) := Texts.lower hT6 HB0.out.size
                    have HD6 : Hid (Doc w6 gd r1) := cells_past HD0.out (by decide) (by decide) HR0.out hM6
                    have HO6 : Hid (Own43 w6 b S st m a2 cp) := cells_past HO0.out (by decide) (by decide) HR0.out hM6
                    have HB6 := Lib.hid (HB0.out.trans (hM6.below HB0.out.size fun k hk => (HR0.out.low k hk).1))
                    clear hT6 hR6 hM6 hM6'
                    have c6 : w6.cell? ⟨b, 0, none⟩ = some (.string S) := (cellR HO6.out 0).1
                    refine hK.out _ _ c6 (fun hHeld => ?_)
                    clear hK K
                    try simp only [List.getElem_toArray, List.getElem_cons_succ, List.getElem_cons_zero, Act.put, List.setIfInBounds_toArray, List.set_cons_zero, List.set_cons_succ]
                    refine wpAnyH_ready (rs := [7]) (by kernel_rfl) (by simp) ?_
                    refine AllReadyH.cons (o := _) rfl (fun K hK => ?_) AllReadyH.nil
                    try simp only [List.getElem_toArray, List.getElem_cons_succ, List.getElem_cons_zero, Act.put, List.setIfInBounds_toArray, List.set_cons_zero, List.set_cons_succ]
                    go_simp
                    refine (rpush_q gd r1 S _ (by exact HD6.out) HI0.out (9000 * k) HN0.out (by omega) (by omega)).mono ?_
                    rintro e w7 ⟨A7, q7, rfl, hT7, hD7, hM7'⟩
                    rw [Ho6.out] at hT7 ⊢
                    rw [Hr6.out] at hD7
                    have hM7 : Moves (fun k => k = gd) w6 w7 := ⟨hM7'.os, hM7'.tape, hM7'.output, hM7'.size, hM7'.block⟩
                    have HD7 := Lib.hid hD7
                    have HT7 := Lib.hid hT7
                    have HR7 := Lib.hid (recv_pastd HR6.out HD6.out hM7)
                    have HT67 := Lib.hid (texts_pastd HT6.out HD6.out hM7)
                    have HO7 : Hid (Own43 w7 b S st m a2 cp) := cells_pastd HO6.out (by decide) HD6.out hM7
                    have HB7 := Lib.hid (HB6.out.trans (hM7.below HB6.out.size fun k hk => by omega))
                    clear hT7 hD7 hM7 hM7'
                    have c7 : w7.cell? ⟨b, 0, none⟩ = some (.string S) := (cellR HO7.out 0).1
                    refine hK.out _ _ c7 (fun hHeld => ?_)
                    clear hK K
                    try simp only [List.getElem_toArray, List.getElem_cons_succ, List.getElem_cons_zero, Act.put, List.setIfInBounds_toArray, List.set_cons_zero, List.set_cons_succ]
                    refine wpAnyH_ready (rs := [8]) (by kernel_rfl) (by simp) ?_
                    refine AllReadyH.cons (o := _) rfl (fun K hK => ?_) AllReadyH.nil
                    try simp only [List.getElem_toArray, List.getElem_cons_succ, List.getElem_cons_zero, Act.put, List.setIfInBounds_toArray, List.set_cons_zero, List.set_cons_succ]
                    go_simp
                    refine (same_q A6 A7 o6.length o6.length q6 q7 o6 o6 _ true (by unfold maxLen; omega) (by exact HT67.out.strs HSl.out) (by exact HT7.out.strs HSl.out) (decide_eq_true rfl)).mono ?_
                    rintro e w8 ⟨rfl, hb8'⟩
                    have hb8 : Below w7.heap.size w7 w8 := ⟨hb8'.os, hb8'.tape, hb8'.output, hb8'.size, hb8'.block⟩
                    have HR8 := Lib.hid (HR7.out.below hb8)
                    have HD8 := Lib.hid (HD7.out.below hb8)
                    have HO8 : Hid (Own43 w8 b S st m a2 cp) := (hb8.block _ ((Array.getElem?_eq_some_iff.1 HO7.out).1)).trans HO7.out
                    have HB8 := Lib.hid (HB7.out.trans (hb8.mono HB7.out.size))
                    clear hb8 hb8'
                    have c8 : w8.cell? ⟨b, 0, none⟩ = some (.string S) := (cellR HO8.out 0).1
                    have m2 : w8.cell? ⟨gd, 2, none⟩ = some (.bool false) := (cellR HD8.out 2).1.trans (congrArg some HBg.out)
                    have m3 : w8.cell? ⟨gd, 3, none⟩ = some (.string ⟨#[]⟩) := (cellR HD8.out 3).1.trans (congrArg some HPc.out)
                    have m4 : w8.cell? ⟨gd, 4, none⟩ = some (.int .i64 r6.c0) := (cellR HD8.out 4).1
                    have m5 : w8.cell? ⟨gd, 5, none⟩ = some (.int .i64 r6.c1) := (cellR HD8.out 5).1
                    have m6 : w8.cell? ⟨gd, 6, none⟩ = some (.int .i64 r6.c2) := (cellR HD8.out 6).1
                    have m7 : w8.cell? ⟨gd, 7, none⟩ = some (.int .i64 r6.c3) := (cellR HD8.out 7).1
                    have m8 : w8.cell? ⟨gd, 8, none⟩ = some (.int .i64 r6.c4) := (cellR HD8.out 8).1
                    refine hK.out _ _ c8 (fun hHeld => ?_)
                    clear hK K
                    try simp only [List.getElem_toArray, List.getElem_cons_succ, List.getElem_cons_zero, Act.put, List.setIfInBounds_toArray, List.set_cons_zero, List.set_cons_succ]
                    refine wpAnyH_take (i := 9) (v := ?vv9_7) rfl (by kernel_rfl) (by kernel_rfl) (by kernel_rfl) (fun _ _ _ h => h) (Or.inl ⟨by rfl, ?yy9_7⟩) (by assumption) ?rr9_7
                    case yy9_7 => (intro w hSw; (try dsimp only at hSw); (try simp only [List.getElem_toArray, List.getElem_cons_succ, List.getElem_cons_zero, Act.put, List.setIfInBounds_toArray, List.set_cons_zero, List.set_cons_succ]); go_simp; (try (with_reducible rfl)))
                    try simp only [List.getElem_toArray, List.getElem_cons_succ, List.getElem_cons_zero, Act.put, List.setIfInBounds_toArray, List.set_cons_zero, List.set_cons_succ]
                    refine wpAnyH_take (i := 10) (v := ?vv10_8) rfl (by kernel_rfl) (by kernel_rfl) (by kernel_rfl) (fun _ _ _ h => h) (Or.inl ⟨by rfl, ?yy10_8⟩) (by assumption) ?rr10_8
                    case yy10_8 => (intro w hSw; (try dsimp only at hSw); (try simp only [List.getElem_toArray, List.getElem_cons_succ, List.getElem_cons_zero, Act.put, List.setIfInBounds_toArray, List.set_cons_zero, List.set_cons_succ]); go_simp; (try (with_reducible rfl)))
                    try simp only [List.getElem_toArray, List.getElem_cons_succ, List.getElem_cons_zero, Act.put, List.setIfInBounds_toArray, List.set_cons_zero, List.set_cons_succ]
                    refine wpAnyH_mono (S2 := (fun w' => w'.cell? ⟨b, 0, none⟩ = some (.string S) ∧ w'.cell? ⟨gd, 2, none⟩ = some (.bool false) ∧ w'.cell? ⟨gd, 3, none⟩ = some (.string ⟨#[]⟩) ∧ w'.cell? ⟨gd, 4, none⟩ = some (.int .i64 r6.c0) ∧ w'.cell? ⟨gd, 5, none⟩ = some (.int .i64 r6.c1) ∧ w'.cell? ⟨gd, 6, none⟩ = some (.int .i64 r6.c2) ∧ w'.cell? ⟨gd, 7, none⟩ = some (.int .i64 r6.c3) ∧ w'.cell? ⟨gd, 8, none⟩ = some (.int .i64 r6.c4))) (fun w h => h.1) _ _ _ _ ?_
                    have hHeld2 : (fun w' => w'.cell? ⟨b, 0, none⟩ = some (.string S) ∧ w'.cell? ⟨gd, 2, none⟩ = some (.bool false) ∧ w'.cell? ⟨gd, 3, none⟩ = some (.string ⟨#[]⟩) ∧ w'.cell? ⟨gd, 4, none⟩ = some (.int .i64 r6.c0) ∧ w'.cell? ⟨gd, 5, none⟩ = some (.int .i64 r6.c1) ∧ w'.cell? ⟨gd, 6, none⟩ = some (.int .i64 r6.c2) ∧ w'.cell? ⟨gd, 7, none⟩ = some (.int .i64 r6.c3) ∧ w'.cell? ⟨gd, 8, none⟩ = some (.int .i64 r6.c4)) w8 := ⟨c8, m2, m3, m4, m5, m6, m7, m8⟩
                    clear hHeld
                    refine wpAnyH_take (i := 11) (v := ?vv11_9) rfl (by kernel_rfl) (by kernel_rfl) (by kernel_rfl) (fun _ _ _ h => h) (Or.inl ⟨by rfl, ?yy11_9⟩) (by assumption) ?rr11_9
                    case yy11_9 => (intro w hSw; (try dsimp only at hSw); (try simp only [List.getElem_toArray, List.getElem_cons_succ, List.getElem_cons_zero, Act.put, List.setIfInBounds_toArray, List.set_cons_zero, List.set_cons_succ]); go_simp; (try (with_reducible rfl)))
                    try simp only [List.getElem_toArray, List.getElem_cons_succ, List.getElem_cons_zero, Act.put, List.setIfInBounds_toArray, List.set_cons_zero, List.set_cons_succ]
                    refine wpAnyH_take (i := 13) (v := ?vv13_10) rfl (by kernel_rfl) (by kernel_rfl) (by kernel_rfl) (fun _ _ _ h => h) (Or.inl ⟨by rfl, ?yy13_10⟩) (by assumption) ?rr13_10
                    case yy13_10 => (intro w hSw; (try dsimp only at hSw); (try simp only [List.getElem_toArray, List.getElem_cons_succ, List.getElem_cons_zero, Act.put, List.setIfInBounds_toArray, List.set_cons_zero, List.set_cons_succ]); go_simp; (try (with_reducible rfl)))
                    try simp only [List.getElem_toArray, List.getElem_cons_succ, List.getElem_cons_zero, Act.put, List.setIfInBounds_toArray, List.set_cons_zero, List.set_cons_succ]
                    refine wpAnyH_take (i := 14) (v := ?vv14_11) rfl (by kernel_rfl) (by kernel_rfl) (by kernel_rfl) (fun _ _ _ h => h) (Or.inl ⟨by rfl, ?yy14_11⟩) (by assumption) ?rr14_11
                    case yy14_11 => (intro w hSw; (try dsimp only at hSw); (try simp only [List.getElem_toArray, List.getElem_cons_succ, List.getElem_cons_zero, Act.put, List.setIfInBounds_toArray, List.set_cons_zero, List.set_cons_succ]); go_simp; (try (with_reducible rfl)))
                    try simp only [List.getElem_toArray, List.getElem_cons_succ, List.getElem_cons_zero, Act.put, List.setIfInBounds_toArray, List.set_cons_zero, List.set_cons_succ]
                    refine wpAnyH_take (i := 15) (v := ?vv15_12) rfl (by kernel_rfl) (by kernel_rfl) (by kernel_rfl) (fun _ _ _ h => h) (Or.inl ⟨by rfl, ?yy15_12⟩) (by assumption) ?rr15_12
                    case yy15_12 => (intro w hSw; (try dsimp only at hSw); (try simp only [List.getElem_toArray, List.getElem_cons_succ, List.getElem_cons_zero, Act.put, List.setIfInBounds_toArray, List.set_cons_zero, List.set_cons_succ]); go_simp; (try (with_reducible rfl)))
                    try simp only [List.getElem_toArray, List.getElem_cons_succ, List.getElem_cons_zero, Act.put, List.setIfInBounds_toArray, List.set_cons_zero, List.set_cons_succ]
                    refine wpAnyH_take (i := 16) (v := ?vv16_13) rfl (by kernel_rfl) (by kernel_rfl) (by kernel_rfl) (fun _ _ _ h => h) (Or.inl ⟨by rfl, ?yy16_13⟩) (by assumption) ?rr16_13
                    case yy16_13 => (intro w hSw; (try dsimp only at hSw); (try simp only [List.getElem_toArray, List.getElem_cons_succ, List.getElem_cons_zero, Act.put, List.setIfInBounds_toArray, List.set_cons_zero, List.set_cons_succ]); go_simp; (try (with_reducible rfl)))
                    try simp only [List.getElem_toArray, List.getElem_cons_succ, List.getElem_cons_zero, Act.put, List.setIfInBounds_toArray, List.set_cons_zero, List.set_cons_succ]
                    refine wpAnyH_ready (rs := [12]) (by kernel_rfl) (by simp) ?_
                    refine AllReadyH.cons (o := _) rfl (fun K hK => ?_) AllReadyH.nil
                    try simp only [List.getElem_toArray, List.getElem_cons_succ, List.getElem_cons_zero, Act.put, List.setIfInBounds_toArray, List.set_cons_zero, List.set_cons_succ]
                    go_simp
                    refine (heard_any w.heap.size g1 r6 v6 _ (by exact HR8.out)).mono ?_
                    unfold heardV
                    rintro e w9 ⟨rfl, hb9'⟩
                    have hb9 : Below w8.heap.size w8 w9 := ⟨hb9'.os, hb9'.tape, hb9'.output, hb9'.size, hb9'.block⟩
                    have HR9 := Lib.hid (HR8.out.below hb9)
                    have HD9 := Lib.hid (HD8.out.below hb9)
                    have HO9 : Hid (Own43 w9 b S st m a2 cp) := (hb9.block _ ((Array.getElem?_eq_some_iff.1 HO8.out).1)).trans HO8.out
                    have HB9 := Lib.hid (HB8.out.trans (hb9.mono HB8.out.size))
                    clear hb9 hb9'
                    have c9 : w9.cell? ⟨b, 0, none⟩ = some (.string S) := (cellR HO9.out 0).1
                    have l2 : w9.cell? ⟨gd, 2, none⟩ = some (.bool false) := (cellR HD9.out 2).1.trans (congrArg some HBg.out)
                    have l3 : w9.cell? ⟨gd, 3, none⟩ = some (.string ⟨#[]⟩) := (cellR HD9.out 3).1.trans (congrArg some HPc.out)
                    have l4 : w9.cell? ⟨gd, 4, none⟩ = some (.int .i64 r6.c0) := (cellR HD9.out 4).1
                    have l5 : w9.cell? ⟨gd, 5, none⟩ = some (.int .i64 r6.c1) := (cellR HD9.out 5).1
                    have l6 : w9.cell? ⟨gd, 6, none⟩ = some (.int .i64 r6.c2) := (cellR HD9.out 6).1
                    have l7 : w9.cell? ⟨gd, 7, none⟩ = some (.int .i64 r6.c3) := (cellR HD9.out 7).1
                    have l8 : w9.cell? ⟨gd, 8, none⟩ = some (.int .i64 r6.c4) := (cellR HD9.out 8).1
                    refine hK.out _ _ ⟨c9, l2, l3, l4, l5, l6, l7, l8⟩ (fun hHeld => ?_)
                    clear hK K
                    try simp only [List.getElem_toArray, List.getElem_cons_succ, List.getElem_cons_zero, Act.put, List.setIfInBounds_toArray, List.set_cons_zero, List.set_cons_succ]
                    refine wpAnyH_take (i := 17) (v := ?vv17_14) rfl (by kernel_rfl) (by kernel_rfl) (by kernel_rfl) (fun _ _ _ h => h) (Or.inl ⟨by rfl, ?yy17_14⟩) (by assumption) ?rr17_14
                    case yy17_14 => (intro w hSw; (try dsimp only at hSw); (try simp only [List.getElem_toArray, List.getElem_cons_succ, List.getElem_cons_zero, Act.put, List.setIfInBounds_toArray, List.set_cons_zero, List.set_cons_succ]); go_simp; (try (with_reducible rfl)))
                    try simp only [List.getElem_toArray, List.getElem_cons_succ, List.getElem_cons_zero, Act.put, List.setIfInBounds_toArray, List.set_cons_zero, List.set_cons_succ]
                    refine wpAnyH_take (i := 18) (v := ?vv18_15) rfl (by kernel_rfl) (by kernel_rfl) (by kernel_rfl) (fun _ _ _ h => h) (Or.inl ⟨by rfl, ?yy18_15⟩) (by assumption) ?rr18_15
                    case yy18_15 => (intro w hSw; (try dsimp only at hSw); (try simp only [List.getElem_toArray, List.getElem_cons_succ, List.getElem_cons_zero, Act.put, List.setIfInBounds_toArray, List.set_cons_zero, List.set_cons_succ]); go_simp; (try (with_reducible rfl)))
                    try simp only [List.getElem_toArray, List.getElem_cons_succ, List.getElem_cons_zero, Act.put, List.setIfInBounds_toArray, List.set_cons_zero, List.set_cons_succ]
                    refine wpAnyH_take (i := 19) (v := ?vv19_16) rfl (by kernel_rfl) (by kernel_rfl) (by kernel_rfl) (fun _ _ _ h => h) (Or.inl ⟨by rfl, ?yy19_16⟩) (by assumption) ?rr19_16
                    case yy19_16 => (intro w hSw; (try dsimp only at hSw); (try simp only [List.getElem_toArray, List.getElem_cons_succ, List.getElem_cons_zero, Act.put, List.setIfInBounds_toArray, List.set_cons_zero, List.set_cons_succ]); go_simp; (try (with_reducible rfl)))
                    try simp only [List.getElem_toArray, List.getElem_cons_succ, List.getElem_cons_zero, Act.put, List.setIfInBounds_toArray, List.set_cons_zero, List.set_cons_succ]
                    refine wpAnyH_take (i := 20) (v := ?vv20_17) rfl (by kernel_rfl) (by kernel_rfl) (by kernel_rfl) (fun _ _ _ h => h) (Or.inl ⟨by rfl, ?yy20_17⟩) (by assumption) ?rr20_17
                    case yy20_17 => (intro w hSw; (try dsimp only at hSw); (try simp only [List.getElem_toArray, List.getElem_cons_succ, List.getElem_cons_zero, Act.put, List.setIfInBounds_toArray, List.set_cons_zero, List.set_cons_succ]); go_simp; (try (with_reducible rfl)))
                    try simp only [List.getElem_toArray, List.getElem_cons_succ, List.getElem_cons_zero, Act.put, List.setIfInBounds_toArray, List.set_cons_zero, List.set_cons_succ]
                    refine wpAnyH_take (i := 22) (v := ?vv22_18) rfl (by kernel_rfl) (by kernel_rfl) (by kernel_rfl) (fun _ _ _ h => h) (Or.inl ⟨by rfl, ?yy22_18⟩) (by assumption) ?rr22_18
                    case yy22_18 => (intro w hSw; (try dsimp only at hSw); (try simp only [List.getElem_toArray, List.getElem_cons_succ, List.getElem_cons_zero, Act.put, List.setIfInBounds_toArray, List.set_cons_zero, List.set_cons_succ]); go_simp; (try (with_reducible rfl)))
                    try simp only [List.getElem_toArray, List.getElem_cons_succ, List.getElem_cons_zero, Act.put, List.setIfInBounds_toArray, List.set_cons_zero, List.set_cons_succ]
                    refine wpAnyH_take (i := 23) (v := ?vv23_19) rfl (by kernel_rfl) (by kernel_rfl) (by kernel_rfl) (fun _ _ _ h => h) (Or.inl ⟨by rfl, ?yy23_19⟩) (by assumption) ?rr23_19
                    case yy23_19 => (intro w hSw; (try dsimp only at hSw); (try simp only [List.getElem_toArray, List.getElem_cons_succ, List.getElem_cons_zero, Act.put, List.setIfInBounds_toArray, List.set_cons_zero, List.set_cons_succ]); go_simp; (try (with_reducible rfl)))
                    try simp only [List.getElem_toArray, List.getElem_cons_succ, List.getElem_cons_zero, Act.put, List.setIfInBounds_toArray, List.set_cons_zero, List.set_cons_succ]
                    refine wpAnyH_take (i := 24) (v := ?vv24_20) rfl (by kernel_rfl) (by kernel_rfl) (by kernel_rfl) (fun _ _ _ h => h) (Or.inl ⟨by rfl, ?yy24_20⟩) (by assumption) ?rr24_20
                    case yy24_20 => (intro w hSw; (try dsimp only at hSw); (try simp only [List.getElem_toArray, List.getElem_cons_succ, List.getElem_cons_zero, Act.put, List.setIfInBounds_toArray, List.set_cons_zero, List.set_cons_succ]); go_simp; (try (with_reducible rfl)))
                    try simp only [List.getElem_toArray, List.getElem_cons_succ, List.getElem_cons_zero, Act.put, List.setIfInBounds_toArray, List.set_cons_zero, List.set_cons_succ]
                    refine wpAnyH_take (i := 25) (v := ?vv25_21) rfl (by kernel_rfl) (by kernel_rfl) (by kernel_rfl) (fun _ _ _ h => h) (Or.inl ⟨by rfl, ?yy25_21⟩) (by assumption) ?rr25_21
                    case yy25_21 => (intro w hSw; (try dsimp only at hSw); (try simp only [List.getElem_toArray, List.getElem_cons_succ, List.getElem_cons_zero, Act.put, List.setIfInBounds_toArray, List.set_cons_zero, List.set_cons_succ]); go_simp; (try (with_reducible rfl)))
                    try simp only [List.getElem_toArray, List.getElem_cons_succ, List.getElem_cons_zero, Act.put, List.setIfInBounds_toArray, List.set_cons_zero, List.set_cons_succ]
                    refine wpAnyH_ready (rs := [21]) (by kernel_rfl) (by simp) ?_
                    refine AllReadyH.cons (o := _) rfl (fun K hK => ?_) AllReadyH.nil
                    try simp only [List.getElem_toArray, List.getElem_cons_succ, List.getElem_cons_zero, Act.put, List.setIfInBounds_toArray, List.set_cons_zero, List.set_cons_succ]
                    go_simp
                    refine (inside_any w.heap.size g1 r6 v6 _ (by exact HR9.out)).mono ?_
                    rw [HIn.out]
                    rintro e w10 ⟨rfl, rfl⟩
                    refine hK.out _ _ ⟨c9, l2, l3, l4, l5, l6, l7, l8⟩ (fun hHeld => ?_)
                    clear hK K
                    try simp only [List.getElem_toArray, List.getElem_cons_succ, List.getElem_cons_zero, Act.put, List.setIfInBounds_toArray, List.set_cons_zero, List.set_cons_succ]
                    refine wpAnyH_take (i := 26) (v := ?vv26_22) rfl (by kernel_rfl) (by kernel_rfl) (by kernel_rfl) (fun _ _ _ h => h) (Or.inl ⟨by rfl, ?yy26_22⟩) (by assumption) ?rr26_22
                    case yy26_22 => (intro w hSw; (try dsimp only at hSw); (try simp only [List.getElem_toArray, List.getElem_cons_succ, List.getElem_cons_zero, Act.put, List.setIfInBounds_toArray, List.set_cons_zero, List.set_cons_succ]); go_simp; (try (with_reducible rfl)))
                    try simp only [List.getElem_toArray, List.getElem_cons_succ, List.getElem_cons_zero, Act.put, List.setIfInBounds_toArray, List.set_cons_zero, List.set_cons_succ]
                    refine wpAnyH_take (i := 27) (v := undef) rfl (by kernel_rfl) (by kernel_rfl) (by kernel_rfl) (fun _ _ _ h => h) (Or.inr ⟨by rfl, rfl⟩) (by assumption) ?_
                    try simp only [List.getElem_toArray, List.getElem_cons_succ, List.getElem_cons_zero, Act.put, List.setIfInBounds_toArray, List.set_cons_zero, List.set_cons_succ]
                    refine wpAnyH_take (i := 28) (v := undef) rfl (by kernel_rfl) (by kernel_rfl) (by kernel_rfl) (fun _ _ _ h => h) (Or.inr ⟨by rfl, rfl⟩) (by assumption) ?_
                    try simp only [List.getElem_toArray, List.getElem_cons_succ, List.getElem_cons_zero, Act.put, List.setIfInBounds_toArray, List.set_cons_zero, List.set_cons_succ]
                    refine wpAnyH_take (i := 29) (v := undef) rfl (by kernel_rfl) (by kernel_rfl) (by kernel_rfl) (fun _ _ _ h => h) (Or.inr ⟨by rfl, rfl⟩) (by assumption) ?_
                    try simp only [List.getElem_toArray, List.getElem_cons_succ, List.getElem_cons_zero, Act.put, List.setIfInBounds_toArray, List.set_cons_zero, List.set_cons_succ]
                    refine wpAnyH_take (i := 30) (v := undef) rfl (by kernel_rfl) (by kernel_rfl) (by kernel_rfl) (fun _ _ _ h => h) (Or.inr ⟨by rfl, rfl⟩) (by assumption) ?_
                    try simp only [List.getElem_toArray, List.getElem_cons_succ, List.getElem_cons_zero, Act.put, List.setIfInBounds_toArray, List.set_cons_zero, List.set_cons_succ]
                    refine wpAnyH_take (i := 31) (v := undef) rfl (by kernel_rfl) (by kernel_rfl) (by kernel_rfl) (fun _ _ _ h => h) (Or.inr ⟨by rfl, rfl⟩) (by assumption) ?_
                    try simp only [List.getElem_toArray, List.getElem_cons_succ, List.getElem_cons_zero, Act.put, List.setIfInBounds_toArray, List.set_cons_zero, List.set_cons_succ]
                    refine wpAnyH_take (i := 32) (v := ?vv32_28) rfl (by kernel_rfl) (by kernel_rfl) (by kernel_rfl) (fun _ _ _ h => h) (Or.inl ⟨by rfl, ?yy32_28⟩) (by assumption) ?rr32_28
                    case yy32_28 => (intro w hSw; (try dsimp only at hSw); (try simp only [List.getElem_toArray, List.getElem_cons_succ, List.getElem_cons_zero, Act.put, List.setIfInBounds_toArray, List.set_cons_zero, List.set_cons_succ]); go_simp; (try (with_reducible rfl)))
                    try simp only [List.getElem_toArray, List.getElem_cons_succ, List.getElem_cons_zero, Act.put, List.setIfInBounds_toArray, List.set_cons_zero, List.set_cons_succ]
                    refine wpAnyH_take (i := 33) (v := ?vv33_29) rfl (by kernel_rfl) (by kernel_rfl) (by kernel_rfl) (fun _ _ _ h => h) (Or.inl ⟨by rfl, ?yy33_29⟩) (by assumption) ?rr33_29
                    case yy33_29 => (intro w hSw; (try dsimp only at hSw); (try simp only [List.getElem_toArray, List.getElem_cons_succ, List.getElem_cons_zero, Act.put, List.setIfInBounds_toArray, List.set_cons_zero, List.set_cons_succ]); go_simp; (try (with_reducible rfl)))
                    try simp only [List.getElem_toArray, List.getElem_cons_succ, List.getElem_cons_zero, Act.put, List.setIfInBounds_toArray, List.set_cons_zero, List.set_cons_succ]
                    refine wpAnyH_take (i := 34) (v := ?vv34_30) rfl (by kernel_rfl) (by kernel_rfl) (by kernel_rfl) (fun _ _ _ h => h) (Or.inl ⟨by rfl, ?yy34_30⟩) (by assumption) ?rr34_30
                    case yy34_30 => (intro w hSw; (try dsimp only at hSw); (try simp only [List.getElem_toArray, List.getElem_cons_succ, List.getElem_cons_zero, Act.put, List.setIfInBounds_toArray, List.set_cons_zero, List.set_cons_succ]); go_simp; (try (with_reducible rfl)))
                    try simp only [List.getElem_toArray, List.getElem_cons_succ, List.getElem_cons_zero, Act.put, List.setIfInBounds_toArray, List.set_cons_zero, List.set_cons_succ]
                    refine wpAnyH_done (by kernel_rfl) ?_ _
                    go_wp2_with fail
                    go_roundg (n - (k + 1))
                    case measure => rw [Hgk.out]; omega
                    case rel => exact ⟨k + 1, g1, r6, v6, by omega, rfl, by go_num, rfl, HR9.out, HD9.out, HI6.out, HN6.out, by omega, HB9.out, hgd⟩
                  · have HBg : Hid ((.bool r6.begun : Value) = .bool true) := by show _ = _; rw [hbg]
                    clear hbg
                    refine wp_region_held_drew (S := fun w' => w'.cell? ⟨b, 0, none⟩ = some (.string S)) (by kernel_rfl) c0 (fun hHeld => ?_)
                    refine wpAnyH_take (i := 0) (v := ?vv0_31) rfl (by kernel_rfl) (by kernel_rfl) (by kernel_rfl) (fun _ _ _ h => h) (Or.inl ⟨by rfl, ?yy0_31⟩) (by assumption) ?rr0_31
                    case yy0_31 => (intro w hSw; (try dsimp only at hSw); (try simp only [List.getElem_toArray, List.getElem_cons_succ, List.getElem_cons_zero, Act.put, List.setIfInBounds_toArray, List.set_cons_zero, List.set_cons_succ]); go_simp; (try (with_reducible rfl)))
                    try simp only [List.getElem_toArray, List.getElem_cons_succ, List.getElem_cons_zero, Act.put, List.setIfInBounds_toArray, List.set_cons_zero, List.set_cons_succ]
                    refine wpAnyH_take (i := 1) (v := ?vv1_32) rfl (by kernel_rfl) (by kernel_rfl) (by kernel_rfl) (fun _ _ _ h => h) (Or.inl ⟨by rfl, ?yy1_32⟩) (by assumption) ?rr1_32
                    case yy1_32 => (intro w hSw; (try dsimp only at hSw); (try simp only [List.getElem_toArray, List.getElem_cons_succ, List.getElem_cons_zero, Act.put, List.setIfInBounds_toArray, List.set_cons_zero, List.set_cons_succ]); go_simp; (try (with_reducible rfl)))
                    try simp only [List.getElem_toArray, List.getElem_cons_succ, List.getElem_cons_zero, Act.put, List.setIfInBounds_toArray, List.set_cons_zero, List.set_cons_succ]
                    refine wpAnyH_take (i := 2) (v := ?vv2_33) rfl (by kernel_rfl) (by kernel_rfl) (by kernel_rfl) (fun _ _ _ h => h) (Or.inl ⟨by rfl, ?yy2_33⟩) (by assumption) ?rr2_33
                    case yy2_33 => (intro w hSw; (try dsimp only at hSw); (try simp only [List.getElem_toArray, List.getElem_cons_succ, List.getElem_cons_zero, Act.put, List.setIfInBounds_toArray, List.set_cons_zero, List.set_cons_succ]); go_simp; (try (with_reducible rfl)))
                    try simp only [List.getElem_toArray, List.getElem_cons_succ, List.getElem_cons_zero, Act.put, List.setIfInBounds_toArray, List.set_cons_zero, List.set_cons_succ]
                    refine wpAnyH_take (i := 4) (v := ?vv4_34) rfl (by kernel_rfl) (by kernel_rfl) (by kernel_rfl) (fun _ _ _ h => h) (Or.inl ⟨by rfl, ?yy4_34⟩) (by assumption) ?rr4_34
                    case yy4_34 => (intro w hSw; (try dsimp only at hSw); (try simp only [List.getElem_toArray, List.getElem_cons_succ, List.getElem_cons_zero, Act.put, List.setIfInBounds_toArray, List.set_cons_zero, List.set_cons_succ]); go_simp; (try (with_reducible rfl)))
                    try simp only [List.getElem_toArray, List.getElem_cons_succ, List.getElem_cons_zero, Act.put, List.setIfInBounds_toArray, List.set_cons_zero, List.set_cons_succ]
                    refine wpAnyH_take (i := 5) (v := ?vv5_35) rfl (by kernel_rfl) (by kernel_rfl) (by kernel_rfl) (fun _ _ _ h => h) (Or.inl ⟨by rfl, ?yy5_35⟩) (by assumption) ?rr5_35
                    case yy5_35 => (intro w hSw; (try dsimp only at hSw); (try simp only [List.getElem_toArray, List.getElem_cons_succ, List.getElem_cons_zero, Act.put, List.setIfInBounds_toArray, List.set_cons_zero, List.set_cons_succ]); go_simp; (try (with_reducible rfl)))
                    try simp only [List.getElem_toArray, List.getElem_cons_succ, List.getElem_cons_zero, Act.put, List.setIfInBounds_toArray, List.set_cons_zero, List.set_cons_succ]
                    refine wpAnyH_take (i := 6) (v := ?vv6_36) rfl (by kernel_rfl) (by kernel_rfl) (by kernel_rfl) (fun _ _ _ h => h) (Or.inl ⟨by rfl, ?yy6_36⟩) (by assumption) ?rr6_36
                    case yy6_36 => (intro w hSw; (try dsimp only at hSw); (try simp only [List.getElem_toArray, List.getElem_cons_succ, List.getElem_cons_zero, Act.put, List.setIfInBounds_toArray, List.set_cons_zero, List.set_cons_succ]); go_simp; (try (with_reducible rfl)))
                    try simp only [List.getElem_toArray, List.getElem_cons_succ, List.getElem_cons_zero, Act.put, List.setIfInBounds_toArray, List.set_cons_zero, List.set_cons_succ]
                    refine wpAnyH_ready (rs := [3]) (by kernel_rfl) (by simp) ?_
                    refine AllReadyH.cons (o := _) rfl (fun K hK => ?_) AllReadyH.nil
                    try simp only [List.getElem_toArray, List.getElem_cons_succ, List.getElem_cons_zero, Act.put, List.setIfInBounds_toArray, List.set_cons_zero, List.set_cons_succ]
                    go_simp
                    refine (push_q w.heap.size g1 r1 v1 S _ (by exact HR0.out) HI0.out (9000 * k) HN0.out (by omega) (by omega)).mono ?_
                    rintro e w6 ⟨A6, q6, v6, rfl, hT6, hR6, hM6', _⟩
                    rw [Ho6.out] at hT6 ⊢
                    rw [Hr6.out] at hR6
                    have hM6 : Moves (Foot g1 v1) wc w6 := ⟨hM6'.os, hM6'.tape, hM6'.output, hM6'.size, hM6'.block⟩
                    have HR6 := Lib.hid hR6
                    have HT6 : Hid (Texts w6 w.heap.size (.slice A6 o6.length q6) o6) := Texts.lower hT6 HB0.out.size
                    have HD6 : Hid (Doc w6 gd r1) := cells_past HD0.out (by decide) (by decide) HR0.out hM6
                    have HO6 : Hid (Own43 w6 b S st m a2 cp) := cells_past HO0.out (by decide) (by decide) HR0.out hM6
                    have HB6 := Lib.hid (HB0.out.trans (hM6.below HB0.out.size fun k hk => (HR0.out.low k hk).1))
                    clear hT6 hR6 hM6 hM6'
                    have c6 : w6.cell? ⟨b, 0, none⟩ = some (.string S) := (cellR HO6.out 0).1
                    refine hK.out _ _ c6 (fun hHeld => ?_)
                    clear hK K
                    try simp only [List.getElem_toArray, List.getElem_cons_succ, List.getElem_cons_zero, Act.put, List.setIfInBounds_toArray, List.set_cons_zero, List.set_cons_succ]
                    refine wpAnyH_ready (rs := [7]) (by kernel_rfl) (by simp) ?_
                    refine AllReadyH.cons (o := _) rfl (fun K hK => ?_) AllReadyH.nil
                    try simp only [List.getElem_toArray, List.getElem_cons_succ, List.getElem_cons_zero, Act.put, List.setIfInBounds_toArray, List.set_cons_zero, List.set_cons_succ]
                    go_simp
                    refine (rpush_q gd r1 S _ (by exact HD6.out) HI0.out (9000 * k) HN0.out (by omega) (by omega)).mono ?_
                    rintro e w7 ⟨A7, q7, rfl, hT7, hD7, hM7'⟩
                    rw [Ho6.out] at hT7 ⊢
                    rw [Hr6.out] at hD7
                    have hM7 : Moves (fun k => k = gd) w6 w7 := ⟨hM7'.os, hM7'.tape, hM7'.output, hM7'.size, hM7'.block⟩
                    have HD7 := Lib.hid hD7
                    have HT7 := Lib.hid hT7
                    have HR7 := Lib.hid (recv_pastd HR6.out HD6.out hM7)
                    have HT67 := Lib.hid (texts_pastd HT6.out HD6.out hM7)
                    have HO7 : Hid (Own43 w7 b S st m a2 cp) := cells_pastd HO6.out (by decide) HD6.out hM7
                    have HB7 := Lib.hid (HB6.out.trans (hM7.below HB6.out.size fun k hk => by omega))
                    clear hT7 hD7 hM7 hM7'
                    have c7 : w7.cell? ⟨b, 0, none⟩ = some (.string S) := (cellR HO7.out 0).1
                    refine hK.out _ _ c7 (fun hHeld => ?_)
                    clear hK K
                    try simp only [List.getElem_toArray, List.getElem_cons_succ, List.getElem_cons_zero, Act.put, List.setIfInBounds_toArray, List.set_cons_zero, List.set_cons_succ]
                    refine wpAnyH_ready (rs := [8]) (by kernel_rfl) (by simp) ?_
                    refine AllReadyH.cons (o := _) rfl (fun K hK => ?_) AllReadyH.nil
                    try simp only [List.getElem_toArray, List.getElem_cons_succ, List.getElem_cons_zero, Act.put, List.setIfInBounds_toArray, List.set_cons_zero, List.set_cons_succ]
                    go_simp
                    refine (same_q A6 A7 o6.length o6.length q6 q7 o6 o6 _ true (by unfold maxLen; omega) (by exact HT67.out.strs HSl.out) (by exact HT7.out.strs HSl.out) (decide_eq_true rfl)).mono ?_
                    rintro e w8 ⟨rfl, hb8'⟩
                    have hb8 : Below w7.heap.size w7 w8 := ⟨hb8'.os, hb8'.tape, hb8'.output, hb8'.size, hb8'.block⟩
                    have HR8 := Lib.hid (HR7.out.below hb8)
                    have HD8 := Lib.hid (HD7.out.below hb8)
                    have HO8 : Hid (Own43 w8 b S st m a2 cp) := (hb8.block _ ((Array.getElem?_eq_some_iff.1 HO7.out).1)).trans HO7.out
                    have HB8 := Lib.hid (HB7.out.trans (hb8.mono HB7.out.size))
                    clear hb8 hb8'
                    have c8 : w8.cell? ⟨b, 0, none⟩ = some (.string S) := (cellR HO8.out 0).1
                    have m2 : w8.cell? ⟨gd, 2, none⟩ = some (.bool true) := (cellR HD8.out 2).1.trans (congrArg some HBg.out)
                    have m3 : w8.cell? ⟨gd, 3, none⟩ = some (.string ⟨#[]⟩) := (cellR HD8.out 3).1.trans (congrArg some HPc.out)
                    have m4 : w8.cell? ⟨gd, 4, none⟩ = some (.int .i64 r6.c0) := (cellR HD8.out 4).1
                    have m5 : w8.cell? ⟨gd, 5, none⟩ = some (.int .i64 r6.c1) := (cellR HD8.out 5).1
                    have m6 : w8.cell? ⟨gd, 6, none⟩ = some (.int .i64 r6.c2) := (cellR HD8.out 6).1
                    have m7 : w8.cell? ⟨gd, 7, none⟩ = some (.int .i64 r6.c3) := (cellR HD8.out 7).1
                    have m8 : w8.cell? ⟨gd, 8, none⟩ = some (.int .i64 r6.c4) := (cellR HD8.out 8).1
                    refine hK.out _ _ c8 (fun hHeld => ?_)
                    clear hK K
                    try simp only [List.getElem_toArray, List.getElem_cons_succ, List.getElem_cons_zero, Act.put, List.setIfInBounds_toArray, List.set_cons_zero, List.set_cons_succ]
                    refine wpAnyH_take (i := 9) (v := ?vv9_37) rfl (by kernel_rfl) (by kernel_rfl) (by kernel_rfl) (fun _ _ _ h => h) (Or.inl ⟨by rfl, ?yy9_37⟩) (by assumption) ?rr9_37
                    case yy9_37 => (intro w hSw; (try dsimp only at hSw); (try simp only [List.getElem_toArray, List.getElem_cons_succ, List.getElem_cons_zero, Act.put, List.setIfInBounds_toArray, List.set_cons_zero, List.set_cons_succ]); go_simp; (try (with_reducible rfl)))
                    try simp only [List.getElem_toArray, List.getElem_cons_succ, List.getElem_cons_zero, Act.put, List.setIfInBounds_toArray, List.set_cons_zero, List.set_cons_succ]
                    refine wpAnyH_take (i := 10) (v := ?vv10_38) rfl (by kernel_rfl) (by kernel_rfl) (by kernel_rfl) (fun _ _ _ h => h) (Or.inl ⟨by rfl, ?yy10_38⟩) (by assumption) ?rr10_38
                    case yy10_38 => (intro w hSw; (try dsimp only at hSw); (try simp only [List.getElem_toArray, List.getElem_cons_succ, List.getElem_cons_zero, Act.put, List.setIfInBounds_toArray, List.set_cons_zero, List.set_cons_succ]); go_simp; (try (with_reducible rfl)))
                    try simp only [List.getElem_toArray, List.getElem_cons_succ, List.getElem_cons_zero, Act.put, List.setIfInBounds_toArray, List.set_cons_zero, List.set_cons_succ]
                    refine wpAnyH_mono (S2 := (fun w' => w'.cell? ⟨b, 0, none⟩ = some (.string S) ∧ w'.cell? ⟨gd, 2, none⟩ = some (.bool true) ∧ w'.cell? ⟨gd, 3, none⟩ = some (.string ⟨#[]⟩) ∧ w'.cell? ⟨gd, 4, none⟩ = some (.int .i64 r6.c0) ∧ w'.cell? ⟨gd, 5, none⟩ = some (.int .i64 r6.c1) ∧ w'.cell? ⟨gd, 6, none⟩ = some (.int .i64 r6.c2) ∧ w'.cell? ⟨gd, 7, none⟩ = some (.int .i64 r6.c3) ∧ w'.cell? ⟨gd, 8, none⟩ = some (.int .i64 r6.c4))) (fun w h => h.1) _ _ _ _ ?_
                    have hHeld2 : (fun w' => w'.cell? ⟨b, 0, none⟩ = some (.string S) ∧ w'.cell? ⟨gd, 2, none⟩ = some (.bool true) ∧ w'.cell? ⟨gd, 3, none⟩ = some (.string ⟨#[]⟩) ∧ w'.cell? ⟨gd, 4, none⟩ = some (.int .i64 r6.c0) ∧ w'.cell? ⟨gd, 5, none⟩ = some (.int .i64 r6.c1) ∧ w'.cell? ⟨gd, 6, none⟩ = some (.int .i64 r6.c2) ∧ w'.cell? ⟨gd, 7, none⟩ = some (.int .i64 r6.c3) ∧ w'.cell? ⟨gd, 8, none⟩ = some (.int .i64 r6.c4)) w8 := ⟨c8, m2, m3, m4, m5, m6, m7, m8⟩
                    clear hHeld
                    refine wpAnyH_take (i := 11) (v := ?vv11_39) rfl (by kernel_rfl) (by kernel_rfl) (by kernel_rfl) (fun _ _ _ h => h) (Or.inl ⟨by rfl, ?yy11_39⟩) (by assumption) ?rr11_39
                    case yy11_39 => (intro w hSw; (try dsimp only at hSw); (try simp only [List.getElem_toArray, List.getElem_cons_succ, List.getElem_cons_zero, Act.put, List.setIfInBounds_toArray, List.set_cons_zero, List.set_cons_succ]); go_simp; (try (with_reducible rfl)))
                    try simp only [List.getElem_toArray, List.getElem_cons_succ, List.getElem_cons_zero, Act.put, List.setIfInBounds_toArray, List.set_cons_zero, List.set_cons_succ]
                    refine wpAnyH_take (i := 13) (v := ?vv13_40) rfl (by kernel_rfl) (by kernel_rfl) (by kernel_rfl) (fun _ _ _ h => h) (Or.inl ⟨by rfl, ?yy13_40⟩) (by assumption) ?rr13_40
                    case yy13_40 => (intro w hSw; (try dsimp only at hSw); (try simp only [List.getElem_toArray, List.getElem_cons_succ, List.getElem_cons_zero, Act.put, List.setIfInBounds_toArray, List.set_cons_zero, List.set_cons_succ]); go_simp; (try (with_reducible rfl)))
                    try simp only [List.getElem_toArray, List.getElem_cons_succ, List.getElem_cons_zero, Act.put, List.setIfInBounds_toArray, List.set_cons_zero, List.set_cons_succ]
                    refine wpAnyH_take (i := 14) (v := ?vv14_41) rfl (by kernel_rfl) (by kernel_rfl) (by kernel_rfl) (fun _ _ _ h => h) (Or.inl ⟨by rfl, ?yy14_41⟩) (by assumption) ?rr14_41
                    case yy14_41 => (intro w hSw; (try dsimp only at hSw); (try simp only [List.getElem_toArray, List.getElem_cons_succ, List.getElem_cons_zero, Act.put, List.setIfInBounds_toArray, List.set_cons_zero, List.set_cons_succ]); go_simp; (try (with_reducible rfl)))
                    try simp only [List.getElem_toArray, List.getElem_cons_succ, List.getElem_cons_zero, Act.put, List.setIfInBounds_toArray, List.set_cons_zero, List.set_cons_succ]
                    refine wpAnyH_take (i := 15) (v := ?vv15_42) rfl (by kernel_rfl) (by kernel_rfl) (by kernel_rfl) (fun _ _ _ h => h) (Or.inl ⟨by rfl, ?yy15_42⟩) (by assumption) ?rr15_42
                    case yy15_42 => (intro w hSw; (try dsimp only at hSw); (try simp only [List.getElem_toArray, List.getElem_cons_succ, List.getElem_cons_zero, Act.put, List.setIfInBounds_toArray, List.set_cons_zero, List.set_cons_succ]); go_simp; (try (with_reducible rfl)))
                    try simp only [List.getElem_toArray, List.getElem_cons_succ, List.getElem_cons_zero, Act.put, List.setIfInBounds_toArray, List.set_cons_zero, List.set_cons_succ]
                    refine wpAnyH_take (i := 16) (v := ?vv16_43) rfl (by kernel_rfl) (by kernel_rfl) (by kernel_rfl) (fun _ _ _ h => h) (Or.inl ⟨by rfl, ?yy16_43⟩) (by assumption) ?rr16_43
                    case yy16_43 => (intro w hSw; (try dsimp only at hSw); (try simp only [List.getElem_toArray, List.getElem_cons_succ, List.getElem_cons_zero, Act.put, List.setIfInBounds_toArray, List.set_cons_zero, List.set_cons_succ]); go_simp; (try (with_reducible rfl)))
                    try simp only [List.getElem_toArray, List.getElem_cons_succ, List.getElem_cons_zero, Act.put, List.setIfInBounds_toArray, List.set_cons_zero, List.set_cons_succ]
                    refine wpAnyH_ready (rs := [12]) (by kernel_rfl) (by simp) ?_
                    refine AllReadyH.cons (o := _) rfl (fun K hK => ?_) AllReadyH.nil
                    try simp only [List.getElem_toArray, List.getElem_cons_succ, List.getElem_cons_zero, Act.put, List.setIfInBounds_toArray, List.set_cons_zero, List.set_cons_succ]
                    go_simp
                    refine (heard_any w.heap.size g1 r6 v6 _ (by exact HR8.out)).mono ?_
                    unfold heardV
                    rintro e w9 ⟨rfl, hb9'⟩
                    have hb9 : Below w8.heap.size w8 w9 := ⟨hb9'.os, hb9'.tape, hb9'.output, hb9'.size, hb9'.block⟩
                    have HR9 := Lib.hid (HR8.out.below hb9)
                    have HD9 := Lib.hid (HD8.out.below hb9)
                    have HO9 : Hid (Own43 w9 b S st m a2 cp) := (hb9.block _ ((Array.getElem?_eq_some_iff.1 HO8.out).1)).trans HO8.out
                    have HB9 := Lib.hid (HB8.out.trans (hb9.mono HB8.out.size))
                    clear hb9 hb9'
                    have c9 : w9.cell? ⟨b, 0, none⟩ = some (.string S) := (cellR HO9.out 0).1
                    have l2 : w9.cell? ⟨gd, 2, none⟩ = some (.bool true) := (cellR HD9.out 2).1.trans (congrArg some HBg.out)
                    have l3 : w9.cell? ⟨gd, 3, none⟩ = some (.string ⟨#[]⟩) := (cellR HD9.out 3).1.trans (congrArg some HPc.out)
                    have l4 : w9.cell? ⟨gd, 4, none⟩ = some (.int .i64 r6.c0) := (cellR HD9.out 4).1
                    have l5 : w9.cell? ⟨gd, 5, none⟩ = some (.int .i64 r6.c1) := (cellR HD9.out 5).1
                    have l6 : w9.cell? ⟨gd, 6, none⟩ = some (.int .i64 r6.c2) := (cellR HD9.out 6).1
                    have l7 : w9.cell? ⟨gd, 7, none⟩ = some (.int .i64 r6.c3) := (cellR HD9.out 7).1
                    have l8 : w9.cell? ⟨gd, 8, none⟩ = some (.int .i64 r6.c4) := (cellR HD9.out 8).1
                    refine hK.out _ _ ⟨c9, l2, l3, l4, l5, l6, l7, l8⟩ (fun hHeld => ?_)
                    clear hK K
                    try simp only [List.getElem_toArray, List.getElem_cons_succ, List.getElem_cons_zero, Act.put, List.setIfInBounds_toArray, List.set_cons_zero, List.set_cons_succ]
                    refine wpAnyH_take (i := 17) (v := ?vv17_44) rfl (by kernel_rfl) (by kernel_rfl) (by kernel_rfl) (fun _ _ _ h => h) (Or.inl ⟨by rfl, ?yy17_44⟩) (by assumption) ?rr17_44
                    case yy17_44 => (intro w hSw; (try dsimp only at hSw); (try simp only [List.getElem_toArray, List.getElem_cons_succ, List.getElem_cons_zero, Act.put, List.setIfInBounds_toArray, List.set_cons_zero, List.set_cons_succ]); go_simp; (try (with_reducible rfl)))
                    try simp only [List.getElem_toArray, List.getElem_cons_succ, List.getElem_cons_zero, Act.put, List.setIfInBounds_toArray, List.set_cons_zero, List.set_cons_succ]
                    refine wpAnyH_take (i := 18) (v := ?vv18_45) rfl (by kernel_rfl) (by kernel_rfl) (by kernel_rfl) (fun _ _ _ h => h) (Or.inl ⟨by rfl, ?yy18_45⟩) (by assumption) ?rr18_45
                    case yy18_45 => (intro w hSw; (try dsimp only at hSw); (try simp only [List.getElem_toArray, List.getElem_cons_succ, List.getElem_cons_zero, Act.put, List.setIfInBounds_toArray, List.set_cons_zero, List.set_cons_succ]); go_simp; (try (with_reducible rfl)))
                    try simp only [List.getElem_toArray, List.getElem_cons_succ, List.getElem_cons_zero, Act.put, List.setIfInBounds_toArray, List.set_cons_zero, List.set_cons_succ]
                    refine wpAnyH_take (i := 19) (v := ?vv19_46) rfl (by kernel_rfl) (by kernel_rfl) (by kernel_rfl) (fun _ _ _ h => h) (Or.inl ⟨by rfl, ?yy19_46⟩) (by assumption) ?rr19_46
                    case yy19_46 => (intro w hSw; (try dsimp only at hSw); (try simp only [List.getElem_toArray, List.getElem_cons_succ, List.getElem_cons_zero, Act.put, List.setIfInBounds_toArray, List.set_cons_zero, List.set_cons_succ]); go_simp; (try (with_reducible rfl)))
                    try simp only [List.getElem_toArray, List.getElem_cons_succ, List.getElem_cons_zero, Act.put, List.setIfInBounds_toArray, List.set_cons_zero, List.set_cons_succ]
                    refine wpAnyH_take (i := 20) (v := ?vv20_47) rfl (by kernel_rfl) (by kernel_rfl) (by kernel_rfl) (fun _ _ _ h => h) (Or.inl ⟨by rfl, ?yy20_47⟩) (by assumption) ?rr20_47
                    case yy20_47 => (intro w hSw; (try dsimp only at hSw); (try simp only [List.getElem_toArray, List.getElem_cons_succ, List.getElem_cons_zero, Act.put, List.setIfInBounds_toArray, List.set_cons_zero, List.set_cons_succ]); go_simp; (try (with_reducible rfl)))
                    try simp only [List.getElem_toArray, List.getElem_cons_succ, List.getElem_cons_zero, Act.put, List.setIfInBounds_toArray, List.set_cons_zero, List.set_cons_succ]
                    refine wpAnyH_take (i := 22) (v := ?vv22_48) rfl (by kernel_rfl) (by kernel_rfl) (by kernel_rfl) (fun _ _ _ h => h) (Or.inl ⟨by rfl, ?yy22_48⟩) (by assumption) ?rr22_48
                    case yy22_48 => (intro w hSw; (try dsimp only at hSw); (try simp only [List.getElem_toArray, List.getElem_cons_succ, List.getElem_cons_zero, Act.put, List.setIfInBounds_toArray, List.set_cons_zero, List.set_cons_succ]); go_simp; (try (with_reducible rfl)))
                    try simp only [List.getElem_toArray, List.getElem_cons_succ, List.getElem_cons_zero, Act.put, List.setIfInBounds_toArray, List.set_cons_zero, List.set_cons_succ]
                    refine wpAnyH_take (i := 23) (v := ?vv23_49) rfl (by kernel_rfl) (by kernel_rfl) (by kernel_rfl) (fun _ _ _ h => h) (Or.inl ⟨by rfl, ?yy23_49⟩) (by assumption) ?rr23_49
                    case yy23_49 => (intro w hSw; (try dsimp only at hSw); (try simp only [List.getElem_toArray, List.getElem_cons_succ, List.getElem_cons_zero, Act.put, List.setIfInBounds_toArray, List.set_cons_zero, List.set_cons_succ]); go_simp; (try (with_reducible rfl)))
                    try simp only [List.getElem_toArray, List.getElem_cons_succ, List.getElem_cons_zero, Act.put, List.setIfInBounds_toArray, List.set_cons_zero, List.set_cons_succ]
                    refine wpAnyH_take (i := 24) (v := ?vv24_50) rfl (by kernel_rfl) (by kernel_rfl) (by kernel_rfl) (fun _ _ _ h => h) (Or.inl ⟨by rfl, ?yy24_50⟩) (by assumption) ?rr24_50
                    case yy24_50 => (intro w hSw; (try dsimp only at hSw); (try simp only [List.getElem_toArray, List.getElem_cons_succ, List.getElem_cons_zero, Act.put, List.setIfInBounds_toArray, List.set_cons_zero, List.set_cons_succ]); go_simp; (try (with_reducible rfl)))
                    try simp only [List.getElem_toArray, List.getElem_cons_succ, List.getElem_cons_zero, Act.put, List.setIfInBounds_toArray, List.set_cons_zero, List.set_cons_succ]
                    refine wpAnyH_take (i := 25) (v := ?vv25_51) rfl (by kernel_rfl) (by kernel_rfl) (by kernel_rfl) (fun _ _ _ h => h) (Or.inl ⟨by rfl, ?yy25_51⟩) (by assumption) ?rr25_51
                    case yy25_51 => (intro w hSw; (try dsimp only at hSw); (try simp only [List.getElem_toArray, List.getElem_cons_succ, List.getElem_cons_zero, Act.put, List.setIfInBounds_toArray, List.set_cons_zero, List.set_cons_succ]); go_simp; (try (with_reducible rfl)))
                    try simp only [List.getElem_toArray, List.getElem_cons_succ, List.getElem_cons_zero, Act.put, List.setIfInBounds_toArray, List.set_cons_zero, List.set_cons_succ]
                    refine wpAnyH_ready (rs := [21]) (by kernel_rfl) (by simp) ?_
                    refine AllReadyH.cons (o := _) rfl (fun K hK => ?_) AllReadyH.nil
                    try simp only [List.getElem_toArray, List.getElem_cons_succ, List.getElem_cons_zero, Act.put, List.setIfInBounds_toArray, List.set_cons_zero, List.set_cons_succ]
                    go_simp
                    refine (inside_any w.heap.size g1 r6 v6 _ (by exact HR9.out)).mono ?_
                    rw [HIn.out]
                    rintro e w10 ⟨rfl, rfl⟩
                    refine hK.out _ _ ⟨c9, l2, l3, l4, l5, l6, l7, l8⟩ (fun hHeld => ?_)
                    clear hK K
                    try simp only [List.getElem_toArray, List.getElem_cons_succ, List.getElem_cons_zero, Act.put, List.setIfInBounds_toArray, List.set_cons_zero, List.set_cons_succ]
                    refine wpAnyH_take (i := 26) (v := ?vv26_52) rfl (by kernel_rfl) (by kernel_rfl) (by kernel_rfl) (fun _ _ _ h => h) (Or.inl ⟨by rfl, ?yy26_52⟩) (by assumption) ?rr26_52
                    case yy26_52 => (intro w hSw; (try dsimp only at hSw); (try simp only [List.getElem_toArray, List.getElem_cons_succ, List.getElem_cons_zero, Act.put, List.setIfInBounds_toArray, List.set_cons_zero, List.set_cons_succ]); go_simp; (try (with_reducible rfl)))
                    try simp only [List.getElem_toArray, List.getElem_cons_succ, List.getElem_cons_zero, Act.put, List.setIfInBounds_toArray, List.set_cons_zero, List.set_cons_succ]
                    refine wpAnyH_take (i := 27) (v := ?vv27_53) rfl (by kernel_rfl) (by kernel_rfl) (by kernel_rfl) (fun _ _ _ h => h) (Or.inl ⟨by rfl, ?yy27_53⟩) (by assumption) ?rr27_53
                    case yy27_53 => (intro w hSw; (try dsimp only at hSw); (try simp only [List.getElem_toArray, List.getElem_cons_succ, List.getElem_cons_zero, Act.put, List.setIfInBounds_toArray, List.set_cons_zero, List.set_cons_succ]); go_simp; (try (with_reducible rfl)))
                    try simp only [List.getElem_toArray, List.getElem_cons_succ, List.getElem_cons_zero, Act.put, List.setIfInBounds_toArray, List.set_cons_zero, List.set_cons_succ]
                    refine wpAnyH_take (i := 28) (v := ?vv28_54) rfl (by kernel_rfl) (by kernel_rfl) (by kernel_rfl) (fun _ _ _ h => h) (Or.inl ⟨by rfl, ?yy28_54⟩) (by assumption) ?rr28_54
                    case yy28_54 => (intro w hSw; (try dsimp only at hSw); (try simp only [List.getElem_toArray, List.getElem_cons_succ, List.getElem_cons_zero, Act.put, List.setIfInBounds_toArray, List.set_cons_zero, List.set_cons_succ]); go_simp; (try (with_reducible rfl)))
                    try simp only [List.getElem_toArray, List.getElem_cons_succ, List.getElem_cons_zero, Act.put, List.setIfInBounds_toArray, List.set_cons_zero, List.set_cons_succ]
                    refine wpAnyH_take (i := 29) (v := ?vv29_55) rfl (by kernel_rfl) (by kernel_rfl) (by kernel_rfl) (fun _ _ _ h => h) (Or.inl ⟨by rfl, ?yy29_55⟩) (by assumption) ?rr29_55
                    case yy29_55 => (intro w hSw; (try dsimp only at hSw); (try simp only [List.getElem_toArray, List.getElem_cons_succ, List.getElem_cons_zero, Act.put, List.setIfInBounds_toArray, List.set_cons_zero, List.set_cons_succ]); go_simp; (try (with_reducible rfl)))
                    try simp only [List.getElem_toArray, List.getElem_cons_succ, List.getElem_cons_zero, Act.put, List.setIfInBounds_toArray, List.set_cons_zero, List.set_cons_succ]
                    refine wpAnyH_take (i := 30) (v := ?vv30_56) rfl (by kernel_rfl) (by kernel_rfl) (by kernel_rfl) (fun _ _ _ h => h) (Or.inl ⟨by rfl, ?yy30_56⟩) (by assumption) ?rr30_56
                    case yy30_56 => (intro w hSw; (try dsimp only at hSw); (try simp only [List.getElem_toArray, List.getElem_cons_succ, List.getElem_cons_zero, Act.put, List.setIfInBounds_toArray, List.set_cons_zero, List.set_cons_succ]); go_simp; (try (with_reducible rfl)))
                    try simp only [List.getElem_toArray, List.getElem_cons_succ, List.getElem_cons_zero, Act.put, List.setIfInBounds_toArray, List.set_cons_zero, List.set_cons_succ]
                    refine wpAnyH_take (i := 31) (v := ?vv31_57) rfl (by kernel_rfl) (by kernel_rfl) (by kernel_rfl) (fun _ _ _ h => h) (Or.inl ⟨by rfl, ?yy31_57⟩) (by assumption) ?rr31_57
                    case yy31_57 => (intro w hSw; (try dsimp only at hSw); (try simp only [List.getElem_toArray, List.getElem_cons_succ, List.getElem_cons_zero, Act.put, List.setIfInBounds_toArray, List.set_cons_zero, List.set_cons_succ]); go_simp; (try (with_reducible rfl)))
                    try simp only [List.getElem_toArray, List.getElem_cons_succ, List.getElem_cons_zero, Act.put, List.setIfInBounds_toArray, List.set_cons_zero, List.set_cons_succ]
                    refine wpAnyH_take (i := 32) (v := ?vv32_58) rfl (by kernel_rfl) (by kernel_rfl) (by kernel_rfl) (fun _ _ _ h => h) (Or.inl ⟨by rfl, ?yy32_58⟩) (by assumption) ?rr32_58
                    case yy32_58 => (intro w hSw; (try dsimp only at hSw); (try simp only [List.getElem_toArray, List.getElem_cons_succ, List.getElem_cons_zero, Act.put, List.setIfInBounds_toArray, List.set_cons_zero, List.set_cons_succ]); go_simp; (try (with_reducible rfl)))
                    try simp only [List.getElem_toArray, List.getElem_cons_succ, List.getElem_cons_zero, Act.put, List.setIfInBounds_toArray, List.set_cons_zero, List.set_cons_succ]
                    refine wpAnyH_take (i := 33) (v := ?vv33_59) rfl (by kernel_rfl) (by kernel_rfl) (by kernel_rfl) (fun _ _ _ h => h) (Or.inl ⟨by rfl, ?yy33_59⟩) (by assumption) ?rr33_59
                    case yy33_59 => (intro w hSw; (try dsimp only at hSw); (try simp only [List.getElem_toArray, List.getElem_cons_succ, List.getElem_cons_zero, Act.put, List.setIfInBounds_toArray, List.set_cons_zero, List.set_cons_succ]); go_simp; (try (with_reducible rfl)))
                    try simp only [List.getElem_toArray, List.getElem_cons_succ, List.getElem_cons_zero, Act.put, List.setIfInBounds_toArray, List.set_cons_zero, List.set_cons_succ]
                    refine wpAnyH_take (i := 34) (v := ?vv34_60) rfl (by kernel_rfl) (by kernel_rfl) (by kernel_rfl) (fun _ _ _ h => h) (Or.inl ⟨by rfl, ?yy34_60⟩) (by assumption) ?rr34_60
                    case yy34_60 => (intro w hSw; (try dsimp only at hSw); (try simp only [List.getElem_toArray, List.getElem_cons_succ, List.getElem_cons_zero, Act.put, List.setIfInBounds_toArray, List.set_cons_zero, List.set_cons_succ]); go_simp; (try (with_reducible rfl)))
                    try simp only [List.getElem_toArray, List.getElem_cons_succ, List.getElem_cons_zero, Act.put, List.setIfInBounds_toArray, List.set_cons_zero, List.set_cons_succ]
                    refine wpAnyH_done (by kernel_rfl) ?_ _
                    go_wp2_with fail
                    go_roundg (n - (k + 1))
                    case measure => rw [Hgk.out]; omega
                    case rel => exact ⟨k + 1, g1, r6, v6, by omega, rfl, by go_num, rfl, HR9.out, HD9.out, HI6.out, HN6.out, by omega, HB9.out, hgd⟩
                · have HIn : Hid (inside r6 = true) := by show _ = _; unfold inside; cases hp : r6.piece; exact absurd hp hpe; rfl
                  have hbg : r6.begun = true := by
                    cases h : r6.begun
                    · exact absurd (HI6.out.2.1 h) hpe
                    · rfl
                  have HBg : Hid ((.bool r6.begun : Value) = .bool true) := by show _ = _; rw [hbg]
                  obtain ⟨P, hP⟩ : ∃ P, bOf r6.piece = P := ⟨_, rfl⟩
                  have hP1 : P.toList.isEmpty = false := by
                    rw [← hP, toList_bOf]
                    cases hc : r6.piece
                    · exact absurd hc hpe
                    · rfl
                  have hP2 : ¬ P.toList = [] := by intro h; rw [h] at hP1; cases hP1
                  have HPc : Hid ((.string (bOf r6.piece) : Value) = .string P) := by show _ = _; rw [hP]
                  clear hP hbg hpe
                  refine wp_region_held_drew (S := fun w' => w'.cell? ⟨b, 0, none⟩ = some (.string S)) (by kernel_rfl) c0 (fun hHeld => ?_)
                  refine wpAnyH_take (i := 0) (v := ?vv0_61) rfl (by kernel_rfl) (by kernel_rfl) (by kernel_rfl) (fun _ _ _ h => h) (Or.inl ⟨by rfl, ?yy0_61⟩) (by assumption) ?rr0_61
                  case yy0_61 => (intro w hSw; (try dsimp only at hSw); (try simp only [List.getElem_toArray, List.getElem_cons_succ, List.getElem_cons_zero, Act.put, List.setIfInBounds_toArray, List.set_cons_zero, List.set_cons_succ]); go_simp; (try (with_reducible rfl)))
                  try simp only [List.getElem_toArray, List.getElem_cons_succ, List.getElem_cons_zero, Act.put, List.setIfInBounds_toArray, List.set_cons_zero, List.set_cons_succ]
                  refine wpAnyH_take (i := 1) (v := ?vv1_62) rfl (by kernel_rfl) (by kernel_rfl) (by kernel_rfl) (fun _ _ _ h => h) (Or.inl ⟨by rfl, ?yy1_62⟩) (by assumption) ?rr1_62
                  case yy1_62 => (intro w hSw; (try dsimp only at hSw); (try simp only [List.getElem_toArray, List.getElem_cons_succ, List.getElem_cons_zero, Act.put, List.setIfInBounds_toArray, List.set_cons_zero, List.set_cons_succ]); go_simp; (try (with_reducible rfl)))
                  try simp only [List.getElem_toArray, List.getElem_cons_succ, List.getElem_cons_zero, Act.put, List.setIfInBounds_toArray, List.set_cons_zero, List.set_cons_succ]
                  refine wpAnyH_take (i := 2) (v := ?vv2_63) rfl (by kernel_rfl) (by kernel_rfl) (by kernel_rfl) (fun _ _ _ h => h) (Or.inl ⟨by rfl, ?yy2_63⟩) (by assumption) ?rr2_63
                  case yy2_63 => (intro w hSw; (try dsimp only at hSw); (try simp only [List.getElem_toArray, List.getElem_cons_succ, List.getElem_cons_zero, Act.put, List.setIfInBounds_toArray, List.set_cons_zero, List.set_cons_succ]); go_simp; (try (with_reducible rfl)))
                  try simp only [List.getElem_toArray, List.getElem_cons_succ, List.getElem_cons_zero, Act.put, List.setIfInBounds_toArray, List.set_cons_zero, List.set_cons_succ]
                  refine wpAnyH_take (i := 4) (v := ?vv4_64) rfl (by kernel_rfl) (by kernel_rfl) (by kernel_rfl) (fun _ _ _ h => h) (Or.inl ⟨by rfl, ?yy4_64⟩) (by assumption) ?rr4_64
                  case yy4_64 => (intro w hSw; (try dsimp only at hSw); (try simp only [List.getElem_toArray, List.getElem_cons_succ, List.getElem_cons_zero, Act.put, List.setIfInBounds_toArray, List.set_cons_zero, List.set_cons_succ]); go_simp; (try (with_reducible rfl)))
                  try simp only [List.getElem_toArray, List.getElem_cons_succ, List.getElem_cons_zero, Act.put, List.setIfInBounds_toArray, List.set_cons_zero, List.set_cons_succ]
                  refine wpAnyH_take (i := 5) (v := ?vv5_65) rfl (by kernel_rfl) (by kernel_rfl) (by kernel_rfl) (fun _ _ _ h => h) (Or.inl ⟨by rfl, ?yy5_65⟩) (by assumption) ?rr5_65
                  case yy5_65 => (intro w hSw; (try dsimp only at hSw); (try simp only [List.getElem_toArray, List.getElem_cons_succ, List.getElem_cons_zero, Act.put, List.setIfInBounds_toArray, List.set_cons_zero, List.set_cons_succ]); go_simp; (try (with_reducible rfl)))
                  try simp only [List.getElem_toArray, List.getElem_cons_succ, List.getElem_cons_zero, Act.put, List.setIfInBounds_toArray, List.set_cons_zero, List.set_cons_succ]
                  refine wpAnyH_take (i := 6) (v := ?vv6_66) rfl (by kernel_rfl) (by kernel_rfl) (by kernel_rfl) (fun _ _ _ h => h) (Or.inl ⟨by rfl, ?yy6_66⟩) (by assumption) ?rr6_66
                  case yy6_66 => (intro w hSw; (try dsimp only at hSw); (try simp only [List.getElem_toArray, List.getElem_cons_succ, List.getElem_cons_zero, Act.put, List.setIfInBounds_toArray, List.set_cons_zero, List.set_cons_succ]); go_simp; (try (with_reducible rfl)))
                  try simp only [List.getElem_toArray, List.getElem_cons_succ, List.getElem_cons_zero, Act.put, List.setIfInBounds_toArray, List.set_cons_zero, List.set_cons_succ]
                  refine wpAnyH_ready (rs := [3]) (by kernel_rfl) (by simp) ?_
                  refine AllReadyH.cons (o := _) rfl (fun K hK => ?_) AllReadyH.nil
                  try simp only [List.getElem_toArray, List.getElem_cons_succ, List.getElem_cons_zero, Act.put, List.setIfInBounds_toArray, List.set_cons_zero, List.set_cons_succ]
                  go_simp
                  refine (push_q w.heap.size g1 r1 v1 S _ (by exact HR0.out) HI0.out (9000 * k) HN0.out (by omega) (by omega)).mono ?_
                  rintro e w6 ⟨A6, q6, v6, rfl, hT6, hR6, hM6', _⟩
                  rw [Ho6.out] at hT6 ⊢
                  rw [Hr6.out] at hR6
                  have hM6 : Moves (Foot g1 v1) wc w6 := ⟨hM6'.os, hM6'.tape, hM6'.output, hM6'.size, hM6'.block⟩
                  have HR6 := Lib.hid hR6
                  have HT6 : Hid (Texts w6 w.heap.size (.slice A6 o6.length q6) o6) := Texts.lower hT6 HB0.out.size
                  have HD6 : Hid (Doc w6 gd r1) := cells_past HD0.out (by decide) (by decide) HR0.out hM6
                  have HO6 : Hid (Own43 w6 b S st m a2 cp) := cells_past HO0.out (by decide) (by decide) HR0.out hM6
                  have HB6 := Lib.hid (HB0.out.trans (hM6.below HB0.out.size fun k hk => (HR0.out.low k hk).1))
                  clear hT6 hR6 hM6 hM6'
                  have c6 : w6.cell? ⟨b, 0, none⟩ = some (.string S) := (cellR HO6.out 0).1
                  refine hK.out _ _ c6 (fun hHeld => ?_)
                  clear hK K
                  try simp only [List.getElem_toArray, List.getElem_cons_succ, List.getElem_cons_zero, Act.put, List.setIfInBounds_toArray, List.set_cons_zero, List.set_cons_succ]
                  refine wpAnyH_ready (rs := [7]) (by kernel_rfl) (by simp) ?_
                  refine AllReadyH.cons (o := _) rfl (fun K hK => ?_) AllReadyH.nil
                  try simp only [List.getElem_toArray, List.getElem_cons_succ, List.getElem_cons_zero, Act.put, List.setIfInBounds_toArray, List.set_cons_zero, List.set_cons_succ]
                  go_simp
                  refine (rpush_q gd r1 S _ (by exact HD6.out) HI0.out (9000 * k) HN0.out (by omega) (by omega)).mono ?_
                  rintro e w7 ⟨A7, q7, rfl, hT7, hD7, hM7'⟩
                  rw [Ho6.out] at hT7 ⊢
                  rw [Hr6.out] at hD7
                  have hM7 : Moves (fun k => k = gd) w6 w7 := ⟨hM7'.os, hM7'.tape, hM7'.output, hM7'.size, hM7'.block⟩
                  have HD7 := Lib.hid hD7
                  have HT7 := Lib.hid hT7
                  have HR7 := Lib.hid (recv_pastd HR6.out HD6.out hM7)
                  have HT67 := Lib.hid (texts_pastd HT6.out HD6.out hM7)
                  have HO7 : Hid (Own43 w7 b S st m a2 cp) := cells_pastd HO6.out (by decide) HD6.out hM7
                  have HB7 := Lib.hid (HB6.out.trans (hM7.below HB6.out.size fun k hk => by omega))
                  clear hT7 hD7 hM7 hM7'
                  have c7 : w7.cell? ⟨b, 0, none⟩ = some (.string S) := (cellR HO7.out 0).1
                  refine hK.out _ _ c7 (fun hHeld => ?_)
                  clear hK K
                  try simp only [List.getElem_toArray, List.getElem_cons_succ, List.getElem_cons_zero, Act.put, List.setIfInBounds_toArray, List.set_cons_zero, List.set_cons_succ]
                  refine wpAnyH_ready (rs := [8]) (by kernel_rfl) (by simp) ?_
                  refine AllReadyH.cons (o := _) rfl (fun K hK => ?_) AllReadyH.nil
                  try simp only [List.getElem_toArray, List.getElem_cons_succ, List.getElem_cons_zero, Act.put, List.setIfInBounds_toArray, List.set_cons_zero, List.set_cons_succ]
                  go_simp
                  refine (same_q A6 A7 o6.length o6.length q6 q7 o6 o6 _ true (by unfold maxLen; omega) (by exact HT67.out.strs HSl.out) (by exact HT7.out.strs HSl.out) (decide_eq_true rfl)).mono ?_
                  rintro e w8 ⟨rfl, hb8'⟩
                  have hb8 : Below w7.heap.size w7 w8 := ⟨hb8'.os, hb8'.tape, hb8'.output, hb8'.size, hb8'.block⟩
                  have HR8 := Lib.hid (HR7.out.below hb8)
                  have HD8 := Lib.hid (HD7.out.below hb8)
                  have HO8 : Hid (Own43 w8 b S st m a2 cp) := (hb8.block _ ((Array.getElem?_eq_some_iff.1 HO7.out).1)).trans HO7.out
                  have HB8 := Lib.hid (HB7.out.trans (hb8.mono HB7.out.size))
                  clear hb8 hb8'
                  have c8 : w8.cell? ⟨b, 0, none⟩ = some (.string S) := (cellR HO8.out 0).1
                  have m2 : w8.cell? ⟨gd, 2, none⟩ = some (.bool true) := (cellR HD8.out 2).1.trans (congrArg some HBg.out)
                  have m3 : w8.cell? ⟨gd, 3, none⟩ = some (.string P) := (cellR HD8.out 3).1.trans (congrArg some HPc.out)
                  have m4 : w8.cell? ⟨gd, 4, none⟩ = some (.int .i64 r6.c0) := (cellR HD8.out 4).1
                  have m5 : w8.cell? ⟨gd, 5, none⟩ = some (.int .i64 r6.c1) := (cellR HD8.out 5).1
                  have m6 : w8.cell? ⟨gd, 6, none⟩ = some (.int .i64 r6.c2) := (cellR HD8.out 6).1
                  have m7 : w8.cell? ⟨gd, 7, none⟩ = some (.int .i64 r6.c3) := (cellR HD8.out 7).1
                  have m8 : w8.cell? ⟨gd, 8, none⟩ = some (.int .i64 r6.c4) := (cellR HD8.out 8).1
                  refine hK.out _ _ c8 (fun hHeld => ?_)
                  clear hK K
                  try simp only [List.getElem_toArray, List.getElem_cons_succ, List.getElem_cons_zero, Act.put, List.setIfInBounds_toArray, List.set_cons_zero, List.set_cons_succ]
                  refine wpAnyH_take (i := 9) (v := ?vv9_67) rfl (by kernel_rfl) (by kernel_rfl) (by kernel_rfl) (fun _ _ _ h => h) (Or.inl ⟨by rfl, ?yy9_67⟩) (by assumption) ?rr9_67
                  case yy9_67 => (intro w hSw; (try dsimp only at hSw); (try simp only [List.getElem_toArray, List.getElem_cons_succ, List.getElem_cons_zero, Act.put, List.setIfInBounds_toArray, List.set_cons_zero, List.set_cons_succ]); go_simp; (try (with_reducible rfl)))
                  try simp only [List.getElem_toArray, List.getElem_cons_succ, List.getElem_cons_zero, Act.put, List.setIfInBounds_toArray, List.set_cons_zero, List.set_cons_succ]
                  refine wpAnyH_take (i := 10) (v := ?vv10_68) rfl (by kernel_rfl) (by kernel_rfl) (by kernel_rfl) (fun _ _ _ h => h) (Or.inl ⟨by rfl, ?yy10_68⟩) (by assumption) ?rr10_68
                  case yy10_68 => (intro w hSw; (try dsimp only at hSw); (try simp only [List.getElem_toArray, List.getElem_cons_succ, List.getElem_cons_zero, Act.put, List.setIfInBounds_toArray, List.set_cons_zero, List.set_cons_succ]); go_simp; (try (with_reducible rfl)))
                  try simp only [List.getElem_toArray, List.getElem_cons_succ, List.getElem_cons_zero, Act.put, List.setIfInBounds_toArray, List.set_cons_zero, List.set_cons_succ]
                  refine wpAnyH_mono (S2 := (fun w' => w'.cell? ⟨b, 0, none⟩ = some (.string S) ∧ w'.cell? ⟨gd, 2, none⟩ = some (.bool true) ∧ w'.cell? ⟨gd, 3, none⟩ = some (.string P) ∧ w'.cell? ⟨gd, 4, none⟩ = some (.int .i64 r6.c0) ∧ w'.cell? ⟨gd, 5, none⟩ = some (.int .i64 r6.c1) ∧ w'.cell? ⟨gd, 6, none⟩ = some (.int .i64 r6.c2) ∧ w'.cell? ⟨gd, 7, none⟩ = some (.int .i64 r6.c3) ∧ w'.cell? ⟨gd, 8, none⟩ = some (.int .i64 r6.c4))) (fun w h => h.1) _ _ _ _ ?_
                  have hHeld2 : (fun w' => w'.cell? ⟨b, 0, none⟩ = some (.string S) ∧ w'.cell? ⟨gd, 2, none⟩ = some (.bool true) ∧ w'.cell? ⟨gd, 3, none⟩ = some (.string P) ∧ w'.cell? ⟨gd, 4, none⟩ = some (.int .i64 r6.c0) ∧ w'.cell? ⟨gd, 5, none⟩ = some (.int .i64 r6.c1) ∧ w'.cell? ⟨gd, 6, none⟩ = some (.int .i64 r6.c2) ∧ w'.cell? ⟨gd, 7, none⟩ = some (.int .i64 r6.c3) ∧ w'.cell? ⟨gd, 8, none⟩ = some (.int .i64 r6.c4)) w8 := ⟨c8, m2, m3, m4, m5, m6, m7, m8⟩
                  clear hHeld
                  refine wpAnyH_take (i := 11) (v := ?vv11_69) rfl (by kernel_rfl) (by kernel_rfl) (by kernel_rfl) (fun _ _ _ h => h) (Or.inl ⟨by rfl, ?yy11_69⟩) (by assumption) ?rr11_69
                  case yy11_69 => (intro w hSw; (try dsimp only at hSw); (try simp only [List.getElem_toArray, List.getElem_cons_succ, List.getElem_cons_zero, Act.put, List.setIfInBounds_toArray, List.set_cons_zero, List.set_cons_succ]); go_simp; (try (with_reducible rfl)))
                  try simp only [List.getElem_toArray, List.getElem_cons_succ, List.getElem_cons_zero, Act.put, List.setIfInBounds_toArray, List.set_cons_zero, List.set_cons_succ]
                  refine wpAnyH_take (i := 13) (v := ?vv13_70) rfl (by kernel_rfl) (by kernel_rfl) (by kernel_rfl) (fun _ _ _ h => h) (Or.inl ⟨by rfl, ?yy13_70⟩) (by assumption) ?rr13_70
                  case yy13_70 => (intro w hSw; (try dsimp only at hSw); (try simp only [List.getElem_toArray, List.getElem_cons_succ, List.getElem_cons_zero, Act.put, List.setIfInBounds_toArray, List.set_cons_zero, List.set_cons_succ]); go_simp; (try (with_reducible rfl)))
                  try simp only [List.getElem_toArray, List.getElem_cons_succ, List.getElem_cons_zero, Act.put, List.setIfInBounds_toArray, List.set_cons_zero, List.set_cons_succ]
                  refine wpAnyH_take (i := 14) (v := ?vv14_71) rfl (by kernel_rfl) (by kernel_rfl) (by kernel_rfl) (fun _ _ _ h => h) (Or.inl ⟨by rfl, ?yy14_71⟩) (by assumption) ?rr14_71
                  case yy14_71 => (intro w hSw; (try dsimp only at hSw); (try simp only [List.getElem_toArray, List.getElem_cons_succ, List.getElem_cons_zero, Act.put, List.setIfInBounds_toArray, List.set_cons_zero, List.set_cons_succ]); go_simp; (try (with_reducible rfl)))
                  try simp only [List.getElem_toArray, List.getElem_cons_succ, List.getElem_cons_zero, Act.put, List.setIfInBounds_toArray, List.set_cons_zero, List.set_cons_succ]
                  refine wpAnyH_take (i := 15) (v := ?vv15_72) rfl (by kernel_rfl) (by kernel_rfl) (by kernel_rfl) (fun _ _ _ h => h) (Or.inl ⟨by rfl, ?yy15_72⟩) (by assumption) ?rr15_72
                  case yy15_72 => (intro w hSw; (try dsimp only at hSw); (try simp only [List.getElem_toArray, List.getElem_cons_succ, List.getElem_cons_zero, Act.put, List.setIfInBounds_toArray, List.set_cons_zero, List.set_cons_succ]); go_simp; (try (with_reducible rfl)))
                  try simp only [List.getElem_toArray, List.getElem_cons_succ, List.getElem_cons_zero, Act.put, List.setIfInBounds_toArray, List.set_cons_zero, List.set_cons_succ]
                  refine wpAnyH_take (i := 16) (v := ?vv16_73) rfl (by kernel_rfl) (by kernel_rfl) (by kernel_rfl) (fun _ _ _ h => h) (Or.inl ⟨by rfl, ?yy16_73⟩) (by assumption) ?rr16_73
                  case yy16_73 => (intro w hSw; (try dsimp only at hSw); (try simp only [List.getElem_toArray, List.getElem_cons_succ, List.getElem_cons_zero, Act.put, List.setIfInBounds_toArray, List.set_cons_zero, List.set_cons_succ]); go_simp; (try (with_reducible rfl)))
                  try simp only [List.getElem_toArray, List.getElem_cons_succ, List.getElem_cons_zero, Act.put, List.setIfInBounds_toArray, List.set_cons_zero, List.set_cons_succ]
                  refine wpAnyH_ready (rs := [12]) (by kernel_rfl) (by simp) ?_
                  refine AllReadyH.cons (o := _) rfl (fun K hK => ?_) AllReadyH.nil
                  try simp only [List.getElem_toArray, List.getElem_cons_succ, List.getElem_cons_zero, Act.put, List.setIfInBounds_toArray, List.set_cons_zero, List.set_cons_succ]
                  go_simp
                  refine (heard_any w.heap.size g1 r6 v6 _ (by exact HR8.out)).mono ?_
                  unfold heardV
                  rintro e w9 ⟨rfl, hb9'⟩
                  have hb9 : Below w8.heap.size w8 w9 := ⟨hb9'.os, hb9'.tape, hb9'.output, hb9'.size, hb9'.block⟩
                  have HR9 := Lib.hid (HR8.out.below hb9)
                  have HD9 := Lib.hid (HD8.out.below hb9)
                  have HO9 : Hid (Own43 w9 b S st m a2 cp) := (hb9.block _ ((Array.getElem?_eq_some_iff.1 HO8.out).1)).trans HO8.out
                  have HB9 := Lib.hid (HB8.out.trans (hb9.mono HB8.out.size))
                  clear hb9 hb9'
                  have c9 : w9.cell? ⟨b, 0, none⟩ = some (.string S) := (cellR HO9.out 0).1
                  have l2 : w9.cell? ⟨gd, 2, none⟩ = some (.bool true) := (cellR HD9.out 2).1.trans (congrArg some HBg.out)
                  have l3 : w9.cell? ⟨gd, 3, none⟩ = some (.string P) := (cellR HD9.out 3).1.trans (congrArg some HPc.out)
                  have l4 : w9.cell? ⟨gd, 4, none⟩ = some (.int .i64 r6.c0) := (cellR HD9.out 4).1
                  have l5 : w9.cell? ⟨gd, 5, none⟩ = some (.int .i64 r6.c1) := (cellR HD9.out 5).1
                  have l6 : w9.cell? ⟨gd, 6, none⟩ = some (.int .i64 r6.c2) := (cellR HD9.out 6).1
                  have l7 : w9.cell? ⟨gd, 7, none⟩ = some (.int .i64 r6.c3) := (cellR HD9.out 7).1
                  have l8 : w9.cell? ⟨gd, 8, none⟩ = some (.int .i64 r6.c4) := (cellR HD9.out 8).1
                  refine hK.out _ _ ⟨c9, l2, l3, l4, l5, l6, l7, l8⟩ (fun hHeld => ?_)
                  clear hK K
                  try simp only [List.getElem_toArray, List.getElem_cons_succ, List.getElem_cons_zero, Act.put, List.setIfInBounds_toArray, List.set_cons_zero, List.set_cons_succ]
                  refine wpAnyH_take (i := 17) (v := ?vv17_74) rfl (by kernel_rfl) (by kernel_rfl) (by kernel_rfl) (fun _ _ _ h => h) (Or.inl ⟨by rfl, ?yy17_74⟩) (by assumption) ?rr17_74
                  case yy17_74 => (intro w hSw; (try dsimp only at hSw); (try simp only [List.getElem_toArray, List.getElem_cons_succ, List.getElem_cons_zero, Act.put, List.setIfInBounds_toArray, List.set_cons_zero, List.set_cons_succ]); go_simp; (try (with_reducible rfl)))
                  try simp only [List.getElem_toArray, List.getElem_cons_succ, List.getElem_cons_zero, Act.put, List.setIfInBounds_toArray, List.set_cons_zero, List.set_cons_succ]
                  refine wpAnyH_take (i := 18) (v := ?vv18_75) rfl (by kernel_rfl) (by kernel_rfl) (by kernel_rfl) (fun _ _ _ h => h) (Or.inl ⟨by rfl, ?yy18_75⟩) (by assumption) ?rr18_75
                  case yy18_75 => (intro w hSw; (try dsimp only at hSw); (try simp only [List.getElem_toArray, List.getElem_cons_succ, List.getElem_cons_zero, Act.put, List.setIfInBounds_toArray, List.set_cons_zero, List.set_cons_succ]); go_simp; (try (with_reducible rfl)))
                  try simp only [List.getElem_toArray, List.getElem_cons_succ, List.getElem_cons_zero, Act.put, List.setIfInBounds_toArray, List.set_cons_zero, List.set_cons_succ]
                  refine wpAnyH_take (i := 19) (v := ?vv19_76) rfl (by kernel_rfl) (by kernel_rfl) (by kernel_rfl) (fun _ _ _ h => h) (Or.inl ⟨by rfl, ?yy19_76⟩) (by assumption) ?rr19_76
                  case yy19_76 => (intro w hSw; (try dsimp only at hSw); (try simp only [List.getElem_toArray, List.getElem_cons_succ, List.getElem_cons_zero, Act.put, List.setIfInBounds_toArray, List.set_cons_zero, List.set_cons_succ]); go_simp; (try (with_reducible rfl)))
                  try simp only [List.getElem_toArray, List.getElem_cons_succ, List.getElem_cons_zero, Act.put, List.setIfInBounds_toArray, List.set_cons_zero, List.set_cons_succ]
                  refine wpAnyH_take (i := 20) (v := ?vv20_77) rfl (by kernel_rfl) (by kernel_rfl) (by kernel_rfl) (fun _ _ _ h => h) (Or.inl ⟨by rfl, ?yy20_77⟩) (by assumption) ?rr20_77
                  case yy20_77 => (intro w hSw; (try dsimp only at hSw); (try simp only [List.getElem_toArray, List.getElem_cons_succ, List.getElem_cons_zero, Act.put, List.setIfInBounds_toArray, List.set_cons_zero, List.set_cons_succ]); go_simp; (try (with_reducible rfl)))
                  try simp only [List.getElem_toArray, List.getElem_cons_succ, List.getElem_cons_zero, Act.put, List.setIfInBounds_toArray, List.set_cons_zero, List.set_cons_succ]
                  refine wpAnyH_take (i := 22) (v := ?vv22_78) rfl (by kernel_rfl) (by kernel_rfl) (by kernel_rfl) (fun _ _ _ h => h) (Or.inl ⟨by rfl, ?yy22_78⟩) (by assumption) ?rr22_78
                  case yy22_78 => (intro w hSw; (try dsimp only at hSw); (try simp only [List.getElem_toArray, List.getElem_cons_succ, List.getElem_cons_zero, Act.put, List.setIfInBounds_toArray, List.set_cons_zero, List.set_cons_succ]); go_simp; (try (with_reducible rfl)))
                  try simp only [List.getElem_toArray, List.getElem_cons_succ, List.getElem_cons_zero, Act.put, List.setIfInBounds_toArray, List.set_cons_zero, List.set_cons_succ]
                  refine wpAnyH_take (i := 23) (v := ?vv23_79) rfl (by kernel_rfl) (by kernel_rfl) (by kernel_rfl) (fun _ _ _ h => h) (Or.inl ⟨by rfl, ?yy23_79⟩) (by assumption) ?rr23_79
                  case yy23_79 => (intro w hSw; (try dsimp only at hSw); (try simp only [List.getElem_toArray, List.getElem_cons_succ, List.getElem_cons_zero, Act.put, List.setIfInBounds_toArray, List.set_cons_zero, List.set_cons_succ]); go_simp; (try (with_reducible rfl)))
                  try simp only [List.getElem_toArray, List.getElem_cons_succ, List.getElem_cons_zero, Act.put, List.setIfInBounds_toArray, List.set_cons_zero, List.set_cons_succ]
                  refine wpAnyH_take (i := 24) (v := ?vv24_80) rfl (by kernel_rfl) (by kernel_rfl) (by kernel_rfl) (fun _ _ _ h => h) (Or.inl ⟨by rfl, ?yy24_80⟩) (by assumption) ?rr24_80
                  case yy24_80 => (intro w hSw; (try dsimp only at hSw); (try simp only [List.getElem_toArray, List.getElem_cons_succ, List.getElem_cons_zero, Act.put, List.setIfInBounds_toArray, List.set_cons_zero, List.set_cons_succ]); go_simp; (try (with_reducible rfl)))
                  try simp only [List.getElem_toArray, List.getElem_cons_succ, List.getElem_cons_zero, Act.put, List.setIfInBounds_toArray, List.set_cons_zero, List.set_cons_succ]
                  refine wpAnyH_take (i := 25) (v := ?vv25_81) rfl (by kernel_rfl) (by kernel_rfl) (by kernel_rfl) (fun _ _ _ h => h) (Or.inl ⟨by rfl, ?yy25_81⟩) (by assumption) ?rr25_81
                  case yy25_81 => (intro w hSw; (try dsimp only at hSw); (try simp only [List.getElem_toArray, List.getElem_cons_succ, List.getElem_cons_zero, Act.put, List.setIfInBounds_toArray, List.set_cons_zero, List.set_cons_succ]); go_simp; (try (with_reducible rfl)))
                  try simp only [List.getElem_toArray, List.getElem_cons_succ, List.getElem_cons_zero, Act.put, List.setIfInBounds_toArray, List.set_cons_zero, List.set_cons_succ]
                  refine wpAnyH_ready (rs := [21]) (by kernel_rfl) (by simp) ?_
                  refine AllReadyH.cons (o := _) rfl (fun K hK => ?_) AllReadyH.nil
                  try simp only [List.getElem_toArray, List.getElem_cons_succ, List.getElem_cons_zero, Act.put, List.setIfInBounds_toArray, List.set_cons_zero, List.set_cons_succ]
                  go_simp
                  refine (inside_any w.heap.size g1 r6 v6 _ (by exact HR9.out)).mono ?_
                  rw [HIn.out]
                  rintro e w10 ⟨rfl, rfl⟩
                  refine hK.out _ _ ⟨c9, l2, l3, l4, l5, l6, l7, l8⟩ (fun hHeld => ?_)
                  clear hK K
                  try simp only [List.getElem_toArray, List.getElem_cons_succ, List.getElem_cons_zero, Act.put, List.setIfInBounds_toArray, List.set_cons_zero, List.set_cons_succ]
                  refine wpAnyH_take (i := 26) (v := ?vv26_82) rfl (by kernel_rfl) (by kernel_rfl) (by kernel_rfl) (fun _ _ _ h => h) (Or.inl ⟨by rfl, ?yy26_82⟩) (by assumption) ?rr26_82
                  case yy26_82 => (intro w hSw; (try dsimp only at hSw); (try simp only [List.getElem_toArray, List.getElem_cons_succ, List.getElem_cons_zero, Act.put, List.setIfInBounds_toArray, List.set_cons_zero, List.set_cons_succ]); go_simp; (try (with_reducible rfl)))
                  try simp only [List.getElem_toArray, List.getElem_cons_succ, List.getElem_cons_zero, Act.put, List.setIfInBounds_toArray, List.set_cons_zero, List.set_cons_succ]
                  refine wpAnyH_take (i := 27) (v := ?vv27_83) rfl (by kernel_rfl) (by kernel_rfl) (by kernel_rfl) (fun _ _ _ h => h) (Or.inl ⟨by rfl, ?yy27_83⟩) (by assumption) ?rr27_83
                  case yy27_83 => (intro w hSw; (try dsimp only at hSw); (try simp only [List.getElem_toArray, List.getElem_cons_succ, List.getElem_cons_zero, Act.put, List.setIfInBounds_toArray, List.set_cons_zero, List.set_cons_succ]); go_simp; (try (with_reducible rfl)))
                  try simp only [List.getElem_toArray, List.getElem_cons_succ, List.getElem_cons_zero, Act.put, List.setIfInBounds_toArray, List.set_cons_zero, List.set_cons_succ]
                  refine wpAnyH_take (i := 28) (v := ?vv28_84) rfl (by kernel_rfl) (by kernel_rfl) (by kernel_rfl) (fun _ _ _ h => h) (Or.inl ⟨by rfl, ?yy28_84⟩) (by assumption) ?rr28_84
                  case yy28_84 => (intro w hSw; (try dsimp only at hSw); (try simp only [List.getElem_toArray, List.getElem_cons_succ, List.getElem_cons_zero, Act.put, List.setIfInBounds_toArray, List.set_cons_zero, List.set_cons_succ]); go_simp; (try (with_reducible rfl)))
                  try simp only [List.getElem_toArray, List.getElem_cons_succ, List.getElem_cons_zero, Act.put, List.setIfInBounds_toArray, List.set_cons_zero, List.set_cons_succ]
                  refine wpAnyH_take (i := 29) (v := ?vv29_85) rfl (by kernel_rfl) (by kernel_rfl) (by kernel_rfl) (fun _ _ _ h => h) (Or.inl ⟨by rfl, ?yy29_85⟩) (by assumption) ?rr29_85
                  case yy29_85 => (intro w hSw; (try dsimp only at hSw); (try simp only [List.getElem_toArray, List.getElem_cons_succ, List.getElem_cons_zero, Act.put, List.setIfInBounds_toArray, List.set_cons_zero, List.set_cons_succ]); go_simp; (try (with_reducible rfl)))
                  try simp only [List.getElem_toArray, List.getElem_cons_succ, List.getElem_cons_zero, Act.put, List.setIfInBounds_toArray, List.set_cons_zero, List.set_cons_succ]
                  refine wpAnyH_take (i := 30) (v := ?vv30_86) rfl (by kernel_rfl) (by kernel_rfl) (by kernel_rfl) (fun _ _ _ h => h) (Or.inl ⟨by rfl, ?yy30_86⟩) (by assumption) ?rr30_86
                  case yy30_86 => (intro w hSw; (try dsimp only at hSw); (try simp only [List.getElem_toArray, List.getElem_cons_succ, List.getElem_cons_zero, Act.put, List.setIfInBounds_toArray, List.set_cons_zero, List.set_cons_succ]); go_simp; (try (with_reducible rfl)))
                  try simp only [List.getElem_toArray, List.getElem_cons_succ, List.getElem_cons_zero, Act.put, List.setIfInBounds_toArray, List.set_cons_zero, List.set_cons_succ]
                  refine wpAnyH_take (i := 31) (v := ?vv31_87) rfl (by kernel_rfl) (by kernel_rfl) (by kernel_rfl) (fun _ _ _ h => h) (Or.inl ⟨by rfl, ?yy31_87⟩) (by assumption) ?rr31_87
                  case yy31_87 => (intro w hSw; (try dsimp only at hSw); (try simp only [List.getElem_toArray, List.getElem_cons_succ, List.getElem_cons_zero, Act.put, List.setIfInBounds_toArray, List.set_cons_zero, List.set_cons_succ]); go_simp; (try (with_reducible rfl)))
                  try simp only [List.getElem_toArray, List.getElem_cons_succ, List.getElem_cons_zero, Act.put, List.setIfInBounds_toArray, List.set_cons_zero, List.set_cons_succ]
                  refine wpAnyH_take (i := 32) (v := ?vv32_88) rfl (by kernel_rfl) (by kernel_rfl) (by kernel_rfl) (fun _ _ _ h => h) (Or.inl ⟨by rfl, ?yy32_88⟩) (by assumption) ?rr32_88
                  case yy32_88 => (intro w hSw; (try dsimp only at hSw); (try simp only [List.getElem_toArray, List.getElem_cons_succ, List.getElem_cons_zero, Act.put, List.setIfInBounds_toArray, List.set_cons_zero, List.set_cons_succ]); go_simp; (try (with_reducible rfl)))
                  try simp only [List.getElem_toArray, List.getElem_cons_succ, List.getElem_cons_zero, Act.put, List.setIfInBounds_toArray, List.set_cons_zero, List.set_cons_succ]
                  refine wpAnyH_take (i := 33) (v := ?vv33_89) rfl (by kernel_rfl) (by kernel_rfl) (by kernel_rfl) (fun _ _ _ h => h) (Or.inl ⟨by rfl, ?yy33_89⟩) (by assumption) ?rr33_89
                  case yy33_89 => (intro w hSw; (try dsimp only at hSw); (try simp only [List.getElem_toArray, List.getElem_cons_succ, List.getElem_cons_zero, Act.put, List.setIfInBounds_toArray, List.set_cons_zero, List.set_cons_succ]); go_simp; (try (with_reducible rfl)))
                  try simp only [List.getElem_toArray, List.getElem_cons_succ, List.getElem_cons_zero, Act.put, List.setIfInBounds_toArray, List.set_cons_zero, List.set_cons_succ]
                  refine wpAnyH_take (i := 34) (v := ?vv34_90) rfl (by kernel_rfl) (by kernel_rfl) (by kernel_rfl) (fun _ _ _ h => h) (Or.inl ⟨by rfl, ?yy34_90⟩) (by assumption) ?rr34_90
                  case yy34_90 => (intro w hSw; (try dsimp only at hSw); (try simp only [List.getElem_toArray, List.getElem_cons_succ, List.getElem_cons_zero, Act.put, List.setIfInBounds_toArray, List.set_cons_zero, List.set_cons_succ]); go_simp; (try (with_reducible rfl)))
                  try simp only [List.getElem_toArray, List.getElem_cons_succ, List.getElem_cons_zero, Act.put, List.setIfInBounds_toArray, List.set_cons_zero, List.set_cons_succ]
                  refine wpAnyH_done (by kernel_rfl) ?_ _
                  go_wp2_with fail
                  go_roundg (n - (k + 1))
                  case measure => rw [Hgk.out]; omega
                  case rel => exact ⟨k + 1, g1, r6, v6, by omega, rfl, by go_num, rfl, HR9.out, HD9.out, HI6.out, HN6.out, by omega, HB9.out, hgd⟩
          · go_wp2_with fail
            refine (alive_any _).mono ?_
            rintro e w6 ⟨rfl, hb6⟩
            go_wp2
            go_ret
            exact ⟨rfl, HP.out.2.2.2.2.2.1.trans (hb6.mono HP.out.2.2.2.2.2.1.size)⟩

set_option maxRecDepth 100000 in
theorem lifted (os : Os) (started : os.Started) (H : Type) (enc : TypeId × Value → H) :
    ReturnsInHanded {} Try.checked os 3 .any (Rows.hdlcPlaysSpec.pre6 enc Try.prog Try.f3 Rows.hdlcPlaysRow.domain false) (Rows.hdlcPlaysSpec.post enc Try.prog Try.f3 false true false false) := by
  refine returnsInHanded_of_change_sized (C := Try.checked) own started (by kernel_rfl) Try.func3
    (ChangeSpec.witness6 (enc := enc) (C := Try.checked) false ⟨#[], #[.int .i64 0, .int .u32 0, .slice none 0 0, .string ByteArray.empty], []⟩ 8 (by kernel_rfl) (by kernel_rfl) (by kernel_rfl) (by kernel_rfl)) ?_
  intro W base args ds gs before hval0 hW hcnd hsz0 _
  have hsz : (DataW.weightsEach Try.prog (Try.f3.params.toList ++ Rows.hdlcPlaysSpec.plain.varTypes Try.prog) (ds ++ gs)).all (· ≤ reachBytes) = true := hsz0
  have hval : ∀ (j : Nat) t v, Try.f3.params[j]? = some t → args[j]? = some v → Value.okWide Try.prog W .any base t v := hval0
  have hW' := hW
  obtain ⟨p, q, hA0, hV, rfl, hfz, hnd⟩ := hW
  have hlt := hW'.lt
  have hA : DataW.TrodAll enc Try.prog W 0 (fun _ => true) true Try.f3.params.toList args.toList ds p := hA0
  rw [Try.params3] at hA hval hsz
  obtain ⟨v0, vs0, d0, ds0, p0, q0, hargs, rfl, rfl, h0, r0⟩ := trodAll_cons hA
  obtain ⟨v1, vs1, d1, ds1, p1, q1, rfl, rfl, rfl, h1, r1⟩ := trodAll_cons r0
  obtain ⟨v2, vs2, d2, ds2, p2, q2, rfl, rfl, rfl, h2, r2⟩ := trodAll_cons r1
  obtain ⟨v3, vs3, d3, ds3, p3, q3, rfl, rfl, rfl, h3, r3⟩ := trodAll_cons r2
  obtain ⟨rfl, rfl, rfl⟩ := trodAll_nil r3
  obtain rfl : args = #[v0, v1, v2, v3] := by cases args; simp_all
  obtain ⟨rfl, rfl⟩ := trodVars_none hV
  obtain ⟨a0, rfl, rfl, rfl, w0⟩ := open_int Try.underlying3 (hval 0 3 v0 rfl rfl) h0
  obtain ⟨z1, rfl, rfl, rfl, w1⟩ := open_int Try.underlying22 (hval 1 22 v1 rfl rfl) h1
  obtain ⟨a1, rfl⟩ : ∃ n : Nat, z1 = n := ⟨z1.toNat, by have := bounds_u32 w1; omega⟩
  have b1 := bounds_u32 w1
  obtain ⟨A2, n2, c2, rfl, m2, hT2⟩ := steps_of Try.underlying23 Try.underlying43 (by kernel_rfl) (by kernel_rfl) Try.underlying9 Try.underlying4 Try.underlying3 Try.underlying22 Try.underlying4 (hval 2 23 v2 rfl rfl) h2 (fun n hn => of_decide_eq_true (List.all_eq_true.1 hsz n (DataW.weights_mem_each (j := 2) (t := 23) rfl rfl n hn)))
  obtain ⟨a3, rfl, rfl, rfl, w3⟩ := open_string Try.underlying9 (hval 3 9 v3 rfl rfl) h3
  have z3 : a3.size ≤ 140737488351232 := by have h := sized_string hsz (j := 3) (t := 9) rfl rfl; rw [Array.length_toList] at h; exact h
  clear hA0 hval0 hsz0
  exact (walk a0 a1 A2 n2 c2 a3 (by omega) m2 w3 W hT2).mono fun e W' ⟨he, hb⟩ => ⟨_, he, law_post (t := 4) laidOut (by kernel_rfl) rfl rfl Try.underlying4 ⟨rfl, rfl, rfl⟩ hW' hb⟩

theorem over : Rows.hdlcPlaysRow.holds Try.pinned (OpenSpec.ofChange Rows.hdlcPlaysSpec) :=
  OpenClaim.holds_of_wide 3 Try.f3 rfl rfl rfl rfl rfl rfl rfl ⟨rfl, rfl, rfl, rfl, rfl⟩ rfl rfl rfl rfl rfl (by kernel_rfl) Try.func3 (by kernel_rfl)
    (of_decide_eq_true (by kernel_rfl)) (by unfold Func.isWrapper; first | (rw [if_pos (by decide +kernel)]; kernel_rfl) | (rw [if_neg (by decide +kernel)]; exact ⟨rfl, rfl⟩))
    (fun os started H enc _ => lifted os started H enc)

theorem proved : Rows.HdlcPlaysSaid :=
  over
#print axioms proved
end Go.Proofs.Ytfcmpnfdgfdclaa.HdlcPlays
