/- PROVED: 'halyardlaw08.OptionJoins' returns true for every two rows, and leaves them as they were. No condition. -/
import Derived.Test.YtbmifcfgpmgcpaaOptK
import Derived.Test.YtbmifcfgpmgcpaaLaw
import Derived.Test.YtbmifcfgpmgcpaaRows
import Derived.SizedLaws
namespace Go.Proofs.Ytbmifcfgpmgcpaa.OptionJoins
open Go.ChangeShapes Go.WideShapes Go.ChangeAt Go.RowKit Go.Proofs.Ytbmifcfgpmgcpaa.Oct Go.Proofs.Ytbmifcfgpmgcpaa.Row Go.Proofs.Ytbmifcfgpmgcpaa.Mem Go.Proofs.Ytbmifcfgpmgcpaa.Opt Go.Proofs.Ytbmifcfgpmgcpaa.Law
open Go.ChangeMaps (open_string shut_string)

theorem join_ok (l m : List Opt) (hl : pE l = 0) (hm : pE m = 0) (h : l.length + m.length ≤ 64) (hw : (bOf (pA l)).size + (bOf (pA m)).size ≤ 1496) : pE (l ++ m) = 0 ∧ bOf (pA (l ++ m)) = bOf (pA l) ++ bOf (pA m) := by
  rw [size_bOf, size_bOf, pA_yes hl, pA_yes hm, enc_length, enc_length] at hw
  obtain ⟨h1, h2⟩ := pE_both l m hl hm h hw
  exact ⟨h1, by rw [append_bOf, toList_bOf, toList_bOf, h2]⟩
theorem join_long (l m : List Opt) (hl : pE l = 0) (hm : pE m = 0) (h : l.length + m.length ≤ 64) (hw : 1496 < (bOf (pA l)).size + (bOf (pA m)).size) : pE (l ++ m) = 5 := by
  rw [size_bOf, size_bOf, pA_yes hl, pA_yes hm, enc_length, enc_length] at hw
  exact pE_long l m hl hm h hw
theorem ne_zero' {e : Nat} (h : ¬ e = 0) : ((e : Int) != 0) = true := ne_zero h
set_option maxHeartbeats 4000000 in
set_option maxRecDepth 100000 in
theorem walk (A A' : Option Addr) (n c n' c' : Nat) (l m : List Opt) (hn : n ≤ maxLen) (hn' : n' ≤ maxLen) (hA : A = none → c = 0) (hA' : A' = none → c' = 0) (w : World) (hl : Opts w w.heap.size A n l) (hm : Opts w w.heap.size A' n' m) :
    Calls Try.prog 5 #[.slice A n c, .slice A' n' c'] w fun e w' => e = .returned (.bool true) ∧ Below w.heap.size w w' := by
  obtain ⟨i0, hi, hz0, hz1, hz2⟩ := info_parts Try.info32
  have HH := Lib.hid (Below.refl w.heap.size w)
  have HL := Lib.hid hl
  have HM := Lib.hid hm
  have HAA := Lib.hid hA
  have HAB := Lib.hid hA'
  have Hll := Lib.hid hl.1
  have Hml := Lib.hid hm.1
  clear hl hm hA hA'
  go_enter Try.func5, Try.ntmps5
  go_wp2_with fail
  refine (long_row l A n c _ HL.out hn).mono ?_
  rintro e w' ⟨b, rfl, hq1, rfl⟩
  cases b
  case true =>
    clear hq1
    go_wp2_with fail
    refine (alive_any _).mono ?_
    rintro e w1 ⟨rfl, hb1⟩
    have HL := Lib.hid (HL.out.next hb1)
    have HM := Lib.hid (HM.out.next hb1)
    have HH := Lib.hid (HH.out.trans (hb1.mono HH.out.size))
    clear hb1
    go_wp2
    go_ret
    exact ⟨rfl, HH.out⟩
  case false =>
    obtain ⟨hn70, hd⟩ := hq1 rfl
    clear hq1 hd
    go_wp2_with fail
    refine (long_row m A' n' c' _ HM.out hn').mono ?_
    rintro e w' ⟨b, rfl, hq2, rfl⟩
    cases b
    case true =>
      clear hq2
      go_wp2_with fail
      refine (alive_any _).mono ?_
      rintro e w1 ⟨rfl, hb1⟩
      have HL := Lib.hid (HL.out.next hb1)
      have HM := Lib.hid (HM.out.next hb1)
      have HH := Lib.hid (HH.out.trans (hb1.mono HH.out.size))
      clear hb1
      go_wp2
      go_ret
      exact ⟨rfl, HH.out⟩
    case false =>
      obtain ⟨hn70', hd⟩ := hq2 rfl
      clear hq2 hd
      by_cases he : pE l = 0 ∧ pE m = 0
      · obtain ⟨h1, h2⟩ := he
        have H1 := Lib.hid h1
        have H2 := Lib.hid h2
        by_cases hfull : 64 < n + n'
        · have H3 := Lib.hid (pE_full l m (by rw [Hll.out, Hml.out]; exact hfull))
          have hx1 : (64 : Int) < (n : Int) + (n' : Int) := by omega
          clear h1 h2
          go_wp2_with fail
          refine (put_row l A n c _ HL.out hn).mono ?_
          rintro e w1 ⟨rfl, hb1⟩
          have HL := Lib.hid (HL.out.next hb1)
          have HM := Lib.hid (HM.out.next hb1)
          have HH := Lib.hid (HH.out.trans (hb1.mono HH.out.size))
          clear hb1
          go_wp2_with fail
          refine (put_row m A' n' c' _ HM.out hn').mono ?_
          rintro e w2 ⟨rfl, hb2⟩
          have HL := Lib.hid (HL.out.next hb2)
          have HM := Lib.hid (HM.out.next hb2)
          have HH := Lib.hid (HH.out.trans (hb2.mono HH.out.size))
          clear hb2
          have hsz := HH.out.size
          go_wp2_with (first
            | (at_builtin; refine append_opts rfl _ _ 22 rfl w.heap.size 32 i0 _ 24 Try.underlying22 hi hz0 hz1 hz2 rfl (.slice none 0 0) 0 [] rfl (World.ownsRow_nil _ _ _ _) w2.heap.size A n c l HAA.out rfl HL.out (by unfold maxLen; omega) (by omega) hsz ?_; intro v3 w3 hown3 hgr3; have HO3 := Lib.hid hown3; have hb3 := HH.out.grown hgr3 hsz (fun q hq => by cases hq); have HB3 := Lib.hid hb3; have hsz3 := hb3.size; have HM3 := Lib.hid (HM.out.below ((Below.refl w2.heap.size w2).grown hgr3 (Nat.le_refl _) (fun q hq => by cases hq))); clear hown3 hgr3 hb3)
            | (at_builtin; refine append_opts rfl _ _ 22 rfl w.heap.size 32 i0 _ 24 Try.underlying22 hi hz0 hz1 hz2 rfl v3 (0 + n) ([] ++ l) rfl HO3.out w2.heap.size A' n' c' m HAB.out rfl HM3.out (by unfold maxLen; omega) (by omega) hsz3 ?_; intro v4 w4 hown4 hgr4; rw [List.nil_append, Nat.zero_add] at hown4; have hz4 : ∀ o ∈ l ++ m, o.2.size ≤ 140737488351232 := (fun o ho => (List.mem_append.1 ho).elim (fun h => HL.out.2.1 o h) (fun h => HM.out.2.1 o h)); obtain ⟨A4, c4, rfl, hO4⟩ := opts_own hown4 hz4; have HO4 := Lib.hid hO4; have HH4 := Lib.hid (HB3.out.grown hgr4 hsz3 (fun q hq => (HO3.out.lt q hq).1)); clear hown4 hgr4 hO4 hz4))
          refine (put_row (l ++ m) A4 (n + n') c4 _ HO4.out (by unfold maxLen; omega)).mono ?_
          rintro e w5 ⟨rfl, hb5⟩
          have HH := Lib.hid (HH4.out.trans (hb5.mono HH4.out.size))
          clear hb5 HL HM HM3 HO3 HO4 HB3 HH4 hsz hsz3
          rw [H1.out, H2.out, H3.out]
          go_wp2_with fail
          refine (alive_any _).mono ?_
          rintro e w7 ⟨rfl, hb7⟩
          have HH := Lib.hid (HH.out.trans (hb7.mono HH.out.size))
          clear hb7
          go_wp2
          go_ret
          exact ⟨rfl, HH.out⟩
        · have hx1 : ¬ (64 : Int) < (n : Int) + (n' : Int) := by omega
          by_cases hlo : 1496 < (bOf (pA l)).size + (bOf (pA m)).size
          · have H3 := Lib.hid (join_long l m h1 h2 (by rw [Hll.out, Hml.out]; omega) hlo)
            have hx2 : (1496 : Int) < ((bOf (pA l)).size : Int) + ((bOf (pA m)).size : Int) := by omega
            have hs1 : (bOf (pA l)).size ≤ 1496 := by rw [size_bOf]; exact pA_le l
            have hs2 : (bOf (pA m)).size ≤ 1496 := by rw [size_bOf]; exact pA_le m
            clear h1 h2
            go_wp2_with fail
            refine (put_row l A n c _ HL.out hn).mono ?_
            rintro e w1 ⟨rfl, hb1⟩
            have HL := Lib.hid (HL.out.next hb1)
            have HM := Lib.hid (HM.out.next hb1)
            have HH := Lib.hid (HH.out.trans (hb1.mono HH.out.size))
            clear hb1
            go_wp2_with fail
            refine (put_row m A' n' c' _ HM.out hn').mono ?_
            rintro e w2 ⟨rfl, hb2⟩
            have HL := Lib.hid (HL.out.next hb2)
            have HM := Lib.hid (HM.out.next hb2)
            have HH := Lib.hid (HH.out.trans (hb2.mono HH.out.size))
            clear hb2
            have hsz := HH.out.size
            go_wp2_with (first
              | (at_builtin; refine append_opts rfl _ _ 22 rfl w.heap.size 32 i0 _ 24 Try.underlying22 hi hz0 hz1 hz2 rfl (.slice none 0 0) 0 [] rfl (World.ownsRow_nil _ _ _ _) w2.heap.size A n c l HAA.out rfl HL.out (by unfold maxLen; omega) (by omega) hsz ?_; intro v3 w3 hown3 hgr3; have HO3 := Lib.hid hown3; have hb3 := HH.out.grown hgr3 hsz (fun q hq => by cases hq); have HB3 := Lib.hid hb3; have hsz3 := hb3.size; have HM3 := Lib.hid (HM.out.below ((Below.refl w2.heap.size w2).grown hgr3 (Nat.le_refl _) (fun q hq => by cases hq))); clear hown3 hgr3 hb3)
              | (at_builtin; refine append_opts rfl _ _ 22 rfl w.heap.size 32 i0 _ 24 Try.underlying22 hi hz0 hz1 hz2 rfl v3 (0 + n) ([] ++ l) rfl HO3.out w2.heap.size A' n' c' m HAB.out rfl HM3.out (by unfold maxLen; omega) (by omega) hsz3 ?_; intro v4 w4 hown4 hgr4; rw [List.nil_append, Nat.zero_add] at hown4; have hz4 : ∀ o ∈ l ++ m, o.2.size ≤ 140737488351232 := (fun o ho => (List.mem_append.1 ho).elim (fun h => HL.out.2.1 o h) (fun h => HM.out.2.1 o h)); obtain ⟨A4, c4, rfl, hO4⟩ := opts_own hown4 hz4; have HO4 := Lib.hid hO4; have HH4 := Lib.hid (HB3.out.grown hgr4 hsz3 (fun q hq => (HO3.out.lt q hq).1)); clear hown4 hgr4 hO4 hz4))
            refine (put_row (l ++ m) A4 (n + n') c4 _ HO4.out (by unfold maxLen; omega)).mono ?_
            rintro e w5 ⟨rfl, hb5⟩
            have HH := Lib.hid (HH4.out.trans (hb5.mono HH4.out.size))
            clear hb5 HL HM HM3 HO3 HO4 HB3 HH4 hsz hsz3
            rw [H1.out, H2.out, H3.out]
            go_wp2_with fail
            refine (alive_any _).mono ?_
            rintro e w7 ⟨rfl, hb7⟩
            have HH := Lib.hid (HH.out.trans (hb7.mono HH.out.size))
            clear hb7
            go_wp2
            go_ret
            exact ⟨rfl, HH.out⟩
          · have H3 := Lib.hid (join_ok l m h1 h2 (by rw [Hll.out, Hml.out]; omega) (by omega))
            have hx2 : ¬ (1496 : Int) < ((bOf (pA l)).size : Int) + ((bOf (pA m)).size : Int) := by omega
            have hs1 : (bOf (pA l)).size ≤ 1496 := by rw [size_bOf]; exact pA_le l
            have hs2 : (bOf (pA m)).size ≤ 1496 := by rw [size_bOf]; exact pA_le m
            have hx3 := beq_self (bOf (pA l) ++ bOf (pA m))
            clear h1 h2
            go_wp2_with fail
            refine (put_row l A n c _ HL.out hn).mono ?_
            rintro e w1 ⟨rfl, hb1⟩
            have HL := Lib.hid (HL.out.next hb1)
            have HM := Lib.hid (HM.out.next hb1)
            have HH := Lib.hid (HH.out.trans (hb1.mono HH.out.size))
            clear hb1
            go_wp2_with fail
            refine (put_row m A' n' c' _ HM.out hn').mono ?_
            rintro e w2 ⟨rfl, hb2⟩
            have HL := Lib.hid (HL.out.next hb2)
            have HM := Lib.hid (HM.out.next hb2)
            have HH := Lib.hid (HH.out.trans (hb2.mono HH.out.size))
            clear hb2
            have hsz := HH.out.size
            go_wp2_with (first
              | (at_builtin; refine append_opts rfl _ _ 22 rfl w.heap.size 32 i0 _ 24 Try.underlying22 hi hz0 hz1 hz2 rfl (.slice none 0 0) 0 [] rfl (World.ownsRow_nil _ _ _ _) w2.heap.size A n c l HAA.out rfl HL.out (by unfold maxLen; omega) (by omega) hsz ?_; intro v3 w3 hown3 hgr3; have HO3 := Lib.hid hown3; have hb3 := HH.out.grown hgr3 hsz (fun q hq => by cases hq); have HB3 := Lib.hid hb3; have hsz3 := hb3.size; have HM3 := Lib.hid (HM.out.below ((Below.refl w2.heap.size w2).grown hgr3 (Nat.le_refl _) (fun q hq => by cases hq))); clear hown3 hgr3 hb3)
              | (at_builtin; refine append_opts rfl _ _ 22 rfl w.heap.size 32 i0 _ 24 Try.underlying22 hi hz0 hz1 hz2 rfl v3 (0 + n) ([] ++ l) rfl HO3.out w2.heap.size A' n' c' m HAB.out rfl HM3.out (by unfold maxLen; omega) (by omega) hsz3 ?_; intro v4 w4 hown4 hgr4; rw [List.nil_append, Nat.zero_add] at hown4; have hz4 : ∀ o ∈ l ++ m, o.2.size ≤ 140737488351232 := (fun o ho => (List.mem_append.1 ho).elim (fun h => HL.out.2.1 o h) (fun h => HM.out.2.1 o h)); obtain ⟨A4, c4, rfl, hO4⟩ := opts_own hown4 hz4; have HO4 := Lib.hid hO4; have HH4 := Lib.hid (HB3.out.grown hgr4 hsz3 (fun q hq => (HO3.out.lt q hq).1)); clear hown4 hgr4 hO4 hz4))
            refine (put_row (l ++ m) A4 (n + n') c4 _ HO4.out (by unfold maxLen; omega)).mono ?_
            rintro e w5 ⟨rfl, hb5⟩
            have HH := Lib.hid (HH4.out.trans (hb5.mono HH4.out.size))
            clear hb5 HL HM HM3 HO3 HO4 HB3 HH4 hsz hsz3
            rw [H1.out, H2.out, H3.out.1, H3.out.2]
            go_wp2_with fail
            refine (alive_any _).mono ?_
            rintro e w7 ⟨rfl, hb7⟩
            have HH := Lib.hid (HH.out.trans (hb7.mono HH.out.size))
            clear hb7
            go_wp2
            go_ret
            exact ⟨rfl, HH.out⟩
      · have H3 := Lib.hid (ne_zero (pE_join l m (by omega)))
        by_cases h1 : pE l = 0
        · have H1 := Lib.hid h1
          have H2 := Lib.hid (ne_zero (show ¬ pE m = 0 by omega))
          clear h1 he
          go_wp2_with fail
          refine (put_row l A n c _ HL.out hn).mono ?_
          rintro e w1 ⟨rfl, hb1⟩
          have HL := Lib.hid (HL.out.next hb1)
          have HM := Lib.hid (HM.out.next hb1)
          have HH := Lib.hid (HH.out.trans (hb1.mono HH.out.size))
          clear hb1
          go_wp2_with fail
          refine (put_row m A' n' c' _ HM.out hn').mono ?_
          rintro e w2 ⟨rfl, hb2⟩
          have HL := Lib.hid (HL.out.next hb2)
          have HM := Lib.hid (HM.out.next hb2)
          have HH := Lib.hid (HH.out.trans (hb2.mono HH.out.size))
          clear hb2
          have hsz := HH.out.size
          go_wp2_with (first
            | (at_builtin; refine append_opts rfl _ _ 22 rfl w.heap.size 32 i0 _ 24 Try.underlying22 hi hz0 hz1 hz2 rfl (.slice none 0 0) 0 [] rfl (World.ownsRow_nil _ _ _ _) w2.heap.size A n c l HAA.out rfl HL.out (by unfold maxLen; omega) (by omega) hsz ?_; intro v3 w3 hown3 hgr3; have HO3 := Lib.hid hown3; have hb3 := HH.out.grown hgr3 hsz (fun q hq => by cases hq); have HB3 := Lib.hid hb3; have hsz3 := hb3.size; have HM3 := Lib.hid (HM.out.below ((Below.refl w2.heap.size w2).grown hgr3 (Nat.le_refl _) (fun q hq => by cases hq))); clear hown3 hgr3 hb3)
            | (at_builtin; refine append_opts rfl _ _ 22 rfl w.heap.size 32 i0 _ 24 Try.underlying22 hi hz0 hz1 hz2 rfl v3 (0 + n) ([] ++ l) rfl HO3.out w2.heap.size A' n' c' m HAB.out rfl HM3.out (by unfold maxLen; omega) (by omega) hsz3 ?_; intro v4 w4 hown4 hgr4; rw [List.nil_append, Nat.zero_add] at hown4; have hz4 : ∀ o ∈ l ++ m, o.2.size ≤ 140737488351232 := (fun o ho => (List.mem_append.1 ho).elim (fun h => HL.out.2.1 o h) (fun h => HM.out.2.1 o h)); obtain ⟨A4, c4, rfl, hO4⟩ := opts_own hown4 hz4; have HO4 := Lib.hid hO4; have HH4 := Lib.hid (HB3.out.grown hgr4 hsz3 (fun q hq => (HO3.out.lt q hq).1)); clear hown4 hgr4 hO4 hz4))
          refine (put_row (l ++ m) A4 (n + n') c4 _ HO4.out (by unfold maxLen; omega)).mono ?_
          rintro e w5 ⟨rfl, hb5⟩
          have HH := Lib.hid (HH4.out.trans (hb5.mono HH4.out.size))
          clear hb5 HL HM HM3 HO3 HO4 HB3 HH4 hsz hsz3
          have hx1 := H2.out
          have hx2 := H3.out
          rw [H1.out]
          generalize pE m = E2 at *
          generalize pE (l ++ m) = E3 at *
          go_wp2_with fail
          refine (alive_any _).mono ?_
          rintro e w7 ⟨rfl, hb7⟩
          have HH := Lib.hid (HH.out.trans (hb7.mono HH.out.size))
          clear hb7
          go_wp2
          go_ret
          exact ⟨rfl, HH.out⟩
        · have H1 := Lib.hid (ne_zero h1)
          clear h1 he
          go_wp2_with fail
          refine (put_row l A n c _ HL.out hn).mono ?_
          rintro e w1 ⟨rfl, hb1⟩
          have HL := Lib.hid (HL.out.next hb1)
          have HM := Lib.hid (HM.out.next hb1)
          have HH := Lib.hid (HH.out.trans (hb1.mono HH.out.size))
          clear hb1
          go_wp2_with fail
          refine (put_row m A' n' c' _ HM.out hn').mono ?_
          rintro e w2 ⟨rfl, hb2⟩
          have HL := Lib.hid (HL.out.next hb2)
          have HM := Lib.hid (HM.out.next hb2)
          have HH := Lib.hid (HH.out.trans (hb2.mono HH.out.size))
          clear hb2
          have hsz := HH.out.size
          go_wp2_with (first
            | (at_builtin; refine append_opts rfl _ _ 22 rfl w.heap.size 32 i0 _ 24 Try.underlying22 hi hz0 hz1 hz2 rfl (.slice none 0 0) 0 [] rfl (World.ownsRow_nil _ _ _ _) w2.heap.size A n c l HAA.out rfl HL.out (by unfold maxLen; omega) (by omega) hsz ?_; intro v3 w3 hown3 hgr3; have HO3 := Lib.hid hown3; have hb3 := HH.out.grown hgr3 hsz (fun q hq => by cases hq); have HB3 := Lib.hid hb3; have hsz3 := hb3.size; have HM3 := Lib.hid (HM.out.below ((Below.refl w2.heap.size w2).grown hgr3 (Nat.le_refl _) (fun q hq => by cases hq))); clear hown3 hgr3 hb3)
            | (at_builtin; refine append_opts rfl _ _ 22 rfl w.heap.size 32 i0 _ 24 Try.underlying22 hi hz0 hz1 hz2 rfl v3 (0 + n) ([] ++ l) rfl HO3.out w2.heap.size A' n' c' m HAB.out rfl HM3.out (by unfold maxLen; omega) (by omega) hsz3 ?_; intro v4 w4 hown4 hgr4; rw [List.nil_append, Nat.zero_add] at hown4; have hz4 : ∀ o ∈ l ++ m, o.2.size ≤ 140737488351232 := (fun o ho => (List.mem_append.1 ho).elim (fun h => HL.out.2.1 o h) (fun h => HM.out.2.1 o h)); obtain ⟨A4, c4, rfl, hO4⟩ := opts_own hown4 hz4; have HO4 := Lib.hid hO4; have HH4 := Lib.hid (HB3.out.grown hgr4 hsz3 (fun q hq => (HO3.out.lt q hq).1)); clear hown4 hgr4 hO4 hz4))
          refine (put_row (l ++ m) A4 (n + n') c4 _ HO4.out (by unfold maxLen; omega)).mono ?_
          rintro e w5 ⟨rfl, hb5⟩
          have HH := Lib.hid (HH4.out.trans (hb5.mono HH4.out.size))
          clear hb5 HL HM HM3 HO3 HO4 HB3 HH4 hsz hsz3
          have hx1 := H1.out
          have hx2 := H3.out
          generalize pE l = E1 at *
          generalize pE (l ++ m) = E3 at *
          go_wp2_with fail
          refine (alive_any _).mono ?_
          rintro e w7 ⟨rfl, hb7⟩
          have HH := Lib.hid (HH.out.trans (hb7.mono HH.out.size))
          clear hb7
          go_wp2
          go_ret
          exact ⟨rfl, HH.out⟩

set_option maxRecDepth 100000 in
theorem lifted (os : Os) (started : os.Started) (H : Type) (enc : TypeId × Value → H) :
    ReturnsInHanded {} Try.checked os 5 .any (Rows.optionJoinsSpec.pre6 enc Try.prog Try.f5 Rows.optionJoinsRow.domain false) (Rows.optionJoinsSpec.post enc Try.prog Try.f5 false true false false) := by
  refine returnsInHanded_of_change_sized (C := Try.checked) own started (by kernel_rfl) Try.func5
    (ChangeSpec.witness6 (enc := enc) (C := Try.checked) false ⟨#[], #[.slice none 0 0, .slice none 0 0], []⟩ 8 (by kernel_rfl) (by kernel_rfl) (by kernel_rfl) (by kernel_rfl)) ?_
  intro W base args ds gs before hval0 hW hcnd hsz0 _
  have hsz : (DataW.weightsEach Try.prog (Try.f5.params.toList ++ Rows.optionJoinsSpec.plain.varTypes Try.prog) (ds ++ gs)).all (· ≤ reachBytes) = true := hsz0
  have hval : ∀ (j : Nat) t v, Try.f5.params[j]? = some t → args[j]? = some v → Value.okWide Try.prog W .any base t v := hval0
  have hW' := hW
  obtain ⟨p, q, hA0, hV, rfl, hfz, hnd⟩ := hW
  have hlt := hW'.lt
  have hA : DataW.TrodAll enc Try.prog W 0 (fun _ => true) true Try.f5.params.toList args.toList ds p := hA0
  rw [Try.params5] at hA hval hsz
  obtain ⟨v0, vs0, d0, ds0, p0, q0, hargs, rfl, rfl, h0, r0⟩ := trodAll_cons hA
  obtain ⟨v1, vs1, d1, ds1, p1, q1, rfl, rfl, rfl, h1, r1⟩ := trodAll_cons r0
  obtain ⟨rfl, rfl, rfl⟩ := trodAll_nil r1
  obtain rfl : args = #[v0, v1] := by cases args; simp_all
  obtain ⟨rfl, rfl⟩ := trodVars_none hV
  obtain ⟨A0, n0, c0, rfl, m0, hA0, l0, hO0⟩ := opts_of Try.underlying22 Try.underlying32 (by kernel_rfl) (by kernel_rfl) Try.underlying5 Try.underlying9 (hval 0 22 v0 rfl rfl) h0 (fun n hn => of_decide_eq_true (List.all_eq_true.1 hsz n (DataW.weights_mem_each (j := 0) (t := 22) rfl rfl n hn)))
  obtain ⟨A1, n1, c1, rfl, m1, hA1, l1, hO1⟩ := opts_of Try.underlying22 Try.underlying32 (by kernel_rfl) (by kernel_rfl) Try.underlying5 Try.underlying9 (hval 1 22 v1 rfl rfl) h1 (fun n hn => of_decide_eq_true (List.all_eq_true.1 hsz n (DataW.weights_mem_each (j := 1) (t := 22) rfl rfl n hn)))
  clear hA0 hval0 hsz0
  exact (walk A0 A1 n0 c0 n1 c1 l0 l1 m0 m1 hA0 hA1 W hO0 hO1).mono fun e W' ⟨he, hb⟩ => ⟨_, he, law_post (t := 4) laidOut (by kernel_rfl) rfl rfl Try.underlying4 ⟨rfl, rfl, rfl⟩ hW' hb⟩

theorem over : Rows.optionJoinsRow.holds Try.pinned (OpenSpec.ofChange Rows.optionJoinsSpec) :=
  OpenClaim.holds_of_wide 5 Try.f5 rfl rfl rfl rfl rfl rfl rfl ⟨rfl, rfl, rfl, rfl, rfl⟩ rfl rfl rfl rfl rfl (by kernel_rfl) Try.func5 (by kernel_rfl)
    (of_decide_eq_true (by kernel_rfl)) (by unfold Func.isWrapper; first | (rw [if_pos (by decide +kernel)]; kernel_rfl) | (rw [if_neg (by decide +kernel)]; exact ⟨rfl, rfl⟩))
    (fun os started H enc _ => lifted os started H enc)

theorem proved : Rows.OptionJoinsSaid :=
  over
#print axioms proved
end Go.Proofs.Ytbmifcfgpmgcpaa.OptionJoins
