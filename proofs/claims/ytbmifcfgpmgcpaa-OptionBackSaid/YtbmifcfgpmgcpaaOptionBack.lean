/- PROVED: 'halyardlaw08.OptionBack' returns true for every row and every text, and leaves them as they were. No condition. -/
import Derived.Test.YtbmifcfgpmgcpaaOptK
import Derived.Test.YtbmifcfgpmgcpaaLaw
import Derived.Test.YtbmifcfgpmgcpaaRows
import Derived.SizedLaws
namespace Go.Proofs.Ytbmifcfgpmgcpaa.OptionBack
open Go.ChangeShapes Go.WideShapes Go.ChangeAt Go.RowKit Go.Proofs.Ytbmifcfgpmgcpaa.Oct Go.Proofs.Ytbmifcfgpmgcpaa.Row Go.Proofs.Ytbmifcfgpmgcpaa.Mem Go.Proofs.Ytbmifcfgpmgcpaa.Opt Go.Proofs.Ytbmifcfgpmgcpaa.Law
open Go.ChangeMaps (open_string shut_string)

set_option maxHeartbeats 4000000 in
set_option maxRecDepth 100000 in
theorem walk (A : Option Addr) (n c : Nat) (l : List Opt) (s : ByteArray) (hn : n ≤ maxLen) (hs : s.size ≤ 140737488351232) (w : World) (hl : Opts w w.heap.size A n l) :
    Calls Try.prog 4 #[.slice A n c, .string s] w fun e w' => e = .returned (.bool true) ∧ Below w.heap.size w w' := by
  have HH := Lib.hid (Below.refl w.heap.size w)
  have HL := Lib.hid hl
  have Hll := Lib.hid hl.1
  clear hl
  go_enter Try.func4, Try.ntmps4
  go_wp2_with fail
  refine (long_row l A n c _ HL.out hn).mono ?_
  rintro e w' ⟨b, rfl, hq1, rfl⟩
  cases b
  case true =>
    clear hq1
    go_wp2_with fail
    refine (alive_any _).mono ?_
    rintro e w1 ⟨rfl, hb1⟩
    have HL := Lib.hid (HL.out.next hb1)
    have HH := Lib.hid (HH.out.trans (hb1.mono HH.out.size))
    clear hb1
    go_wp2
    go_ret
    exact ⟨rfl, HH.out⟩
  case false =>
    obtain ⟨hn70, hd⟩ := hq1 rfl
    clear hq1 hd
    by_cases h4096 : 4096 < s.size
    · have hx0 : (4096 : Int) < (s.size : Int) := by omega
      go_wp2_with fail
      refine (alive_any _).mono ?_
      rintro e w1 ⟨rfl, hb1⟩
      have HL := Lib.hid (HL.out.next hb1)
      have HH := Lib.hid (HH.out.trans (hb1.mono HH.out.size))
      clear hb1
      go_wp2
      go_ret
      exact ⟨rfl, HH.out⟩
    · have hx0 : ¬ (4096 : Int) < (s.size : Int) := by omega
      have HLL := Lib.hid (show l.length ≤ maxLen by rw [Hll.out]; exact hn)
      have HGL := Lib.hid (show (gL s.toList).length ≤ maxLen by have := gL_le s.toList; unfold maxLen; omega)
      by_cases hp : pE l = 0
      · by_cases hg : gE s.toList = 0
        · have HP := Lib.hid hp
          clear hp
          have P1 := Lib.hid (fun w h => put_row l A n c w h hn)
          have G1 := Lib.hid (get_row l HP.out)
          rw [HP.out] at P1
          have hxz : (bOf (pA l)).size ≤ 1496 := by rw [size_bOf]; exact pA_le l
          generalize bOf (pA l) = X at *
          have hx1 : ((X.size : Int) != (X.size : Int)) = false := by simp
          have G2 := Lib.hid (get_yes s hg)
          have P2 := Lib.hid (put_got s hg)
          have hx2 := beq_self s
          have hx3 : ((s.size : Int) == (s.size : Int)) = true := by simp
          clear hg
          go_wp2_with fail
          refine (P1.out _ HL.out).mono ?_
          rintro e w1 ⟨rfl, hb1⟩
          have HL := Lib.hid (HL.out.next hb1)
          have HH := Lib.hid (HH.out.trans (hb1.mono HH.out.size))
          clear hb1
          go_wp2_with fail
          refine (G1.out _).mono ?_
          rintro e w2 ⟨A2, c2, rfl, hO2, hb2⟩
          have HL := Lib.hid (HL.out.next hb2)
          have HH := Lib.hid (HH.out.trans (hb2.mono HH.out.size))
          clear hb2
          have HX := Lib.hid hO2
          clear hO2
          go_wp2_with fail
          refine (same_self l A2 A l.length n c2 c _ HX.out HL.out HLL.out hn).mono ?_
          rintro e w3 ⟨rfl, hb3⟩
          clear HX
          have HL := Lib.hid (HL.out.next hb3)
          have HH := Lib.hid (HH.out.trans (hb3.mono HH.out.size))
          clear hb3
          go_wp2_with fail
          refine (G2.out _).mono ?_
          rintro e w4 ⟨A4, c4, rfl, hO4, hb4⟩
          have HL := Lib.hid (HL.out.next hb4)
          have HH := Lib.hid (HH.out.trans (hb4.mono HH.out.size))
          clear hb4
          have HY := Lib.hid hO4
          clear hO4
          go_wp2_with fail
          refine (P2.out A4 c4 _ HY.out).mono ?_
          rintro e w5 ⟨rfl, hb5⟩
          clear HY
          have HL := Lib.hid (HL.out.next hb5)
          have HH := Lib.hid (HH.out.trans (hb5.mono HH.out.size))
          clear hb5
          go_wp2_with fail
          refine (alive_any _).mono ?_
          rintro e w6 ⟨rfl, hb6⟩
          have HL := Lib.hid (HL.out.next hb6)
          have HH := Lib.hid (HH.out.trans (hb6.mono HH.out.size))
          clear hb6
          go_wp2
          go_ret
          exact ⟨rfl, HH.out⟩
        · have HP := Lib.hid hp
          clear hp
          have P1 := Lib.hid (fun w h => put_row l A n c w h hn)
          have G1 := Lib.hid (get_row l HP.out)
          rw [HP.out] at P1
          have hxz : (bOf (pA l)).size ≤ 1496 := by rw [size_bOf]; exact pA_le l
          generalize bOf (pA l) = X at *
          have hx1 : ((X.size : Int) != (X.size : Int)) = false := by simp
          have G2 := Lib.hid (get_no s hg)
          have hx2 := ne_zero hg
          have hx3 : ((gN s.toList : Nat) : Int) ≤ (s.size : Int) := by have := (got_no hg).2; rw [← size_toList] at this; omega
          have hx4 : (0 : Int) ≤ ((gN s.toList : Nat) : Int) := by omega
          clear hg
          generalize gE s.toList = E2 at *
          generalize gN s.toList = N2 at *
          go_wp2_with fail
          refine (P1.out _ HL.out).mono ?_
          rintro e w1 ⟨rfl, hb1⟩
          have HL := Lib.hid (HL.out.next hb1)
          have HH := Lib.hid (HH.out.trans (hb1.mono HH.out.size))
          clear hb1
          go_wp2_with fail
          refine (G1.out _).mono ?_
          rintro e w2 ⟨A2, c2, rfl, hO2, hb2⟩
          have HL := Lib.hid (HL.out.next hb2)
          have HH := Lib.hid (HH.out.trans (hb2.mono HH.out.size))
          clear hb2
          have HX := Lib.hid hO2
          clear hO2
          go_wp2_with fail
          refine (same_self l A2 A l.length n c2 c _ HX.out HL.out HLL.out hn).mono ?_
          rintro e w3 ⟨rfl, hb3⟩
          clear HX
          have HL := Lib.hid (HL.out.next hb3)
          have HH := Lib.hid (HH.out.trans (hb3.mono HH.out.size))
          clear hb3
          go_wp2_with fail
          refine (G2.out _).mono ?_
          rintro e w4 ⟨A4, c4, rfl, hb4⟩
          have HL := Lib.hid (HL.out.next hb4)
          have HH := Lib.hid (HH.out.trans (hb4.mono HH.out.size))
          clear hb4
          go_wp2_with fail
          refine (alive_any _).mono ?_
          rintro e w5 ⟨rfl, hb5⟩
          have HL := Lib.hid (HL.out.next hb5)
          have HH := Lib.hid (HH.out.trans (hb5.mono HH.out.size))
          clear hb5
          go_wp2
          go_ret
          exact ⟨rfl, HH.out⟩
      · by_cases hg : gE s.toList = 0
        · have HP := Lib.hid hp
          have P1 := Lib.hid (fun w h => put_row l A n c w h hn)
          have hx1 : ((pE l : Int) == 0) = false := by rw [beq_eq_false_iff_ne]; omega
          clear hp
          generalize pE l = E at *
          have G2 := Lib.hid (get_yes s hg)
          have P2 := Lib.hid (put_got s hg)
          have hx2 := beq_self s
          have hx3 : ((s.size : Int) == (s.size : Int)) = true := by simp
          clear hg
          go_wp2_with fail
          refine (P1.out _ HL.out).mono ?_
          rintro e w1 ⟨rfl, hb1⟩
          have HL := Lib.hid (HL.out.next hb1)
          have HH := Lib.hid (HH.out.trans (hb1.mono HH.out.size))
          clear hb1
          go_wp2_with fail
          refine (G2.out _).mono ?_
          rintro e w2 ⟨A2, c2, rfl, hO2, hb2⟩
          have HL := Lib.hid (HL.out.next hb2)
          have HH := Lib.hid (HH.out.trans (hb2.mono HH.out.size))
          clear hb2
          have HY := Lib.hid hO2
          clear hO2
          go_wp2_with fail
          refine (P2.out A2 c2 _ HY.out).mono ?_
          rintro e w3 ⟨rfl, hb3⟩
          clear HY
          have HL := Lib.hid (HL.out.next hb3)
          have HH := Lib.hid (HH.out.trans (hb3.mono HH.out.size))
          clear hb3
          go_wp2_with fail
          refine (alive_any _).mono ?_
          rintro e w4 ⟨rfl, hb4⟩
          have HL := Lib.hid (HL.out.next hb4)
          have HH := Lib.hid (HH.out.trans (hb4.mono HH.out.size))
          clear hb4
          go_wp2
          go_ret
          exact ⟨rfl, HH.out⟩
        · have HP := Lib.hid hp
          have P1 := Lib.hid (fun w h => put_row l A n c w h hn)
          have hx1 : ((pE l : Int) == 0) = false := by rw [beq_eq_false_iff_ne]; omega
          clear hp
          generalize pE l = E at *
          have G2 := Lib.hid (get_no s hg)
          have hx2 := ne_zero hg
          have hx3 : ((gN s.toList : Nat) : Int) ≤ (s.size : Int) := by have := (got_no hg).2; rw [← size_toList] at this; omega
          have hx4 : (0 : Int) ≤ ((gN s.toList : Nat) : Int) := by omega
          clear hg
          generalize gE s.toList = E2 at *
          generalize gN s.toList = N2 at *
          go_wp2_with fail
          refine (P1.out _ HL.out).mono ?_
          rintro e w1 ⟨rfl, hb1⟩
          have HL := Lib.hid (HL.out.next hb1)
          have HH := Lib.hid (HH.out.trans (hb1.mono HH.out.size))
          clear hb1
          go_wp2_with fail
          refine (G2.out _).mono ?_
          rintro e w2 ⟨A2, c2, rfl, hb2⟩
          have HL := Lib.hid (HL.out.next hb2)
          have HH := Lib.hid (HH.out.trans (hb2.mono HH.out.size))
          clear hb2
          go_wp2_with fail
          refine (alive_any _).mono ?_
          rintro e w3 ⟨rfl, hb3⟩
          have HL := Lib.hid (HL.out.next hb3)
          have HH := Lib.hid (HH.out.trans (hb3.mono HH.out.size))
          clear hb3
          go_wp2
          go_ret
          exact ⟨rfl, HH.out⟩

set_option maxRecDepth 100000 in
theorem lifted (os : Os) (started : os.Started) (H : Type) (enc : TypeId × Value → H) :
    ReturnsInHanded {} Try.checked os 4 .any (Rows.optionBackSpec.pre6 enc Try.prog Try.f4 Rows.optionBackRow.domain false) (Rows.optionBackSpec.post enc Try.prog Try.f4 false true false false) := by
  refine returnsInHanded_of_change_sized (C := Try.checked) own started (by kernel_rfl) Try.func4
    (ChangeSpec.witness6 (enc := enc) (C := Try.checked) false ⟨#[], #[.slice none 0 0, .string ByteArray.empty], []⟩ 8 (by kernel_rfl) (by kernel_rfl) (by kernel_rfl) (by kernel_rfl)) ?_
  intro W base args ds gs before hval0 hW hcnd hsz0 _
  have hsz : (DataW.weightsEach Try.prog (Try.f4.params.toList ++ Rows.optionBackSpec.plain.varTypes Try.prog) (ds ++ gs)).all (· ≤ reachBytes) = true := hsz0
  have hval : ∀ (j : Nat) t v, Try.f4.params[j]? = some t → args[j]? = some v → Value.okWide Try.prog W .any base t v := hval0
  have hW' := hW
  obtain ⟨p, q, hA0, hV, rfl, hfz, hnd⟩ := hW
  have hlt := hW'.lt
  have hA : DataW.TrodAll enc Try.prog W 0 (fun _ => true) true Try.f4.params.toList args.toList ds p := hA0
  rw [Try.params4] at hA hval hsz
  obtain ⟨v0, vs0, d0, ds0, p0, q0, hargs, rfl, rfl, h0, r0⟩ := trodAll_cons hA
  obtain ⟨v1, vs1, d1, ds1, p1, q1, rfl, rfl, rfl, h1, r1⟩ := trodAll_cons r0
  obtain ⟨rfl, rfl, rfl⟩ := trodAll_nil r1
  obtain rfl : args = #[v0, v1] := by cases args; simp_all
  obtain ⟨rfl, rfl⟩ := trodVars_none hV
  obtain ⟨A0, n0, c0, rfl, m0, hA0, l0, hO0⟩ := opts_of Try.underlying22 Try.underlying32 (by kernel_rfl) (by kernel_rfl) Try.underlying5 Try.underlying9 (hval 0 22 v0 rfl rfl) h0 (fun n hn => of_decide_eq_true (List.all_eq_true.1 hsz n (DataW.weights_mem_each (j := 0) (t := 22) rfl rfl n hn)))
  obtain ⟨a1, rfl, rfl, rfl, w1⟩ := open_string Try.underlying9 (hval 1 9 v1 rfl rfl) h1
  have z1 : a1.size ≤ 140737488351232 := by have h := sized_string hsz (j := 1) (t := 9) rfl rfl; rw [Array.length_toList] at h; exact h
  clear hA0 hval0 hsz0
  exact (walk A0 n0 c0 l0 a1 m0 z1 W hO0).mono fun e W' ⟨he, hb⟩ => ⟨_, he, law_post (t := 4) laidOut (by kernel_rfl) rfl rfl Try.underlying4 ⟨rfl, rfl, rfl⟩ hW' hb⟩

theorem over : Rows.optionBackRow.holds Try.pinned (OpenSpec.ofChange Rows.optionBackSpec) :=
  OpenClaim.holds_of_wide 4 Try.f4 rfl rfl rfl rfl rfl rfl rfl ⟨rfl, rfl, rfl, rfl, rfl⟩ rfl rfl rfl rfl rfl (by kernel_rfl) Try.func4 (by kernel_rfl)
    (of_decide_eq_true (by kernel_rfl)) (by unfold Func.isWrapper; first | (rw [if_pos (by decide +kernel)]; kernel_rfl) | (rw [if_neg (by decide +kernel)]; exact ⟨rfl, rfl⟩))
    (fun os started H enc _ => lifted os started H enc)

theorem proved : Rows.OptionBackSaid :=
  over
#print axioms proved
end Go.Proofs.Ytbmifcfgpmgcpaa.OptionBack
