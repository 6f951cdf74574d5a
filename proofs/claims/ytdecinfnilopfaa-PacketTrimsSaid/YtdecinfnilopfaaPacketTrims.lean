/- PROVED: 'halyardlaw07.PacketTrims' returns true for every text and every number, and leaves them as they were. No condition. -/
import Derived.Test.YtdecinfnilopfaaPktF
import Derived.Test.YtdecinfnilopfaaPk3
import Derived.Test.YtdecinfnilopfaaLaw
import Derived.Test.YtdecinfnilopfaaRows
import Derived.SizedLaws
namespace Go.Proofs.Ytdecinfnilopfaa.PacketTrims
open Go.ChangeShapes Go.WideShapes Go.ChangeAt Go.RowKit Go.Proofs.Ytdecinfnilopfaa.Oct Go.Proofs.Ytdecinfnilopfaa.Row Go.Proofs.Ytdecinfnilopfaa.Pkt Go.Proofs.Ytdecinfnilopfaa.Law
open Go.ChangeMaps (open_string shut_string)

theorem cut_put (s : ByteArray) (hs : s.size ≤ 1048576) : ∃ (u : ByteArray) (X : ByteArray),
    (∀ w, Calls Try.prog 12 #[.string s, .int .i64 1496] w fun e w' => e = .returned (.tuple #[.string u, .int .i64 0]) ∧ Below w.heap.size w w') ∧
    (∀ w, Calls Try.prog 8 #[.agg #[.int .u8 7, .int .u8 0, .string u]] w fun e w' => e = .returned (.tuple #[.string X, .int .i64 0]) ∧ Below w.heap.size w w') :=
  ⟨tA s 1496, bOf (enc 7 0 (tA s 1496).toList), fun w => calls_below_eq (trim_any s 1496 w (by unfold maxLen; omega)), fun w => put_yes 7 0 (tA s 1496) w (by
    have h : tA s 1496 = bOf (s.toList.take 1496) := by unfold tA; rw [if_neg (by omega)]; rfl
    rw [h, size_bOf]; exact List.length_take_le _ _)⟩
theorem trim_in (s : ByteArray) (k : Nat) (hs : s.size ≤ 1048576) (hk : k ≤ s.size) : ∃ t : ByteArray, t.size = k ∧ s.extract 0 k = t ∧
    (∀ w, Calls Try.prog 12 #[.string s, .int .i64 k] w fun e w' => e = .returned (.tuple #[.string t, .int .i64 0]) ∧ Below w.heap.size w w') := by
  have h : tA s k = s.extract 0 k := by unfold tA; rw [if_neg (by omega), extract_front]; rfl
  refine ⟨s.extract 0 k, by rw [extract_front, size_bOf, List.length_take, ← size_toList]; omega, rfl, fun w => ?_⟩
  have h' := calls_below_eq (trim_any s k w (by unfold maxLen; omega))
  rw [h, show tE (k : Int) = 0 by unfold tE; rw [if_neg (by omega)]] at h'
  exact h'
theorem trim_out (s : ByteArray) (k : Nat) (hs : s.size ≤ 1048576) (hk : s.size < k) :
    ∀ w, Calls Try.prog 12 #[.string s, .int .i64 k] w fun e w' => e = .returned (.tuple #[.string s, .int .i64 0]) ∧ Below w.heap.size w w' := by
  have h : tA s k = s := by unfold tA; rw [if_neg (by omega), Int.toNat_natCast, List.take_of_length_le (by rw [← size_toList]; omega), bOf_toList]
  intro w
  have h' := calls_below_eq (trim_any s k w (by unfold maxLen; omega))
  rw [h, show tE (k : Int) = 0 by unfold tE; rw [if_neg (by omega)]] at h'
  exact h'
set_option maxHeartbeats 4000000 in
set_option maxRecDepth 100000 in
theorem walk (s : ByteArray) (k : Nat) (hs : s.size ≤ 140737488351232) (hk : k < 65536) (w : World) :
    Calls Try.prog 6 #[.string s, .int .u16 k] w fun e w' => e = .returned (.bool true) ∧ Below w.heap.size w w' := by
  have hk1 : (0 : Int) ≤ k := by omega
  have hk2 : (k : Int) ≤ 65535 := by omega
  by_cases h : 16384 < (s.size : Int)
  · have HH0 := Lib.hid (Below.refl w.heap.size w)
    go_enter Try.func6, Try.ntmps6
    go_wp2_with fail
    refine (alive_any _).mono ?_
    rintro e w1 ⟨rfl, hb1⟩
    have HH1 := Lib.hid (HH0.out.trans (hb1.mono HH0.out.size))
    clear hb1
    go_wp2
    go_ret
    exact ⟨rfl, HH1.out⟩
  · by_cases hks : k < s.size
    · have HH0 := Lib.hid (Below.refl w.heap.size w)
      obtain ⟨u, X, hU, hX⟩ := cut_put s (by omega)
      have U1 := Lib.hid hU
      have X1 := Lib.hid hX
      clear hU hX
      obtain ⟨t, ht1, ht2, hT⟩ := trim_in s k (by omega) (by omega)
      have T1 := Lib.hid hT
      have ht3 : (t.size : Int) = (k : Int) := by omega
      have hx1 : (t.toList != t.toList) = false := by simp
      clear hT hk
      have hx2 : (k : Int) < (s.size : Int) := by omega
      have hx3 : ((k : Int) != (k : Int)) = false := by simp
      clear hks ht1
      go_enter Try.func6, Try.ntmps6
      go_wp2_with fail
      refine (T1.out _).mono ?_
      rintro e w1 ⟨rfl, hb1⟩
      have HH1 := Lib.hid (HH0.out.trans (hb1.mono HH0.out.size))
      clear hb1
      go_wp2_with fail
      refine (U1.out _).mono ?_
      rintro e w2 ⟨rfl, hb2⟩
      have HH2 := Lib.hid (HH1.out.trans (hb2.mono HH1.out.size))
      clear hb2
      go_wp2_with fail
      refine (X1.out _).mono ?_
      rintro e w3 ⟨rfl, hb3⟩
      have HH3 := Lib.hid (HH2.out.trans (hb3.mono HH2.out.size))
      clear hb3
      go_wp2_with fail
      refine (alive_any _).mono ?_
      rintro e w4 ⟨rfl, hb4⟩
      have HH4 := Lib.hid (HH3.out.trans (hb4.mono HH3.out.size))
      clear hb4
      go_wp2
      go_ret
      exact ⟨rfl, HH4.out⟩
    · by_cases hke : k = s.size
      · have HH0 := Lib.hid (Below.refl w.heap.size w)
        obtain ⟨u, X, hU, hX⟩ := cut_put s (by omega)
        have U1 := Lib.hid hU
        have X1 := Lib.hid hX
        clear hU hX
        obtain ⟨t, ht1, ht2, hT⟩ := trim_in s k (by omega) (by omega)
        have T1 := Lib.hid hT
        have ht3 : (t.size : Int) = (k : Int) := by omega
        have hx1 : (t.toList != t.toList) = false := by simp
        clear hT hk
        have hx2 : ¬ ((k : Int) < (s.size : Int)) := by omega
        have hx3 : (k : Int) ≤ (s.size : Int) := by omega
        clear hks ht1 hke
        go_enter Try.func6, Try.ntmps6
        go_wp2_with fail
        refine (T1.out _).mono ?_
        rintro e w1 ⟨rfl, hb1⟩
        have HH1 := Lib.hid (HH0.out.trans (hb1.mono HH0.out.size))
        clear hb1
        go_wp2_with fail
        refine (U1.out _).mono ?_
        rintro e w2 ⟨rfl, hb2⟩
        have HH2 := Lib.hid (HH1.out.trans (hb2.mono HH1.out.size))
        clear hb2
        go_wp2_with fail
        refine (X1.out _).mono ?_
        rintro e w3 ⟨rfl, hb3⟩
        have HH3 := Lib.hid (HH2.out.trans (hb3.mono HH2.out.size))
        clear hb3
        go_wp2_with fail
        refine (alive_any _).mono ?_
        rintro e w4 ⟨rfl, hb4⟩
        have HH4 := Lib.hid (HH3.out.trans (hb4.mono HH3.out.size))
        clear hb4
        go_wp2
        go_ret
        exact ⟨rfl, HH4.out⟩
      · have HH0 := Lib.hid (Below.refl w.heap.size w)
        obtain ⟨u, X, hU, hX⟩ := cut_put s (by omega)
        have U1 := Lib.hid hU
        have X1 := Lib.hid hX
        clear hU hX
        have T1 := Lib.hid (trim_out s k (by omega) (by omega))
        have hx1 : (s.toList != s.toList) = false := by simp
        have hx2 : (s.size : Int) < (k : Int) := by omega
        clear hk hks hke
        go_enter Try.func6, Try.ntmps6
        go_wp2_with fail
        refine (T1.out _).mono ?_
        rintro e w1 ⟨rfl, hb1⟩
        have HH1 := Lib.hid (HH0.out.trans (hb1.mono HH0.out.size))
        clear hb1
        go_wp2_with fail
        refine (U1.out _).mono ?_
        rintro e w2 ⟨rfl, hb2⟩
        have HH2 := Lib.hid (HH1.out.trans (hb2.mono HH1.out.size))
        clear hb2
        go_wp2_with fail
        refine (X1.out _).mono ?_
        rintro e w3 ⟨rfl, hb3⟩
        have HH3 := Lib.hid (HH2.out.trans (hb3.mono HH2.out.size))
        clear hb3
        go_wp2_with fail
        refine (alive_any _).mono ?_
        rintro e w4 ⟨rfl, hb4⟩
        have HH4 := Lib.hid (HH3.out.trans (hb4.mono HH3.out.size))
        clear hb4
        go_wp2
        go_ret
        exact ⟨rfl, HH4.out⟩

set_option maxRecDepth 100000 in
theorem lifted (os : Os) (started : os.Started) (H : Type) (enc : TypeId × Value → H) :
    ReturnsInHanded {} Try.checked os 6 .any (Rows.packetTrimsSpec.pre6 enc Try.prog Try.f6 Rows.packetTrimsRow.domain false) (Rows.packetTrimsSpec.post enc Try.prog Try.f6 false true false false) := by
  refine returnsInHanded_of_change_sized (C := Try.checked) own started (by kernel_rfl) Try.func6
    (ChangeSpec.witness6 (enc := enc) (C := Try.checked) false ⟨#[], #[.string ByteArray.empty, .int .u16 0], []⟩ 8 (by kernel_rfl) (by kernel_rfl) (by kernel_rfl) (by kernel_rfl)) ?_
  intro W base args ds gs before hval0 hW hcnd hsz0 _
  have hsz : (DataW.weightsEach Try.prog (Try.f6.params.toList ++ Rows.packetTrimsSpec.plain.varTypes Try.prog) (ds ++ gs)).all (· ≤ reachBytes) = true := hsz0
  have hval : ∀ (j : Nat) t v, Try.f6.params[j]? = some t → args[j]? = some v → Value.okWide Try.prog W .any base t v := hval0
  have hW' := hW
  obtain ⟨p, q, hA0, hV, rfl, hfz, hnd⟩ := hW
  have hlt := hW'.lt
  have hA : DataW.TrodAll enc Try.prog W 0 (fun _ => true) true Try.f6.params.toList args.toList ds p := hA0
  rw [Try.params6] at hA hval hsz
  obtain ⟨v0, vs0, d0, ds0, p0, q0, hargs, rfl, rfl, h0, r0⟩ := trodAll_cons hA
  obtain ⟨v1, vs1, d1, ds1, p1, q1, rfl, rfl, rfl, h1, r1⟩ := trodAll_cons r0
  obtain ⟨rfl, rfl, rfl⟩ := trodAll_nil r1
  obtain rfl : args = #[v0, v1] := by cases args; simp_all
  obtain ⟨rfl, rfl⟩ := trodVars_none hV
  obtain ⟨a0, rfl, rfl, rfl, w0⟩ := open_string Try.underlying9 (hval 0 9 v0 rfl rfl) h0
  obtain ⟨z1, rfl, rfl, rfl, w1⟩ := open_int Try.underlying24 (hval 1 24 v1 rfl rfl) h1
  obtain ⟨a1, rfl⟩ : ∃ n : Nat, z1 = n := ⟨z1.toNat, by have := bounds_u16 w1; omega⟩
  have b1 := bounds_u16 w1
  have z0 : a0.size ≤ 140737488351232 := by have h := sized_string hsz (j := 0) (t := 9) rfl rfl; rw [Array.length_toList] at h; exact h
  clear hA0 hval0 hsz0
  exact (walk a0 a1 z0 (by omega) W).mono fun e W' ⟨he, hb⟩ => ⟨_, he, law_post (t := 4) laidOut (by kernel_rfl) rfl rfl Try.underlying4 ⟨rfl, rfl, rfl⟩ hW' hb⟩

theorem over : Rows.packetTrimsRow.holds Try.pinned (OpenSpec.ofChange Rows.packetTrimsSpec) :=
  OpenClaim.holds_of_wide 6 Try.f6 rfl rfl rfl rfl rfl rfl rfl ⟨rfl, rfl, rfl, rfl, rfl⟩ rfl rfl rfl rfl rfl (by kernel_rfl) Try.func6 (by kernel_rfl)
    (of_decide_eq_true (by kernel_rfl)) (by unfold Func.isWrapper; first | (rw [if_pos (by decide +kernel)]; kernel_rfl) | (rw [if_neg (by decide +kernel)]; exact ⟨rfl, rfl⟩))
    (fun os started H enc _ => lifted os started H enc)

theorem proved : Rows.PacketTrimsSaid :=
  over
#print axioms proved
end Go.Proofs.Ytdecinfnilopfaa.PacketTrims
