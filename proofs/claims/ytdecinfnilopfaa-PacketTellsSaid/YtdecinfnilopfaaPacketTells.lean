/- PROVED: 'halyardlaw07.PacketTells' returns true for every packet, every text and every three numbers, and leaves them as they were. No condition. -/
import Derived.Test.YtdecinfnilopfaaPktF
import Derived.Test.YtdecinfnilopfaaPk3
import Derived.Test.YtdecinfnilopfaaLaw
import Derived.Test.YtdecinfnilopfaaRows
import Derived.SizedLaws
namespace Go.Proofs.Ytdecinfnilopfaa.PacketTells
open Go.ChangeShapes Go.WideShapes Go.ChangeAt Go.RowKit Go.Proofs.Ytdecinfnilopfaa.Oct Go.Proofs.Ytdecinfnilopfaa.Row Go.Proofs.Ytdecinfnilopfaa.Pkt Go.Proofs.Ytdecinfnilopfaa.Law
open Go.ChangeMaps (open_string shut_string)

set_option maxHeartbeats 4000000 in
set_option maxRecDepth 100000 in
theorem walk (c i : UInt8) (d s : ByteArray) (p k : Nat) (n : Int) (hd : d.size ≤ 140737488351232) (hs : s.size ≤ 140737488351232) (w : World) :
    Calls Try.prog 3 #[.agg #[.int .u8 c.toNat, .int .u8 i.toNat, .string d], .string s, .int .u16 p, .int .u8 k, .int .i64 n] w fun e w' => e = .returned (.bool true) ∧ Below w.heap.size w w' := by
  by_cases h : 16384 < (d.size : Int) + (s.size : Int)
  · have HH0 := Lib.hid (Below.refl w.heap.size w)
    have HP := Lib.hid (at_new w c i d : At (w.alloc (.cells #[.int .u8 c.toNat, .int .u8 i.toNat, .string d] 23)) w.heap.size c i d)
    have HH0 := Lib.hid (HH0.out.alloc HH0.out.size _ : Below w.heap.size w (w.alloc (.cells #[.int .u8 c.toNat, .int .u8 i.toNat, .string d] 23)))
    go_enter Try.func3, Try.ntmps3
    go_wp2_with fail
    refine (alive_any _).mono ?_
    rintro e w1 ⟨rfl, hb1⟩
    have HP := Lib.hid (HP.out.callee hb1)
    have HH1 := Lib.hid (HH0.out.trans (hb1.mono HH0.out.size))
    clear hb1
    go_wp2
    go_ret
    exact ⟨rfl, HH1.out⟩
  · have HH0 := Lib.hid (Below.refl w.heap.size w)
    have HP := Lib.hid (at_new w c i d : At (w.alloc (.cells #[.int .u8 c.toNat, .int .u8 i.toNat, .string d] 23)) w.heap.size c i d)
    have HH0 := Lib.hid (HH0.out.alloc HH0.out.size _ : Below w.heap.size w (w.alloc (.cells #[.int .u8 c.toNat, .int .u8 i.toNat, .string d] 23)))
    have Hs := Lib.hid (show s.size ≤ 1048576 by omega)
    have Hm := Lib.hid (show s.size ≤ maxLen by unfold maxLen; omega)
    have hx1 := beq_self (bOf (pA c i d.toList))
    have hx2 := beq_self (bOf (gD s.toList))
    have hx3 := beq_self (tA s n)
    have hx4 : (known p k == known p k) = true := by simp
    go_enter Try.func3, Try.ntmps3
    go_wp2_with fail
    refine (put_any c i d _).mono ?_
    rintro e w1 ⟨rfl, hb1⟩
    have HP := Lib.hid (HP.out.callee hb1)
    have HH1 := Lib.hid (HH0.out.trans (hb1.mono HH0.out.size))
    clear hb1
    have c2 := HP.out.c2
    have c1 := HP.out.c1
    have c0 := HP.out.c0
    go_wp2_with fail
    refine (rput_any c i d _).mono ?_
    rintro e w2 ⟨rfl, hb2⟩
    clear HP
    have HH2 := Lib.hid (HH1.out.trans (hb2.mono HH1.out.size))
    clear hb2
    go_wp2_with fail
    refine (get_any s _ Hs.out).mono ?_
    rintro e w3 ⟨rfl, hb3⟩
    have HH3 := Lib.hid (HH2.out.trans (hb3.mono HH2.out.size))
    clear hb3
    have HX := Lib.hid (at_new w3 (gC s.toList) (gI s.toList) (bOf (gD s.toList)) : At (w3.alloc (.cells #[.int .u8 (gC s.toList).toNat, .int .u8 (gI s.toList).toNat, .string (bOf (gD s.toList))] 23)) w3.heap.size (gC s.toList) (gI s.toList) (bOf (gD s.toList)))
    have HH3 := Lib.hid (HH3.out.alloc HH3.out.size _ : Below w.heap.size w (w3.alloc (.cells #[.int .u8 (gC s.toList).toNat, .int .u8 (gI s.toList).toNat, .string (bOf (gD s.toList))] 23)))
    go_wp2_with fail
    refine (rget_any s _ Hs.out).mono ?_
    rintro e w4 ⟨rfl, hb4⟩
    have HX := Lib.hid (HX.out.callee hb4)
    have HH4 := Lib.hid (HH3.out.trans (hb4.mono HH3.out.size))
    clear hb4
    have HX := Lib.hid (HX.out.alloc _ : At (w4.alloc (.cells #[.int .u8 (gC s.toList).toNat, .int .u8 (gI s.toList).toNat, .string (bOf (gD s.toList))] 23)) w3.heap.size (gC s.toList) (gI s.toList) (bOf (gD s.toList)))
    have HY := Lib.hid (at_new w4 (gC s.toList) (gI s.toList) (bOf (gD s.toList)) : At (w4.alloc (.cells #[.int .u8 (gC s.toList).toNat, .int .u8 (gI s.toList).toNat, .string (bOf (gD s.toList))] 23)) w4.heap.size (gC s.toList) (gI s.toList) (bOf (gD s.toList)))
    have HH4 := Lib.hid (HH4.out.alloc HH4.out.size _ : Below w.heap.size w (w4.alloc (.cells #[.int .u8 (gC s.toList).toNat, .int .u8 (gI s.toList).toNat, .string (bOf (gD s.toList))] 23)))
    go_wp2_with fail
    refine (calls_below_eq (trim_any s n _ Hm.out)).mono ?_
    rintro e w5 ⟨rfl, hb5⟩
    have HX := Lib.hid (HX.out.callee hb5)
    have HY := Lib.hid (HY.out.callee hb5)
    have HH5 := Lib.hid (HH4.out.trans (hb5.mono HH4.out.size))
    clear hb5
    go_wp2_with fail
    refine (calls_below_eq (rtrim_any s n _ Hm.out)).mono ?_
    rintro e w6 ⟨rfl, hb6⟩
    have HX := Lib.hid (HX.out.callee hb6)
    have HY := Lib.hid (HY.out.callee hb6)
    have HH6 := Lib.hid (HH5.out.trans (hb6.mono HH5.out.size))
    clear hb6
    have cX0 := HX.out.c0
    have cX1 := HX.out.c1
    have cX2 := HX.out.c2
    have cY0 := HY.out.c0
    have cY1 := HY.out.c1
    have cY2 := HY.out.c2
    go_wp2_with fail
    refine (calls_below_eq (known_any p k _)).mono ?_
    rintro e w7 ⟨rfl, hb7⟩
    have HX := Lib.hid (HX.out.callee hb7)
    have HY := Lib.hid (HY.out.callee hb7)
    have HH7 := Lib.hid (HH6.out.trans (hb7.mono HH6.out.size))
    clear hb7
    have cX0 := HX.out.c0
    have cX1 := HX.out.c1
    have cX2 := HX.out.c2
    have cY0 := HY.out.c0
    have cY1 := HY.out.c1
    have cY2 := HY.out.c2
    go_wp2_with fail
    refine (calls_below_eq (rknown_any p k _)).mono ?_
    rintro e w8 ⟨rfl, hb8⟩
    have HX := Lib.hid (HX.out.callee hb8)
    have HY := Lib.hid (HY.out.callee hb8)
    have HH8 := Lib.hid (HH7.out.trans (hb8.mono HH7.out.size))
    clear hb8
    go_wp2_with fail
    refine (alive_any _).mono ?_
    rintro e w9 ⟨rfl, hb9⟩
    have HX := Lib.hid (HX.out.callee hb9)
    have HY := Lib.hid (HY.out.callee hb9)
    have HH9 := Lib.hid (HH8.out.trans (hb9.mono HH8.out.size))
    clear hb9
    go_wp2
    go_ret
    exact ⟨rfl, HH9.out⟩

set_option maxRecDepth 100000 in
theorem lifted (os : Os) (started : os.Started) (H : Type) (enc : TypeId × Value → H) :
    ReturnsInHanded {} Try.checked os 3 .any (Rows.packetTellsSpec.pre6 enc Try.prog Try.f3 Rows.packetTellsRow.domain false) (Rows.packetTellsSpec.post enc Try.prog Try.f3 false true false false) := by
  refine returnsInHanded_of_change_sized (C := Try.checked) own started (by kernel_rfl) Try.func3
    (ChangeSpec.witness6 (enc := enc) (C := Try.checked) false ⟨#[], #[.agg #[.int .u8 0, .int .u8 0, .string ByteArray.empty], .string ByteArray.empty, .int .u16 0, .int .u8 0, .int .i64 0], []⟩ 8 (by kernel_rfl) (by kernel_rfl) (by kernel_rfl) (by kernel_rfl)) ?_
  intro W base args ds gs before hval0 hW hcnd hsz0 _
  have hsz : (DataW.weightsEach Try.prog (Try.f3.params.toList ++ Rows.packetTellsSpec.plain.varTypes Try.prog) (ds ++ gs)).all (· ≤ reachBytes) = true := hsz0
  have hval : ∀ (j : Nat) t v, Try.f3.params[j]? = some t → args[j]? = some v → Value.okWide Try.prog W .any base t v := hval0
  have hW' := hW
  obtain ⟨p, q, hA0, hV, rfl, hfz, hnd⟩ := hW
  have hlt := hW'.lt
  have hA : DataW.TrodAll enc Try.prog W 0 (fun _ => true) true Try.f3.params.toList args.toList ds p := hA0
  rw [Try.params3] at hA hval hsz
  obtain ⟨v0, vs0, d0, ds0, p0, q0, hargs, rfl, rfl, h0, r0⟩ := trodAll_cons hA
  obtain ⟨v1, vs1, d1, ds1, p1, q1, rfl, rfl, rfl, h1, r1⟩ := trodAll_cons r0
  obtain ⟨v2, vs2, d2, ds2, p2, q2, rfl, rfl, rfl, h2, r2⟩ := trodAll_cons r1
  obtain ⟨v3, vs3, d3, ds3, p3, q3, rfl, rfl, rfl, h3, r3⟩ := trodAll_cons r2
  obtain ⟨v4, vs4, d4, ds4, p4, q4, rfl, rfl, rfl, h4, r4⟩ := trodAll_cons r3
  obtain ⟨rfl, rfl, rfl⟩ := trodAll_nil r4
  obtain rfl : args = #[v0, v1, v2, v3, v4] := by cases args; simp_all
  obtain ⟨rfl, rfl⟩ := trodVars_none hV
  obtain ⟨c0, i0, a0, rfl, z0⟩ := pk3_of Try.underlying23 (by kernel_rfl) (by kernel_rfl) Try.underlying5 Try.underlying5 Try.underlying9 (hval 0 23 v0 rfl rfl) h0 (fun n hn => of_decide_eq_true (List.all_eq_true.1 hsz n (DataW.weights_mem_each (j := 0) (t := 23) rfl rfl n hn)))
  obtain ⟨a1, rfl, rfl, rfl, w1⟩ := open_string Try.underlying9 (hval 1 9 v1 rfl rfl) h1
  obtain ⟨z2, rfl, rfl, rfl, w2⟩ := open_int Try.underlying24 (hval 2 24 v2 rfl rfl) h2
  obtain ⟨a2, rfl⟩ : ∃ n : Nat, z2 = n := ⟨z2.toNat, by have := bounds_u16 w2; omega⟩
  have b2 := bounds_u16 w2
  obtain ⟨z3, rfl, rfl, rfl, w3⟩ := open_int Try.underlying5 (hval 3 5 v3 rfl rfl) h3
  obtain ⟨a3, rfl⟩ : ∃ n : Nat, z3 = n := ⟨z3.toNat, by have := bounds_u8 w3; omega⟩
  have b3 := bounds_u8 w3
  obtain ⟨a4, rfl, rfl, rfl, w4⟩ := open_int Try.underlying3 (hval 4 3 v4 rfl rfl) h4
  have z1 : a1.size ≤ 140737488351232 := by have h := sized_string hsz (j := 1) (t := 9) rfl rfl; rw [Array.length_toList] at h; exact h
  clear hA0 hval0 hsz0
  exact (walk c0 i0 a0 a1 a2 a3 a4 z0 z1 W).mono fun e W' ⟨he, hb⟩ => ⟨_, he, law_post (t := 4) laidOut (by kernel_rfl) rfl rfl Try.underlying4 ⟨rfl, rfl, rfl⟩ hW' hb⟩

theorem over : Rows.packetTellsRow.holds Try.pinned (OpenSpec.ofChange Rows.packetTellsSpec) :=
  OpenClaim.holds_of_wide 3 Try.f3 rfl rfl rfl rfl rfl rfl rfl ⟨rfl, rfl, rfl, rfl, rfl⟩ rfl rfl rfl rfl rfl (by kernel_rfl) Try.func3 (by kernel_rfl)
    (of_decide_eq_true (by kernel_rfl)) (by unfold Func.isWrapper; first | (rw [if_pos (by decide +kernel)]; kernel_rfl) | (rw [if_neg (by decide +kernel)]; exact ⟨rfl, rfl⟩))
    (fun os started H enc _ => lifted os started H enc)

theorem proved : Rows.PacketTellsSaid :=
  over
#print axioms proved
end Go.Proofs.Ytdecinfnilopfaa.PacketTells
