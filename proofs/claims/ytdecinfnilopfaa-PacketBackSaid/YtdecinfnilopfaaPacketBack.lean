/- PROVED: 'halyardlaw07.PacketBack' returns true for every packet and every two texts, and leaves them as they were. No condition. -/
import Derived.Test.YtdecinfnilopfaaPktF
import Derived.Test.YtdecinfnilopfaaPk3
import Derived.Test.YtdecinfnilopfaaLaw
import Derived.Test.YtdecinfnilopfaaRows
import Derived.SizedLaws
namespace Go.Proofs.Ytdecinfnilopfaa.PacketBack
open Go.ChangeShapes Go.WideShapes Go.ChangeAt Go.RowKit Go.Proofs.Ytdecinfnilopfaa.Oct Go.Proofs.Ytdecinfnilopfaa.Row Go.Proofs.Ytdecinfnilopfaa.Pkt Go.Proofs.Ytdecinfnilopfaa.Law
open Go.ChangeMaps (open_string shut_string)

set_option maxHeartbeats 4000000 in
set_option maxRecDepth 100000 in
theorem walk (c i : UInt8) (d m s : ByteArray) (hd : d.size ≤ 140737488351232) (hm : m.size ≤ 140737488351232) (hs : s.size ≤ 140737488351232) (w : World) :
    Calls Try.prog 4 #[.agg #[.int .u8 c.toNat, .int .u8 i.toNat, .string d], .string m, .string s] w fun e w' => e = .returned (.bool true) ∧ Below w.heap.size w w' := by
  by_cases h : 16384 < (d.size : Int) + (m.size : Int) + (s.size : Int)
  · have HH0 := Lib.hid (Below.refl w.heap.size w)
    have HP := Lib.hid (at_new w c i d : At (w.alloc (.cells #[.int .u8 c.toNat, .int .u8 i.toNat, .string d] 23)) w.heap.size c i d)
    have HH0 := Lib.hid (HH0.out.alloc HH0.out.size _ : Below w.heap.size w (w.alloc (.cells #[.int .u8 c.toNat, .int .u8 i.toNat, .string d] 23)))
    go_enter Try.func4, Try.ntmps4
    go_wp2_with fail
    refine (alive_any _).mono ?_
    rintro e w1 ⟨rfl, hb1⟩
    have HP := Lib.hid (HP.out.callee hb1)
    have HH1 := Lib.hid (HH0.out.trans (hb1.mono HH0.out.size))
    clear hb1
    go_wp2
    go_ret
    exact ⟨rfl, HH1.out⟩
  · by_cases hl : 1496 < d.size
    · by_cases hE : gE s.toList = 0
      · have HH0 := Lib.hid (Below.refl w.heap.size w)
        have HP := Lib.hid (at_new w c i d : At (w.alloc (.cells #[.int .u8 c.toNat, .int .u8 i.toNat, .string d] 23)) w.heap.size c i d)
        have HH0 := Lib.hid (HH0.out.alloc HH0.out.size _ : Below w.heap.size w (w.alloc (.cells #[.int .u8 c.toNat, .int .u8 i.toNat, .string d] 23)))
        have Hs := Lib.hid (show s.size ≤ 1048576 by omega)
        have P1 := Lib.hid (fun w => put_long c i d w (by omega))
        have hxd : decide ((d.size : Int) ≤ 1496) = false := decide_eq_false (by omega)
        obtain ⟨C, I, D, N, M, hNM, hDz, hG, hP⟩ := get_yes s Hs.out hE
        have G2 := Lib.hid hG
        have P2 := Lib.hid hP
        have hx2 := beq_self (s.extract 0 M)
        have hx3 : (s.size : Int) - (N : Int) = (M : Int) := by omega
        have hx4 : (N : Int) ≤ (s.size : Int) := by omega
        have hx5 : (M : Int) ≤ (s.size : Int) := by omega
        clear hE hG hP hNM
        go_enter Try.func4, Try.ntmps4
        go_wp2_with fail
        refine (P1.out _).mono ?_
        rintro e w1 ⟨rfl, hb1⟩
        have HP := Lib.hid (HP.out.callee hb1)
        have HH1 := Lib.hid (HH0.out.trans (hb1.mono HH0.out.size))
        clear hb1
        have cP0 := HP.out.c0
        have cP1 := HP.out.c1
        have cP2 := HP.out.c2
        go_wp2_with fail
        refine (G2.out _).mono ?_
        rintro e w2 ⟨rfl, hb2⟩
        have HP := Lib.hid (HP.out.callee hb2)
        have HH2 := Lib.hid (HH1.out.trans (hb2.mono HH1.out.size))
        clear hb2
        have HP := Lib.hid (HP.out.alloc _ : At (w2.alloc (.cells #[.int .u8 C.toNat, .int .u8 I.toNat, .string D] 23)) w.heap.size c i d)
        have HY := Lib.hid (at_new w2 C I D : At (w2.alloc (.cells #[.int .u8 C.toNat, .int .u8 I.toNat, .string D] 23)) w2.heap.size C I D)
        have HH2 := Lib.hid (HH2.out.alloc HH2.out.size _ : Below w.heap.size w (w2.alloc (.cells #[.int .u8 C.toNat, .int .u8 I.toNat, .string D] 23)))
        go_wp2_with fail
        refine (P2.out _).mono ?_
        rintro e w3 ⟨rfl, hb3⟩
        have HP := Lib.hid (HP.out.callee hb3)
        have HY := Lib.hid (HY.out.callee hb3)
        have HH3 := Lib.hid (HH2.out.trans (hb3.mono HH2.out.size))
        clear hb3
        go_wp2_with fail
        refine (alive_any _).mono ?_
        rintro e w4 ⟨rfl, hb4⟩
        have HP := Lib.hid (HP.out.callee hb4)
        have HY := Lib.hid (HY.out.callee hb4)
        have HH4 := Lib.hid (HH3.out.trans (hb4.mono HH3.out.size))
        clear hb4
        go_wp2
        go_ret
        exact ⟨rfl, HH4.out⟩
      · have HH0 := Lib.hid (Below.refl w.heap.size w)
        have HP := Lib.hid (at_new w c i d : At (w.alloc (.cells #[.int .u8 c.toNat, .int .u8 i.toNat, .string d] 23)) w.heap.size c i d)
        have HH0 := Lib.hid (HH0.out.alloc HH0.out.size _ : Below w.heap.size w (w.alloc (.cells #[.int .u8 c.toNat, .int .u8 i.toNat, .string d] 23)))
        have Hs := Lib.hid (show s.size ≤ 1048576 by omega)
        have P1 := Lib.hid (fun w => put_long c i d w (by omega))
        have hxd : decide ((d.size : Int) ≤ 1496) = false := decide_eq_false (by omega)
        have G2 := Lib.hid (fun w => get_no s w Hs.out hE)
        have hx2 : (((gE s.toList : Nat) : Int) != 0) = true := by simp; exact hE
        clear hE
        generalize gE s.toList = E at *
        go_enter Try.func4, Try.ntmps4
        go_wp2_with fail
        refine (P1.out _).mono ?_
        rintro e w1 ⟨rfl, hb1⟩
        have HP := Lib.hid (HP.out.callee hb1)
        have HH1 := Lib.hid (HH0.out.trans (hb1.mono HH0.out.size))
        clear hb1
        have cP0 := HP.out.c0
        have cP1 := HP.out.c1
        have cP2 := HP.out.c2
        go_wp2_with fail
        refine (G2.out _).mono ?_
        rintro e w2 ⟨rfl, hb2⟩
        have HP := Lib.hid (HP.out.callee hb2)
        have HH2 := Lib.hid (HH1.out.trans (hb2.mono HH1.out.size))
        clear hb2
        have HP := Lib.hid (HP.out.alloc _ : At (w2.alloc (.cells #[.int .u8 0, .int .u8 0, .string ⟨#[]⟩] 23)) w.heap.size c i d)
        have HY := Lib.hid (at_new w2 (0 : UInt8) (0 : UInt8) ⟨#[]⟩ : At (w2.alloc (.cells #[.int .u8 0, .int .u8 0, .string ⟨#[]⟩] 23)) w2.heap.size (0 : UInt8) (0 : UInt8) ⟨#[]⟩)
        have HH2 := Lib.hid (HH2.out.alloc HH2.out.size _ : Below w.heap.size w (w2.alloc (.cells #[.int .u8 0, .int .u8 0, .string ⟨#[]⟩] 23)))
        go_wp2_with fail
        refine (alive_any _).mono ?_
        rintro e w3 ⟨rfl, hb3⟩
        have HP := Lib.hid (HP.out.callee hb3)
        have HY := Lib.hid (HY.out.callee hb3)
        have HH3 := Lib.hid (HH2.out.trans (hb3.mono HH2.out.size))
        clear hb3
        go_wp2
        go_ret
        exact ⟨rfl, HH3.out⟩
    · by_cases hE : gE s.toList = 0
      · have HH0 := Lib.hid (Below.refl w.heap.size w)
        have HP := Lib.hid (at_new w c i d : At (w.alloc (.cells #[.int .u8 c.toNat, .int .u8 i.toNat, .string d] 23)) w.heap.size c i d)
        have HH0 := Lib.hid (HH0.out.alloc HH0.out.size _ : Below w.heap.size w (w.alloc (.cells #[.int .u8 c.toNat, .int .u8 i.toNat, .string d] 23)))
        have Hs := Lib.hid (show s.size ≤ 1048576 by omega)
        have P1 := Lib.hid (fun w => put_yes c i d w (by omega))
        have hxd : decide ((d.size : Int) ≤ 1496) = true := decide_eq_true (by omega)
        have G1 := Lib.hid (fun w => get_back c i d m w (by omega) (by omega))
        have hxs : ((bOf (enc c i d.toList)).size : Int) = (d.size : Int) + 4 := by rw [size_bOf, enc_length, ← size_toList]; omega
        have hxm : ¬ 9223372036854775807 < (bOf (enc c i d.toList)).size + m.size := by omega
        generalize bOf (enc c i d.toList) = X at *
        have hx1 := beq_self d
        obtain ⟨C, I, D, N, M, hNM, hDz, hG, hP⟩ := get_yes s Hs.out hE
        have G2 := Lib.hid hG
        have P2 := Lib.hid hP
        have hx2 := beq_self (s.extract 0 M)
        have hx3 : (s.size : Int) - (N : Int) = (M : Int) := by omega
        have hx4 : (N : Int) ≤ (s.size : Int) := by omega
        have hx5 : (M : Int) ≤ (s.size : Int) := by omega
        clear hE hG hP hNM
        go_enter Try.func4, Try.ntmps4
        go_wp2_with fail
        refine (P1.out _).mono ?_
        rintro e w1 ⟨rfl, hb1⟩
        have HP := Lib.hid (HP.out.callee hb1)
        have HH1 := Lib.hid (HH0.out.trans (hb1.mono HH0.out.size))
        clear hb1
        have cP0 := HP.out.c0
        have cP1 := HP.out.c1
        have cP2 := HP.out.c2
        go_wp2_with fail
        refine (G1.out _).mono ?_
        rintro e w2 ⟨rfl, hb2⟩
        have HP := Lib.hid (HP.out.callee hb2)
        have HH2 := Lib.hid (HH1.out.trans (hb2.mono HH1.out.size))
        clear hb2
        have HP := Lib.hid (HP.out.alloc _ : At (w2.alloc (.cells #[.int .u8 c.toNat, .int .u8 i.toNat, .string d] 23)) w.heap.size c i d)
        have HX := Lib.hid (at_new w2 c i d : At (w2.alloc (.cells #[.int .u8 c.toNat, .int .u8 i.toNat, .string d] 23)) w2.heap.size c i d)
        have HH2 := Lib.hid (HH2.out.alloc HH2.out.size _ : Below w.heap.size w (w2.alloc (.cells #[.int .u8 c.toNat, .int .u8 i.toNat, .string d] 23)))
        have c0 := HP.out.c0
        have c1 := HP.out.c1
        have c2 := HP.out.c2
        go_wp2_with fail
        refine (G2.out _).mono ?_
        rintro e w3 ⟨rfl, hb3⟩
        have HP := Lib.hid (HP.out.callee hb3)
        have HX := Lib.hid (HX.out.callee hb3)
        have HH3 := Lib.hid (HH2.out.trans (hb3.mono HH2.out.size))
        clear hb3
        have HP := Lib.hid (HP.out.alloc _ : At (w3.alloc (.cells #[.int .u8 C.toNat, .int .u8 I.toNat, .string D] 23)) w.heap.size c i d)
        have HX := Lib.hid (HX.out.alloc _ : At (w3.alloc (.cells #[.int .u8 C.toNat, .int .u8 I.toNat, .string D] 23)) w2.heap.size c i d)
        have HY := Lib.hid (at_new w3 C I D : At (w3.alloc (.cells #[.int .u8 C.toNat, .int .u8 I.toNat, .string D] 23)) w3.heap.size C I D)
        have HH3 := Lib.hid (HH3.out.alloc HH3.out.size _ : Below w.heap.size w (w3.alloc (.cells #[.int .u8 C.toNat, .int .u8 I.toNat, .string D] 23)))
        go_wp2_with fail
        refine (P2.out _).mono ?_
        rintro e w4 ⟨rfl, hb4⟩
        have HP := Lib.hid (HP.out.callee hb4)
        have HX := Lib.hid (HX.out.callee hb4)
        have HY := Lib.hid (HY.out.callee hb4)
        have HH4 := Lib.hid (HH3.out.trans (hb4.mono HH3.out.size))
        clear hb4
        go_wp2_with fail
        refine (alive_any _).mono ?_
        rintro e w5 ⟨rfl, hb5⟩
        have HP := Lib.hid (HP.out.callee hb5)
        have HX := Lib.hid (HX.out.callee hb5)
        have HY := Lib.hid (HY.out.callee hb5)
        have HH5 := Lib.hid (HH4.out.trans (hb5.mono HH4.out.size))
        clear hb5
        go_wp2
        go_ret
        exact ⟨rfl, HH5.out⟩
      · have HH0 := Lib.hid (Below.refl w.heap.size w)
        have HP := Lib.hid (at_new w c i d : At (w.alloc (.cells #[.int .u8 c.toNat, .int .u8 i.toNat, .string d] 23)) w.heap.size c i d)
        have HH0 := Lib.hid (HH0.out.alloc HH0.out.size _ : Below w.heap.size w (w.alloc (.cells #[.int .u8 c.toNat, .int .u8 i.toNat, .string d] 23)))
        have Hs := Lib.hid (show s.size ≤ 1048576 by omega)
        have P1 := Lib.hid (fun w => put_yes c i d w (by omega))
        have hxd : decide ((d.size : Int) ≤ 1496) = true := decide_eq_true (by omega)
        have G1 := Lib.hid (fun w => get_back c i d m w (by omega) (by omega))
        have hxs : ((bOf (enc c i d.toList)).size : Int) = (d.size : Int) + 4 := by rw [size_bOf, enc_length, ← size_toList]; omega
        have hxm : ¬ 9223372036854775807 < (bOf (enc c i d.toList)).size + m.size := by omega
        generalize bOf (enc c i d.toList) = X at *
        have hx1 := beq_self d
        have G2 := Lib.hid (fun w => get_no s w Hs.out hE)
        have hx2 : (((gE s.toList : Nat) : Int) != 0) = true := by simp; exact hE
        clear hE
        generalize gE s.toList = E at *
        go_enter Try.func4, Try.ntmps4
        go_wp2_with fail
        refine (P1.out _).mono ?_
        rintro e w1 ⟨rfl, hb1⟩
        have HP := Lib.hid (HP.out.callee hb1)
        have HH1 := Lib.hid (HH0.out.trans (hb1.mono HH0.out.size))
        clear hb1
        have cP0 := HP.out.c0
        have cP1 := HP.out.c1
        have cP2 := HP.out.c2
        go_wp2_with fail
        refine (G1.out _).mono ?_
        rintro e w2 ⟨rfl, hb2⟩
        have HP := Lib.hid (HP.out.callee hb2)
        have HH2 := Lib.hid (HH1.out.trans (hb2.mono HH1.out.size))
        clear hb2
        have HP := Lib.hid (HP.out.alloc _ : At (w2.alloc (.cells #[.int .u8 c.toNat, .int .u8 i.toNat, .string d] 23)) w.heap.size c i d)
        have HX := Lib.hid (at_new w2 c i d : At (w2.alloc (.cells #[.int .u8 c.toNat, .int .u8 i.toNat, .string d] 23)) w2.heap.size c i d)
        have HH2 := Lib.hid (HH2.out.alloc HH2.out.size _ : Below w.heap.size w (w2.alloc (.cells #[.int .u8 c.toNat, .int .u8 i.toNat, .string d] 23)))
        have c0 := HP.out.c0
        have c1 := HP.out.c1
        have c2 := HP.out.c2
        go_wp2_with fail
        refine (G2.out _).mono ?_
        rintro e w3 ⟨rfl, hb3⟩
        have HP := Lib.hid (HP.out.callee hb3)
        have HX := Lib.hid (HX.out.callee hb3)
        have HH3 := Lib.hid (HH2.out.trans (hb3.mono HH2.out.size))
        clear hb3
        have HP := Lib.hid (HP.out.alloc _ : At (w3.alloc (.cells #[.int .u8 0, .int .u8 0, .string ⟨#[]⟩] 23)) w.heap.size c i d)
        have HX := Lib.hid (HX.out.alloc _ : At (w3.alloc (.cells #[.int .u8 0, .int .u8 0, .string ⟨#[]⟩] 23)) w2.heap.size c i d)
        have HY := Lib.hid (at_new w3 (0 : UInt8) (0 : UInt8) ⟨#[]⟩ : At (w3.alloc (.cells #[.int .u8 0, .int .u8 0, .string ⟨#[]⟩] 23)) w3.heap.size (0 : UInt8) (0 : UInt8) ⟨#[]⟩)
        have HH3 := Lib.hid (HH3.out.alloc HH3.out.size _ : Below w.heap.size w (w3.alloc (.cells #[.int .u8 0, .int .u8 0, .string ⟨#[]⟩] 23)))
        go_wp2_with fail
        refine (alive_any _).mono ?_
        rintro e w4 ⟨rfl, hb4⟩
        have HP := Lib.hid (HP.out.callee hb4)
        have HX := Lib.hid (HX.out.callee hb4)
        have HY := Lib.hid (HY.out.callee hb4)
        have HH4 := Lib.hid (HH3.out.trans (hb4.mono HH3.out.size))
        clear hb4
        go_wp2
        go_ret
        exact ⟨rfl, HH4.out⟩

set_option maxRecDepth 100000 in
theorem lifted (os : Os) (started : os.Started) (H : Type) (enc : TypeId × Value → H) :
    ReturnsInHanded {} Try.checked os 4 .any (Rows.packetBackSpec.pre6 enc Try.prog Try.f4 Rows.packetBackRow.domain false) (Rows.packetBackSpec.post enc Try.prog Try.f4 false true false false) := by
  refine returnsInHanded_of_change_sized (C := Try.checked) own started (by kernel_rfl) Try.func4
    (ChangeSpec.witness6 (enc := enc) (C := Try.checked) false ⟨#[], #[.agg #[.int .u8 0, .int .u8 0, .string ByteArray.empty], .string ByteArray.empty, .string ByteArray.empty], []⟩ 8 (by kernel_rfl) (by kernel_rfl) (by kernel_rfl) (by kernel_rfl)) ?_
  intro W base args ds gs before hval0 hW hcnd hsz0 _
  have hsz : (DataW.weightsEach Try.prog (Try.f4.params.toList ++ Rows.packetBackSpec.plain.varTypes Try.prog) (ds ++ gs)).all (· ≤ reachBytes) = true := hsz0
  have hval : ∀ (j : Nat) t v, Try.f4.params[j]? = some t → args[j]? = some v → Value.okWide Try.prog W .any base t v := hval0
  have hW' := hW
  obtain ⟨p, q, hA0, hV, rfl, hfz, hnd⟩ := hW
  have hlt := hW'.lt
  have hA : DataW.TrodAll enc Try.prog W 0 (fun _ => true) true Try.f4.params.toList args.toList ds p := hA0
  rw [Try.params4] at hA hval hsz
  obtain ⟨v0, vs0, d0, ds0, p0, q0, hargs, rfl, rfl, h0, r0⟩ := trodAll_cons hA
  obtain ⟨v1, vs1, d1, ds1, p1, q1, rfl, rfl, rfl, h1, r1⟩ := trodAll_cons r0
  obtain ⟨v2, vs2, d2, ds2, p2, q2, rfl, rfl, rfl, h2, r2⟩ := trodAll_cons r1
  obtain ⟨rfl, rfl, rfl⟩ := trodAll_nil r2
  obtain rfl : args = #[v0, v1, v2] := by cases args; simp_all
  obtain ⟨rfl, rfl⟩ := trodVars_none hV
  obtain ⟨c0, i0, a0, rfl, z0⟩ := pk3_of Try.underlying23 (by kernel_rfl) (by kernel_rfl) Try.underlying5 Try.underlying5 Try.underlying9 (hval 0 23 v0 rfl rfl) h0 (fun n hn => of_decide_eq_true (List.all_eq_true.1 hsz n (DataW.weights_mem_each (j := 0) (t := 23) rfl rfl n hn)))
  obtain ⟨a1, rfl, rfl, rfl, w1⟩ := open_string Try.underlying9 (hval 1 9 v1 rfl rfl) h1
  obtain ⟨a2, rfl, rfl, rfl, w2⟩ := open_string Try.underlying9 (hval 2 9 v2 rfl rfl) h2
  have z1 : a1.size ≤ 140737488351232 := by have h := sized_string hsz (j := 1) (t := 9) rfl rfl; rw [Array.length_toList] at h; exact h
  have z2 : a2.size ≤ 140737488351232 := by have h := sized_string hsz (j := 2) (t := 9) rfl rfl; rw [Array.length_toList] at h; exact h
  clear hA0 hval0 hsz0
  exact (walk c0 i0 a0 a1 a2 z0 z1 z2 W).mono fun e W' ⟨he, hb⟩ => ⟨_, he, law_post (t := 4) laidOut (by kernel_rfl) rfl rfl Try.underlying4 ⟨rfl, rfl, rfl⟩ hW' hb⟩

theorem over : Rows.packetBackRow.holds Try.pinned (OpenSpec.ofChange Rows.packetBackSpec) :=
  OpenClaim.holds_of_wide 4 Try.f4 rfl rfl rfl rfl rfl rfl rfl ⟨rfl, rfl, rfl, rfl, rfl⟩ rfl rfl rfl rfl rfl (by kernel_rfl) Try.func4 (by kernel_rfl)
    (of_decide_eq_true (by kernel_rfl)) (by unfold Func.isWrapper; first | (rw [if_pos (by decide +kernel)]; kernel_rfl) | (rw [if_neg (by decide +kernel)]; exact ⟨rfl, rfl⟩))
    (fun os started H enc _ => lifted os started H enc)

theorem proved : Rows.PacketBackSaid :=
  over
#print axioms proved
end Go.Proofs.Ytdecinfnilopfaa.PacketBack
