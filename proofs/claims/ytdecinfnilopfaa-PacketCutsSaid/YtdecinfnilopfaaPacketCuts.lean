/- PROVED: 'halyardlaw07.PacketCuts' returns true for every two packets and every number, and leaves them as they were. No condition. -/
import Derived.Test.YtdecinfnilopfaaPktF
import Derived.Test.YtdecinfnilopfaaPk3
import Derived.Test.YtdecinfnilopfaaLaw
import Derived.Test.YtdecinfnilopfaaRows
import Derived.SizedLaws
namespace Go.Proofs.Ytdecinfnilopfaa.PacketCuts
open Go.ChangeShapes Go.WideShapes Go.ChangeAt Go.RowKit Go.Proofs.Ytdecinfnilopfaa.Oct Go.Proofs.Ytdecinfnilopfaa.Row Go.Proofs.Ytdecinfnilopfaa.Pkt Go.Proofs.Ytdecinfnilopfaa.Law
open Go.ChangeMaps (open_string shut_string)

theorem cut_get (c i : UInt8) (d X : ByteArray) (hX : bOf (enc c i d.toList) = X) (hd : d.size ≤ 1496) (k : Nat) : ∃ j : Nat, (k : Int) % (X.size : Int) = (j : Int) ∧ 0 < X.size ∧ (j : Int) ≤ (X.size : Int) ∧ X.toList.isEmpty = false ∧ X.size ≤ 1500 ∧
    (∀ w, Calls Try.prog 10 #[.string (X.extract 0 j)] w fun e w' => e = .returned (.tuple #[.agg #[.int .u8 0, .int .u8 0, .string ⟨#[]⟩], .int .i64 0, .int .i64 6]) ∧ Below w.heap.size w w') := by
  subst hX
  have hz : (bOf (enc c i d.toList)).size = d.size + 4 := by rw [size_bOf, enc_length, ← size_toList]
  have hj : k % (d.size + 4) < d.size + 4 := Nat.mod_lt _ (by omega)
  have he := gE_cut c i d.toList (by rw [← size_toList]; exact hd) (k % (d.size + 4)) (by rw [← size_toList]; exact hj)
  refine ⟨k % (d.size + 4), by rw [hz]; rfl, by omega, by omega, by rw [toList_bOf]; rfl, by omega, fun w => ?_⟩
  have h := get_no ((bOf (enc c i d.toList)).extract 0 (k % (d.size + 4))) w (by rw [extract_front, size_bOf, List.length_take, toList_bOf, enc_length, ← size_toList]; omega) (by rw [extract_front, toList_bOf, toList_bOf, he]; decide)
  rw [show gE ((bOf (enc c i d.toList)).extract 0 (k % (d.size + 4))).toList = 6 by rw [extract_front, toList_bOf, toList_bOf, he]] at h
  exact h
theorem no_byte {c d : UInt8} (h : ¬ c = d) : ((c.toNat : Int) == (d.toNat : Int)) = false := by
  rw [beq_eq_false_iff_ne]
  intro e
  exact h (UInt8.toNat_inj.1 (by omega))
theorem no_text {s t : ByteArray} (h : ¬ s = t) : (s.toList == t.toList) = false := by
  rw [beq_toList]
  exact decide_eq_false fun e => h (toList_inj e)
theorem no_enc {c i c' i' : UInt8} {d d' X Y : ByteArray} (hX : bOf (enc c i d.toList) = X) (hY : bOf (enc c' i' d'.toList) = Y) (h : ¬ (c = c' ∧ i = i' ∧ d = d')) : (X.toList == Y.toList) = false := by
  subst hX hY
  rw [beq_toList, toList_bOf, toList_bOf]
  exact decide_eq_false fun e => h ⟨(enc_inj.1 e).1, (enc_inj.1 e).2.1, toList_inj (enc_inj.1 e).2.2⟩
set_option maxHeartbeats 4000000 in
set_option maxRecDepth 100000 in
theorem walk (c i : UInt8) (d : ByteArray) (c' i' : UInt8) (d' : ByteArray) (k : Nat) (hd : d.size ≤ 140737488351232) (hd' : d'.size ≤ 140737488351232) (hk : k < 65536) (w : World) :
    Calls Try.prog 5 #[.agg #[.int .u8 c.toNat, .int .u8 i.toNat, .string d], .agg #[.int .u8 c'.toNat, .int .u8 i'.toNat, .string d'], .int .u16 k] w fun e w' => e = .returned (.bool true) ∧ Below w.heap.size w w' := by
  by_cases h : 8192 < (d.size : Int) + (d'.size : Int)
  · have HH0 := Lib.hid (Below.refl w.heap.size w)
    have HP := Lib.hid (at_new w c i d : At (w.alloc (.cells #[.int .u8 c.toNat, .int .u8 i.toNat, .string d] 23)) w.heap.size c i d)
    have HH0 := Lib.hid (HH0.out.alloc HH0.out.size _ : Below w.heap.size w (w.alloc (.cells #[.int .u8 c.toNat, .int .u8 i.toNat, .string d] 23)))
    have HP := Lib.hid (HP.out.alloc _ : At ((w.alloc (.cells #[.int .u8 c.toNat, .int .u8 i.toNat, .string d] 23)).alloc (.cells #[.int .u8 c'.toNat, .int .u8 i'.toNat, .string d'] 23)) w.heap.size c i d)
    have HQ := Lib.hid (at_new (w.alloc (.cells #[.int .u8 c.toNat, .int .u8 i.toNat, .string d] 23)) c' i' d' : At ((w.alloc (.cells #[.int .u8 c.toNat, .int .u8 i.toNat, .string d] 23)).alloc (.cells #[.int .u8 c'.toNat, .int .u8 i'.toNat, .string d'] 23)) (w.alloc (.cells #[.int .u8 c.toNat, .int .u8 i.toNat, .string d] 23)).heap.size c' i' d')
    have HH0 := Lib.hid (HH0.out.alloc HH0.out.size _ : Below w.heap.size w ((w.alloc (.cells #[.int .u8 c.toNat, .int .u8 i.toNat, .string d] 23)).alloc (.cells #[.int .u8 c'.toNat, .int .u8 i'.toNat, .string d'] 23)))
    rw [World.size_alloc] at HQ
    go_enter Try.func5, Try.ntmps5
    go_wp2_with fail
    refine (alive_any _).mono ?_
    rintro e w1 ⟨rfl, hb1⟩
    have HP := Lib.hid (HP.out.callee hb1)
    have HQ := Lib.hid (HQ.out.callee hb1)
    have HH1 := Lib.hid (HH0.out.trans (hb1.mono HH0.out.size))
    clear hb1
    go_wp2
    go_ret
    exact ⟨rfl, HH1.out⟩
  · by_cases hl : 1496 < d.size
    · have HH0 := Lib.hid (Below.refl w.heap.size w)
      have HP := Lib.hid (at_new w c i d : At (w.alloc (.cells #[.int .u8 c.toNat, .int .u8 i.toNat, .string d] 23)) w.heap.size c i d)
      have HH0 := Lib.hid (HH0.out.alloc HH0.out.size _ : Below w.heap.size w (w.alloc (.cells #[.int .u8 c.toNat, .int .u8 i.toNat, .string d] 23)))
      have HP := Lib.hid (HP.out.alloc _ : At ((w.alloc (.cells #[.int .u8 c.toNat, .int .u8 i.toNat, .string d] 23)).alloc (.cells #[.int .u8 c'.toNat, .int .u8 i'.toNat, .string d'] 23)) w.heap.size c i d)
      have HQ := Lib.hid (at_new (w.alloc (.cells #[.int .u8 c.toNat, .int .u8 i.toNat, .string d] 23)) c' i' d' : At ((w.alloc (.cells #[.int .u8 c.toNat, .int .u8 i.toNat, .string d] 23)).alloc (.cells #[.int .u8 c'.toNat, .int .u8 i'.toNat, .string d'] 23)) (w.alloc (.cells #[.int .u8 c.toNat, .int .u8 i.toNat, .string d] 23)).heap.size c' i' d')
      have HH0 := Lib.hid (HH0.out.alloc HH0.out.size _ : Below w.heap.size w ((w.alloc (.cells #[.int .u8 c.toNat, .int .u8 i.toNat, .string d] 23)).alloc (.cells #[.int .u8 c'.toNat, .int .u8 i'.toNat, .string d'] 23)))
      rw [World.size_alloc] at HQ
      have P1 := Lib.hid (fun w => put_long c i d w (by omega))
      have Q1 := Lib.hid (put_any c' i' d')
      go_enter Try.func5, Try.ntmps5
      go_wp2_with fail
      refine (P1.out _).mono ?_
      rintro e w1 ⟨rfl, hb1⟩
      have HP := Lib.hid (HP.out.callee hb1)
      have HQ := Lib.hid (HQ.out.callee hb1)
      have HH1 := Lib.hid (HH0.out.trans (hb1.mono HH0.out.size))
      clear hb1
      have cQ0 := HQ.out.c0
      have cQ1 := HQ.out.c1
      have cQ2 := HQ.out.c2
      go_wp2_with fail
      refine (Q1.out _).mono ?_
      rintro e w2 ⟨rfl, hb2⟩
      have HP := Lib.hid (HP.out.callee hb2)
      have HQ := Lib.hid (HQ.out.callee hb2)
      have HH2 := Lib.hid (HH1.out.trans (hb2.mono HH1.out.size))
      clear hb2
      go_wp2_with fail
      refine (alive_any _).mono ?_
      rintro e w3 ⟨rfl, hb3⟩
      have HP := Lib.hid (HP.out.callee hb3)
      have HQ := Lib.hid (HQ.out.callee hb3)
      have HH3 := Lib.hid (HH2.out.trans (hb3.mono HH2.out.size))
      clear hb3
      go_wp2
      go_ret
      exact ⟨rfl, HH3.out⟩
    · by_cases hl' : 1496 < d'.size
      · have HH0 := Lib.hid (Below.refl w.heap.size w)
        have HP := Lib.hid (at_new w c i d : At (w.alloc (.cells #[.int .u8 c.toNat, .int .u8 i.toNat, .string d] 23)) w.heap.size c i d)
        have HH0 := Lib.hid (HH0.out.alloc HH0.out.size _ : Below w.heap.size w (w.alloc (.cells #[.int .u8 c.toNat, .int .u8 i.toNat, .string d] 23)))
        have HP := Lib.hid (HP.out.alloc _ : At ((w.alloc (.cells #[.int .u8 c.toNat, .int .u8 i.toNat, .string d] 23)).alloc (.cells #[.int .u8 c'.toNat, .int .u8 i'.toNat, .string d'] 23)) w.heap.size c i d)
        have HQ := Lib.hid (at_new (w.alloc (.cells #[.int .u8 c.toNat, .int .u8 i.toNat, .string d] 23)) c' i' d' : At ((w.alloc (.cells #[.int .u8 c.toNat, .int .u8 i.toNat, .string d] 23)).alloc (.cells #[.int .u8 c'.toNat, .int .u8 i'.toNat, .string d'] 23)) (w.alloc (.cells #[.int .u8 c.toNat, .int .u8 i.toNat, .string d] 23)).heap.size c' i' d')
        have HH0 := Lib.hid (HH0.out.alloc HH0.out.size _ : Below w.heap.size w ((w.alloc (.cells #[.int .u8 c.toNat, .int .u8 i.toNat, .string d] 23)).alloc (.cells #[.int .u8 c'.toNat, .int .u8 i'.toNat, .string d'] 23)))
        rw [World.size_alloc] at HQ
        have P1 := Lib.hid (fun w => put_yes c i d w (by omega))
        generalize bOf (enc c i d.toList) = X at *
        have Q1 := Lib.hid (fun w => put_long c' i' d' w (by omega))
        go_enter Try.func5, Try.ntmps5
        go_wp2_with fail
        refine (P1.out _).mono ?_
        rintro e w1 ⟨rfl, hb1⟩
        have HP := Lib.hid (HP.out.callee hb1)
        have HQ := Lib.hid (HQ.out.callee hb1)
        have HH1 := Lib.hid (HH0.out.trans (hb1.mono HH0.out.size))
        clear hb1
        have cQ0 := HQ.out.c0
        have cQ1 := HQ.out.c1
        have cQ2 := HQ.out.c2
        go_wp2_with fail
        refine (Q1.out _).mono ?_
        rintro e w2 ⟨rfl, hb2⟩
        have HP := Lib.hid (HP.out.callee hb2)
        have HQ := Lib.hid (HQ.out.callee hb2)
        have HH2 := Lib.hid (HH1.out.trans (hb2.mono HH1.out.size))
        clear hb2
        go_wp2_with fail
        refine (alive_any _).mono ?_
        rintro e w3 ⟨rfl, hb3⟩
        have HP := Lib.hid (HP.out.callee hb3)
        have HQ := Lib.hid (HQ.out.callee hb3)
        have HH3 := Lib.hid (HH2.out.trans (hb3.mono HH2.out.size))
        clear hb3
        go_wp2
        go_ret
        exact ⟨rfl, HH3.out⟩
      · obtain ⟨X, hX⟩ : ∃ X, bOf (enc c i d.toList) = X := ⟨_, rfl⟩
        obtain ⟨Y, hY⟩ : ∃ Y, bOf (enc c' i' d'.toList) = Y := ⟨_, rfl⟩
        by_cases e1 : c = c'
        · by_cases e2 : i = i'
          · by_cases e3 : d = d'
            · subst e1 e2 e3
              have hXY : Y = X := hY.symm.trans hX
              have hx4 := beq_self X
              have hx1 : ((c.toNat : Int) == (c.toNat : Int)) = true := by simp
              have hx2 : ((i.toNat : Int) == (i.toNat : Int)) = true := by simp
              have hx3 := beq_self d
              have HH0 := Lib.hid (Below.refl w.heap.size w)
              have HP := Lib.hid (at_new w c i d : At (w.alloc (.cells #[.int .u8 c.toNat, .int .u8 i.toNat, .string d] 23)) w.heap.size c i d)
              have HH0 := Lib.hid (HH0.out.alloc HH0.out.size _ : Below w.heap.size w (w.alloc (.cells #[.int .u8 c.toNat, .int .u8 i.toNat, .string d] 23)))
              have HP := Lib.hid (HP.out.alloc _ : At ((w.alloc (.cells #[.int .u8 c.toNat, .int .u8 i.toNat, .string d] 23)).alloc (.cells #[.int .u8 c.toNat, .int .u8 i.toNat, .string d] 23)) w.heap.size c i d)
              have HQ := Lib.hid (at_new (w.alloc (.cells #[.int .u8 c.toNat, .int .u8 i.toNat, .string d] 23)) c i d : At ((w.alloc (.cells #[.int .u8 c.toNat, .int .u8 i.toNat, .string d] 23)).alloc (.cells #[.int .u8 c.toNat, .int .u8 i.toNat, .string d] 23)) (w.alloc (.cells #[.int .u8 c.toNat, .int .u8 i.toNat, .string d] 23)).heap.size c i d)
              have HH0 := Lib.hid (HH0.out.alloc HH0.out.size _ : Below w.heap.size w ((w.alloc (.cells #[.int .u8 c.toNat, .int .u8 i.toNat, .string d] 23)).alloc (.cells #[.int .u8 c.toNat, .int .u8 i.toNat, .string d] 23)))
              rw [World.size_alloc] at HQ
              obtain ⟨j, hj1, hz, hj2, hxe, hxz, hG⟩ := cut_get c i d X hX (by omega) k
              have G1 := Lib.hid hG
              have P1 := Lib.hid (fun w => put_yes c i d w (by omega))
              have Q1 := Lib.hid (fun w => put_yes c i d w (by omega))
              rw [hX] at P1
              rw [hY] at Q1
              rw [hXY] at Q1
              clear Q1 hXY
              have hk1 : (0 : Int) ≤ k := by omega
              have hk2 : (k : Int) ≤ 65535 := by omega
              clear hX hY hG hk
              go_enter Try.func5, Try.ntmps5
              go_wp2_with fail
              refine (P1.out _).mono ?_
              rintro e w1 ⟨rfl, hb1⟩
              have HP := Lib.hid (HP.out.callee hb1)
              have HQ := Lib.hid (HQ.out.callee hb1)
              have HH1 := Lib.hid (HH0.out.trans (hb1.mono HH0.out.size))
              clear hb1
              have cQ0 := HQ.out.c0
              have cQ1 := HQ.out.c1
              have cQ2 := HQ.out.c2
              go_wp2_with fail
              refine (P1.out _).mono ?_
              rintro e w2 ⟨rfl, hb2⟩
              have HP := Lib.hid (HP.out.callee hb2)
              have HQ := Lib.hid (HQ.out.callee hb2)
              have HH2 := Lib.hid (HH1.out.trans (hb2.mono HH1.out.size))
              clear hb2
              go_wp2_with fail
              refine (G1.out _).mono ?_
              rintro e w3 ⟨rfl, hb3⟩
              have HP := Lib.hid (HP.out.callee hb3)
              have HQ := Lib.hid (HQ.out.callee hb3)
              have HH3 := Lib.hid (HH2.out.trans (hb3.mono HH2.out.size))
              clear hb3
              have HP := Lib.hid (HP.out.alloc _ : At (w3.alloc (.cells #[.int .u8 0, .int .u8 0, .string ⟨#[]⟩] 23)) w.heap.size c i d)
              have HQ := Lib.hid (HQ.out.alloc _ : At (w3.alloc (.cells #[.int .u8 0, .int .u8 0, .string ⟨#[]⟩] 23)) (w.heap.size + 1) c i d)
              have HZ := Lib.hid (at_new w3 (0 : UInt8) (0 : UInt8) ⟨#[]⟩ : At (w3.alloc (.cells #[.int .u8 0, .int .u8 0, .string ⟨#[]⟩] 23)) w3.heap.size (0 : UInt8) (0 : UInt8) ⟨#[]⟩)
              have HH3 := Lib.hid (HH3.out.alloc HH3.out.size _ : Below w.heap.size w (w3.alloc (.cells #[.int .u8 0, .int .u8 0, .string ⟨#[]⟩] 23)))
              have cP0 := HP.out.c0
              have cP1 := HP.out.c1
              have cP2 := HP.out.c2
              have cQ0 := HQ.out.c0
              have cQ1 := HQ.out.c1
              have cQ2 := HQ.out.c2
              go_wp2_with fail
              refine (alive_any _).mono ?_
              rintro e w4 ⟨rfl, hb4⟩
              have HP := Lib.hid (HP.out.callee hb4)
              have HQ := Lib.hid (HQ.out.callee hb4)
              have HZ := Lib.hid (HZ.out.callee hb4)
              have HH4 := Lib.hid (HH3.out.trans (hb4.mono HH3.out.size))
              clear hb4
              go_wp2
              go_ret
              exact ⟨rfl, HH4.out⟩
            · have hx4 := no_enc hX hY (fun h => e3 h.2.2)
              subst e1 e2
              have hx1 : ((c.toNat : Int) == (c.toNat : Int)) = true := by simp
              have hx2 : ((i.toNat : Int) == (i.toNat : Int)) = true := by simp
              have hx3 := no_text e3
              have HH0 := Lib.hid (Below.refl w.heap.size w)
              have HP := Lib.hid (at_new w c i d : At (w.alloc (.cells #[.int .u8 c.toNat, .int .u8 i.toNat, .string d] 23)) w.heap.size c i d)
              have HH0 := Lib.hid (HH0.out.alloc HH0.out.size _ : Below w.heap.size w (w.alloc (.cells #[.int .u8 c.toNat, .int .u8 i.toNat, .string d] 23)))
              have HP := Lib.hid (HP.out.alloc _ : At ((w.alloc (.cells #[.int .u8 c.toNat, .int .u8 i.toNat, .string d] 23)).alloc (.cells #[.int .u8 c.toNat, .int .u8 i.toNat, .string d'] 23)) w.heap.size c i d)
              have HQ := Lib.hid (at_new (w.alloc (.cells #[.int .u8 c.toNat, .int .u8 i.toNat, .string d] 23)) c i d' : At ((w.alloc (.cells #[.int .u8 c.toNat, .int .u8 i.toNat, .string d] 23)).alloc (.cells #[.int .u8 c.toNat, .int .u8 i.toNat, .string d'] 23)) (w.alloc (.cells #[.int .u8 c.toNat, .int .u8 i.toNat, .string d] 23)).heap.size c i d')
              have HH0 := Lib.hid (HH0.out.alloc HH0.out.size _ : Below w.heap.size w ((w.alloc (.cells #[.int .u8 c.toNat, .int .u8 i.toNat, .string d] 23)).alloc (.cells #[.int .u8 c.toNat, .int .u8 i.toNat, .string d'] 23)))
              rw [World.size_alloc] at HQ
              obtain ⟨j, hj1, hz, hj2, hxe, hxz, hG⟩ := cut_get c i d X hX (by omega) k
              have G1 := Lib.hid hG
              have P1 := Lib.hid (fun w => put_yes c i d w (by omega))
              have Q1 := Lib.hid (fun w => put_yes c i d' w (by omega))
              rw [hX] at P1
              rw [hY] at Q1
              clear e3
              have hk1 : (0 : Int) ≤ k := by omega
              have hk2 : (k : Int) ≤ 65535 := by omega
              clear hX hY hG hk
              go_enter Try.func5, Try.ntmps5
              go_wp2_with fail
              refine (P1.out _).mono ?_
              rintro e w1 ⟨rfl, hb1⟩
              have HP := Lib.hid (HP.out.callee hb1)
              have HQ := Lib.hid (HQ.out.callee hb1)
              have HH1 := Lib.hid (HH0.out.trans (hb1.mono HH0.out.size))
              clear hb1
              have cQ0 := HQ.out.c0
              have cQ1 := HQ.out.c1
              have cQ2 := HQ.out.c2
              go_wp2_with fail
              refine (Q1.out _).mono ?_
              rintro e w2 ⟨rfl, hb2⟩
              have HP := Lib.hid (HP.out.callee hb2)
              have HQ := Lib.hid (HQ.out.callee hb2)
              have HH2 := Lib.hid (HH1.out.trans (hb2.mono HH1.out.size))
              clear hb2
              go_wp2_with fail
              refine (G1.out _).mono ?_
              rintro e w3 ⟨rfl, hb3⟩
              have HP := Lib.hid (HP.out.callee hb3)
              have HQ := Lib.hid (HQ.out.callee hb3)
              have HH3 := Lib.hid (HH2.out.trans (hb3.mono HH2.out.size))
              clear hb3
              have HP := Lib.hid (HP.out.alloc _ : At (w3.alloc (.cells #[.int .u8 0, .int .u8 0, .string ⟨#[]⟩] 23)) w.heap.size c i d)
              have HQ := Lib.hid (HQ.out.alloc _ : At (w3.alloc (.cells #[.int .u8 0, .int .u8 0, .string ⟨#[]⟩] 23)) (w.heap.size + 1) c i d')
              have HZ := Lib.hid (at_new w3 (0 : UInt8) (0 : UInt8) ⟨#[]⟩ : At (w3.alloc (.cells #[.int .u8 0, .int .u8 0, .string ⟨#[]⟩] 23)) w3.heap.size (0 : UInt8) (0 : UInt8) ⟨#[]⟩)
              have HH3 := Lib.hid (HH3.out.alloc HH3.out.size _ : Below w.heap.size w (w3.alloc (.cells #[.int .u8 0, .int .u8 0, .string ⟨#[]⟩] 23)))
              have cP0 := HP.out.c0
              have cP1 := HP.out.c1
              have cP2 := HP.out.c2
              have cQ0 := HQ.out.c0
              have cQ1 := HQ.out.c1
              have cQ2 := HQ.out.c2
              go_wp2_with fail
              refine (alive_any _).mono ?_
              rintro e w4 ⟨rfl, hb4⟩
              have HP := Lib.hid (HP.out.callee hb4)
              have HQ := Lib.hid (HQ.out.callee hb4)
              have HZ := Lib.hid (HZ.out.callee hb4)
              have HH4 := Lib.hid (HH3.out.trans (hb4.mono HH3.out.size))
              clear hb4
              go_wp2
              go_ret
              exact ⟨rfl, HH4.out⟩
          · have hx4 := no_enc hX hY (fun h => e2 h.2.1)
            subst e1
            have hx1 : ((c.toNat : Int) == (c.toNat : Int)) = true := by simp
            have hx2 := no_byte e2
            have HH0 := Lib.hid (Below.refl w.heap.size w)
            have HP := Lib.hid (at_new w c i d : At (w.alloc (.cells #[.int .u8 c.toNat, .int .u8 i.toNat, .string d] 23)) w.heap.size c i d)
            have HH0 := Lib.hid (HH0.out.alloc HH0.out.size _ : Below w.heap.size w (w.alloc (.cells #[.int .u8 c.toNat, .int .u8 i.toNat, .string d] 23)))
            have HP := Lib.hid (HP.out.alloc _ : At ((w.alloc (.cells #[.int .u8 c.toNat, .int .u8 i.toNat, .string d] 23)).alloc (.cells #[.int .u8 c.toNat, .int .u8 i'.toNat, .string d'] 23)) w.heap.size c i d)
            have HQ := Lib.hid (at_new (w.alloc (.cells #[.int .u8 c.toNat, .int .u8 i.toNat, .string d] 23)) c i' d' : At ((w.alloc (.cells #[.int .u8 c.toNat, .int .u8 i.toNat, .string d] 23)).alloc (.cells #[.int .u8 c.toNat, .int .u8 i'.toNat, .string d'] 23)) (w.alloc (.cells #[.int .u8 c.toNat, .int .u8 i.toNat, .string d] 23)).heap.size c i' d')
            have HH0 := Lib.hid (HH0.out.alloc HH0.out.size _ : Below w.heap.size w ((w.alloc (.cells #[.int .u8 c.toNat, .int .u8 i.toNat, .string d] 23)).alloc (.cells #[.int .u8 c.toNat, .int .u8 i'.toNat, .string d'] 23)))
            rw [World.size_alloc] at HQ
            obtain ⟨j, hj1, hz, hj2, hxe, hxz, hG⟩ := cut_get c i d X hX (by omega) k
            have G1 := Lib.hid hG
            have P1 := Lib.hid (fun w => put_yes c i d w (by omega))
            have Q1 := Lib.hid (fun w => put_yes c i' d' w (by omega))
            rw [hX] at P1
            rw [hY] at Q1
            clear e2
            have hk1 : (0 : Int) ≤ k := by omega
            have hk2 : (k : Int) ≤ 65535 := by omega
            clear hX hY hG hk
            go_enter Try.func5, Try.ntmps5
            go_wp2_with fail
            refine (P1.out _).mono ?_
            rintro e w1 ⟨rfl, hb1⟩
            have HP := Lib.hid (HP.out.callee hb1)
            have HQ := Lib.hid (HQ.out.callee hb1)
            have HH1 := Lib.hid (HH0.out.trans (hb1.mono HH0.out.size))
            clear hb1
            have cQ0 := HQ.out.c0
            have cQ1 := HQ.out.c1
            have cQ2 := HQ.out.c2
            go_wp2_with fail
            refine (Q1.out _).mono ?_
            rintro e w2 ⟨rfl, hb2⟩
            have HP := Lib.hid (HP.out.callee hb2)
            have HQ := Lib.hid (HQ.out.callee hb2)
            have HH2 := Lib.hid (HH1.out.trans (hb2.mono HH1.out.size))
            clear hb2
            go_wp2_with fail
            refine (G1.out _).mono ?_
            rintro e w3 ⟨rfl, hb3⟩
            have HP := Lib.hid (HP.out.callee hb3)
            have HQ := Lib.hid (HQ.out.callee hb3)
            have HH3 := Lib.hid (HH2.out.trans (hb3.mono HH2.out.size))
            clear hb3
            have HP := Lib.hid (HP.out.alloc _ : At (w3.alloc (.cells #[.int .u8 0, .int .u8 0, .string ⟨#[]⟩] 23)) w.heap.size c i d)
            have HQ := Lib.hid (HQ.out.alloc _ : At (w3.alloc (.cells #[.int .u8 0, .int .u8 0, .string ⟨#[]⟩] 23)) (w.heap.size + 1) c i' d')
            have HZ := Lib.hid (at_new w3 (0 : UInt8) (0 : UInt8) ⟨#[]⟩ : At (w3.alloc (.cells #[.int .u8 0, .int .u8 0, .string ⟨#[]⟩] 23)) w3.heap.size (0 : UInt8) (0 : UInt8) ⟨#[]⟩)
            have HH3 := Lib.hid (HH3.out.alloc HH3.out.size _ : Below w.heap.size w (w3.alloc (.cells #[.int .u8 0, .int .u8 0, .string ⟨#[]⟩] 23)))
            have cP0 := HP.out.c0
            have cP1 := HP.out.c1
            have cP2 := HP.out.c2
            have cQ0 := HQ.out.c0
            have cQ1 := HQ.out.c1
            have cQ2 := HQ.out.c2
            go_wp2_with fail
            refine (alive_any _).mono ?_
            rintro e w4 ⟨rfl, hb4⟩
            have HP := Lib.hid (HP.out.callee hb4)
            have HQ := Lib.hid (HQ.out.callee hb4)
            have HZ := Lib.hid (HZ.out.callee hb4)
            have HH4 := Lib.hid (HH3.out.trans (hb4.mono HH3.out.size))
            clear hb4
            go_wp2
            go_ret
            exact ⟨rfl, HH4.out⟩
        · have hx4 := no_enc hX hY (fun h => e1 h.1)
          have hx1 := no_byte e1
          have HH0 := Lib.hid (Below.refl w.heap.size w)
          have HP := Lib.hid (at_new w c i d : At (w.alloc (.cells #[.int .u8 c.toNat, .int .u8 i.toNat, .string d] 23)) w.heap.size c i d)
          have HH0 := Lib.hid (HH0.out.alloc HH0.out.size _ : Below w.heap.size w (w.alloc (.cells #[.int .u8 c.toNat, .int .u8 i.toNat, .string d] 23)))
          have HP := Lib.hid (HP.out.alloc _ : At ((w.alloc (.cells #[.int .u8 c.toNat, .int .u8 i.toNat, .string d] 23)).alloc (.cells #[.int .u8 c'.toNat, .int .u8 i'.toNat, .string d'] 23)) w.heap.size c i d)
          have HQ := Lib.hid (at_new (w.alloc (.cells #[.int .u8 c.toNat, .int .u8 i.toNat, .string d] 23)) c' i' d' : At ((w.alloc (.cells #[.int .u8 c.toNat, .int .u8 i.toNat, .string d] 23)).alloc (.cells #[.int .u8 c'.toNat, .int .u8 i'.toNat, .string d'] 23)) (w.alloc (.cells #[.int .u8 c.toNat, .int .u8 i.toNat, .string d] 23)).heap.size c' i' d')
          have HH0 := Lib.hid (HH0.out.alloc HH0.out.size _ : Below w.heap.size w ((w.alloc (.cells #[.int .u8 c.toNat, .int .u8 i.toNat, .string d] 23)).alloc (.cells #[.int .u8 c'.toNat, .int .u8 i'.toNat, .string d'] 23)))
          rw [World.size_alloc] at HQ
          obtain ⟨j, hj1, hz, hj2, hxe, hxz, hG⟩ := cut_get c i d X hX (by omega) k
          have G1 := Lib.hid hG
          have P1 := Lib.hid (fun w => put_yes c i d w (by omega))
          have Q1 := Lib.hid (fun w => put_yes c' i' d' w (by omega))
          rw [hX] at P1
          rw [hY] at Q1
          clear e1
          have hk1 : (0 : Int) ≤ k := by omega
          have hk2 : (k : Int) ≤ 65535 := by omega
          clear hX hY hG hk
          go_enter Try.func5, Try.ntmps5
          go_wp2_with fail
          refine (P1.out _).mono ?_
          rintro e w1 ⟨rfl, hb1⟩
          have HP := Lib.hid (HP.out.callee hb1)
          have HQ := Lib.hid (HQ.out.callee hb1)
          have HH1 := Lib.hid (HH0.out.trans (hb1.mono HH0.out.size))
          clear hb1
          have cQ0 := HQ.out.c0
          have cQ1 := HQ.out.c1
          have cQ2 := HQ.out.c2
          go_wp2_with fail
          refine (Q1.out _).mono ?_
          rintro e w2 ⟨rfl, hb2⟩
          have HP := Lib.hid (HP.out.callee hb2)
          have HQ := Lib.hid (HQ.out.callee hb2)
          have HH2 := Lib.hid (HH1.out.trans (hb2.mono HH1.out.size))
          clear hb2
          go_wp2_with fail
          refine (G1.out _).mono ?_
          rintro e w3 ⟨rfl, hb3⟩
          have HP := Lib.hid (HP.out.callee hb3)
          have HQ := Lib.hid (HQ.out.callee hb3)
          have HH3 := Lib.hid (HH2.out.trans (hb3.mono HH2.out.size))
          clear hb3
          have HP := Lib.hid (HP.out.alloc _ : At (w3.alloc (.cells #[.int .u8 0, .int .u8 0, .string ⟨#[]⟩] 23)) w.heap.size c i d)
          have HQ := Lib.hid (HQ.out.alloc _ : At (w3.alloc (.cells #[.int .u8 0, .int .u8 0, .string ⟨#[]⟩] 23)) (w.heap.size + 1) c' i' d')
          have HZ := Lib.hid (at_new w3 (0 : UInt8) (0 : UInt8) ⟨#[]⟩ : At (w3.alloc (.cells #[.int .u8 0, .int .u8 0, .string ⟨#[]⟩] 23)) w3.heap.size (0 : UInt8) (0 : UInt8) ⟨#[]⟩)
          have HH3 := Lib.hid (HH3.out.alloc HH3.out.size _ : Below w.heap.size w (w3.alloc (.cells #[.int .u8 0, .int .u8 0, .string ⟨#[]⟩] 23)))
          have cP0 := HP.out.c0
          have cP1 := HP.out.c1
          have cP2 := HP.out.c2
          have cQ0 := HQ.out.c0
          have cQ1 := HQ.out.c1
          have cQ2 := HQ.out.c2
          go_wp2_with fail
          refine (alive_any _).mono ?_
          rintro e w4 ⟨rfl, hb4⟩
          have HP := Lib.hid (HP.out.callee hb4)
          have HQ := Lib.hid (HQ.out.callee hb4)
          have HZ := Lib.hid (HZ.out.callee hb4)
          have HH4 := Lib.hid (HH3.out.trans (hb4.mono HH3.out.size))
          clear hb4
          go_wp2
          go_ret
          exact ⟨rfl, HH4.out⟩

set_option maxRecDepth 100000 in
theorem lifted (os : Os) (started : os.Started) (H : Type) (enc : TypeId × Value → H) :
    ReturnsInHanded {} Try.checked os 5 .any (Rows.packetCutsSpec.pre6 enc Try.prog Try.f5 Rows.packetCutsRow.domain false) (Rows.packetCutsSpec.post enc Try.prog Try.f5 false true false false) := by
  refine returnsInHanded_of_change_sized (C := Try.checked) own started (by kernel_rfl) Try.func5
    (ChangeSpec.witness6 (enc := enc) (C := Try.checked) false ⟨#[], #[.agg #[.int .u8 0, .int .u8 0, .string ByteArray.empty], .agg #[.int .u8 0, .int .u8 0, .string ByteArray.empty], .int .u16 0], []⟩ 8 (by kernel_rfl) (by kernel_rfl) (by kernel_rfl) (by kernel_rfl)) ?_
  intro W base args ds gs before hval0 hW hcnd hsz0 _
  have hsz : (DataW.weightsEach Try.prog (Try.f5.params.toList ++ Rows.packetCutsSpec.plain.varTypes Try.prog) (ds ++ gs)).all (· ≤ reachBytes) = true := hsz0
  have hval : ∀ (j : Nat) t v, Try.f5.params[j]? = some t → args[j]? = some v → Value.okWide Try.prog W .any base t v := hval0
  have hW' := hW
  obtain ⟨p, q, hA0, hV, rfl, hfz, hnd⟩ := hW
  have hlt := hW'.lt
  have hA : DataW.TrodAll enc Try.prog W 0 (fun _ => true) true Try.f5.params.toList args.toList ds p := hA0
  rw [Try.params5] at hA hval hsz
  obtain ⟨v0, vs0, d0, ds0, p0, q0, hargs, rfl, rfl, h0, r0⟩ := trodAll_cons hA
  obtain ⟨v1, vs1, d1, ds1, p1, q1, rfl, rfl, rfl, h1, r1⟩ := trodAll_cons r0
  obtain ⟨v2, vs2, d2, ds2, p2, q2, rfl, rfl, rfl, h2, r2⟩ := trodAll_cons r1
  obtain ⟨rfl, rfl, rfl⟩ := trodAll_nil r2
  obtain rfl : args = #[v0, v1, v2] := by cases args; simp_all
  obtain ⟨rfl, rfl⟩ := trodVars_none hV
  obtain ⟨c0, i0, a0, rfl, z0⟩ := pk3_of Try.underlying23 (by kernel_rfl) (by kernel_rfl) Try.underlying5 Try.underlying5 Try.underlying9 (hval 0 23 v0 rfl rfl) h0 (fun n hn => of_decide_eq_true (List.all_eq_true.1 hsz n (DataW.weights_mem_each (j := 0) (t := 23) rfl rfl n hn)))
  obtain ⟨c1, i1, a1, rfl, z1⟩ := pk3_of Try.underlying23 (by kernel_rfl) (by kernel_rfl) Try.underlying5 Try.underlying5 Try.underlying9 (hval 1 23 v1 rfl rfl) h1 (fun n hn => of_decide_eq_true (List.all_eq_true.1 hsz n (DataW.weights_mem_each (j := 1) (t := 23) rfl rfl n hn)))
  obtain ⟨z2, rfl, rfl, rfl, w2⟩ := open_int Try.underlying24 (hval 2 24 v2 rfl rfl) h2
  obtain ⟨a2, rfl⟩ : ∃ n : Nat, z2 = n := ⟨z2.toNat, by have := bounds_u16 w2; omega⟩
  have b2 := bounds_u16 w2
  clear hA0 hval0 hsz0
  exact (walk c0 i0 a0 c1 i1 a1 a2 z0 z1 (by omega) W).mono fun e W' ⟨he, hb⟩ => ⟨_, he, law_post (t := 4) laidOut (by kernel_rfl) rfl rfl Try.underlying4 ⟨rfl, rfl, rfl⟩ hW' hb⟩

theorem over : Rows.packetCutsRow.holds Try.pinned (OpenSpec.ofChange Rows.packetCutsSpec) :=
  OpenClaim.holds_of_wide 5 Try.f5 rfl rfl rfl rfl rfl rfl rfl ⟨rfl, rfl, rfl, rfl, rfl⟩ rfl rfl rfl rfl rfl (by kernel_rfl) Try.func5 (by kernel_rfl)
    (of_decide_eq_true (by kernel_rfl)) (by unfold Func.isWrapper; first | (rw [if_pos (by decide +kernel)]; kernel_rfl) | (rw [if_neg (by decide +kernel)]; exact ⟨rfl, rfl⟩))
    (fun os started H enc _ => lifted os started H enc)

theorem proved : Rows.PacketCutsSaid :=
  over
#print axioms proved
end Go.Proofs.Ytdecinfnilopfaa.PacketCuts
