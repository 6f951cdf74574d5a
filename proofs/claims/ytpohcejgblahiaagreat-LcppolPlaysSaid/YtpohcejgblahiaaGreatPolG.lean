/- Contracts of acceptable and improved. -/
import Derived.Test.YtpohcejgblahiaaGreatGLcoC
import Derived.Test.YtpohcejgblahiaaGreatPolQ
import Derived.Test.YtpohcejgblahiaaGreatGLcoEq
import Derived.Test.YtpohcejgblahiaaGreatGOptRf
import Derived.Test.YtpohcejgblahiaaGreatGLcoK
import Derived.Test.YtpohcejgblahiaaGreatGLcoH
import Derived.Deep.CutRange
namespace Go.Proofs.YtpohcejgblahiaaGreat.Pol
open Go.RowKit Go.Proofs.YtpohcejgblahiaaGreat.Oct Go.Proofs.YtpohcejgblahiaaGreat.Row Go.Proofs.YtpohcejgblahiaaGreat.Mem Go.Proofs.YtpohcejgblahiaaGreat.Opt Go.Proofs.YtpohcejgblahiaaGreat.Lco

theorem boxO (w : World) (o : Opt) : ∃ W, w.alloc (.cells #[.int .u8 o.1.toNat, .string o.2] 51) = W ∧ Hid (At W w.heap.size o ∧ Below w.heap.size w W ∧ W.heap.size = w.heap.size + 1) :=
  ⟨_, rfl, at_new w o.1 o.2, (Below.refl w.heap.size w).alloc (Nat.le_refl _) _, by simp⟩
theorem u8_ne0 (v : UInt8) : ((v.toNat : Int) != 0) = (v != 0) := by
  rw [Bool.eq_iff_iff, bne_iff_ne, bne_iff_ne]
  exact ⟨fun h e => h (by rw [e]; rfl), fun h e => h (UInt8.toNat_inj.1 (by show v.toNat = 0; omega))⟩
set_option maxHeartbeats 1000000 in
set_option maxRecDepth 100000 in
theorem acceptable_any (g : Nat) (p : Po) (o : Opt) (w : World) (h : PAt w g p) (hd : o.2.size ≤ 140737488351232) : Calls Tryz.prog 54 #[.pointer (some ⟨g, 0, none⟩), .agg #[.int .u8 o.1.toNat, .string o.2]] w fun e w' => e = .returned (.bool (acc p o)) ∧ Below w.heap.size w w' := by
  obtain ⟨W, hW, HW⟩ := boxO w o
  have HB := Lib.hid HW.out.2.1
  have c0 := HW.out.1.c0
  have c1 := HW.out.1.c1
  have hP : PAt W g p := h.callee HB.out
  have p14 : W.cell? ⟨g, 14, none⟩ = some (.int .u8 p.c.can.toNat) := hP.c 14
  by_cases h3 : o.1 = 3
  · have hx : ((o.1.toNat : Int) == 3) = true := u8_is (n := 3) (by rw [h3]; rfl)
    have hz := u8_ne0 p.c.can
    have HE : Hid (acc p o = (p.c.can != 0)) := if_pos h3
    clear h3 hP h HW
    go_enter Tryz.func54, Tryz.ntmps54
    go_wp2
    go_ret
    exact ⟨by rw [HE.out] <;> simp, HB.out⟩
  · have hx : ((o.1.toNat : Int) == 3) = false := u8_not (n := 3) (u8_isnt (by omega) h3)
    have HE : Hid (acc p o = good o) := if_neg h3
    have C1 := Lib.hid (good_any o.1 o.2 W (by unfold maxLen; omega))
    clear h3 hP h HW
    go_enter Tryz.func54, Tryz.ntmps54
    go_wp2_with fail
    refine C1.out.mono ?_
    rintro e w1 ⟨rfl, hb1⟩
    have HB1 := Lib.hid (HB.out.trans (hb1.mono HB.out.size))
    clear hb1
    go_wp2
    go_ret
    exact ⟨by rw [HE.out] <;> rfl, HB1.out⟩
/-- The three boxes ahead. -/
theorem boxI (w : World) (o : Opt) (a b c : Value) : ∃ W, ((w.alloc (.cells #[.int .u8 o.1.toNat, .string o.2] 51)).alloc (.cells #[a, b, c] 84)).alloc (.cells #[.int .u8 0, .string ⟨#[]⟩] 51) = W ∧ Hid (At W w.heap.size o ∧ Blk W (w.heap.size + 1) [a, b, c] 84 ∧ At W (w.heap.size + 1 + 1) (0, ⟨#[]⟩) ∧ Below w.heap.size w W ∧ W.heap.size = w.heap.size + 1 + 1 + 1) := by
  refine ⟨_, rfl, ((at_new w o.1 o.2).alloc _).alloc _, ?_, ?_, (((Below.refl w.heap.size w).alloc (Nat.le_refl _) _).alloc (by simp) _).alloc (by simp; omega) _, by simp⟩
  · have := (blk_new (w.alloc (.cells #[.int .u8 o.1.toNat, .string o.2] 51)) [a, b, c] 84).alloc (.cells #[.int .u8 0, .string ⟨#[]⟩] 51)
    rw [World.size_alloc] at this
    exact this
  · have := at_new ((w.alloc (.cells #[.int .u8 o.1.toNat, .string o.2] 51)).alloc (.cells #[a, b, c] 84)) 0 ⟨#[]⟩
    rw [World.size_alloc, World.size_alloc] at this
    exact this
set_option maxRecDepth 100000 in
/-- A named result that is an option. -/
theorem opt_end {f : Func} {p : Nat} (hf : f.results = #[.cell p 51]) (tmps : Array Value) {W : World} {g : Nat} (o : Opt) (h : At W g o) (hp : tmps.getD p undef = .pointer (some ⟨g, 0, none⟩)) :
    (results f tmps).run Tryz.prog W = .ok (.agg #[.int .u8 o.1.toNat, .string o.2]) W := results_cell_row hf tmps W g _ _ _ _ hp h Tryz.underlying51 rfl (by kernel_rfl)
set_option maxHeartbeats 4000000 in
set_option maxRecDepth 100000 in
theorem improved_any (g : Nat) (p : Po) (o : Opt) (w : World) (h : PAt w g p) (ha : acc p o = true) (hd : o.2.size ≤ 140737488351232) :
    Calls Tryz.prog 55 #[.pointer (some ⟨g, 0, none⟩), .agg #[.int .u8 o.1.toNat, .string o.2], .agg #[.func (.func (fB o.1)) #[] #[], .func (.func (fN o.1)) #[] #[], .func (.func (fX o.1)) #[] #[]]] w fun e w' => e = .returned (.agg #[.int .u8 (sug p o).1.toNat, .string (sug p o).2]) ∧ Below w.heap.size w w' := by
  have hk := acc_known ha
  have HT := Lib.hid (fun g p x w h => bet_any hk g p x w h)
  have hE := fB_enters hk
  have HM := Lib.hid (bet_ok ha).1
  have HS := Lib.hid (sug_found ha)
  have HQ : Hid (lo o = lo o) := rfl
  clear ha hk
  obtain ⟨W, hW, HW⟩ := boxI w o (.func (.func (fB o.1)) #[] #[]) (.func (.func (fN o.1)) #[] #[]) (.func (.func (fX o.1)) #[] #[])
  generalize fB o.1 = F1 at *
  generalize fN o.1 = F2 at *
  generalize fX o.1 = F3 at *
  have HB := Lib.hid HW.out.2.2.2.1
  have HP := Lib.hid (h.callee HB.out)
  have c0 := HW.out.1.c0
  have c1 := HW.out.1.c1
  have HO := Lib.hid HW.out.1
  have HF := Lib.hid HW.out.2.1
  have HR := Lib.hid HW.out.2.2.1
  have HSZ := Lib.hid HW.out.2.2.2.2
  have HG := Lib.hid (get_row [o] (some ⟨W.heap.size, 0, none⟩) 1 1 (W.alloc (.cells #[.int .u8 o.1.toNat, .string o.2] 51)) (one_opt W o hd) (by omega))
  clear h HW
  go_enter Tryz.func55, Tryz.ntmps55
  go_wp2_with fail
  refine HG.out.mono ?_
  rintro e w1 ⟨A, c, rfl, _, hb1⟩
  clear hW
  have HB1 := Lib.hid (((Below.refl W.heap.size W).alloc (Nat.le_refl _) (.cells #[.int .u8 o.1.toNat, .string o.2] 51)).trans (hb1.mono (by simp)))
  clear hb1 HG
  rw [show Lco.gL [o] = lo o from rfl]
  generalize (gO [o]).length = n1
  generalize gE [o] = e1
  generalize lo o = x at *
  obtain ⟨V, hV, HV⟩ := boxL w1 x
  have HB2 : Hid (Below W.heap.size W V) := HB1.out.trans (HV.out.2.1.mono HB1.out.size)
  have HB3 := Lib.hid (HB.out.trans (HB2.out.mono HB.out.size))
  have HP2 := Lib.hid (HP.out.callee HB2.out)
  have HO2 := Lib.hid (HO.out.callee HB2.out)
  have HR2 := Lib.hid (HR.out.callee HB2.out)
  have HF2 := Lib.hid (Blk.callee HF.out HB2.out)
  have k0 : V.cell? ⟨w.heap.size + 1, 0, none⟩ = some (.func (.func F1) #[] #[]) := Blk.at_ HF2.out 0
  obtain ⟨d0, d1, d2, d3, d4, d5, d7, d8⟩ := cells8 HV.out.1
  have d6 : V.cell? ⟨w1.heap.size, 6, none⟩ = some (.int .u32 x.magic.toNat) := HV.out.1.c 6
  unfold lv
  go_wp2_with fail
  refine (HT.out g p x _ HP2.out).mono ?_
  rintro e w2 ⟨rfl, hb2⟩
  have HB4 := Lib.hid (HB3.out.trans (hb2.mono HB3.out.size))
  have HO4 := Lib.hid (HO2.out.callee hb2)
  have HR4 := Lib.hid (HR2.out.callee hb2)
  clear hb2 HT hE k0 HF2 HP2 HO2 HR2 HB2 HB3 HB1 HF HO HR hV HV d0 d1 d2 d3 d4 d5 d6 d7 d8
  generalize bet p o.1 x = y at *
  go_wp2_with fail
  refine (put_yes y _ HM.out).mono ?_
  rintro e w3 ⟨A2, c2, rfl, hO3, hb3⟩
  have HB5 := Lib.hid (HB4.out.trans (hb3.mono HB4.out.size))
  have HO5 := Lib.hid (HO4.out.callee hb3)
  have HR5 := Lib.hid (HR4.out.callee hb3)
  have HL5 := Lib.hid hO3
  have t0 := HO5.out.c0
  clear hb3 hO3 HO4 HR4 HB4
  go_wp2_with fail
  refine (find_any o.1 (put y) _ A2 _ c2 w3 HL5.out (by have := put_len6 y; unfold maxLen; omega) (Nat.le_refl _)).mono ?_
  rintro e w4 ⟨rfl, hb4⟩
  rw [HS.out]
  have HB6 := Lib.hid (HB5.out.trans (hb4.mono HB5.out.size))
  have HR6 := Lib.hid (HR5.out.callee hb4)
  clear hb4 HL5 HS HB5 HR5 HO5 t0 c0 c1
  obtain ⟨V, hV, HV⟩ := boxO w4 (sug p o)
  generalize hr : sug p o = r at *
  have HRR := Lib.hid hr
  clear hr
  have HR7 := Lib.hid (HR6.out.callee HV.out.2.1)
  have v0 := HV.out.1.c0
  have v1 := HV.out.1.c1
  have f0 := Blk.frozen HR7.out 0
  have f1 := Blk.frozen HR7.out 1
  have z0 := HR7.out.c0
  have z1 := HR7.out.c1
  have HB7 := Lib.hid (HB6.out.trans (HV.out.2.1.mono HB6.out.size))
  go_wp2
  (try simp only [Exit.inBlock, Exit.then])
  refine bodyPost_ret (opt_end rfl _ r (HR7.out.set r) rfl) rfl ?_
  exact ⟨by rw [HRR.out], (HB7.out.setCell (p := ⟨w.heap.size + 1 + 1, 0, none⟩) (by show w.heap.size ≤ w.heap.size + 1 + 1; omega) _).setCell (p := ⟨w.heap.size + 1 + 1, 1, none⟩) (by show w.heap.size ≤ w.heap.size + 1 + 1; omega) _⟩
end Go.Proofs.YtpohcejgblahiaaGreat.Pol
