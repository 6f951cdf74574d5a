/- Put together: PolQcc, PolQce, PolQcf, PolQcz. -/
import Derived.Test.YtpohcejgblahiaaGreatGPolQc

/- The document's one, further cases. Written by gen/pol_qc.py. -/
set_option linter.unusedSimpArgs false
set_option linter.unusedVariables false
namespace Go.Proofs.YtpohcejgblahiaaGreat.Pol
open Go.RowKit Go.Proofs.YtpohcejgblahiaaGreat.Oct Go.Proofs.YtpohcejgblahiaaGreat.Row Go.Proofs.YtpohcejgblahiaaGreat.Mem Go.Proofs.YtpohcejgblahiaaGreat.Opt Go.Proofs.YtpohcejgblahiaaGreat.Lco

set_option maxHeartbeats 8000000 in
set_option maxRecDepth 100000 in
theorem one_mru (g : Nat) (p : Po) (o : Opt) (w : World) (h : RAt w g p) (hd : o.2.size ≤ 140737488351232) (h1 : o.1 = 1) (hg : good o = true) : Calls Tryz.prog 85 #[.pointer (some ⟨g, 0, none⟩), .agg #[.int .u8 o.1.toNat, .string o.2]] w (OneQ p o w) := by
  have HG : Hid (∀ w, Calls Tryz.prog 86 #[.agg #[.int .u8 o.1.toNat, .string o.2]] w fun e w' => e = .returned (.bool (good o)) ∧ Below w.heap.size w w') := fun w => rgood_any o.1 o.2 w
  have HS : Hid (∀ w, Calls Tryz.prog 87 #[.agg #[.int .u8 o.1.toNat, .string o.2]] w (BetQ (lo o) w)) := fun w => rsays_any o w hd
  have HK : Hid (∀ w, Calls Tryz.prog 111 #[.int .u8 o.1.toNat] w fun e w' => e = .returned (.bool (known o.1)) ∧ Below w.heap.size w w') := fun w => rknown_any o.1 w
  obtain ⟨W, hW, H0⟩ := boxOn w g p o h
  have c0 : W.cell? ⟨w.heap.size, 0, none⟩ = some (.int .u8 o.1.toNat) := H0.out.o.c0
  have c1 : W.cell? ⟨w.heap.size, 1, none⟩ = some (.string o.2) := H0.out.o.c1
  have z0 : W.cell? ⟨w.heap.size + 1, 0, none⟩ = some (.int .u8 0) := H0.out.z.c0
  have z1 : W.cell? ⟨w.heap.size + 1, 1, none⟩ = some (.string ⟨#[]⟩) := H0.out.z.c1
  have f0 : W.frozen? ⟨w.heap.size + 1, 0, none⟩ = false := Blk.frozen H0.out.z 0
  have f1 : W.frozen? ⟨w.heap.size + 1, 1, none⟩ = false := Blk.frozen H0.out.z 1
  clear h hd
  rw [good_known hg] at HK
  rw [hg] at HG
  have h3 : ¬ o.1 = 3 := by rw [h1]; decide
  have e3 : ((o.1.toNat : Int) == 3) = false := u8_not (u8_isnt (n := 3) (by decide) h3)
  have n3 : ((o.1.toNat : Int) != 3) = true := by rw [bne, e3]; rfl
  have e1 : ((o.1.toNat : Int) == 1) = true := by rw [h1]; rfl
  have n1 : ((o.1.toNat : Int) != 1) = false := by rw [h1]; rfl
  have hl : decide (((lo o).mru.toNat : Int) < 64) = decide ((lo o).mru < 64) := by have h : (lo o).mru < 64 ↔ (lo o).mru.toNat < 64 := UInt16.lt_iff_toNat_lt; rw [decide_eq_decide, h]; omega
  by_cases hm : (lo o).mru < 64
  · rw [decide_eq_true hm] at hl
    have HE := Lib.hid (mru_else (p := p) h1 hg hm)
    have HOn := hO_mru
    generalize bOf (numS 64 2) = ad at *
    clear h1 h3 hg hm
    generalize lo o = x at *
    go_enter Tryz.func85, Tryz.ntmps85
    go_wp2_with fail
    clear hW c0 c1 z0 z1 f0 f1
    refine (HG.out _).mono ?_
    rintro e w1 ⟨rfl, hb1⟩
    have H1 := Lib.hid (H0.out.callee hb1)
    clear hb1 HG H0
    have c0 : w1.cell? ⟨w.heap.size, 0, none⟩ = some (.int .u8 o.1.toNat) := H1.out.o.c0
    have c1 : w1.cell? ⟨w.heap.size, 1, none⟩ = some (.string o.2) := H1.out.o.c1
    have z0 : w1.cell? ⟨w.heap.size + 1, 0, none⟩ = some (.int .u8 0) := H1.out.z.c0
    have z1 : w1.cell? ⟨w.heap.size + 1, 1, none⟩ = some (.string ⟨#[]⟩) := H1.out.z.c1
    have f0 : w1.frozen? ⟨w.heap.size + 1, 0, none⟩ = false := Blk.frozen H1.out.z 0
    have f1 : w1.frozen? ⟨w.heap.size + 1, 1, none⟩ = false := Blk.frozen H1.out.z 1
    go_wp2_with fail
    clear c0 c1 z0 z1 f0 f1
    refine (HS.out _).mono ?_
    rintro e w2 ⟨rfl, hb2⟩
    have H2 := Lib.hid (H1.out.callee hb2)
    clear hb2 HS H1
    obtain ⟨V, hV, HV⟩ := boxL w2 x
    have H3 : Hid (Os w g p o w2.heap.size x V) := ⟨H2.out.o.callee HV.out.2.1, H2.out.z.callee HV.out.2.1, HV.out.1, H2.out.p.callee HV.out.2.1, H2.out.B.trans (HV.out.2.1.mono H2.out.B.size)⟩
    clear HV H2
    generalize hj : w2.heap.size = j at *
    unfold lv
    have c0 : V.cell? ⟨w.heap.size, 0, none⟩ = some (.int .u8 o.1.toNat) := H3.out.o.c0
    have c1 : V.cell? ⟨w.heap.size, 1, none⟩ = some (.string o.2) := H3.out.o.c1
    have z0 : V.cell? ⟨w.heap.size + 1, 0, none⟩ = some (.int .u8 0) := H3.out.z.c0
    have z1 : V.cell? ⟨w.heap.size + 1, 1, none⟩ = some (.string ⟨#[]⟩) := H3.out.z.c1
    have f0 : V.frozen? ⟨w.heap.size + 1, 0, none⟩ = false := Blk.frozen H3.out.z 0
    have f1 : V.frozen? ⟨w.heap.size + 1, 1, none⟩ = false := Blk.frozen H3.out.z 1
    have y1 : V.cell? ⟨j, 1, none⟩ = some (.int .u16 x.mru.toNat) := H3.out.y.c 1
    have y4 : V.cell? ⟨j, 4, none⟩ = some (.int .u8 x.auth.toNat) := H3.out.y.c 4
    have y6 : V.cell? ⟨j, 6, none⟩ = some (.int .u32 x.magic.toNat) := H3.out.y.c 6
    have p5 : V.cell? ⟨g, 5, none⟩ = some (.int .u8 p.c.can.toNat) := H3.out.p.c 5
    have p15 : V.cell? ⟨g, 15, none⟩ = some (.bool p.w.hg) := H3.out.p.c 15
    have p16 : V.cell? ⟨g, 16, none⟩ = some (.int .u32 p.w.magic.toNat) := H3.out.p.c 16
    go_wp2_with fail
    clear hV hj c0 c1 z0 z1 f0 f1 y1 y4 y6 p5 p15 p16
    refine (HK.out _).mono ?_
    rintro e w3 ⟨rfl, hb3⟩
    have H4 := Lib.hid (H3.out.callee hb3)
    clear hb3 HK H3
    have c0 : w3.cell? ⟨w.heap.size, 0, none⟩ = some (.int .u8 o.1.toNat) := H4.out.o.c0
    have c1 : w3.cell? ⟨w.heap.size, 1, none⟩ = some (.string o.2) := H4.out.o.c1
    have z0 : w3.cell? ⟨w.heap.size + 1, 0, none⟩ = some (.int .u8 0) := H4.out.z.c0
    have z1 : w3.cell? ⟨w.heap.size + 1, 1, none⟩ = some (.string ⟨#[]⟩) := H4.out.z.c1
    have f0 : w3.frozen? ⟨w.heap.size + 1, 0, none⟩ = false := Blk.frozen H4.out.z 0
    have f1 : w3.frozen? ⟨w.heap.size + 1, 1, none⟩ = false := Blk.frozen H4.out.z 1
    have y1 : w3.cell? ⟨j, 1, none⟩ = some (.int .u16 x.mru.toNat) := H4.out.y.c 1
    have y4 : w3.cell? ⟨j, 4, none⟩ = some (.int .u8 x.auth.toNat) := H4.out.y.c 4
    have y6 : w3.cell? ⟨j, 6, none⟩ = some (.int .u32 x.magic.toNat) := H4.out.y.c 6
    have p5 : w3.cell? ⟨g, 5, none⟩ = some (.int .u8 p.c.can.toNat) := H4.out.p.c 5
    have p15 : w3.cell? ⟨g, 15, none⟩ = some (.bool p.w.hg) := H4.out.p.c 15
    have p16 : w3.cell? ⟨g, 16, none⟩ = some (.int .u32 p.w.magic.toNat) := H4.out.p.c 16
    go_wp2_with fail
    clear c0 c1 z0 z1 f0 f1 y1 y4 y6 p5 p15 p16
    have c0 : ∀ q : HeldW (fun w' => Os w g p o j x w'), q.w.cell? ⟨w.heap.size, 0, none⟩ = some (.int .u8 o.1.toNat) := fun q => q.h.o.c0
    have y4 : ∀ q : HeldW (fun w' => Os w g p o j x w'), q.w.cell? ⟨j, 4, none⟩ = some (.int .u8 x.auth.toNat) := fun q => q.h.y.c 4
    have y6 : ∀ q : HeldW (fun w' => Os w g p o j x w'), q.w.cell? ⟨j, 6, none⟩ = some (.int .u32 x.magic.toNat) := fun q => q.h.y.c 6
    have p5 : ∀ q : HeldW (fun w' => Os w g p o j x w'), q.w.cell? ⟨g, 5, none⟩ = some (.int .u8 p.c.can.toNat) := fun q => q.h.p.c 5
    have p15 : ∀ q : HeldW (fun w' => Os w g p o j x w'), q.w.cell? ⟨g, 15, none⟩ = some (.bool p.w.hg) := fun q => q.h.p.c 15
    have p16 : ∀ q : HeldW (fun w' => Os w g p o j x w'), q.w.cell? ⟨g, 16, none⟩ = some (.int .u32 p.w.magic.toNat) := fun q => q.h.p.c 16
    have hne : Nonempty (HeldW (fun w' => Os w g p o j x w')) := ⟨⟨w3.drew, H4.out.drew⟩⟩
    refine wp_region_quiet_shut (fun w' => Os w g p o j x w') (by kernel_rfl) (by kernel_rfl) H4.out.drew (fun G hst hnil => ?_)
    repeat (
      refine hst.out _ _ _ (fun K hK => ?_)
      go_simp
      first
        | (refine hK _ ?_; clear hK K)
        | (apply Exists.intro
           refine ⟨fun _ => ?_, hK _ ?_⟩
           fail
           clear hK K))
    refine hnil.out _ (fun q => ?_)
    clear hnil hst
    have HQ := Lib.hid q.h
    clear c0 y4 y6 p5 p15 p16 hne
    obtain ⟨w5, hq_⟩ : ∃ W, q.w = W := ⟨_, rfl⟩
    rw [hq_] at HQ ⊢
    have H5 := HQ
    clear hq_ HQ
    have c0 : w5.cell? ⟨w.heap.size, 0, none⟩ = some (.int .u8 o.1.toNat) := H5.out.o.c0
    have c1 : w5.cell? ⟨w.heap.size, 1, none⟩ = some (.string o.2) := H5.out.o.c1
    have z0 : w5.cell? ⟨w.heap.size + 1, 0, none⟩ = some (.int .u8 0) := H5.out.z.c0
    have z1 : w5.cell? ⟨w.heap.size + 1, 1, none⟩ = some (.string ⟨#[]⟩) := H5.out.z.c1
    have f0 : w5.frozen? ⟨w.heap.size + 1, 0, none⟩ = false := Blk.frozen H5.out.z 0
    have f1 : w5.frozen? ⟨w.heap.size + 1, 1, none⟩ = false := Blk.frozen H5.out.z 1
    have y1 : w5.cell? ⟨j, 1, none⟩ = some (.int .u16 x.mru.toNat) := H5.out.y.c 1
    have y4 : w5.cell? ⟨j, 4, none⟩ = some (.int .u8 x.auth.toNat) := H5.out.y.c 4
    have y6 : w5.cell? ⟨j, 6, none⟩ = some (.int .u32 x.magic.toNat) := H5.out.y.c 6
    have p5 : w5.cell? ⟨g, 5, none⟩ = some (.int .u8 p.c.can.toNat) := H5.out.p.c 5
    have p15 : w5.cell? ⟨g, 15, none⟩ = some (.bool p.w.hg) := H5.out.p.c 15
    have p16 : w5.cell? ⟨g, 16, none⟩ = some (.int .u32 p.w.magic.toNat) := H5.out.p.c 16
    go_wp2_with fail
    clear c0 c1 z0 z1 f0 f1 y1 y4 y6 p5 p15 p16
    refine (HOn.out _).mono ?_
    rintro e w8 ⟨rfl, hb8⟩
    have H8 := Lib.hid (H5.out.callee hb8)
    clear hb8 H5 HOn
    have c0 : w8.cell? ⟨w.heap.size, 0, none⟩ = some (.int .u8 o.1.toNat) := H8.out.o.c0
    have c1 : w8.cell? ⟨w.heap.size, 1, none⟩ = some (.string o.2) := H8.out.o.c1
    have z0 : w8.cell? ⟨w.heap.size + 1, 0, none⟩ = some (.int .u8 0) := H8.out.z.c0
    have z1 : w8.cell? ⟨w.heap.size + 1, 1, none⟩ = some (.string ⟨#[]⟩) := H8.out.z.c1
    have f0 : w8.frozen? ⟨w.heap.size + 1, 0, none⟩ = false := Blk.frozen H8.out.z 0
    have f1 : w8.frozen? ⟨w.heap.size + 1, 1, none⟩ = false := Blk.frozen H8.out.z 1
    have y1 : w8.cell? ⟨j, 1, none⟩ = some (.int .u16 x.mru.toNat) := H8.out.y.c 1
    have y4 : w8.cell? ⟨j, 4, none⟩ = some (.int .u8 x.auth.toNat) := H8.out.y.c 4
    have y6 : w8.cell? ⟨j, 6, none⟩ = some (.int .u32 x.magic.toNat) := H8.out.y.c 6
    have p5 : w8.cell? ⟨g, 5, none⟩ = some (.int .u8 p.c.can.toNat) := H8.out.p.c 5
    have p15 : w8.cell? ⟨g, 15, none⟩ = some (.bool p.w.hg) := H8.out.p.c 15
    have p16 : w8.cell? ⟨g, 16, none⟩ = some (.int .u32 p.w.magic.toNat) := H8.out.p.c 16
    go_wp2
    (try simp only [Exit.inBlock, Exit.then])
    refine bodyPost_ret (results_row0 rfl _ _ (w.heap.size + 1) _ _ _ rfl (H8.out.z.set (1, ad)) Tryz.underlying51 rfl (by kernel_rfl)) rfl ?_
    unfold OneQ
    rw [HE.out.1, HE.out.2]
    exact ⟨rfl, (H8.out.B.setCell (p := ⟨w.heap.size + 1, 0, none⟩) (Nat.le_succ _) _).setCell (p := ⟨w.heap.size + 1, 1, none⟩) (Nat.le_succ _) _⟩
  · rw [decide_eq_false hm] at hl
    have HE := Lib.hid (mru_same (p := p) h1 hg hm)
    have h5 : ¬ o.1 = 5 := by rw [h1]; decide
    have e5 : ((o.1.toNat : Int) == 5) = false := u8_not (u8_isnt (n := 5) (by decide) h5)
    have n5 : ((o.1.toNat : Int) != 5) = true := by rw [bne, e5]; rfl
    clear h1 h3 h5 hg hm
    generalize lo o = x at *
    go_enter Tryz.func85, Tryz.ntmps85
    go_wp2_with fail
    clear hW c0 c1 z0 z1 f0 f1
    refine (HG.out _).mono ?_
    rintro e w1 ⟨rfl, hb1⟩
    have H1 := Lib.hid (H0.out.callee hb1)
    clear hb1 HG H0
    have c0 : w1.cell? ⟨w.heap.size, 0, none⟩ = some (.int .u8 o.1.toNat) := H1.out.o.c0
    have c1 : w1.cell? ⟨w.heap.size, 1, none⟩ = some (.string o.2) := H1.out.o.c1
    have z0 : w1.cell? ⟨w.heap.size + 1, 0, none⟩ = some (.int .u8 0) := H1.out.z.c0
    have z1 : w1.cell? ⟨w.heap.size + 1, 1, none⟩ = some (.string ⟨#[]⟩) := H1.out.z.c1
    have f0 : w1.frozen? ⟨w.heap.size + 1, 0, none⟩ = false := Blk.frozen H1.out.z 0
    have f1 : w1.frozen? ⟨w.heap.size + 1, 1, none⟩ = false := Blk.frozen H1.out.z 1
    go_wp2_with fail
    clear c0 c1 z0 z1 f0 f1
    refine (HS.out _).mono ?_
    rintro e w2 ⟨rfl, hb2⟩
    have H2 := Lib.hid (H1.out.callee hb2)
    clear hb2 HS H1
    obtain ⟨V, hV, HV⟩ := boxL w2 x
    have H3 : Hid (Os w g p o w2.heap.size x V) := ⟨H2.out.o.callee HV.out.2.1, H2.out.z.callee HV.out.2.1, HV.out.1, H2.out.p.callee HV.out.2.1, H2.out.B.trans (HV.out.2.1.mono H2.out.B.size)⟩
    clear HV H2
    generalize hj : w2.heap.size = j at *
    unfold lv
    have c0 : V.cell? ⟨w.heap.size, 0, none⟩ = some (.int .u8 o.1.toNat) := H3.out.o.c0
    have c1 : V.cell? ⟨w.heap.size, 1, none⟩ = some (.string o.2) := H3.out.o.c1
    have z0 : V.cell? ⟨w.heap.size + 1, 0, none⟩ = some (.int .u8 0) := H3.out.z.c0
    have z1 : V.cell? ⟨w.heap.size + 1, 1, none⟩ = some (.string ⟨#[]⟩) := H3.out.z.c1
    have f0 : V.frozen? ⟨w.heap.size + 1, 0, none⟩ = false := Blk.frozen H3.out.z 0
    have f1 : V.frozen? ⟨w.heap.size + 1, 1, none⟩ = false := Blk.frozen H3.out.z 1
    have y1 : V.cell? ⟨j, 1, none⟩ = some (.int .u16 x.mru.toNat) := H3.out.y.c 1
    have y4 : V.cell? ⟨j, 4, none⟩ = some (.int .u8 x.auth.toNat) := H3.out.y.c 4
    have y6 : V.cell? ⟨j, 6, none⟩ = some (.int .u32 x.magic.toNat) := H3.out.y.c 6
    have p5 : V.cell? ⟨g, 5, none⟩ = some (.int .u8 p.c.can.toNat) := H3.out.p.c 5
    have p15 : V.cell? ⟨g, 15, none⟩ = some (.bool p.w.hg) := H3.out.p.c 15
    have p16 : V.cell? ⟨g, 16, none⟩ = some (.int .u32 p.w.magic.toNat) := H3.out.p.c 16
    go_wp2_with fail
    clear hV hj c0 c1 z0 z1 f0 f1 y1 y4 y6 p5 p15 p16
    refine (HK.out _).mono ?_
    rintro e w3 ⟨rfl, hb3⟩
    have H4 := Lib.hid (H3.out.callee hb3)
    clear hb3 HK H3
    have c0 : w3.cell? ⟨w.heap.size, 0, none⟩ = some (.int .u8 o.1.toNat) := H4.out.o.c0
    have c1 : w3.cell? ⟨w.heap.size, 1, none⟩ = some (.string o.2) := H4.out.o.c1
    have z0 : w3.cell? ⟨w.heap.size + 1, 0, none⟩ = some (.int .u8 0) := H4.out.z.c0
    have z1 : w3.cell? ⟨w.heap.size + 1, 1, none⟩ = some (.string ⟨#[]⟩) := H4.out.z.c1
    have f0 : w3.frozen? ⟨w.heap.size + 1, 0, none⟩ = false := Blk.frozen H4.out.z 0
    have f1 : w3.frozen? ⟨w.heap.size + 1, 1, none⟩ = false := Blk.frozen H4.out.z 1
    have y1 : w3.cell? ⟨j, 1, none⟩ = some (.int .u16 x.mru.toNat) := H4.out.y.c 1
    have y4 : w3.cell? ⟨j, 4, none⟩ = some (.int .u8 x.auth.toNat) := H4.out.y.c 4
    have y6 : w3.cell? ⟨j, 6, none⟩ = some (.int .u32 x.magic.toNat) := H4.out.y.c 6
    have p5 : w3.cell? ⟨g, 5, none⟩ = some (.int .u8 p.c.can.toNat) := H4.out.p.c 5
    have p15 : w3.cell? ⟨g, 15, none⟩ = some (.bool p.w.hg) := H4.out.p.c 15
    have p16 : w3.cell? ⟨g, 16, none⟩ = some (.int .u32 p.w.magic.toNat) := H4.out.p.c 16
    go_wp2_with fail
    clear c0 c1 z0 z1 f0 f1 y1 y4 y6 p5 p15 p16
    have c0 : ∀ q : HeldW (fun w' => Os w g p o j x w'), q.w.cell? ⟨w.heap.size, 0, none⟩ = some (.int .u8 o.1.toNat) := fun q => q.h.o.c0
    have y4 : ∀ q : HeldW (fun w' => Os w g p o j x w'), q.w.cell? ⟨j, 4, none⟩ = some (.int .u8 x.auth.toNat) := fun q => q.h.y.c 4
    have y6 : ∀ q : HeldW (fun w' => Os w g p o j x w'), q.w.cell? ⟨j, 6, none⟩ = some (.int .u32 x.magic.toNat) := fun q => q.h.y.c 6
    have p5 : ∀ q : HeldW (fun w' => Os w g p o j x w'), q.w.cell? ⟨g, 5, none⟩ = some (.int .u8 p.c.can.toNat) := fun q => q.h.p.c 5
    have p15 : ∀ q : HeldW (fun w' => Os w g p o j x w'), q.w.cell? ⟨g, 15, none⟩ = some (.bool p.w.hg) := fun q => q.h.p.c 15
    have p16 : ∀ q : HeldW (fun w' => Os w g p o j x w'), q.w.cell? ⟨g, 16, none⟩ = some (.int .u32 p.w.magic.toNat) := fun q => q.h.p.c 16
    have hne : Nonempty (HeldW (fun w' => Os w g p o j x w')) := ⟨⟨w3.drew, H4.out.drew⟩⟩
    refine wp_region_quiet_shut (fun w' => Os w g p o j x w') (by kernel_rfl) (by kernel_rfl) H4.out.drew (fun G hst hnil => ?_)
    repeat (
      refine hst.out _ _ _ (fun K hK => ?_)
      go_simp
      first
        | (refine hK _ ?_; clear hK K)
        | (apply Exists.intro
           refine ⟨fun _ => ?_, hK _ ?_⟩
           fail
           clear hK K))
    refine hnil.out _ (fun q => ?_)
    clear hnil hst
    have HQ := Lib.hid q.h
    clear c0 y4 y6 p5 p15 p16 hne
    obtain ⟨w5, hq_⟩ : ∃ W, q.w = W := ⟨_, rfl⟩
    rw [hq_] at HQ ⊢
    have H5 := HQ
    clear hq_ HQ
    have c0 : w5.cell? ⟨w.heap.size, 0, none⟩ = some (.int .u8 o.1.toNat) := H5.out.o.c0
    have c1 : w5.cell? ⟨w.heap.size, 1, none⟩ = some (.string o.2) := H5.out.o.c1
    have z0 : w5.cell? ⟨w.heap.size + 1, 0, none⟩ = some (.int .u8 0) := H5.out.z.c0
    have z1 : w5.cell? ⟨w.heap.size + 1, 1, none⟩ = some (.string ⟨#[]⟩) := H5.out.z.c1
    have f0 : w5.frozen? ⟨w.heap.size + 1, 0, none⟩ = false := Blk.frozen H5.out.z 0
    have f1 : w5.frozen? ⟨w.heap.size + 1, 1, none⟩ = false := Blk.frozen H5.out.z 1
    have y1 : w5.cell? ⟨j, 1, none⟩ = some (.int .u16 x.mru.toNat) := H5.out.y.c 1
    have y4 : w5.cell? ⟨j, 4, none⟩ = some (.int .u8 x.auth.toNat) := H5.out.y.c 4
    have y6 : w5.cell? ⟨j, 6, none⟩ = some (.int .u32 x.magic.toNat) := H5.out.y.c 6
    have p5 : w5.cell? ⟨g, 5, none⟩ = some (.int .u8 p.c.can.toNat) := H5.out.p.c 5
    have p15 : w5.cell? ⟨g, 15, none⟩ = some (.bool p.w.hg) := H5.out.p.c 15
    have p16 : w5.cell? ⟨g, 16, none⟩ = some (.int .u32 p.w.magic.toNat) := H5.out.p.c 16
    go_wp2_with fail
    clear c0 c1 z0 z1 f0 f1 y1 y4 y6 p5 p15 p16
    have c0 : ∀ q : HeldW (fun w' => Os w g p o j x w'), q.w.cell? ⟨w.heap.size, 0, none⟩ = some (.int .u8 o.1.toNat) := fun q => q.h.o.c0
    have y4 : ∀ q : HeldW (fun w' => Os w g p o j x w'), q.w.cell? ⟨j, 4, none⟩ = some (.int .u8 x.auth.toNat) := fun q => q.h.y.c 4
    have y6 : ∀ q : HeldW (fun w' => Os w g p o j x w'), q.w.cell? ⟨j, 6, none⟩ = some (.int .u32 x.magic.toNat) := fun q => q.h.y.c 6
    have p5 : ∀ q : HeldW (fun w' => Os w g p o j x w'), q.w.cell? ⟨g, 5, none⟩ = some (.int .u8 p.c.can.toNat) := fun q => q.h.p.c 5
    have p15 : ∀ q : HeldW (fun w' => Os w g p o j x w'), q.w.cell? ⟨g, 15, none⟩ = some (.bool p.w.hg) := fun q => q.h.p.c 15
    have p16 : ∀ q : HeldW (fun w' => Os w g p o j x w'), q.w.cell? ⟨g, 16, none⟩ = some (.int .u32 p.w.magic.toNat) := fun q => q.h.p.c 16
    have hne : Nonempty (HeldW (fun w' => Os w g p o j x w')) := ⟨⟨w5.drew, H5.out.drew⟩⟩
    refine wp_region_quiet_shut (fun w' => Os w g p o j x w') (by kernel_rfl) (by kernel_rfl) H5.out.drew (fun G hst hnil => ?_)
    repeat (
      refine hst.out _ _ _ (fun K hK => ?_)
      go_simp
      first
        | (refine hK _ ?_; clear hK K)
        | (apply Exists.intro
           refine ⟨fun _ => ?_, hK _ ?_⟩
           fail
           clear hK K))
    refine hnil.out _ (fun q => ?_)
    clear hnil hst
    have HQ := Lib.hid q.h
    clear c0 y4 y6 p5 p15 p16 hne
    obtain ⟨w6, hq_⟩ : ∃ W, q.w = W := ⟨_, rfl⟩
    rw [hq_] at HQ ⊢
    have H6 := HQ
    clear hq_ HQ
    have c0 : w6.cell? ⟨w.heap.size, 0, none⟩ = some (.int .u8 o.1.toNat) := H6.out.o.c0
    have c1 : w6.cell? ⟨w.heap.size, 1, none⟩ = some (.string o.2) := H6.out.o.c1
    have z0 : w6.cell? ⟨w.heap.size + 1, 0, none⟩ = some (.int .u8 0) := H6.out.z.c0
    have z1 : w6.cell? ⟨w.heap.size + 1, 1, none⟩ = some (.string ⟨#[]⟩) := H6.out.z.c1
    have f0 : w6.frozen? ⟨w.heap.size + 1, 0, none⟩ = false := Blk.frozen H6.out.z 0
    have f1 : w6.frozen? ⟨w.heap.size + 1, 1, none⟩ = false := Blk.frozen H6.out.z 1
    have y1 : w6.cell? ⟨j, 1, none⟩ = some (.int .u16 x.mru.toNat) := H6.out.y.c 1
    have y4 : w6.cell? ⟨j, 4, none⟩ = some (.int .u8 x.auth.toNat) := H6.out.y.c 4
    have y6 : w6.cell? ⟨j, 6, none⟩ = some (.int .u32 x.magic.toNat) := H6.out.y.c 6
    have p5 : w6.cell? ⟨g, 5, none⟩ = some (.int .u8 p.c.can.toNat) := H6.out.p.c 5
    have p15 : w6.cell? ⟨g, 15, none⟩ = some (.bool p.w.hg) := H6.out.p.c 15
    have p16 : w6.cell? ⟨g, 16, none⟩ = some (.int .u32 p.w.magic.toNat) := H6.out.p.c 16
    go_wp2_with fail
    go_region
    go_wp2
    (try simp only [Exit.inBlock, Exit.then])
    refine bodyPost_ret (results_row0 rfl _ _ (w.heap.size + 1) _ _ _ rfl (H6.out.drew.z.set (o)) Tryz.underlying51 rfl (by kernel_rfl)) rfl ?_
    unfold OneQ
    rw [HE.out.1, HE.out.2]
    exact ⟨rfl, (H6.out.drew.B.setCell (p := ⟨w.heap.size + 1, 0, none⟩) (Nat.le_succ _) _).setCell (p := ⟨w.heap.size + 1, 1, none⟩) (Nat.le_succ _) _⟩
set_option maxHeartbeats 8000000 in
set_option maxRecDepth 100000 in
theorem one_plain (g : Nat) (p : Po) (o : Opt) (w : World) (h : RAt w g p) (hd : o.2.size ≤ 140737488351232) (hg : good o = true) (h1 : ¬ o.1 = 1) (h3 : ¬ o.1 = 3) (h5 : ¬ o.1 = 5) : Calls Tryz.prog 85 #[.pointer (some ⟨g, 0, none⟩), .agg #[.int .u8 o.1.toNat, .string o.2]] w (OneQ p o w) := by
  have HG : Hid (∀ w, Calls Tryz.prog 86 #[.agg #[.int .u8 o.1.toNat, .string o.2]] w fun e w' => e = .returned (.bool (good o)) ∧ Below w.heap.size w w') := fun w => rgood_any o.1 o.2 w
  have HS : Hid (∀ w, Calls Tryz.prog 87 #[.agg #[.int .u8 o.1.toNat, .string o.2]] w (BetQ (lo o) w)) := fun w => rsays_any o w hd
  have HK : Hid (∀ w, Calls Tryz.prog 111 #[.int .u8 o.1.toNat] w fun e w' => e = .returned (.bool (known o.1)) ∧ Below w.heap.size w w') := fun w => rknown_any o.1 w
  obtain ⟨W, hW, H0⟩ := boxOn w g p o h
  have c0 : W.cell? ⟨w.heap.size, 0, none⟩ = some (.int .u8 o.1.toNat) := H0.out.o.c0
  have c1 : W.cell? ⟨w.heap.size, 1, none⟩ = some (.string o.2) := H0.out.o.c1
  have z0 : W.cell? ⟨w.heap.size + 1, 0, none⟩ = some (.int .u8 0) := H0.out.z.c0
  have z1 : W.cell? ⟨w.heap.size + 1, 1, none⟩ = some (.string ⟨#[]⟩) := H0.out.z.c1
  have f0 : W.frozen? ⟨w.heap.size + 1, 0, none⟩ = false := Blk.frozen H0.out.z 0
  have f1 : W.frozen? ⟨w.heap.size + 1, 1, none⟩ = false := Blk.frozen H0.out.z 1
  clear h hd
  rw [good_known hg] at HK
  rw [hg] at HG
  have e1 : ((o.1.toNat : Int) == 1) = false := u8_not (u8_isnt (n := 1) (by decide) h1)
  have n1 : ((o.1.toNat : Int) != 1) = true := by rw [bne, e1]; rfl
  have e3 : ((o.1.toNat : Int) == 3) = false := u8_not (u8_isnt (n := 3) (by decide) h3)
  have n3 : ((o.1.toNat : Int) != 3) = true := by rw [bne, e3]; rfl
  have e5 : ((o.1.toNat : Int) == 5) = false := u8_not (u8_isnt (n := 5) (by decide) h5)
  have n5 : ((o.1.toNat : Int) != 5) = true := by rw [bne, e5]; rfl
  have HE := Lib.hid (plain_same (p := p) hg h1 h3 h5)
  clear hg h1 h3 h5
  generalize lo o = x at *
  go_enter Tryz.func85, Tryz.ntmps85
  go_wp2_with fail
  clear hW c0 c1 z0 z1 f0 f1
  refine (HG.out _).mono ?_
  rintro e w1 ⟨rfl, hb1⟩
  have H1 := Lib.hid (H0.out.callee hb1)
  clear hb1 HG H0
  have c0 : w1.cell? ⟨w.heap.size, 0, none⟩ = some (.int .u8 o.1.toNat) := H1.out.o.c0
  have c1 : w1.cell? ⟨w.heap.size, 1, none⟩ = some (.string o.2) := H1.out.o.c1
  have z0 : w1.cell? ⟨w.heap.size + 1, 0, none⟩ = some (.int .u8 0) := H1.out.z.c0
  have z1 : w1.cell? ⟨w.heap.size + 1, 1, none⟩ = some (.string ⟨#[]⟩) := H1.out.z.c1
  have f0 : w1.frozen? ⟨w.heap.size + 1, 0, none⟩ = false := Blk.frozen H1.out.z 0
  have f1 : w1.frozen? ⟨w.heap.size + 1, 1, none⟩ = false := Blk.frozen H1.out.z 1
  go_wp2_with fail
  clear c0 c1 z0 z1 f0 f1
  refine (HS.out _).mono ?_
  rintro e w2 ⟨rfl, hb2⟩
  have H2 := Lib.hid (H1.out.callee hb2)
  clear hb2 HS H1
  obtain ⟨V, hV, HV⟩ := boxL w2 x
  have H3 : Hid (Os w g p o w2.heap.size x V) := ⟨H2.out.o.callee HV.out.2.1, H2.out.z.callee HV.out.2.1, HV.out.1, H2.out.p.callee HV.out.2.1, H2.out.B.trans (HV.out.2.1.mono H2.out.B.size)⟩
  clear HV H2
  generalize hj : w2.heap.size = j at *
  unfold lv
  have c0 : V.cell? ⟨w.heap.size, 0, none⟩ = some (.int .u8 o.1.toNat) := H3.out.o.c0
  have c1 : V.cell? ⟨w.heap.size, 1, none⟩ = some (.string o.2) := H3.out.o.c1
  have z0 : V.cell? ⟨w.heap.size + 1, 0, none⟩ = some (.int .u8 0) := H3.out.z.c0
  have z1 : V.cell? ⟨w.heap.size + 1, 1, none⟩ = some (.string ⟨#[]⟩) := H3.out.z.c1
  have f0 : V.frozen? ⟨w.heap.size + 1, 0, none⟩ = false := Blk.frozen H3.out.z 0
  have f1 : V.frozen? ⟨w.heap.size + 1, 1, none⟩ = false := Blk.frozen H3.out.z 1
  have y1 : V.cell? ⟨j, 1, none⟩ = some (.int .u16 x.mru.toNat) := H3.out.y.c 1
  have y4 : V.cell? ⟨j, 4, none⟩ = some (.int .u8 x.auth.toNat) := H3.out.y.c 4
  have y6 : V.cell? ⟨j, 6, none⟩ = some (.int .u32 x.magic.toNat) := H3.out.y.c 6
  have p5 : V.cell? ⟨g, 5, none⟩ = some (.int .u8 p.c.can.toNat) := H3.out.p.c 5
  have p15 : V.cell? ⟨g, 15, none⟩ = some (.bool p.w.hg) := H3.out.p.c 15
  have p16 : V.cell? ⟨g, 16, none⟩ = some (.int .u32 p.w.magic.toNat) := H3.out.p.c 16
  go_wp2_with fail
  clear hV hj c0 c1 z0 z1 f0 f1 y1 y4 y6 p5 p15 p16
  refine (HK.out _).mono ?_
  rintro e w3 ⟨rfl, hb3⟩
  have H4 := Lib.hid (H3.out.callee hb3)
  clear hb3 HK H3
  have c0 : w3.cell? ⟨w.heap.size, 0, none⟩ = some (.int .u8 o.1.toNat) := H4.out.o.c0
  have c1 : w3.cell? ⟨w.heap.size, 1, none⟩ = some (.string o.2) := H4.out.o.c1
  have z0 : w3.cell? ⟨w.heap.size + 1, 0, none⟩ = some (.int .u8 0) := H4.out.z.c0
  have z1 : w3.cell? ⟨w.heap.size + 1, 1, none⟩ = some (.string ⟨#[]⟩) := H4.out.z.c1
  have f0 : w3.frozen? ⟨w.heap.size + 1, 0, none⟩ = false := Blk.frozen H4.out.z 0
  have f1 : w3.frozen? ⟨w.heap.size + 1, 1, none⟩ = false := Blk.frozen H4.out.z 1
  have y1 : w3.cell? ⟨j, 1, none⟩ = some (.int .u16 x.mru.toNat) := H4.out.y.c 1
  have y4 : w3.cell? ⟨j, 4, none⟩ = some (.int .u8 x.auth.toNat) := H4.out.y.c 4
  have y6 : w3.cell? ⟨j, 6, none⟩ = some (.int .u32 x.magic.toNat) := H4.out.y.c 6
  have p5 : w3.cell? ⟨g, 5, none⟩ = some (.int .u8 p.c.can.toNat) := H4.out.p.c 5
  have p15 : w3.cell? ⟨g, 15, none⟩ = some (.bool p.w.hg) := H4.out.p.c 15
  have p16 : w3.cell? ⟨g, 16, none⟩ = some (.int .u32 p.w.magic.toNat) := H4.out.p.c 16
  go_wp2_with fail
  clear c0 c1 z0 z1 f0 f1 y1 y4 y6 p5 p15 p16
  have c0 : ∀ q : HeldW (fun w' => Os w g p o j x w'), q.w.cell? ⟨w.heap.size, 0, none⟩ = some (.int .u8 o.1.toNat) := fun q => q.h.o.c0
  have y4 : ∀ q : HeldW (fun w' => Os w g p o j x w'), q.w.cell? ⟨j, 4, none⟩ = some (.int .u8 x.auth.toNat) := fun q => q.h.y.c 4
  have y6 : ∀ q : HeldW (fun w' => Os w g p o j x w'), q.w.cell? ⟨j, 6, none⟩ = some (.int .u32 x.magic.toNat) := fun q => q.h.y.c 6
  have p5 : ∀ q : HeldW (fun w' => Os w g p o j x w'), q.w.cell? ⟨g, 5, none⟩ = some (.int .u8 p.c.can.toNat) := fun q => q.h.p.c 5
  have p15 : ∀ q : HeldW (fun w' => Os w g p o j x w'), q.w.cell? ⟨g, 15, none⟩ = some (.bool p.w.hg) := fun q => q.h.p.c 15
  have p16 : ∀ q : HeldW (fun w' => Os w g p o j x w'), q.w.cell? ⟨g, 16, none⟩ = some (.int .u32 p.w.magic.toNat) := fun q => q.h.p.c 16
  have hne : Nonempty (HeldW (fun w' => Os w g p o j x w')) := ⟨⟨w3.drew, H4.out.drew⟩⟩
  refine wp_region_quiet_shut (fun w' => Os w g p o j x w') (by kernel_rfl) (by kernel_rfl) H4.out.drew (fun G hst hnil => ?_)
  repeat (
    refine hst.out _ _ _ (fun K hK => ?_)
    go_simp
    first
      | (refine hK _ ?_; clear hK K)
      | (apply Exists.intro
         refine ⟨fun _ => ?_, hK _ ?_⟩
         fail
         clear hK K))
  refine hnil.out _ (fun q => ?_)
  clear hnil hst
  have HQ := Lib.hid q.h
  clear c0 y4 y6 p5 p15 p16 hne
  obtain ⟨w5, hq_⟩ : ∃ W, q.w = W := ⟨_, rfl⟩
  rw [hq_] at HQ ⊢
  have H5 := HQ
  clear hq_ HQ
  have c0 : w5.cell? ⟨w.heap.size, 0, none⟩ = some (.int .u8 o.1.toNat) := H5.out.o.c0
  have c1 : w5.cell? ⟨w.heap.size, 1, none⟩ = some (.string o.2) := H5.out.o.c1
  have z0 : w5.cell? ⟨w.heap.size + 1, 0, none⟩ = some (.int .u8 0) := H5.out.z.c0
  have z1 : w5.cell? ⟨w.heap.size + 1, 1, none⟩ = some (.string ⟨#[]⟩) := H5.out.z.c1
  have f0 : w5.frozen? ⟨w.heap.size + 1, 0, none⟩ = false := Blk.frozen H5.out.z 0
  have f1 : w5.frozen? ⟨w.heap.size + 1, 1, none⟩ = false := Blk.frozen H5.out.z 1
  have y1 : w5.cell? ⟨j, 1, none⟩ = some (.int .u16 x.mru.toNat) := H5.out.y.c 1
  have y4 : w5.cell? ⟨j, 4, none⟩ = some (.int .u8 x.auth.toNat) := H5.out.y.c 4
  have y6 : w5.cell? ⟨j, 6, none⟩ = some (.int .u32 x.magic.toNat) := H5.out.y.c 6
  have p5 : w5.cell? ⟨g, 5, none⟩ = some (.int .u8 p.c.can.toNat) := H5.out.p.c 5
  have p15 : w5.cell? ⟨g, 15, none⟩ = some (.bool p.w.hg) := H5.out.p.c 15
  have p16 : w5.cell? ⟨g, 16, none⟩ = some (.int .u32 p.w.magic.toNat) := H5.out.p.c 16
  go_wp2_with fail
  clear c0 c1 z0 z1 f0 f1 y1 y4 y6 p5 p15 p16
  have c0 : ∀ q : HeldW (fun w' => Os w g p o j x w'), q.w.cell? ⟨w.heap.size, 0, none⟩ = some (.int .u8 o.1.toNat) := fun q => q.h.o.c0
  have y4 : ∀ q : HeldW (fun w' => Os w g p o j x w'), q.w.cell? ⟨j, 4, none⟩ = some (.int .u8 x.auth.toNat) := fun q => q.h.y.c 4
  have y6 : ∀ q : HeldW (fun w' => Os w g p o j x w'), q.w.cell? ⟨j, 6, none⟩ = some (.int .u32 x.magic.toNat) := fun q => q.h.y.c 6
  have p5 : ∀ q : HeldW (fun w' => Os w g p o j x w'), q.w.cell? ⟨g, 5, none⟩ = some (.int .u8 p.c.can.toNat) := fun q => q.h.p.c 5
  have p15 : ∀ q : HeldW (fun w' => Os w g p o j x w'), q.w.cell? ⟨g, 15, none⟩ = some (.bool p.w.hg) := fun q => q.h.p.c 15
  have p16 : ∀ q : HeldW (fun w' => Os w g p o j x w'), q.w.cell? ⟨g, 16, none⟩ = some (.int .u32 p.w.magic.toNat) := fun q => q.h.p.c 16
  have hne : Nonempty (HeldW (fun w' => Os w g p o j x w')) := ⟨⟨w5.drew, H5.out.drew⟩⟩
  refine wp_region_quiet_shut (fun w' => Os w g p o j x w') (by kernel_rfl) (by kernel_rfl) H5.out.drew (fun G hst hnil => ?_)
  repeat (
    refine hst.out _ _ _ (fun K hK => ?_)
    go_simp
    first
      | (refine hK _ ?_; clear hK K)
      | (apply Exists.intro
         refine ⟨fun _ => ?_, hK _ ?_⟩
         fail
         clear hK K))
  refine hnil.out _ (fun q => ?_)
  clear hnil hst
  have HQ := Lib.hid q.h
  clear c0 y4 y6 p5 p15 p16 hne
  obtain ⟨w6, hq_⟩ : ∃ W, q.w = W := ⟨_, rfl⟩
  rw [hq_] at HQ ⊢
  have H6 := HQ
  clear hq_ HQ
  have c0 : w6.cell? ⟨w.heap.size, 0, none⟩ = some (.int .u8 o.1.toNat) := H6.out.o.c0
  have c1 : w6.cell? ⟨w.heap.size, 1, none⟩ = some (.string o.2) := H6.out.o.c1
  have z0 : w6.cell? ⟨w.heap.size + 1, 0, none⟩ = some (.int .u8 0) := H6.out.z.c0
  have z1 : w6.cell? ⟨w.heap.size + 1, 1, none⟩ = some (.string ⟨#[]⟩) := H6.out.z.c1
  have f0 : w6.frozen? ⟨w.heap.size + 1, 0, none⟩ = false := Blk.frozen H6.out.z 0
  have f1 : w6.frozen? ⟨w.heap.size + 1, 1, none⟩ = false := Blk.frozen H6.out.z 1
  have y1 : w6.cell? ⟨j, 1, none⟩ = some (.int .u16 x.mru.toNat) := H6.out.y.c 1
  have y4 : w6.cell? ⟨j, 4, none⟩ = some (.int .u8 x.auth.toNat) := H6.out.y.c 4
  have y6 : w6.cell? ⟨j, 6, none⟩ = some (.int .u32 x.magic.toNat) := H6.out.y.c 6
  have p5 : w6.cell? ⟨g, 5, none⟩ = some (.int .u8 p.c.can.toNat) := H6.out.p.c 5
  have p15 : w6.cell? ⟨g, 15, none⟩ = some (.bool p.w.hg) := H6.out.p.c 15
  have p16 : w6.cell? ⟨g, 16, none⟩ = some (.int .u32 p.w.magic.toNat) := H6.out.p.c 16
  go_wp2_with fail
  go_region
  go_wp2
  (try simp only [Exit.inBlock, Exit.then])
  refine bodyPost_ret (results_row0 rfl _ _ (w.heap.size + 1) _ _ _ rfl (H6.out.drew.z.set (o)) Tryz.underlying51 rfl (by kernel_rfl)) rfl ?_
  unfold OneQ
  rw [HE.out.1, HE.out.2]
  exact ⟨rfl, (H6.out.drew.B.setCell (p := ⟨w.heap.size + 1, 0, none⟩) (Nat.le_succ _) _).setCell (p := ⟨w.heap.size + 1, 1, none⟩) (Nat.le_succ _) _⟩
end Go.Proofs.YtpohcejgblahiaaGreat.Pol

/- The document's one, further cases. Written by gen/pol_qc.py. -/
set_option linter.unusedSimpArgs false
set_option linter.unusedVariables false
namespace Go.Proofs.YtpohcejgblahiaaGreat.Pol
open Go.RowKit Go.Proofs.YtpohcejgblahiaaGreat.Oct Go.Proofs.YtpohcejgblahiaaGreat.Row Go.Proofs.YtpohcejgblahiaaGreat.Mem Go.Proofs.YtpohcejgblahiaaGreat.Opt Go.Proofs.YtpohcejgblahiaaGreat.Lco

set_option maxHeartbeats 8000000 in
set_option maxRecDepth 100000 in
theorem one_magic_zero (g : Nat) (p : Po) (o : Opt) (w : World) (h : RAt w g p) (hd : o.2.size ≤ 140737488351232) (h5 : o.1 = 5) (hg : good o = true) (h0 : ((lo o).magic == 0) = true) : Calls Tryz.prog 85 #[.pointer (some ⟨g, 0, none⟩), .agg #[.int .u8 o.1.toNat, .string o.2]] w (OneQ p o w) := by
  have HG : Hid (∀ w, Calls Tryz.prog 86 #[.agg #[.int .u8 o.1.toNat, .string o.2]] w fun e w' => e = .returned (.bool (good o)) ∧ Below w.heap.size w w') := fun w => rgood_any o.1 o.2 w
  have HS : Hid (∀ w, Calls Tryz.prog 87 #[.agg #[.int .u8 o.1.toNat, .string o.2]] w (BetQ (lo o) w)) := fun w => rsays_any o w hd
  have HK : Hid (∀ w, Calls Tryz.prog 111 #[.int .u8 o.1.toNat] w fun e w' => e = .returned (.bool (known o.1)) ∧ Below w.heap.size w w') := fun w => rknown_any o.1 w
  obtain ⟨W, hW, H0⟩ := boxOn w g p o h
  have c0 : W.cell? ⟨w.heap.size, 0, none⟩ = some (.int .u8 o.1.toNat) := H0.out.o.c0
  have c1 : W.cell? ⟨w.heap.size, 1, none⟩ = some (.string o.2) := H0.out.o.c1
  have z0 : W.cell? ⟨w.heap.size + 1, 0, none⟩ = some (.int .u8 0) := H0.out.z.c0
  have z1 : W.cell? ⟨w.heap.size + 1, 1, none⟩ = some (.string ⟨#[]⟩) := H0.out.z.c1
  have f0 : W.frozen? ⟨w.heap.size + 1, 0, none⟩ = false := Blk.frozen H0.out.z 0
  have f1 : W.frozen? ⟨w.heap.size + 1, 1, none⟩ = false := Blk.frozen H0.out.z 1
  clear h hd
  rw [good_known hg] at HK
  rw [hg] at HG
  have h3 : ¬ o.1 = 3 := by rw [h5]; decide
  have e3 : ((o.1.toNat : Int) == 3) = false := u8_not (u8_isnt (n := 3) (by decide) h3)
  have n3 : ((o.1.toNat : Int) != 3) = true := by rw [bne, e3]; rfl
  have h1 : ¬ o.1 = 1 := by rw [h5]; decide
  have e1 : ((o.1.toNat : Int) == 1) = false := u8_not (u8_isnt (n := 1) (by decide) h1)
  have n1 : ((o.1.toNat : Int) != 1) = true := by rw [bne, e1]; rfl
  have e5 : ((o.1.toNat : Int) == 5) = true := by rw [h5]; rfl
  have n5 : ((o.1.toNat : Int) != 5) = false := by rw [h5]; rfl
  have mz : (((lo o).magic.toNat : Int) == 0) = ((lo o).magic == 0) := u32_eq0 _
  have mo : (((lo o).magic.toNat : Int) == (p.w.magic.toNat : Int)) = ((lo o).magic == p.w.magic) := u32_eqq _ _
  have mn : (bits .xor .u32 (if IntKind.u32.signed = true then -1 else IntKind.u32.max) ((lo o).magic.toNat : Int) == (p.w.magic.toNat : Int)) = (~~~ (lo o).magic == p.w.magic) := by show (bits .xor .u32 IntKind.u32.max ((lo o).magic.toNat : Int) == (p.w.magic.toNat : Int)) = _; rw [u32_not]; exact u32_eqq _ _
  rw [h0] at mz
  have hz : ((lo o).magic == 0) = true ∨ (p.w.hg && (lo o).magic == p.w.magic) = true := .inl h0
  have hx : p.w.hg = p.w.hg := rfl
  clear mo
  have HE0 := Lib.hid (magic_else (p := p) h5 hg hz)
  clear h1 h3 h5 hg hz h0
  cases hgw : p.w.hg
  · have hm : mgO p.w (lo o) = nz (~~~ (lo o).magic) := by unfold mgO; rw [hgw]; rfl
    rw [hgw] at hx
    rw [hm] at HE0
    have HSm : Hid (∀ w, Calls Tryz.prog 44 #[.int .u32 (bits .xor .u32 IntKind.u32.max ((lo o).magic.toNat : Int))] w fun e w' => e = .returned (.int .u32 (nz (~~~ (lo o).magic)).toNat) ∧ w = w') := fun w => by first | exact rsome_any (~~~ (lo o).magic) w | (rw [u32_not]; exact rsome_any (~~~ (lo o).magic) w)
    have HOn := hO_magic (nz (~~~ (lo o).magic))
    have HE := HE0
    clear HE0 hm mn
    generalize bOf (numS (nz (~~~ (lo o).magic)).toNat 4) = ad at *
    generalize nz (~~~ (lo o).magic) = nn at *
    generalize lo o = x at *
    go_enter Tryz.func85, Tryz.ntmps85
    go_wp2_with fail
    clear hW c0 c1 z0 z1 f0 f1
    refine (HG.out _).mono ?_
    rintro e w1 ⟨rfl, hb1⟩
    have H1 := Lib.hid (H0.out.callee hb1)
    clear hb1 HG H0
    have c0 : w1.cell? ⟨w.heap.size, 0, none⟩ = some (.int .u8 o.1.toNat) := H1.out.o.c0
    have c1 : w1.cell? ⟨w.heap.size, 1, none⟩ = some (.string o.2) := H1.out.o.c1
    have z0 : w1.cell? ⟨w.heap.size + 1, 0, none⟩ = some (.int .u8 0) := H1.out.z.c0
    have z1 : w1.cell? ⟨w.heap.size + 1, 1, none⟩ = some (.string ⟨#[]⟩) := H1.out.z.c1
    have f0 : w1.frozen? ⟨w.heap.size + 1, 0, none⟩ = false := Blk.frozen H1.out.z 0
    have f1 : w1.frozen? ⟨w.heap.size + 1, 1, none⟩ = false := Blk.frozen H1.out.z 1
    go_wp2_with fail
    clear c0 c1 z0 z1 f0 f1
    refine (HS.out _).mono ?_
    rintro e w2 ⟨rfl, hb2⟩
    have H2 := Lib.hid (H1.out.callee hb2)
    clear hb2 HS H1
    obtain ⟨V, hV, HV⟩ := boxL w2 x
    have H3 : Hid (Os w g p o w2.heap.size x V) := ⟨H2.out.o.callee HV.out.2.1, H2.out.z.callee HV.out.2.1, HV.out.1, H2.out.p.callee HV.out.2.1, H2.out.B.trans (HV.out.2.1.mono H2.out.B.size)⟩
    clear HV H2
    generalize hj : w2.heap.size = j at *
    unfold lv
    have c0 : V.cell? ⟨w.heap.size, 0, none⟩ = some (.int .u8 o.1.toNat) := H3.out.o.c0
    have c1 : V.cell? ⟨w.heap.size, 1, none⟩ = some (.string o.2) := H3.out.o.c1
    have z0 : V.cell? ⟨w.heap.size + 1, 0, none⟩ = some (.int .u8 0) := H3.out.z.c0
    have z1 : V.cell? ⟨w.heap.size + 1, 1, none⟩ = some (.string ⟨#[]⟩) := H3.out.z.c1
    have f0 : V.frozen? ⟨w.heap.size + 1, 0, none⟩ = false := Blk.frozen H3.out.z 0
    have f1 : V.frozen? ⟨w.heap.size + 1, 1, none⟩ = false := Blk.frozen H3.out.z 1
    have y1 : V.cell? ⟨j, 1, none⟩ = some (.int .u16 x.mru.toNat) := H3.out.y.c 1
    have y4 : V.cell? ⟨j, 4, none⟩ = some (.int .u8 x.auth.toNat) := H3.out.y.c 4
    have y6 : V.cell? ⟨j, 6, none⟩ = some (.int .u32 x.magic.toNat) := H3.out.y.c 6
    have p5 : V.cell? ⟨g, 5, none⟩ = some (.int .u8 p.c.can.toNat) := H3.out.p.c 5
    have p15 : V.cell? ⟨g, 15, none⟩ = some (.bool p.w.hg) := H3.out.p.c 15
    have p16 : V.cell? ⟨g, 16, none⟩ = some (.int .u32 p.w.magic.toNat) := H3.out.p.c 16
    go_wp2_with fail
    clear hV hj c0 c1 z0 z1 f0 f1 y1 y4 y6 p5 p15 p16
    refine (HK.out _).mono ?_
    rintro e w3 ⟨rfl, hb3⟩
    have H4 := Lib.hid (H3.out.callee hb3)
    clear hb3 HK H3
    have c0 : w3.cell? ⟨w.heap.size, 0, none⟩ = some (.int .u8 o.1.toNat) := H4.out.o.c0
    have c1 : w3.cell? ⟨w.heap.size, 1, none⟩ = some (.string o.2) := H4.out.o.c1
    have z0 : w3.cell? ⟨w.heap.size + 1, 0, none⟩ = some (.int .u8 0) := H4.out.z.c0
    have z1 : w3.cell? ⟨w.heap.size + 1, 1, none⟩ = some (.string ⟨#[]⟩) := H4.out.z.c1
    have f0 : w3.frozen? ⟨w.heap.size + 1, 0, none⟩ = false := Blk.frozen H4.out.z 0
    have f1 : w3.frozen? ⟨w.heap.size + 1, 1, none⟩ = false := Blk.frozen H4.out.z 1
    have y1 : w3.cell? ⟨j, 1, none⟩ = some (.int .u16 x.mru.toNat) := H4.out.y.c 1
    have y4 : w3.cell? ⟨j, 4, none⟩ = some (.int .u8 x.auth.toNat) := H4.out.y.c 4
    have y6 : w3.cell? ⟨j, 6, none⟩ = some (.int .u32 x.magic.toNat) := H4.out.y.c 6
    have p5 : w3.cell? ⟨g, 5, none⟩ = some (.int .u8 p.c.can.toNat) := H4.out.p.c 5
    have p15 : w3.cell? ⟨g, 15, none⟩ = some (.bool p.w.hg) := H4.out.p.c 15
    have p16 : w3.cell? ⟨g, 16, none⟩ = some (.int .u32 p.w.magic.toNat) := H4.out.p.c 16
    go_wp2_with fail
    clear c0 c1 z0 z1 f0 f1 y1 y4 y6 p5 p15 p16
    have c0 : ∀ q : HeldW (fun w' => Os w g p o j x w'), q.w.cell? ⟨w.heap.size, 0, none⟩ = some (.int .u8 o.1.toNat) := fun q => q.h.o.c0
    have y4 : ∀ q : HeldW (fun w' => Os w g p o j x w'), q.w.cell? ⟨j, 4, none⟩ = some (.int .u8 x.auth.toNat) := fun q => q.h.y.c 4
    have y6 : ∀ q : HeldW (fun w' => Os w g p o j x w'), q.w.cell? ⟨j, 6, none⟩ = some (.int .u32 x.magic.toNat) := fun q => q.h.y.c 6
    have p5 : ∀ q : HeldW (fun w' => Os w g p o j x w'), q.w.cell? ⟨g, 5, none⟩ = some (.int .u8 p.c.can.toNat) := fun q => q.h.p.c 5
    have p15 : ∀ q : HeldW (fun w' => Os w g p o j x w'), q.w.cell? ⟨g, 15, none⟩ = some (.bool false) := fun q => by rw [← hgw]; exact q.h.p.c 15
    have p16 : ∀ q : HeldW (fun w' => Os w g p o j x w'), q.w.cell? ⟨g, 16, none⟩ = some (.int .u32 p.w.magic.toNat) := fun q => q.h.p.c 16
    have hne : Nonempty (HeldW (fun w' => Os w g p o j x w')) := ⟨⟨w3.drew, H4.out.drew⟩⟩
    refine wp_region_quiet_shut (fun w' => Os w g p o j x w') (by kernel_rfl) (by kernel_rfl) H4.out.drew (fun G hst hnil => ?_)
    repeat (
      refine hst.out _ _ _ (fun K hK => ?_)
      go_simp
      first
        | (refine hK _ ?_; clear hK K)
        | (apply Exists.intro
           refine ⟨fun _ => ?_, hK _ ?_⟩
           fail
           clear hK K))
    refine hnil.out _ (fun q => ?_)
    clear hnil hst
    have HQ := Lib.hid q.h
    clear c0 y4 y6 p5 p15 p16 hne
    obtain ⟨w5, hq_⟩ : ∃ W, q.w = W := ⟨_, rfl⟩
    rw [hq_] at HQ ⊢
    have H5 := HQ
    clear hq_ HQ
    have c0 : w5.cell? ⟨w.heap.size, 0, none⟩ = some (.int .u8 o.1.toNat) := H5.out.o.c0
    have c1 : w5.cell? ⟨w.heap.size, 1, none⟩ = some (.string o.2) := H5.out.o.c1
    have z0 : w5.cell? ⟨w.heap.size + 1, 0, none⟩ = some (.int .u8 0) := H5.out.z.c0
    have z1 : w5.cell? ⟨w.heap.size + 1, 1, none⟩ = some (.string ⟨#[]⟩) := H5.out.z.c1
    have f0 : w5.frozen? ⟨w.heap.size + 1, 0, none⟩ = false := Blk.frozen H5.out.z 0
    have f1 : w5.frozen? ⟨w.heap.size + 1, 1, none⟩ = false := Blk.frozen H5.out.z 1
    have y1 : w5.cell? ⟨j, 1, none⟩ = some (.int .u16 x.mru.toNat) := H5.out.y.c 1
    have y4 : w5.cell? ⟨j, 4, none⟩ = some (.int .u8 x.auth.toNat) := H5.out.y.c 4
    have y6 : w5.cell? ⟨j, 6, none⟩ = some (.int .u32 x.magic.toNat) := H5.out.y.c 6
    have p5 : w5.cell? ⟨g, 5, none⟩ = some (.int .u8 p.c.can.toNat) := H5.out.p.c 5
    have p15 : w5.cell? ⟨g, 15, none⟩ = some (.bool false) := by rw [← hgw]; exact H5.out.p.c 15
    have p16 : w5.cell? ⟨g, 16, none⟩ = some (.int .u32 p.w.magic.toNat) := H5.out.p.c 16
    go_wp2_with fail
    clear c0 c1 z0 z1 f0 f1 y1 y4 y6 p5 p15 p16
    have c0 : ∀ q : HeldW (fun w' => Os w g p o j x w'), q.w.cell? ⟨w.heap.size, 0, none⟩ = some (.int .u8 o.1.toNat) := fun q => q.h.o.c0
    have y4 : ∀ q : HeldW (fun w' => Os w g p o j x w'), q.w.cell? ⟨j, 4, none⟩ = some (.int .u8 x.auth.toNat) := fun q => q.h.y.c 4
    have y6 : ∀ q : HeldW (fun w' => Os w g p o j x w'), q.w.cell? ⟨j, 6, none⟩ = some (.int .u32 x.magic.toNat) := fun q => q.h.y.c 6
    have p5 : ∀ q : HeldW (fun w' => Os w g p o j x w'), q.w.cell? ⟨g, 5, none⟩ = some (.int .u8 p.c.can.toNat) := fun q => q.h.p.c 5
    have p15 : ∀ q : HeldW (fun w' => Os w g p o j x w'), q.w.cell? ⟨g, 15, none⟩ = some (.bool false) := fun q => by rw [← hgw]; exact q.h.p.c 15
    have p16 : ∀ q : HeldW (fun w' => Os w g p o j x w'), q.w.cell? ⟨g, 16, none⟩ = some (.int .u32 p.w.magic.toNat) := fun q => q.h.p.c 16
    have hne : Nonempty (HeldW (fun w' => Os w g p o j x w')) := ⟨⟨w5.drew, H5.out.drew⟩⟩
    refine wp_region_quiet_shut (fun w' => Os w g p o j x w') (by kernel_rfl) (by kernel_rfl) H5.out.drew (fun G hst hnil => ?_)
    repeat (
      refine hst.out _ _ _ (fun K hK => ?_)
      go_simp
      first
        | (refine hK _ ?_; clear hK K)
        | (apply Exists.intro
           refine ⟨fun _ => ?_, hK _ ?_⟩
           fail
           clear hK K))
    refine hnil.out _ (fun q => ?_)
    clear hnil hst
    have HQ := Lib.hid q.h
    clear c0 y4 y6 p5 p15 p16 hne
    obtain ⟨w6, hq_⟩ : ∃ W, q.w = W := ⟨_, rfl⟩
    rw [hq_] at HQ ⊢
    have H6 := HQ
    clear hq_ HQ
    have c0 : w6.cell? ⟨w.heap.size, 0, none⟩ = some (.int .u8 o.1.toNat) := H6.out.o.c0
    have c1 : w6.cell? ⟨w.heap.size, 1, none⟩ = some (.string o.2) := H6.out.o.c1
    have z0 : w6.cell? ⟨w.heap.size + 1, 0, none⟩ = some (.int .u8 0) := H6.out.z.c0
    have z1 : w6.cell? ⟨w.heap.size + 1, 1, none⟩ = some (.string ⟨#[]⟩) := H6.out.z.c1
    have f0 : w6.frozen? ⟨w.heap.size + 1, 0, none⟩ = false := Blk.frozen H6.out.z 0
    have f1 : w6.frozen? ⟨w.heap.size + 1, 1, none⟩ = false := Blk.frozen H6.out.z 1
    have y1 : w6.cell? ⟨j, 1, none⟩ = some (.int .u16 x.mru.toNat) := H6.out.y.c 1
    have y4 : w6.cell? ⟨j, 4, none⟩ = some (.int .u8 x.auth.toNat) := H6.out.y.c 4
    have y6 : w6.cell? ⟨j, 6, none⟩ = some (.int .u32 x.magic.toNat) := H6.out.y.c 6
    have p5 : w6.cell? ⟨g, 5, none⟩ = some (.int .u8 p.c.can.toNat) := H6.out.p.c 5
    have p15 : w6.cell? ⟨g, 15, none⟩ = some (.bool false) := by rw [← hgw]; exact H6.out.p.c 15
    have p16 : w6.cell? ⟨g, 16, none⟩ = some (.int .u32 p.w.magic.toNat) := H6.out.p.c 16
    go_wp2_with fail
    clear c0 c1 z0 z1 f0 f1 y1 y4 y6 p5 p15 p16
    refine (HSm.out _).mono ?_
    rintro e _ ⟨rfl, rfl⟩
    have c0 : w6.cell? ⟨w.heap.size, 0, none⟩ = some (.int .u8 o.1.toNat) := H6.out.o.c0
    have c1 : w6.cell? ⟨w.heap.size, 1, none⟩ = some (.string o.2) := H6.out.o.c1
    have z0 : w6.cell? ⟨w.heap.size + 1, 0, none⟩ = some (.int .u8 0) := H6.out.z.c0
    have z1 : w6.cell? ⟨w.heap.size + 1, 1, none⟩ = some (.string ⟨#[]⟩) := H6.out.z.c1
    have f0 : w6.frozen? ⟨w.heap.size + 1, 0, none⟩ = false := Blk.frozen H6.out.z 0
    have f1 : w6.frozen? ⟨w.heap.size + 1, 1, none⟩ = false := Blk.frozen H6.out.z 1
    have y1 : w6.cell? ⟨j, 1, none⟩ = some (.int .u16 x.mru.toNat) := H6.out.y.c 1
    have y4 : w6.cell? ⟨j, 4, none⟩ = some (.int .u8 x.auth.toNat) := H6.out.y.c 4
    have y6 : w6.cell? ⟨j, 6, none⟩ = some (.int .u32 x.magic.toNat) := H6.out.y.c 6
    have p5 : w6.cell? ⟨g, 5, none⟩ = some (.int .u8 p.c.can.toNat) := H6.out.p.c 5
    have p15 : w6.cell? ⟨g, 15, none⟩ = some (.bool false) := by rw [← hgw]; exact H6.out.p.c 15
    have p16 : w6.cell? ⟨g, 16, none⟩ = some (.int .u32 p.w.magic.toNat) := H6.out.p.c 16
    go_wp2_with fail
    clear c0 c1 z0 z1 f0 f1 y1 y4 y6 p5 p15 p16
    refine (HOn.out _).mono ?_
    rintro e w8 ⟨rfl, hb8⟩
    have H8 := Lib.hid (H6.out.callee hb8)
    clear hb8 H6 HOn
    have c0 : w8.cell? ⟨w.heap.size, 0, none⟩ = some (.int .u8 o.1.toNat) := H8.out.o.c0
    have c1 : w8.cell? ⟨w.heap.size, 1, none⟩ = some (.string o.2) := H8.out.o.c1
    have z0 : w8.cell? ⟨w.heap.size + 1, 0, none⟩ = some (.int .u8 0) := H8.out.z.c0
    have z1 : w8.cell? ⟨w.heap.size + 1, 1, none⟩ = some (.string ⟨#[]⟩) := H8.out.z.c1
    have f0 : w8.frozen? ⟨w.heap.size + 1, 0, none⟩ = false := Blk.frozen H8.out.z 0
    have f1 : w8.frozen? ⟨w.heap.size + 1, 1, none⟩ = false := Blk.frozen H8.out.z 1
    have y1 : w8.cell? ⟨j, 1, none⟩ = some (.int .u16 x.mru.toNat) := H8.out.y.c 1
    have y4 : w8.cell? ⟨j, 4, none⟩ = some (.int .u8 x.auth.toNat) := H8.out.y.c 4
    have y6 : w8.cell? ⟨j, 6, none⟩ = some (.int .u32 x.magic.toNat) := H8.out.y.c 6
    have p5 : w8.cell? ⟨g, 5, none⟩ = some (.int .u8 p.c.can.toNat) := H8.out.p.c 5
    have p15 : w8.cell? ⟨g, 15, none⟩ = some (.bool p.w.hg) := H8.out.p.c 15
    have p16 : w8.cell? ⟨g, 16, none⟩ = some (.int .u32 p.w.magic.toNat) := H8.out.p.c 16
    go_wp2
    (try simp only [Exit.inBlock, Exit.then])
    refine bodyPost_ret (results_row0 rfl _ _ (w.heap.size + 1) _ _ _ rfl (H8.out.z.set (5, ad)) Tryz.underlying51 rfl (by kernel_rfl)) rfl ?_
    unfold OneQ
    rw [HE.out.1, HE.out.2]
    exact ⟨rfl, (H8.out.B.setCell (p := ⟨w.heap.size + 1, 0, none⟩) (Nat.le_succ _) _).setCell (p := ⟨w.heap.size + 1, 1, none⟩) (Nat.le_succ _) _⟩
  · rw [hgw] at hx
    cases hot : (~~~ (lo o).magic == p.w.magic)
    · rw [hot] at mn
      have hm : mgO p.w (lo o) = nz (~~~ (lo o).magic) := by unfold mgO; rw [hgw, hot]; rfl
      rw [hm] at HE0
      have HSm : Hid (∀ w, Calls Tryz.prog 44 #[.int .u32 (bits .xor .u32 IntKind.u32.max ((lo o).magic.toNat : Int))] w fun e w' => e = .returned (.int .u32 (nz (~~~ (lo o).magic)).toNat) ∧ w = w') := fun w => by first | exact rsome_any (~~~ (lo o).magic) w | (rw [u32_not]; exact rsome_any (~~~ (lo o).magic) w)
      have HOn := hO_magic (nz (~~~ (lo o).magic))
      have HE := HE0
      clear HE0 hm hot
      generalize bOf (numS (nz (~~~ (lo o).magic)).toNat 4) = ad at *
      generalize nz (~~~ (lo o).magic) = nn at *
      generalize lo o = x at *
      go_enter Tryz.func85, Tryz.ntmps85
      go_wp2_with fail
      clear hW c0 c1 z0 z1 f0 f1
      refine (HG.out _).mono ?_
      rintro e w1 ⟨rfl, hb1⟩
      have H1 := Lib.hid (H0.out.callee hb1)
      clear hb1 HG H0
      have c0 : w1.cell? ⟨w.heap.size, 0, none⟩ = some (.int .u8 o.1.toNat) := H1.out.o.c0
      have c1 : w1.cell? ⟨w.heap.size, 1, none⟩ = some (.string o.2) := H1.out.o.c1
      have z0 : w1.cell? ⟨w.heap.size + 1, 0, none⟩ = some (.int .u8 0) := H1.out.z.c0
      have z1 : w1.cell? ⟨w.heap.size + 1, 1, none⟩ = some (.string ⟨#[]⟩) := H1.out.z.c1
      have f0 : w1.frozen? ⟨w.heap.size + 1, 0, none⟩ = false := Blk.frozen H1.out.z 0
      have f1 : w1.frozen? ⟨w.heap.size + 1, 1, none⟩ = false := Blk.frozen H1.out.z 1
      go_wp2_with fail
      clear c0 c1 z0 z1 f0 f1
      refine (HS.out _).mono ?_
      rintro e w2 ⟨rfl, hb2⟩
      have H2 := Lib.hid (H1.out.callee hb2)
      clear hb2 HS H1
      obtain ⟨V, hV, HV⟩ := boxL w2 x
      have H3 : Hid (Os w g p o w2.heap.size x V) := ⟨H2.out.o.callee HV.out.2.1, H2.out.z.callee HV.out.2.1, HV.out.1, H2.out.p.callee HV.out.2.1, H2.out.B.trans (HV.out.2.1.mono H2.out.B.size)⟩
      clear HV H2
      generalize hj : w2.heap.size = j at *
      unfold lv
      have c0 : V.cell? ⟨w.heap.size, 0, none⟩ = some (.int .u8 o.1.toNat) := H3.out.o.c0
      have c1 : V.cell? ⟨w.heap.size, 1, none⟩ = some (.string o.2) := H3.out.o.c1
      have z0 : V.cell? ⟨w.heap.size + 1, 0, none⟩ = some (.int .u8 0) := H3.out.z.c0
      have z1 : V.cell? ⟨w.heap.size + 1, 1, none⟩ = some (.string ⟨#[]⟩) := H3.out.z.c1
      have f0 : V.frozen? ⟨w.heap.size + 1, 0, none⟩ = false := Blk.frozen H3.out.z 0
      have f1 : V.frozen? ⟨w.heap.size + 1, 1, none⟩ = false := Blk.frozen H3.out.z 1
      have y1 : V.cell? ⟨j, 1, none⟩ = some (.int .u16 x.mru.toNat) := H3.out.y.c 1
      have y4 : V.cell? ⟨j, 4, none⟩ = some (.int .u8 x.auth.toNat) := H3.out.y.c 4
      have y6 : V.cell? ⟨j, 6, none⟩ = some (.int .u32 x.magic.toNat) := H3.out.y.c 6
      have p5 : V.cell? ⟨g, 5, none⟩ = some (.int .u8 p.c.can.toNat) := H3.out.p.c 5
      have p15 : V.cell? ⟨g, 15, none⟩ = some (.bool p.w.hg) := H3.out.p.c 15
      have p16 : V.cell? ⟨g, 16, none⟩ = some (.int .u32 p.w.magic.toNat) := H3.out.p.c 16
      go_wp2_with fail
      clear hV hj c0 c1 z0 z1 f0 f1 y1 y4 y6 p5 p15 p16
      refine (HK.out _).mono ?_
      rintro e w3 ⟨rfl, hb3⟩
      have H4 := Lib.hid (H3.out.callee hb3)
      clear hb3 HK H3
      have c0 : w3.cell? ⟨w.heap.size, 0, none⟩ = some (.int .u8 o.1.toNat) := H4.out.o.c0
      have c1 : w3.cell? ⟨w.heap.size, 1, none⟩ = some (.string o.2) := H4.out.o.c1
      have z0 : w3.cell? ⟨w.heap.size + 1, 0, none⟩ = some (.int .u8 0) := H4.out.z.c0
      have z1 : w3.cell? ⟨w.heap.size + 1, 1, none⟩ = some (.string ⟨#[]⟩) := H4.out.z.c1
      have f0 : w3.frozen? ⟨w.heap.size + 1, 0, none⟩ = false := Blk.frozen H4.out.z 0
      have f1 : w3.frozen? ⟨w.heap.size + 1, 1, none⟩ = false := Blk.frozen H4.out.z 1
      have y1 : w3.cell? ⟨j, 1, none⟩ = some (.int .u16 x.mru.toNat) := H4.out.y.c 1
      have y4 : w3.cell? ⟨j, 4, none⟩ = some (.int .u8 x.auth.toNat) := H4.out.y.c 4
      have y6 : w3.cell? ⟨j, 6, none⟩ = some (.int .u32 x.magic.toNat) := H4.out.y.c 6
      have p5 : w3.cell? ⟨g, 5, none⟩ = some (.int .u8 p.c.can.toNat) := H4.out.p.c 5
      have p15 : w3.cell? ⟨g, 15, none⟩ = some (.bool p.w.hg) := H4.out.p.c 15
      have p16 : w3.cell? ⟨g, 16, none⟩ = some (.int .u32 p.w.magic.toNat) := H4.out.p.c 16
      go_wp2_with fail
      clear c0 c1 z0 z1 f0 f1 y1 y4 y6 p5 p15 p16
      have c0 : ∀ q : HeldW (fun w' => Os w g p o j x w'), q.w.cell? ⟨w.heap.size, 0, none⟩ = some (.int .u8 o.1.toNat) := fun q => q.h.o.c0
      have y4 : ∀ q : HeldW (fun w' => Os w g p o j x w'), q.w.cell? ⟨j, 4, none⟩ = some (.int .u8 x.auth.toNat) := fun q => q.h.y.c 4
      have y6 : ∀ q : HeldW (fun w' => Os w g p o j x w'), q.w.cell? ⟨j, 6, none⟩ = some (.int .u32 x.magic.toNat) := fun q => q.h.y.c 6
      have p5 : ∀ q : HeldW (fun w' => Os w g p o j x w'), q.w.cell? ⟨g, 5, none⟩ = some (.int .u8 p.c.can.toNat) := fun q => q.h.p.c 5
      have p15 : ∀ q : HeldW (fun w' => Os w g p o j x w'), q.w.cell? ⟨g, 15, none⟩ = some (.bool true) := fun q => by rw [← hgw]; exact q.h.p.c 15
      have p16 : ∀ q : HeldW (fun w' => Os w g p o j x w'), q.w.cell? ⟨g, 16, none⟩ = some (.int .u32 p.w.magic.toNat) := fun q => q.h.p.c 16
      have hne : Nonempty (HeldW (fun w' => Os w g p o j x w')) := ⟨⟨w3.drew, H4.out.drew⟩⟩
      refine wp_region_quiet_shut (fun w' => Os w g p o j x w') (by kernel_rfl) (by kernel_rfl) H4.out.drew (fun G hst hnil => ?_)
      repeat (
        refine hst.out _ _ _ (fun K hK => ?_)
        go_simp
        first
          | (refine hK _ ?_; clear hK K)
          | (apply Exists.intro
             refine ⟨fun _ => ?_, hK _ ?_⟩
             fail
             clear hK K))
      refine hnil.out _ (fun q => ?_)
      clear hnil hst
      have HQ := Lib.hid q.h
      clear c0 y4 y6 p5 p15 p16 hne
      obtain ⟨w5, hq_⟩ : ∃ W, q.w = W := ⟨_, rfl⟩
      rw [hq_] at HQ ⊢
      have H5 := HQ
      clear hq_ HQ
      have c0 : w5.cell? ⟨w.heap.size, 0, none⟩ = some (.int .u8 o.1.toNat) := H5.out.o.c0
      have c1 : w5.cell? ⟨w.heap.size, 1, none⟩ = some (.string o.2) := H5.out.o.c1
      have z0 : w5.cell? ⟨w.heap.size + 1, 0, none⟩ = some (.int .u8 0) := H5.out.z.c0
      have z1 : w5.cell? ⟨w.heap.size + 1, 1, none⟩ = some (.string ⟨#[]⟩) := H5.out.z.c1
      have f0 : w5.frozen? ⟨w.heap.size + 1, 0, none⟩ = false := Blk.frozen H5.out.z 0
      have f1 : w5.frozen? ⟨w.heap.size + 1, 1, none⟩ = false := Blk.frozen H5.out.z 1
      have y1 : w5.cell? ⟨j, 1, none⟩ = some (.int .u16 x.mru.toNat) := H5.out.y.c 1
      have y4 : w5.cell? ⟨j, 4, none⟩ = some (.int .u8 x.auth.toNat) := H5.out.y.c 4
      have y6 : w5.cell? ⟨j, 6, none⟩ = some (.int .u32 x.magic.toNat) := H5.out.y.c 6
      have p5 : w5.cell? ⟨g, 5, none⟩ = some (.int .u8 p.c.can.toNat) := H5.out.p.c 5
      have p15 : w5.cell? ⟨g, 15, none⟩ = some (.bool true) := by rw [← hgw]; exact H5.out.p.c 15
      have p16 : w5.cell? ⟨g, 16, none⟩ = some (.int .u32 p.w.magic.toNat) := H5.out.p.c 16
      go_wp2_with fail
      clear c0 c1 z0 z1 f0 f1 y1 y4 y6 p5 p15 p16
      have c0 : ∀ q : HeldW (fun w' => Os w g p o j x w'), q.w.cell? ⟨w.heap.size, 0, none⟩ = some (.int .u8 o.1.toNat) := fun q => q.h.o.c0
      have y4 : ∀ q : HeldW (fun w' => Os w g p o j x w'), q.w.cell? ⟨j, 4, none⟩ = some (.int .u8 x.auth.toNat) := fun q => q.h.y.c 4
      have y6 : ∀ q : HeldW (fun w' => Os w g p o j x w'), q.w.cell? ⟨j, 6, none⟩ = some (.int .u32 x.magic.toNat) := fun q => q.h.y.c 6
      have p5 : ∀ q : HeldW (fun w' => Os w g p o j x w'), q.w.cell? ⟨g, 5, none⟩ = some (.int .u8 p.c.can.toNat) := fun q => q.h.p.c 5
      have p15 : ∀ q : HeldW (fun w' => Os w g p o j x w'), q.w.cell? ⟨g, 15, none⟩ = some (.bool true) := fun q => by rw [← hgw]; exact q.h.p.c 15
      have p16 : ∀ q : HeldW (fun w' => Os w g p o j x w'), q.w.cell? ⟨g, 16, none⟩ = some (.int .u32 p.w.magic.toNat) := fun q => q.h.p.c 16
      have hne : Nonempty (HeldW (fun w' => Os w g p o j x w')) := ⟨⟨w5.drew, H5.out.drew⟩⟩
      refine wp_region_quiet_shut (fun w' => Os w g p o j x w') (by kernel_rfl) (by kernel_rfl) H5.out.drew (fun G hst hnil => ?_)
      repeat (
        refine hst.out _ _ _ (fun K hK => ?_)
        go_simp
        first
          | (refine hK _ ?_; clear hK K)
          | (apply Exists.intro
             refine ⟨fun _ => ?_, hK _ ?_⟩
             fail
             clear hK K))
      refine hnil.out _ (fun q => ?_)
      clear hnil hst
      have HQ := Lib.hid q.h
      clear c0 y4 y6 p5 p15 p16 hne
      obtain ⟨w6, hq_⟩ : ∃ W, q.w = W := ⟨_, rfl⟩
      rw [hq_] at HQ ⊢
      have H6 := HQ
      clear hq_ HQ
      have c0 : w6.cell? ⟨w.heap.size, 0, none⟩ = some (.int .u8 o.1.toNat) := H6.out.o.c0
      have c1 : w6.cell? ⟨w.heap.size, 1, none⟩ = some (.string o.2) := H6.out.o.c1
      have z0 : w6.cell? ⟨w.heap.size + 1, 0, none⟩ = some (.int .u8 0) := H6.out.z.c0
      have z1 : w6.cell? ⟨w.heap.size + 1, 1, none⟩ = some (.string ⟨#[]⟩) := H6.out.z.c1
      have f0 : w6.frozen? ⟨w.heap.size + 1, 0, none⟩ = false := Blk.frozen H6.out.z 0
      have f1 : w6.frozen? ⟨w.heap.size + 1, 1, none⟩ = false := Blk.frozen H6.out.z 1
      have y1 : w6.cell? ⟨j, 1, none⟩ = some (.int .u16 x.mru.toNat) := H6.out.y.c 1
      have y4 : w6.cell? ⟨j, 4, none⟩ = some (.int .u8 x.auth.toNat) := H6.out.y.c 4
      have y6 : w6.cell? ⟨j, 6, none⟩ = some (.int .u32 x.magic.toNat) := H6.out.y.c 6
      have p5 : w6.cell? ⟨g, 5, none⟩ = some (.int .u8 p.c.can.toNat) := H6.out.p.c 5
      have p15 : w6.cell? ⟨g, 15, none⟩ = some (.bool true) := by rw [← hgw]; exact H6.out.p.c 15
      have p16 : w6.cell? ⟨g, 16, none⟩ = some (.int .u32 p.w.magic.toNat) := H6.out.p.c 16
      go_wp2_with fail
      clear c0 c1 z0 z1 f0 f1 y1 y4 y6 p5 p15 p16
      refine (HSm.out _).mono ?_
      rintro e _ ⟨rfl, rfl⟩
      have c0 : w6.cell? ⟨w.heap.size, 0, none⟩ = some (.int .u8 o.1.toNat) := H6.out.o.c0
      have c1 : w6.cell? ⟨w.heap.size, 1, none⟩ = some (.string o.2) := H6.out.o.c1
      have z0 : w6.cell? ⟨w.heap.size + 1, 0, none⟩ = some (.int .u8 0) := H6.out.z.c0
      have z1 : w6.cell? ⟨w.heap.size + 1, 1, none⟩ = some (.string ⟨#[]⟩) := H6.out.z.c1
      have f0 : w6.frozen? ⟨w.heap.size + 1, 0, none⟩ = false := Blk.frozen H6.out.z 0
      have f1 : w6.frozen? ⟨w.heap.size + 1, 1, none⟩ = false := Blk.frozen H6.out.z 1
      have y1 : w6.cell? ⟨j, 1, none⟩ = some (.int .u16 x.mru.toNat) := H6.out.y.c 1
      have y4 : w6.cell? ⟨j, 4, none⟩ = some (.int .u8 x.auth.toNat) := H6.out.y.c 4
      have y6 : w6.cell? ⟨j, 6, none⟩ = some (.int .u32 x.magic.toNat) := H6.out.y.c 6
      have p5 : w6.cell? ⟨g, 5, none⟩ = some (.int .u8 p.c.can.toNat) := H6.out.p.c 5
      have p15 : w6.cell? ⟨g, 15, none⟩ = some (.bool true) := by rw [← hgw]; exact H6.out.p.c 15
      have p16 : w6.cell? ⟨g, 16, none⟩ = some (.int .u32 p.w.magic.toNat) := H6.out.p.c 16
      go_wp2_with fail
      clear c0 c1 z0 z1 f0 f1 y1 y4 y6 p5 p15 p16
      refine (HOn.out _).mono ?_
      rintro e w8 ⟨rfl, hb8⟩
      have H8 := Lib.hid (H6.out.callee hb8)
      clear hb8 H6 HOn
      have c0 : w8.cell? ⟨w.heap.size, 0, none⟩ = some (.int .u8 o.1.toNat) := H8.out.o.c0
      have c1 : w8.cell? ⟨w.heap.size, 1, none⟩ = some (.string o.2) := H8.out.o.c1
      have z0 : w8.cell? ⟨w.heap.size + 1, 0, none⟩ = some (.int .u8 0) := H8.out.z.c0
      have z1 : w8.cell? ⟨w.heap.size + 1, 1, none⟩ = some (.string ⟨#[]⟩) := H8.out.z.c1
      have f0 : w8.frozen? ⟨w.heap.size + 1, 0, none⟩ = false := Blk.frozen H8.out.z 0
      have f1 : w8.frozen? ⟨w.heap.size + 1, 1, none⟩ = false := Blk.frozen H8.out.z 1
      have y1 : w8.cell? ⟨j, 1, none⟩ = some (.int .u16 x.mru.toNat) := H8.out.y.c 1
      have y4 : w8.cell? ⟨j, 4, none⟩ = some (.int .u8 x.auth.toNat) := H8.out.y.c 4
      have y6 : w8.cell? ⟨j, 6, none⟩ = some (.int .u32 x.magic.toNat) := H8.out.y.c 6
      have p5 : w8.cell? ⟨g, 5, none⟩ = some (.int .u8 p.c.can.toNat) := H8.out.p.c 5
      have p15 : w8.cell? ⟨g, 15, none⟩ = some (.bool p.w.hg) := H8.out.p.c 15
      have p16 : w8.cell? ⟨g, 16, none⟩ = some (.int .u32 p.w.magic.toNat) := H8.out.p.c 16
      go_wp2
      (try simp only [Exit.inBlock, Exit.then])
      refine bodyPost_ret (results_row0 rfl _ _ (w.heap.size + 1) _ _ _ rfl (H8.out.z.set (5, ad)) Tryz.underlying51 rfl (by kernel_rfl)) rfl ?_
      unfold OneQ
      rw [HE.out.1, HE.out.2]
      exact ⟨rfl, (H8.out.B.setCell (p := ⟨w.heap.size + 1, 0, none⟩) (Nat.le_succ _) _).setCell (p := ⟨w.heap.size + 1, 1, none⟩) (Nat.le_succ _) _⟩
    · rw [hot] at mn
      have hm : mgO p.w (lo o) = nz 1 := by unfold mgO; rw [hgw, hot]; rfl
      rw [hm] at HE0
      have HSm : Hid (∀ w, Calls Tryz.prog 44 #[.int .u32 1] w fun e w' => e = .returned (.int .u32 (nz 1).toNat) ∧ w = w') := fun w => by first | exact rsome_any 1 w | (rw [u32_not]; exact rsome_any 1 w)
      have HOn := hO_magic (nz 1)
      have HE := HE0
      clear HE0 hm hot
      generalize bOf (numS (nz 1).toNat 4) = ad at *
      generalize nz 1 = nn at *
      generalize lo o = x at *
      go_enter Tryz.func85, Tryz.ntmps85
      go_wp2_with fail
      clear hW c0 c1 z0 z1 f0 f1
      refine (HG.out _).mono ?_
      rintro e w1 ⟨rfl, hb1⟩
      have H1 := Lib.hid (H0.out.callee hb1)
      clear hb1 HG H0
      have c0 : w1.cell? ⟨w.heap.size, 0, none⟩ = some (.int .u8 o.1.toNat) := H1.out.o.c0
      have c1 : w1.cell? ⟨w.heap.size, 1, none⟩ = some (.string o.2) := H1.out.o.c1
      have z0 : w1.cell? ⟨w.heap.size + 1, 0, none⟩ = some (.int .u8 0) := H1.out.z.c0
      have z1 : w1.cell? ⟨w.heap.size + 1, 1, none⟩ = some (.string ⟨#[]⟩) := H1.out.z.c1
      have f0 : w1.frozen? ⟨w.heap.size + 1, 0, none⟩ = false := Blk.frozen H1.out.z 0
      have f1 : w1.frozen? ⟨w.heap.size + 1, 1, none⟩ = false := Blk.frozen H1.out.z 1
      go_wp2_with fail
      clear c0 c1 z0 z1 f0 f1
      refine (HS.out _).mono ?_
      rintro e w2 ⟨rfl, hb2⟩
      have H2 := Lib.hid (H1.out.callee hb2)
      clear hb2 HS H1
      obtain ⟨V, hV, HV⟩ := boxL w2 x
      have H3 : Hid (Os w g p o w2.heap.size x V) := ⟨H2.out.o.callee HV.out.2.1, H2.out.z.callee HV.out.2.1, HV.out.1, H2.out.p.callee HV.out.2.1, H2.out.B.trans (HV.out.2.1.mono H2.out.B.size)⟩
      clear HV H2
      generalize hj : w2.heap.size = j at *
      unfold lv
      have c0 : V.cell? ⟨w.heap.size, 0, none⟩ = some (.int .u8 o.1.toNat) := H3.out.o.c0
      have c1 : V.cell? ⟨w.heap.size, 1, none⟩ = some (.string o.2) := H3.out.o.c1
      have z0 : V.cell? ⟨w.heap.size + 1, 0, none⟩ = some (.int .u8 0) := H3.out.z.c0
      have z1 : V.cell? ⟨w.heap.size + 1, 1, none⟩ = some (.string ⟨#[]⟩) := H3.out.z.c1
      have f0 : V.frozen? ⟨w.heap.size + 1, 0, none⟩ = false := Blk.frozen H3.out.z 0
      have f1 : V.frozen? ⟨w.heap.size + 1, 1, none⟩ = false := Blk.frozen H3.out.z 1
      have y1 : V.cell? ⟨j, 1, none⟩ = some (.int .u16 x.mru.toNat) := H3.out.y.c 1
      have y4 : V.cell? ⟨j, 4, none⟩ = some (.int .u8 x.auth.toNat) := H3.out.y.c 4
      have y6 : V.cell? ⟨j, 6, none⟩ = some (.int .u32 x.magic.toNat) := H3.out.y.c 6
      have p5 : V.cell? ⟨g, 5, none⟩ = some (.int .u8 p.c.can.toNat) := H3.out.p.c 5
      have p15 : V.cell? ⟨g, 15, none⟩ = some (.bool p.w.hg) := H3.out.p.c 15
      have p16 : V.cell? ⟨g, 16, none⟩ = some (.int .u32 p.w.magic.toNat) := H3.out.p.c 16
      go_wp2_with fail
      clear hV hj c0 c1 z0 z1 f0 f1 y1 y4 y6 p5 p15 p16
      refine (HK.out _).mono ?_
      rintro e w3 ⟨rfl, hb3⟩
      have H4 := Lib.hid (H3.out.callee hb3)
      clear hb3 HK H3
      have c0 : w3.cell? ⟨w.heap.size, 0, none⟩ = some (.int .u8 o.1.toNat) := H4.out.o.c0
      have c1 : w3.cell? ⟨w.heap.size, 1, none⟩ = some (.string o.2) := H4.out.o.c1
      have z0 : w3.cell? ⟨w.heap.size + 1, 0, none⟩ = some (.int .u8 0) := H4.out.z.c0
      have z1 : w3.cell? ⟨w.heap.size + 1, 1, none⟩ = some (.string ⟨#[]⟩) := H4.out.z.c1
      have f0 : w3.frozen? ⟨w.heap.size + 1, 0, none⟩ = false := Blk.frozen H4.out.z 0
      have f1 : w3.frozen? ⟨w.heap.size + 1, 1, none⟩ = false := Blk.frozen H4.out.z 1
      have y1 : w3.cell? ⟨j, 1, none⟩ = some (.int .u16 x.mru.toNat) := H4.out.y.c 1
      have y4 : w3.cell? ⟨j, 4, none⟩ = some (.int .u8 x.auth.toNat) := H4.out.y.c 4
      have y6 : w3.cell? ⟨j, 6, none⟩ = some (.int .u32 x.magic.toNat) := H4.out.y.c 6
      have p5 : w3.cell? ⟨g, 5, none⟩ = some (.int .u8 p.c.can.toNat) := H4.out.p.c 5
      have p15 : w3.cell? ⟨g, 15, none⟩ = some (.bool p.w.hg) := H4.out.p.c 15
      have p16 : w3.cell? ⟨g, 16, none⟩ = some (.int .u32 p.w.magic.toNat) := H4.out.p.c 16
      go_wp2_with fail
      clear c0 c1 z0 z1 f0 f1 y1 y4 y6 p5 p15 p16
      have c0 : ∀ q : HeldW (fun w' => Os w g p o j x w'), q.w.cell? ⟨w.heap.size, 0, none⟩ = some (.int .u8 o.1.toNat) := fun q => q.h.o.c0
      have y4 : ∀ q : HeldW (fun w' => Os w g p o j x w'), q.w.cell? ⟨j, 4, none⟩ = some (.int .u8 x.auth.toNat) := fun q => q.h.y.c 4
      have y6 : ∀ q : HeldW (fun w' => Os w g p o j x w'), q.w.cell? ⟨j, 6, none⟩ = some (.int .u32 x.magic.toNat) := fun q => q.h.y.c 6
      have p5 : ∀ q : HeldW (fun w' => Os w g p o j x w'), q.w.cell? ⟨g, 5, none⟩ = some (.int .u8 p.c.can.toNat) := fun q => q.h.p.c 5
      have p15 : ∀ q : HeldW (fun w' => Os w g p o j x w'), q.w.cell? ⟨g, 15, none⟩ = some (.bool true) := fun q => by rw [← hgw]; exact q.h.p.c 15
      have p16 : ∀ q : HeldW (fun w' => Os w g p o j x w'), q.w.cell? ⟨g, 16, none⟩ = some (.int .u32 p.w.magic.toNat) := fun q => q.h.p.c 16
      have hne : Nonempty (HeldW (fun w' => Os w g p o j x w')) := ⟨⟨w3.drew, H4.out.drew⟩⟩
      refine wp_region_quiet_shut (fun w' => Os w g p o j x w') (by kernel_rfl) (by kernel_rfl) H4.out.drew (fun G hst hnil => ?_)
      repeat (
        refine hst.out _ _ _ (fun K hK => ?_)
        go_simp
        first
          | (refine hK _ ?_; clear hK K)
          | (apply Exists.intro
             refine ⟨fun _ => ?_, hK _ ?_⟩
             fail
             clear hK K))
      refine hnil.out _ (fun q => ?_)
      clear hnil hst
      have HQ := Lib.hid q.h
      clear c0 y4 y6 p5 p15 p16 hne
      obtain ⟨w5, hq_⟩ : ∃ W, q.w = W := ⟨_, rfl⟩
      rw [hq_] at HQ ⊢
      have H5 := HQ
      clear hq_ HQ
      have c0 : w5.cell? ⟨w.heap.size, 0, none⟩ = some (.int .u8 o.1.toNat) := H5.out.o.c0
      have c1 : w5.cell? ⟨w.heap.size, 1, none⟩ = some (.string o.2) := H5.out.o.c1
      have z0 : w5.cell? ⟨w.heap.size + 1, 0, none⟩ = some (.int .u8 0) := H5.out.z.c0
      have z1 : w5.cell? ⟨w.heap.size + 1, 1, none⟩ = some (.string ⟨#[]⟩) := H5.out.z.c1
      have f0 : w5.frozen? ⟨w.heap.size + 1, 0, none⟩ = false := Blk.frozen H5.out.z 0
      have f1 : w5.frozen? ⟨w.heap.size + 1, 1, none⟩ = false := Blk.frozen H5.out.z 1
      have y1 : w5.cell? ⟨j, 1, none⟩ = some (.int .u16 x.mru.toNat) := H5.out.y.c 1
      have y4 : w5.cell? ⟨j, 4, none⟩ = some (.int .u8 x.auth.toNat) := H5.out.y.c 4
      have y6 : w5.cell? ⟨j, 6, none⟩ = some (.int .u32 x.magic.toNat) := H5.out.y.c 6
      have p5 : w5.cell? ⟨g, 5, none⟩ = some (.int .u8 p.c.can.toNat) := H5.out.p.c 5
      have p15 : w5.cell? ⟨g, 15, none⟩ = some (.bool true) := by rw [← hgw]; exact H5.out.p.c 15
      have p16 : w5.cell? ⟨g, 16, none⟩ = some (.int .u32 p.w.magic.toNat) := H5.out.p.c 16
      go_wp2_with fail
      clear c0 c1 z0 z1 f0 f1 y1 y4 y6 p5 p15 p16
      have c0 : ∀ q : HeldW (fun w' => Os w g p o j x w'), q.w.cell? ⟨w.heap.size, 0, none⟩ = some (.int .u8 o.1.toNat) := fun q => q.h.o.c0
      have y4 : ∀ q : HeldW (fun w' => Os w g p o j x w'), q.w.cell? ⟨j, 4, none⟩ = some (.int .u8 x.auth.toNat) := fun q => q.h.y.c 4
      have y6 : ∀ q : HeldW (fun w' => Os w g p o j x w'), q.w.cell? ⟨j, 6, none⟩ = some (.int .u32 x.magic.toNat) := fun q => q.h.y.c 6
      have p5 : ∀ q : HeldW (fun w' => Os w g p o j x w'), q.w.cell? ⟨g, 5, none⟩ = some (.int .u8 p.c.can.toNat) := fun q => q.h.p.c 5
      have p15 : ∀ q : HeldW (fun w' => Os w g p o j x w'), q.w.cell? ⟨g, 15, none⟩ = some (.bool true) := fun q => by rw [← hgw]; exact q.h.p.c 15
      have p16 : ∀ q : HeldW (fun w' => Os w g p o j x w'), q.w.cell? ⟨g, 16, none⟩ = some (.int .u32 p.w.magic.toNat) := fun q => q.h.p.c 16
      have hne : Nonempty (HeldW (fun w' => Os w g p o j x w')) := ⟨⟨w5.drew, H5.out.drew⟩⟩
      refine wp_region_quiet_shut (fun w' => Os w g p o j x w') (by kernel_rfl) (by kernel_rfl) H5.out.drew (fun G hst hnil => ?_)
      repeat (
        refine hst.out _ _ _ (fun K hK => ?_)
        go_simp
        first
          | (refine hK _ ?_; clear hK K)
          | (apply Exists.intro
             refine ⟨fun _ => ?_, hK _ ?_⟩
             fail
             clear hK K))
      refine hnil.out _ (fun q => ?_)
      clear hnil hst
      have HQ := Lib.hid q.h
      clear c0 y4 y6 p5 p15 p16 hne
      obtain ⟨w6, hq_⟩ : ∃ W, q.w = W := ⟨_, rfl⟩
      rw [hq_] at HQ ⊢
      have H6 := HQ
      clear hq_ HQ
      have c0 : w6.cell? ⟨w.heap.size, 0, none⟩ = some (.int .u8 o.1.toNat) := H6.out.o.c0
      have c1 : w6.cell? ⟨w.heap.size, 1, none⟩ = some (.string o.2) := H6.out.o.c1
      have z0 : w6.cell? ⟨w.heap.size + 1, 0, none⟩ = some (.int .u8 0) := H6.out.z.c0
      have z1 : w6.cell? ⟨w.heap.size + 1, 1, none⟩ = some (.string ⟨#[]⟩) := H6.out.z.c1
      have f0 : w6.frozen? ⟨w.heap.size + 1, 0, none⟩ = false := Blk.frozen H6.out.z 0
      have f1 : w6.frozen? ⟨w.heap.size + 1, 1, none⟩ = false := Blk.frozen H6.out.z 1
      have y1 : w6.cell? ⟨j, 1, none⟩ = some (.int .u16 x.mru.toNat) := H6.out.y.c 1
      have y4 : w6.cell? ⟨j, 4, none⟩ = some (.int .u8 x.auth.toNat) := H6.out.y.c 4
      have y6 : w6.cell? ⟨j, 6, none⟩ = some (.int .u32 x.magic.toNat) := H6.out.y.c 6
      have p5 : w6.cell? ⟨g, 5, none⟩ = some (.int .u8 p.c.can.toNat) := H6.out.p.c 5
      have p15 : w6.cell? ⟨g, 15, none⟩ = some (.bool true) := by rw [← hgw]; exact H6.out.p.c 15
      have p16 : w6.cell? ⟨g, 16, none⟩ = some (.int .u32 p.w.magic.toNat) := H6.out.p.c 16
      go_wp2_with fail
      clear c0 c1 z0 z1 f0 f1 y1 y4 y6 p5 p15 p16
      refine (HSm.out _).mono ?_
      rintro e _ ⟨rfl, rfl⟩
      have c0 : w6.cell? ⟨w.heap.size, 0, none⟩ = some (.int .u8 o.1.toNat) := H6.out.o.c0
      have c1 : w6.cell? ⟨w.heap.size, 1, none⟩ = some (.string o.2) := H6.out.o.c1
      have z0 : w6.cell? ⟨w.heap.size + 1, 0, none⟩ = some (.int .u8 0) := H6.out.z.c0
      have z1 : w6.cell? ⟨w.heap.size + 1, 1, none⟩ = some (.string ⟨#[]⟩) := H6.out.z.c1
      have f0 : w6.frozen? ⟨w.heap.size + 1, 0, none⟩ = false := Blk.frozen H6.out.z 0
      have f1 : w6.frozen? ⟨w.heap.size + 1, 1, none⟩ = false := Blk.frozen H6.out.z 1
      have y1 : w6.cell? ⟨j, 1, none⟩ = some (.int .u16 x.mru.toNat) := H6.out.y.c 1
      have y4 : w6.cell? ⟨j, 4, none⟩ = some (.int .u8 x.auth.toNat) := H6.out.y.c 4
      have y6 : w6.cell? ⟨j, 6, none⟩ = some (.int .u32 x.magic.toNat) := H6.out.y.c 6
      have p5 : w6.cell? ⟨g, 5, none⟩ = some (.int .u8 p.c.can.toNat) := H6.out.p.c 5
      have p15 : w6.cell? ⟨g, 15, none⟩ = some (.bool true) := by rw [← hgw]; exact H6.out.p.c 15
      have p16 : w6.cell? ⟨g, 16, none⟩ = some (.int .u32 p.w.magic.toNat) := H6.out.p.c 16
      go_wp2_with fail
      clear c0 c1 z0 z1 f0 f1 y1 y4 y6 p5 p15 p16
      refine (HOn.out _).mono ?_
      rintro e w8 ⟨rfl, hb8⟩
      have H8 := Lib.hid (H6.out.callee hb8)
      clear hb8 H6 HOn
      have c0 : w8.cell? ⟨w.heap.size, 0, none⟩ = some (.int .u8 o.1.toNat) := H8.out.o.c0
      have c1 : w8.cell? ⟨w.heap.size, 1, none⟩ = some (.string o.2) := H8.out.o.c1
      have z0 : w8.cell? ⟨w.heap.size + 1, 0, none⟩ = some (.int .u8 0) := H8.out.z.c0
      have z1 : w8.cell? ⟨w.heap.size + 1, 1, none⟩ = some (.string ⟨#[]⟩) := H8.out.z.c1
      have f0 : w8.frozen? ⟨w.heap.size + 1, 0, none⟩ = false := Blk.frozen H8.out.z 0
      have f1 : w8.frozen? ⟨w.heap.size + 1, 1, none⟩ = false := Blk.frozen H8.out.z 1
      have y1 : w8.cell? ⟨j, 1, none⟩ = some (.int .u16 x.mru.toNat) := H8.out.y.c 1
      have y4 : w8.cell? ⟨j, 4, none⟩ = some (.int .u8 x.auth.toNat) := H8.out.y.c 4
      have y6 : w8.cell? ⟨j, 6, none⟩ = some (.int .u32 x.magic.toNat) := H8.out.y.c 6
      have p5 : w8.cell? ⟨g, 5, none⟩ = some (.int .u8 p.c.can.toNat) := H8.out.p.c 5
      have p15 : w8.cell? ⟨g, 15, none⟩ = some (.bool p.w.hg) := H8.out.p.c 15
      have p16 : w8.cell? ⟨g, 16, none⟩ = some (.int .u32 p.w.magic.toNat) := H8.out.p.c 16
      go_wp2
      (try simp only [Exit.inBlock, Exit.then])
      refine bodyPost_ret (results_row0 rfl _ _ (w.heap.size + 1) _ _ _ rfl (H8.out.z.set (5, ad)) Tryz.underlying51 rfl (by kernel_rfl)) rfl ?_
      unfold OneQ
      rw [HE.out.1, HE.out.2]
      exact ⟨rfl, (H8.out.B.setCell (p := ⟨w.heap.size + 1, 0, none⟩) (Nat.le_succ _) _).setCell (p := ⟨w.heap.size + 1, 1, none⟩) (Nat.le_succ _) _⟩
end Go.Proofs.YtpohcejgblahiaaGreat.Pol

/- The document's one, further cases. Written by gen/pol_qc.py. -/
set_option linter.unusedSimpArgs false
set_option linter.unusedVariables false
namespace Go.Proofs.YtpohcejgblahiaaGreat.Pol
open Go.RowKit Go.Proofs.YtpohcejgblahiaaGreat.Oct Go.Proofs.YtpohcejgblahiaaGreat.Row Go.Proofs.YtpohcejgblahiaaGreat.Mem Go.Proofs.YtpohcejgblahiaaGreat.Opt Go.Proofs.YtpohcejgblahiaaGreat.Lco

set_option maxHeartbeats 8000000 in
set_option maxRecDepth 100000 in
theorem one_magic_own (g : Nat) (p : Po) (o : Opt) (w : World) (h : RAt w g p) (hd : o.2.size ≤ 140737488351232) (h5 : o.1 = 5) (hg : good o = true) (h0 : ((lo o).magic == 0) = false) (ho : (p.w.hg && (lo o).magic == p.w.magic) = true) : Calls Tryz.prog 85 #[.pointer (some ⟨g, 0, none⟩), .agg #[.int .u8 o.1.toNat, .string o.2]] w (OneQ p o w) := by
  have HG : Hid (∀ w, Calls Tryz.prog 86 #[.agg #[.int .u8 o.1.toNat, .string o.2]] w fun e w' => e = .returned (.bool (good o)) ∧ Below w.heap.size w w') := fun w => rgood_any o.1 o.2 w
  have HS : Hid (∀ w, Calls Tryz.prog 87 #[.agg #[.int .u8 o.1.toNat, .string o.2]] w (BetQ (lo o) w)) := fun w => rsays_any o w hd
  have HK : Hid (∀ w, Calls Tryz.prog 111 #[.int .u8 o.1.toNat] w fun e w' => e = .returned (.bool (known o.1)) ∧ Below w.heap.size w w') := fun w => rknown_any o.1 w
  obtain ⟨W, hW, H0⟩ := boxOn w g p o h
  have c0 : W.cell? ⟨w.heap.size, 0, none⟩ = some (.int .u8 o.1.toNat) := H0.out.o.c0
  have c1 : W.cell? ⟨w.heap.size, 1, none⟩ = some (.string o.2) := H0.out.o.c1
  have z0 : W.cell? ⟨w.heap.size + 1, 0, none⟩ = some (.int .u8 0) := H0.out.z.c0
  have z1 : W.cell? ⟨w.heap.size + 1, 1, none⟩ = some (.string ⟨#[]⟩) := H0.out.z.c1
  have f0 : W.frozen? ⟨w.heap.size + 1, 0, none⟩ = false := Blk.frozen H0.out.z 0
  have f1 : W.frozen? ⟨w.heap.size + 1, 1, none⟩ = false := Blk.frozen H0.out.z 1
  clear h hd
  rw [good_known hg] at HK
  rw [hg] at HG
  have h3 : ¬ o.1 = 3 := by rw [h5]; decide
  have e3 : ((o.1.toNat : Int) == 3) = false := u8_not (u8_isnt (n := 3) (by decide) h3)
  have n3 : ((o.1.toNat : Int) != 3) = true := by rw [bne, e3]; rfl
  have h1 : ¬ o.1 = 1 := by rw [h5]; decide
  have e1 : ((o.1.toNat : Int) == 1) = false := u8_not (u8_isnt (n := 1) (by decide) h1)
  have n1 : ((o.1.toNat : Int) != 1) = true := by rw [bne, e1]; rfl
  have e5 : ((o.1.toNat : Int) == 5) = true := by rw [h5]; rfl
  have n5 : ((o.1.toNat : Int) != 5) = false := by rw [h5]; rfl
  have mz : (((lo o).magic.toNat : Int) == 0) = ((lo o).magic == 0) := u32_eq0 _
  have mo : (((lo o).magic.toNat : Int) == (p.w.magic.toNat : Int)) = ((lo o).magic == p.w.magic) := u32_eqq _ _
  have mn : (bits .xor .u32 (if IntKind.u32.signed = true then -1 else IntKind.u32.max) ((lo o).magic.toNat : Int) == (p.w.magic.toNat : Int)) = (~~~ (lo o).magic == p.w.magic) := by show (bits .xor .u32 IntKind.u32.max ((lo o).magic.toNat : Int) == (p.w.magic.toNat : Int)) = _; rw [u32_not]; exact u32_eqq _ _
  rw [h0] at mz
  have hz : ((lo o).magic == 0) = true ∨ (p.w.hg && (lo o).magic == p.w.magic) = true := .inr ho
  have HE0 := Lib.hid (magic_else (p := p) h5 hg hz)
  rw [Bool.and_eq_true] at ho
  have hgw := ho.1
  have HXO : Hid ((lo o).magic = p.w.magic) := beq_iff_eq.1 ho.2
  clear h1 h3 h5 hg hz mo mn
  have hot : (~~~ (lo o).magic == p.w.magic) = false := by rw [beq_iff_eq.1 ho.2]; exact beq_eq_false_iff_ne.2 (u32_not_ne _)
  have mo' : (((lo o).magic.toNat : Int) == ((lo o).magic.toNat : Int)) = true := beq_self_eq_true _
  have mn : (bits .xor .u32 (if IntKind.u32.signed = true then -1 else IntKind.u32.max) ((lo o).magic.toNat : Int) == ((lo o).magic.toNat : Int)) = false := by show (bits .xor .u32 IntKind.u32.max ((lo o).magic.toNat : Int) == ((lo o).magic.toNat : Int)) = false; rw [u32_not, u32_eqq]; exact beq_eq_false_iff_ne.2 (u32_not_ne _)
  have hm : mgO p.w (lo o) = nz (~~~ (lo o).magic) := by unfold mgO; rw [hgw, hot]; rfl
  clear ho h0
  rw [hm] at HE0
  have HSm : Hid (∀ w, Calls Tryz.prog 44 #[.int .u32 (bits .xor .u32 IntKind.u32.max ((lo o).magic.toNat : Int))] w fun e w' => e = .returned (.int .u32 (nz (~~~ (lo o).magic)).toNat) ∧ w = w') := fun w => by first | exact rsome_any (~~~ (lo o).magic) w | (rw [u32_not]; exact rsome_any (~~~ (lo o).magic) w)
  have HOn := hO_magic (nz (~~~ (lo o).magic))
  have HE := HE0
  clear HE0 hm hot
  generalize bOf (numS (nz (~~~ (lo o).magic)).toNat 4) = ad at *
  generalize nz (~~~ (lo o).magic) = nn at *
  generalize lo o = x at *
  go_enter Tryz.func85, Tryz.ntmps85
  go_wp2_with fail
  clear hW c0 c1 z0 z1 f0 f1
  refine (HG.out _).mono ?_
  rintro e w1 ⟨rfl, hb1⟩
  have H1 := Lib.hid (H0.out.callee hb1)
  clear hb1 HG H0
  have c0 : w1.cell? ⟨w.heap.size, 0, none⟩ = some (.int .u8 o.1.toNat) := H1.out.o.c0
  have c1 : w1.cell? ⟨w.heap.size, 1, none⟩ = some (.string o.2) := H1.out.o.c1
  have z0 : w1.cell? ⟨w.heap.size + 1, 0, none⟩ = some (.int .u8 0) := H1.out.z.c0
  have z1 : w1.cell? ⟨w.heap.size + 1, 1, none⟩ = some (.string ⟨#[]⟩) := H1.out.z.c1
  have f0 : w1.frozen? ⟨w.heap.size + 1, 0, none⟩ = false := Blk.frozen H1.out.z 0
  have f1 : w1.frozen? ⟨w.heap.size + 1, 1, none⟩ = false := Blk.frozen H1.out.z 1
  go_wp2_with fail
  clear c0 c1 z0 z1 f0 f1
  refine (HS.out _).mono ?_
  rintro e w2 ⟨rfl, hb2⟩
  have H2 := Lib.hid (H1.out.callee hb2)
  clear hb2 HS H1
  obtain ⟨V, hV, HV⟩ := boxL w2 x
  have H3 : Hid (Os w g p o w2.heap.size x V) := ⟨H2.out.o.callee HV.out.2.1, H2.out.z.callee HV.out.2.1, HV.out.1, H2.out.p.callee HV.out.2.1, H2.out.B.trans (HV.out.2.1.mono H2.out.B.size)⟩
  clear HV H2
  generalize hj : w2.heap.size = j at *
  unfold lv
  have c0 : V.cell? ⟨w.heap.size, 0, none⟩ = some (.int .u8 o.1.toNat) := H3.out.o.c0
  have c1 : V.cell? ⟨w.heap.size, 1, none⟩ = some (.string o.2) := H3.out.o.c1
  have z0 : V.cell? ⟨w.heap.size + 1, 0, none⟩ = some (.int .u8 0) := H3.out.z.c0
  have z1 : V.cell? ⟨w.heap.size + 1, 1, none⟩ = some (.string ⟨#[]⟩) := H3.out.z.c1
  have f0 : V.frozen? ⟨w.heap.size + 1, 0, none⟩ = false := Blk.frozen H3.out.z 0
  have f1 : V.frozen? ⟨w.heap.size + 1, 1, none⟩ = false := Blk.frozen H3.out.z 1
  have y1 : V.cell? ⟨j, 1, none⟩ = some (.int .u16 x.mru.toNat) := H3.out.y.c 1
  have y4 : V.cell? ⟨j, 4, none⟩ = some (.int .u8 x.auth.toNat) := H3.out.y.c 4
  have y6 : V.cell? ⟨j, 6, none⟩ = some (.int .u32 x.magic.toNat) := H3.out.y.c 6
  have p5 : V.cell? ⟨g, 5, none⟩ = some (.int .u8 p.c.can.toNat) := H3.out.p.c 5
  have p15 : V.cell? ⟨g, 15, none⟩ = some (.bool p.w.hg) := H3.out.p.c 15
  have p16 : V.cell? ⟨g, 16, none⟩ = some (.int .u32 x.magic.toNat) := by rw [HXO.out]; exact H3.out.p.c 16
  go_wp2_with fail
  clear hV hj c0 c1 z0 z1 f0 f1 y1 y4 y6 p5 p15 p16
  refine (HK.out _).mono ?_
  rintro e w3 ⟨rfl, hb3⟩
  have H4 := Lib.hid (H3.out.callee hb3)
  clear hb3 HK H3
  have c0 : w3.cell? ⟨w.heap.size, 0, none⟩ = some (.int .u8 o.1.toNat) := H4.out.o.c0
  have c1 : w3.cell? ⟨w.heap.size, 1, none⟩ = some (.string o.2) := H4.out.o.c1
  have z0 : w3.cell? ⟨w.heap.size + 1, 0, none⟩ = some (.int .u8 0) := H4.out.z.c0
  have z1 : w3.cell? ⟨w.heap.size + 1, 1, none⟩ = some (.string ⟨#[]⟩) := H4.out.z.c1
  have f0 : w3.frozen? ⟨w.heap.size + 1, 0, none⟩ = false := Blk.frozen H4.out.z 0
  have f1 : w3.frozen? ⟨w.heap.size + 1, 1, none⟩ = false := Blk.frozen H4.out.z 1
  have y1 : w3.cell? ⟨j, 1, none⟩ = some (.int .u16 x.mru.toNat) := H4.out.y.c 1
  have y4 : w3.cell? ⟨j, 4, none⟩ = some (.int .u8 x.auth.toNat) := H4.out.y.c 4
  have y6 : w3.cell? ⟨j, 6, none⟩ = some (.int .u32 x.magic.toNat) := H4.out.y.c 6
  have p5 : w3.cell? ⟨g, 5, none⟩ = some (.int .u8 p.c.can.toNat) := H4.out.p.c 5
  have p15 : w3.cell? ⟨g, 15, none⟩ = some (.bool p.w.hg) := H4.out.p.c 15
  have p16 : w3.cell? ⟨g, 16, none⟩ = some (.int .u32 x.magic.toNat) := by rw [HXO.out]; exact H4.out.p.c 16
  go_wp2_with fail
  clear c0 c1 z0 z1 f0 f1 y1 y4 y6 p5 p15 p16
  have c0 : ∀ q : HeldW (fun w' => Os w g p o j x w'), q.w.cell? ⟨w.heap.size, 0, none⟩ = some (.int .u8 o.1.toNat) := fun q => q.h.o.c0
  have y4 : ∀ q : HeldW (fun w' => Os w g p o j x w'), q.w.cell? ⟨j, 4, none⟩ = some (.int .u8 x.auth.toNat) := fun q => q.h.y.c 4
  have y6 : ∀ q : HeldW (fun w' => Os w g p o j x w'), q.w.cell? ⟨j, 6, none⟩ = some (.int .u32 x.magic.toNat) := fun q => q.h.y.c 6
  have p5 : ∀ q : HeldW (fun w' => Os w g p o j x w'), q.w.cell? ⟨g, 5, none⟩ = some (.int .u8 p.c.can.toNat) := fun q => q.h.p.c 5
  have p15 : ∀ q : HeldW (fun w' => Os w g p o j x w'), q.w.cell? ⟨g, 15, none⟩ = some (.bool true) := fun q => by rw [← hgw]; exact q.h.p.c 15
  have p16 : ∀ q : HeldW (fun w' => Os w g p o j x w'), q.w.cell? ⟨g, 16, none⟩ = some (.int .u32 x.magic.toNat) := fun q => by rw [HXO.out]; exact q.h.p.c 16
  have hne : Nonempty (HeldW (fun w' => Os w g p o j x w')) := ⟨⟨w3.drew, H4.out.drew⟩⟩
  refine wp_region_quiet_shut (fun w' => Os w g p o j x w') (by kernel_rfl) (by kernel_rfl) H4.out.drew (fun G hst hnil => ?_)
  repeat (
    refine hst.out _ _ _ (fun K hK => ?_)
    go_simp
    first
      | (refine hK _ ?_; clear hK K)
      | (apply Exists.intro
         refine ⟨fun _ => ?_, hK _ ?_⟩
         fail
         clear hK K))
  refine hnil.out _ (fun q => ?_)
  clear hnil hst
  have HQ := Lib.hid q.h
  clear c0 y4 y6 p5 p15 p16 hne
  obtain ⟨w5, hq_⟩ : ∃ W, q.w = W := ⟨_, rfl⟩
  rw [hq_] at HQ ⊢
  have H5 := HQ
  clear hq_ HQ
  have c0 : w5.cell? ⟨w.heap.size, 0, none⟩ = some (.int .u8 o.1.toNat) := H5.out.o.c0
  have c1 : w5.cell? ⟨w.heap.size, 1, none⟩ = some (.string o.2) := H5.out.o.c1
  have z0 : w5.cell? ⟨w.heap.size + 1, 0, none⟩ = some (.int .u8 0) := H5.out.z.c0
  have z1 : w5.cell? ⟨w.heap.size + 1, 1, none⟩ = some (.string ⟨#[]⟩) := H5.out.z.c1
  have f0 : w5.frozen? ⟨w.heap.size + 1, 0, none⟩ = false := Blk.frozen H5.out.z 0
  have f1 : w5.frozen? ⟨w.heap.size + 1, 1, none⟩ = false := Blk.frozen H5.out.z 1
  have y1 : w5.cell? ⟨j, 1, none⟩ = some (.int .u16 x.mru.toNat) := H5.out.y.c 1
  have y4 : w5.cell? ⟨j, 4, none⟩ = some (.int .u8 x.auth.toNat) := H5.out.y.c 4
  have y6 : w5.cell? ⟨j, 6, none⟩ = some (.int .u32 x.magic.toNat) := H5.out.y.c 6
  have p5 : w5.cell? ⟨g, 5, none⟩ = some (.int .u8 p.c.can.toNat) := H5.out.p.c 5
  have p15 : w5.cell? ⟨g, 15, none⟩ = some (.bool true) := by rw [← hgw]; exact H5.out.p.c 15
  have p16 : w5.cell? ⟨g, 16, none⟩ = some (.int .u32 x.magic.toNat) := by rw [HXO.out]; exact H5.out.p.c 16
  go_wp2_with fail
  clear c0 c1 z0 z1 f0 f1 y1 y4 y6 p5 p15 p16
  have c0 : ∀ q : HeldW (fun w' => Os w g p o j x w'), q.w.cell? ⟨w.heap.size, 0, none⟩ = some (.int .u8 o.1.toNat) := fun q => q.h.o.c0
  have y4 : ∀ q : HeldW (fun w' => Os w g p o j x w'), q.w.cell? ⟨j, 4, none⟩ = some (.int .u8 x.auth.toNat) := fun q => q.h.y.c 4
  have y6 : ∀ q : HeldW (fun w' => Os w g p o j x w'), q.w.cell? ⟨j, 6, none⟩ = some (.int .u32 x.magic.toNat) := fun q => q.h.y.c 6
  have p5 : ∀ q : HeldW (fun w' => Os w g p o j x w'), q.w.cell? ⟨g, 5, none⟩ = some (.int .u8 p.c.can.toNat) := fun q => q.h.p.c 5
  have p15 : ∀ q : HeldW (fun w' => Os w g p o j x w'), q.w.cell? ⟨g, 15, none⟩ = some (.bool true) := fun q => by rw [← hgw]; exact q.h.p.c 15
  have p16 : ∀ q : HeldW (fun w' => Os w g p o j x w'), q.w.cell? ⟨g, 16, none⟩ = some (.int .u32 x.magic.toNat) := fun q => by rw [HXO.out]; exact q.h.p.c 16
  have hne : Nonempty (HeldW (fun w' => Os w g p o j x w')) := ⟨⟨w5.drew, H5.out.drew⟩⟩
  refine wp_region_quiet_shut (fun w' => Os w g p o j x w') (by kernel_rfl) (by kernel_rfl) H5.out.drew (fun G hst hnil => ?_)
  repeat (
    refine hst.out _ _ _ (fun K hK => ?_)
    go_simp
    first
      | (refine hK _ ?_; clear hK K)
      | (apply Exists.intro
         refine ⟨fun _ => ?_, hK _ ?_⟩
         fail
         clear hK K))
  refine hnil.out _ (fun q => ?_)
  clear hnil hst
  have HQ := Lib.hid q.h
  clear c0 y4 y6 p5 p15 p16 hne
  obtain ⟨w6, hq_⟩ : ∃ W, q.w = W := ⟨_, rfl⟩
  rw [hq_] at HQ ⊢
  have H6 := HQ
  clear hq_ HQ
  have c0 : w6.cell? ⟨w.heap.size, 0, none⟩ = some (.int .u8 o.1.toNat) := H6.out.o.c0
  have c1 : w6.cell? ⟨w.heap.size, 1, none⟩ = some (.string o.2) := H6.out.o.c1
  have z0 : w6.cell? ⟨w.heap.size + 1, 0, none⟩ = some (.int .u8 0) := H6.out.z.c0
  have z1 : w6.cell? ⟨w.heap.size + 1, 1, none⟩ = some (.string ⟨#[]⟩) := H6.out.z.c1
  have f0 : w6.frozen? ⟨w.heap.size + 1, 0, none⟩ = false := Blk.frozen H6.out.z 0
  have f1 : w6.frozen? ⟨w.heap.size + 1, 1, none⟩ = false := Blk.frozen H6.out.z 1
  have y1 : w6.cell? ⟨j, 1, none⟩ = some (.int .u16 x.mru.toNat) := H6.out.y.c 1
  have y4 : w6.cell? ⟨j, 4, none⟩ = some (.int .u8 x.auth.toNat) := H6.out.y.c 4
  have y6 : w6.cell? ⟨j, 6, none⟩ = some (.int .u32 x.magic.toNat) := H6.out.y.c 6
  have p5 : w6.cell? ⟨g, 5, none⟩ = some (.int .u8 p.c.can.toNat) := H6.out.p.c 5
  have p15 : w6.cell? ⟨g, 15, none⟩ = some (.bool true) := by rw [← hgw]; exact H6.out.p.c 15
  have p16 : w6.cell? ⟨g, 16, none⟩ = some (.int .u32 x.magic.toNat) := by rw [HXO.out]; exact H6.out.p.c 16
  go_wp2_with fail
  clear c0 c1 z0 z1 f0 f1 y1 y4 y6 p5 p15 p16
  refine (HSm.out _).mono ?_
  rintro e _ ⟨rfl, rfl⟩
  have c0 : w6.cell? ⟨w.heap.size, 0, none⟩ = some (.int .u8 o.1.toNat) := H6.out.o.c0
  have c1 : w6.cell? ⟨w.heap.size, 1, none⟩ = some (.string o.2) := H6.out.o.c1
  have z0 : w6.cell? ⟨w.heap.size + 1, 0, none⟩ = some (.int .u8 0) := H6.out.z.c0
  have z1 : w6.cell? ⟨w.heap.size + 1, 1, none⟩ = some (.string ⟨#[]⟩) := H6.out.z.c1
  have f0 : w6.frozen? ⟨w.heap.size + 1, 0, none⟩ = false := Blk.frozen H6.out.z 0
  have f1 : w6.frozen? ⟨w.heap.size + 1, 1, none⟩ = false := Blk.frozen H6.out.z 1
  have y1 : w6.cell? ⟨j, 1, none⟩ = some (.int .u16 x.mru.toNat) := H6.out.y.c 1
  have y4 : w6.cell? ⟨j, 4, none⟩ = some (.int .u8 x.auth.toNat) := H6.out.y.c 4
  have y6 : w6.cell? ⟨j, 6, none⟩ = some (.int .u32 x.magic.toNat) := H6.out.y.c 6
  have p5 : w6.cell? ⟨g, 5, none⟩ = some (.int .u8 p.c.can.toNat) := H6.out.p.c 5
  have p15 : w6.cell? ⟨g, 15, none⟩ = some (.bool true) := by rw [← hgw]; exact H6.out.p.c 15
  have p16 : w6.cell? ⟨g, 16, none⟩ = some (.int .u32 x.magic.toNat) := by rw [HXO.out]; exact H6.out.p.c 16
  go_wp2_with fail
  clear c0 c1 z0 z1 f0 f1 y1 y4 y6 p5 p15 p16
  refine (HOn.out _).mono ?_
  rintro e w8 ⟨rfl, hb8⟩
  have H8 := Lib.hid (H6.out.callee hb8)
  clear hb8 H6 HOn
  have c0 : w8.cell? ⟨w.heap.size, 0, none⟩ = some (.int .u8 o.1.toNat) := H8.out.o.c0
  have c1 : w8.cell? ⟨w.heap.size, 1, none⟩ = some (.string o.2) := H8.out.o.c1
  have z0 : w8.cell? ⟨w.heap.size + 1, 0, none⟩ = some (.int .u8 0) := H8.out.z.c0
  have z1 : w8.cell? ⟨w.heap.size + 1, 1, none⟩ = some (.string ⟨#[]⟩) := H8.out.z.c1
  have f0 : w8.frozen? ⟨w.heap.size + 1, 0, none⟩ = false := Blk.frozen H8.out.z 0
  have f1 : w8.frozen? ⟨w.heap.size + 1, 1, none⟩ = false := Blk.frozen H8.out.z 1
  have y1 : w8.cell? ⟨j, 1, none⟩ = some (.int .u16 x.mru.toNat) := H8.out.y.c 1
  have y4 : w8.cell? ⟨j, 4, none⟩ = some (.int .u8 x.auth.toNat) := H8.out.y.c 4
  have y6 : w8.cell? ⟨j, 6, none⟩ = some (.int .u32 x.magic.toNat) := H8.out.y.c 6
  have p5 : w8.cell? ⟨g, 5, none⟩ = some (.int .u8 p.c.can.toNat) := H8.out.p.c 5
  have p15 : w8.cell? ⟨g, 15, none⟩ = some (.bool p.w.hg) := H8.out.p.c 15
  have p16 : w8.cell? ⟨g, 16, none⟩ = some (.int .u32 x.magic.toNat) := by rw [HXO.out]; exact H8.out.p.c 16
  go_wp2
  (try simp only [Exit.inBlock, Exit.then])
  refine bodyPost_ret (results_row0 rfl _ _ (w.heap.size + 1) _ _ _ rfl (H8.out.z.set (5, ad)) Tryz.underlying51 rfl (by kernel_rfl)) rfl ?_
  unfold OneQ
  rw [HE.out.1, HE.out.2]
  exact ⟨rfl, (H8.out.B.setCell (p := ⟨w.heap.size + 1, 0, none⟩) (Nat.le_succ _) _).setCell (p := ⟨w.heap.size + 1, 1, none⟩) (Nat.le_succ _) _⟩
end Go.Proofs.YtpohcejgblahiaaGreat.Pol

/- The document's one, further cases. Written by gen/pol_qc.py. -/
set_option linter.unusedSimpArgs false
set_option linter.unusedVariables false
namespace Go.Proofs.YtpohcejgblahiaaGreat.Pol
open Go.RowKit Go.Proofs.YtpohcejgblahiaaGreat.Oct Go.Proofs.YtpohcejgblahiaaGreat.Row Go.Proofs.YtpohcejgblahiaaGreat.Mem Go.Proofs.YtpohcejgblahiaaGreat.Opt Go.Proofs.YtpohcejgblahiaaGreat.Lco

theorem one_any (g : Nat) (p : Po) (o : Opt) (w : World) (h : RAt w g p) (hd : o.2.size ≤ 140737488351232) (hc3 : p.c.can ≤ 3) : Calls Tryz.prog 85 #[.pointer (some ⟨g, 0, none⟩), .agg #[.int .u8 o.1.toNat, .string o.2]] w (OneQ p o w) := by
  cases hk : known o.1
  · exact one_unknown g p o w h hd hk
  · by_cases h3 : o.1 = 3
    · cases hc : (p.c.can == 0)
      · cases hg : good o
        · exact one_auth_bad g p o w h hd h3 hc hc3 hg
        · cases ha : (p.c.can &&& (lo o).auth == 0)
          · exact one_auth_same g p o w h hd h3 hc hg ha
          · exact one_auth_other g p o w h hd h3 hc hc3 hg ha
      · exact one_off g p o w h hd h3 hc
    · cases hg : good o
      · exact one_odd g p o w h hd hk hg h3
      · by_cases h1 : o.1 = 1
        · exact one_mru g p o w h hd h1 hg
        · by_cases h5 : o.1 = 5
          · cases hz : ((lo o).magic == 0)
            · cases ho : (p.w.hg && (lo o).magic == p.w.magic)
              · exact one_magic_same g p o w h hd h5 hg hz ho
              · exact one_magic_own g p o w h hd h5 hg hz ho
            · exact one_magic_zero g p o w h hd h5 hg hz
          · exact one_plain g p o w h hd hg h1 h3 h5
end Go.Proofs.YtpohcejgblahiaaGreat.Pol
