/- PROVED: 'halyardlaw16.NegotDeaf' returns true for any conf, draw, packet, and whether it is opened, and up, and leaves them as they were. No condition. Written by gen/neg_deaf.py. -/
import Derived.SizedLaws
import Derived.Test.YtikcgcgbcolndaaGreatGNegLc
import Derived.Test.YtikcgcgbcolndaaGreatGOptOf
import Derived.Test.YtikcgcgbcolndaaGreatPk3
import Derived.Test.YtikcgcgbcolndaaGreatLaw
import Derived.Test.YtikcgcgbcolndaaGreatRows
namespace Go.Proofs.YtikcgcgbcolndaaGreat.NegotDeaf
open Go.ChangeShapes Go.WideShapes Go.ChangeAt Go.RowKit Go.Proofs.YtikcgcgbcolndaaGreat.Oct Go.Proofs.YtikcgcgbcolndaaGreat.Row Go.Proofs.YtikcgcgbcolndaaGreat.Fsm Go.Proofs.YtikcgcgbcolndaaGreat.Mem Go.Proofs.YtikcgcgbcolndaaGreat.Law Go.Proofs.YtikcgcgbcolndaaGreat.Opt Go.Proofs.YtikcgcgbcolndaaGreat.Pol Go.Proofs.YtikcgcgbcolndaaGreat.Neg

set_option maxHeartbeats 16000000 in
set_option maxRecDepth 100000 in
theorem walk_long (cf : Conf) (m : UInt32) (p : Pk) (o u : Bool) (w : World) (hl : 2048 < p.d.size) :
    Calls Tryz.prog 5 #[.agg #[Value.int .u16 cf.mru.toNat, .bool cf.ha, .int .u32 cf.accm.toNat, .int .u8 cf.auth.toNat, .int .u8 cf.takes.toNat, .int .u8 cf.can.toNat, .bool cf.mg, .bool cf.pfc, .bool cf.acfc, .int .i64 cf.mn], .int .u32 m.toNat, .agg #[.int .u8 p.c.toNat, .int .u8 p.i.toNat, .string p.d], .bool o, .bool u] w fun e w' => e = .returned (.bool true) ∧ Below w.heap.size w w' := by
  obtain ⟨W, hW, HW⟩ := boxLP w cf p
  have HB := Lib.hid HW.out.2.2.1
  have HP := Lib.hid HW.out.2.1
  have HC := Lib.hid HW.out.1
  have hWs : Hid (W.heap.size = w.heap.size + 2) := HW.out.2.2.2
  have p0 : W.cell? ⟨w.heap.size + 1, 0, none⟩ = some (.int .u8 p.c.toNat) := HP.out.at_ 0
  have p1 : W.cell? ⟨w.heap.size + 1, 1, none⟩ = some (.int .u8 p.i.toNat) := HP.out.at_ 1
  have p2 : W.cell? ⟨w.heap.size + 1, 2, none⟩ = some (.string p.d) := HP.out.at_ 2
  clear HW
  have hl' : (2048 : Int) < (p.d.size : Int) := by omega
  clear hl
  go_enter Tryz.func5, Tryz.ntmps5
  go_wp2_with fail
  refine (alive_any _).mono ?_
  rintro e w1 ⟨rfl, hb⟩
  have HE := Lib.hid (HB.out.trans (hb.mono HB.out.size))
  clear hb
  go_wp2
  go_ret
  exact ⟨rfl, HE.out⟩
set_option maxHeartbeats 16000000 in
set_option maxRecDepth 100000 in
theorem walk_no (cf : Conf) (m : UInt32) (p : Pk) (o u : Bool) (w : World) (hl : ¬ 2048 < p.d.size) (hc : mayC cf = false) :
    Calls Tryz.prog 5 #[.agg #[Value.int .u16 cf.mru.toNat, .bool cf.ha, .int .u32 cf.accm.toNat, .int .u8 cf.auth.toNat, .int .u8 cf.takes.toNat, .int .u8 cf.can.toNat, .bool cf.mg, .bool cf.pfc, .bool cf.acfc, .int .i64 cf.mn], .int .u32 m.toNat, .agg #[.int .u8 p.c.toNat, .int .u8 p.i.toNat, .string p.d], .bool o, .bool u] w fun e w' => e = .returned (.bool true) ∧ Below w.heap.size w w' := by
  obtain ⟨W, hW, HW⟩ := boxLP w cf p
  have HB := Lib.hid HW.out.2.2.1
  have HP := Lib.hid HW.out.2.1
  have HC := Lib.hid HW.out.1
  have hWs : Hid (W.heap.size = w.heap.size + 2) := HW.out.2.2.2
  have p0 : W.cell? ⟨w.heap.size + 1, 0, none⟩ = some (.int .u8 p.c.toNat) := HP.out.at_ 0
  have p1 : W.cell? ⟨w.heap.size + 1, 1, none⟩ = some (.int .u8 p.i.toNat) := HP.out.at_ 1
  have p2 : W.cell? ⟨w.heap.size + 1, 2, none⟩ = some (.string p.d) := HP.out.at_ 2
  clear HW
  have hl' : ¬ (2048 : Int) < (p.d.size : Int) := by omega
  have A0 := Lib.hid Neg.auto_any
  obtain ⟨k0, k1, k2, k3, k4, k5, k6, k7, k8, k9⟩ := (show CAt W.drew w.heap.size cf from HC.out).all
  have HCd : Hid (CAt W.drew w.heap.size cf) := HC.out
  have HBd : Hid (Below w.heap.size w W.drew) := HB.out.drew
  have HPd : Hid (Blk W.drew (w.heap.size + 1) (pkV p) 56) := HP.out
  have hWsd : Hid (W.drew.heap.size = w.heap.size + 2) := hWs.out
  have N1 := Lib.hid (fun w => lcp_no 3 10 2 cf m w hc)
  clear hl hc
  go_enter Tryz.func5, Tryz.ntmps5
  go_wp2_with fail
  (try clear hW)
  go_region_with (first
    | (go_at_call 10; refine (A0.out _).mono ?_; rintro e w1 ⟨rfl, hb1⟩; have B1 := Lib.hid (HBd.out.trans (hb1.mono HBd.out.size)); obtain ⟨j0, j1, j2, j3, j4, j5, j6, j7, j8, j9⟩ := (HCd.out.callee hb1).all; have HP1 := Lib.hid (HPd.out.callee hb1); have hw1 : Hid (w.heap.size + 2 ≤ w1.heap.size) := (show _ ≤ _ by have := hb1.size; have := hWsd.out; omega); clear hb1)
    | (go_at_call 9; refine (N1.out _).mono ?_; rintro e w2 ⟨rfl, hb2⟩; have B2 := Lib.hid (B1.out.trans (hb2.mono B1.out.size)); clear hb2)
    | fail)
  all_goals go_wp2_with fail
  all_goals (refine (alive_any _).mono ?_; rintro e w3 ⟨rfl, hb⟩; have HE := Lib.hid (B2.out.trans (hb.mono B2.out.size)); clear hb)
  all_goals go_wp2
  all_goals go_ret
  all_goals exact ⟨rfl, HE.out⟩
set_option maxHeartbeats 16000000 in
set_option maxRecDepth 100000 in
theorem d00a (cf : Conf) (m : UInt32) (p : Pk) (w : World) (hl : ¬ 2048 < p.d.size) (hc : mayC cf = true) (hk : p.c.toNat < 2) :
    Calls Tryz.prog 5 #[.agg #[Value.int .u16 cf.mru.toNat, .bool cf.ha, .int .u32 cf.accm.toNat, .int .u8 cf.auth.toNat, .int .u8 cf.takes.toNat, .int .u8 cf.can.toNat, .bool cf.mg, .bool cf.pfc, .bool cf.acfc, .int .i64 cf.mn], .int .u32 m.toNat, .agg #[.int .u8 p.c.toNat, .int .u8 p.i.toNat, .string p.d], .bool false, .bool false] w fun e w' => e = .returned (.bool true) ∧ Below w.heap.size w w' := by
  obtain ⟨W, hW, HW⟩ := boxLP w cf p
  have HB := Lib.hid HW.out.2.2.1
  have HP := Lib.hid HW.out.2.1
  have HC := Lib.hid HW.out.1
  have hWs : Hid (W.heap.size = w.heap.size + 2) := HW.out.2.2.2
  have p0 : W.cell? ⟨w.heap.size + 1, 0, none⟩ = some (.int .u8 p.c.toNat) := HP.out.at_ 0
  have p1 : W.cell? ⟨w.heap.size + 1, 1, none⟩ = some (.int .u8 p.i.toNat) := HP.out.at_ 1
  have p2 : W.cell? ⟨w.heap.size + 1, 2, none⟩ = some (.string p.d) := HP.out.at_ 2
  clear HW
  have hl' : ¬ (2048 : Int) < (p.d.size : Int) := by omega
  have A0 := Lib.hid Neg.auto_any
  obtain ⟨k0, k1, k2, k3, k4, k5, k6, k7, k8, k9⟩ := (show CAt W.drew w.heap.size cf from HC.out).all
  have HCd : Hid (CAt W.drew w.heap.size cf) := HC.out
  have HBd : Hid (Below w.heap.size w W.drew) := HB.out.drew
  have HPd : Hid (Blk W.drew (w.heap.size + 1) (pkV p) 56) := HP.out
  have hWsd : Hid (W.drew.heap.size = w.heap.size + 2) := hWs.out
  have N1 := Lib.hid (fun w => lcp_ok 3 10 2 cf m w may3 hc)
  have HPk := Lib.hid (hears_no (newSd lcK 3 10 2 (newP cf m)) (.inl rfl) p m)
  have c2 : ¬ (2 : Int) ≤ p.c.toNat := by omega
  clear hl hc hk
  go_enter Tryz.func5, Tryz.ntmps5
  go_wp2_with fail
  (try clear hW)
  go_region_with (first
    | (go_at_call 10; refine (A0.out _).mono ?_; rintro e w1 ⟨rfl, hb1⟩; have B1 := Lib.hid (HBd.out.trans (hb1.mono HBd.out.size)); obtain ⟨j0, j1, j2, j3, j4, j5, j6, j7, j8, j9⟩ := (HCd.out.callee hb1).all; have HP1 := Lib.hid (HPd.out.callee hb1); have hw1 : Hid (w.heap.size + 2 ≤ w1.heap.size) := (show _ ≤ _ by have := hb1.size; have := hWsd.out; omega); clear hb1)
    | (go_at_call 9; refine (N1.out _).mono ?_; rintro e w2 ⟨g, a, q, rfl, hg, ha, hq, hs, hb2⟩; have D2 : Hid (Dy w w2 g a q (newSd lcK 3 10 2 (newP cf m)) p) := ⟨hs, B1.out.trans (hb2.mono B1.out.size), (by have := hw1.out; rintro k (rfl | rfl | rfl) <;> omega), HP1.out.callee hb2⟩; clear hg ha hq hs hb2)
    | fail)
  all_goals
    go_wp2_with fail
    refine (side_lcp g a q _ _ D2.out.s).mono ?_
    rintro e w8 ⟨b0, rfl, hb0, hpb, hb8⟩
    have D8 := Lib.hid (D2.out.callee hb8)
    have Q8 := Lib.hid hpb
    have n8 : Hid (∀ k, My g a q k → ¬ k = b0) := fun k hk e => by have := D2.out.s.old k hk; omega
    clear hb0 hpb hb8 D2
    go_wp2_with fail
    refine (side_state lcK g a q _ _ D8.out.s).mono ?_
    rintro e w9 ⟨rfl, rfl⟩
    go_wp2_with fail
    refine (side_left lcK g a q _ _ D8.out.s).mono ?_
    rintro e w9 ⟨rfl, rfl⟩
    have u0 : w8.cell? ⟨w.heap.size + 1, 0, none⟩ = some (.int .u8 p.c.toNat) := D8.out.p.at_ 0
    have u1 : w8.cell? ⟨w.heap.size + 1, 1, none⟩ = some (.int .u8 p.i.toNat) := D8.out.p.at_ 1
    have u2 : w8.cell? ⟨w.heap.size + 1, 2, none⟩ = some (.string p.d) := D8.out.p.at_ 2
    go_wp2_with fail
    refine (HPk.out g a q _ D8.out.s).mono ?_
    rintro e w10 ⟨R, rc, rfl, _, hs10, hm10⟩
    have D10 := Lib.hid (D8.out.go hs10 hm10)
    have Q10 := Lib.hid (Q8.out.moves hm10 (fun hk => n8.out _ hk rfl))
    clear hs10 hm10 D8 Q8 u0 u1 u2
    have hbV := (Below.refl w10.heap.size w10).alloc (Nat.le_refl _) (.cells #[.slice R 0 rc, .int .u16 0, .int .u16 0, .bool false] 59)
    have D11 := Lib.hid (D10.out.callee hbV)
    have Q11 := Lib.hid (Q10.out.callee hbV)
    have v0 := D11.out.p.at_ 0
    have v1 := D11.out.p.at_ 1
    have v2 := D11.out.p.at_ 2
    simp only [pkV, List.getElem?_cons_zero, List.getElem?_cons_succ] at v0 v1 v2
    clear hbV D10 Q10
    go_wp2_with fail
    refine (side_state lcK g a q _ _ D11.out.s).mono ?_
    rintro e w12 ⟨rfl, rfl⟩
    go_wp2_with fail
    refine (side_left lcK g a q _ _ D11.out.s).mono ?_
    rintro e w12 ⟨rfl, rfl⟩
    go_wp2_with fail
    refine (side_lcp g a q _ _ D11.out.s).mono ?_
    rintro e w13 ⟨b1, rfl, hb1', hpb1, hb13⟩
    have D13 := Lib.hid (D11.out.callee hb13)
    have Q13 := Lib.hid (Q11.out.callee hb13)
    have Z13 := Lib.hid hpb1
    clear hb1' hpb1 hb13 D11 Q11
    go_wp2_with fail
    refine (same_pol b0 b1 _ _ _ Q13.out Z13.out rfl rfl rfl).mono ?_
    rintro e w14 ⟨rfl, hb14⟩
    have B14 := Lib.hid (D13.out.b.trans (hb14.mono D13.out.b.size))
    clear hb14 D13 Q13 Z13
    go_wp2_with fail
    refine (alive_any _).mono ?_
    rintro e w20 ⟨rfl, hb20⟩
    have HE := Lib.hid (B14.out.trans (hb20.mono B14.out.size))
    clear hb20
    go_wp2
    go_ret
    exact ⟨rfl, HE.out⟩
set_option maxHeartbeats 16000000 in
set_option maxRecDepth 100000 in
theorem d00b (cf : Conf) (m : UInt32) (p : Pk) (w : World) (hl : ¬ 2048 < p.d.size) (hc : mayC cf = true) (hk : 2 ≤ p.c.toNat ∧ p.c.toNat ≤ 4) :
    Calls Tryz.prog 5 #[.agg #[Value.int .u16 cf.mru.toNat, .bool cf.ha, .int .u32 cf.accm.toNat, .int .u8 cf.auth.toNat, .int .u8 cf.takes.toNat, .int .u8 cf.can.toNat, .bool cf.mg, .bool cf.pfc, .bool cf.acfc, .int .i64 cf.mn], .int .u32 m.toNat, .agg #[.int .u8 p.c.toNat, .int .u8 p.i.toNat, .string p.d], .bool false, .bool false] w fun e w' => e = .returned (.bool true) ∧ Below w.heap.size w w' := by
  obtain ⟨W, hW, HW⟩ := boxLP w cf p
  have HB := Lib.hid HW.out.2.2.1
  have HP := Lib.hid HW.out.2.1
  have HC := Lib.hid HW.out.1
  have hWs : Hid (W.heap.size = w.heap.size + 2) := HW.out.2.2.2
  have p0 : W.cell? ⟨w.heap.size + 1, 0, none⟩ = some (.int .u8 p.c.toNat) := HP.out.at_ 0
  have p1 : W.cell? ⟨w.heap.size + 1, 1, none⟩ = some (.int .u8 p.i.toNat) := HP.out.at_ 1
  have p2 : W.cell? ⟨w.heap.size + 1, 2, none⟩ = some (.string p.d) := HP.out.at_ 2
  clear HW
  have hl' : ¬ (2048 : Int) < (p.d.size : Int) := by omega
  have A0 := Lib.hid Neg.auto_any
  obtain ⟨k0, k1, k2, k3, k4, k5, k6, k7, k8, k9⟩ := (show CAt W.drew w.heap.size cf from HC.out).all
  have HCd : Hid (CAt W.drew w.heap.size cf) := HC.out
  have HBd : Hid (Below w.heap.size w W.drew) := HB.out.drew
  have HPd : Hid (Blk W.drew (w.heap.size + 1) (pkV p) 56) := HP.out
  have hWsd : Hid (W.drew.heap.size = w.heap.size + 2) := hWs.out
  have N1 := Lib.hid (fun w => lcp_ok 3 10 2 cf m w may3 hc)
  have HPk := Lib.hid (hears_no (newSd lcK 3 10 2 (newP cf m)) (.inl rfl) p m)
  have c2 : (2 : Int) ≤ p.c.toNat := by omega
  have c4 : (p.c.toNat : Int) ≤ 4 := by omega
  clear hl hc hk
  go_enter Tryz.func5, Tryz.ntmps5
  go_wp2_with fail
  (try clear hW)
  go_region_with (first
    | (go_at_call 10; refine (A0.out _).mono ?_; rintro e w1 ⟨rfl, hb1⟩; have B1 := Lib.hid (HBd.out.trans (hb1.mono HBd.out.size)); obtain ⟨j0, j1, j2, j3, j4, j5, j6, j7, j8, j9⟩ := (HCd.out.callee hb1).all; have HP1 := Lib.hid (HPd.out.callee hb1); have hw1 : Hid (w.heap.size + 2 ≤ w1.heap.size) := (show _ ≤ _ by have := hb1.size; have := hWsd.out; omega); clear hb1)
    | (go_at_call 9; refine (N1.out _).mono ?_; rintro e w2 ⟨g, a, q, rfl, hg, ha, hq, hs, hb2⟩; have D2 : Hid (Dy w w2 g a q (newSd lcK 3 10 2 (newP cf m)) p) := ⟨hs, B1.out.trans (hb2.mono B1.out.size), (by have := hw1.out; rintro k (rfl | rfl | rfl) <;> omega), HP1.out.callee hb2⟩; clear hg ha hq hs hb2)
    | fail)
  all_goals
    go_wp2_with fail
    refine (side_lcp g a q _ _ D2.out.s).mono ?_
    rintro e w8 ⟨b0, rfl, hb0, hpb, hb8⟩
    have D8 := Lib.hid (D2.out.callee hb8)
    have Q8 := Lib.hid hpb
    have n8 : Hid (∀ k, My g a q k → ¬ k = b0) := fun k hk e => by have := D2.out.s.old k hk; omega
    clear hb0 hpb hb8 D2
    go_wp2_with fail
    refine (side_state lcK g a q _ _ D8.out.s).mono ?_
    rintro e w9 ⟨rfl, rfl⟩
    go_wp2_with fail
    refine (side_left lcK g a q _ _ D8.out.s).mono ?_
    rintro e w9 ⟨rfl, rfl⟩
    have u0 : w8.cell? ⟨w.heap.size + 1, 0, none⟩ = some (.int .u8 p.c.toNat) := D8.out.p.at_ 0
    have u1 : w8.cell? ⟨w.heap.size + 1, 1, none⟩ = some (.int .u8 p.i.toNat) := D8.out.p.at_ 1
    have u2 : w8.cell? ⟨w.heap.size + 1, 2, none⟩ = some (.string p.d) := D8.out.p.at_ 2
    go_wp2_with fail
    refine (HPk.out g a q _ D8.out.s).mono ?_
    rintro e w10 ⟨R, rc, rfl, _, hs10, hm10⟩
    have D10 := Lib.hid (D8.out.go hs10 hm10)
    have Q10 := Lib.hid (Q8.out.moves hm10 (fun hk => n8.out _ hk rfl))
    clear hs10 hm10 D8 Q8 u0 u1 u2
    have hbV := (Below.refl w10.heap.size w10).alloc (Nat.le_refl _) (.cells #[.slice R 0 rc, .int .u16 0, .int .u16 0, .bool false] 59)
    have D11 := Lib.hid (D10.out.callee hbV)
    have Q11 := Lib.hid (Q10.out.callee hbV)
    have v0 := D11.out.p.at_ 0
    have v1 := D11.out.p.at_ 1
    have v2 := D11.out.p.at_ 2
    simp only [pkV, List.getElem?_cons_zero, List.getElem?_cons_succ] at v0 v1 v2
    clear hbV D10 Q10
    go_wp2_with fail
    refine (side_state lcK g a q _ _ D11.out.s).mono ?_
    rintro e w12 ⟨rfl, rfl⟩
    go_wp2_with fail
    refine (side_left lcK g a q _ _ D11.out.s).mono ?_
    rintro e w12 ⟨rfl, rfl⟩
    go_wp2_with fail
    refine (side_lcp g a q _ _ D11.out.s).mono ?_
    rintro e w13 ⟨b1, rfl, hb1', hpb1, hb13⟩
    have D13 := Lib.hid (D11.out.callee hb13)
    have Q13 := Lib.hid (Q11.out.callee hb13)
    have Z13 := Lib.hid hpb1
    clear hb1' hpb1 hb13 D11 Q11
    go_wp2_with fail
    refine (same_pol b0 b1 _ _ _ Q13.out Z13.out rfl rfl rfl).mono ?_
    rintro e w14 ⟨rfl, hb14⟩
    have B14 := Lib.hid (D13.out.b.trans (hb14.mono D13.out.b.size))
    clear hb14 D13 Q13 Z13
    go_wp2_with fail
    refine (alive_any _).mono ?_
    rintro e w20 ⟨rfl, hb20⟩
    have HE := Lib.hid (B14.out.trans (hb20.mono B14.out.size))
    clear hb20
    go_wp2
    go_ret
    exact ⟨rfl, HE.out⟩
set_option maxHeartbeats 16000000 in
set_option maxRecDepth 100000 in
theorem d00c (cf : Conf) (m : UInt32) (p : Pk) (w : World) (hl : ¬ 2048 < p.d.size) (hc : mayC cf = true) (hk : 4 < p.c.toNat) :
    Calls Tryz.prog 5 #[.agg #[Value.int .u16 cf.mru.toNat, .bool cf.ha, .int .u32 cf.accm.toNat, .int .u8 cf.auth.toNat, .int .u8 cf.takes.toNat, .int .u8 cf.can.toNat, .bool cf.mg, .bool cf.pfc, .bool cf.acfc, .int .i64 cf.mn], .int .u32 m.toNat, .agg #[.int .u8 p.c.toNat, .int .u8 p.i.toNat, .string p.d], .bool false, .bool false] w fun e w' => e = .returned (.bool true) ∧ Below w.heap.size w w' := by
  obtain ⟨W, hW, HW⟩ := boxLP w cf p
  have HB := Lib.hid HW.out.2.2.1
  have HP := Lib.hid HW.out.2.1
  have HC := Lib.hid HW.out.1
  have hWs : Hid (W.heap.size = w.heap.size + 2) := HW.out.2.2.2
  have p0 : W.cell? ⟨w.heap.size + 1, 0, none⟩ = some (.int .u8 p.c.toNat) := HP.out.at_ 0
  have p1 : W.cell? ⟨w.heap.size + 1, 1, none⟩ = some (.int .u8 p.i.toNat) := HP.out.at_ 1
  have p2 : W.cell? ⟨w.heap.size + 1, 2, none⟩ = some (.string p.d) := HP.out.at_ 2
  clear HW
  have hl' : ¬ (2048 : Int) < (p.d.size : Int) := by omega
  have A0 := Lib.hid Neg.auto_any
  obtain ⟨k0, k1, k2, k3, k4, k5, k6, k7, k8, k9⟩ := (show CAt W.drew w.heap.size cf from HC.out).all
  have HCd : Hid (CAt W.drew w.heap.size cf) := HC.out
  have HBd : Hid (Below w.heap.size w W.drew) := HB.out.drew
  have HPd : Hid (Blk W.drew (w.heap.size + 1) (pkV p) 56) := HP.out
  have hWsd : Hid (W.drew.heap.size = w.heap.size + 2) := hWs.out
  have N1 := Lib.hid (fun w => lcp_ok 3 10 2 cf m w may3 hc)
  have HPk := Lib.hid (hears_no (newSd lcK 3 10 2 (newP cf m)) (.inl rfl) p m)
  have c2 : (2 : Int) ≤ p.c.toNat := by omega
  have c4 : ¬ (p.c.toNat : Int) ≤ 4 := by omega
  clear hl hc hk
  go_enter Tryz.func5, Tryz.ntmps5
  go_wp2_with fail
  (try clear hW)
  go_region_with (first
    | (go_at_call 10; refine (A0.out _).mono ?_; rintro e w1 ⟨rfl, hb1⟩; have B1 := Lib.hid (HBd.out.trans (hb1.mono HBd.out.size)); obtain ⟨j0, j1, j2, j3, j4, j5, j6, j7, j8, j9⟩ := (HCd.out.callee hb1).all; have HP1 := Lib.hid (HPd.out.callee hb1); have hw1 : Hid (w.heap.size + 2 ≤ w1.heap.size) := (show _ ≤ _ by have := hb1.size; have := hWsd.out; omega); clear hb1)
    | (go_at_call 9; refine (N1.out _).mono ?_; rintro e w2 ⟨g, a, q, rfl, hg, ha, hq, hs, hb2⟩; have D2 : Hid (Dy w w2 g a q (newSd lcK 3 10 2 (newP cf m)) p) := ⟨hs, B1.out.trans (hb2.mono B1.out.size), (by have := hw1.out; rintro k (rfl | rfl | rfl) <;> omega), HP1.out.callee hb2⟩; clear hg ha hq hs hb2)
    | fail)
  all_goals
    go_wp2_with fail
    refine (side_lcp g a q _ _ D2.out.s).mono ?_
    rintro e w8 ⟨b0, rfl, hb0, hpb, hb8⟩
    have D8 := Lib.hid (D2.out.callee hb8)
    have Q8 := Lib.hid hpb
    have n8 : Hid (∀ k, My g a q k → ¬ k = b0) := fun k hk e => by have := D2.out.s.old k hk; omega
    clear hb0 hpb hb8 D2
    go_wp2_with fail
    refine (side_state lcK g a q _ _ D8.out.s).mono ?_
    rintro e w9 ⟨rfl, rfl⟩
    go_wp2_with fail
    refine (side_left lcK g a q _ _ D8.out.s).mono ?_
    rintro e w9 ⟨rfl, rfl⟩
    have u0 : w8.cell? ⟨w.heap.size + 1, 0, none⟩ = some (.int .u8 p.c.toNat) := D8.out.p.at_ 0
    have u1 : w8.cell? ⟨w.heap.size + 1, 1, none⟩ = some (.int .u8 p.i.toNat) := D8.out.p.at_ 1
    have u2 : w8.cell? ⟨w.heap.size + 1, 2, none⟩ = some (.string p.d) := D8.out.p.at_ 2
    go_wp2_with fail
    refine (HPk.out g a q _ D8.out.s).mono ?_
    rintro e w10 ⟨R, rc, rfl, _, hs10, hm10⟩
    have D10 := Lib.hid (D8.out.go hs10 hm10)
    have Q10 := Lib.hid (Q8.out.moves hm10 (fun hk => n8.out _ hk rfl))
    clear hs10 hm10 D8 Q8 u0 u1 u2
    have hbV := (Below.refl w10.heap.size w10).alloc (Nat.le_refl _) (.cells #[.slice R 0 rc, .int .u16 0, .int .u16 0, .bool false] 59)
    have D11 := Lib.hid (D10.out.callee hbV)
    have Q11 := Lib.hid (Q10.out.callee hbV)
    have v0 := D11.out.p.at_ 0
    have v1 := D11.out.p.at_ 1
    have v2 := D11.out.p.at_ 2
    simp only [pkV, List.getElem?_cons_zero, List.getElem?_cons_succ] at v0 v1 v2
    clear hbV D10 Q10
    go_wp2_with fail
    refine (side_state lcK g a q _ _ D11.out.s).mono ?_
    rintro e w12 ⟨rfl, rfl⟩
    go_wp2_with fail
    refine (side_left lcK g a q _ _ D11.out.s).mono ?_
    rintro e w12 ⟨rfl, rfl⟩
    go_wp2_with fail
    refine (side_lcp g a q _ _ D11.out.s).mono ?_
    rintro e w13 ⟨b1, rfl, hb1', hpb1, hb13⟩
    have D13 := Lib.hid (D11.out.callee hb13)
    have Q13 := Lib.hid (Q11.out.callee hb13)
    have Z13 := Lib.hid hpb1
    clear hb1' hpb1 hb13 D11 Q11
    go_wp2_with fail
    refine (same_pol b0 b1 _ _ _ Q13.out Z13.out rfl rfl rfl).mono ?_
    rintro e w14 ⟨rfl, hb14⟩
    have B14 := Lib.hid (D13.out.b.trans (hb14.mono D13.out.b.size))
    clear hb14 D13 Q13 Z13
    go_wp2_with fail
    refine (alive_any _).mono ?_
    rintro e w20 ⟨rfl, hb20⟩
    have HE := Lib.hid (B14.out.trans (hb20.mono B14.out.size))
    clear hb20
    go_wp2
    go_ret
    exact ⟨rfl, HE.out⟩
set_option maxHeartbeats 16000000 in
set_option maxRecDepth 100000 in
theorem d10a (cf : Conf) (m : UInt32) (p : Pk) (w : World) (hl : ¬ 2048 < p.d.size) (hc : mayC cf = true) (hk : p.c.toNat < 2) :
    Calls Tryz.prog 5 #[.agg #[Value.int .u16 cf.mru.toNat, .bool cf.ha, .int .u32 cf.accm.toNat, .int .u8 cf.auth.toNat, .int .u8 cf.takes.toNat, .int .u8 cf.can.toNat, .bool cf.mg, .bool cf.pfc, .bool cf.acfc, .int .i64 cf.mn], .int .u32 m.toNat, .agg #[.int .u8 p.c.toNat, .int .u8 p.i.toNat, .string p.d], .bool true, .bool false] w fun e w' => e = .returned (.bool true) ∧ Below w.heap.size w w' := by
  obtain ⟨W, hW, HW⟩ := boxLP w cf p
  have HB := Lib.hid HW.out.2.2.1
  have HP := Lib.hid HW.out.2.1
  have HC := Lib.hid HW.out.1
  have hWs : Hid (W.heap.size = w.heap.size + 2) := HW.out.2.2.2
  have p0 : W.cell? ⟨w.heap.size + 1, 0, none⟩ = some (.int .u8 p.c.toNat) := HP.out.at_ 0
  have p1 : W.cell? ⟨w.heap.size + 1, 1, none⟩ = some (.int .u8 p.i.toNat) := HP.out.at_ 1
  have p2 : W.cell? ⟨w.heap.size + 1, 2, none⟩ = some (.string p.d) := HP.out.at_ 2
  clear HW
  have hl' : ¬ (2048 : Int) < (p.d.size : Int) := by omega
  have A0 := Lib.hid Neg.auto_any
  obtain ⟨k0, k1, k2, k3, k4, k5, k6, k7, k8, k9⟩ := (show CAt W.drew w.heap.size cf from HC.out).all
  have HCd : Hid (CAt W.drew w.heap.size cf) := HC.out
  have HBd : Hid (Below w.heap.size w W.drew) := HB.out.drew
  have HPd : Hid (Blk W.drew (w.heap.size + 1) (pkV p) 56) := HP.out
  have hWsd : Hid (W.drew.heap.size = w.heap.size + 2) := hWs.out
  have N1 := Lib.hid (fun w => lcp_ok 3 10 2 cf m w may3 hc)
  have EO := Lib.hid (ev_o m hc)
  have HPk := Lib.hid (hears_no (({ newSd lcK 3 10 2 (newP cf m) with x := x1 3 10 2 } : Sd lcK)) (.inr rfl) p m)
  have c2 : ¬ (2 : Int) ≤ p.c.toNat := by omega
  clear hl hc hk
  go_enter Tryz.func5, Tryz.ntmps5
  go_wp2_with fail
  (try clear hW)
  go_region_with (first
    | (go_at_call 10; refine (A0.out _).mono ?_; rintro e w1 ⟨rfl, hb1⟩; have B1 := Lib.hid (HBd.out.trans (hb1.mono HBd.out.size)); obtain ⟨j0, j1, j2, j3, j4, j5, j6, j7, j8, j9⟩ := (HCd.out.callee hb1).all; have HP1 := Lib.hid (HPd.out.callee hb1); have hw1 : Hid (w.heap.size + 2 ≤ w1.heap.size) := (show _ ≤ _ by have := hb1.size; have := hWsd.out; omega); clear hb1)
    | (go_at_call 9; refine (N1.out _).mono ?_; rintro e w2 ⟨g, a, q, rfl, hg, ha, hq, hs, hb2⟩; have D2 : Hid (Dy w w2 g a q (newSd lcK 3 10 2 (newP cf m)) p) := ⟨hs, B1.out.trans (hb2.mono B1.out.size), (by have := hw1.out; rintro k (rfl | rfl | rfl) <;> omega), HP1.out.callee hb2⟩; clear hg ha hq hs hb2)
    | fail)
  all_goals
    go_wp2_with fail
    refine (EO.out g a q _ D2.out.s).mono ?_
    rintro e w3 ⟨R3, n3, rc3, T3, rfl, hs3, hm3⟩
    have D3 := Lib.hid (D2.out.go hs3 hm3)
    clear hs3 hm3 D2
    go_wp2_with fail
    refine (side_lcp g a q _ _ D3.out.s).mono ?_
    rintro e w8 ⟨b0, rfl, hb0, hpb, hb8⟩
    have D8 := Lib.hid (D3.out.callee hb8)
    have Q8 := Lib.hid hpb
    have n8 : Hid (∀ k, My g a q k → ¬ k = b0) := fun k hk e => by have := D3.out.s.old k hk; omega
    clear hb0 hpb hb8 D3
    go_wp2_with fail
    refine (side_state lcK g a q _ _ D8.out.s).mono ?_
    rintro e w9 ⟨rfl, rfl⟩
    go_wp2_with fail
    refine (side_left lcK g a q _ _ D8.out.s).mono ?_
    rintro e w9 ⟨rfl, rfl⟩
    have u0 : w8.cell? ⟨w.heap.size + 1, 0, none⟩ = some (.int .u8 p.c.toNat) := D8.out.p.at_ 0
    have u1 : w8.cell? ⟨w.heap.size + 1, 1, none⟩ = some (.int .u8 p.i.toNat) := D8.out.p.at_ 1
    have u2 : w8.cell? ⟨w.heap.size + 1, 2, none⟩ = some (.string p.d) := D8.out.p.at_ 2
    go_wp2_with fail
    refine (HPk.out g a q _ D8.out.s).mono ?_
    rintro e w10 ⟨R, rc, rfl, _, hs10, hm10⟩
    have D10 := Lib.hid (D8.out.go hs10 hm10)
    have Q10 := Lib.hid (Q8.out.moves hm10 (fun hk => n8.out _ hk rfl))
    clear hs10 hm10 D8 Q8 u0 u1 u2
    have hbV := (Below.refl w10.heap.size w10).alloc (Nat.le_refl _) (.cells #[.slice R 0 rc, .int .u16 0, .int .u16 0, .bool false] 59)
    have D11 := Lib.hid (D10.out.callee hbV)
    have Q11 := Lib.hid (Q10.out.callee hbV)
    have v0 := D11.out.p.at_ 0
    have v1 := D11.out.p.at_ 1
    have v2 := D11.out.p.at_ 2
    simp only [pkV, List.getElem?_cons_zero, List.getElem?_cons_succ] at v0 v1 v2
    clear hbV D10 Q10
    go_wp2_with fail
    refine (side_state lcK g a q _ _ D11.out.s).mono ?_
    rintro e w12 ⟨rfl, rfl⟩
    go_wp2_with fail
    refine (side_left lcK g a q _ _ D11.out.s).mono ?_
    rintro e w12 ⟨rfl, rfl⟩
    go_wp2_with fail
    refine (side_lcp g a q _ _ D11.out.s).mono ?_
    rintro e w13 ⟨b1, rfl, hb1', hpb1, hb13⟩
    have D13 := Lib.hid (D11.out.callee hb13)
    have Q13 := Lib.hid (Q11.out.callee hb13)
    have Z13 := Lib.hid hpb1
    clear hb1' hpb1 hb13 D11 Q11
    go_wp2_with fail
    refine (same_pol b0 b1 _ _ _ Q13.out Z13.out rfl rfl rfl).mono ?_
    rintro e w14 ⟨rfl, hb14⟩
    have B14 := Lib.hid (D13.out.b.trans (hb14.mono D13.out.b.size))
    clear hb14 D13 Q13 Z13
    go_wp2_with fail
    refine (alive_any _).mono ?_
    rintro e w20 ⟨rfl, hb20⟩
    have HE := Lib.hid (B14.out.trans (hb20.mono B14.out.size))
    clear hb20
    go_wp2
    go_ret
    exact ⟨rfl, HE.out⟩
set_option maxHeartbeats 16000000 in
set_option maxRecDepth 100000 in
theorem d10b (cf : Conf) (m : UInt32) (p : Pk) (w : World) (hl : ¬ 2048 < p.d.size) (hc : mayC cf = true) (hk : 2 ≤ p.c.toNat ∧ p.c.toNat ≤ 4) :
    Calls Tryz.prog 5 #[.agg #[Value.int .u16 cf.mru.toNat, .bool cf.ha, .int .u32 cf.accm.toNat, .int .u8 cf.auth.toNat, .int .u8 cf.takes.toNat, .int .u8 cf.can.toNat, .bool cf.mg, .bool cf.pfc, .bool cf.acfc, .int .i64 cf.mn], .int .u32 m.toNat, .agg #[.int .u8 p.c.toNat, .int .u8 p.i.toNat, .string p.d], .bool true, .bool false] w fun e w' => e = .returned (.bool true) ∧ Below w.heap.size w w' := by
  obtain ⟨W, hW, HW⟩ := boxLP w cf p
  have HB := Lib.hid HW.out.2.2.1
  have HP := Lib.hid HW.out.2.1
  have HC := Lib.hid HW.out.1
  have hWs : Hid (W.heap.size = w.heap.size + 2) := HW.out.2.2.2
  have p0 : W.cell? ⟨w.heap.size + 1, 0, none⟩ = some (.int .u8 p.c.toNat) := HP.out.at_ 0
  have p1 : W.cell? ⟨w.heap.size + 1, 1, none⟩ = some (.int .u8 p.i.toNat) := HP.out.at_ 1
  have p2 : W.cell? ⟨w.heap.size + 1, 2, none⟩ = some (.string p.d) := HP.out.at_ 2
  clear HW
  have hl' : ¬ (2048 : Int) < (p.d.size : Int) := by omega
  have A0 := Lib.hid Neg.auto_any
  obtain ⟨k0, k1, k2, k3, k4, k5, k6, k7, k8, k9⟩ := (show CAt W.drew w.heap.size cf from HC.out).all
  have HCd : Hid (CAt W.drew w.heap.size cf) := HC.out
  have HBd : Hid (Below w.heap.size w W.drew) := HB.out.drew
  have HPd : Hid (Blk W.drew (w.heap.size + 1) (pkV p) 56) := HP.out
  have hWsd : Hid (W.drew.heap.size = w.heap.size + 2) := hWs.out
  have N1 := Lib.hid (fun w => lcp_ok 3 10 2 cf m w may3 hc)
  have EO := Lib.hid (ev_o m hc)
  have HPk := Lib.hid (hears_no (({ newSd lcK 3 10 2 (newP cf m) with x := x1 3 10 2 } : Sd lcK)) (.inr rfl) p m)
  have c2 : (2 : Int) ≤ p.c.toNat := by omega
  have c4 : (p.c.toNat : Int) ≤ 4 := by omega
  clear hl hc hk
  go_enter Tryz.func5, Tryz.ntmps5
  go_wp2_with fail
  (try clear hW)
  go_region_with (first
    | (go_at_call 10; refine (A0.out _).mono ?_; rintro e w1 ⟨rfl, hb1⟩; have B1 := Lib.hid (HBd.out.trans (hb1.mono HBd.out.size)); obtain ⟨j0, j1, j2, j3, j4, j5, j6, j7, j8, j9⟩ := (HCd.out.callee hb1).all; have HP1 := Lib.hid (HPd.out.callee hb1); have hw1 : Hid (w.heap.size + 2 ≤ w1.heap.size) := (show _ ≤ _ by have := hb1.size; have := hWsd.out; omega); clear hb1)
    | (go_at_call 9; refine (N1.out _).mono ?_; rintro e w2 ⟨g, a, q, rfl, hg, ha, hq, hs, hb2⟩; have D2 : Hid (Dy w w2 g a q (newSd lcK 3 10 2 (newP cf m)) p) := ⟨hs, B1.out.trans (hb2.mono B1.out.size), (by have := hw1.out; rintro k (rfl | rfl | rfl) <;> omega), HP1.out.callee hb2⟩; clear hg ha hq hs hb2)
    | fail)
  all_goals
    go_wp2_with fail
    refine (EO.out g a q _ D2.out.s).mono ?_
    rintro e w3 ⟨R3, n3, rc3, T3, rfl, hs3, hm3⟩
    have D3 := Lib.hid (D2.out.go hs3 hm3)
    clear hs3 hm3 D2
    go_wp2_with fail
    refine (side_lcp g a q _ _ D3.out.s).mono ?_
    rintro e w8 ⟨b0, rfl, hb0, hpb, hb8⟩
    have D8 := Lib.hid (D3.out.callee hb8)
    have Q8 := Lib.hid hpb
    have n8 : Hid (∀ k, My g a q k → ¬ k = b0) := fun k hk e => by have := D3.out.s.old k hk; omega
    clear hb0 hpb hb8 D3
    go_wp2_with fail
    refine (side_state lcK g a q _ _ D8.out.s).mono ?_
    rintro e w9 ⟨rfl, rfl⟩
    go_wp2_with fail
    refine (side_left lcK g a q _ _ D8.out.s).mono ?_
    rintro e w9 ⟨rfl, rfl⟩
    have u0 : w8.cell? ⟨w.heap.size + 1, 0, none⟩ = some (.int .u8 p.c.toNat) := D8.out.p.at_ 0
    have u1 : w8.cell? ⟨w.heap.size + 1, 1, none⟩ = some (.int .u8 p.i.toNat) := D8.out.p.at_ 1
    have u2 : w8.cell? ⟨w.heap.size + 1, 2, none⟩ = some (.string p.d) := D8.out.p.at_ 2
    go_wp2_with fail
    refine (HPk.out g a q _ D8.out.s).mono ?_
    rintro e w10 ⟨R, rc, rfl, _, hs10, hm10⟩
    have D10 := Lib.hid (D8.out.go hs10 hm10)
    have Q10 := Lib.hid (Q8.out.moves hm10 (fun hk => n8.out _ hk rfl))
    clear hs10 hm10 D8 Q8 u0 u1 u2
    have hbV := (Below.refl w10.heap.size w10).alloc (Nat.le_refl _) (.cells #[.slice R 0 rc, .int .u16 0, .int .u16 0, .bool false] 59)
    have D11 := Lib.hid (D10.out.callee hbV)
    have Q11 := Lib.hid (Q10.out.callee hbV)
    have v0 := D11.out.p.at_ 0
    have v1 := D11.out.p.at_ 1
    have v2 := D11.out.p.at_ 2
    simp only [pkV, List.getElem?_cons_zero, List.getElem?_cons_succ] at v0 v1 v2
    clear hbV D10 Q10
    go_wp2_with fail
    refine (side_state lcK g a q _ _ D11.out.s).mono ?_
    rintro e w12 ⟨rfl, rfl⟩
    go_wp2_with fail
    refine (side_left lcK g a q _ _ D11.out.s).mono ?_
    rintro e w12 ⟨rfl, rfl⟩
    go_wp2_with fail
    refine (side_lcp g a q _ _ D11.out.s).mono ?_
    rintro e w13 ⟨b1, rfl, hb1', hpb1, hb13⟩
    have D13 := Lib.hid (D11.out.callee hb13)
    have Q13 := Lib.hid (Q11.out.callee hb13)
    have Z13 := Lib.hid hpb1
    clear hb1' hpb1 hb13 D11 Q11
    go_wp2_with fail
    refine (same_pol b0 b1 _ _ _ Q13.out Z13.out rfl rfl rfl).mono ?_
    rintro e w14 ⟨rfl, hb14⟩
    have B14 := Lib.hid (D13.out.b.trans (hb14.mono D13.out.b.size))
    clear hb14 D13 Q13 Z13
    go_wp2_with fail
    refine (alive_any _).mono ?_
    rintro e w20 ⟨rfl, hb20⟩
    have HE := Lib.hid (B14.out.trans (hb20.mono B14.out.size))
    clear hb20
    go_wp2
    go_ret
    exact ⟨rfl, HE.out⟩
set_option maxHeartbeats 16000000 in
set_option maxRecDepth 100000 in
theorem d10c (cf : Conf) (m : UInt32) (p : Pk) (w : World) (hl : ¬ 2048 < p.d.size) (hc : mayC cf = true) (hk : 4 < p.c.toNat) :
    Calls Tryz.prog 5 #[.agg #[Value.int .u16 cf.mru.toNat, .bool cf.ha, .int .u32 cf.accm.toNat, .int .u8 cf.auth.toNat, .int .u8 cf.takes.toNat, .int .u8 cf.can.toNat, .bool cf.mg, .bool cf.pfc, .bool cf.acfc, .int .i64 cf.mn], .int .u32 m.toNat, .agg #[.int .u8 p.c.toNat, .int .u8 p.i.toNat, .string p.d], .bool true, .bool false] w fun e w' => e = .returned (.bool true) ∧ Below w.heap.size w w' := by
  obtain ⟨W, hW, HW⟩ := boxLP w cf p
  have HB := Lib.hid HW.out.2.2.1
  have HP := Lib.hid HW.out.2.1
  have HC := Lib.hid HW.out.1
  have hWs : Hid (W.heap.size = w.heap.size + 2) := HW.out.2.2.2
  have p0 : W.cell? ⟨w.heap.size + 1, 0, none⟩ = some (.int .u8 p.c.toNat) := HP.out.at_ 0
  have p1 : W.cell? ⟨w.heap.size + 1, 1, none⟩ = some (.int .u8 p.i.toNat) := HP.out.at_ 1
  have p2 : W.cell? ⟨w.heap.size + 1, 2, none⟩ = some (.string p.d) := HP.out.at_ 2
  clear HW
  have hl' : ¬ (2048 : Int) < (p.d.size : Int) := by omega
  have A0 := Lib.hid Neg.auto_any
  obtain ⟨k0, k1, k2, k3, k4, k5, k6, k7, k8, k9⟩ := (show CAt W.drew w.heap.size cf from HC.out).all
  have HCd : Hid (CAt W.drew w.heap.size cf) := HC.out
  have HBd : Hid (Below w.heap.size w W.drew) := HB.out.drew
  have HPd : Hid (Blk W.drew (w.heap.size + 1) (pkV p) 56) := HP.out
  have hWsd : Hid (W.drew.heap.size = w.heap.size + 2) := hWs.out
  have N1 := Lib.hid (fun w => lcp_ok 3 10 2 cf m w may3 hc)
  have EO := Lib.hid (ev_o m hc)
  have HPk := Lib.hid (hears_no (({ newSd lcK 3 10 2 (newP cf m) with x := x1 3 10 2 } : Sd lcK)) (.inr rfl) p m)
  have c2 : (2 : Int) ≤ p.c.toNat := by omega
  have c4 : ¬ (p.c.toNat : Int) ≤ 4 := by omega
  clear hl hc hk
  go_enter Tryz.func5, Tryz.ntmps5
  go_wp2_with fail
  (try clear hW)
  go_region_with (first
    | (go_at_call 10; refine (A0.out _).mono ?_; rintro e w1 ⟨rfl, hb1⟩; have B1 := Lib.hid (HBd.out.trans (hb1.mono HBd.out.size)); obtain ⟨j0, j1, j2, j3, j4, j5, j6, j7, j8, j9⟩ := (HCd.out.callee hb1).all; have HP1 := Lib.hid (HPd.out.callee hb1); have hw1 : Hid (w.heap.size + 2 ≤ w1.heap.size) := (show _ ≤ _ by have := hb1.size; have := hWsd.out; omega); clear hb1)
    | (go_at_call 9; refine (N1.out _).mono ?_; rintro e w2 ⟨g, a, q, rfl, hg, ha, hq, hs, hb2⟩; have D2 : Hid (Dy w w2 g a q (newSd lcK 3 10 2 (newP cf m)) p) := ⟨hs, B1.out.trans (hb2.mono B1.out.size), (by have := hw1.out; rintro k (rfl | rfl | rfl) <;> omega), HP1.out.callee hb2⟩; clear hg ha hq hs hb2)
    | fail)
  all_goals
    go_wp2_with fail
    refine (EO.out g a q _ D2.out.s).mono ?_
    rintro e w3 ⟨R3, n3, rc3, T3, rfl, hs3, hm3⟩
    have D3 := Lib.hid (D2.out.go hs3 hm3)
    clear hs3 hm3 D2
    go_wp2_with fail
    refine (side_lcp g a q _ _ D3.out.s).mono ?_
    rintro e w8 ⟨b0, rfl, hb0, hpb, hb8⟩
    have D8 := Lib.hid (D3.out.callee hb8)
    have Q8 := Lib.hid hpb
    have n8 : Hid (∀ k, My g a q k → ¬ k = b0) := fun k hk e => by have := D3.out.s.old k hk; omega
    clear hb0 hpb hb8 D3
    go_wp2_with fail
    refine (side_state lcK g a q _ _ D8.out.s).mono ?_
    rintro e w9 ⟨rfl, rfl⟩
    go_wp2_with fail
    refine (side_left lcK g a q _ _ D8.out.s).mono ?_
    rintro e w9 ⟨rfl, rfl⟩
    have u0 : w8.cell? ⟨w.heap.size + 1, 0, none⟩ = some (.int .u8 p.c.toNat) := D8.out.p.at_ 0
    have u1 : w8.cell? ⟨w.heap.size + 1, 1, none⟩ = some (.int .u8 p.i.toNat) := D8.out.p.at_ 1
    have u2 : w8.cell? ⟨w.heap.size + 1, 2, none⟩ = some (.string p.d) := D8.out.p.at_ 2
    go_wp2_with fail
    refine (HPk.out g a q _ D8.out.s).mono ?_
    rintro e w10 ⟨R, rc, rfl, _, hs10, hm10⟩
    have D10 := Lib.hid (D8.out.go hs10 hm10)
    have Q10 := Lib.hid (Q8.out.moves hm10 (fun hk => n8.out _ hk rfl))
    clear hs10 hm10 D8 Q8 u0 u1 u2
    have hbV := (Below.refl w10.heap.size w10).alloc (Nat.le_refl _) (.cells #[.slice R 0 rc, .int .u16 0, .int .u16 0, .bool false] 59)
    have D11 := Lib.hid (D10.out.callee hbV)
    have Q11 := Lib.hid (Q10.out.callee hbV)
    have v0 := D11.out.p.at_ 0
    have v1 := D11.out.p.at_ 1
    have v2 := D11.out.p.at_ 2
    simp only [pkV, List.getElem?_cons_zero, List.getElem?_cons_succ] at v0 v1 v2
    clear hbV D10 Q10
    go_wp2_with fail
    refine (side_state lcK g a q _ _ D11.out.s).mono ?_
    rintro e w12 ⟨rfl, rfl⟩
    go_wp2_with fail
    refine (side_left lcK g a q _ _ D11.out.s).mono ?_
    rintro e w12 ⟨rfl, rfl⟩
    go_wp2_with fail
    refine (side_lcp g a q _ _ D11.out.s).mono ?_
    rintro e w13 ⟨b1, rfl, hb1', hpb1, hb13⟩
    have D13 := Lib.hid (D11.out.callee hb13)
    have Q13 := Lib.hid (Q11.out.callee hb13)
    have Z13 := Lib.hid hpb1
    clear hb1' hpb1 hb13 D11 Q11
    go_wp2_with fail
    refine (same_pol b0 b1 _ _ _ Q13.out Z13.out rfl rfl rfl).mono ?_
    rintro e w14 ⟨rfl, hb14⟩
    have B14 := Lib.hid (D13.out.b.trans (hb14.mono D13.out.b.size))
    clear hb14 D13 Q13 Z13
    go_wp2_with fail
    refine (alive_any _).mono ?_
    rintro e w20 ⟨rfl, hb20⟩
    have HE := Lib.hid (B14.out.trans (hb20.mono B14.out.size))
    clear hb20
    go_wp2
    go_ret
    exact ⟨rfl, HE.out⟩
set_option maxHeartbeats 16000000 in
set_option maxRecDepth 100000 in
theorem d01a (cf : Conf) (m : UInt32) (p : Pk) (w : World) (hl : ¬ 2048 < p.d.size) (hc : mayC cf = true) (hk : p.c.toNat = 0) :
    Calls Tryz.prog 5 #[.agg #[Value.int .u16 cf.mru.toNat, .bool cf.ha, .int .u32 cf.accm.toNat, .int .u8 cf.auth.toNat, .int .u8 cf.takes.toNat, .int .u8 cf.can.toNat, .bool cf.mg, .bool cf.pfc, .bool cf.acfc, .int .i64 cf.mn], .int .u32 m.toNat, .agg #[.int .u8 p.c.toNat, .int .u8 p.i.toNat, .string p.d], .bool false, .bool true] w fun e w' => e = .returned (.bool true) ∧ Below w.heap.size w w' := by
  obtain ⟨W, hW, HW⟩ := boxLP w cf p
  have HB := Lib.hid HW.out.2.2.1
  have HP := Lib.hid HW.out.2.1
  have HC := Lib.hid HW.out.1
  have hWs : Hid (W.heap.size = w.heap.size + 2) := HW.out.2.2.2
  have p0 : W.cell? ⟨w.heap.size + 1, 0, none⟩ = some (.int .u8 p.c.toNat) := HP.out.at_ 0
  have p1 : W.cell? ⟨w.heap.size + 1, 1, none⟩ = some (.int .u8 p.i.toNat) := HP.out.at_ 1
  have p2 : W.cell? ⟨w.heap.size + 1, 2, none⟩ = some (.string p.d) := HP.out.at_ 2
  clear HW
  have hl' : ¬ (2048 : Int) < (p.d.size : Int) := by omega
  have A0 := Lib.hid Neg.auto_any
  obtain ⟨k0, k1, k2, k3, k4, k5, k6, k7, k8, k9⟩ := (show CAt W.drew w.heap.size cf from HC.out).all
  have HCd : Hid (CAt W.drew w.heap.size cf) := HC.out
  have HBd : Hid (Below w.heap.size w W.drew) := HB.out.drew
  have HPd : Hid (Blk W.drew (w.heap.size + 1) (pkV p) 56) := HP.out
  have hWsd : Hid (W.drew.heap.size = w.heap.size + 2) := hWs.out
  have N1 := Lib.hid (fun w => lcp_ok 3 10 2 cf m w may3 hc)
  have EU := Lib.hid (ev_c m hc)
  obtain ⟨s', l, T, P, bb, hpk, hq1, hq2⟩ := hears_c m hc p (by unfold maxLen; omega)
  have HPk := Lib.hid hpk
  have HQp := Lib.hid (hq2 (by omega))
  clear hpk hq1 hq2
  have c2 : ¬ (2 : Int) ≤ p.c.toNat := by omega
  have c1 : ((p.c.toNat : Int) != 1) = true := by rw [bne_iff_ne]; omega
  clear hl hc hk
  go_enter Tryz.func5, Tryz.ntmps5
  go_wp2_with fail
  (try clear hW)
  go_region_with (first
    | (go_at_call 10; refine (A0.out _).mono ?_; rintro e w1 ⟨rfl, hb1⟩; have B1 := Lib.hid (HBd.out.trans (hb1.mono HBd.out.size)); obtain ⟨j0, j1, j2, j3, j4, j5, j6, j7, j8, j9⟩ := (HCd.out.callee hb1).all; have HP1 := Lib.hid (HPd.out.callee hb1); have hw1 : Hid (w.heap.size + 2 ≤ w1.heap.size) := (show _ ≤ _ by have := hb1.size; have := hWsd.out; omega); clear hb1)
    | (go_at_call 9; refine (N1.out _).mono ?_; rintro e w2 ⟨g, a, q, rfl, hg, ha, hq, hs, hb2⟩; have D2 : Hid (Dy w w2 g a q (newSd lcK 3 10 2 (newP cf m)) p) := ⟨hs, B1.out.trans (hb2.mono B1.out.size), (by have := hw1.out; rintro k (rfl | rfl | rfl) <;> omega), HP1.out.callee hb2⟩; clear hg ha hq hs hb2)
    | fail)
  all_goals
    go_wp2_with fail
    refine (EU.out g a q _ D2.out.s).mono ?_
    rintro e w3 ⟨R3, n3, rc3, T3, rfl, hs3, hm3⟩
    have D3 := Lib.hid (D2.out.go hs3 hm3)
    clear hs3 hm3 D2
    go_wp2_with fail
    refine (side_lcp g a q _ _ D3.out.s).mono ?_
    rintro e w8 ⟨b0, rfl, hb0, hpb, hb8⟩
    have D8 := Lib.hid (D3.out.callee hb8)
    have Q8 := Lib.hid hpb
    have n8 : Hid (∀ k, My g a q k → ¬ k = b0) := fun k hk e => by have := D3.out.s.old k hk; omega
    clear hb0 hpb hb8 D3
    go_wp2_with fail
    refine (side_state lcK g a q _ _ D8.out.s).mono ?_
    rintro e w9 ⟨rfl, rfl⟩
    go_wp2_with fail
    refine (side_left lcK g a q _ _ D8.out.s).mono ?_
    rintro e w9 ⟨rfl, rfl⟩
    have u0 : w8.cell? ⟨w.heap.size + 1, 0, none⟩ = some (.int .u8 p.c.toNat) := D8.out.p.at_ 0
    have u1 : w8.cell? ⟨w.heap.size + 1, 1, none⟩ = some (.int .u8 p.i.toNat) := D8.out.p.at_ 1
    have u2 : w8.cell? ⟨w.heap.size + 1, 2, none⟩ = some (.string p.d) := D8.out.p.at_ 2
    go_wp2_with fail
    refine (HPk.out g a q _ D8.out.s).mono ?_
    rintro e w10 ⟨R, rc, rfl, _, hs10, hm10⟩
    have D10 := Lib.hid (D8.out.go hs10 hm10)
    have Q10 := Lib.hid (Q8.out.moves hm10 (fun hk => n8.out _ hk rfl))
    clear hs10 hm10 D8 Q8 u0 u1 u2
    have hbV := (Below.refl w10.heap.size w10).alloc (Nat.le_refl _) (.cells #[.slice R l.length rc, .int .u16 T, .int .u16 P, .bool bb] 59)
    have D11 := Lib.hid (D10.out.callee hbV)
    have Q11 := Lib.hid (Q10.out.callee hbV)
    have v0 := D11.out.p.at_ 0
    have v1 := D11.out.p.at_ 1
    have v2 := D11.out.p.at_ 2
    simp only [pkV, List.getElem?_cons_zero, List.getElem?_cons_succ] at v0 v1 v2
    clear hbV D10 Q10
    go_wp2_with fail
    refine (side_lcp g a q _ _ D11.out.s).mono ?_
    rintro e w13 ⟨b1, rfl, hb1', hpb1, hb13⟩
    have D13 := Lib.hid (D11.out.callee hb13)
    have Q13 := Lib.hid (Q11.out.callee hb13)
    have Z13 := Lib.hid hpb1
    clear hb1' hpb1 hb13 D11 Q11
    go_wp2_with fail
    refine (same_pol b0 b1 _ _ _ Q13.out Z13.out (by rw [HQp.out]) (by rw [HQp.out]) (by rw [HQp.out])).mono ?_
    rintro e w14 ⟨rfl, hb14⟩
    have B14 := Lib.hid (D13.out.b.trans (hb14.mono D13.out.b.size))
    clear hb14 D13 Q13 Z13
    go_wp2_with fail
    refine (alive_any _).mono ?_
    rintro e w20 ⟨rfl, hb20⟩
    have HE := Lib.hid (B14.out.trans (hb20.mono B14.out.size))
    clear hb20
    go_wp2
    go_ret
    exact ⟨rfl, HE.out⟩
set_option maxHeartbeats 16000000 in
set_option maxRecDepth 100000 in
theorem d01b (cf : Conf) (m : UInt32) (p : Pk) (w : World) (hl : ¬ 2048 < p.d.size) (hc : mayC cf = true) (hk : p.c.toNat = 1) :
    Calls Tryz.prog 5 #[.agg #[Value.int .u16 cf.mru.toNat, .bool cf.ha, .int .u32 cf.accm.toNat, .int .u8 cf.auth.toNat, .int .u8 cf.takes.toNat, .int .u8 cf.can.toNat, .bool cf.mg, .bool cf.pfc, .bool cf.acfc, .int .i64 cf.mn], .int .u32 m.toNat, .agg #[.int .u8 p.c.toNat, .int .u8 p.i.toNat, .string p.d], .bool false, .bool true] w fun e w' => e = .returned (.bool true) ∧ Below w.heap.size w w' := by
  obtain ⟨W, hW, HW⟩ := boxLP w cf p
  have HB := Lib.hid HW.out.2.2.1
  have HP := Lib.hid HW.out.2.1
  have HC := Lib.hid HW.out.1
  have hWs : Hid (W.heap.size = w.heap.size + 2) := HW.out.2.2.2
  have p0 : W.cell? ⟨w.heap.size + 1, 0, none⟩ = some (.int .u8 p.c.toNat) := HP.out.at_ 0
  have p1 : W.cell? ⟨w.heap.size + 1, 1, none⟩ = some (.int .u8 p.i.toNat) := HP.out.at_ 1
  have p2 : W.cell? ⟨w.heap.size + 1, 2, none⟩ = some (.string p.d) := HP.out.at_ 2
  clear HW
  have hl' : ¬ (2048 : Int) < (p.d.size : Int) := by omega
  have A0 := Lib.hid Neg.auto_any
  obtain ⟨k0, k1, k2, k3, k4, k5, k6, k7, k8, k9⟩ := (show CAt W.drew w.heap.size cf from HC.out).all
  have HCd : Hid (CAt W.drew w.heap.size cf) := HC.out
  have HBd : Hid (Below w.heap.size w W.drew) := HB.out.drew
  have HPd : Hid (Blk W.drew (w.heap.size + 1) (pkV p) 56) := HP.out
  have hWsd : Hid (W.drew.heap.size = w.heap.size + 2) := hWs.out
  have N1 := Lib.hid (fun w => lcp_ok 3 10 2 cf m w may3 hc)
  have EU := Lib.hid (ev_c m hc)
  obtain ⟨s', l, T, P, bb, hpk, hq1, hq2⟩ := hears_c m hc p (by unfold maxLen; omega)
  have HPk := Lib.hid hpk
  clear hpk hq1 hq2
  have c2 : ¬ (2 : Int) ≤ p.c.toNat := by omega
  have c1 : ((p.c.toNat : Int) != 1) = false := by rw [hk]; rfl
  clear hl hc hk
  go_enter Tryz.func5, Tryz.ntmps5
  go_wp2_with fail
  (try clear hW)
  go_region_with (first
    | (go_at_call 10; refine (A0.out _).mono ?_; rintro e w1 ⟨rfl, hb1⟩; have B1 := Lib.hid (HBd.out.trans (hb1.mono HBd.out.size)); obtain ⟨j0, j1, j2, j3, j4, j5, j6, j7, j8, j9⟩ := (HCd.out.callee hb1).all; have HP1 := Lib.hid (HPd.out.callee hb1); have hw1 : Hid (w.heap.size + 2 ≤ w1.heap.size) := (show _ ≤ _ by have := hb1.size; have := hWsd.out; omega); clear hb1)
    | (go_at_call 9; refine (N1.out _).mono ?_; rintro e w2 ⟨g, a, q, rfl, hg, ha, hq, hs, hb2⟩; have D2 : Hid (Dy w w2 g a q (newSd lcK 3 10 2 (newP cf m)) p) := ⟨hs, B1.out.trans (hb2.mono B1.out.size), (by have := hw1.out; rintro k (rfl | rfl | rfl) <;> omega), HP1.out.callee hb2⟩; clear hg ha hq hs hb2)
    | fail)
  all_goals
    go_wp2_with fail
    refine (EU.out g a q _ D2.out.s).mono ?_
    rintro e w3 ⟨R3, n3, rc3, T3, rfl, hs3, hm3⟩
    have D3 := Lib.hid (D2.out.go hs3 hm3)
    clear hs3 hm3 D2
    go_wp2_with fail
    refine (side_lcp g a q _ _ D3.out.s).mono ?_
    rintro e w8 ⟨b0, rfl, hb0, hpb, hb8⟩
    have D8 := Lib.hid (D3.out.callee hb8)
    have Q8 := Lib.hid hpb
    have n8 : Hid (∀ k, My g a q k → ¬ k = b0) := fun k hk e => by have := D3.out.s.old k hk; omega
    clear hb0 hpb hb8 D3
    go_wp2_with fail
    refine (side_state lcK g a q _ _ D8.out.s).mono ?_
    rintro e w9 ⟨rfl, rfl⟩
    go_wp2_with fail
    refine (side_left lcK g a q _ _ D8.out.s).mono ?_
    rintro e w9 ⟨rfl, rfl⟩
    have u0 : w8.cell? ⟨w.heap.size + 1, 0, none⟩ = some (.int .u8 p.c.toNat) := D8.out.p.at_ 0
    have u1 : w8.cell? ⟨w.heap.size + 1, 1, none⟩ = some (.int .u8 p.i.toNat) := D8.out.p.at_ 1
    have u2 : w8.cell? ⟨w.heap.size + 1, 2, none⟩ = some (.string p.d) := D8.out.p.at_ 2
    go_wp2_with fail
    refine (HPk.out g a q _ D8.out.s).mono ?_
    rintro e w10 ⟨R, rc, rfl, _, hs10, hm10⟩
    have D10 := Lib.hid (D8.out.go hs10 hm10)
    have Q10 := Lib.hid (Q8.out.moves hm10 (fun hk => n8.out _ hk rfl))
    clear hs10 hm10 D8 Q8 u0 u1 u2
    have hbV := (Below.refl w10.heap.size w10).alloc (Nat.le_refl _) (.cells #[.slice R l.length rc, .int .u16 T, .int .u16 P, .bool bb] 59)
    have D11 := Lib.hid (D10.out.callee hbV)
    have Q11 := Lib.hid (Q10.out.callee hbV)
    have v0 := D11.out.p.at_ 0
    have v1 := D11.out.p.at_ 1
    have v2 := D11.out.p.at_ 2
    simp only [pkV, List.getElem?_cons_zero, List.getElem?_cons_succ] at v0 v1 v2
    clear hbV D10 Q10
    have B11 := Lib.hid D11.out.b
    go_wp2_with fail
    refine (alive_any _).mono ?_
    rintro e w20 ⟨rfl, hb20⟩
    have HE := Lib.hid (B11.out.trans (hb20.mono B11.out.size))
    clear hb20
    go_wp2
    go_ret
    exact ⟨rfl, HE.out⟩
set_option maxHeartbeats 16000000 in
set_option maxRecDepth 100000 in
theorem d01c0 (cf : Conf) (m : UInt32) (p : Pk) (w : World) (hl : ¬ 2048 < p.d.size) (hc : mayC cf = true) (hk : 2 ≤ p.c.toNat ∧ p.c.toNat ≤ 4) (hi : p.i.toNat = 1) :
    Calls Tryz.prog 5 #[.agg #[Value.int .u16 cf.mru.toNat, .bool cf.ha, .int .u32 cf.accm.toNat, .int .u8 cf.auth.toNat, .int .u8 cf.takes.toNat, .int .u8 cf.can.toNat, .bool cf.mg, .bool cf.pfc, .bool cf.acfc, .int .i64 cf.mn], .int .u32 m.toNat, .agg #[.int .u8 p.c.toNat, .int .u8 p.i.toNat, .string p.d], .bool false, .bool true] w fun e w' => e = .returned (.bool true) ∧ Below w.heap.size w w' := by
  obtain ⟨W, hW, HW⟩ := boxLP w cf p
  have HB := Lib.hid HW.out.2.2.1
  have HP := Lib.hid HW.out.2.1
  have HC := Lib.hid HW.out.1
  have hWs : Hid (W.heap.size = w.heap.size + 2) := HW.out.2.2.2
  have p0 : W.cell? ⟨w.heap.size + 1, 0, none⟩ = some (.int .u8 p.c.toNat) := HP.out.at_ 0
  have p1 : W.cell? ⟨w.heap.size + 1, 1, none⟩ = some (.int .u8 p.i.toNat) := HP.out.at_ 1
  have p2 : W.cell? ⟨w.heap.size + 1, 2, none⟩ = some (.string p.d) := HP.out.at_ 2
  clear HW
  have hl' : ¬ (2048 : Int) < (p.d.size : Int) := by omega
  have A0 := Lib.hid Neg.auto_any
  obtain ⟨k0, k1, k2, k3, k4, k5, k6, k7, k8, k9⟩ := (show CAt W.drew w.heap.size cf from HC.out).all
  have HCd : Hid (CAt W.drew w.heap.size cf) := HC.out
  have HBd : Hid (Below w.heap.size w W.drew) := HB.out.drew
  have HPd : Hid (Blk W.drew (w.heap.size + 1) (pkV p) 56) := HP.out
  have hWsd : Hid (W.drew.heap.size = w.heap.size + 2) := hWs.out
  have N1 := Lib.hid (fun w => lcp_ok 3 10 2 cf m w may3 hc)
  have EU := Lib.hid (ev_c m hc)
  obtain ⟨s', l, T, P, bb, hpk, hq1, hq2⟩ := hears_c m hc p (by unfold maxLen; omega)
  have HPk := Lib.hid hpk
  clear hpk hq1 hq2
  have c2 : (2 : Int) ≤ p.c.toNat := by omega
  have c4 : (p.c.toNat : Int) ≤ 4 := by omega
  have c1 : ((p.c.toNat : Int) != 1) = true := by rw [bne_iff_ne]; omega
  have i1 : ((p.i.toNat : Int) != 1) = false := by rw [hi]; rfl
  clear hl hc hk hi
  go_enter Tryz.func5, Tryz.ntmps5
  go_wp2_with fail
  (try clear hW)
  go_region_with (first
    | (go_at_call 10; refine (A0.out _).mono ?_; rintro e w1 ⟨rfl, hb1⟩; have B1 := Lib.hid (HBd.out.trans (hb1.mono HBd.out.size)); obtain ⟨j0, j1, j2, j3, j4, j5, j6, j7, j8, j9⟩ := (HCd.out.callee hb1).all; have HP1 := Lib.hid (HPd.out.callee hb1); have hw1 : Hid (w.heap.size + 2 ≤ w1.heap.size) := (show _ ≤ _ by have := hb1.size; have := hWsd.out; omega); clear hb1)
    | (go_at_call 9; refine (N1.out _).mono ?_; rintro e w2 ⟨g, a, q, rfl, hg, ha, hq, hs, hb2⟩; have D2 : Hid (Dy w w2 g a q (newSd lcK 3 10 2 (newP cf m)) p) := ⟨hs, B1.out.trans (hb2.mono B1.out.size), (by have := hw1.out; rintro k (rfl | rfl | rfl) <;> omega), HP1.out.callee hb2⟩; clear hg ha hq hs hb2)
    | fail)
  all_goals
    go_wp2_with fail
    refine (EU.out g a q _ D2.out.s).mono ?_
    rintro e w3 ⟨R3, n3, rc3, T3, rfl, hs3, hm3⟩
    have D3 := Lib.hid (D2.out.go hs3 hm3)
    clear hs3 hm3 D2
    go_wp2_with fail
    refine (side_lcp g a q _ _ D3.out.s).mono ?_
    rintro e w8 ⟨b0, rfl, hb0, hpb, hb8⟩
    have D8 := Lib.hid (D3.out.callee hb8)
    have Q8 := Lib.hid hpb
    have n8 : Hid (∀ k, My g a q k → ¬ k = b0) := fun k hk e => by have := D3.out.s.old k hk; omega
    clear hb0 hpb hb8 D3
    go_wp2_with fail
    refine (side_state lcK g a q _ _ D8.out.s).mono ?_
    rintro e w9 ⟨rfl, rfl⟩
    go_wp2_with fail
    refine (side_left lcK g a q _ _ D8.out.s).mono ?_
    rintro e w9 ⟨rfl, rfl⟩
    have u0 : w8.cell? ⟨w.heap.size + 1, 0, none⟩ = some (.int .u8 p.c.toNat) := D8.out.p.at_ 0
    have u1 : w8.cell? ⟨w.heap.size + 1, 1, none⟩ = some (.int .u8 p.i.toNat) := D8.out.p.at_ 1
    have u2 : w8.cell? ⟨w.heap.size + 1, 2, none⟩ = some (.string p.d) := D8.out.p.at_ 2
    go_wp2_with fail
    refine (HPk.out g a q _ D8.out.s).mono ?_
    rintro e w10 ⟨R, rc, rfl, _, hs10, hm10⟩
    have D10 := Lib.hid (D8.out.go hs10 hm10)
    have Q10 := Lib.hid (Q8.out.moves hm10 (fun hk => n8.out _ hk rfl))
    clear hs10 hm10 D8 Q8 u0 u1 u2
    have hbV := (Below.refl w10.heap.size w10).alloc (Nat.le_refl _) (.cells #[.slice R l.length rc, .int .u16 T, .int .u16 P, .bool bb] 59)
    have D11 := Lib.hid (D10.out.callee hbV)
    have Q11 := Lib.hid (Q10.out.callee hbV)
    have v0 := D11.out.p.at_ 0
    have v1 := D11.out.p.at_ 1
    have v2 := D11.out.p.at_ 2
    simp only [pkV, List.getElem?_cons_zero, List.getElem?_cons_succ] at v0 v1 v2
    clear hbV D10 Q10
    have B11 := Lib.hid D11.out.b
    go_wp2_with fail
    refine (alive_any _).mono ?_
    rintro e w20 ⟨rfl, hb20⟩
    have HE := Lib.hid (B11.out.trans (hb20.mono B11.out.size))
    clear hb20
    go_wp2
    go_ret
    exact ⟨rfl, HE.out⟩
set_option maxHeartbeats 16000000 in
set_option maxRecDepth 100000 in
theorem d01c1 (cf : Conf) (m : UInt32) (p : Pk) (w : World) (hl : ¬ 2048 < p.d.size) (hc : mayC cf = true) (hk : 2 ≤ p.c.toNat ∧ p.c.toNat ≤ 4) (hi : p.i.toNat ≠ 1) :
    Calls Tryz.prog 5 #[.agg #[Value.int .u16 cf.mru.toNat, .bool cf.ha, .int .u32 cf.accm.toNat, .int .u8 cf.auth.toNat, .int .u8 cf.takes.toNat, .int .u8 cf.can.toNat, .bool cf.mg, .bool cf.pfc, .bool cf.acfc, .int .i64 cf.mn], .int .u32 m.toNat, .agg #[.int .u8 p.c.toNat, .int .u8 p.i.toNat, .string p.d], .bool false, .bool true] w fun e w' => e = .returned (.bool true) ∧ Below w.heap.size w w' := by
  obtain ⟨W, hW, HW⟩ := boxLP w cf p
  have HB := Lib.hid HW.out.2.2.1
  have HP := Lib.hid HW.out.2.1
  have HC := Lib.hid HW.out.1
  have hWs : Hid (W.heap.size = w.heap.size + 2) := HW.out.2.2.2
  have p0 : W.cell? ⟨w.heap.size + 1, 0, none⟩ = some (.int .u8 p.c.toNat) := HP.out.at_ 0
  have p1 : W.cell? ⟨w.heap.size + 1, 1, none⟩ = some (.int .u8 p.i.toNat) := HP.out.at_ 1
  have p2 : W.cell? ⟨w.heap.size + 1, 2, none⟩ = some (.string p.d) := HP.out.at_ 2
  clear HW
  have hl' : ¬ (2048 : Int) < (p.d.size : Int) := by omega
  have A0 := Lib.hid Neg.auto_any
  obtain ⟨k0, k1, k2, k3, k4, k5, k6, k7, k8, k9⟩ := (show CAt W.drew w.heap.size cf from HC.out).all
  have HCd : Hid (CAt W.drew w.heap.size cf) := HC.out
  have HBd : Hid (Below w.heap.size w W.drew) := HB.out.drew
  have HPd : Hid (Blk W.drew (w.heap.size + 1) (pkV p) 56) := HP.out
  have hWsd : Hid (W.drew.heap.size = w.heap.size + 2) := hWs.out
  have N1 := Lib.hid (fun w => lcp_ok 3 10 2 cf m w may3 hc)
  have EU := Lib.hid (ev_c m hc)
  obtain ⟨s', l, T, P, bb, hpk, hq1, hq2⟩ := hears_c m hc p (by unfold maxLen; omega)
  have HPk := Lib.hid hpk
  clear hpk hq1 hq2
  have c2 : (2 : Int) ≤ p.c.toNat := by omega
  have c4 : (p.c.toNat : Int) ≤ 4 := by omega
  have c1 : ((p.c.toNat : Int) != 1) = true := by rw [bne_iff_ne]; omega
  have i1 : ((p.i.toNat : Int) != 1) = true := by rw [bne_iff_ne]; omega
  clear hl hc hk hi
  go_enter Tryz.func5, Tryz.ntmps5
  go_wp2_with fail
  (try clear hW)
  go_region_with (first
    | (go_at_call 10; refine (A0.out _).mono ?_; rintro e w1 ⟨rfl, hb1⟩; have B1 := Lib.hid (HBd.out.trans (hb1.mono HBd.out.size)); obtain ⟨j0, j1, j2, j3, j4, j5, j6, j7, j8, j9⟩ := (HCd.out.callee hb1).all; have HP1 := Lib.hid (HPd.out.callee hb1); have hw1 : Hid (w.heap.size + 2 ≤ w1.heap.size) := (show _ ≤ _ by have := hb1.size; have := hWsd.out; omega); clear hb1)
    | (go_at_call 9; refine (N1.out _).mono ?_; rintro e w2 ⟨g, a, q, rfl, hg, ha, hq, hs, hb2⟩; have D2 : Hid (Dy w w2 g a q (newSd lcK 3 10 2 (newP cf m)) p) := ⟨hs, B1.out.trans (hb2.mono B1.out.size), (by have := hw1.out; rintro k (rfl | rfl | rfl) <;> omega), HP1.out.callee hb2⟩; clear hg ha hq hs hb2)
    | fail)
  all_goals
    go_wp2_with fail
    refine (EU.out g a q _ D2.out.s).mono ?_
    rintro e w3 ⟨R3, n3, rc3, T3, rfl, hs3, hm3⟩
    have D3 := Lib.hid (D2.out.go hs3 hm3)
    clear hs3 hm3 D2
    go_wp2_with fail
    refine (side_lcp g a q _ _ D3.out.s).mono ?_
    rintro e w8 ⟨b0, rfl, hb0, hpb, hb8⟩
    have D8 := Lib.hid (D3.out.callee hb8)
    have Q8 := Lib.hid hpb
    have n8 : Hid (∀ k, My g a q k → ¬ k = b0) := fun k hk e => by have := D3.out.s.old k hk; omega
    clear hb0 hpb hb8 D3
    go_wp2_with fail
    refine (side_state lcK g a q _ _ D8.out.s).mono ?_
    rintro e w9 ⟨rfl, rfl⟩
    go_wp2_with fail
    refine (side_left lcK g a q _ _ D8.out.s).mono ?_
    rintro e w9 ⟨rfl, rfl⟩
    have u0 : w8.cell? ⟨w.heap.size + 1, 0, none⟩ = some (.int .u8 p.c.toNat) := D8.out.p.at_ 0
    have u1 : w8.cell? ⟨w.heap.size + 1, 1, none⟩ = some (.int .u8 p.i.toNat) := D8.out.p.at_ 1
    have u2 : w8.cell? ⟨w.heap.size + 1, 2, none⟩ = some (.string p.d) := D8.out.p.at_ 2
    go_wp2_with fail
    refine (HPk.out g a q _ D8.out.s).mono ?_
    rintro e w10 ⟨R, rc, rfl, _, hs10, hm10⟩
    have D10 := Lib.hid (D8.out.go hs10 hm10)
    have Q10 := Lib.hid (Q8.out.moves hm10 (fun hk => n8.out _ hk rfl))
    clear hs10 hm10 D8 Q8 u0 u1 u2
    have hbV := (Below.refl w10.heap.size w10).alloc (Nat.le_refl _) (.cells #[.slice R l.length rc, .int .u16 T, .int .u16 P, .bool bb] 59)
    have D11 := Lib.hid (D10.out.callee hbV)
    have Q11 := Lib.hid (Q10.out.callee hbV)
    have v0 := D11.out.p.at_ 0
    have v1 := D11.out.p.at_ 1
    have v2 := D11.out.p.at_ 2
    simp only [pkV, List.getElem?_cons_zero, List.getElem?_cons_succ] at v0 v1 v2
    clear hbV D10 Q10
    have B11 := Lib.hid D11.out.b
    go_wp2_with fail
    refine (alive_any _).mono ?_
    rintro e w20 ⟨rfl, hb20⟩
    have HE := Lib.hid (B11.out.trans (hb20.mono B11.out.size))
    clear hb20
    go_wp2
    go_ret
    exact ⟨rfl, HE.out⟩
set_option maxHeartbeats 16000000 in
set_option maxRecDepth 100000 in
theorem d01e (cf : Conf) (m : UInt32) (p : Pk) (w : World) (hl : ¬ 2048 < p.d.size) (hc : mayC cf = true) (hk : 4 < p.c.toNat) :
    Calls Tryz.prog 5 #[.agg #[Value.int .u16 cf.mru.toNat, .bool cf.ha, .int .u32 cf.accm.toNat, .int .u8 cf.auth.toNat, .int .u8 cf.takes.toNat, .int .u8 cf.can.toNat, .bool cf.mg, .bool cf.pfc, .bool cf.acfc, .int .i64 cf.mn], .int .u32 m.toNat, .agg #[.int .u8 p.c.toNat, .int .u8 p.i.toNat, .string p.d], .bool false, .bool true] w fun e w' => e = .returned (.bool true) ∧ Below w.heap.size w w' := by
  obtain ⟨W, hW, HW⟩ := boxLP w cf p
  have HB := Lib.hid HW.out.2.2.1
  have HP := Lib.hid HW.out.2.1
  have HC := Lib.hid HW.out.1
  have hWs : Hid (W.heap.size = w.heap.size + 2) := HW.out.2.2.2
  have p0 : W.cell? ⟨w.heap.size + 1, 0, none⟩ = some (.int .u8 p.c.toNat) := HP.out.at_ 0
  have p1 : W.cell? ⟨w.heap.size + 1, 1, none⟩ = some (.int .u8 p.i.toNat) := HP.out.at_ 1
  have p2 : W.cell? ⟨w.heap.size + 1, 2, none⟩ = some (.string p.d) := HP.out.at_ 2
  clear HW
  have hl' : ¬ (2048 : Int) < (p.d.size : Int) := by omega
  have A0 := Lib.hid Neg.auto_any
  obtain ⟨k0, k1, k2, k3, k4, k5, k6, k7, k8, k9⟩ := (show CAt W.drew w.heap.size cf from HC.out).all
  have HCd : Hid (CAt W.drew w.heap.size cf) := HC.out
  have HBd : Hid (Below w.heap.size w W.drew) := HB.out.drew
  have HPd : Hid (Blk W.drew (w.heap.size + 1) (pkV p) 56) := HP.out
  have hWsd : Hid (W.drew.heap.size = w.heap.size + 2) := hWs.out
  have N1 := Lib.hid (fun w => lcp_ok 3 10 2 cf m w may3 hc)
  have EU := Lib.hid (ev_c m hc)
  obtain ⟨s', l, T, P, bb, hpk, hq1, hq2⟩ := hears_c m hc p (by unfold maxLen; omega)
  have HPk := Lib.hid hpk
  have HQp := Lib.hid (hq2 (by omega))
  clear hpk hq1 hq2
  have c2 : (2 : Int) ≤ p.c.toNat := by omega
  have c4 : ¬ (p.c.toNat : Int) ≤ 4 := by omega
  have c1 : ((p.c.toNat : Int) != 1) = true := by rw [bne_iff_ne]; omega
  clear hl hc hk
  go_enter Tryz.func5, Tryz.ntmps5
  go_wp2_with fail
  (try clear hW)
  go_region_with (first
    | (go_at_call 10; refine (A0.out _).mono ?_; rintro e w1 ⟨rfl, hb1⟩; have B1 := Lib.hid (HBd.out.trans (hb1.mono HBd.out.size)); obtain ⟨j0, j1, j2, j3, j4, j5, j6, j7, j8, j9⟩ := (HCd.out.callee hb1).all; have HP1 := Lib.hid (HPd.out.callee hb1); have hw1 : Hid (w.heap.size + 2 ≤ w1.heap.size) := (show _ ≤ _ by have := hb1.size; have := hWsd.out; omega); clear hb1)
    | (go_at_call 9; refine (N1.out _).mono ?_; rintro e w2 ⟨g, a, q, rfl, hg, ha, hq, hs, hb2⟩; have D2 : Hid (Dy w w2 g a q (newSd lcK 3 10 2 (newP cf m)) p) := ⟨hs, B1.out.trans (hb2.mono B1.out.size), (by have := hw1.out; rintro k (rfl | rfl | rfl) <;> omega), HP1.out.callee hb2⟩; clear hg ha hq hs hb2)
    | fail)
  all_goals
    go_wp2_with fail
    refine (EU.out g a q _ D2.out.s).mono ?_
    rintro e w3 ⟨R3, n3, rc3, T3, rfl, hs3, hm3⟩
    have D3 := Lib.hid (D2.out.go hs3 hm3)
    clear hs3 hm3 D2
    go_wp2_with fail
    refine (side_lcp g a q _ _ D3.out.s).mono ?_
    rintro e w8 ⟨b0, rfl, hb0, hpb, hb8⟩
    have D8 := Lib.hid (D3.out.callee hb8)
    have Q8 := Lib.hid hpb
    have n8 : Hid (∀ k, My g a q k → ¬ k = b0) := fun k hk e => by have := D3.out.s.old k hk; omega
    clear hb0 hpb hb8 D3
    go_wp2_with fail
    refine (side_state lcK g a q _ _ D8.out.s).mono ?_
    rintro e w9 ⟨rfl, rfl⟩
    go_wp2_with fail
    refine (side_left lcK g a q _ _ D8.out.s).mono ?_
    rintro e w9 ⟨rfl, rfl⟩
    have u0 : w8.cell? ⟨w.heap.size + 1, 0, none⟩ = some (.int .u8 p.c.toNat) := D8.out.p.at_ 0
    have u1 : w8.cell? ⟨w.heap.size + 1, 1, none⟩ = some (.int .u8 p.i.toNat) := D8.out.p.at_ 1
    have u2 : w8.cell? ⟨w.heap.size + 1, 2, none⟩ = some (.string p.d) := D8.out.p.at_ 2
    go_wp2_with fail
    refine (HPk.out g a q _ D8.out.s).mono ?_
    rintro e w10 ⟨R, rc, rfl, _, hs10, hm10⟩
    have D10 := Lib.hid (D8.out.go hs10 hm10)
    have Q10 := Lib.hid (Q8.out.moves hm10 (fun hk => n8.out _ hk rfl))
    clear hs10 hm10 D8 Q8 u0 u1 u2
    have hbV := (Below.refl w10.heap.size w10).alloc (Nat.le_refl _) (.cells #[.slice R l.length rc, .int .u16 T, .int .u16 P, .bool bb] 59)
    have D11 := Lib.hid (D10.out.callee hbV)
    have Q11 := Lib.hid (Q10.out.callee hbV)
    have v0 := D11.out.p.at_ 0
    have v1 := D11.out.p.at_ 1
    have v2 := D11.out.p.at_ 2
    simp only [pkV, List.getElem?_cons_zero, List.getElem?_cons_succ] at v0 v1 v2
    clear hbV D10 Q10
    go_wp2_with fail
    refine (side_lcp g a q _ _ D11.out.s).mono ?_
    rintro e w13 ⟨b1, rfl, hb1', hpb1, hb13⟩
    have D13 := Lib.hid (D11.out.callee hb13)
    have Q13 := Lib.hid (Q11.out.callee hb13)
    have Z13 := Lib.hid hpb1
    clear hb1' hpb1 hb13 D11 Q11
    go_wp2_with fail
    refine (same_pol b0 b1 _ _ _ Q13.out Z13.out (by rw [HQp.out]) (by rw [HQp.out]) (by rw [HQp.out])).mono ?_
    rintro e w14 ⟨rfl, hb14⟩
    have B14 := Lib.hid (D13.out.b.trans (hb14.mono D13.out.b.size))
    clear hb14 D13 Q13 Z13
    go_wp2_with fail
    refine (alive_any _).mono ?_
    rintro e w20 ⟨rfl, hb20⟩
    have HE := Lib.hid (B14.out.trans (hb20.mono B14.out.size))
    clear hb20
    go_wp2
    go_ret
    exact ⟨rfl, HE.out⟩
set_option maxHeartbeats 16000000 in
set_option maxRecDepth 100000 in
theorem d11a (cf : Conf) (m : UInt32) (p : Pk) (w : World) (hl : ¬ 2048 < p.d.size) (hc : mayC cf = true) (hk : p.c.toNat = 0) :
    Calls Tryz.prog 5 #[.agg #[Value.int .u16 cf.mru.toNat, .bool cf.ha, .int .u32 cf.accm.toNat, .int .u8 cf.auth.toNat, .int .u8 cf.takes.toNat, .int .u8 cf.can.toNat, .bool cf.mg, .bool cf.pfc, .bool cf.acfc, .int .i64 cf.mn], .int .u32 m.toNat, .agg #[.int .u8 p.c.toNat, .int .u8 p.i.toNat, .string p.d], .bool true, .bool true] w fun e w' => e = .returned (.bool true) ∧ Below w.heap.size w w' := by
  obtain ⟨W, hW, HW⟩ := boxLP w cf p
  have HB := Lib.hid HW.out.2.2.1
  have HP := Lib.hid HW.out.2.1
  have HC := Lib.hid HW.out.1
  have hWs : Hid (W.heap.size = w.heap.size + 2) := HW.out.2.2.2
  have p0 : W.cell? ⟨w.heap.size + 1, 0, none⟩ = some (.int .u8 p.c.toNat) := HP.out.at_ 0
  have p1 : W.cell? ⟨w.heap.size + 1, 1, none⟩ = some (.int .u8 p.i.toNat) := HP.out.at_ 1
  have p2 : W.cell? ⟨w.heap.size + 1, 2, none⟩ = some (.string p.d) := HP.out.at_ 2
  clear HW
  have hl' : ¬ (2048 : Int) < (p.d.size : Int) := by omega
  have A0 := Lib.hid Neg.auto_any
  obtain ⟨k0, k1, k2, k3, k4, k5, k6, k7, k8, k9⟩ := (show CAt W.drew w.heap.size cf from HC.out).all
  have HCd : Hid (CAt W.drew w.heap.size cf) := HC.out
  have HBd : Hid (Below w.heap.size w W.drew) := HB.out.drew
  have HPd : Hid (Blk W.drew (w.heap.size + 1) (pkV p) 56) := HP.out
  have hWsd : Hid (W.drew.heap.size = w.heap.size + 2) := hWs.out
  have N1 := Lib.hid (fun w => lcp_ok 3 10 2 cf m w may3 hc)
  have EO := Lib.hid (ev_o m hc)
  have EU := Lib.hid (ev_u m hc)
  obtain ⟨s', l, T, P, bb, hpk, hq1, hq2⟩ := hears_u m hc p (by unfold maxLen; omega)
  have HPk := Lib.hid hpk
  have HQp := Lib.hid (hq2 (by omega))
  clear hpk hq1 hq2
  have c2 : ¬ (2 : Int) ≤ p.c.toNat := by omega
  have c1 : ((p.c.toNat : Int) != 1) = true := by rw [bne_iff_ne]; omega
  clear hl hc hk
  go_enter Tryz.func5, Tryz.ntmps5
  go_wp2_with fail
  (try clear hW)
  go_region_with (first
    | (go_at_call 10; refine (A0.out _).mono ?_; rintro e w1 ⟨rfl, hb1⟩; have B1 := Lib.hid (HBd.out.trans (hb1.mono HBd.out.size)); obtain ⟨j0, j1, j2, j3, j4, j5, j6, j7, j8, j9⟩ := (HCd.out.callee hb1).all; have HP1 := Lib.hid (HPd.out.callee hb1); have hw1 : Hid (w.heap.size + 2 ≤ w1.heap.size) := (show _ ≤ _ by have := hb1.size; have := hWsd.out; omega); clear hb1)
    | (go_at_call 9; refine (N1.out _).mono ?_; rintro e w2 ⟨g, a, q, rfl, hg, ha, hq, hs, hb2⟩; have D2 : Hid (Dy w w2 g a q (newSd lcK 3 10 2 (newP cf m)) p) := ⟨hs, B1.out.trans (hb2.mono B1.out.size), (by have := hw1.out; rintro k (rfl | rfl | rfl) <;> omega), HP1.out.callee hb2⟩; clear hg ha hq hs hb2)
    | fail)
  all_goals
    go_wp2_with fail
    refine (EO.out g a q _ D2.out.s).mono ?_
    rintro e w3 ⟨R3, n3, rc3, T3, rfl, hs3, hm3⟩
    have D3 := Lib.hid (D2.out.go hs3 hm3)
    clear hs3 hm3 D2
    go_wp2_with fail
    refine (EU.out g a q _ D3.out.s).mono ?_
    rintro e w4 ⟨R4, n4, rc4, T4, rfl, hs4, hm4⟩
    have D4 := Lib.hid (D3.out.go hs4 hm4)
    clear hs4 hm4 D3
    go_wp2_with fail
    refine (side_lcp g a q _ _ D4.out.s).mono ?_
    rintro e w8 ⟨b0, rfl, hb0, hpb, hb8⟩
    have D8 := Lib.hid (D4.out.callee hb8)
    have Q8 := Lib.hid hpb
    have n8 : Hid (∀ k, My g a q k → ¬ k = b0) := fun k hk e => by have := D4.out.s.old k hk; omega
    clear hb0 hpb hb8 D4
    go_wp2_with fail
    refine (side_state lcK g a q _ _ D8.out.s).mono ?_
    rintro e w9 ⟨rfl, rfl⟩
    go_wp2_with fail
    refine (side_left lcK g a q _ _ D8.out.s).mono ?_
    rintro e w9 ⟨rfl, rfl⟩
    have u0 : w8.cell? ⟨w.heap.size + 1, 0, none⟩ = some (.int .u8 p.c.toNat) := D8.out.p.at_ 0
    have u1 : w8.cell? ⟨w.heap.size + 1, 1, none⟩ = some (.int .u8 p.i.toNat) := D8.out.p.at_ 1
    have u2 : w8.cell? ⟨w.heap.size + 1, 2, none⟩ = some (.string p.d) := D8.out.p.at_ 2
    go_wp2_with fail
    refine (HPk.out g a q _ D8.out.s).mono ?_
    rintro e w10 ⟨R, rc, rfl, _, hs10, hm10⟩
    have D10 := Lib.hid (D8.out.go hs10 hm10)
    have Q10 := Lib.hid (Q8.out.moves hm10 (fun hk => n8.out _ hk rfl))
    clear hs10 hm10 D8 Q8 u0 u1 u2
    have hbV := (Below.refl w10.heap.size w10).alloc (Nat.le_refl _) (.cells #[.slice R l.length rc, .int .u16 T, .int .u16 P, .bool bb] 59)
    have D11 := Lib.hid (D10.out.callee hbV)
    have Q11 := Lib.hid (Q10.out.callee hbV)
    have v0 := D11.out.p.at_ 0
    have v1 := D11.out.p.at_ 1
    have v2 := D11.out.p.at_ 2
    simp only [pkV, List.getElem?_cons_zero, List.getElem?_cons_succ] at v0 v1 v2
    clear hbV D10 Q10
    go_wp2_with fail
    refine (side_lcp g a q _ _ D11.out.s).mono ?_
    rintro e w13 ⟨b1, rfl, hb1', hpb1, hb13⟩
    have D13 := Lib.hid (D11.out.callee hb13)
    have Q13 := Lib.hid (Q11.out.callee hb13)
    have Z13 := Lib.hid hpb1
    clear hb1' hpb1 hb13 D11 Q11
    go_wp2_with fail
    refine (same_pol b0 b1 _ _ _ Q13.out Z13.out (by rw [HQp.out]) (by rw [HQp.out]) (by rw [HQp.out])).mono ?_
    rintro e w14 ⟨rfl, hb14⟩
    have B14 := Lib.hid (D13.out.b.trans (hb14.mono D13.out.b.size))
    clear hb14 D13 Q13 Z13
    go_wp2_with fail
    refine (alive_any _).mono ?_
    rintro e w20 ⟨rfl, hb20⟩
    have HE := Lib.hid (B14.out.trans (hb20.mono B14.out.size))
    clear hb20
    go_wp2
    go_ret
    exact ⟨rfl, HE.out⟩
set_option maxHeartbeats 16000000 in
set_option maxRecDepth 100000 in
theorem d11b (cf : Conf) (m : UInt32) (p : Pk) (w : World) (hl : ¬ 2048 < p.d.size) (hc : mayC cf = true) (hk : p.c.toNat = 1) :
    Calls Tryz.prog 5 #[.agg #[Value.int .u16 cf.mru.toNat, .bool cf.ha, .int .u32 cf.accm.toNat, .int .u8 cf.auth.toNat, .int .u8 cf.takes.toNat, .int .u8 cf.can.toNat, .bool cf.mg, .bool cf.pfc, .bool cf.acfc, .int .i64 cf.mn], .int .u32 m.toNat, .agg #[.int .u8 p.c.toNat, .int .u8 p.i.toNat, .string p.d], .bool true, .bool true] w fun e w' => e = .returned (.bool true) ∧ Below w.heap.size w w' := by
  obtain ⟨W, hW, HW⟩ := boxLP w cf p
  have HB := Lib.hid HW.out.2.2.1
  have HP := Lib.hid HW.out.2.1
  have HC := Lib.hid HW.out.1
  have hWs : Hid (W.heap.size = w.heap.size + 2) := HW.out.2.2.2
  have p0 : W.cell? ⟨w.heap.size + 1, 0, none⟩ = some (.int .u8 p.c.toNat) := HP.out.at_ 0
  have p1 : W.cell? ⟨w.heap.size + 1, 1, none⟩ = some (.int .u8 p.i.toNat) := HP.out.at_ 1
  have p2 : W.cell? ⟨w.heap.size + 1, 2, none⟩ = some (.string p.d) := HP.out.at_ 2
  clear HW
  have hl' : ¬ (2048 : Int) < (p.d.size : Int) := by omega
  have A0 := Lib.hid Neg.auto_any
  obtain ⟨k0, k1, k2, k3, k4, k5, k6, k7, k8, k9⟩ := (show CAt W.drew w.heap.size cf from HC.out).all
  have HCd : Hid (CAt W.drew w.heap.size cf) := HC.out
  have HBd : Hid (Below w.heap.size w W.drew) := HB.out.drew
  have HPd : Hid (Blk W.drew (w.heap.size + 1) (pkV p) 56) := HP.out
  have hWsd : Hid (W.drew.heap.size = w.heap.size + 2) := hWs.out
  have N1 := Lib.hid (fun w => lcp_ok 3 10 2 cf m w may3 hc)
  have EO := Lib.hid (ev_o m hc)
  have EU := Lib.hid (ev_u m hc)
  obtain ⟨s', l, T, P, bb, hpk, hq1, hq2⟩ := hears_u m hc p (by unfold maxLen; omega)
  have HPk := Lib.hid hpk
  clear hpk hq1 hq2
  have c2 : ¬ (2 : Int) ≤ p.c.toNat := by omega
  have c1 : ((p.c.toNat : Int) != 1) = false := by rw [hk]; rfl
  clear hl hc hk
  go_enter Tryz.func5, Tryz.ntmps5
  go_wp2_with fail
  (try clear hW)
  go_region_with (first
    | (go_at_call 10; refine (A0.out _).mono ?_; rintro e w1 ⟨rfl, hb1⟩; have B1 := Lib.hid (HBd.out.trans (hb1.mono HBd.out.size)); obtain ⟨j0, j1, j2, j3, j4, j5, j6, j7, j8, j9⟩ := (HCd.out.callee hb1).all; have HP1 := Lib.hid (HPd.out.callee hb1); have hw1 : Hid (w.heap.size + 2 ≤ w1.heap.size) := (show _ ≤ _ by have := hb1.size; have := hWsd.out; omega); clear hb1)
    | (go_at_call 9; refine (N1.out _).mono ?_; rintro e w2 ⟨g, a, q, rfl, hg, ha, hq, hs, hb2⟩; have D2 : Hid (Dy w w2 g a q (newSd lcK 3 10 2 (newP cf m)) p) := ⟨hs, B1.out.trans (hb2.mono B1.out.size), (by have := hw1.out; rintro k (rfl | rfl | rfl) <;> omega), HP1.out.callee hb2⟩; clear hg ha hq hs hb2)
    | fail)
  all_goals
    go_wp2_with fail
    refine (EO.out g a q _ D2.out.s).mono ?_
    rintro e w3 ⟨R3, n3, rc3, T3, rfl, hs3, hm3⟩
    have D3 := Lib.hid (D2.out.go hs3 hm3)
    clear hs3 hm3 D2
    go_wp2_with fail
    refine (EU.out g a q _ D3.out.s).mono ?_
    rintro e w4 ⟨R4, n4, rc4, T4, rfl, hs4, hm4⟩
    have D4 := Lib.hid (D3.out.go hs4 hm4)
    clear hs4 hm4 D3
    go_wp2_with fail
    refine (side_lcp g a q _ _ D4.out.s).mono ?_
    rintro e w8 ⟨b0, rfl, hb0, hpb, hb8⟩
    have D8 := Lib.hid (D4.out.callee hb8)
    have Q8 := Lib.hid hpb
    have n8 : Hid (∀ k, My g a q k → ¬ k = b0) := fun k hk e => by have := D4.out.s.old k hk; omega
    clear hb0 hpb hb8 D4
    go_wp2_with fail
    refine (side_state lcK g a q _ _ D8.out.s).mono ?_
    rintro e w9 ⟨rfl, rfl⟩
    go_wp2_with fail
    refine (side_left lcK g a q _ _ D8.out.s).mono ?_
    rintro e w9 ⟨rfl, rfl⟩
    have u0 : w8.cell? ⟨w.heap.size + 1, 0, none⟩ = some (.int .u8 p.c.toNat) := D8.out.p.at_ 0
    have u1 : w8.cell? ⟨w.heap.size + 1, 1, none⟩ = some (.int .u8 p.i.toNat) := D8.out.p.at_ 1
    have u2 : w8.cell? ⟨w.heap.size + 1, 2, none⟩ = some (.string p.d) := D8.out.p.at_ 2
    go_wp2_with fail
    refine (HPk.out g a q _ D8.out.s).mono ?_
    rintro e w10 ⟨R, rc, rfl, _, hs10, hm10⟩
    have D10 := Lib.hid (D8.out.go hs10 hm10)
    have Q10 := Lib.hid (Q8.out.moves hm10 (fun hk => n8.out _ hk rfl))
    clear hs10 hm10 D8 Q8 u0 u1 u2
    have hbV := (Below.refl w10.heap.size w10).alloc (Nat.le_refl _) (.cells #[.slice R l.length rc, .int .u16 T, .int .u16 P, .bool bb] 59)
    have D11 := Lib.hid (D10.out.callee hbV)
    have Q11 := Lib.hid (Q10.out.callee hbV)
    have v0 := D11.out.p.at_ 0
    have v1 := D11.out.p.at_ 1
    have v2 := D11.out.p.at_ 2
    simp only [pkV, List.getElem?_cons_zero, List.getElem?_cons_succ] at v0 v1 v2
    clear hbV D10 Q10
    have B11 := Lib.hid D11.out.b
    go_wp2_with fail
    refine (alive_any _).mono ?_
    rintro e w20 ⟨rfl, hb20⟩
    have HE := Lib.hid (B11.out.trans (hb20.mono B11.out.size))
    clear hb20
    go_wp2
    go_ret
    exact ⟨rfl, HE.out⟩
set_option maxHeartbeats 16000000 in
set_option maxRecDepth 100000 in
theorem d11c (cf : Conf) (m : UInt32) (p : Pk) (w : World) (hl : ¬ 2048 < p.d.size) (hc : mayC cf = true) (hk : 2 ≤ p.c.toNat ∧ p.c.toNat ≤ 4) (hi : p.i.toNat ≠ 1) :
    Calls Tryz.prog 5 #[.agg #[Value.int .u16 cf.mru.toNat, .bool cf.ha, .int .u32 cf.accm.toNat, .int .u8 cf.auth.toNat, .int .u8 cf.takes.toNat, .int .u8 cf.can.toNat, .bool cf.mg, .bool cf.pfc, .bool cf.acfc, .int .i64 cf.mn], .int .u32 m.toNat, .agg #[.int .u8 p.c.toNat, .int .u8 p.i.toNat, .string p.d], .bool true, .bool true] w fun e w' => e = .returned (.bool true) ∧ Below w.heap.size w w' := by
  obtain ⟨W, hW, HW⟩ := boxLP w cf p
  have HB := Lib.hid HW.out.2.2.1
  have HP := Lib.hid HW.out.2.1
  have HC := Lib.hid HW.out.1
  have hWs : Hid (W.heap.size = w.heap.size + 2) := HW.out.2.2.2
  have p0 : W.cell? ⟨w.heap.size + 1, 0, none⟩ = some (.int .u8 p.c.toNat) := HP.out.at_ 0
  have p1 : W.cell? ⟨w.heap.size + 1, 1, none⟩ = some (.int .u8 p.i.toNat) := HP.out.at_ 1
  have p2 : W.cell? ⟨w.heap.size + 1, 2, none⟩ = some (.string p.d) := HP.out.at_ 2
  clear HW
  have hl' : ¬ (2048 : Int) < (p.d.size : Int) := by omega
  have A0 := Lib.hid Neg.auto_any
  obtain ⟨k0, k1, k2, k3, k4, k5, k6, k7, k8, k9⟩ := (show CAt W.drew w.heap.size cf from HC.out).all
  have HCd : Hid (CAt W.drew w.heap.size cf) := HC.out
  have HBd : Hid (Below w.heap.size w W.drew) := HB.out.drew
  have HPd : Hid (Blk W.drew (w.heap.size + 1) (pkV p) 56) := HP.out
  have hWsd : Hid (W.drew.heap.size = w.heap.size + 2) := hWs.out
  have N1 := Lib.hid (fun w => lcp_ok 3 10 2 cf m w may3 hc)
  have EO := Lib.hid (ev_o m hc)
  have EU := Lib.hid (ev_u m hc)
  obtain ⟨s', l, T, P, bb, hpk, hq1, hq2⟩ := hears_u m hc p (by unfold maxLen; omega)
  have HPk := Lib.hid hpk
  obtain ⟨e1, e2, e3⟩ := hq1 (by omega) (by omega) (.inr (by show p.i.toNat ≠ 1; omega))
  subst e1 e2 e3
  clear hpk hq1 hq2
  have c2 : (2 : Int) ≤ p.c.toNat := by omega
  have c4 : (p.c.toNat : Int) ≤ 4 := by omega
  have i1 : ((p.i.toNat : Int) != 1) = true := by rw [bne_iff_ne]; omega
  clear hl hc hk hi
  go_enter Tryz.func5, Tryz.ntmps5
  go_wp2_with fail
  (try clear hW)
  go_region_with (first
    | (go_at_call 10; refine (A0.out _).mono ?_; rintro e w1 ⟨rfl, hb1⟩; have B1 := Lib.hid (HBd.out.trans (hb1.mono HBd.out.size)); obtain ⟨j0, j1, j2, j3, j4, j5, j6, j7, j8, j9⟩ := (HCd.out.callee hb1).all; have HP1 := Lib.hid (HPd.out.callee hb1); have hw1 : Hid (w.heap.size + 2 ≤ w1.heap.size) := (show _ ≤ _ by have := hb1.size; have := hWsd.out; omega); clear hb1)
    | (go_at_call 9; refine (N1.out _).mono ?_; rintro e w2 ⟨g, a, q, rfl, hg, ha, hq, hs, hb2⟩; have D2 : Hid (Dy w w2 g a q (newSd lcK 3 10 2 (newP cf m)) p) := ⟨hs, B1.out.trans (hb2.mono B1.out.size), (by have := hw1.out; rintro k (rfl | rfl | rfl) <;> omega), HP1.out.callee hb2⟩; clear hg ha hq hs hb2)
    | fail)
  all_goals
    go_wp2_with fail
    refine (EO.out g a q _ D2.out.s).mono ?_
    rintro e w3 ⟨R3, n3, rc3, T3, rfl, hs3, hm3⟩
    have D3 := Lib.hid (D2.out.go hs3 hm3)
    clear hs3 hm3 D2
    go_wp2_with fail
    refine (EU.out g a q _ D3.out.s).mono ?_
    rintro e w4 ⟨R4, n4, rc4, T4, rfl, hs4, hm4⟩
    have D4 := Lib.hid (D3.out.go hs4 hm4)
    clear hs4 hm4 D3
    go_wp2_with fail
    refine (side_lcp g a q _ _ D4.out.s).mono ?_
    rintro e w8 ⟨b0, rfl, hb0, hpb, hb8⟩
    have D8 := Lib.hid (D4.out.callee hb8)
    have Q8 := Lib.hid hpb
    have n8 : Hid (∀ k, My g a q k → ¬ k = b0) := fun k hk e => by have := D4.out.s.old k hk; omega
    clear hb0 hpb hb8 D4
    go_wp2_with fail
    refine (side_state lcK g a q _ _ D8.out.s).mono ?_
    rintro e w9 ⟨rfl, rfl⟩
    go_wp2_with fail
    refine (side_left lcK g a q _ _ D8.out.s).mono ?_
    rintro e w9 ⟨rfl, rfl⟩
    have u0 : w8.cell? ⟨w.heap.size + 1, 0, none⟩ = some (.int .u8 p.c.toNat) := D8.out.p.at_ 0
    have u1 : w8.cell? ⟨w.heap.size + 1, 1, none⟩ = some (.int .u8 p.i.toNat) := D8.out.p.at_ 1
    have u2 : w8.cell? ⟨w.heap.size + 1, 2, none⟩ = some (.string p.d) := D8.out.p.at_ 2
    go_wp2_with fail
    refine (HPk.out g a q _ D8.out.s).mono ?_
    rintro e w10 ⟨R, rc, rfl, _, hs10, hm10⟩
    have D10 := Lib.hid (D8.out.go hs10 hm10)
    have Q10 := Lib.hid (Q8.out.moves hm10 (fun hk => n8.out _ hk rfl))
    clear hs10 hm10 D8 Q8 u0 u1 u2
    have hbV := (Below.refl w10.heap.size w10).alloc (Nat.le_refl _) (.cells #[.slice R 0 rc, .int .u16 0, .int .u16 P, .bool bb] 59)
    have D11 := Lib.hid (D10.out.callee hbV)
    have Q11 := Lib.hid (Q10.out.callee hbV)
    have v0 := D11.out.p.at_ 0
    have v1 := D11.out.p.at_ 1
    have v2 := D11.out.p.at_ 2
    simp only [pkV, List.getElem?_cons_zero, List.getElem?_cons_succ] at v0 v1 v2
    clear hbV D10 Q10
    go_wp2_with fail
    refine (side_state lcK g a q _ _ D11.out.s).mono ?_
    rintro e w12 ⟨rfl, rfl⟩
    go_wp2_with fail
    refine (side_left lcK g a q _ _ D11.out.s).mono ?_
    rintro e w12 ⟨rfl, rfl⟩
    go_wp2_with fail
    refine (side_lcp g a q _ _ D11.out.s).mono ?_
    rintro e w13 ⟨b1, rfl, hb1', hpb1, hb13⟩
    have D13 := Lib.hid (D11.out.callee hb13)
    have Q13 := Lib.hid (Q11.out.callee hb13)
    have Z13 := Lib.hid hpb1
    clear hb1' hpb1 hb13 D11 Q11
    go_wp2_with fail
    refine (same_pol b0 b1 _ _ _ Q13.out Z13.out rfl rfl rfl).mono ?_
    rintro e w14 ⟨rfl, hb14⟩
    have B14 := Lib.hid (D13.out.b.trans (hb14.mono D13.out.b.size))
    clear hb14 D13 Q13 Z13
    go_wp2_with fail
    refine (alive_any _).mono ?_
    rintro e w20 ⟨rfl, hb20⟩
    have HE := Lib.hid (B14.out.trans (hb20.mono B14.out.size))
    clear hb20
    go_wp2
    go_ret
    exact ⟨rfl, HE.out⟩
set_option maxHeartbeats 16000000 in
set_option maxRecDepth 100000 in
theorem d11d (cf : Conf) (m : UInt32) (p : Pk) (w : World) (hl : ¬ 2048 < p.d.size) (hc : mayC cf = true) (hk : 2 ≤ p.c.toNat ∧ p.c.toNat ≤ 4) (hi : p.i.toNat = 1) :
    Calls Tryz.prog 5 #[.agg #[Value.int .u16 cf.mru.toNat, .bool cf.ha, .int .u32 cf.accm.toNat, .int .u8 cf.auth.toNat, .int .u8 cf.takes.toNat, .int .u8 cf.can.toNat, .bool cf.mg, .bool cf.pfc, .bool cf.acfc, .int .i64 cf.mn], .int .u32 m.toNat, .agg #[.int .u8 p.c.toNat, .int .u8 p.i.toNat, .string p.d], .bool true, .bool true] w fun e w' => e = .returned (.bool true) ∧ Below w.heap.size w w' := by
  obtain ⟨W, hW, HW⟩ := boxLP w cf p
  have HB := Lib.hid HW.out.2.2.1
  have HP := Lib.hid HW.out.2.1
  have HC := Lib.hid HW.out.1
  have hWs : Hid (W.heap.size = w.heap.size + 2) := HW.out.2.2.2
  have p0 : W.cell? ⟨w.heap.size + 1, 0, none⟩ = some (.int .u8 p.c.toNat) := HP.out.at_ 0
  have p1 : W.cell? ⟨w.heap.size + 1, 1, none⟩ = some (.int .u8 p.i.toNat) := HP.out.at_ 1
  have p2 : W.cell? ⟨w.heap.size + 1, 2, none⟩ = some (.string p.d) := HP.out.at_ 2
  clear HW
  have hl' : ¬ (2048 : Int) < (p.d.size : Int) := by omega
  have A0 := Lib.hid Neg.auto_any
  obtain ⟨k0, k1, k2, k3, k4, k5, k6, k7, k8, k9⟩ := (show CAt W.drew w.heap.size cf from HC.out).all
  have HCd : Hid (CAt W.drew w.heap.size cf) := HC.out
  have HBd : Hid (Below w.heap.size w W.drew) := HB.out.drew
  have HPd : Hid (Blk W.drew (w.heap.size + 1) (pkV p) 56) := HP.out
  have hWsd : Hid (W.drew.heap.size = w.heap.size + 2) := hWs.out
  have N1 := Lib.hid (fun w => lcp_ok 3 10 2 cf m w may3 hc)
  have EO := Lib.hid (ev_o m hc)
  have EU := Lib.hid (ev_u m hc)
  obtain ⟨s', l, T, P, bb, hpk, hq1, hq2⟩ := hears_u m hc p (by unfold maxLen; omega)
  have HPk := Lib.hid hpk
  clear hpk hq1 hq2
  have c2 : (2 : Int) ≤ p.c.toNat := by omega
  have c4 : (p.c.toNat : Int) ≤ 4 := by omega
  have c1 : ((p.c.toNat : Int) != 1) = true := by rw [bne_iff_ne]; omega
  have i1 : ((p.i.toNat : Int) != 1) = false := by rw [hi]; rfl
  clear hl hc hk hi
  go_enter Tryz.func5, Tryz.ntmps5
  go_wp2_with fail
  (try clear hW)
  go_region_with (first
    | (go_at_call 10; refine (A0.out _).mono ?_; rintro e w1 ⟨rfl, hb1⟩; have B1 := Lib.hid (HBd.out.trans (hb1.mono HBd.out.size)); obtain ⟨j0, j1, j2, j3, j4, j5, j6, j7, j8, j9⟩ := (HCd.out.callee hb1).all; have HP1 := Lib.hid (HPd.out.callee hb1); have hw1 : Hid (w.heap.size + 2 ≤ w1.heap.size) := (show _ ≤ _ by have := hb1.size; have := hWsd.out; omega); clear hb1)
    | (go_at_call 9; refine (N1.out _).mono ?_; rintro e w2 ⟨g, a, q, rfl, hg, ha, hq, hs, hb2⟩; have D2 : Hid (Dy w w2 g a q (newSd lcK 3 10 2 (newP cf m)) p) := ⟨hs, B1.out.trans (hb2.mono B1.out.size), (by have := hw1.out; rintro k (rfl | rfl | rfl) <;> omega), HP1.out.callee hb2⟩; clear hg ha hq hs hb2)
    | fail)
  all_goals
    go_wp2_with fail
    refine (EO.out g a q _ D2.out.s).mono ?_
    rintro e w3 ⟨R3, n3, rc3, T3, rfl, hs3, hm3⟩
    have D3 := Lib.hid (D2.out.go hs3 hm3)
    clear hs3 hm3 D2
    go_wp2_with fail
    refine (EU.out g a q _ D3.out.s).mono ?_
    rintro e w4 ⟨R4, n4, rc4, T4, rfl, hs4, hm4⟩
    have D4 := Lib.hid (D3.out.go hs4 hm4)
    clear hs4 hm4 D3
    go_wp2_with fail
    refine (side_lcp g a q _ _ D4.out.s).mono ?_
    rintro e w8 ⟨b0, rfl, hb0, hpb, hb8⟩
    have D8 := Lib.hid (D4.out.callee hb8)
    have Q8 := Lib.hid hpb
    have n8 : Hid (∀ k, My g a q k → ¬ k = b0) := fun k hk e => by have := D4.out.s.old k hk; omega
    clear hb0 hpb hb8 D4
    go_wp2_with fail
    refine (side_state lcK g a q _ _ D8.out.s).mono ?_
    rintro e w9 ⟨rfl, rfl⟩
    go_wp2_with fail
    refine (side_left lcK g a q _ _ D8.out.s).mono ?_
    rintro e w9 ⟨rfl, rfl⟩
    have u0 : w8.cell? ⟨w.heap.size + 1, 0, none⟩ = some (.int .u8 p.c.toNat) := D8.out.p.at_ 0
    have u1 : w8.cell? ⟨w.heap.size + 1, 1, none⟩ = some (.int .u8 p.i.toNat) := D8.out.p.at_ 1
    have u2 : w8.cell? ⟨w.heap.size + 1, 2, none⟩ = some (.string p.d) := D8.out.p.at_ 2
    go_wp2_with fail
    refine (HPk.out g a q _ D8.out.s).mono ?_
    rintro e w10 ⟨R, rc, rfl, _, hs10, hm10⟩
    have D10 := Lib.hid (D8.out.go hs10 hm10)
    have Q10 := Lib.hid (Q8.out.moves hm10 (fun hk => n8.out _ hk rfl))
    clear hs10 hm10 D8 Q8 u0 u1 u2
    have hbV := (Below.refl w10.heap.size w10).alloc (Nat.le_refl _) (.cells #[.slice R l.length rc, .int .u16 T, .int .u16 P, .bool bb] 59)
    have D11 := Lib.hid (D10.out.callee hbV)
    have Q11 := Lib.hid (Q10.out.callee hbV)
    have v0 := D11.out.p.at_ 0
    have v1 := D11.out.p.at_ 1
    have v2 := D11.out.p.at_ 2
    simp only [pkV, List.getElem?_cons_zero, List.getElem?_cons_succ] at v0 v1 v2
    clear hbV D10 Q10
    have B11 := Lib.hid D11.out.b
    go_wp2_with fail
    refine (alive_any _).mono ?_
    rintro e w20 ⟨rfl, hb20⟩
    have HE := Lib.hid (B11.out.trans (hb20.mono B11.out.size))
    clear hb20
    go_wp2
    go_ret
    exact ⟨rfl, HE.out⟩
set_option maxHeartbeats 16000000 in
set_option maxRecDepth 100000 in
theorem d11e (cf : Conf) (m : UInt32) (p : Pk) (w : World) (hl : ¬ 2048 < p.d.size) (hc : mayC cf = true) (hk : 4 < p.c.toNat) :
    Calls Tryz.prog 5 #[.agg #[Value.int .u16 cf.mru.toNat, .bool cf.ha, .int .u32 cf.accm.toNat, .int .u8 cf.auth.toNat, .int .u8 cf.takes.toNat, .int .u8 cf.can.toNat, .bool cf.mg, .bool cf.pfc, .bool cf.acfc, .int .i64 cf.mn], .int .u32 m.toNat, .agg #[.int .u8 p.c.toNat, .int .u8 p.i.toNat, .string p.d], .bool true, .bool true] w fun e w' => e = .returned (.bool true) ∧ Below w.heap.size w w' := by
  obtain ⟨W, hW, HW⟩ := boxLP w cf p
  have HB := Lib.hid HW.out.2.2.1
  have HP := Lib.hid HW.out.2.1
  have HC := Lib.hid HW.out.1
  have hWs : Hid (W.heap.size = w.heap.size + 2) := HW.out.2.2.2
  have p0 : W.cell? ⟨w.heap.size + 1, 0, none⟩ = some (.int .u8 p.c.toNat) := HP.out.at_ 0
  have p1 : W.cell? ⟨w.heap.size + 1, 1, none⟩ = some (.int .u8 p.i.toNat) := HP.out.at_ 1
  have p2 : W.cell? ⟨w.heap.size + 1, 2, none⟩ = some (.string p.d) := HP.out.at_ 2
  clear HW
  have hl' : ¬ (2048 : Int) < (p.d.size : Int) := by omega
  have A0 := Lib.hid Neg.auto_any
  obtain ⟨k0, k1, k2, k3, k4, k5, k6, k7, k8, k9⟩ := (show CAt W.drew w.heap.size cf from HC.out).all
  have HCd : Hid (CAt W.drew w.heap.size cf) := HC.out
  have HBd : Hid (Below w.heap.size w W.drew) := HB.out.drew
  have HPd : Hid (Blk W.drew (w.heap.size + 1) (pkV p) 56) := HP.out
  have hWsd : Hid (W.drew.heap.size = w.heap.size + 2) := hWs.out
  have N1 := Lib.hid (fun w => lcp_ok 3 10 2 cf m w may3 hc)
  have EO := Lib.hid (ev_o m hc)
  have EU := Lib.hid (ev_u m hc)
  obtain ⟨s', l, T, P, bb, hpk, hq1, hq2⟩ := hears_u m hc p (by unfold maxLen; omega)
  have HPk := Lib.hid hpk
  have HQp := Lib.hid (hq2 (by omega))
  clear hpk hq1 hq2
  have c2 : (2 : Int) ≤ p.c.toNat := by omega
  have c4 : ¬ (p.c.toNat : Int) ≤ 4 := by omega
  have c1 : ((p.c.toNat : Int) != 1) = true := by rw [bne_iff_ne]; omega
  clear hl hc hk
  go_enter Tryz.func5, Tryz.ntmps5
  go_wp2_with fail
  (try clear hW)
  go_region_with (first
    | (go_at_call 10; refine (A0.out _).mono ?_; rintro e w1 ⟨rfl, hb1⟩; have B1 := Lib.hid (HBd.out.trans (hb1.mono HBd.out.size)); obtain ⟨j0, j1, j2, j3, j4, j5, j6, j7, j8, j9⟩ := (HCd.out.callee hb1).all; have HP1 := Lib.hid (HPd.out.callee hb1); have hw1 : Hid (w.heap.size + 2 ≤ w1.heap.size) := (show _ ≤ _ by have := hb1.size; have := hWsd.out; omega); clear hb1)
    | (go_at_call 9; refine (N1.out _).mono ?_; rintro e w2 ⟨g, a, q, rfl, hg, ha, hq, hs, hb2⟩; have D2 : Hid (Dy w w2 g a q (newSd lcK 3 10 2 (newP cf m)) p) := ⟨hs, B1.out.trans (hb2.mono B1.out.size), (by have := hw1.out; rintro k (rfl | rfl | rfl) <;> omega), HP1.out.callee hb2⟩; clear hg ha hq hs hb2)
    | fail)
  all_goals
    go_wp2_with fail
    refine (EO.out g a q _ D2.out.s).mono ?_
    rintro e w3 ⟨R3, n3, rc3, T3, rfl, hs3, hm3⟩
    have D3 := Lib.hid (D2.out.go hs3 hm3)
    clear hs3 hm3 D2
    go_wp2_with fail
    refine (EU.out g a q _ D3.out.s).mono ?_
    rintro e w4 ⟨R4, n4, rc4, T4, rfl, hs4, hm4⟩
    have D4 := Lib.hid (D3.out.go hs4 hm4)
    clear hs4 hm4 D3
    go_wp2_with fail
    refine (side_lcp g a q _ _ D4.out.s).mono ?_
    rintro e w8 ⟨b0, rfl, hb0, hpb, hb8⟩
    have D8 := Lib.hid (D4.out.callee hb8)
    have Q8 := Lib.hid hpb
    have n8 : Hid (∀ k, My g a q k → ¬ k = b0) := fun k hk e => by have := D4.out.s.old k hk; omega
    clear hb0 hpb hb8 D4
    go_wp2_with fail
    refine (side_state lcK g a q _ _ D8.out.s).mono ?_
    rintro e w9 ⟨rfl, rfl⟩
    go_wp2_with fail
    refine (side_left lcK g a q _ _ D8.out.s).mono ?_
    rintro e w9 ⟨rfl, rfl⟩
    have u0 : w8.cell? ⟨w.heap.size + 1, 0, none⟩ = some (.int .u8 p.c.toNat) := D8.out.p.at_ 0
    have u1 : w8.cell? ⟨w.heap.size + 1, 1, none⟩ = some (.int .u8 p.i.toNat) := D8.out.p.at_ 1
    have u2 : w8.cell? ⟨w.heap.size + 1, 2, none⟩ = some (.string p.d) := D8.out.p.at_ 2
    go_wp2_with fail
    refine (HPk.out g a q _ D8.out.s).mono ?_
    rintro e w10 ⟨R, rc, rfl, _, hs10, hm10⟩
    have D10 := Lib.hid (D8.out.go hs10 hm10)
    have Q10 := Lib.hid (Q8.out.moves hm10 (fun hk => n8.out _ hk rfl))
    clear hs10 hm10 D8 Q8 u0 u1 u2
    have hbV := (Below.refl w10.heap.size w10).alloc (Nat.le_refl _) (.cells #[.slice R l.length rc, .int .u16 T, .int .u16 P, .bool bb] 59)
    have D11 := Lib.hid (D10.out.callee hbV)
    have Q11 := Lib.hid (Q10.out.callee hbV)
    have v0 := D11.out.p.at_ 0
    have v1 := D11.out.p.at_ 1
    have v2 := D11.out.p.at_ 2
    simp only [pkV, List.getElem?_cons_zero, List.getElem?_cons_succ] at v0 v1 v2
    clear hbV D10 Q10
    go_wp2_with fail
    refine (side_lcp g a q _ _ D11.out.s).mono ?_
    rintro e w13 ⟨b1, rfl, hb1', hpb1, hb13⟩
    have D13 := Lib.hid (D11.out.callee hb13)
    have Q13 := Lib.hid (Q11.out.callee hb13)
    have Z13 := Lib.hid hpb1
    clear hb1' hpb1 hb13 D11 Q11
    go_wp2_with fail
    refine (same_pol b0 b1 _ _ _ Q13.out Z13.out (by rw [HQp.out]) (by rw [HQp.out]) (by rw [HQp.out])).mono ?_
    rintro e w14 ⟨rfl, hb14⟩
    have B14 := Lib.hid (D13.out.b.trans (hb14.mono D13.out.b.size))
    clear hb14 D13 Q13 Z13
    go_wp2_with fail
    refine (alive_any _).mono ?_
    rintro e w20 ⟨rfl, hb20⟩
    have HE := Lib.hid (B14.out.trans (hb20.mono B14.out.size))
    clear hb20
    go_wp2
    go_ret
    exact ⟨rfl, HE.out⟩
theorem walk (cf : Conf) (m : UInt32) (p : Pk) (o u : Bool) (w : World) :
    Calls Tryz.prog 5 #[.agg #[Value.int .u16 cf.mru.toNat, .bool cf.ha, .int .u32 cf.accm.toNat, .int .u8 cf.auth.toNat, .int .u8 cf.takes.toNat, .int .u8 cf.can.toNat, .bool cf.mg, .bool cf.pfc, .bool cf.acfc, .int .i64 cf.mn], .int .u32 m.toNat, .agg #[.int .u8 p.c.toNat, .int .u8 p.i.toNat, .string p.d], .bool o, .bool u] w fun e w' => e = .returned (.bool true) ∧ Below w.heap.size w w' := by
  by_cases hl : 2048 < p.d.size
  · exact walk_long cf m p o u w hl
  cases hc : mayC cf
  · exact walk_no cf m p o u w hl hc
  by_cases h0 : p.c.toNat = 0
  · cases o <;> cases u
    · exact d00a cf m p w hl hc (by omega)
    · exact d01a cf m p w hl hc h0
    · exact d10a cf m p w hl hc (by omega)
    · exact d11a cf m p w hl hc h0
  by_cases h1 : p.c.toNat = 1
  · cases o <;> cases u
    · exact d00a cf m p w hl hc (by omega)
    · exact d01b cf m p w hl hc h1
    · exact d10a cf m p w hl hc (by omega)
    · exact d11b cf m p w hl hc h1
  by_cases h4 : p.c.toNat ≤ 4
  · have hk : 2 ≤ p.c.toNat ∧ p.c.toNat ≤ 4 := by omega
    cases o <;> cases u
    · exact d00b cf m p w hl hc hk
    · by_cases hi : p.i.toNat = 1
      · exact d01c0 cf m p w hl hc hk hi
      · exact d01c1 cf m p w hl hc hk hi
    · exact d10b cf m p w hl hc hk
    · by_cases hi : p.i.toNat = 1
      · exact d11d cf m p w hl hc hk hi
      · exact d11c cf m p w hl hc hk hi
  · have hk : 4 < p.c.toNat := by omega
    cases o <;> cases u
    · exact d00c cf m p w hl hc hk
    · exact d01e cf m p w hl hc hk
    · exact d10c cf m p w hl hc hk
    · exact d11e cf m p w hl hc hk

set_option maxRecDepth 100000 in
theorem lifted (os : Os) (started : os.Started) (H : Type) (enc : TypeId × Value → H) :
    ReturnsInHanded {} Tryz.checked os 5 .any (Rows.negotDeafSpec.pre6 enc Tryz.prog Tryz.f5 Rows.negotDeafRow.domain false) (Rows.negotDeafSpec.post enc Tryz.prog Tryz.f5 false true false false) := by
  refine returnsInHanded_of_change_sized (C := Tryz.checked) own started (by kernel_rfl) Tryz.func5
    (ChangeSpec.witness6 (enc := enc) (C := Tryz.checked) false ⟨#[], #[.agg #[.int .u16 0, .bool false, .int .u32 0, .int .u8 0, .int .u8 0, .int .u8 0, .bool false, .bool false, .bool false, .int .i64 0], .int .u32 0, .agg #[.int .u8 0, .int .u8 0, .string ByteArray.empty], .bool false, .bool false], []⟩ 8 (by kernel_rfl) (by kernel_rfl) (by kernel_rfl) (by kernel_rfl)) ?_
  intro W base args ds gs before hval0 hW hcnd hsz0 _
  have hsz : (DataW.weightsEach Tryz.prog (Tryz.f5.params.toList ++ Rows.negotDeafSpec.plain.varTypes Tryz.prog) (ds ++ gs)).all (· ≤ reachBytes) = true := hsz0
  have hval : ∀ (j : Nat) t v, Tryz.f5.params[j]? = some t → args[j]? = some v → Value.okWide Tryz.prog W .any base t v := hval0
  have hW' := hW
  obtain ⟨p, q, hA0, hV, rfl, hfz, hnd⟩ := hW
  have hlt := hW'.lt
  have hA : DataW.TrodAll enc Tryz.prog W 0 (fun _ => true) true Tryz.f5.params.toList args.toList ds p := hA0
  rw [Tryz.params5] at hA hval hsz
  obtain ⟨v0, vs0, d0, ds0, p0, q0, hargs, rfl, rfl, h0, r0⟩ := trodAll_cons hA
  obtain ⟨v1, vs1, d1, ds1, p1, q1, rfl, rfl, rfl, h1, r1⟩ := trodAll_cons r0
  obtain ⟨v2, vs2, d2, ds2, p2, q2, rfl, rfl, rfl, h2, r2⟩ := trodAll_cons r1
  obtain ⟨v3, vs3, d3, ds3, p3, q3, rfl, rfl, rfl, h3, r3⟩ := trodAll_cons r2
  obtain ⟨v4, vs4, d4, ds4, p4, q4, rfl, rfl, rfl, h4, r4⟩ := trodAll_cons r3
  obtain ⟨rfl, rfl, rfl⟩ := trodAll_nil r4
  obtain rfl : args = #[v0, v1, v2, v3, v4] := by cases args; simp_all
  obtain ⟨rfl, rfl⟩ := trodVars_none hV
  obtain ⟨a0, rfl⟩ := conf_of Tryz.underlying25 (by kernel_rfl) (by kernel_rfl) Tryz.underlying22 Tryz.underlying4 Tryz.underlying23 Tryz.underlying5 Tryz.underlying5 Tryz.underlying5 Tryz.underlying4 Tryz.underlying4 Tryz.underlying4 Tryz.underlying3 (hval 0 25 v0 rfl rfl) h0
  obtain ⟨z1, rfl, rfl, rfl, w1⟩ := open_int Tryz.underlying23 (hval 1 23 v1 rfl rfl) h1
  obtain ⟨a1, rfl⟩ := u32_of (z := z1) (bounds_u32 w1)
  obtain ⟨c2, i2, a2, rfl, z2⟩ := pk3_of Tryz.underlying56 (by kernel_rfl) (by kernel_rfl) Tryz.underlying5 Tryz.underlying5 Tryz.underlying9 (hval 2 56 v2 rfl rfl) h2 (fun n hn => of_decide_eq_true (List.all_eq_true.1 hsz n (DataW.weights_mem_each (j := 2) (t := 56) rfl rfl n hn)))
  obtain ⟨a3, rfl, rfl, rfl⟩ := open_bool Tryz.underlying4 (hval 3 4 v3 rfl rfl) h3
  obtain ⟨a4, rfl, rfl, rfl⟩ := open_bool Tryz.underlying4 (hval 4 4 v4 rfl rfl) h4
  clear hA0 hval0 hsz0
  exact (walk a0 a1 ⟨c2, i2, a2⟩ a3 a4 W).mono fun e W' ⟨he, hb⟩ => ⟨_, he, law_post (t := 4) laidOut (by kernel_rfl) rfl rfl Tryz.underlying4 ⟨rfl, rfl, rfl⟩ hW' hb⟩

theorem over : Rows.negotDeafRow.holds Tryz.pinned (OpenSpec.ofChange Rows.negotDeafSpec) :=
  OpenClaim.holds_of_wide 5 Tryz.f5 rfl rfl rfl rfl rfl rfl rfl ⟨rfl, rfl, rfl, rfl, rfl⟩ rfl rfl rfl rfl rfl (by kernel_rfl) Tryz.func5 (by kernel_rfl)
    (of_decide_eq_true (by kernel_rfl)) (by unfold Func.isWrapper; first | (rw [if_pos (by decide +kernel)]; kernel_rfl) | (rw [if_neg (by decide +kernel)]; exact ⟨rfl, rfl⟩))
    (fun os started H enc _ => lifted os started H enc)

theorem proved : Rows.NegotDeafSaid :=
  over
#print axioms proved
end Go.Proofs.YtikcgcgbcolndaaGreat.NegotDeaf
