/- Packet; Copy; what is answered of nil. -/
import Derived.Test.YtimndcfhilcgfaaEchG
namespace Go.Proofs.Ytimndcfhilcgfaa.Ech
open Go.RowKit Go.Proofs.Ytimndcfhilcgfaa.Oct Go.Proofs.Ytimndcfhilcgfaa.Row Go.Proofs.Ytimndcfhilcgfaa.Mem

theorem box_p (w : World) (c i : UInt8) (d : ByteArray) : ∃ W, w.alloc (.cells #[.int .u8 c.toNat, .int .u8 i.toNat, .string d] 35) = W ∧ W.heap.size = w.heap.size + 1 ∧ Hid (Pkt.At W w.heap.size c i d ∧ Below w.heap.size w W) :=
  ⟨_, rfl, World.size_alloc _ _, Pkt.at_new w c i d, (Below.refl _ w).alloc (Nat.le_refl _) _⟩
theorem box_6 (W : World) (v : Value) : ∃ V V2, W.alloc (.cells #[.nilFunc] 62) = V ∧ V.setCell ⟨W.heap.size, 0, none⟩ v = V2 ∧ V.cell? ⟨W.heap.size, 0, none⟩ = some .nilFunc ∧ V.frozen? ⟨W.heap.size, 0, none⟩ = false ∧ V2.heap.size = W.heap.size + 1 ∧ Hid (Fb V2 W.heap.size v ∧ Below W.heap.size W V2) := by
  have h := blk_new W [.nilFunc] 62
  exact ⟨_, _, rfl, rfl, h.at_ 0, h.frozen 0, by simp [World.setCell], h.set 0 v, ((Below.refl W.heap.size W).alloc (Nat.le_refl _) _).setCell (p := ⟨W.heap.size, 0, none⟩) (Nat.le_refl _) _⟩
theorem box_8 (W : World) (s : ByteArray) : ∃ V V2, W.alloc (.cells #[.string ⟨#[]⟩] 9) = V ∧ V.setCell ⟨W.heap.size, 0, none⟩ (.string s) = V2 ∧ V.cell? ⟨W.heap.size, 0, none⟩ = some (.string ⟨#[]⟩) ∧ V.frozen? ⟨W.heap.size, 0, none⟩ = false ∧ Hid (Sb V2 W.heap.size s ∧ Below W.heap.size W V2) := by
  have h := blk_new W [.string ⟨#[]⟩] 9
  exact ⟨_, _, rfl, rfl, h.at_ 0, h.frozen 0, h.set 0 (.string s), ((Below.refl W.heap.size W).alloc (Nat.le_refl _) _).setCell (p := ⟨W.heap.size, 0, none⟩) (Nat.le_refl _) _⟩
set_option maxRecDepth 100000 in
theorem nil_yes (w : World) : (binOp .eql 62 .nilFunc .nilFunc).run Try.prog w = .ok (.bool true) w := by kernel_rfl
set_option maxRecDepth 100000 in
theorem nil_no (F : FuncId) (v : Value) (w : World) : (binOp .eql 62 (.func (.func F) #[v] #[]) .nilFunc).run Try.prog w = .ok (.bool false) w := by kernel_rfl
theorem gt_of {x : Ec} {p : Pk} (hc : p.c.toNat = 9 ∨ p.c.toNat = 10 ∨ p.c.toNat = 11) (hd : ¬ p.d.size < 4) (hl : loopB x p.d = false) :
    pE x p = efE x p.c.toNat p.i ∧ gt x p = efX x p.c.toNat p.i ∧ pL x p = efL x p.c.toNat p.i (bOf (p.d.toList.drop 4)) := by
  have e : pE x p = if p.c.toNat = 10 ∧ lateB x p.i = true then 3 else 0 := by
    unfold pE
    rw [if_neg (by omega), if_neg hd, if_neg (by rw [hl]; decide)]
  unfold gt pL efE efX efL
  rw [e]
  rcases hc with hc | hc | hc
  · rw [hc]
    simp
  · rw [hc]
    cases lateB x p.i <;> simp
  · rw [hc]
    simp
theorem pe_none {x : Ec} {p : Pk} (h : pE x p ≠ 0) : gt x p = x ∧ pL x p = [] := by
  unfold gt pL
  exact ⟨if_neg fun e => h e.1, if_neg fun e => h e.1⟩
set_option maxHeartbeats 4000000 in
set_option maxRecDepth 100000 in
theorem packet_any (g : Nat) (x : Ec) (p : Pk) (w : World) (h : EAt w g x) (hg : x.mg < 4294967296) (hs : p.d.size ≤ 140737488351232) :
    Calls Try.prog 9 #[ptr g, .agg #[.int .u8 p.c.toNat, .int .u8 p.i.toNat, .string p.d]] w (OutQ g (gt x p) (pL x p) (pE x p) w) := by
  obtain ⟨W, hW, sW, HW⟩ := box_p w p.c p.i p.d
  have c0 : W.cell? ⟨w.heap.size, 0, none⟩ = some (.int .u8 p.c.toNat) := HW.out.1.c0
  have H := Lib.hid (h.callee HW.out.2)
  have HF := Lib.hid (fun W => effect_any g p.c.toNat W)
  obtain ⟨V0, V, hV0, hV, z0, g0, sV, HV⟩ := box_6 W (effV g p.c.toNat)
  have v6 : V.cell? ⟨W.heap.size, 0, none⟩ = some (effV g p.c.toNat) := Blk.at_ HV.out.1 0
  have HSW := Lib.hid sW
  have HSV := Lib.hid sV
  have H2 := Lib.hid (H.out.callee HV.out.2)
  have HB := Lib.hid (HW.out.2.trans (HV.out.2.mono HW.out.2.size))
  clear h sW sV
  by_cases hc : p.c.toNat ≠ 9 ∧ p.c.toNat ≠ 10 ∧ p.c.toNat ≠ 11
  · have e1 : pE x p = 8 := by unfold pE; rw [if_pos hc]
    obtain ⟨e2, e3⟩ := pe_none (x := x) (p := p) (by rw [e1]; decide)
    rw [e1, e2, e3]
    have e4 : effV g p.c.toNat = .nilFunc := by unfold effV; rw [if_neg hc.1, if_neg hc.2.1, if_neg hc.2.2]
    rw [e4] at HF hV v6
    clear hc e1 e2 e3 e4
    have hn := nil_yes
    unfold ptr at *
    go_enter Try.func9, Try.ntmps9
    go_wp2_with fail
    refine (HF.out _).mono ?_
    rintro e _ ⟨rfl, rfl⟩
    go_wp2
    go_ret2
    exact outq_none H2.out (Moves.of_below HB.out)
  · have hc9 : p.c.toNat = 9 ∨ p.c.toNat = 10 ∨ p.c.toNat = 11 := by omega
    have v3 : V.cell? ⟨w.heap.size, 2, none⟩ = some (.string p.d) := (Pkt.At.callee HW.out.1 HV.out.2).c2
    obtain ⟨F, e4, hF⟩ : ∃ F, effV g p.c.toNat = .func (.func F) #[ptr g] #[] ∧ True := by
      unfold effV
      rcases hc9 with e | e | e <;> rw [e] <;> exact ⟨_, rfl, trivial⟩
    clear hF
    have hn := nil_no F (ptr g)
    have HC := Lib.hid (fun W => cut_any p.d 4 W (by unfold maxLen; omega))
    by_cases hd : p.d.size < 4
    · have e1 : pE x p = 6 := by unfold pE; rw [if_neg (by omega), if_pos hd]
      obtain ⟨e2, e3⟩ := pe_none (x := x) (p := p) (by rw [e1]; decide)
      rw [e1, e2, e3]
      rw [show cutE p.d 4 = 6 from by unfold cutE; rw [if_neg (by decide), if_pos (by omega)], show cutB p.d 4 = bOf [] from by unfold cutB; rw [if_neg (by decide), if_pos (by omega)]] at HC
      generalize cutA p.d 4 = fr at *
      rw [e4] at HF hV v6
      clear hc e1 e2 e3 hd hc9 e4
      unfold ptr at *
      go_enter Try.func9, Try.ntmps9
      go_wp2_with fail
      refine (HF.out _).mono ?_
      rintro e _ ⟨rfl, rfl⟩
      go_wp2_with fail
      refine (HC.out _).mono ?_
      rintro e w1 ⟨rfl, k, rfl⟩
      obtain ⟨U0, U, hU0, hU, y0, u0, HU⟩ := box_8 (V.drewN k) (bOf [])
      replace hU : U0.setCell ⟨V.heap.size, 0, none⟩ (.string (bOf [])) = U := hU
      replace y0 : U0.cell? ⟨V.heap.size, 0, none⟩ = some (.string ⟨#[]⟩) := y0
      replace u0 : U0.frozen? ⟨V.heap.size, 0, none⟩ = false := u0
      have H3 := Lib.hid ((H2.out.drewN k).callee HU.out.2)
      have HB3 := Lib.hid ((HB.out.drewN' k).trans (HU.out.2.mono HB.out.size))
      go_wp2
      go_ret2
      exact outq_none H3.out (Moves.of_below HB3.out)
    · rw [show cutE p.d 4 = 0 from by unfold cutE; rw [if_neg (by decide), if_neg (by omega)], show cutB p.d 4 = bOf (p.d.toList.drop 4) from by unfold cutB; rw [if_neg (by decide), if_neg (by omega)]; rfl, show cutA p.d 4 = bOf (p.d.toList.take 4) from by unfold cutA; rw [if_neg (by decide), if_neg (by omega)]; rfl] at HC
      have HR : Hid ((bOf (p.d.toList.drop 4)).size ≤ 140737488351232) := by show _ ≤ _; rw [size_bOf, List.length_drop, ← size_toList]; omega
      have HO : Hid (∀ W, EAt W g x → Calls Try.prog 25 #[.pointer (some ⟨g, 0, none⟩), .string (bOf (p.d.toList.take 4))] W fun e w' => e = .returned (.bool (loopB x p.d)) ∧ Below W.heap.size W w') := fun W h => own_any g x (bOf (p.d.toList.take 4)) W h hg
      have HD : Hid (∀ W b6 b3 b8, EAt W g x → Fb W b6 (effV g p.c.toNat) → Pkt.At W b3 p.c p.i p.d → Sb W b8 (bOf (p.d.toList.drop 4)) → Calls Try.prog 21 #[.pointer (some ⟨g, 0, none⟩), .func (.func 26) #[] #[.pointer (some ⟨b6, 0, none⟩), .pointer (some ⟨b3, 0, none⟩), .pointer (some ⟨b8, 0, none⟩)]] W (OutQ g (efX x p.c.toNat p.i) (efL x p.c.toNat p.i (bOf (p.d.toList.drop 4))) (efE x p.c.toNat p.i) W)) := fun W b6 b3 b8 h h6 h3 h8 => sending_do g b6 b3 b8 x p.c p.i p.d _ W hc9 h hg h6 h3 h8 HR.out
      cases hl : loopB x p.d
      · obtain ⟨e1, e2, e3⟩ := gt_of hc9 hd hl
        rw [e1, e2, e3]
        rw [hl] at HO
        generalize bOf (p.d.toList.drop 4) = R at *
        generalize bOf (p.d.toList.take 4) = T at *
        generalize efX x p.c.toNat p.i = y at *
        generalize efL x p.c.toNat p.i R = l at *
        generalize efE x p.c.toNat p.i = E at *
        rw [e4] at HD
        clear e1 e2 e3 hd hc9 hl hc
        rw [e4] at HF hV v6
        unfold ptr at *
        go_enter Try.func9, Try.ntmps9
        go_wp2_with fail
        refine (HF.out _).mono ?_
        rintro e _ ⟨rfl, rfl⟩
        go_wp2_with fail
        refine (HC.out _).mono ?_
        rintro e w1 ⟨rfl, k, rfl⟩
        obtain ⟨U0, U, hU0, hU, y0, u0, HU⟩ := box_8 (V.drewN k) R
        replace hU : U0.setCell ⟨V.heap.size, 0, none⟩ (.string R) = U := hU
        replace y0 : U0.cell? ⟨V.heap.size, 0, none⟩ = some (.string ⟨#[]⟩) := y0
        replace u0 : U0.frozen? ⟨V.heap.size, 0, none⟩ = false := u0
        have H3 := Lib.hid ((H2.out.drewN k).callee HU.out.2)
        have HB3 := Lib.hid ((HB.out.drewN' k).trans (HU.out.2.mono HB.out.size))
        have HF6 : Hid (Fb U W.heap.size (.func (.func F) #[.pointer (some ⟨g, 0, none⟩)] #[])) := Blk.callee (show Blk (V.drewN k) _ _ _ from by have h6 := HV.out.1; rw [e4] at h6; exact h6) HU.out.2
        have HP3 : Hid (Pkt.At U w.heap.size p.c p.i p.d) := Pkt.At.callee (Pkt.At.callee HW.out.1 (HV.out.2.drewN' k)) HU.out.2
        have HS8 : Hid (Sb U V.heap.size R) := HU.out.1

        go_wp2_with fail
        refine (HO.out _ H3.out).mono ?_
        rintro e w2 ⟨rfl, hb⟩
        have H4 := Lib.hid (H3.out.callee hb)
        have HB4 := Lib.hid (HB3.out.trans (hb.mono HB3.out.size))
        have HF4 := Lib.hid (Blk.callee HF6.out hb)
        have HP4 := Lib.hid (Pkt.At.callee HP3.out hb)
        have HS4 := Lib.hid (Blk.callee HS8.out hb)
        clear hb
        go_wp2_with fail
        refine (HD.out _ _ _ _ H4.out HF4.out HP4.out HS4.out).mono ?_
        rintro e w3 ⟨A, c, rfl, hr, hx, hm⟩
        have HQ : Hid (OutQ g y l E w (.returned (.tuple #[.slice A l.length c, .int .i64 E])) w3) := ⟨A, c, rfl, own_mono hr HB4.out.size, hx, (Moves.of_below HB4.out).trans hm fun _ _ e => e⟩
        clear hr hx hm
        generalize l.length = n at *
        go_wp2
        go_ret2
        exact HQ.out
      · have e1 : pE x p = 170 := by unfold pE; rw [if_neg (by omega), if_neg hd, if_pos hl]
        obtain ⟨e2, e3⟩ := pe_none (x := x) (p := p) (by rw [e1]; decide)
        rw [e1, e2, e3]
        rw [hl] at HO
        generalize bOf (p.d.toList.drop 4) = R at *
        generalize bOf (p.d.toList.take 4) = T at *
        clear e1 e2 e3 hd hc9 hl hc HD
        rw [e4] at HF hV v6
        unfold ptr at *
        go_enter Try.func9, Try.ntmps9
        go_wp2_with fail
        refine (HF.out _).mono ?_
        rintro e _ ⟨rfl, rfl⟩
        go_wp2_with fail
        refine (HC.out _).mono ?_
        rintro e w1 ⟨rfl, k, rfl⟩
        obtain ⟨U0, U, hU0, hU, y0, u0, HU⟩ := box_8 (V.drewN k) R
        replace hU : U0.setCell ⟨V.heap.size, 0, none⟩ (.string R) = U := hU
        replace y0 : U0.cell? ⟨V.heap.size, 0, none⟩ = some (.string ⟨#[]⟩) := y0
        replace u0 : U0.frozen? ⟨V.heap.size, 0, none⟩ = false := u0
        have H3 := Lib.hid ((H2.out.drewN k).callee HU.out.2)
        have HB3 := Lib.hid ((HB.out.drewN' k).trans (HU.out.2.mono HB.out.size))
        have HF6 : Hid (Fb U W.heap.size (.func (.func F) #[.pointer (some ⟨g, 0, none⟩)] #[])) := Blk.callee (show Blk (V.drewN k) _ _ _ from by have h6 := HV.out.1; rw [e4] at h6; exact h6) HU.out.2
        have HP3 : Hid (Pkt.At U w.heap.size p.c p.i p.d) := Pkt.At.callee (Pkt.At.callee HW.out.1 (HV.out.2.drewN' k)) HU.out.2
        have HS8 : Hid (Sb U V.heap.size R) := HU.out.1

        go_wp2_with fail
        refine (HO.out _ H3.out).mono ?_
        rintro e w2 ⟨rfl, hb⟩
        have H4 := Lib.hid (H3.out.callee hb)
        have HB4 := Lib.hid (HB3.out.trans (hb.mono HB3.out.size))
        clear hb
        go_wp2
        go_ret2
        exact outq_none H4.out (Moves.of_below HB4.out)
/-! ### Copy; nil -/
set_option maxHeartbeats 1000000 in
set_option maxRecDepth 100000 in
theorem copy_any (g : Nat) (x : Ec) (w : World) (h : EAt w g x) : Calls Try.prog 13 #[ptr g] w fun e w' => ∃ b, e = .returned (ptr b) ∧ w.heap.size ≤ b ∧ EAt w' b x ∧ Below w.heap.size w w' := by
  have c0 : w.cell? ⟨g, 0, none⟩ = some (.int .i64 x.ev) := h.c 0
  have c1 : w.cell? ⟨g, 1, none⟩ = some (.int .i64 x.now) := h.c 1
  have c2 : w.cell? ⟨g, 2, none⟩ = some (.int .i64 x.si) := h.c 2
  have c3 : w.cell? ⟨g, 3, none⟩ = some (.int .i64 x.mo) := h.c 3
  have c4 : w.cell? ⟨g, 4, none⟩ = some (.int .u32 x.mg) := h.c 4
  have c5 : w.cell? ⟨g, 5, none⟩ = some (.bool (decide (0 < x.n))) := h.c 5
  have c6 : w.cell? ⟨g, 6, none⟩ = some (.int .u8 (x.n % 256 : Nat)) := h.c 6
  have c7 : w.cell? ⟨g, 7, none⟩ = some (.int .i64 x.mi) := h.c 7
  have c8 : w.cell? ⟨g, 8, none⟩ = some (.bool x.de) := h.c 8
  have HB : Hid (EAt (w.alloc (.cells (pv x).toArray 58)) w.heap.size x) := blk_new w (pv x) _
  have HE : Hid (Below w.heap.size w (w.alloc (.cells (pv x).toArray 58))) := (Below.refl _ w).alloc (Nat.le_refl _) _
  unfold pv at HB HE
  clear h
  generalize x.n % 256 = L at *
  generalize decide (0 < x.n) = q at *
  unfold ptr
  go_enter Try.func13, Try.ntmps13
  go_wp2
  go_ret
  exact ⟨_, rfl, Nat.le_refl _, HB.out, HE.out⟩
set_option maxHeartbeats 1000000 in
set_option maxRecDepth 100000 in
theorem nil_tick (t : Int) (w : World) : Calls Try.prog 8 #[.pointer none, .int .i64 t] w fun e w' => e = .returned (.tuple #[.slice none 0 0, .int .i64 1]) ∧ w = w' := by
  go_enter Try.func8, Try.ntmps8
  go_wp2
  go_ret2
  exact ⟨rfl, rfl⟩
set_option maxHeartbeats 1000000 in
set_option maxRecDepth 100000 in
theorem nil_packet (c i : Int) (d : ByteArray) (w : World) : Calls Try.prog 9 #[.pointer none, .agg #[.int .u8 c, .int .u8 i, .string d]] w fun e w' => e = .returned (.tuple #[.slice none 0 0, .int .i64 1]) ∧ Below w.heap.size w w' := by
  go_enter Try.func9, Try.ntmps9
  go_wp2
  go_ret2
  exact ⟨rfl, (Below.refl _ w).alloc (Nat.le_refl _) _⟩
set_option maxHeartbeats 1000000 in
set_option maxRecDepth 100000 in
theorem nil_get (w : World) : (Calls Try.prog 10 #[.pointer none] w fun e w' => e = .returned (.tuple #[.int .i64 0, .bool false]) ∧ w = w') ∧ (Calls Try.prog 11 #[.pointer none] w fun e w' => e = .returned (.bool false) ∧ w = w') ∧
    (Calls Try.prog 12 #[.pointer none] w fun e w' => e = .returned (.int .i64 0) ∧ w = w') ∧ (Calls Try.prog 13 #[.pointer none] w fun e w' => e = .returned (.pointer none) ∧ w = w') := by
  refine ⟨?_, ?_, ?_, ?_⟩
  · go_enter Try.func10, Try.ntmps10
    go_wp2
    go_ret2
    exact ⟨rfl, rfl⟩
  · go_enter Try.func11, Try.ntmps11
    go_wp2
    go_ret
    exact ⟨rfl, rfl⟩
  · go_enter Try.func12, Try.ntmps12
    go_wp2
    go_ret
    exact ⟨rfl, rfl⟩
  · go_enter Try.func13, Try.ntmps13
    go_wp2
    go_ret
    exact ⟨rfl, rfl⟩
end Go.Proofs.Ytimndcfhilcgfaa.Ech
