/- Contracts of missing, Judge. -/
import Derived.Test.YtgefodpnhifmdaaGreatGIppI
import Derived.Test.YtgefodpnhifmdaaGreatGIppR
namespace Go.Proofs.YtgefodpnhifmdaaGreat.Ipp
open Go.RowKit Go.Proofs.YtgefodpnhifmdaaGreat.Oct Go.Proofs.YtgefodpnhifmdaaGreat.Row Go.Proofs.YtgefodpnhifmdaaGreat.Mem Go.Proofs.YtgefodpnhifmdaaGreat.Opt Go.Proofs.YtgefodpnhifmdaaGreat.Ipc

theorem PAt.peers {w : World} {g : Nat} {p : Po} (h : PAt w g p) : w.cell? ⟨g, 18, none⟩ = some (Value.bool p.peer.ha) ∧ w.cell? ⟨g, 19, none⟩ = some (.int .u32 p.peer.addr.toNat) ∧ w.cell? ⟨g, 20, none⟩ = some (.bool p.peer.h1) ∧ w.cell? ⟨g, 21, none⟩ = some (.int .u32 p.peer.dns1.toNat) ∧ w.cell? ⟨g, 22, none⟩ = some (.bool p.peer.h2) ∧ w.cell? ⟨g, 23, none⟩ = some (.int .u32 p.peer.dns2.toNat) ∧ w.frozen? ⟨g, 18, none⟩ = false ∧ w.frozen? ⟨g, 19, none⟩ = false ∧ w.frozen? ⟨g, 20, none⟩ = false ∧ w.frozen? ⟨g, 21, none⟩ = false ∧ w.frozen? ⟨g, 22, none⟩ = false ∧ w.frozen? ⟨g, 23, none⟩ = false := ⟨h.c 18, h.c 19, h.c 20, h.c 21, h.c 22, h.c 23, h.f 18, h.f 19, h.f 20, h.f 21, h.f 22, h.f 23⟩
theorem Jd.drewN {w wr : World} {g : Nat} {p : Po} {A : Option Addr} {n : Nat} {l : List Opt} (h : Jd w wr g p A n l) (k : Nat) : Jd w (wr.drewN k) g p A n l := ⟨h.hp, h.hm.drewN k, h.ho⟩
theorem judQ_of {p : Po} {l a : List Opt} {g C m : Nat} {w w' : World} {A A' : Option Addr} {n c : Nat} {q : Po} (h : Jd w w' g q A n l) (ha : Opts w' w'.heap.size A' m a) (hC : jC p l = C) (hA : jA p l = a) (hP : jP p l = q) :
    JudQ p l g w (.returned (.tuple #[.int .u8 (C : Nat), .slice A' m c])) w' := by
  have e := ha.1
  subst e hC hA hP
  exact ⟨A', c, rfl, ha, h.hp, h.hm⟩
set_option maxHeartbeats 4000000 in
set_option maxRecDepth 100000 in
theorem missing_any (g : Nat) (p : Po) (l : List Opt) (A : Option Addr) (n c : Nat) (w : World) (h : PAt w g p) (hl : Opts w w.heap.size A n l) (hn : n ≤ 1000) :
    Calls Tryz.prog 118 #[.pointer (some ⟨g, 0, none⟩), .slice A n c] w (CpQ (miss p l) (miss p l).length w) := by
  have HF := Lib.hid (find_any 3 l _ A n c w hl (by unfold maxLen; omega) (Nat.le_refl _))
  have HP := Lib.hid h
  clear h hl
  cases hb : fB 3 l
  · have HE : Hid (miss p l = put (bet p 3 lz)) := by show _ = _; unfold miss; rw [hb]; rfl
    rw [HE.out]
    rw [hb] at HF
    generalize fA 3 l = o at *
    clear hb
    go_enter Tryz.func118, Tryz.ntmps118
    go_wp2_with fail
    refine HF.out.mono ?_
    rintro e w1 ⟨rfl, hb1⟩
    have HB1 : Hid (Below w.heap.size w (w1.alloc (.cells #[.int .u8 o.1.toNat, .string o.2] 157))) := hb1.alloc hb1.size _
    have HP1 := Lib.hid (HP.out.callee HB1.out)
    clear hb1
    have HC : Hid (∀ U, PAt U g p → Calls Tryz.prog 129 #[.pointer (some ⟨g, 0, none⟩), .agg #[Value.bool false, .int .u32 0, .bool false, .int .u32 0, .bool false, .int .u32 0]] U (BetQ (bet p 3 lz) U)) := fun U hU => bet_addr g p lz U hU
    go_wp2_with fail
    refine (HC.out _ HP1.out).mono ?_
    rintro e w2 ⟨rfl, hb2⟩
    have HB2 := Lib.hid (HB1.out.trans (hb2.mono HB1.out.size))
    have HL := Lib.hid (list_any (bet p 3 lz) w2 (bet_may p 3 lz))
    clear hb2
    generalize bet p 3 lz = x at *
    go_wp2_with fail
    refine HL.out.mono ?_
    rintro e w3 ⟨A3, c3, rfl, hO, hA, hb3⟩
    have HB3 := Lib.hid (HB2.out.trans (hb3.mono HB2.out.size))
    have HO := Lib.hid hO
    have HA := Lib.hid hA
    clear hb3 hO hA
    go_wp2
    go_ret
    exact ⟨A3, c3, rfl, HO.out, HA.out, HB3.out⟩
  · have HE : Hid (miss p l = []) := by show _ = _; unfold miss; rw [hb]; rfl
    rw [HE.out]
    rw [hb] at HF
    generalize fA 3 l = o at *
    clear hb
    go_enter Tryz.func118, Tryz.ntmps118
    go_wp2_with fail
    refine HF.out.mono ?_
    rintro e w1 ⟨rfl, hb1⟩
    have HB1 : Hid (Below w.heap.size w (w1.alloc (.cells #[.int .u8 o.1.toNat, .string o.2] 157))) := hb1.alloc hb1.size _
    clear hb1
    go_wp2
    go_ret
    exact ⟨none, 0, rfl, opts_nil _ _, fun _ => rfl, HB1.out⟩
theorem miss_len (p : Po) (l : List Opt) : (miss p l).length ≤ 3 := by
  unfold miss
  split
  · exact Nat.zero_le _
  · exact put_len _
set_option maxHeartbeats 16000000 in
set_option maxRecDepth 100000 in
theorem judge_any (g : Nat) (p : Po) (l : List Opt) (A : Option Addr) (n c : Nat) (w : World) (h : PAt w g p) (hl : Opts w w.heap.size A n l) (hA : A = none → c = 0) (hn : n ≤ 1000) (hni : p.naks ≤ 1000) :
    Calls Tryz.prog 108 #[.pointer (some ⟨g, 0, none⟩), .slice A n c] w (JudQ p l g w) := by
  obtain ⟨i0, hi, hz0, hz1, hz2⟩ := info_parts Tryz.info157
  have HJ : Hid (Jd w w g p A n l) := ⟨h, Moves.refl _ _, hl⟩
  have HZ := Lib.hid hl.2.1
  have HN := Lib.hid hl.1
  have hni1 : (p.naks : Int) ≤ 1000 := by omega
  have hni0 : (0 : Int) ≤ (p.naks : Int) := Int.natCast_nonneg _
  have HE := Lib.hid (evaluate_any g p l A n c w h hl hn)
  clear h hl hni
  go_enter Tryz.func108, Tryz.ntmps108
  go_wp2_with fail
  refine HE.out.mono ?_
  rintro e w2 ⟨A2, c2, rfl, hv2, hb2⟩
  have H2 := Lib.hid (HJ.out.callee hb2)
  have HV2 := Lib.hid hv2
  clear hv2 hb2 HE HJ
  have HR := Lib.hid (row_any 115 (fun v => (v.got, v.rej)) (fun v w => refused_any v w) (enters_of Tryz.func115 (by kernel_rfl) rfl) (vs p l) A2 n c2 w2 HV2.out hn (fun v hv => HZ.out _ (vs_mem hv).1))
  go_wp2_with fail
  refine HR.out.mono ?_
  rintro e w3 ⟨A3, c3, rfl, hO, hb, hown⟩
  have H3 := Lib.hid (H2.out.callee hb)
  have HV3 := Lib.hid (HV2.out.next hb)
  obtain ⟨m3, hm⟩ : ∃ m, (pick (fun v => (v.got, v.rej)) (vs p l)).length = m := ⟨_, rfl⟩
  rw [hm] at hO hown ⊢
  have HO3 := Lib.hid hO
  have HW3 := Lib.hid hown
  have HB3 := Lib.hid hb
  have HM3 : Hid ((refs (vs p l)).length = m3) := hm
  clear hO hb HR hm hown
  clear H2 HV2 HW3 HB3
  have HR := Lib.hid (row_any 116 (fun v => (v.got, poor v)) (fun v w => poor_any v w) (enters_of Tryz.func116 (by kernel_rfl) rfl) (vs p l) A2 n c2 w3 HV3.out hn (fun v hv => HZ.out _ (vs_mem hv).1))
  go_wp2_with fail
  refine HR.out.mono ?_
  rintro e w4 ⟨A4, c4, rfl, hO, hb, hown⟩
  have H4 := Lib.hid (H3.out.callee hb)
  have HV4 := Lib.hid (HV3.out.next hb)
  have HBr := Lib.hid hb
  obtain ⟨m4, hm⟩ : ∃ m, (pick (fun v => (v.got, poor v)) (vs p l)).length = m := ⟨_, rfl⟩
  rw [hm] at hO hown ⊢
  have HO4 := Lib.hid hO
  have HW4 := Lib.hid hown
  have HB4 := Lib.hid hb
  have HM4 : Hid ((poors (vs p l)).length = m4) := hm
  clear hO hb HR hm hown
  clear H3 HV3 HW4 HB4
  have H4b := H4
  have HR := Lib.hid (row_any 117 (fun v => (v.bet, poor v)) (fun v w => instead_any v w) (enters_of Tryz.func117 (by kernel_rfl) rfl) (vs p l) A2 n c2 w4 HV4.out hn (fun v hv => Nat.le_trans (vs_mem hv).2 (by omega)))
  go_wp2_with fail
  refine HR.out.mono ?_
  rintro e w5 ⟨A5, c5, rfl, hO, hb, hown⟩
  have H5 := Lib.hid (H4.out.callee hb)
  have HV5 := Lib.hid (HV4.out.next hb)
  obtain ⟨m5, hm⟩ : ∃ m, (pick (fun v => (v.bet, poor v)) (vs p l)).length = m := ⟨_, rfl⟩
  rw [hm] at hO hown ⊢
  have HO5 := Lib.hid hO
  have HW5 := Lib.hid hown
  have HB5 := Lib.hid hb
  have HM5 : Hid ((insts (vs p l)).length = m5) := hm
  clear hO hb HR hm hown
  have HB5' := HB5
  clear HV4 HV5 HO5 H4
  have HI := Lib.hid (missing_any g p l A n c w5 H5.out.hp (H5.out.ho.more H5.out.hm.size) hn)
  go_wp2_with fail
  refine HI.out.mono ?_
  rintro e w6 ⟨A6, c6, rfl, hO6, hA6, hb6⟩
  have HO6 := Lib.hid hO6
  have HA6 := Lib.hid hA6
  have HB6 := Lib.hid (HB5.out.trans (hb6.mono HB5.out.size))
  have HW6 := Lib.hid (own_callee HW5.out hb6)
  have hm5 : m5 ≤ 1000 := by
    have h1 : (insts (vs p l)).length ≤ (vs p l).length := List.length_filterMap_le _ _
    rw [HM5.out, vs_length, HN.out] at h1
    omega
  have hmm : (miss p l).length ≤ 3 := miss_len p l
  clear hO6 hA6 hb6 HI H5 HW5 HB5'
  have HS : Hid (sugs p l = insts (vs p l) ++ miss p l) := rfl
  have HMG : Hid ((sugs p l).length = m5 + (miss p l).length) := by show _ = _; rw [HS.out, List.length_append, HM5.out]
  have HZS : Hid (∀ o ∈ sugs p l, o.2.size ≤ 140737488351232) := fun o ho => by
    rw [HS.out] at ho
    rcases List.mem_append.1 ho with h | h
    · obtain ⟨v, hv, e⟩ := List.mem_filterMap.1 h
      have := (vs_mem hv).2
      split at e
      · cases e; omega
      · cases e
    · exact HO6.out.2.1 o h
  generalize hmi : miss p l = mi at *
  clear hmi
  by_cases hr : refs (vs p l) = []
  · have hm0 : m3 = 0 := by rw [← HM3.out, hr]; rfl
    subst hm0
    have Hr := Lib.hid hr
    clear hr HM3
    go_wp2_with (at_builtin; refine append_opts rfl _ _ 76 rfl w4.heap.size 157 i0 _ 24 Tryz.underlying76 hi hz0 hz1 hz2 rfl _ m5 (insts (vs p l)) rfl HW6.out _ A6 mi.length c6 mi HA6.out rfl HO6.out (by unfold maxLen; omega) (by omega) HB6.out.size ?_; intro v7 w7 hown7 hgr7; have Hown7 := Lib.hid hown7; have Hgr7 := Lib.hid hgr7; clear hown7 hgr7)
    have HB7 : Hid (Below w4.heap.size w4 w7) := HB6.out.grown Hgr7.out HB6.out.size (fun q hq => (HW6.out.lt q hq).1)
    have H7 := Lib.hid (H4b.out.callee HB7.out)
    have HOr := Lib.hid ((HO3.out.next HBr.out).next HB7.out)
    have HOp := Lib.hid (HO4.out.next HB7.out)
    obtain ⟨mg, hmg⟩ : ∃ mg, (sugs p l).length = mg := ⟨_, rfl⟩
    have HO7 : Hid (∃ A7 c7, v7 = .slice A7 mg c7 ∧ Opts w7 w7.heap.size A7 mg (sugs p l)) := by
      have h1 := Hown7.out
      rw [← HS.out, ← HMG.out, hmg] at h1
      obtain ⟨A7, c7, e, ho⟩ := opts_own h1 HZS.out
      exact ⟨A7, c7, e, ho⟩
    have HMg := Lib.hid hmg
    obtain ⟨A7, c7, rfl, hO7⟩ := HO7.out
    have HG7 := Lib.hid hO7
    clear hO7 hmg HO7 Hown7 Hgr7 HB7 H4b HO3 HO4 HBr HB6 HB5 HW6 HO6 HA6 HZS HMG HS HM5 hm5 hmm
    have HO3 := HOr
    have HO4 := HOp
    clear HOr HOp
    have k24 : w7.cell? ⟨g, 24, none⟩ = some (.int .i64 p.naks) := H7.out.hp.c 24
    have k11 : w7.cell? ⟨g, 11, none⟩ = some (.int .i64 p.c.mn) := H7.out.hp.c 11
    by_cases hs : sugs p l = []
    · have hm0 : mg = 0 := by rw [← HMg.out, hs]; rfl
      subst hm0
      have hm1 : m4 = 0 := by rw [← HM4.out, (sugs_nil hs).1]; rfl
      subst hm1
      have Hs := Lib.hid hs
      clear hs HM4 HMg
      go_quiet (fail)
      have H8 : Hid (Jd w (w7.drewN nq) g p A n l) := H7.out.drewN nq
      have HP8 : Hid (Opts (w7.drewN nq) (w7.drewN nq).heap.size A4 0 (poors (vs p l))) := HO4.out
      have HG8 : Hid (Opts (w7.drewN nq) (w7.drewN nq).heap.size A7 0 (sugs p l)) := HG7.out
      clear H7 HO4 HG7 k24 k11
      generalize w7.drewN nq = w7 at *
      have H7 := H8
      have HO4 := HP8
      have HG7 := HG8
      clear H8 HP8 HG8
      have HC := Lib.hid (ack_of (way_ack Hr.out Hs.out))
      have k24 := H7.out.hp.c 24
      have k24 : w7.cell? ⟨g, 24, none⟩ = some (.int .i64 p.naks) := k24
      have f24 := H7.out.hp.f 24
      have H5 : Hid (Jd w (w7.setCell ⟨g, 24, none⟩ (.int .i64 0)) g { p with naks := 0 } A n l) := H7.out.turn (set_moves _ _ _ _) (H7.out.hp.setNaks 0)
      have HG := Lib.hid (get_any l _ A n c _ H5.out.ho (by omega) H5.out.hm.size)
      go_wp2_with fail
      refine HG.out.mono ?_
      rintro e w8 ⟨A5, c5, rfl, _, hb5⟩
      have H6 := Lib.hid (H5.out.callee hb5)
      clear hb5 HG H5 k24 f24
      obtain ⟨x, hx⟩ : ∃ x, Ipc.gL l = x := ⟨_, rfl⟩
      rw [hx]
      have HX := Lib.hid hx
      clear hx
      generalize (gO l).length = n1
      generalize gE l = e1
      obtain ⟨p18, p19, p20, p21, p22, p23, q18, q19, q20, q21, q22, q23⟩ := H6.out.hp.peers
      obtain ⟨V, hV⟩ : ∃ V, w8.setCells g 18 (lv x) = V := ⟨_, rfl⟩
      have H9 : Hid (Jd w V g { p with naks := 0, peer := x } A n l) := by show Jd _ _ _ _ _ _ _; rw [← hV]; exact H6.out.turn (sets_moves _ _ _ _) (H6.out.hp.setPeer x)
      simp only [World.setCells, lv] at hV
      unfold lv
      have HK := Lib.hid (clone_any l A n c V (H9.out.ho.more H9.out.hm.size) hA hn)
      clear H6
      go_wp2_with fail
      refine HK.out.mono ?_
      rintro e w10 ⟨A6, c6, rfl, hO6, _, hb6⟩
      have H10 := Lib.hid (H9.out.callee hb6)
      have HO6 := Lib.hid hO6
      clear hO6 hb6 HK H9 hV p18 p19 p20 p21 p22 p23 q18 q19 q20 q21 q22 q23
      go_wp2
      go_ret2
      exact judQ_of (C := 2) H10.out HO6.out HC.out.1 HC.out.2.1 (by rw [HC.out.2.2, HX.out])
    · have hm0 : 0 < mg := by rw [← HMg.out]; exact List.length_pos_iff.2 hs
      have hm1 : (0 : Int) < (mg : Int) := by omega
      have hm2 := decide_eq_true hm1
      have Hs := Lib.hid hs
      have hm6 := decide_eq_true hm0
      clear hs HMg
      by_cases hx : (p.naks : Int) < p.c.mn
      · have hx1 := decide_eq_true hx
        have HC := Lib.hid (nak_of (way_nak Hr.out Hs.out hx))
        go_quiet (fail)
        have H8 : Hid (Jd w (w7.drewN nq) g p A n l) := H7.out.drewN nq
        have HP8 : Hid (Opts (w7.drewN nq) (w7.drewN nq).heap.size A4 m4 (poors (vs p l))) := HO4.out
        have HG8 : Hid (Opts (w7.drewN nq) (w7.drewN nq).heap.size A7 mg (sugs p l)) := HG7.out
        clear H7 HO4 HG7 k24 k11
        generalize w7.drewN nq = w7 at *
        have H7 := H8
        have HO4 := HP8
        have HG7 := HG8
        clear H8 HP8 HG8
        have k24 : w7.cell? ⟨g, 24, none⟩ = some (.int .i64 p.naks) := H7.out.hp.c 24
        have f24 := H7.out.hp.f 24
        have H6 : Hid (Jd w (w7.setCell ⟨g, 24, none⟩ (.int .i64 ((p.naks : Int) + 1))) g { p with naks := p.naks + 1 } A n l) := H7.out.turn (set_moves _ _ _ _) (H7.out.hp.setNaks (p.naks + 1))
        have HO6 : Hid (Opts (w7.setCell ⟨g, 24, none⟩ (.int .i64 ((p.naks : Int) + 1))) (w7.setCell ⟨g, 24, none⟩ (.int .i64 ((p.naks : Int) + 1))).heap.size A7 mg (sugs p l)) := (opts_past HG7.out H7.out.hp (pv_no _) (set_moves _ _ _ _) (Nat.le_refl _)).more (set_moves w7 g 24 _).size
        go_wp2
        go_ret2
        exact judQ_of (C := 3) H6.out HO6.out HC.out.1 HC.out.2.1 HC.out.2.2
      · have hx1 := decide_eq_false hx
        have Hx := Lib.hid hx
        clear hx
        go_quiet (fail)
        have H8 : Hid (Jd w (w7.drewN nq) g p A n l) := H7.out.drewN nq
        have HP8 : Hid (Opts (w7.drewN nq) (w7.drewN nq).heap.size A4 m4 (poors (vs p l))) := HO4.out
        have HG8 : Hid (Opts (w7.drewN nq) (w7.drewN nq).heap.size A7 mg (sugs p l)) := HG7.out
        clear H7 HO4 HG7 k24 k11
        generalize w7.drewN nq = w7 at *
        have H7 := H8
        have HO4 := HP8
        have HG7 := HG8
        clear H8 HP8 HG8
        by_cases hp : poors (vs p l) = []
        · have hm3 : m4 = 0 := by rw [← HM4.out, hp]; rfl
          subst hm3
          have Hp := Lib.hid hp
          clear hp HM4
          have HC := Lib.hid (ack_of (way_ack' Hr.out Hx.out Hp.out))
          have k24 := H7.out.hp.c 24
          have k24 : w7.cell? ⟨g, 24, none⟩ = some (.int .i64 p.naks) := k24
          have f24 := H7.out.hp.f 24
          have H5 : Hid (Jd w (w7.setCell ⟨g, 24, none⟩ (.int .i64 0)) g { p with naks := 0 } A n l) := H7.out.turn (set_moves _ _ _ _) (H7.out.hp.setNaks 0)
          have HG := Lib.hid (get_any l _ A n c _ H5.out.ho (by omega) H5.out.hm.size)
          go_wp2_with fail
          refine HG.out.mono ?_
          rintro e w8 ⟨A5, c5, rfl, _, hb5⟩
          have H6 := Lib.hid (H5.out.callee hb5)
          clear hb5 HG H5 k24 f24
          obtain ⟨x, hx⟩ : ∃ x, Ipc.gL l = x := ⟨_, rfl⟩
          rw [hx]
          have HX := Lib.hid hx
          clear hx
          generalize (gO l).length = n1
          generalize gE l = e1
          obtain ⟨p18, p19, p20, p21, p22, p23, q18, q19, q20, q21, q22, q23⟩ := H6.out.hp.peers
          obtain ⟨V, hV⟩ : ∃ V, w8.setCells g 18 (lv x) = V := ⟨_, rfl⟩
          have H9 : Hid (Jd w V g { p with naks := 0, peer := x } A n l) := by show Jd _ _ _ _ _ _ _; rw [← hV]; exact H6.out.turn (sets_moves _ _ _ _) (H6.out.hp.setPeer x)
          simp only [World.setCells, lv] at hV
          unfold lv
          have HK := Lib.hid (clone_any l A n c V (H9.out.ho.more H9.out.hm.size) hA hn)
          clear H6
          go_wp2_with fail
          refine HK.out.mono ?_
          rintro e w10 ⟨A6, c6, rfl, hO6, _, hb6⟩
          have H10 := Lib.hid (H9.out.callee hb6)
          have HO6 := Lib.hid hO6
          clear hO6 hb6 HK H9 hV p18 p19 p20 p21 p22 p23 q18 q19 q20 q21 q22 q23
          go_wp2
          go_ret2
          exact judQ_of (C := 2) H10.out HO6.out HC.out.1 HC.out.2.1 (by rw [HC.out.2.2, HX.out])
        · have hm3 : 0 < m4 := by rw [← HM4.out]; exact List.length_pos_iff.2 hp
          have hm4 : (0 : Int) < (m4 : Int) := by omega
          have hm5 := decide_eq_true hm4
          have Hp := Lib.hid hp
          clear hp hm3
          have HC := Lib.hid (poor_of (way_poor Hr.out Hx.out Hp.out))
          go_wp2_with fail
          refine (rejects_any g p _ w7 H7.out.hp).mono ?_
          rintro e w8 ⟨rfl, rfl⟩
          have H6 : Hid (Jd w (w7.setCell ⟨g, 24, none⟩ (.int .i64 0)) g { p with naks := 0 } A n l) := H7.out.turn (set_moves _ _ _ _) (H7.out.hp.setNaks 0)
          have HO6 : Hid (Opts (w7.setCell ⟨g, 24, none⟩ (.int .i64 0)) (w7.setCell ⟨g, 24, none⟩ (.int .i64 0)).heap.size A4 m4 (poors (vs p l))) := (opts_past HO4.out H7.out.hp (pv_no _) (set_moves _ _ _ _) (Nat.le_refl _)).more (set_moves w7 g 24 _).size
          go_wp2
          go_ret2
          exact judQ_of (C := 4) H6.out HO6.out HC.out.1 HC.out.2.1 HC.out.2.2
  · have hm0 : 0 < m3 := by rw [← HM3.out]; exact List.length_pos_iff.2 hr
    have hm1 : (0 : Int) < (m3 : Int) := by omega
    have hm2 := decide_eq_true hm1
    have Hr := Lib.hid hr
    clear hr hm0
    go_wp2_with (at_builtin; refine append_opts rfl _ _ 76 rfl w4.heap.size 157 i0 _ 24 Tryz.underlying76 hi hz0 hz1 hz2 rfl _ m5 (insts (vs p l)) rfl HW6.out _ A6 mi.length c6 mi HA6.out rfl HO6.out (by unfold maxLen; omega) (by omega) HB6.out.size ?_; intro v7 w7 hown7 hgr7; have Hown7 := Lib.hid hown7; have Hgr7 := Lib.hid hgr7; clear hown7 hgr7)
    have HB7 : Hid (Below w4.heap.size w4 w7) := HB6.out.grown Hgr7.out HB6.out.size (fun q hq => (HW6.out.lt q hq).1)
    have H7 := Lib.hid (H4b.out.callee HB7.out)
    have HOr := Lib.hid ((HO3.out.next HBr.out).next HB7.out)
    have HOp := Lib.hid (HO4.out.next HB7.out)
    obtain ⟨mg, hmg⟩ : ∃ mg, (sugs p l).length = mg := ⟨_, rfl⟩
    have HO7 : Hid (∃ A7 c7, v7 = .slice A7 mg c7 ∧ Opts w7 w7.heap.size A7 mg (sugs p l)) := by
      have h1 := Hown7.out
      rw [← HS.out, ← HMG.out, hmg] at h1
      obtain ⟨A7, c7, e, ho⟩ := opts_own h1 HZS.out
      exact ⟨A7, c7, e, ho⟩
    have HMg := Lib.hid hmg
    obtain ⟨A7, c7, rfl, hO7⟩ := HO7.out
    have HG7 := Lib.hid hO7
    clear hO7 hmg HO7 Hown7 Hgr7 HB7 H4b HO3 HO4 HBr HB6 HB5 HW6 HO6 HA6 HZS HMG HS HM5 hm5 hmm
    have HO3 := HOr
    have HO4 := HOp
    clear HOr HOp
    have HC := Lib.hid (rej_of (way_rej Hr.out))
    refine (rejects_any g p _ w7 H7.out.hp).mono ?_
    rintro e w8 ⟨rfl, rfl⟩
    have H6 : Hid (Jd w (w7.setCell ⟨g, 24, none⟩ (.int .i64 0)) g { p with naks := 0 } A n l) := H7.out.turn (set_moves _ _ _ _) (H7.out.hp.setNaks 0)
    have HO6 : Hid (Opts (w7.setCell ⟨g, 24, none⟩ (.int .i64 0)) (w7.setCell ⟨g, 24, none⟩ (.int .i64 0)).heap.size A3 m3 (refs (vs p l))) := (opts_past HO3.out H7.out.hp (pv_no _) (set_moves _ _ _ _) (Nat.le_refl _)).more (set_moves w7 g 24 _).size
    go_wp2
    go_ret2
    exact judQ_of (C := 4) H6.out HO6.out HC.out.1 HC.out.2.1 HC.out.2.2
end Go.Proofs.YtgefodpnhifmdaaGreat.Ipp
