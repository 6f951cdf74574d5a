/- Put together: PolL, PolM. -/
import Derived.Test.YtikcgcgbcolndaaGreatPolI
import Derived.Test.YtikcgcgbcolndaaGreatG28
import Derived.Test.YtikcgcgbcolndaaGreatPolK

/- What Judge keeps: rows past a turn of the policy. -/
namespace Go.Proofs.YtikcgcgbcolndaaGreat.Pol
open Go.RowKit Go.Proofs.YtikcgcgbcolndaaGreat.Oct Go.Proofs.YtikcgcgbcolndaaGreat.Row Go.Proofs.YtikcgcgbcolndaaGreat.Mem Go.Proofs.YtikcgcgbcolndaaGreat.Opt Go.Proofs.YtikcgcgbcolndaaGreat.Lco

theorem lv_no (x : Lcp) (s : ByteArray) : Value.string s ∉ lv x := by unfold lv; simp
theorem cv_no (c : Conf) (s : ByteArray) : Value.string s ∉ cv c := by unfold cv; simp
theorem pv_no (p : Po) (s : ByteArray) : Value.string s ∉ pv p := by
  unfold pv
  simp only [List.mem_append, not_or]
  exact ⟨lv_no _ s, cv_no _ s, lv_no _ s, lv_no _ s, by simp⟩
theorem str_apart {w : World} {g b i : Nat} {t : TypeId} {cs : List Value} {s : ByteArray} (h : Blk w g cs t) (hn : Value.string s ∉ cs) (hc : w.cell? ⟨b, i, none⟩ = some (.string s)) : b ≠ g := by
  rintro rfl
  rw [Blk.at_ h i] at hc
  exact hn (List.mem_of_getElem? hc)
/-- A row of options past a turn of a block that holds no text. -/
theorem opts_past {w w' : World} {g B n : Nat} {t : TypeId} {cs : List Value} {A : Option Addr} {l : List Opt} (h : Opts w B A n l) (hP : Blk w g cs t) (hs : ∀ s, Value.string s ∉ cs) (hm : Moves (fun k => k = g) w w') (hB : B ≤ w.heap.size) : Opts w' B A n l :=
  ⟨h.1, h.2.1, fun hn => by
    obtain ⟨ad, e, hb, hc⟩ := h.2.2 hn
    refine ⟨ad, e, hb, fun j hj => ?_⟩
    have hk : (ad.add (j * 2)).block = ad.block := Oct.block_add _ _
    have hne : (ad.add (j * 2)).block ≠ g := str_apart hP (hs _) (hc j hj).2
    exact ⟨(hm.cell (by rw [hk]; omega) (by exact hne)).trans (hc j hj).1, (hm.cell (by show (ad.add (j * 2)).block < _; rw [hk]; omega) (by exact hne)).trans (hc j hj).2⟩⟩
theorem vers_past {w w' : World} {g B n : Nat} {t : TypeId} {cs : List Value} {A : Option Addr} {l : List Ver} (h : Vers w B A n l) (hP : Blk w g cs t) (hs : ∀ s, Value.string s ∉ cs) (hm : Moves (fun k => k = g) w w') (hB : B ≤ w.heap.size) : Vers w' B A n l :=
  ⟨h.1, fun hn => by
    obtain ⟨ad, e, hb, hc⟩ := h.2 hn
    refine ⟨ad, e, hb, fun j hj => ?_⟩
    have hk : (ad.add (j * 5)).block = ad.block := Oct.block_add _ _
    obtain ⟨c0, c1, c2, c3, c4⟩ := hc j hj
    have hne : (ad.add (j * 5)).block ≠ g := str_apart hP (hs _) c1
    have hl : (ad.add (j * 5)).block < w.heap.size := by rw [hk]; omega
    exact ⟨(hm.cell hl hne).trans c0, (hm.cell (by exact hl) (by exact hne)).trans c1, (hm.cell (by exact hl) (by exact hne)).trans c2, (hm.cell (by exact hl) (by exact hne)).trans c3, (hm.cell (by exact hl) (by exact hne)).trans c4⟩⟩
theorem vs_loop (p : Po) (l l' : List Opt) : vs (loopP p l) l' = vs p l' := by unfold loopP; split <;> rfl
theorem ver_got (p : Po) (l : List Opt) (o : Opt) : (ver p l o).got = o := by unfold ver; split <;> rfl
theorem vs_mem {p : Po} {l : List Opt} {v : Ver} (h : v ∈ vs p l) : v.got ∈ l ∧ v.bet.2.size ≤ 4 := by
  unfold vs at h
  obtain ⟨i, hi, rfl⟩ := List.mem_map.1 h
  have hi' : i < l.length := List.mem_range.1 hi
  rw [List.getD_eq_getElem?_getD, List.getElem?_eq_getElem hi']
  refine ⟨by rw [ver_got]; exact List.getElem_mem hi', ?_⟩
  unfold ver
  split
  · exact Nat.zero_le _
  · rename_i h1
    simp only [Bool.or_eq_true, Bool.not_eq_true', not_or] at h1
    exact sug_size (by simpa using h1.2)
/-- What Judge answers. -/
def JudQ (p : Po) (l : List Opt) (g : Nat) (w : World) (e : Ending) (w' : World) : Prop := ∃ A c, e = .returned (.tuple #[.int .u8 (jC p l), .slice A (jA p l).length c]) ∧ Opts w' w'.heap.size A (jA p l).length (jA p l) ∧ PAt w' g (jP p l) ∧ Moves (fun k => k = g) w w'
/-- On the way. -/
structure Jd (w wr : World) (g : Nat) (p : Po) (A : Option Addr) (n : Nat) (l : List Opt) : Prop where
  hp : PAt wr g p
  hm : Moves (fun k => k = g) w wr
  ho : Opts wr w.heap.size A n l
theorem Jd.callee {w wr w' : World} {g : Nat} {p : Po} {A : Option Addr} {n : Nat} {l : List Opt} (h : Jd w wr g p A n l) (hb : Below wr.heap.size wr w') : Jd w w' g p A n l :=
  ⟨h.hp.callee hb, h.hm.trans (Moves.of_below hb) (fun j hj e => e), h.ho.callee hb h.hm.size⟩
theorem Jd.turn {w wr w' : World} {g : Nat} {p p' : Po} {A : Option Addr} {n : Nat} {l : List Opt} (h : Jd w wr g p A n l) (hm : Moves (fun k => k = g) wr w') (hp : PAt w' g p') : Jd w w' g p' A n l :=
  ⟨hp, h.hm.trans hm (fun j hj e => e), opts_past h.ho h.hp (pv_no p) hm h.hm.size⟩
end Go.Proofs.YtikcgcgbcolndaaGreat.Pol

/- Contract of Judge. -/
namespace Go.Proofs.YtikcgcgbcolndaaGreat.Pol
open Go.RowKit Go.Proofs.YtikcgcgbcolndaaGreat.Oct Go.Proofs.YtikcgcgbcolndaaGreat.Row Go.Proofs.YtikcgcgbcolndaaGreat.Mem Go.Proofs.YtikcgcgbcolndaaGreat.Opt Go.Proofs.YtikcgcgbcolndaaGreat.Lco

theorem PAt.peers {w : World} {g : Nat} {p : Po} (h : PAt w g p) : w.cell? ⟨g, 28, none⟩ = some (Value.bool p.peer.hm) ∧ w.cell? ⟨g, 29, none⟩ = some (.int .u16 p.peer.mru.toNat) ∧ w.cell? ⟨g, 30, none⟩ = some (.bool p.peer.ha) ∧ w.cell? ⟨g, 31, none⟩ = some (.int .u32 p.peer.accm.toNat) ∧ w.cell? ⟨g, 32, none⟩ = some (.int .u8 p.peer.auth.toNat) ∧ w.cell? ⟨g, 33, none⟩ = some (.bool p.peer.hg) ∧ w.cell? ⟨g, 34, none⟩ = some (.int .u32 p.peer.magic.toNat) ∧ w.cell? ⟨g, 35, none⟩ = some (.bool p.peer.pfc) ∧ w.cell? ⟨g, 36, none⟩ = some (.bool p.peer.acfc) ∧ w.frozen? ⟨g, 28, none⟩ = false ∧ w.frozen? ⟨g, 29, none⟩ = false ∧ w.frozen? ⟨g, 30, none⟩ = false ∧ w.frozen? ⟨g, 31, none⟩ = false ∧ w.frozen? ⟨g, 32, none⟩ = false ∧ w.frozen? ⟨g, 33, none⟩ = false ∧ w.frozen? ⟨g, 34, none⟩ = false ∧ w.frozen? ⟨g, 35, none⟩ = false ∧ w.frozen? ⟨g, 36, none⟩ = false := ⟨h.c 28, h.c 29, h.c 30, h.c 31, h.c 32, h.c 33, h.c 34, h.c 35, h.c 36, h.f 28, h.f 29, h.f 30, h.f 31, h.f 32, h.f 33, h.f 34, h.f 35, h.f 36⟩
theorem Jd.drewN {w wr : World} {g : Nat} {p : Po} {A : Option Addr} {n : Nat} {l : List Opt} (h : Jd w wr g p A n l) (k : Nat) : Jd w (wr.drewN k) g p A n l := ⟨h.hp, h.hm.drewN k, h.ho⟩
theorem loop_naks (p : Po) (l : List Opt) : (loopP p l).naks = p.naks := by unfold loopP; split <;> rfl
theorem loop_c (p : Po) (l : List Opt) : (loopP p l).c = p.c := by unfold loopP; split <;> rfl
theorem ref_of {p : Po} {l : List Opt} (h : ¬ refs (vs p l) = []) : jC p l = 4 ∧ jA p l = refs (vs p l) ∧ jP p l = { loopP p l with naks := 0 } := by
  unfold jC jA jP
  rw [if_pos h, if_pos h, if_pos h]
  exact ⟨rfl, rfl, rfl⟩
theorem rej_of {p : Po} {l : List Opt} (h : refs (vs p l) = []) (h2 : ¬ poors (vs p l) = []) (hx : (p.naks : Int) = p.c.mn) : jC p l = 4 ∧ jA p l = poors (vs p l) ∧ jP p l = { loopP p l with naks := 0 } := by
  refine ⟨?_, ?_, ?_⟩ <;> simp [jC, jA, jP, h, h2, hx]
theorem nak_of {p : Po} {l : List Opt} (h : refs (vs p l) = []) (h2 : ¬ poors (vs p l) = []) (hx : ¬ (p.naks : Int) = p.c.mn) : jC p l = 3 ∧ jA p l = insts (vs p l) ∧ jP p l = { loopP p l with naks := p.naks + 1 } := by
  refine ⟨?_, ?_, ?_⟩ <;> simp [jC, jA, jP, h, h2, hx]
theorem ack_of {p : Po} {l : List Opt} (h : refs (vs p l) = []) (h2 : poors (vs p l) = []) : jC p l = 2 ∧ jA p l = l ∧ jP p l = { loopP p l with naks := 0, peer := Lco.gL l } := by
  refine ⟨?_, ?_, ?_⟩ <;> simp [jC, jA, jP, h, h2]
theorem judQ_of {p : Po} {l a : List Opt} {g C m : Nat} {w w' : World} {A A' : Option Addr} {n c : Nat} {q : Po} (h : Jd w w' g q A n l) (ha : Opts w' w'.heap.size A' m a) (hC : jC p l = C) (hA : jA p l = a) (hP : jP p l = q) :
    JudQ p l g w (.returned (.tuple #[.int .u8 (C : Nat), .slice A' m c])) w' := by
  have e := ha.1
  subst e hC hA hP
  exact ⟨A', c, rfl, ha, h.hp, h.hm⟩
set_option maxHeartbeats 8000000 in
set_option maxRecDepth 100000 in
theorem judge_any (g : Nat) (p : Po) (l : List Opt) (A : Option Addr) (n c : Nat) (w : World) (h : PAt w g p) (hl : Opts w w.heap.size A n l) (hA : A = none → c = 0) (hn : n ≤ 1000) (hni : p.naks ≤ 1000) (hlo : p.loops ≤ 1000000) :
    Calls Tryz.prog 142 #[.pointer (some ⟨g, 0, none⟩), .slice A n c] w (JudQ p l g w) := by
  have HJ : Hid (Jd w w g p A n l) := ⟨h, Moves.refl _ _, hl⟩
  have HZ := Lib.hid hl.2.1
  have HO := Lib.hid (hasOwn_any g p l A n c w h hl (by unfold maxLen; omega))
  have hni1 : (p.naks : Int) ≤ 1000 := by omega
  have hni0 : (0 : Int) ≤ (p.naks : Int) := Int.natCast_nonneg _
  have hlo1 : (p.loops : Int) ≤ 1000000 := by omega
  have hlo0 : (0 : Int) ≤ (p.loops : Int) := Int.natCast_nonneg _
  clear h hl hni hlo
  go_enter Tryz.func142, Tryz.ntmps142
  go_wp2_with fail
  refine HO.out.mono ?_
  rintro e w1 ⟨rfl, hb1⟩
  have H1 := Lib.hid (HJ.out.callee hb1)
  clear hb1 HO HJ
  cases ho : own p l
  · have HQ : Hid (Jd w w1 g (loopP p l) A n l) := by show Jd _ _ _ _ _ _ _; rw [show loopP p l = p from by unfold loopP; rw [ho]; rfl]; exact H1.out
    clear H1 ho
    have HE := Lib.hid (evaluate_any g (loopP p l) l A n c w1 HQ.out.hp (HQ.out.ho.more HQ.out.hm.size) hn)
    go_wp2_with fail
    refine HE.out.mono ?_
    rintro e w2 ⟨A2, c2, rfl, hv2, hb2⟩
    rw [vs_loop] at hv2
    have H2 := Lib.hid (HQ.out.callee hb2)
    have HV2 := Lib.hid hv2
    clear hv2 hb2 HE HQ
    have HR := Lib.hid (row_any 149 (fun v => (v.got, v.rej)) (fun v w => refused_any v w) (enters_of Tryz.func149 (by kernel_rfl) rfl) (vs p l) A2 n c2 w2 HV2.out hn (fun v hv => HZ.out _ (vs_mem hv).1))
    go_wp2_with fail
    refine HR.out.mono ?_
    rintro e w3 ⟨A3, c3, rfl, hO3, hb3⟩
    have H3 := Lib.hid (H2.out.callee hb3)
    have HV3 := Lib.hid (HV2.out.next hb3)
    obtain ⟨m, hm⟩ : ∃ m, (pick (fun v => (v.got, v.rej)) (vs p l)).length = m := ⟨_, rfl⟩
    rw [hm] at hO3 ⊢
    have HO3 := Lib.hid hO3
    have HM : Hid ((refs (vs p l)).length = m) := hm
    clear hO3 hb3 HR H2 HV2 hm
    by_cases hr : refs (vs p l) = []
    · have hm0 : m = 0 := by rw [← HM.out, hr]; rfl
      subst hm0
      have Hr := Lib.hid hr
      clear hr HM HO3
      have HR := Lib.hid (row_any 151 (fun v => (v.got, poor v)) (fun v w => poor_any v w) (enters_of Tryz.func151 (by kernel_rfl) rfl) (vs p l) A2 n c2 w3 HV3.out hn (fun v hv => HZ.out _ (vs_mem hv).1))
      go_wp2_with fail
      refine HR.out.mono ?_
      rintro e w4 ⟨A4, c4, rfl, hO4, hb4⟩
      have H4 := Lib.hid (H3.out.callee hb4)
      have HV4 := Lib.hid (HV3.out.next hb4)
      obtain ⟨m, hm⟩ : ∃ m, (pick (fun v => (v.got, poor v)) (vs p l)).length = m := ⟨_, rfl⟩
      rw [hm] at hO4 ⊢
      have HO4 := Lib.hid hO4
      have HM : Hid ((poors (vs p l)).length = m) := hm
      clear hO4 hb4 HR H3 HV3 hm
      have k37 : w4.cell? ⟨g, 37, none⟩ = some (.int .i64 (loopP p l).naks) := H4.out.hp.c 37
      have f37 := H4.out.hp.f 37
      by_cases hr : poors (vs p l) = []
      · have hm0 : m = 0 := by rw [← HM.out, hr]; rfl
        subst hm0
        have HC := Lib.hid (ack_of Hr.out hr)
        clear hr HM HO4 HV4
        have H5 : Hid (Jd w (w4.setCell ⟨g, 37, none⟩ (.int .i64 0)) g { loopP p l with naks := 0 } A n l) := H4.out.turn (set_moves _ _ _ _) (H4.out.hp.setNaks 0)
        have HG := Lib.hid (get_row l A n c _ (H5.out.ho.more H5.out.hm.size) hn)
        go_wp2_with fail
        refine HG.out.mono ?_
        rintro e w5 ⟨A5, c5, rfl, _, hb5⟩
        have H6 := Lib.hid (H5.out.callee hb5)
        clear hb5 HG H5 H4 k37 f37
        obtain ⟨x, hx⟩ : ∃ x, Lco.gL l = x := ⟨_, rfl⟩
        rw [hx]
        have HX := Lib.hid hx
        clear hx
        generalize (gO l).length = n1
        generalize gE l = e1
        obtain ⟨p28, p29, p30, p31, p32, p33, p34, p35, p36, q28, q29, q30, q31, q32, q33, q34, q35, q36⟩ := H6.out.hp.peers
        obtain ⟨V, hV⟩ : ∃ V, w5.setCells g 28 (lv x) = V := ⟨_, rfl⟩
        have H7 : Hid (Jd w V g { loopP p l with naks := 0, peer := x } A n l) := by show Jd _ _ _ _ _ _ _; rw [← hV]; exact H6.out.turn (sets_moves _ _ _ _) (H6.out.hp.setPeer x)
        simp only [World.setCells, lv] at hV
        unfold lv
        have HK := Lib.hid (clone_any l A n c V (H7.out.ho.more H7.out.hm.size) hA hn)
        clear H6
        go_wp2_with fail
        refine HK.out.mono ?_
        rintro e w6 ⟨A6, c6, rfl, hO6, _, hb6⟩
        have H8 := Lib.hid (H7.out.callee hb6)
        have HO6 := Lib.hid hO6
        clear hO6 hb6 HK H7 hV p28 p29 p30 p31 p32 p33 p34 p35 p36 q28 q29 q30 q31 q32 q33 q34 q35 q36
        go_wp2
        go_ret2
        exact judQ_of (C := 2) H8.out HO6.out HC.out.1 HC.out.2.1 (by rw [HC.out.2.2, HX.out])
      · have hm0 : 0 < m := by rw [← HM.out]; exact List.length_pos_iff.2 hr
        have hm1 : (0 : Int) < (m : Int) := by omega
        have hm2 := decide_eq_true hm1
        rw [loop_naks] at k37
        have k18 : w4.cell? ⟨g, 18, none⟩ = some (.int .i64 (loopP p l).c.mn) := H4.out.hp.c 18
        rw [loop_c] at k18
        by_cases hx : (p.naks : Int) = p.c.mn
        · have hx1 : ((p.naks : Int) == p.c.mn) = true := by rw [beq_iff_eq]; exact hx
          have HC := Lib.hid (rej_of Hr.out hr hx)
          clear hm0 hr hx
          go_wp2_with fail
          go_quiet (fail)
          have H5 : Hid (Jd w (w4.drewN nq) g (loopP p l) A n l) := H4.out.drewN nq
          have HO5 : Hid (Opts (w4.drewN nq) (w4.drewN nq).heap.size A4 m (poors (vs p l))) := HO4.out
          generalize w4.drewN nq = w5 at *
          go_wp2_with fail
          refine (rejects_any g (loopP p l) _ w5 H5.out.hp).mono ?_
          rintro e w6 ⟨rfl, rfl⟩
          have H6 : Hid (Jd w (w5.setCell ⟨g, 37, none⟩ (.int .i64 0)) g { loopP p l with naks := 0 } A n l) := H5.out.turn (set_moves _ _ _ _) (H5.out.hp.setNaks 0)
          have HO6 : Hid (Opts (w5.setCell ⟨g, 37, none⟩ (.int .i64 0)) (w5.setCell ⟨g, 37, none⟩ (.int .i64 0)).heap.size A4 m (poors (vs p l))) := (opts_past HO5.out H5.out.hp (pv_no _) (set_moves _ _ _ _) (Nat.le_refl _)).more (set_moves w5 g 37 _).size
          clear H4 k37 k18 f37
          go_wp2
          go_ret2
          exact judQ_of (C := 4) H6.out HO6.out HC.out.1 HC.out.2.1 HC.out.2.2
        · have hx1 : ((p.naks : Int) == p.c.mn) = false := by rw [beq_eq_false_iff_ne]; exact hx
          have HC := Lib.hid (nak_of Hr.out hr hx)
          clear hm0 hr hx
          go_wp2_with fail
          go_quiet (fail)
          have H5 : Hid (Jd w (w4.drewN nq) g (loopP p l) A n l) := H4.out.drewN nq
          have HV5 : Hid (Vers (w4.drewN nq) (w4.drewN nq).heap.size A2 n (vs p l)) := HV4.out
          have k37 : (w4.drewN nq).cell? ⟨g, 37, none⟩ = some (.int .i64 p.naks) := k37
          have f37 : (w4.drewN nq).frozen? ⟨g, 37, none⟩ = false := f37
          generalize w4.drewN nq = w5 at *
          obtain ⟨V, hV⟩ : ∃ V, w5.setCell ⟨g, 37, none⟩ (.int .i64 ((p.naks : Int) + 1)) = V := ⟨_, rfl⟩
          have hmv : Moves (fun k => k = g) w5 V := by rw [← hV]; exact set_moves _ _ _ _
          have H6 : Hid (Jd w V g { loopP p l with naks := p.naks + 1 } A n l) := H5.out.turn hmv (by rw [← hV]; exact H5.out.hp.setNaks (p.naks + 1))
          have HV6 : Hid (Vers V V.heap.size A2 n (vs p l)) := (vers_past HV5.out H5.out.hp (pv_no _) hmv (Nat.le_refl _)).more hmv.size
          have HR := Lib.hid (row_any 152 (fun v => (v.bet, poor v)) (fun v w => instead_any v w) (enters_of Tryz.func152 (by kernel_rfl) rfl) (vs p l) A2 n c2 V HV6.out hn (fun v hv => Nat.le_trans (vs_mem hv).2 (by omega)))
          clear hmv H4 HO4 HV4 H5 HV5
          go_wp2_with fail
          refine HR.out.mono ?_
          rintro e w6 ⟨A6, c6, rfl, hO6, hb6⟩
          have H7 := Lib.hid (H6.out.callee hb6)
          have HO7 := Lib.hid hO6
          clear hO6 hb6 HR
          go_wp2
          go_ret2
          exact judQ_of (C := 3) H7.out HO7.out HC.out.1 HC.out.2.1 HC.out.2.2
    · have hm0 : 0 < m := by rw [← HM.out]; exact List.length_pos_iff.2 hr
      have hm1 : (0 : Int) < (m : Int) := by omega
      have hm2 := decide_eq_true hm1
      have HC := Lib.hid (ref_of hr)
      clear hm0 hr
      go_wp2_with fail
      refine (rejects_any g (loopP p l) _ w3 H3.out.hp).mono ?_
      rintro e w6 ⟨rfl, rfl⟩
      have H6 : Hid (Jd w (w3.setCell ⟨g, 37, none⟩ (.int .i64 0)) g { loopP p l with naks := 0 } A n l) := H3.out.turn (set_moves _ _ _ _) (H3.out.hp.setNaks 0)
      have HO6 : Hid (Opts (w3.setCell ⟨g, 37, none⟩ (.int .i64 0)) (w3.setCell ⟨g, 37, none⟩ (.int .i64 0)).heap.size A3 m (refs (vs p l))) := (opts_past HO3.out H3.out.hp (pv_no _) (set_moves _ _ _ _) (Nat.le_refl _)).more (set_moves w3 g 37 _).size
      go_wp2
      go_ret2
      exact judQ_of (C := 4) H6.out HO6.out HC.out.1 HC.out.2.1 HC.out.2.2
  · have c38 : w1.cell? ⟨g, 38, none⟩ = some (.int .i64 p.loops) := H1.out.hp.c 38
    have f38 := H1.out.hp.f 38
    obtain ⟨W, hW⟩ : ∃ W, w1.setCell ⟨g, 38, none⟩ (.int .i64 ((p.loops : Int) + 1)) = W := ⟨_, rfl⟩
    have HQ : Hid (Jd w W g (loopP p l) A n l) := by
      show Jd _ _ _ _ _ _ _
      rw [show loopP p l = { p with loops := p.loops + 1 } from by unfold loopP; rw [ho]; rfl, ← hW]
      exact H1.out.turn (set_moves _ _ _ _) (H1.out.hp.setLoops (p.loops + 1))
    clear H1 ho
    have HE := Lib.hid (evaluate_any g (loopP p l) l A n c W HQ.out.hp (HQ.out.ho.more HQ.out.hm.size) hn)
    go_wp2_with fail
    refine HE.out.mono ?_
    rintro e w2 ⟨A2, c2, rfl, hv2, hb2⟩
    rw [vs_loop] at hv2
    have H2 := Lib.hid (HQ.out.callee hb2)
    have HV2 := Lib.hid hv2
    clear hv2 hb2 HE HQ hW
    have HR := Lib.hid (row_any 149 (fun v => (v.got, v.rej)) (fun v w => refused_any v w) (enters_of Tryz.func149 (by kernel_rfl) rfl) (vs p l) A2 n c2 w2 HV2.out hn (fun v hv => HZ.out _ (vs_mem hv).1))
    go_wp2_with fail
    refine HR.out.mono ?_
    rintro e w3 ⟨A3, c3, rfl, hO3, hb3⟩
    have H3 := Lib.hid (H2.out.callee hb3)
    have HV3 := Lib.hid (HV2.out.next hb3)
    obtain ⟨m, hm⟩ : ∃ m, (pick (fun v => (v.got, v.rej)) (vs p l)).length = m := ⟨_, rfl⟩
    rw [hm] at hO3 ⊢
    have HO3 := Lib.hid hO3
    have HM : Hid ((refs (vs p l)).length = m) := hm
    clear hO3 hb3 HR H2 HV2 hm
    by_cases hr : refs (vs p l) = []
    · have hm0 : m = 0 := by rw [← HM.out, hr]; rfl
      subst hm0
      have Hr := Lib.hid hr
      clear hr HM HO3
      have HR := Lib.hid (row_any 151 (fun v => (v.got, poor v)) (fun v w => poor_any v w) (enters_of Tryz.func151 (by kernel_rfl) rfl) (vs p l) A2 n c2 w3 HV3.out hn (fun v hv => HZ.out _ (vs_mem hv).1))
      go_wp2_with fail
      refine HR.out.mono ?_
      rintro e w4 ⟨A4, c4, rfl, hO4, hb4⟩
      have H4 := Lib.hid (H3.out.callee hb4)
      have HV4 := Lib.hid (HV3.out.next hb4)
      obtain ⟨m, hm⟩ : ∃ m, (pick (fun v => (v.got, poor v)) (vs p l)).length = m := ⟨_, rfl⟩
      rw [hm] at hO4 ⊢
      have HO4 := Lib.hid hO4
      have HM : Hid ((poors (vs p l)).length = m) := hm
      clear hO4 hb4 HR H3 HV3 hm
      have k37 : w4.cell? ⟨g, 37, none⟩ = some (.int .i64 (loopP p l).naks) := H4.out.hp.c 37
      have f37 := H4.out.hp.f 37
      by_cases hr : poors (vs p l) = []
      · have hm0 : m = 0 := by rw [← HM.out, hr]; rfl
        subst hm0
        have HC := Lib.hid (ack_of Hr.out hr)
        clear hr HM HO4 HV4
        have H5 : Hid (Jd w (w4.setCell ⟨g, 37, none⟩ (.int .i64 0)) g { loopP p l with naks := 0 } A n l) := H4.out.turn (set_moves _ _ _ _) (H4.out.hp.setNaks 0)
        have HG := Lib.hid (get_row l A n c _ (H5.out.ho.more H5.out.hm.size) hn)
        go_wp2_with fail
        refine HG.out.mono ?_
        rintro e w5 ⟨A5, c5, rfl, _, hb5⟩
        have H6 := Lib.hid (H5.out.callee hb5)
        clear hb5 HG H5 H4 k37 f37
        obtain ⟨x, hx⟩ : ∃ x, Lco.gL l = x := ⟨_, rfl⟩
        rw [hx]
        have HX := Lib.hid hx
        clear hx
        generalize (gO l).length = n1
        generalize gE l = e1
        obtain ⟨p28, p29, p30, p31, p32, p33, p34, p35, p36, q28, q29, q30, q31, q32, q33, q34, q35, q36⟩ := H6.out.hp.peers
        obtain ⟨V, hV⟩ : ∃ V, w5.setCells g 28 (lv x) = V := ⟨_, rfl⟩
        have H7 : Hid (Jd w V g { loopP p l with naks := 0, peer := x } A n l) := by show Jd _ _ _ _ _ _ _; rw [← hV]; exact H6.out.turn (sets_moves _ _ _ _) (H6.out.hp.setPeer x)
        simp only [World.setCells, lv] at hV
        unfold lv
        have HK := Lib.hid (clone_any l A n c V (H7.out.ho.more H7.out.hm.size) hA hn)
        clear H6
        go_wp2_with fail
        refine HK.out.mono ?_
        rintro e w6 ⟨A6, c6, rfl, hO6, _, hb6⟩
        have H8 := Lib.hid (H7.out.callee hb6)
        have HO6 := Lib.hid hO6
        clear hO6 hb6 HK H7 hV p28 p29 p30 p31 p32 p33 p34 p35 p36 q28 q29 q30 q31 q32 q33 q34 q35 q36
        go_wp2
        go_ret2
        exact judQ_of (C := 2) H8.out HO6.out HC.out.1 HC.out.2.1 (by rw [HC.out.2.2, HX.out])
      · have hm0 : 0 < m := by rw [← HM.out]; exact List.length_pos_iff.2 hr
        have hm1 : (0 : Int) < (m : Int) := by omega
        have hm2 := decide_eq_true hm1
        rw [loop_naks] at k37
        have k18 : w4.cell? ⟨g, 18, none⟩ = some (.int .i64 (loopP p l).c.mn) := H4.out.hp.c 18
        rw [loop_c] at k18
        by_cases hx : (p.naks : Int) = p.c.mn
        · have hx1 : ((p.naks : Int) == p.c.mn) = true := by rw [beq_iff_eq]; exact hx
          have HC := Lib.hid (rej_of Hr.out hr hx)
          clear hm0 hr hx
          go_wp2_with fail
          go_quiet (fail)
          have H5 : Hid (Jd w (w4.drewN nq) g (loopP p l) A n l) := H4.out.drewN nq
          have HO5 : Hid (Opts (w4.drewN nq) (w4.drewN nq).heap.size A4 m (poors (vs p l))) := HO4.out
          generalize w4.drewN nq = w5 at *
          go_wp2_with fail
          refine (rejects_any g (loopP p l) _ w5 H5.out.hp).mono ?_
          rintro e w6 ⟨rfl, rfl⟩
          have H6 : Hid (Jd w (w5.setCell ⟨g, 37, none⟩ (.int .i64 0)) g { loopP p l with naks := 0 } A n l) := H5.out.turn (set_moves _ _ _ _) (H5.out.hp.setNaks 0)
          have HO6 : Hid (Opts (w5.setCell ⟨g, 37, none⟩ (.int .i64 0)) (w5.setCell ⟨g, 37, none⟩ (.int .i64 0)).heap.size A4 m (poors (vs p l))) := (opts_past HO5.out H5.out.hp (pv_no _) (set_moves _ _ _ _) (Nat.le_refl _)).more (set_moves w5 g 37 _).size
          clear H4 k37 k18 f37
          go_wp2
          go_ret2
          exact judQ_of (C := 4) H6.out HO6.out HC.out.1 HC.out.2.1 HC.out.2.2
        · have hx1 : ((p.naks : Int) == p.c.mn) = false := by rw [beq_eq_false_iff_ne]; exact hx
          have HC := Lib.hid (nak_of Hr.out hr hx)
          clear hm0 hr hx
          go_wp2_with fail
          go_quiet (fail)
          have H5 : Hid (Jd w (w4.drewN nq) g (loopP p l) A n l) := H4.out.drewN nq
          have HV5 : Hid (Vers (w4.drewN nq) (w4.drewN nq).heap.size A2 n (vs p l)) := HV4.out
          have k37 : (w4.drewN nq).cell? ⟨g, 37, none⟩ = some (.int .i64 p.naks) := k37
          have f37 : (w4.drewN nq).frozen? ⟨g, 37, none⟩ = false := f37
          generalize w4.drewN nq = w5 at *
          obtain ⟨V, hV⟩ : ∃ V, w5.setCell ⟨g, 37, none⟩ (.int .i64 ((p.naks : Int) + 1)) = V := ⟨_, rfl⟩
          have hmv : Moves (fun k => k = g) w5 V := by rw [← hV]; exact set_moves _ _ _ _
          have H6 : Hid (Jd w V g { loopP p l with naks := p.naks + 1 } A n l) := H5.out.turn hmv (by rw [← hV]; exact H5.out.hp.setNaks (p.naks + 1))
          have HV6 : Hid (Vers V V.heap.size A2 n (vs p l)) := (vers_past HV5.out H5.out.hp (pv_no _) hmv (Nat.le_refl _)).more hmv.size
          have HR := Lib.hid (row_any 152 (fun v => (v.bet, poor v)) (fun v w => instead_any v w) (enters_of Tryz.func152 (by kernel_rfl) rfl) (vs p l) A2 n c2 V HV6.out hn (fun v hv => Nat.le_trans (vs_mem hv).2 (by omega)))
          clear hmv H4 HO4 HV4 H5 HV5
          go_wp2_with fail
          refine HR.out.mono ?_
          rintro e w6 ⟨A6, c6, rfl, hO6, hb6⟩
          have H7 := Lib.hid (H6.out.callee hb6)
          have HO7 := Lib.hid hO6
          clear hO6 hb6 HR
          go_wp2
          go_ret2
          exact judQ_of (C := 3) H7.out HO7.out HC.out.1 HC.out.2.1 HC.out.2.2
    · have hm0 : 0 < m := by rw [← HM.out]; exact List.length_pos_iff.2 hr
      have hm1 : (0 : Int) < (m : Int) := by omega
      have hm2 := decide_eq_true hm1
      have HC := Lib.hid (ref_of hr)
      clear hm0 hr
      go_wp2_with fail
      refine (rejects_any g (loopP p l) _ w3 H3.out.hp).mono ?_
      rintro e w6 ⟨rfl, rfl⟩
      have H6 : Hid (Jd w (w3.setCell ⟨g, 37, none⟩ (.int .i64 0)) g { loopP p l with naks := 0 } A n l) := H3.out.turn (set_moves _ _ _ _) (H3.out.hp.setNaks 0)
      have HO6 : Hid (Opts (w3.setCell ⟨g, 37, none⟩ (.int .i64 0)) (w3.setCell ⟨g, 37, none⟩ (.int .i64 0)).heap.size A3 m (refs (vs p l))) := (opts_past HO3.out H3.out.hp (pv_no _) (set_moves _ _ _ _) (Nat.le_refl _)).more (set_moves w3 g 37 _).size
      go_wp2
      go_ret2
      exact judQ_of (C := 4) H6.out HO6.out HC.out.1 HC.out.2.1 HC.out.2.2
end Go.Proofs.YtikcgcgbcolndaaGreat.Pol
