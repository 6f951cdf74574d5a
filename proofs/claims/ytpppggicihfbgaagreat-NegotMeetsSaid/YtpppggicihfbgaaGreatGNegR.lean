/- Put together: NegR, NegS, NegT. -/
import Derived.Test.YtpppggicihfbgaaGreatGNegF
import Derived.Test.YtpppggicihfbgaaGreatGOptF

/- What a side does with its policy besides: a request that is judged, a reply that is taken. -/
namespace Go.Proofs.YtpppggicihfbgaaGreat.Neg
open Go.RowKit Go.Proofs.YtpppggicihfbgaaGreat.Oct Go.Proofs.YtpppggicihfbgaaGreat.Row Go.Proofs.YtpppggicihfbgaaGreat.Mem Go.Proofs.YtpppggicihfbgaaGreat.Opt Go.Proofs.YtpppggicihfbgaaGreat.Fsm
open Go.Proofs.YtpppggicihfbgaaGreat.Aut (Au Aut Inv evA evE evX state_any)

def TkQ (K : Kd) (q : Nat) (b : Bool) (p : K.α) (w : World) (e : Ending) (w' : World) : Prop := e = .returned (.bool b) ∧ K.At w' q p ∧ Moves (fun k => k = q) w w'
structure Kr (K : Kd) where
  plain : ∀ {w q p}, K.At w q p → ∀ i s, w.cell? ⟨q, i, none⟩ ≠ some (.string s)
  okJ : K.α → Prop
  jC : K.α → List Opt → Nat
  jA : K.α → List Opt → List Opt
  jP : K.α → List Opt → K.α
  jlt : ∀ p l, jC p l < 256
  jlen : ∀ p l, l.length ≤ 64 → (jA p l).length ≤ maxLen
  jok : ∀ p l, K.ok p → K.ok (jP p l)
  fJudge : FuncId
  eJudge : ∀ args w, (callFunc fJudge args).run Tryz.prog w = .ok (.enter fJudge args) w
  mJudge : ∀ k, k = Tryz.prog.types.size + Made.depth → ∀ q w, (method k K.ty (.agg #[ptr q]) "Judge").run Tryz.prog w = .ok (fJudge, ptr q) w
  cJudge : ∀ q p w (l : List Opt) A c, K.At w q p → K.ok p → okJ p → Opts w w.heap.size A l.length l → (A = none → c = 0) → l.length ≤ 64 → Calls Tryz.prog fJudge #[ptr q, .slice A l.length c] w fun e w' =>
    ∃ B d, e = .returned (.tuple #[.int .u8 (jC p l), .slice B (jA p l).length d]) ∧ Opts w' w'.heap.size B (jA p l).length (jA p l) ∧ K.At w' q (jP p l) ∧ Moves (fun k => k = q) w w'
  fTwin : FuncId
  eTwin : ∀ args w, (callFunc fTwin args).run Tryz.prog w = .ok (.enter fTwin args) w
  mTwin : ∀ k, k = Tryz.prog.types.size + Made.depth → ∀ q w, (method k K.ty (.agg #[ptr q]) "halyard/negot.twin").run Tryz.prog w = .ok (fTwin, .agg #[ptr q]) w
  cTwin : ∀ q p w, K.At w q p → Calls Tryz.prog fTwin #[.agg #[ptr q]] w fun e w' => ∃ q', e = .returned (.iface K.ty (.agg #[.pointer (some ⟨q', 0, none⟩)])) ∧ w.heap.size ≤ q' ∧ K.At w' q' p ∧ Below w.heap.size w w'

theorem ans_of {K : Kd} (R : Kr K) {w : World} {g a q n : Nat} {A : Option Addr} {l : List Opt} {s : Sd K} (h : SAt K w g a q s) (ho : Opts w w.heap.size A n l) (hn : n ≤ maxLen) : Ans w g a q A n l := by
  refine ⟨ho, hn, fun ad e h0 hm => ?_⟩
  obtain ⟨ad', e', _, hc⟩ := ho.2.2 h0
  rw [e] at e'
  cases e'
  have hl : 0 < l.length := by rw [ho.1]; exact h0
  have h1 := (hc 0 hl).2
  have h2 : (ad.add (0 * 2)).block = ad.block := Oct.block_add _ _
  rw [h2] at h1
  rcases hm with e1 | e1 | e1
  · rw [e1] at h1
    have h3 := h.c ((ad.add (0 * 2)).off + 1)
    rw [h1] at h3
    have h4 : ∀ v ∈ sv K a q s, ∀ t, v ≠ .string t := by
      intro v hv t
      simp only [sv, List.mem_cons, List.not_mem_nil, or_false] at hv
      rcases hv with rfl | rfl | rfl | rfl | rfl | rfl | rfl <;> (intro e; cases e)
    exact h4 _ (List.mem_of_getElem? h3.symm) _ rfl
  · rw [e1] at h1
    have h3 := h.2.1.c ((ad.add (0 * 2)).off + 1)
    rw [h1] at h3
    have h4 : ∀ v ∈ Aut.av s.x, ∀ t, v ≠ .string t := by
      intro v hv t
      simp only [Aut.av, List.mem_cons, List.not_mem_nil, or_false] at hv
      rcases hv with rfl | rfl | rfl | rfl | rfl | rfl <;> (intro e; cases e)
    exact h4 _ (List.mem_of_getElem? h3.symm) _ rfl
  · rw [e1] at h1
    exact R.plain h.2.2.1 _ _ h1
end Go.Proofs.YtpppggicihfbgaaGreat.Neg

/- A Configure-Request that is received. Written by gen/neg_s.py. -/
namespace Go.Proofs.YtpppggicihfbgaaGreat.Neg
open Go.RowKit Go.Proofs.YtpppggicihfbgaaGreat.Oct Go.Proofs.YtpppggicihfbgaaGreat.Row Go.Proofs.YtpppggicihfbgaaGreat.Mem Go.Proofs.YtpppggicihfbgaaGreat.Opt Go.Proofs.YtpppggicihfbgaaGreat.Fsm
open Go.Proofs.YtpppggicihfbgaaGreat.Aut (Au Aut Inv evA evE evX state_any)

theorem in_set {W : World} {b : Nat} {i : In} {A : Option Addr} {n c : Nat} (h : Blk W b (inC i A n c) 88) (code : Nat) (l : List Opt) (B : Option Addr) (m d : Nat) :
    Blk ((W.setCell ⟨b, 4, none⟩ (.int .u8 code)).setCell ⟨b, 5, none⟩ (.slice B m d)) b (inC { i with code := code, ans := l } B m d) 88 ∧ Moves (fun k => k = b) W ((W.setCell ⟨b, 4, none⟩ (.int .u8 code)).setCell ⟨b, 5, none⟩ (.slice B m d)) :=
  ⟨(h.set 4 (.int .u8 code)).set 5 (.slice B m d), (set1_moves W b 4 _).trans (set1_moves _ b 5 _) fun _ _ x => x⟩
def GtQ (L : List Opt) (E : Int) (w : World) (e : Ending) (w' : World) : Prop := ∃ (B : Option Addr) (d N : Nat), e = .returned (.tuple #[.slice B L.length d, .int .i64 N, .int .i64 E]) ∧ Opts w' w'.heap.size B L.length L ∧ (B = none → d = 0) ∧ Below w.heap.size w w'
theorem get_at (s : ByteArray) (E : Nat) (w : World) (h : gE s.toList = E) : Calls Tryz.prog 65 #[.string s] w (GtQ (gL s.toList) E w) :=
  (get_r s w).mono fun e w' ⟨A, c, h1, h2, h3, h4⟩ => ⟨A, c, gN s.toList, by rw [h1, h], h2, h3, h4⟩
theorem opts_in {w : World} {b : Nat} {i : In} {A0 : Option Addr} {n0 c0 : Nat} (hb : Blk w b (inC i A0 n0 c0) 88) {B : Nat} {A : Option Addr} {n : Nat} {l : List Opt} (h : Opts w B A n l) (code : Nat) (l2 : List Opt) (B2 : Option Addr) (m d : Nat) :
    Opts ((w.setCell ⟨b, 4, none⟩ (.int .u8 code)).setCell ⟨b, 5, none⟩ (.slice B2 m d)) B A n l := by
  have hs := in_set hb code l2 B2 m d
  refine ⟨h.1, h.2.1, fun hn => ?_⟩
  obtain ⟨ad, e, hlt, hc⟩ := h.2.2 hn
  refine ⟨ad, e, hlt, fun j hj => ?_⟩
  obtain ⟨c1, c2⟩ := hc j hj
  generalize ad.add (j * 2) = x at *
  by_cases hq : x.block = b
  · have h2 : (inC i A0 n0 c0)[x.off + 1]? = some (.string l[j].2) := by
      rw [← hb.at_ (x.off + 1), ← hq]
      exact c2
    obtain ⟨xb, xo, xs⟩ := x
    simp only at hq h2 c1 c2 ⊢
    subst hq
    have ho : xo = 2 := by
      match xo, h2 with
      | 0, h2 => cases h2
      | 1, h2 => cases h2
      | 2, _ => rfl
      | 3, h2 => cases h2
      | 4, h2 => cases h2
      | k + 5, h2 => cases h2
    subst ho
    have hsp : xs = none := by
      cases xs with
      | none => rfl
      | some u =>
        have hb' : w.heap[xb]? = some _ := hb
        simp [World.cell?, hb'] at c1
    subst hsp
    exact ⟨(hs.1.at_ 2).trans ((hb.at_ 2).symm.trans c1), (hs.1.at_ 3).trans ((hb.at_ 3).symm.trans c2)⟩
  · exact ⟨(hs.2.cell (World.block_lt_of_cell? w _ c1) hq).trans c1, (hs.2.cell (p := ⟨x.block, x.off + 1, none⟩) (World.block_lt_of_cell? w _ c2) hq).trans c2⟩
def jSd {K : Kd} (R : Kr K) (d : UInt32) (l : List Opt) (s : Sd K) : Sd K := { ren 6 d s with p := R.jP (ren 6 d s).p l }
def jIn {K : Kd} (R : Kr K) (i : In) (d : UInt32) (l : List Opt) (s : Sd K) : In := { i with code := R.jC (ren 6 d s).p l, ans := R.jA (ren 6 d s).p l }
def jEv (c : Nat) : Nat := if c = 2 then 6 else 7
set_option maxHeartbeats 8000000 in
set_option maxRecDepth 100000 in
theorem req_judged (K : Kd) (R : Kr K) (g a q : Nat) (s : Sd K) (i : In) (d : UInt32) (hd : i.draw = d.toNat) (A : Option Addr) (n c : Nat) (w : World) (h : SAt K w g a q s) (hok : Ok s) (hE : gE i.p.d.toList = 0) (h2 : s.x.s ≠ 2) (h4 : s.x.s ≠ 4) (h5 : s.x.s ≠ 5) (hJ : R.okJ (ren 6 d s).p)
    (he : ∀ ev, ev = 6 ∨ ev = 7 → evE s.x ev = 0 ∧ has (evA s.x ev) 4096 = false) (ev : Nat) (hv : ev = jEv (R.jC (ren 6 d s).p (gL i.p.d.toList))) :
    Calls Tryz.prog 46 #[.pointer (some ⟨g, 0, none⟩), .agg #[.int .u32 i.draw, .int .u8 i.p.c.toNat, .int .u8 i.p.i.toNat, .string i.p.d, .int .u8 i.code, .slice A n c]] w (OutQ K g a q (fol (jIn R i d (gL i.p.d.toList) s) ev (jSd R d (gL i.p.d.toList) s)).1 (fol (jIn R i d (gL i.p.d.toList) s) ev (jSd R d (gL i.p.d.toList) s)).2 (told (evA s.x ev)) 0 false w) := by
  obtain ⟨W, hW, HW⟩ := box_io w i A n c
  have HG := Lib.hid h.old
  have H := Lib.hid (h.callee HW.out.2.2)
  have M : Hid (Moves (My g a q) w W) := Moves.of_below HW.out.2.2
  have HI := Lib.hid HW.out.1
  have HZ := Lib.hid HW.out.2.1
  have HGt : Hid (Calls Tryz.prog 65 #[.string i.p.d] W (GtQ (gL i.p.d.toList) 0 W)) := get_at i.p.d 0 W hE
  have d0 : W.cell? ⟨w.heap.size, 0, none⟩ = some (.int .u32 i.draw) := HI.out.at_ 0
  have d1 : W.cell? ⟨w.heap.size, 1, none⟩ = some (.int .u8 i.p.c.toNat) := HI.out.at_ 1
  have d2 : W.cell? ⟨w.heap.size, 2, none⟩ = some (.int .u8 i.p.i.toNat) := HI.out.at_ 2
  have d3 : W.cell? ⟨w.heap.size, 3, none⟩ = some (.string i.p.d) := HI.out.at_ 3
  have d4 : W.cell? ⟨w.heap.size, 4, none⟩ = some (.int .u8 i.code) := HI.out.at_ 4
  have d5 : W.cell? ⟨w.heap.size, 5, none⟩ = some (.slice A n c) := HI.out.at_ 5
  have HS : Hid (∀ w, Aut w a s.x → Calls Tryz.prog 31 #[.pointer (some ⟨a, 0, none⟩)] w fun e w' => e = .returned (.int .u8 s.x.s) ∧ w = w') := fun w h => state_any a s.x w h
  have HRn : Hid (∀ W, SAt K W g a q s → Calls Tryz.prog 25 #[.pointer (some ⟨g, 0, none⟩), .int .u8 6, .int .u32 i.draw] W (RenQ K g a q (ren 6 d s) W)) := fun W h => by rw [hd]; exact renew_any K g a q s 6 d W h hok
  have n2 : ((s.x.s : Int) == 2) = false := by rw [beq_eq_false_iff_ne]; omega
  have n4 : ((s.x.s : Int) == 4) = false := by rw [beq_eq_false_iff_ne]; omega
  have n5 : ((s.x.s : Int) == 5) = false := by rw [beq_eq_false_iff_ne]; omega
  have Hl := Lib.hid (gL_le i.p.d.toList)
  have hx := ren_x 6 d s
  have hk := ren_ok 6 d hok
  have HKp := Lib.hid hk.pol
  have HJk := Lib.hid hJ
  have HM := Lib.hid R.mJudge
  have HEj := R.eJudge
  have HCj := Lib.hid R.cJudge
  have hjlt := R.jlt (ren 6 d s).p (gL i.p.d.toList)
  have HF : Hid (∀ W B d', SAt K W g a q (jSd R d (gL i.p.d.toList) s) → Ans W g a q B (R.jA (ren 6 d s).p (gL i.p.d.toList)).length (R.jA (ren 6 d s).p (gL i.p.d.toList)) →
      Calls Tryz.prog 37 #[.pointer (some ⟨g, 0, none⟩), .int .u8 ev, .agg #[.int .u32 i.draw, .int .u8 i.p.c.toNat, .int .u8 i.p.i.toNat, .string i.p.d, .int .u8 (R.jC (ren 6 d s).p (gL i.p.d.toList)), .slice B (R.jA (ren 6 d s).p (gL i.p.d.toList)).length d']] W
      (OutQ K g a q (fol (jIn R i d (gL i.p.d.toList) s) ev (jSd R d (gL i.p.d.toList) s)).1 (fol (jIn R i d (gL i.p.d.toList) s) ev (jSd R d (gL i.p.d.toList) s)).2 (told (evA s.x ev)) 0 false W)) := by
    intro W B d' h1 h3
    have hev : ev = 6 ∨ ev = 7 := by rw [hv]; unfold jEv; split <;> simp
    obtain ⟨he1, he2⟩ := he ev hev
    have hx' : (jSd R d (gL i.p.d.toList) s).x = s.x := hx
    have hok' : Ok ({ jSd R d (gL i.p.d.toList) s with x := evX (jSd R d (gL i.p.d.toList) s).x ev } : Sd K) :=
      ⟨by show Inv (evX (jSd R d (gL i.p.d.toList) s).x ev); rw [hx']; exact evX_inv hok.inv ev, R.jok _ _ hk.pol, hk.m0, hk.m1, hk.c, hk.l⟩
    have hf := follow_any K g a q (jSd R d (gL i.p.d.toList) s) ev (jIn R i d (gL i.p.d.toList) s) B _ d' W h1 (by rw [hx']; exact hok.inv) h3 (by rw [hx']; exact he1) (does_no (by rw [hx']; exact he2) hok' hjlt)
    rw [hx'] at hf
    exact hf
  have Hjn := Lib.hid (R.jlen (ren 6 d s).p (gL i.p.d.toList) Hl.out)
  have Hev : Hid ((ev = 6 ∧ ((R.jC (ren 6 d s).p (gL i.p.d.toList) : Int) == 2) = true) ∨ (ev = 7 ∧ ((R.jC (ren 6 d s).p (gL i.p.d.toList) : Int) == 2) = false)) := by
    show _ ∨ _
    rw [hv]
    unfold jEv
    by_cases hc2 : R.jC (ren 6 d s).p (gL i.p.d.toList) = 2
    · exact .inl ⟨if_pos hc2, by rw [hc2]; rfl⟩
    · exact .inr ⟨if_neg hc2, by rw [beq_eq_false_iff_ne]; omega⟩
  have HSd : Hid (jSd R d (gL i.p.d.toList) s = { ren 6 d s with p := R.jP (ren 6 d s).p (gL i.p.d.toList) }) := rfl
  clear h HW hok hE h2 h4 h5 hJ he hv hx hk hjlt hd
  generalize told (evA s.x ev) = T at *
  generalize fol (jIn R i d (gL i.p.d.toList) s) ev (jSd R d (gL i.p.d.toList) s) = r at *
  obtain ⟨s', l⟩ := r
  simp only at HF ⊢
  generalize jSd R d (gL i.p.d.toList) s = sj at *
  generalize ren 6 d s = s1 at *
  generalize gL i.p.d.toList = L at *
  unfold ptr at *
  go_enter Tryz.func46, Tryz.ntmps46
  go_wp2_with fail
  refine HGt.out.mono ?_
  rintro e w1 ⟨B, db, N, rfl, hO, hB0, hb1⟩
  have H1 := Lib.hid (H.out.callee hb1)
  have M1 := Lib.hid (M.out.trans (Moves.of_below (S := My g a q) hb1) fun _ _ x => x)
  have HZ1 := Lib.hid (HZ.out.callee hb1)
  have HI1 := Lib.hid (HI.out.callee hb1)
  have HA1 := Lib.hid (ans_of R H1.out hO (by have := Hl.out; unfold maxLen; omega))
  have HB0 := Lib.hid hB0
  clear hO hB0 hb1 d0 d1 d2 d3 d4 d5 HGt HI HZ H M
  have c0 : w1.cell? ⟨g, 0, none⟩ = some (.pointer (some ⟨a, 0, none⟩)) := H1.out.c 0
  have d0 : w1.cell? ⟨w.heap.size, 0, none⟩ = some (.int .u32 i.draw) := HI1.out.at_ 0
  go_wp2_with fail
  refine (HS.out _ H1.out.2.1).mono ?_
  rintro e w2 ⟨rfl, rfl⟩
  go_wp2_with fail
  refine (HRn.out _ H1.out).mono ?_
  rintro e w3 ⟨rfl, hs3, hm3⟩
  have no : Hid (∀ k, w.heap.size ≤ k → ¬ My g a q k) := fun k hk e => by have := HG.out k e; omega
  have H3 := Lib.hid hs3
  have M3 := Lib.hid (M1.out.trans hm3 fun _ _ x => x)
  have HZ3 := Lib.hid (HZ1.out.moves hm3 (no.out _ (Nat.le_succ _)))
  have HI3 := Lib.hid (HI1.out.moves hm3 (no.out _ (Nat.le_refl _)))
  have HA3 := Lib.hid (HA1.out.moves hm3)
  clear hs3 hm3 c0 d0 H1 M1 HZ1 HI1 HA1 HRn HS
  have c2 : w3.cell? ⟨g, 2, none⟩ = some (.iface K.ty (.agg #[.pointer (some ⟨q, 0, none⟩)])) := H3.out.c 2
  go_wp2_with fail
  rw [HM.out _ (by kernel_rfl)]
  go_wp2_with fail
  refine (HCj.out q s1.p w3 L B db H3.out.2.2.1 HKp.out HJk.out HA3.out.1 HB0.out Hl.out).mono ?_
  rintro e w4 ⟨B2, d2, rfl, hO2, hp4, hm4⟩
  have H4 : Hid (SAt K w4 g a q sj) := by rw [HSd.out]; exact H3.out.pol hm4 hp4
  have M4 := Lib.hid (M3.out.trans (my_q hm4) fun _ _ x => x)
  have HZ4 := Lib.hid (HZ3.out.moves (my_q (g := g) (a := a) hm4) (no.out _ (Nat.le_succ _)))
  have HI4 := Lib.hid (HI3.out.moves (my_q (g := g) (a := a) hm4) (no.out _ (Nat.le_refl _)))
  have HA4 := Lib.hid (ans_of R H4.out hO2 Hjn.out)
  clear hO2 hp4 hm4 c2 H3 M3 HZ3 HI3 HA3 HCj HM HEj HKp HJk
  have HIS := Lib.hid (in_set HI4.out (R.jC s1.p L) (R.jA s1.p L) B2 (R.jA s1.p L).length d2)
  have HA5 : Hid (Ans ((w4.setCell ⟨w.heap.size, 4, none⟩ (.int .u8 (R.jC s1.p L))).setCell ⟨w.heap.size, 5, none⟩ (.slice B2 (R.jA s1.p L).length d2)) g a q B2 (R.jA s1.p L).length (R.jA s1.p L)) :=
    ⟨(opts_in HI4.out HA4.out.1 (R.jC s1.p L) (R.jA s1.p L) B2 (R.jA s1.p L).length d2).more HIS.out.2.size, HA4.out.2⟩
  have H5 := Lib.hid (H4.out.moves HIS.out.2 (fun k hk e => by subst e; exact no.out _ (Nat.le_refl _) hk))
  have M5 := Lib.hid (M4.out.trans (T := fun k => k = w.heap.size) HIS.out.2 (fun j hj e => by omega))
  have HZ5 := Lib.hid (HZ4.out.moves HIS.out.2 (by omega))
  have HI5 := Lib.hid HIS.out.1
  have x4 : w4.cell? ⟨w.heap.size, 4, none⟩ = some (.int .u8 i.code) := HI4.out.at_ 4
  have x5 : w4.cell? ⟨w.heap.size, 5, none⟩ = some (.slice A n c) := HI4.out.at_ 5
  have y4 := HI4.out.frozen 4
  have y5 := HI4.out.frozen 5
  generalize R.jA s1.p L = LA at *
  generalize R.jC s1.p L = C at *
  generalize hn2 : LA.length = n2 at *
  clear HIS HA4 H4 M4 HZ4 HI4 HSd
  have u0 : ((w4.setCell ⟨w.heap.size, 4, none⟩ (.int .u8 C)).setCell ⟨w.heap.size, 5, none⟩ (.slice B2 n2 d2)).cell? ⟨w.heap.size, 0, none⟩ = some (.int .u32 i.draw) := HI5.out.at_ 0
  have u1 : ((w4.setCell ⟨w.heap.size, 4, none⟩ (.int .u8 C)).setCell ⟨w.heap.size, 5, none⟩ (.slice B2 n2 d2)).cell? ⟨w.heap.size, 1, none⟩ = some (.int .u8 i.p.c.toNat) := HI5.out.at_ 1
  have u2 : ((w4.setCell ⟨w.heap.size, 4, none⟩ (.int .u8 C)).setCell ⟨w.heap.size, 5, none⟩ (.slice B2 n2 d2)).cell? ⟨w.heap.size, 2, none⟩ = some (.int .u8 i.p.i.toNat) := HI5.out.at_ 2
  have u3 : ((w4.setCell ⟨w.heap.size, 4, none⟩ (.int .u8 C)).setCell ⟨w.heap.size, 5, none⟩ (.slice B2 n2 d2)).cell? ⟨w.heap.size, 3, none⟩ = some (.string i.p.d) := HI5.out.at_ 3
  have u4 : ((w4.setCell ⟨w.heap.size, 4, none⟩ (.int .u8 C)).setCell ⟨w.heap.size, 5, none⟩ (.slice B2 n2 d2)).cell? ⟨w.heap.size, 4, none⟩ = some (.int .u8 C) := HI5.out.at_ 4
  have u5 : ((w4.setCell ⟨w.heap.size, 4, none⟩ (.int .u8 C)).setCell ⟨w.heap.size, 5, none⟩ (.slice B2 n2 d2)).cell? ⟨w.heap.size, 5, none⟩ = some (.slice B2 n2 d2) := HI5.out.at_ 5
  rcases Hev.out with ⟨rfl, hC⟩ | ⟨rfl, hC⟩
  all_goals
    clear Hev
    go_wp2_with fail
    refine (HF.out _ _ _ H5.out HA5.out).mono ?_
    rintro e w6 ⟨R6, rc6, rfl, hr, h6, hm6⟩
    have H6 := Lib.hid h6
    have HR6 := Lib.hid (own_mono hr M5.out.size)
    have HZ6 := Lib.hid (HZ5.out.moves hm6 (no.out _ (Nat.le_succ _)))
    have M6 := Lib.hid (M5.out.trans hm6 fun _ _ x => x)
    clear h6 hr hm6 u0 u1 u2 u3 u4 u5 x4 x5 y4 y5 HF
    obtain ⟨z0, z1, z2, z3, y0, y1, y2, y3⟩ := out_facts HZ6.out
    go_wp2
    (try simp only [Exit.inBlock, Exit.then])
    refine bodyPost_ret (results_cell_row rfl _ _ (w.heap.size + 1) _ _ _ _ rfl (out_put HZ6.out (.slice R6 l.length rc6) T 0 false).1 Tryz.underlying51 rfl (by kernel_rfl)) rfl ?_
    exact out_end1 HZ6.out HR6.out H6.out M6.out (Nat.le_succ _) HG.out
end Go.Proofs.YtpppggicihfbgaaGreat.Neg

/- A reply that is received. Written by gen/neg_t.py. -/
namespace Go.Proofs.YtpppggicihfbgaaGreat.Neg
open Go.RowKit Go.Proofs.YtpppggicihfbgaaGreat.Oct Go.Proofs.YtpppggicihfbgaaGreat.Row Go.Proofs.YtpppggicihfbgaaGreat.Mem Go.Proofs.YtpppggicihfbgaaGreat.Opt Go.Proofs.YtpppggicihfbgaaGreat.Fsm
open Go.Proofs.YtpppggicihfbgaaGreat.Aut (Au Aut Inv evA evE evX state_any)

structure Rp (K : Kd) (nm : String) where
  b : K.α → List Opt → Bool
  p : K.α → List Opt → K.α
  ok : ∀ x l, K.ok x → K.ok (p x l)
  f : FuncId
  e : ∀ args w, (callFunc f args).run Tryz.prog w = .ok (.enter f args) w
  m : ∀ k, k = Tryz.prog.types.size + Made.depth → ∀ q w, (method k K.ty (.agg #[ptr q]) nm).run Tryz.prog w = .ok (f, ptr q) w
  c : ∀ q x w (l : List Opt) A c, K.At w q x → K.ok x → Opts w w.heap.size A l.length l → (A = none → c = 0) → l.length ≤ 64 → Calls Tryz.prog f #[ptr q, .slice A l.length c] w (TkQ K q (b x l) (p x l) w)
set_option maxHeartbeats 2000000 in
set_option maxRecDepth 100000 in
theorem taker_same (K : Kd) (g a q : Nat) (s : Sd K) (w : World) (h : SAt K w g a q s) (hs : s.x.s = 6 ∨ s.x.s = 8) : Calls Tryz.prog 84 #[.pointer (some ⟨g, 0, none⟩)] w fun e w' => e = .returned (.iface K.ty (.agg #[.pointer (some ⟨q, 0, none⟩)])) ∧ w = w' := by
  have c0 : w.cell? ⟨g, 0, none⟩ = some (.pointer (some ⟨a, 0, none⟩)) := h.c 0
  have c2 : w.cell? ⟨g, 2, none⟩ = some (.iface K.ty (.agg #[.pointer (some ⟨q, 0, none⟩)])) := h.c 2
  have HS : Hid (Calls Tryz.prog 31 #[.pointer (some ⟨a, 0, none⟩)] w fun e w' => e = .returned (.int .u8 s.x.s) ∧ w = w') := state_any a s.x w h.2.1
  clear h
  rcases hs with hs | hs
  all_goals
    rw [hs] at HS
    go_enter Tryz.func84, Tryz.ntmps84
    go_wp2_with fail
    refine HS.out.mono ?_
    rintro e w1 ⟨rfl, rfl⟩
    go_wp2
    go_ret
    exact ⟨rfl, rfl⟩
set_option maxHeartbeats 8000000 in
set_option maxRecDepth 100000 in
theorem reply_take (K : Kd) (nm : String) (R : Rp K nm) (g a q : Nat) (s : Sd K) (i : In) (A : Option Addr) (n c ev : Nat) (w : World) (h : SAt K w g a q s) (hok : Ok s) (hs : s.x.s = 6 ∨ s.x.s = 8) (hn : s.asked = true) (hi : i.p.i.toNat = s.last) (hE : gE i.p.d.toList = 0) (ht : R.b s.p (gL i.p.d.toList) = true) (ha : Ans w g a q A n i.ans) (hc : i.code < 256) (he : evE s.x ev = 0) (h4 : has (evA s.x ev) 4096 = false) :
    Calls Tryz.prog 66 #[.pointer (some ⟨g, 0, none⟩), .agg #[.int .u32 i.draw, .int .u8 i.p.c.toNat, .int .u8 i.p.i.toNat, .string i.p.d, .int .u8 i.code, .slice A n c], .int .u8 ev, .func (.methodOf 70 nm) #[] #[]] w (OutQ K g a q (fol i ev { s with p := R.p s.p (gL i.p.d.toList) }).1 (fol i ev { s with p := R.p s.p (gL i.p.d.toList) }).2 (told (evA s.x ev)) 0 false w) := by
  obtain ⟨W, hW, HW⟩ := box_io w i A n c
  have HG := Lib.hid h.old
  have H := Lib.hid (h.callee HW.out.2.2)
  have M : Hid (Moves (My g a q) w W) := Moves.of_below HW.out.2.2
  have HI := Lib.hid HW.out.1
  have HZ := Lib.hid HW.out.2.1
  have k5 : W.cell? ⟨g, 5, none⟩ = some (.bool true) := by rw [← hn]; exact H.out.c 5
  have k6 : W.cell? ⟨g, 6, none⟩ = some (.int .u8 s.last) := H.out.c 6
  have k1 : W.cell? ⟨w.heap.size, 2, none⟩ = some (.int .u8 i.p.i.toNat) := HI.out.at_ 2
  have hne : ((i.p.i.toNat : Int) != (s.last : Int)) = false := by rw [hi]; simp
  have HGt := Lib.hid (fun W => get_at i.p.d 0 W hE)
  have Hl := Lib.hid (gL_le i.p.d.toList)
  have HTk := Lib.hid (fun w h => taker_same K g a q s w h hs)
  have HKp := Lib.hid hok.pol
  have HA := Lib.hid (ha.moves M.out)
  have HAA : Hid (∀ k, Ans (W.drewN k) g a q A n i.ans) := fun k => HA.out.moves ((Moves.refl (My g a q) W).drewN k)
  have HF : Hid (∀ W, SAt K W g a q { s with p := R.p s.p (gL i.p.d.toList) } → Ans W g a q A n i.ans → Calls Tryz.prog 37 #[.pointer (some ⟨g, 0, none⟩), .int .u8 ev, .agg #[.int .u32 i.draw, .int .u8 i.p.c.toNat, .int .u8 i.p.i.toNat, .string i.p.d, .int .u8 i.code, .slice A n c]] W (OutQ K g a q (fol i ev { s with p := R.p s.p (gL i.p.d.toList) }).1 (fol i ev { s with p := R.p s.p (gL i.p.d.toList) }).2 (told (evA s.x ev)) 0 false W)) := fun W h1 h2 =>
    follow_any K g a q { s with p := R.p s.p (gL i.p.d.toList) } ev i A n c W h1 hok.inv h2 he (does_no h4 ⟨evX_inv hok.inv ev, R.ok _ _ hok.pol, hok.m0, hok.m1, hok.c, hok.l⟩ hc)
  generalize told (evA s.x ev) = TT at *
  generalize fol i ev { s with p := R.p s.p (gL i.p.d.toList) } = r at *
  obtain ⟨s', l⟩ := r
  simp only at HF ⊢
  have HM := Lib.hid R.m
  unfold ptr at HM
  have HEf := R.e
  have HC : Hid (∀ w (B : Option Addr) d, K.At w q s.p → Opts w w.heap.size B (gL i.p.d.toList).length (gL i.p.d.toList) → (B = none → d = 0) → Calls Tryz.prog R.f #[.pointer (some ⟨q, 0, none⟩), .slice B (gL i.p.d.toList).length d] w (fun e w' => e = .returned (.bool true) ∧ K.At w' q (R.p s.p (gL i.p.d.toList)) ∧ Moves (fun k => k = q) w w')) := fun w B d h1 h2 h3 => by
    have h := R.c q s.p w (gL i.p.d.toList) B d h1 hok.pol h2 h3 (gL_le _)
    unfold TkQ at h
    rw [ht] at h
    exact h
  clear ht
  have HxA : Hid (∀ k, SAt K (W.drewN k) g a q s) := fun k => H.out.moves ((Moves.refl (fun _ => False) W).drewN k) (fun _ _ x => x)
  have MxA : Hid (∀ k, Moves (My g a q) w (W.drewN k)) := fun k => M.out.drewN k
  have HZA : Hid (∀ k, Blk (W.drewN k) (w.heap.size + 1) zoutV 51) := fun k => HZ.out.drewN k
  have HIA : Hid (∀ k, Blk (W.drewN k) w.heap.size (inC i A n c) 88) := fun k => HI.out.drewN k
  clear h HW hn hi hE hok hs ha hc he h4 HA
  go_enter Tryz.func66, Tryz.ntmps66
  go_wp2_with fail
  (try clear hW)
  go_quiet (fail)
  have HAx := Lib.hid (HAA.out nq)
  have H0 := Lib.hid (HxA.out nq)
  have M0 := Lib.hid (MxA.out nq)
  have Z0 := Lib.hid (HZA.out nq)
  have HIx := Lib.hid (HIA.out nq)
  generalize W.drewN nq = U at *
  clear HxA MxA HZA HIA
  clear HAA
  have d3 : U.cell? ⟨w.heap.size, 3, none⟩ = some (.string i.p.d) := HIx.out.at_ 3
  go_wp2_with fail
  refine (HGt.out U).mono ?_
  rintro e w1 ⟨B, db, N, rfl, hO, hB0, hb1⟩
  have H1 := Lib.hid (H0.out.callee hb1)
  have M1 := Lib.hid (M0.out.trans (Moves.of_below (S := My g a q) hb1) fun _ _ x => x)
  have HZ1 := Lib.hid (Z0.out.callee hb1)
  have HI1 := Lib.hid (HIx.out.callee hb1)
  have HA1 := Lib.hid (HAx.out.moves (Moves.of_below (S := My g a q) hb1))
  have HO := Lib.hid hO
  have HB0 := Lib.hid hB0
  clear hO hB0 hb1 d3 HGt H0 M0 Z0 HIx
  have d0 : w1.cell? ⟨w.heap.size, 0, none⟩ = some (.int .u32 i.draw) := HI1.out.at_ 0
  go_wp2_with fail
  refine (HTk.out _ H1.out).mono ?_
  rintro e w2 ⟨rfl, rfl⟩
  go_wp2_with fail
  rw [HM.out _ (by kernel_rfl)]
  go_wp2_with fail
  refine (HC.out _ _ _ H1.out.2.2.1 HO.out HB0.out).mono ?_
  rintro e w3 ⟨rfl, hp3, hm3⟩
  have Hx := Lib.hid (H1.out.pol hm3 hp3)
  have Mx := Lib.hid (M1.out.trans (my_q hm3) fun _ _ x => x)
  have no : Hid (∀ k, w.heap.size ≤ k → ¬ My g a q k) := fun k hk e => by have := HG.out k e; omega
  have HZx := Lib.hid (HZ1.out.moves (my_q (g := g) (a := a) hm3) (no.out _ (Nat.le_succ _)))
  have HIx := Lib.hid (HI1.out.moves (my_q (g := g) (a := a) hm3) (no.out _ (Nat.le_refl _)))
  have HA3 := Lib.hid (HA1.out.moves (my_q hm3))
  clear hp3 hm3 d0
  have d0 : w3.cell? ⟨w.heap.size, 0, none⟩ = some (.int .u32 i.draw) := HIx.out.at_ 0
  have d1 : w3.cell? ⟨w.heap.size, 1, none⟩ = some (.int .u8 i.p.c.toNat) := HIx.out.at_ 1
  have d2 : w3.cell? ⟨w.heap.size, 2, none⟩ = some (.int .u8 i.p.i.toNat) := HIx.out.at_ 2
  have d3 : w3.cell? ⟨w.heap.size, 3, none⟩ = some (.string i.p.d) := HIx.out.at_ 3
  have d4 : w3.cell? ⟨w.heap.size, 4, none⟩ = some (.int .u8 i.code) := HIx.out.at_ 4
  have d5 : w3.cell? ⟨w.heap.size, 5, none⟩ = some (.slice A n c) := HIx.out.at_ 5
  go_wp2_with fail
  refine (HF.out _ Hx.out HA3.out).mono ?_
  rintro e w4 ⟨R4, rc4, rfl, hr, h4, hm4⟩
  have H4 := Lib.hid h4
  have HR4 := Lib.hid (own_mono hr Mx.out.size)
  have HZ4 := Lib.hid (HZx.out.moves hm4 (no.out _ (Nat.le_succ _)))
  have M4 := Lib.hid (Mx.out.trans hm4 fun _ _ x => x)
  clear h4 hr hm4 d0 d1 d2 d3 d4 d5 HF
  obtain ⟨z0, z1, z2, z3, y0, y1, y2, y3⟩ := out_facts HZ4.out
  go_wp2
  (try simp only [Exit.inBlock, Exit.then])
  refine bodyPost_ret (results_cell_row rfl _ _ (w.heap.size + 1) _ _ _ _ rfl (out_put HZ4.out (.slice R4 l.length rc4) TT 0 false).1 Tryz.underlying51 rfl (by kernel_rfl)) rfl ?_
  exact out_end1 HZ4.out HR4.out H4.out M4.out (Nat.le_succ _) HG.out
end Go.Proofs.YtpppggicihfbgaaGreat.Neg
