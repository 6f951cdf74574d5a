/- Put together: PolDa, PolEa, PolFa, PolGa. -/
import Derived.Test.YtpohcejgblahiaaGreatGPolP
import Derived.Test.YtpohcejgblahiaaGreatPolCa
import Derived.Test.YtpohcejgblahiaaGreatGPolI
import Derived.Test.YtpohcejgblahiaaGreatPolQ
import Derived.Test.YtpohcejgblahiaaGreatGPolR
import Derived.Test.YtpohcejgblahiaaGreatGLcoA
import Derived.Test.YtpohcejgblahiaaGreatLcoE

/- What a Nak comes to, and a Reject: plain mathematics; the map's functions by type. -/
namespace Go.Proofs.YtpohcejgblahiaaGreat.Pol
open Go.RowKit Go.Proofs.YtpohcejgblahiaaGreat.Oct Go.Proofs.YtpohcejgblahiaaGreat.Row Go.Proofs.YtpohcejgblahiaaGreat.Mem Go.Proofs.YtpohcejgblahiaaGreat.Opt Go.Proofs.YtpohcejgblahiaaGreat.Lco

theorem or_idem (a b : UInt32) : (a ||| b) ||| b = a ||| b := by
  apply UInt32.eq_of_toBitVec_eq
  simp [BitVec.or_assoc]
theorem nkW_step {c : Conf} {w x : Lcp} {d : UInt32} {m : UInt8 → Bool} {t : UInt8} (ht : known t = true) (hh : has t w = true) : nkF c (nkW c w x d m) x d t = nkW c w x d (fun u => m u || u == t) := by
  rcases known_cases ht with e | e | e | e | e | e <;> subst e
  · have h : w.hm = true := hh
    unfold nkF nkW
    by_cases h6 : 64 ≤ x.mru
    · cases h1 : m 1 <;> simp [h, h6, h1]
    · cases h1 : m 1 <;> simp [h, h6, h1]
  · have h : w.ha = true := hh
    unfold nkF nkW
    cases h1 : m 2 <;> simp [h, h1, or_idem]
  · have h : (w.auth != 0) = true := hh
    unfold nkF nkW
    cases h6 : (c.takes &&& x.auth != 0)
    · cases h1 : m 3 <;> simp [h, h6, h1]
    · cases h1 : m 3 <;> simp [h, h6, h1]
  · have h : w.hg = true := hh
    unfold nkF nkW
    cases h1 : m 5 <;> simp [h, h1]
  · unfold nkF nkW; simp
  · unfold nkF nkW; simp
theorem nkW_skip {c : Conf} {w x : Lcp} {d : UInt32} {m : UInt8 → Bool} {t : UInt8} (ht : known t = true) (hh : has t w = false) : nkW c w x d (fun u => m u || u == t) = nkW c w x d m := by
  rcases known_cases ht with e | e | e | e | e | e <;> subst e
  · have h : w.hm = false := hh
    unfold nkW; simp [h]
  · have h : w.ha = false := hh
    unfold nkW; simp [h]
  · have h : (w.auth != 0) = false := hh
    unfold nkW; simp [h]
  · have h : w.hg = false := hh
    unfold nkW; simp [h]
  · unfold nkW; simp
  · unfold nkW; simp
theorem nkW_congr {c : Conf} {w x : Lcp} {d : UInt32} {m m' : UInt8 → Bool} (h : ∀ t, known t = true → m t = m' t) : nkW c w x d m = nkW c w x d m' := by
  unfold nkW
  rw [h 1 rfl, h 2 rfl, h 3 rfl, h 5 rfl]
def mk (l : List Opt) (t : UInt8) : Bool := l.any fun o => good o && t == o.1
theorem mk_snoc (l : List Opt) (k : Nat) (o : Opt) (h : l[k]? = some o) : mk (l.take (k + 1)) = fun t => mk (l.take k) t || (good o && t == o.1) := by
  obtain ⟨hk, rfl⟩ := List.getElem?_eq_some_iff.1 h
  funext t
  unfold mk
  rw [List.take_succ_eq_append_getElem hk, List.any_append, List.any_cons, List.any_nil, Bool.or_false]
theorem mk_has {l : List Opt} (h : gE l = 0) (t : UInt8) (ht : known t = true) : mk l t = has t (Lco.gL l) := by
  unfold Lco.gE at h
  unfold Lco.gL
  cases hs : st l with
  | none => rw [hs] at h; cases h
  | some p =>
    obtain ⟨x, odd⟩ := p
    obtain ⟨_, _, hr⟩ := st_some hs
    rw [Bool.eq_iff_iff, hr.2.1 t ht]
    unfold mk
    rw [List.any_eq_true]
    constructor
    · rintro ⟨o, ho, h2⟩
      simp only [Bool.and_eq_true, beq_iff_eq] at h2
      exact ⟨o.2, List.mem_filter.2 ⟨by rw [h2.2]; exact ho, by rw [h2.2]; exact h2.1⟩⟩
    · rintro ⟨d, hd⟩
      obtain ⟨h1, h2⟩ := List.mem_filter.1 hd
      exact ⟨(t, d), h1, by rw [h2, beq_self_eq_true]; rfl⟩
theorem nkW_may {c : Conf} {w x : Lcp} {d : UInt32} {m : UInt8 → Bool} (h : may w = true) (hx : may x = true) : may (nkW c w x d m) = true := by
  rw [may_iff] at h hx ⊢
  obtain ⟨h1, h2, h3, h4⟩ := h
  refine ⟨?_, fun e => ?_, fun e => ?_, fun e => ?_⟩
  · show (if _ then x.auth else w.auth) ≤ 2
    split
    · exact hx.1
    · exact h1
  · show (if _ then x.mru else w.mru) = 0
    have e' : w.hm = false := e
    rw [e']
    simp [h2 e']
  · show (if _ then w.accm ||| x.accm else w.accm) = 0
    have e' : w.ha = false := e
    rw [e']
    simp [h3 e']
  · show (if _ then nz d else w.magic) = 0
    have e' : w.hg = false := e
    rw [e']
    simp [h4 e']
theorem drop_may {w : Lcp} (t : UInt8) (h : may w = true) : may (dropW w t) = true := by
  rw [may_iff] at h ⊢
  obtain ⟨h1, h2, h3, h4⟩ := h
  unfold dropW
  split
  · exact ⟨h1, fun _ => rfl, h3, h4⟩
  · split
    · exact ⟨h1, h2, fun _ => rfl, h4⟩
    · split
      · exact ⟨by show (0 : UInt8) ≤ 2; decide, h2, h3, h4⟩
      · split
        · exact ⟨h1, h2, h3, fun _ => rfl⟩
        · split
          · exact ⟨h1, h2, h3, h4⟩
          · split
            · exact ⟨h1, h2, h3, h4⟩
            · exact ⟨h1, h2, h3, h4⟩
theorem part_mem : ∀ {l r : List Opt}, part l r = true → ∀ o ∈ l, o ∈ r
  | [], _, _, o, h => by cases h
  | _ :: _, [], h, _, _ => by unfold part at h; cases h
  | a :: l, x :: r, h, o, ho => by
    unfold part at h
    by_cases e : x = a
    · rw [if_pos e] at h
      rcases List.mem_cons.1 ho with rfl | ho
      · rw [e]; simp
      · exact List.mem_cons_of_mem _ (part_mem h o ho)
    · rw [if_neg e] at h
      exact List.mem_cons_of_mem _ (part_mem h o ho)
theorem naked_fn {t : UInt8} (ht : known t = true) (g : Nat) (p : Po) (x : Lcp) (d : UInt32) (w : World) (h : PAt w g p) : Calls Tryz.prog (fN t) #[.pointer (some ⟨g, 0, none⟩), .agg (lv x).toArray, .int .u32 d.toNat] w (NkQ { p with w := nkF p.c p.w x d t } g w) := by
  rcases known_cases ht with e | e | e | e | e | e <;> subst e
  · exact nk1 g p x d w h
  · exact nk2 g p x d w h
  · exact nk3 g p x d w h
  · exact nk5 g p x d w h
  · exact nk7 g p x d w h
  · exact nk8 g p x d w h
theorem drop_fn {o : Opt} (ht : known o.1 = true) (g : Nat) (p : Po) (w : World) (h : PAt w g p) : Calls Tryz.prog (fX o.1) #[.pointer (some ⟨g, 0, none⟩)] w (NkQ (dropP p o) g w) := by
  obtain ⟨t, d⟩ := o
  rcases known_cases ht with e | e | e | e | e | e <;> (simp only at e; subst e)
  · exact dr1 g p d w h
  · exact dr2 g p d w h
  · exact dr3 g p d w h
  · exact dr5 g p d w h
  · exact dr7 g p d w h
  · exact dr8 g p d w h
set_option maxRecDepth 100000 in
theorem field1 (a b c : Nat) (w : World) : (Instr.field 84 (.agg #[.func (.func a) #[] #[], .func (.func b) #[] #[], .func (.func c) #[] #[]]) 1).run Tryz.prog w = .ok (.func (.func b) #[] #[]) w := by kernel_rfl
set_option maxRecDepth 100000 in
theorem field2 (a b c : Nat) (w : World) : (Instr.field 84 (.agg #[.func (.func a) #[] #[], .func (.func b) #[] #[], .func (.func c) #[] #[]]) 2).run Tryz.prog w = .ok (.func (.func c) #[] #[]) w := by kernel_rfl
theorem foldl_snoc (p : Po) (l : List Opt) (k : Nat) (o : Opt) (h : l[k]? = some o) : (l.take (k + 1)).foldl dropP p = dropP ((l.take k).foldl dropP p) o := by
  obtain ⟨hk, rfl⟩ := List.getElem?_eq_some_iff.1 h
  rw [List.take_succ_eq_append_getElem hk, List.foldl_append]
  rfl
/-- What a reply answers, and makes of the policy. -/
def RepQ (b : Bool) (q : Po) (g : Nat) (w : World) (e : Ending) (w' : World) : Prop := e = .returned (.bool b) ∧ PAt w' g q ∧ Moves (fun k => k = g) w w'
end Go.Proofs.YtpohcejgblahiaaGreat.Pol

/- Contract of Rejected. -/
namespace Go.Proofs.YtpohcejgblahiaaGreat.Pol
open Go.RowKit Go.Proofs.YtpohcejgblahiaaGreat.Oct Go.Proofs.YtpohcejgblahiaaGreat.Row Go.Proofs.YtpohcejgblahiaaGreat.Mem Go.Proofs.YtpohcejgblahiaaGreat.Opt Go.Proofs.YtpohcejgblahiaaGreat.Lco

theorem req_known {p : Po} {o : Opt} (h : o ∈ req p) : known o.1 = true ∧ has o.1 p.w = true := by
  obtain ⟨t, d⟩ := o
  have := mem_put.1 h
  exact ⟨this.1, this.2.1⟩
theorem rjB_nil (p : Po) : rjB p [] = false := rfl
theorem rj_no {p : Po} {l : List Opt} (h : part l (req p) = false) : rjB p l = false ∧ rjP p l = p := by
  have e : rjB p l = false := by unfold rjB; rw [h, Bool.and_false]
  exact ⟨e, by unfold rjP; rw [e]; rfl⟩
theorem rj_yes {p : Po} {l : List Opt} (h : part l (req p) = true) (hl : l ≠ []) : rjB p l = true ∧ rjP p l = l.foldl dropP p := by
  have e : rjB p l = true := by unfold rjB; rw [h, Bool.and_true]; exact decide_eq_true hl
  exact ⟨e, by unfold rjP; rw [e]; rfl⟩
set_option maxHeartbeats 4000000 in
set_option maxRecDepth 100000 in
theorem rejected_any (g : Nat) (p : Po) (l : List Opt) (A : Option Addr) (n c : Nat) (w : World) (h : PAt w g p) (hm : may p.w = true) (hl : Opts w w.heap.size A n l) (hn : n ≤ 1000) :
    Calls Tryz.prog 10 #[.pointer (some ⟨g, 0, none⟩), .slice A n c] w (RepQ (rjB p l) (rjP p l) g w) := by
  have HP := Lib.hid h
  have HL := Lib.hid hl
  have Hn := Lib.hid hl.1
  have HR := Lib.hid (request_any g p w h hm)
  clear h hl hm
  go_enter Tryz.func10, Tryz.ntmps10
  by_cases hn0 : n = 0
  · subst hn0
    have HE : Hid (rjB p l = false ∧ rjP p l = p) := by
      have e := List.length_eq_zero_iff.1 Hn.out
      show _ ∧ _
      rw [e]
      exact ⟨rfl, rfl⟩
    go_wp2
    go_ret
    unfold RepQ
    rw [HE.out.1, HE.out.2]
    exact ⟨rfl, HP.out, Moves.refl _ _⟩
  · have hn1 : ¬ (n : Int) = 0 := by omega
    have HNN : Hid (l ≠ []) := by show _ ≠ _; rintro rfl; exact hn0 (by rw [← Hn.out]; rfl)
    go_wp2_with fail
    refine HR.out.mono ?_
    rintro e w1 ⟨A2, c2, rfl, hO, hb1, hc1, hc2⟩
    have HP1 := Lib.hid (HP.out.callee hb1)
    have HL1 : Hid (Opts w1 w1.heap.size A n l) := HL.out.next hb1
    have HB1 := Lib.hid hb1
    have HI := Lib.hid (isPart_any l (req p) A A2 n (req p).length c c2 w1 HL1.out hO (by unfold maxLen; omega) (by have := put_len6 p.w; unfold req; omega) hc1 hc2)
    clear HR hO hb1 hc1 hc2
    generalize (req p).length = n2 at *
    cases hp : part l (req p)
    · have HE := Lib.hid (rj_no hp)
      rw [hp] at HI
      clear hp
      go_wp2_with fail
      refine HI.out.mono ?_
      rintro e w2 ⟨rfl, hb2⟩
      have HP2 := Lib.hid (HP1.out.callee hb2)
      have HB2 := Lib.hid (HB1.out.trans (hb2.mono HB1.out.size))
      clear hb2 HI
      go_wp2
      go_ret
      unfold RepQ
      rw [HE.out.1, HE.out.2]
      exact ⟨rfl, HP2.out, Moves.of_below HB2.out⟩
    · have HE := Lib.hid (rj_yes hp HNN.out)
      have HK : Hid (∀ o ∈ l, known o.1 = true) := fun o ho => (req_known (part_mem hp o ho)).1
      rw [hp] at HI
      clear hp
      go_wp2_with fail
      refine HI.out.mono ?_
      rintro e w2 ⟨rfl, hb2⟩
      have HP2 := Lib.hid (HP1.out.callee hb2)
      have HB2 := Lib.hid (HB1.out.trans (hb2.mono HB1.out.size))
      clear hb2 HI
      go_wp2_with fail
      refine (sayings_any w2).mono ?_
      rintro e w3 ⟨m, rfl, hm3, hs3, hb3⟩
      have HP3 := Lib.hid (HP2.out.callee hb3)
      have HS3 := Lib.hid hs3
      have HB3 := Lib.hid (HB2.out.trans (hb3.mono HB2.out.size))
      clear hb3 hs3 HP1 HP2 HB1 HB2 HL1
      go_wp2
      go_loopw [25] (fun i wr => ∃ k : Nat, k ≤ n ∧ i = .int .i64 k ∧ Hid (Sy wr m) ∧ Hid (Jd w wr g ((l.take k).foldl dropP p) A n l)) (fun i _ => n - (intOf i).toNat)
      case atStart => exact ⟨0, Nat.zero_le _, rfl, HS3, ⟨HP3.out, Moves.of_below HB3.out, HL.out.below HB3.out⟩⟩
      case round =>
        obtain ⟨k, hk, rfl, HS, HJ⟩ := hrel
        by_cases hlt : k < n
        · obtain ⟨ad, o, rfl, hB, ho, hS1, hc0, hc1⟩ := HJ.out.ho.at_ hlt
          have hkn : known o.1 = true := HK.out o (List.mem_of_getElem? ho)
          have HT : Hid (∀ g p w, PAt w g p → Calls Tryz.prog (fX o.1) #[.pointer (some ⟨g, 0, none⟩)] w (NkQ (dropP p o) g w)) := fun g p w h => drop_fn hkn g p w h
          have hE := fX_enters hkn
          have HF := Lib.hid (foldl_snoc p l k o ho)
          obtain ⟨V, hV, HV⟩ := boxO wr o
          have HS1 := Lib.hid (HS.out.callee HV.out.2.1)
          have HJ1 := Lib.hid (HJ.out.callee HV.out.2.1)
          have hlk := say_look hkn HS1.out
          unfold trip at hlk
          have o0 := HV.out.1.c0
          clear ho hkn HS
          generalize fB o.1 = F1 at *
          generalize fN o.1 = F2 at *
          generalize fX o.1 = F3 at *
          generalize (l.take k).foldl dropP p = q at *
          have hf2 := fun w => field2 F1 F2 F3 w
          go_wp2_with fail
          refine (HT.out g q _ HJ1.out.hp).mono ?_
          rintro e w4 ⟨rfl, hp4, hm4⟩
          have HJ4 := Lib.hid (HJ1.out.turn hm4 hp4)
          have HS4 : Hid (Sy w4 m) := HS1.out.moves hm4 (fun e => sy_blk HS1.out HJ1.out.hp e)
          rw [← HF.out] at HJ4
          clear hm4 hp4 HT hE hlk hV HV HJ1 HS1 HJ HF o0 hf2 hc0 hc1
          go_wp2
          go_roundw
          case rel => exact ⟨k + 1, by omega, by go_num, HS4, HJ4⟩
          case measure => simp [intOf]; omega
        · obtain rfl : k = n := by omega
          have HF : Hid (Jd w wr g (l.foldl dropP p) A k l) := by
            have h := HJ.out
            rw [List.take_of_length_le (by rw [Hn.out]; exact Nat.le_refl _)] at h
            exact h
          go_wp2
          go_ret
          unfold RepQ
          rw [HE.out.1, HE.out.2]
          exact ⟨rfl, HF.out.hp, HF.out.hm⟩
end Go.Proofs.YtpohcejgblahiaaGreat.Pol

/- Contract of Naked. -/
namespace Go.Proofs.YtpohcejgblahiaaGreat.Pol
open Go.RowKit Go.Proofs.YtpohcejgblahiaaGreat.Oct Go.Proofs.YtpohcejgblahiaaGreat.Row Go.Proofs.YtpohcejgblahiaaGreat.Mem Go.Proofs.YtpohcejgblahiaaGreat.Opt Go.Proofs.YtpohcejgblahiaaGreat.Lco

theorem nk_no {p : Po} {d : UInt32} {l : List Opt} (h : nkB l = false) : nkP p d l = p := by unfold nkP; rw [h]; rfl
theorem fB_put {x : Lcp} {t : UInt8} (ht : known t = true) : Opt.fB t (put x) = has t x := by
  cases hh : has t x
  · have : fd t (put x) = none := fd_none.2 fun d hd => by
      have := (mem_put.1 hd).2.1
      rw [hh] at this; cases this
    unfold Opt.fB
    rw [this]; rfl
  · unfold Opt.fB
    rw [fd_put ht hh]; rfl
def nkS (p : Po) (d : UInt32) (l : List Opt) (k : Nat) : Po := { p with w := nkW p.c p.w (gL l) d (mk (l.take k)) }
theorem nkS_zero (p : Po) (d : UInt32) (l : List Opt) : nkS p d l 0 = p := by
  unfold nkS nkW
  rw [List.take_zero]
  rfl
/-- A round that goes by. -/
theorem nkS_skip {p : Po} {d : UInt32} {l : List Opt} {k : Nat} {o : Opt} (h : l[k]? = some o) (hs : (Opt.fB o.1 (put p.w) && good o) = false) : nkS p d l (k + 1) = nkS p d l k := by
  unfold nkS
  rw [mk_snoc l k o h]
  cases hg : good o
  · congr 2
    funext t
    simp
  · have hk := good_known hg
    rw [hg, Bool.and_true, fB_put hk] at hs
    have e : (fun t => mk (l.take k) t || (true && t == o.1)) = fun t => mk (l.take k) t || t == o.1 := by
      funext t
      rw [Bool.true_and]
    rw [e, nkW_skip hk hs]
theorem nkS_step {p : Po} {d : UInt32} {l : List Opt} {k : Nat} {o : Opt} (h : l[k]? = some o) (hg : good o = true) (hs : Opt.fB o.1 (put p.w) = true) : nkS p d l (k + 1) = { nkS p d l k with w := nkF (nkS p d l k).c (nkS p d l k).w (gL l) d o.1 } := by
  have hk := good_known hg
  rw [fB_put hk] at hs
  unfold nkS
  rw [mk_snoc l k o h, hg]
  have e : (fun t => mk (l.take k) t || (true && t == o.1)) = fun t => mk (l.take k) t || t == o.1 := by
    funext t
    rw [Bool.true_and]
  rw [e, ← nkW_step hk hs]
theorem nkS_end {p : Po} {d : UInt32} {l : List Opt} (hn : l ≠ []) (h : gE l = 0) : nkP p d l = nkS p d l l.length ∧ nkB l = true := by
  have hb : nkB l = true := by
    unfold nkB
    rw [h]
    simpa using hn
  refine ⟨?_, hb⟩
  unfold nkP nkS
  rw [hb, if_pos rfl, List.take_of_length_le (Nat.le_refl _), nkW_congr (fun t ht => (mk_has h t ht).symm)]
/-- What a round keeps. -/
structure Nj (w wr : World) (g m bx B4 : Nat) (q : Po) (x : Lcp) (r : List Opt) (A : Option Addr) (n : Nat) (l : List Opt) (A4 : Option Addr) (n4 : Nat) : Prop where
  hj : Jd w wr g q A n l
  hs : Sy wr m
  hx : LAt wr bx x
  ho : Opts wr B4 A4 n4 r
  hb : B4 ≤ wr.heap.size
  hne : bx ≠ g
theorem Nj.callee {w wr w' : World} {g m bx B4 : Nat} {q : Po} {x : Lcp} {r : List Opt} {A : Option Addr} {n : Nat} {l : List Opt} {A4 : Option Addr} {n4 : Nat} (h : Nj w wr g m bx B4 q x r A n l A4 n4) (hb : Below wr.heap.size wr w') : Nj w w' g m bx B4 q x r A n l A4 n4 :=
  ⟨h.hj.callee hb, h.hs.callee hb, h.hx.callee hb, h.ho.callee hb h.hb, Nat.le_trans h.hb hb.size, h.hne⟩
theorem Nj.turn {w wr w' : World} {g m bx B4 : Nat} {q q' : Po} {x : Lcp} {r : List Opt} {A : Option Addr} {n : Nat} {l : List Opt} {A4 : Option Addr} {n4 : Nat} (h : Nj w wr g m bx B4 q x r A n l A4 n4) (hm : Moves (fun k => k = g) wr w') (hp : PAt w' g q') : Nj w w' g m bx B4 q' x r A n l A4 n4 :=
  ⟨h.hj.turn hm hp, h.hs.moves hm (fun e => sy_blk h.hs h.hj.hp e), Blk.moves h.hx hm h.hne, opts_past h.ho h.hj.hp (pv_no q) hm h.hb, Nat.le_trans h.hb hm.size, h.hne⟩
set_option maxHeartbeats 8000000 in
set_option maxRecDepth 100000 in
theorem naked_any (g : Nat) (p : Po) (d : UInt32) (l : List Opt) (A : Option Addr) (n c : Nat) (w : World) (h : PAt w g p) (hm : may p.w = true) (hl : Opts w w.heap.size A n l) (hn : n ≤ 1000) :
    Calls Tryz.prog 9 #[.pointer (some ⟨g, 0, none⟩), .int .u32 d.toNat, .slice A n c] w (RepQ (nkB l) (nkP p d l) g w) := by
  have HP := Lib.hid h
  have HL := Lib.hid hl
  have Hn := Lib.hid hl.1
  have HR := Lib.hid (fun W h => request_any g p W h hm)
  have HG := Lib.hid (get_c l A n c w hl hn)
  have hlt0 := Lib.hid h.lt
  clear h hl hm
  go_enter Tryz.func9, Tryz.ntmps9
  by_cases hn0 : n = 0
  · subst hn0
    have HE : Hid (nkB l = false ∧ nkP p d l = p) := by
      have e := List.length_eq_zero_iff.1 Hn.out
      show _ ∧ _
      rw [e]
      exact ⟨rfl, rfl⟩
    go_wp2
    go_ret
    unfold RepQ
    rw [HE.out.1, HE.out.2]
    exact ⟨rfl, HP.out, Moves.refl _ _⟩
  · have hn1 : ¬ (n : Int) = 0 := by omega
    have HNN : Hid (l ≠ []) := by show _ ≠ _; rintro rfl; exact hn0 (by rw [← Hn.out]; rfl)
    go_wp2_with fail
    refine HG.out.mono ?_
    rintro e w1 ⟨A1, c1, rfl, _, hb1⟩
    have HB1 := Lib.hid hb1
    have HP1 := Lib.hid (HP.out.callee hb1)
    have HGN : Hid (w1.heap.size ≠ g) := Nat.ne_of_gt (Nat.lt_of_lt_of_le hlt0.out hb1.size)
    clear hb1 HG
    generalize (gO l).length = n1
    obtain ⟨V, hV, HV⟩ := boxL w1 (gL l)
    have HBV := Lib.hid (HB1.out.trans (HV.out.2.1.mono HB1.out.size))
    have HPV := Lib.hid (HP1.out.callee HV.out.2.1)
    have HLV := Lib.hid HV.out.1
    have HSZ := Lib.hid HV.out.2.2
    clear HV HP1 HP HB1
    cases he : decide (gE l = 0)
    · have he' : ¬ gE l = 0 := of_decide_eq_false he
      have HE : Hid (nkB l = false) := by
        show _ = _
        unfold nkB
        rw [show (gE l == 0) = false by simpa using he', Bool.and_false]
      have he2 : ¬ (gE l : Int) = 0 := by omega
      have he3 : ((gE l : Int) != 0) = true := by simpa using he2
      clear he he'
      generalize gE l = E at *
      go_wp2
      go_ret
      unfold RepQ
      rw [nk_no HE.out, HE.out]
      exact ⟨rfl, HPV.out, Moves.of_below HBV.out⟩
    · have he' : gE l = 0 := of_decide_eq_true he
      have HE := Lib.hid (nkS_end (p := p) (d := d) HNN.out he')
      have he3 : ((gE l : Int) != 0) = false := by rw [he']; rfl
      rw [he'] at *
      clear he he'
      have HX : Hid (gL l = gL l) := rfl
      have HZ := Lib.hid (nkS_zero p d l)
      have HSK := Lib.hid (fun k o => @nkS_skip p d l k o)
      have HST := Lib.hid (fun k o => @nkS_step p d l k o)
      generalize gL l = x at *
      go_wp2_with fail
      refine (sayings_any V).mono ?_
      rintro e w3 ⟨m, rfl, hm3, hs3, hb3⟩
      have HP3 := Lib.hid (HPV.out.callee hb3)
      have HL3 := Lib.hid (HLV.out.callee hb3)
      have HS3 := Lib.hid hs3
      have HB3 := Lib.hid (HBV.out.trans (hb3.mono HBV.out.size))
      clear hb3 hs3 hm3 HPV HLV HBV hV
      go_wp2_with fail
      refine (HR.out _ HP3.out).mono ?_
      rintro e w4 ⟨A4, c4, rfl, hO4, hb4, _, _⟩
      have HP4 := Lib.hid (HP3.out.callee hb4)
      have HL4 := Lib.hid (HL3.out.callee hb4)
      have HS4 := Lib.hid (HS3.out.callee hb4)
      have HB4 := Lib.hid (HB3.out.trans (hb4.mono HB3.out.size))
      have HO4 := Lib.hid hO4
      have hlg : (req p).length ≤ 6 := put_len6 p.w
      clear hb4 hO4 HP3 HL3 HS3 HB3 HR
      generalize (req p).length = n4 at *
      have HN : Hid (Nj w w4 g m w1.heap.size w4.heap.size p x (req p) A n l A4 n4) := ⟨⟨HP4.out, Moves.of_below HB4.out, HL.out.below HB4.out⟩, HS4.out, HL4.out, HO4.out, Nat.le_refl _, HGN.out⟩
      have HN4 : n4 ≤ 6 := hlg
      clear HP4 HL4 HS4 HB4 HO4 HL hlg HGN
      generalize w4.heap.size = B4 at *
      generalize w1.heap.size = bx at *
      generalize hrq : req p = r at *
      have HRQ : Hid (put p.w = r) := hrq
      clear hrq
      rw [HRQ.out] at HSK HST
      rw [← HZ.out] at HN
      go_wp2
      go_loopw [36] (fun i wr => ∃ k : Nat, k ≤ n ∧ i = .int .i64 k ∧ Hid (Nj w wr g m bx B4 (nkS p d l k) x r A n l A4 n4)) (fun i _ => n - (intOf i).toNat)
      case atStart => exact ⟨0, Nat.zero_le _, rfl, HN⟩
      case round =>
        obtain ⟨k, hk, rfl, HJ⟩ := hrel
        by_cases hlt : k < n
        · obtain ⟨ad, o, rfl, hB, ho, hS1, hc0, hc1⟩ := HJ.out.hj.ho.at_ hlt
          have HSKk := Lib.hid (HSK.out k o ho)
          have HSTk := Lib.hid (HST.out k o ho)
          clear ho
          obtain ⟨W, hW, HW⟩ := boxO wr o
          have HJ1 := Lib.hid (HJ.out.callee HW.out.2.1)
          have HO1 := Lib.hid HW.out.1
          have o0 := HO1.out.c0
          have HFi := Lib.hid (find_any o.1 r B4 A4 n4 c4 W HJ1.out.ho (by unfold maxLen; omega) HJ1.out.hb)
          clear HW HJ
          go_wp2_with fail
          refine HFi.out.mono ?_
          rintro e w5 ⟨rfl, hb5⟩
          have HJ5 := Lib.hid (HJ1.out.callee hb5)
          have HO5 := Lib.hid (HO1.out.callee hb5)
          clear hb5 HFi HJ1 HO1 hW o0 hc0 hc1
          obtain ⟨U, hU, HU⟩ := boxO w5 (Opt.fA o.1 r)
          have HJ6 := Lib.hid (HJ5.out.callee HU.out.2.1)
          have HO6 := Lib.hid (HO5.out.callee HU.out.2.1)
          have o0 := HO6.out.c0
          have o1 := HO6.out.c1
          clear HU HJ5 HO5
          generalize Opt.fA o.1 r = f at *
          cases hfb : Opt.fB o.1 r
          · have HE2 : Hid (nkS p d l (k + 1) = nkS p d l k) := HSKk.out (by rw [hfb]; rfl)
            rw [← HE2.out] at HJ6
            clear hfb HSKk HSTk HE2
            go_wp2
            go_roundw
            case rel => exact ⟨k + 1, by omega, by go_num, Lib.hid (HJ6.out.callee (Below.refl _ _))⟩
            case measure => simp [intOf]; omega
          · have HGd := Lib.hid (fun W => good_any o.1 o.2 W (by unfold maxLen; omega))
            have HFB := Lib.hid hfb
            clear hfb
            go_wp2_with fail
            refine (HGd.out _).mono ?_
            rintro e w6 ⟨rfl, hb6⟩
            have HJ7 := Lib.hid (HJ6.out.callee hb6)
            have HO7 := Lib.hid (HO6.out.callee hb6)
            clear hb6 hU HJ6 HO6 o0 o1 HGd
            cases hgd : good o
            · have HE2 : Hid (nkS p d l (k + 1) = nkS p d l k) := HSKk.out (by rw [hgd, Bool.and_false])
              rw [← HE2.out] at HJ7
              clear hgd HSKk HSTk HE2 HO7
              go_wp2
              go_roundw
              case rel => exact ⟨k + 1, by omega, by go_num, HJ7⟩
              case measure => simp [intOf]; omega
            · have hkn := good_known hgd
              have HE2 := Lib.hid (HSTk.out hgd HFB.out)
              have HT : Hid (∀ g p w, PAt w g p → Calls Tryz.prog (fN o.1) #[.pointer (some ⟨g, 0, none⟩), .agg (lv x).toArray, .int .u32 d.toNat] w (NkQ { p with w := nkF p.c p.w x d o.1 } g w)) := fun g p w h => naked_fn hkn g p x d w h
              have hE := fN_enters hkn
              have hlk := say_look hkn HJ7.out.hs
              unfold trip at hlk
              have o0 := HO7.out.c0
              have x0 : w6.cell? ⟨bx, 0, none⟩ = some (Value.bool x.hm) := HJ7.out.hx.c 0
              have x1 : w6.cell? ⟨bx, 1, none⟩ = some (.int .u16 x.mru.toNat) := HJ7.out.hx.c 1
              have x2 : w6.cell? ⟨bx, 2, none⟩ = some (.bool x.ha) := HJ7.out.hx.c 2
              have x3 : w6.cell? ⟨bx, 3, none⟩ = some (.int .u32 x.accm.toNat) := HJ7.out.hx.c 3
              have x4 : w6.cell? ⟨bx, 4, none⟩ = some (.int .u8 x.auth.toNat) := HJ7.out.hx.c 4
              have x5 : w6.cell? ⟨bx, 5, none⟩ = some (.bool x.hg) := HJ7.out.hx.c 5
              have x6 : w6.cell? ⟨bx, 6, none⟩ = some (.int .u32 x.magic.toNat) := HJ7.out.hx.c 6
              have x7 : w6.cell? ⟨bx, 7, none⟩ = some (.bool x.pfc) := HJ7.out.hx.c 7
              have x8 : w6.cell? ⟨bx, 8, none⟩ = some (.bool x.acfc) := HJ7.out.hx.c 8
              clear hgd hkn HSKk HSTk HFB
              generalize fB o.1 = F1 at *
              generalize fN o.1 = F2 at *
              generalize fX o.1 = F3 at *
              have hf1 := fun w => field1 F1 F2 F3 w
              generalize hq : nkS p d l k = q at *
              have HQ := Lib.hid hq
              clear hq
              go_wp2_with fail
              refine (HT.out g q _ HJ7.out.hj.hp).mono ?_
              rintro e w7 ⟨rfl, hp7, hm7⟩
              have HJ8 := Lib.hid (HJ7.out.turn hm7 hp7)
              rw [← HE2.out] at HJ8
              clear hm7 hp7 HT hE hlk HJ7 HE2 o0 hf1 x0 x1 x2 x3 x4 x5 x6 x7 x8 HO7
              go_wp2
              go_roundw
              case rel => exact ⟨k + 1, by omega, by go_num, HJ8⟩
              case measure => simp [intOf]; omega
        · obtain rfl : k = n := by omega
          have HF : Hid (Jd w wr g (nkP p d l) A k l) := by
            have h := HJ.out.hj
            rw [HE.out.1, Hn.out]
            exact h
          go_wp2
          go_ret
          unfold RepQ
          rw [HE.out.2]
          exact ⟨rfl, HF.out.hp, HF.out.hm⟩
end Go.Proofs.YtpohcejgblahiaaGreat.Pol

/- What LcppolTakes asks: plain mathematics. -/
namespace Go.Proofs.YtpohcejgblahiaaGreat.Pol
open Go.RowKit Go.Proofs.YtpohcejgblahiaaGreat.Oct Go.Proofs.YtpohcejgblahiaaGreat.Row Go.Proofs.YtpohcejgblahiaaGreat.Mem Go.Proofs.YtpohcejgblahiaaGreat.Opt Go.Proofs.YtpohcejgblahiaaGreat.Lco

theorem gL_may (l : List Opt) : may (Lco.gL l) = true := by
  unfold Lco.gL
  cases h : st l with
  | none => rfl
  | some p => exact (st_some h).2.2.1
theorem wish_may {c : Conf} (m : UInt32) (h : mayC c = true) : may (wish c m) = true := by
  unfold mayC at h
  simp only [Bool.and_eq_true, decide_eq_true_eq, Bool.or_eq_true, beq_iff_eq] at h
  rw [may_iff]
  refine ⟨h.1.1.1.1.1.2, fun e => ?_, fun e => ?_, fun e => ?_⟩
  · have e' : (c.mru != 0) = false := e
    show c.mru = 0
    simpa using e'
  · have e' : c.ha = false := e
    have := h.1.1.1.1.1.1.2
    rw [e'] at this
    show c.accm = 0
    simpa using this
  · have e' : c.mg = false := e
    show (if c.mg then nz m else 0) = 0
    rw [e']; rfl
/-- What the wishes are behind a Nak. -/
theorem nk_says (p : Po) (d : UInt32) (l : List Opt) :
    (nkP p d l).w.hm = p.w.hm ∧ (nkP p d l).w.ha = p.w.ha ∧ (nkP p d l).w.hg = p.w.hg ∧ (nkP p d l).w.pfc = p.w.pfc ∧ (nkP p d l).w.acfc = p.w.acfc
    ∧ ((nkP p d l).w.mru ≠ p.w.mru → (Lco.gL l).hm = true ∧ (nkP p d l).w.mru = (Lco.gL l).mru ∧ 64 ≤ (nkP p d l).w.mru)
    ∧ (nkP p d l).w.accm &&& p.w.accm = p.w.accm
    ∧ ((nkP p d l).w.auth = 0 ↔ p.w.auth = 0)
    ∧ ((nkP p d l).w.auth ≠ p.w.auth → (nkP p d l).w.auth = (Lco.gL l).auth)
    ∧ (nkP p d l).bad = p.bad ∧ (nkB l = false → nkP p d l = p) := by
  cases hb : nkB l
  · rw [nk_no hb]
    exact ⟨rfl, rfl, rfl, rfl, rfl, fun h => absurd rfl h, UInt32.eq_of_toBitVec_eq (by simp), Iff.rfl, fun h => absurd rfl h, rfl, fun _ => rfl⟩
  · have e2 : nkP p d l = { p with w := nkW p.c p.w (Lco.gL l) d (fun t => has t (Lco.gL l)) } := by
      unfold nkP
      rw [hb]; rfl
    rw [e2]
    generalize Lco.gL l = x
    refine ⟨rfl, rfl, rfl, rfl, rfl, ?_, ?_, ?_, ?_, rfl, fun h => by cases h⟩
    · intro h
      have h' : (if (has 1 x && p.w.hm && decide (64 ≤ x.mru)) = true then x.mru else p.w.mru) ≠ p.w.mru := h
      by_cases h1 : (has 1 x && p.w.hm && decide (64 ≤ x.mru)) = true
      · have E : (nkW p.c p.w x d (fun t => has t x)).mru = x.mru := if_pos h1
        simp only [Bool.and_eq_true, decide_eq_true_eq] at h1
        exact ⟨h1.1.1, E, by show (64 : UInt16) ≤ (nkW p.c p.w x d (fun t => has t x)).mru; rw [E]; exact h1.2⟩
      · rw [if_neg h1] at h'; exact absurd rfl h'
    · show (if (has 2 x && p.w.ha) = true then p.w.accm ||| x.accm else p.w.accm) &&& p.w.accm = p.w.accm
      apply UInt32.eq_of_toBitVec_eq
      split
      · simp only [UInt32.toBitVec_and, UInt32.toBitVec_or]
        ext i hi
        simp
        cases p.w.accm.toBitVec[i] <;> simp
      · simp
    · show (if (has 3 x && p.w.auth != 0 && p.c.takes &&& x.auth != 0) = true then x.auth else p.w.auth) = 0 ↔ p.w.auth = 0
      split
      · rename_i h1
        simp only [Bool.and_eq_true, bne_iff_ne] at h1
        have h3 : x.auth ≠ 0 := fun e => h1.2 (by rw [e]; apply UInt8.eq_of_toBitVec_eq; simp)
        exact ⟨fun e => absurd e h3, fun e => absurd e h1.1.2⟩
      · exact Iff.rfl
    · show (if (has 3 x && p.w.auth != 0 && p.c.takes &&& x.auth != 0) = true then x.auth else p.w.auth) ≠ p.w.auth → (if (has 3 x && p.w.auth != 0 && p.c.takes &&& x.auth != 0) = true then x.auth else p.w.auth) = x.auth
      split
      · exact fun _ => rfl
      · exact fun h => absurd rfl h
theorem nkP_may {p : Po} (d : UInt32) (l : List Opt) (h : may p.w = true) : may (nkP p d l).w = true := by
  unfold nkP
  split
  · exact nkW_may h (gL_may l)
  · exact h
theorem put_count (x : Lcp) : (put x).length = (has 1 x).toNat + (has 2 x).toNat + (has 3 x).toNat + (has 5 x).toNat + (has 7 x).toNat + (has 8 x).toNat := by
  unfold put six
  simp only [List.filterMap_cons, List.filterMap_nil]
  cases has 1 x <;> cases has 2 x <;> cases has 3 x <;> cases has 5 x <;> cases has 7 x <;> cases has 8 x <;> rfl
theorem drop_no {w : Lcp} {t : UInt8} (ht : known t = true) : has t (dropW w t) = false := by
  rcases known_cases ht with e | e | e | e | e | e <;> subst e <;> rfl
theorem drop_has {w : Lcp} {t u : UInt8} (ht : known t = true) (hu : known u = true) (hn : u ≠ t) : has u (dropW w t) = has u w := by
  rcases known_cases ht with e | e | e | e | e | e <;> subst e <;> rcases known_cases hu with e | e | e | e | e | e <;> subst e <;> first | rfl | exact absurd rfl hn
theorem drop_len {w : Lcp} {t : UInt8} (ht : known t = true) (hh : has t w = true) : (put (dropW w t)).length + 1 = (put w).length := by
  rw [put_count, put_count]
  have h := fun u hu hn => @drop_has w t u ht hu hn
  have h0 := @drop_no w t ht
  rcases known_cases ht with e | e | e | e | e | e <;> subst e
  · rw [h0, hh, h 2 rfl (by decide), h 3 rfl (by decide), h 5 rfl (by decide), h 7 rfl (by decide), h 8 rfl (by decide)]; simp; omega
  · rw [h0, hh, h 1 rfl (by decide), h 3 rfl (by decide), h 5 rfl (by decide), h 7 rfl (by decide), h 8 rfl (by decide)]; simp; omega
  · rw [h0, hh, h 1 rfl (by decide), h 2 rfl (by decide), h 5 rfl (by decide), h 7 rfl (by decide), h 8 rfl (by decide)]; simp; omega
  · rw [h0, hh, h 1 rfl (by decide), h 2 rfl (by decide), h 3 rfl (by decide), h 7 rfl (by decide), h 8 rfl (by decide)]; simp; omega
  · rw [h0, hh, h 1 rfl (by decide), h 2 rfl (by decide), h 3 rfl (by decide), h 5 rfl (by decide), h 8 rfl (by decide)]; simp; omega
  · rw [h0, hh, h 1 rfl (by decide), h 2 rfl (by decide), h 3 rfl (by decide), h 5 rfl (by decide), h 7 rfl (by decide)]; simp
theorem part_in {o : Opt} : ∀ {r : List Opt}, o ∈ r → part [o] r = true
  | [], h => by cases h
  | x :: r, h => by
    unfold part
    by_cases e : x = o
    · rw [if_pos e]
      cases r <;> rfl
    · rw [if_neg e]
      exact part_in ((List.mem_cons.1 h).resolve_left fun h => e h.symm)
/-- One that is asked is rejected: what comes of it. -/
theorem rej_one {q : Po} {o : Opt} (h : o ∈ req q) : rjB q [o] = true ∧ rjP q [o] = dropP q o ∧ (req (dropP q o)).length + 1 = (req q).length ∧ rjB (dropP q o) [o] = false ∧ rjP (dropP q o) [o] = dropP q o ∧ Opt.fB o.1 (req (dropP q o)) = false := by
  obtain ⟨hk, hh⟩ := req_known h
  obtain ⟨h1, h2⟩ := rj_yes (p := q) (l := [o]) (part_in h) (by simp)
  have hno : o ∉ req (dropP q o) := fun hm => by
    have h3 := (req_known hm).2
    rw [show (dropP q o).w = dropW q.w o.1 from rfl, drop_no hk] at h3
    cases h3
  obtain ⟨h3, h4⟩ := rj_no (p := dropP q o) (l := [o]) (part_none [] hno)
  exact ⟨h1, by rw [h2]; rfl, drop_len hk hh, h3, h4, by unfold req; rw [fB_put hk]; exact drop_no hk⟩
end Go.Proofs.YtpohcejgblahiaaGreat.Pol
