/- Put together: PolDa, PolEa. -/
import Derived.Test.YtikcgcgbcolndaaGreatG23
import Derived.Test.YtikcgcgbcolndaaGreatPolCa
import Derived.Test.YtikcgcgbcolndaaGreatG12
import Derived.Test.YtikcgcgbcolndaaGreatG13

/- What a Nak comes to, and a Reject: plain mathematics; the map's functions by type. -/
namespace Go.Proofs.YtikcgcgbcolndaaGreat.Pol
open Go.RowKit Go.Proofs.YtikcgcgbcolndaaGreat.Oct Go.Proofs.YtikcgcgbcolndaaGreat.Row Go.Proofs.YtikcgcgbcolndaaGreat.Mem Go.Proofs.YtikcgcgbcolndaaGreat.Opt Go.Proofs.YtikcgcgbcolndaaGreat.Lco

theorem or_idem (a b : UInt32) : (a ||| b) ||| b = a ||| b := by
  apply UInt32.eq_of_toBitVec_eq
  simp [BitVec.or_assoc]
theorem nkW_step {c : Conf} {w x : Lcp} {d : UInt32} {m : UInt8 → Bool} {t : UInt8} (ht : known t = true) (hh : has t w = true) : nkF c (nkW c w x d m) x d t = nkW c w x d (fun u => m u || u == t) := by
  rcases known_cases ht with e | e | e | e | e | e <;> subst e
  · have h : w.hm = true := hh
    unfold nkF nkW
    by_cases h6 : 64 ≤ x.mru
    · cases h1 : m 1 <;> simp [h, h6, h1]
    · cases h1 : m 1 <;> simp [h, h6, h1]
  · have h : w.ha = true := hh
    unfold nkF nkW
    cases h1 : m 2 <;> simp [h, h1, or_idem]
  · have h : (w.auth != 0) = true := hh
    unfold nkF nkW
    cases h6 : (c.takes &&& x.auth != 0)
    · cases h1 : m 3 <;> simp [h, h6, h1]
    · cases h1 : m 3 <;> simp [h, h6, h1]
  · have h : w.hg = true := hh
    unfold nkF nkW
    cases h1 : m 5 <;> simp [h, h1]
  · unfold nkF nkW; simp
  · unfold nkF nkW; simp
theorem nkW_skip {c : Conf} {w x : Lcp} {d : UInt32} {m : UInt8 → Bool} {t : UInt8} (ht : known t = true) (hh : has t w = false) : nkW c w x d (fun u => m u || u == t) = nkW c w x d m := by
  rcases known_cases ht with e | e | e | e | e | e <;> subst e
  · have h : w.hm = false := hh
    unfold nkW; simp [h]
  · have h : w.ha = false := hh
    unfold nkW; simp [h]
  · have h : (w.auth != 0) = false := hh
    unfold nkW; simp [h]
  · have h : w.hg = false := hh
    unfold nkW; simp [h]
  · unfold nkW; simp
  · unfold nkW; simp
theorem nkW_congr {c : Conf} {w x : Lcp} {d : UInt32} {m m' : UInt8 → Bool} (h : ∀ t, known t = true → m t = m' t) : nkW c w x d m = nkW c w x d m' := by
  unfold nkW
  rw [h 1 rfl, h 2 rfl, h 3 rfl, h 5 rfl]
def mk (l : List Opt) (t : UInt8) : Bool := l.any fun o => good o && t == o.1
theorem mk_snoc (l : List Opt) (k : Nat) (o : Opt) (h : l[k]? = some o) : mk (l.take (k + 1)) = fun t => mk (l.take k) t || (good o && t == o.1) := by
  obtain ⟨hk, rfl⟩ := List.getElem?_eq_some_iff.1 h
  funext t
  unfold mk
  rw [List.take_succ_eq_append_getElem hk, List.any_append, List.any_cons, List.any_nil, Bool.or_false]
theorem mk_has {l : List Opt} (h : gE l = 0) (t : UInt8) (ht : known t = true) : mk l t = has t (Lco.gL l) := by
  unfold Lco.gE at h
  unfold Lco.gL
  cases hs : st l with
  | none => rw [hs] at h; cases h
  | some p =>
    obtain ⟨x, odd⟩ := p
    obtain ⟨_, _, hr⟩ := st_some hs
    rw [Bool.eq_iff_iff, hr.2.1 t ht]
    unfold mk
    rw [List.any_eq_true]
    constructor
    · rintro ⟨o, ho, h2⟩
      simp only [Bool.and_eq_true, beq_iff_eq] at h2
      exact ⟨o.2, List.mem_filter.2 ⟨by rw [h2.2]; exact ho, by rw [h2.2]; exact h2.1⟩⟩
    · rintro ⟨d, hd⟩
      obtain ⟨h1, h2⟩ := List.mem_filter.1 hd
      exact ⟨(t, d), h1, by rw [h2, beq_self_eq_true]; rfl⟩
theorem nkW_may {c : Conf} {w x : Lcp} {d : UInt32} {m : UInt8 → Bool} (h : may w = true) (hx : may x = true) : may (nkW c w x d m) = true := by
  rw [may_iff] at h hx ⊢
  obtain ⟨h1, h2, h3, h4⟩ := h
  refine ⟨?_, fun e => ?_, fun e => ?_, fun e => ?_⟩
  · show (if _ then x.auth else w.auth) ≤ 2
    split
    · exact hx.1
    · exact h1
  · show (if _ then x.mru else w.mru) = 0
    have e' : w.hm = false := e
    rw [e']
    simp [h2 e']
  · show (if _ then w.accm ||| x.accm else w.accm) = 0
    have e' : w.ha = false := e
    rw [e']
    simp [h3 e']
  · show (if _ then nz d else w.magic) = 0
    have e' : w.hg = false := e
    rw [e']
    simp [h4 e']
theorem drop_may {w : Lcp} (t : UInt8) (h : may w = true) : may (dropW w t) = true := by
  rw [may_iff] at h ⊢
  obtain ⟨h1, h2, h3, h4⟩ := h
  unfold dropW
  split
  · exact ⟨h1, fun _ => rfl, h3, h4⟩
  · split
    · exact ⟨h1, h2, fun _ => rfl, h4⟩
    · split
      · exact ⟨by show (0 : UInt8) ≤ 2; decide, h2, h3, h4⟩
      · split
        · exact ⟨h1, h2, h3, fun _ => rfl⟩
        · split
          · exact ⟨h1, h2, h3, h4⟩
          · split
            · exact ⟨h1, h2, h3, h4⟩
            · exact ⟨h1, h2, h3, h4⟩
theorem part_mem : ∀ {l r : List Opt}, part l r = true → ∀ o ∈ l, o ∈ r
  | [], _, _, o, h => by cases h
  | _ :: _, [], h, _, _ => by unfold part at h; cases h
  | a :: l, x :: r, h, o, ho => by
    unfold part at h
    by_cases e : x = a
    · rw [if_pos e] at h
      rcases List.mem_cons.1 ho with rfl | ho
      · rw [e]; simp
      · exact List.mem_cons_of_mem _ (part_mem h o ho)
    · rw [if_neg e] at h
      exact List.mem_cons_of_mem _ (part_mem h o ho)
theorem naked_fn {t : UInt8} (ht : known t = true) (g : Nat) (p : Po) (x : Lcp) (d : UInt32) (w : World) (h : PAt w g p) : Calls Tryz.prog (fN t) #[.pointer (some ⟨g, 0, none⟩), .agg (lv x).toArray, .int .u32 d.toNat] w (NkQ { p with w := nkF p.c p.w x d t } g w) := by
  rcases known_cases ht with e | e | e | e | e | e <;> subst e
  · exact nk1 g p x d w h
  · exact nk2 g p x d w h
  · exact nk3 g p x d w h
  · exact nk5 g p x d w h
  · exact nk7 g p x d w h
  · exact nk8 g p x d w h
theorem drop_fn {o : Opt} (ht : known o.1 = true) (g : Nat) (p : Po) (w : World) (h : PAt w g p) : Calls Tryz.prog (fX o.1) #[.pointer (some ⟨g, 0, none⟩)] w (NkQ (dropP p o) g w) := by
  obtain ⟨t, d⟩ := o
  rcases known_cases ht with e | e | e | e | e | e <;> (simp only at e; subst e)
  · exact dr1 g p d w h
  · exact dr2 g p d w h
  · exact dr3 g p d w h
  · exact dr5 g p d w h
  · exact dr7 g p d w h
  · exact dr8 g p d w h
set_option maxRecDepth 100000 in
theorem field1 (a b c : Nat) (w : World) : (Instr.field 259 (.agg #[.func (.func a) #[] #[], .func (.func b) #[] #[], .func (.func c) #[] #[]]) 1).run Tryz.prog w = .ok (.func (.func b) #[] #[]) w := by kernel_rfl
set_option maxRecDepth 100000 in
theorem field2 (a b c : Nat) (w : World) : (Instr.field 259 (.agg #[.func (.func a) #[] #[], .func (.func b) #[] #[], .func (.func c) #[] #[]]) 2).run Tryz.prog w = .ok (.func (.func c) #[] #[]) w := by kernel_rfl
theorem foldl_snoc (p : Po) (l : List Opt) (k : Nat) (o : Opt) (h : l[k]? = some o) : (l.take (k + 1)).foldl dropP p = dropP ((l.take k).foldl dropP p) o := by
  obtain ⟨hk, rfl⟩ := List.getElem?_eq_some_iff.1 h
  rw [List.take_succ_eq_append_getElem hk, List.foldl_append]
  rfl
/-- What a reply answers, and makes of the policy. -/
def RepQ (b : Bool) (q : Po) (g : Nat) (w : World) (e : Ending) (w' : World) : Prop := e = .returned (.bool b) ∧ PAt w' g q ∧ Moves (fun k => k = g) w w'
end Go.Proofs.YtikcgcgbcolndaaGreat.Pol

/- Contract of Rejected. -/
namespace Go.Proofs.YtikcgcgbcolndaaGreat.Pol
open Go.RowKit Go.Proofs.YtikcgcgbcolndaaGreat.Oct Go.Proofs.YtikcgcgbcolndaaGreat.Row Go.Proofs.YtikcgcgbcolndaaGreat.Mem Go.Proofs.YtikcgcgbcolndaaGreat.Opt Go.Proofs.YtikcgcgbcolndaaGreat.Lco

theorem req_known {p : Po} {o : Opt} (h : o ∈ req p) : known o.1 = true ∧ has o.1 p.w = true := by
  obtain ⟨t, d⟩ := o
  have := mem_put.1 h
  exact ⟨this.1, this.2.1⟩
theorem rjB_nil (p : Po) : rjB p [] = false := rfl
theorem rj_no {p : Po} {l : List Opt} (h : part l (req p) = false) : rjB p l = false ∧ rjP p l = p := by
  have e : rjB p l = false := by unfold rjB; rw [h, Bool.and_false]
  exact ⟨e, by unfold rjP; rw [e]; rfl⟩
theorem rj_yes {p : Po} {l : List Opt} (h : part l (req p) = true) (hl : l ≠ []) : rjB p l = true ∧ rjP p l = l.foldl dropP p := by
  have e : rjB p l = true := by unfold rjB; rw [h, Bool.and_true]; exact decide_eq_true hl
  exact ⟨e, by unfold rjP; rw [e]; rfl⟩
set_option maxHeartbeats 4000000 in
set_option maxRecDepth 100000 in
theorem rejected_any (g : Nat) (p : Po) (l : List Opt) (A : Option Addr) (n c : Nat) (w : World) (h : PAt w g p) (hm : may p.w = true) (hl : Opts w w.heap.size A n l) (hn : n ≤ 1000) :
    Calls Tryz.prog 143 #[.pointer (some ⟨g, 0, none⟩), .slice A n c] w (RepQ (rjB p l) (rjP p l) g w) := by
  have HP := Lib.hid h
  have HL := Lib.hid hl
  have Hn := Lib.hid hl.1
  have HR := Lib.hid (request_any g p w h hm)
  clear h hl hm
  go_enter Tryz.func143, Tryz.ntmps143
  by_cases hn0 : n = 0
  · subst hn0
    have HE : Hid (rjB p l = false ∧ rjP p l = p) := by
      have e := List.length_eq_zero_iff.1 Hn.out
      show _ ∧ _
      rw [e]
      exact ⟨rfl, rfl⟩
    go_wp2
    go_ret
    unfold RepQ
    rw [HE.out.1, HE.out.2]
    exact ⟨rfl, HP.out, Moves.refl _ _⟩
  · have hn1 : ¬ (n : Int) = 0 := by omega
    have HNN : Hid (l ≠ []) := by show _ ≠ _; rintro rfl; exact hn0 (by rw [← Hn.out]; rfl)
    go_wp2_with fail
    refine HR.out.mono ?_
    rintro e w1 ⟨A2, c2, rfl, hO, hb1, hc1, hc2⟩
    have HP1 := Lib.hid (HP.out.callee hb1)
    have HL1 : Hid (Opts w1 w1.heap.size A n l) := HL.out.next hb1
    have HB1 := Lib.hid hb1
    have HI := Lib.hid (isPart_any l (req p) A A2 n (req p).length c c2 w1 HL1.out hO (by unfold maxLen; omega) (by have := put_len6 p.w; unfold req; omega) hc1 hc2)
    clear HR hO hb1 hc1 hc2
    generalize (req p).length = n2 at *
    cases hp : part l (req p)
    · have HE := Lib.hid (rj_no hp)
      rw [hp] at HI
      clear hp
      go_wp2_with fail
      refine HI.out.mono ?_
      rintro e w2 ⟨rfl, hb2⟩
      have HP2 := Lib.hid (HP1.out.callee hb2)
      have HB2 := Lib.hid (HB1.out.trans (hb2.mono HB1.out.size))
      clear hb2 HI
      go_wp2
      go_ret
      unfold RepQ
      rw [HE.out.1, HE.out.2]
      exact ⟨rfl, HP2.out, Moves.of_below HB2.out⟩
    · have HE := Lib.hid (rj_yes hp HNN.out)
      have HK : Hid (∀ o ∈ l, known o.1 = true) := fun o ho => (req_known (part_mem hp o ho)).1
      rw [hp] at HI
      clear hp
      go_wp2_with fail
      refine HI.out.mono ?_
      rintro e w2 ⟨rfl, hb2⟩
      have HP2 := Lib.hid (HP1.out.callee hb2)
      have HB2 := Lib.hid (HB1.out.trans (hb2.mono HB1.out.size))
      clear hb2 HI
      go_wp2_with fail
      refine (sayings_any w2).mono ?_
      rintro e w3 ⟨m, rfl, hm3, hs3, hb3⟩
      have HP3 := Lib.hid (HP2.out.callee hb3)
      have HS3 := Lib.hid hs3
      have HB3 := Lib.hid (HB2.out.trans (hb3.mono HB2.out.size))
      clear hb3 hs3 HP1 HP2 HB1 HB2 HL1
      go_wp2
      go_loopw [25] (fun i wr => ∃ k : Nat, k ≤ n ∧ i = .int .i64 k ∧ Hid (Sy wr m) ∧ Hid (Jd w wr g ((l.take k).foldl dropP p) A n l)) (fun i _ => n - (intOf i).toNat)
      case atStart => exact ⟨0, Nat.zero_le _, rfl, HS3, ⟨HP3.out, Moves.of_below HB3.out, HL.out.below HB3.out⟩⟩
      case round =>
        obtain ⟨k, hk, rfl, HS, HJ⟩ := hrel
        by_cases hlt : k < n
        · obtain ⟨ad, o, rfl, hB, ho, hS1, hc0, hc1⟩ := HJ.out.ho.at_ hlt
          have hkn : known o.1 = true := HK.out o (List.mem_of_getElem? ho)
          have HT : Hid (∀ g p w, PAt w g p → Calls Tryz.prog (fX o.1) #[.pointer (some ⟨g, 0, none⟩)] w (NkQ (dropP p o) g w)) := fun g p w h => drop_fn hkn g p w h
          have hE := fX_enters hkn
          have HF := Lib.hid (foldl_snoc p l k o ho)
          obtain ⟨V, hV, HV⟩ := boxO wr o
          have HS1 := Lib.hid (HS.out.callee HV.out.2.1)
          have HJ1 := Lib.hid (HJ.out.callee HV.out.2.1)
          have hlk := say_look hkn HS1.out
          unfold trip at hlk
          have o0 := HV.out.1.c0
          clear ho hkn HS
          generalize fB o.1 = F1 at *
          generalize fN o.1 = F2 at *
          generalize fX o.1 = F3 at *
          generalize (l.take k).foldl dropP p = q at *
          have hf2 := fun w => field2 F1 F2 F3 w
          go_wp2_with fail
          refine (HT.out g q _ HJ1.out.hp).mono ?_
          rintro e w4 ⟨rfl, hp4, hm4⟩
          have HJ4 := Lib.hid (HJ1.out.turn hm4 hp4)
          have HS4 : Hid (Sy w4 m) := HS1.out.moves hm4 (fun e => sy_blk HS1.out HJ1.out.hp e)
          rw [← HF.out] at HJ4
          clear hm4 hp4 HT hE hlk hV HV HJ1 HS1 HJ HF o0 hf2 hc0 hc1
          go_wp2
          go_roundw
          case rel => exact ⟨k + 1, by omega, by go_num, HS4, HJ4⟩
          case measure => simp [intOf]; omega
        · obtain rfl : k = n := by omega
          have HF : Hid (Jd w wr g (l.foldl dropP p) A k l) := by
            have h := HJ.out
            rw [List.take_of_length_le (by rw [Hn.out]; exact Nat.le_refl _)] at h
            exact h
          go_wp2
          go_ret
          unfold RepQ
          rw [HE.out.1, HE.out.2]
          exact ⟨rfl, HF.out.hp, HF.out.hm⟩
end Go.Proofs.YtikcgcgbcolndaaGreat.Pol
