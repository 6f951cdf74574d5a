/- Put together: PolR, PolT. -/
import Derived.Test.YtpohcejgblahiaaGreatPolQ

/- What Judge answers: plain mathematics. -/
namespace Go.Proofs.YtpohcejgblahiaaGreat.Pol
open Go.Proofs.YtpohcejgblahiaaGreat.Oct Go.Proofs.YtpohcejgblahiaaGreat.Opt Go.Proofs.YtpohcejgblahiaaGreat.Lco

/-! ### what is suggested is good, and stays -/
theorem sug_good {p : Po} {o : Opt} (h : acc p o = true) : good (sug p o) = true := dat_good (bet_ok h).1 (acc_known h) (bet_ok h).2
theorem sug_fst (p : Po) (o : Opt) : (sug p o).1 = o.1 := rfl
theorem lo_put_one {x : Lcp} {t : UInt8} (hx : may x = true) (ht : known t = true) (hh : has t x = true) (hz : ∀ u, known u = true → u ≠ t → has u x = false) : lo (t, dat t x) = x := by
  have hg := dat_good hx ht hh
  rw [lo_good hg]
  refine may_ext (say_may lz_may hg) hx fun u hu => ?_
  by_cases e : u = t
  · subst e
    obtain ⟨h1, h2⟩ := dat_say (x := lz) (t := u) (d := dat u x) hg
    exact ⟨by rw [h2, hh], fun _ => h1⟩
  · obtain ⟨h1, h2⟩ := say_other (x := lz) (o := (t, dat t x)) hu ht e
    have h0 : has u lz = false := by rcases known_cases hu with e | e | e | e | e | e <;> subst e <;> rfl
    rw [h2, h0, hz u hu e]
    exact ⟨rfl, fun h => by cases h⟩
theorem lz_has {u : UInt8} (hu : known u = true) : has u lz = false := by rcases known_cases hu with e | e | e | e | e | e <;> subst e <;> rfl
theorem lo_other {o : Opt} {u : UInt8} (hu : known u = true) (h : u ≠ o.1) : has u (lo o) = false := by
  cases hg : good o
  · rw [lo_bad hg, lz_has hu]
  · rw [lo_good hg, (say_other (x := lz) hu (good_known hg) h).2, lz_has hu]
theorem bet_other {p : Po} {t u : UInt8} (x : Lcp) (hu : known u = true) (h : u ≠ t) : has u (bet p t x) = has u x := by
  by_cases h1 : t = 1
  · subst h1
    unfold bet
    rw [if_pos rfl]
    rcases known_cases hu with e | e | e | e | e | e <;> subst e <;> first | rfl | exact absurd rfl h
  · by_cases h3 : t = 3
    · subst h3
      unfold bet
      rw [if_neg (by decide), if_pos rfl]
      rcases known_cases hu with e | e | e | e | e | e <;> subst e <;> first | rfl | exact absurd rfl h
    · by_cases h5 : t = 5
      · subst h5
        unfold bet
        rw [if_neg (by decide), if_neg (by decide), if_pos rfl]
        split
        · rfl
        · split <;> (rcases known_cases hu with e | e | e | e | e | e <;> subst e <;> first | rfl | exact absurd rfl h)
      · rw [bet_same x h1 h3 h5]
theorem lo_sug {p : Po} {o : Opt} (h : acc p o = true) : lo (sug p o) = bet p o.1 (lo o) :=
  lo_put_one (bet_ok h).1 (acc_known h) (bet_ok h).2 fun u hu e => by rw [bet_other _ hu e, lo_other hu e]
theorem acc_sug {p : Po} {o : Opt} (h : acc p o = true) : acc p (sug p o) = true := by
  unfold acc at h ⊢
  rw [sug_fst]
  split
  · rename_i e; rw [if_pos e] at h; exact h
  · rename_i e; rw [if_neg e] at h; exact sug_good (by unfold acc; rw [if_neg e]; exact h)
theorem nz_id {v : UInt32} (h : v ≠ 0) : nz v = v := if_neg h
theorem u32_not_ne (v : UInt32) : ~~~ v ≠ v := by
  intro e
  have h1 := congrArg UInt32.toBitVec e
  have h2 : (~~~ v.toBitVec).getLsbD 0 = v.toBitVec.getLsbD 0 := congrArg (fun b : BitVec 32 => b.getLsbD 0) h1
  rw [BitVec.getLsbD_not] at h2
  revert h2
  cases v.toBitVec.getLsbD 0 <;> simp
theorem canbit {c : UInt8} (hc : (c != 0) = true) (h3 : c ≤ 3) (h2 : (c &&& 2 != 0) = false) : (c &&& 1 != 0) = true := by
  have hn : c.toNat ≤ 3 := UInt8.le_iff_toNat_le.1 h3
  have : c = 0 ∨ c = 1 ∨ c = 2 ∨ c = 3 := by
    rcases (show c.toNat = 0 ∨ c.toNat = 1 ∨ c.toNat = 2 ∨ c.toNat = 3 by omega) with e | e | e | e
    · exact .inl (UInt8.toNat_inj.1 e)
    · exact .inr (.inl (UInt8.toNat_inj.1 e))
    · exact .inr (.inr (.inl (UInt8.toNat_inj.1 e)))
    · exact .inr (.inr (.inr (UInt8.toNat_inj.1 e)))
  rcases this with rfl | rfl | rfl | rfl
  · cases hc
  · rfl
  · exact absurd h2 (by decide)
  · rfl
/-- What is suggested is not bettered again. -/
theorem bet_bet {p : Po} {o : Opt} (h : acc p o = true) (hc : p.c.can ≤ 3) : bet p o.1 (bet p o.1 (lo o)) = bet p o.1 (lo o) := by
  by_cases h1 : o.1 = 1
  · rw [h1]
    unfold bet
    rw [if_pos rfl, if_pos rfl]
    by_cases hl : (lo o).mru < 64
    · simp only [hl, if_true]
      rfl
    · simp only [hl, if_false]
  · by_cases h3 : o.1 = 3
    · have hcan : (p.c.can != 0) = true := by unfold acc at h; rw [if_pos h3] at h; exact h
      rw [h3]
      unfold bet
      simp only [show ¬ (3 : UInt8) = 1 by decide, if_false, if_true]
      cases ha : (p.c.can &&& (lo o).auth != 0)
      · simp only [Bool.false_eq_true, if_false]
        cases h2 : (p.c.can &&& 2 != 0)
        · simp only [Bool.false_eq_true, if_false, canbit hcan hc h2, if_true]
        · simp only [if_true, h2]
      · simp only [if_true, ha]
    · by_cases h5 : o.1 = 5
      · rw [h5]
        unfold bet
        simp only [show ¬ (5 : UInt8) = 1 by decide, show ¬ (5 : UInt8) = 3 by decide, if_false, if_true]
        generalize lo o = x
        cases hA : (x.magic != 0 && !isOwn p.w x)
        · simp only [Bool.false_eq_true, if_false]
          cases hB : isOwn p.w { x with magic := nz (~~~ x.magic) }
          · simp only [Bool.false_eq_true, if_false, hB, Bool.not_false, Bool.and_true]
            rw [show (nz (~~~ x.magic) != 0) = true from by rw [bne_iff_ne]; exact nz_ne _]
            rfl
          · simp only [if_true]
            have hC : isOwn p.w { x with magic := 1 } = false := by
              unfold isOwn at hA hB ⊢
              simp only [Bool.and_eq_true, beq_iff_eq] at hB
              obtain ⟨⟨hg, hx⟩, he⟩ := hB
              simp only [hg, hx, Bool.true_and] at hA ⊢
              rw [beq_eq_false_iff_ne]
              intro e1
              rw [← e1] at he
              rw [← e1] at hA
              have hx0 : x.magic = 0 ∨ x.magic = 1 := by
                rcases Bool.and_eq_false_iff.1 hA with h | h
                · exact .inl (by simpa using h)
                · exact .inr (by simpa using h)
              rcases hx0 with e | e
              · rw [e] at he; exact absurd he (by decide)
              · rw [e] at he; exact absurd he (by decide)
            rw [hC]
            rfl
        · simp only [if_true, hA]
      · rw [bet_same _ h1 h3 h5, bet_same _ h1 h3 h5]
theorem sug_sug {p : Po} {o : Opt} (h : acc p o = true) (hc : p.c.can ≤ 3) : sug p (sug p o) = sug p o := by
  show (o.1, dat o.1 (bet p o.1 (lo (sug p o)))) = (o.1, dat o.1 (bet p o.1 (lo o)))
  rw [lo_sug h, bet_bet h hc]
end Go.Proofs.YtpohcejgblahiaaGreat.Pol

/- What comes of a request: plain mathematics for the laws. -/
namespace Go.Proofs.YtpohcejgblahiaaGreat.Pol
open Go.Proofs.YtpohcejgblahiaaGreat.Oct Go.Proofs.YtpohcejgblahiaaGreat.Opt Go.Proofs.YtpohcejgblahiaaGreat.Lco

theorem vs_append (p : Po) (l : List Opt) (o : Opt) : vs p (l ++ [o]) = vs p l ++ [ver p l o] := by
  have h := vs_snoc p (l ++ [o]) l.length o (by simp)
  rw [List.take_of_length_le (by simp), List.take_left] at h
  exact h
theorem refs_append (a b : List Ver) : refs (a ++ b) = refs a ++ refs b := List.filterMap_append
theorem poors_append (a b : List Ver) : poors (a ++ b) = poors a ++ poors b := List.filterMap_append
theorem insts_append (a b : List Ver) : insts (a ++ b) = insts a ++ insts b := List.filterMap_append
theorem seen_iff (l : List Opt) (t : UInt8) : seen l t = false ↔ ∀ d, (t, d) ∉ l := by
  unfold seen
  rw [List.any_eq_false]
  constructor
  · intro h d hd
    exact h _ hd (by simp)
  · rintro h ⟨u, d⟩ ho e
    simp only [beq_iff_eq] at e
    subst e
    exact h d ho
theorem ver_clean {p : Po} {l : List Opt} {o : Opt} (hs : seen l o.1 = false) (ha : acc p o = true) : ver p l o = ⟨o, false, sug p o⟩ := by unfold ver; rw [hs, ha]; rfl
theorem refs_one (v : Ver) : refs [v] = if v.rej then [v.got] else [] := by unfold refs; cases h : v.rej <;> simp [h]
theorem poors_one (v : Ver) : poors [v] = if poor v then [v.got] else [] := by unfold poors; cases h : poor v <;> simp [h]
theorem insts_one (v : Ver) : insts [v] = if poor v then [v.bet] else [] := by unfold insts; cases h : poor v <;> simp [h]
def other (p : Po) (o : Opt) : Bool := !decide (sug p o = o)
/-- Where nothing is rejected. -/
theorem clean (p : Po) (l : List Opt) : refs (vs p l) = [] ↔ (∀ o ∈ l, acc p o = true) ∧ Dis l := by
  revert l
  refine Lco.snoc_ind ⟨fun _ => ⟨(fun o h => by cases h), List.nodup_nil⟩, fun _ => rfl⟩ fun l o ih => ?_
  rw [vs_append, refs_append, refs_one, List.append_eq_nil_iff, ih, dis_snoc, ← seen_iff]
  unfold ver
  cases hs : seen l o.1
  · cases ha : acc p o
    · simp only [Bool.not_false, Bool.or_true, if_true]
      constructor
      · rintro ⟨_, h⟩; cases h
      · rintro ⟨h, _⟩
        rw [h o (by simp)] at ha
        cases ha
    · simp only [Bool.not_true, Bool.or_false, Bool.false_eq_true, if_false, and_true]
      constructor
      · rintro ⟨h, hd⟩
        refine ⟨fun x hx => ?_, hd⟩
        rcases List.mem_append.1 hx with hx | hx
        · exact h x hx
        · rw [List.mem_singleton] at hx; rw [hx]; exact ha
      · rintro ⟨h, hd⟩
        exact ⟨fun x hx => h x (by simp [hx]), hd⟩
  · simp only [Bool.true_or, if_true]
    constructor
    · rintro ⟨_, h⟩; cases h
    · rintro ⟨_, _, h⟩; cases h
theorem clean_vs' (p : Po) : ∀ l : List Opt, refs (vs p l) = [] → poors (vs p l) = l.filter (other p) ∧ insts (vs p l) = (l.filter (other p)).map (sug p) := by
  refine Lco.snoc_ind (fun _ => ⟨rfl, rfl⟩) fun l o ih h => ?_
  have hc := (clean p (l ++ [o])).1 h
  rw [vs_append, refs_append, List.append_eq_nil_iff] at h
  obtain ⟨h1, h2⟩ := ih h.1
  have hv : ver p l o = ⟨o, false, sug p o⟩ := ver_clean ((seen_iff _ _).2 ((dis_snoc l o).1 hc.2).2) (hc.1 o (by simp))
  rw [vs_append, poors_append, insts_append, poors_one, insts_one, hv, h1, h2, List.filter_append, List.map_append]
  have hp : poor ⟨o, false, sug p o⟩ = other p o := rfl
  rw [hp]
  cases he : other p o <;> simp [he]
theorem clean_vs {p : Po} {l : List Opt} (h : refs (vs p l) = []) : poors (vs p l) = l.filter (other p) ∧ insts (vs p l) = (l.filter (other p)).map (sug p) := clean_vs' p l h
theorem acks_good {p : Po} {l : List Opt} (h : refs (vs p l) = []) (h2 : poors (vs p l) = []) : ∀ o ∈ l, sug p o = o ∧ good o = true := by
  intro o ho
  rw [(clean_vs h).1, List.filter_eq_nil_iff] at h2
  have h3 : sug p o = o := by simpa [other] using h2 o ho
  exact ⟨h3, by rw [← h3]; exact sug_good (((clean p l).1 h).1 o ho)⟩
/-- Good ones of unlike types are got whole. -/
theorem got_all {l : List Opt} (hg : ∀ o ∈ l, good o = true) (hd : Dis l) : ∃ y, st l = some (y, []) ∧ Rep y l := by
  obtain ⟨y, h1, h2⟩ := (st_spec l).1 (by rw [goods_all hg]; exact hd)
  rw [odds_all hg] at h1
  rw [goods_all hg] at h2
  exact ⟨y, h1, h2⟩
theorem fd_dis {l : List Opt} {o : Opt} (hd : Dis l) (ho : o ∈ l) : fd o.1 l = some o := by
  unfold fd
  cases hf : l.find? fun x => x.1 == o.1 with
  | none =>
    rw [List.find?_eq_none] at hf
    exact absurd (by simp) (hf o ho)
  | some x =>
    have h1 := List.find?_some hf
    have h2 := List.mem_of_find?_eq_some hf
    simp only [beq_iff_eq] at h1
    obtain ⟨a, b, rfl⟩ := List.append_of_mem ho
    congr 1
    unfold Dis at hd
    rw [List.map_append, List.map_cons, List.nodup_append, List.nodup_cons] at hd
    rcases List.mem_append.1 h2 with h | h
    · exact absurd h1 (hd.2.2 x.1 (List.mem_map.2 ⟨x, h, rfl⟩) o.1 (by simp))
    · rcases List.mem_cons.1 h with h | h
      · exact h
      · exact absurd (List.mem_map.2 ⟨x, h, h1⟩) hd.2.1.1
theorem fd_none {l : List Opt} {t : UInt8} : fd t l = none ↔ ∀ d, (t, d) ∉ l := by
  rw [← seen_iff]
  unfold fd seen
  rw [List.find?_eq_none, List.any_eq_false]
theorem dis_sub {l m : List Opt} (h : m.Sublist l) (hd : Dis l) : Dis m := List.Nodup.sublist (h.map _) hd
theorem dis_map {p : Po} {l : List Opt} (hd : Dis l) : Dis (l.map (sug p)) := by
  unfold Dis at *
  rw [List.map_map]
  exact hd
/-- .. with what was told. -/
theorem naks_ok {p : Po} {l : List Opt} (h : refs (vs p l) = []) : (∀ o ∈ insts (vs p l), good o = true) ∧ Dis (insts (vs p l)) ∧ ∀ x ∈ insts (vs p l), ∃ o, fd x.1 l = some o ∧ ¬ o = x := by
  obtain ⟨h1, h2⟩ := (clean p l).1 h
  rw [(clean_vs h).2]
  refine ⟨fun o ho => ?_, dis_map (dis_sub List.filter_sublist h2), fun x hx => ?_⟩
  · obtain ⟨y, hy, rfl⟩ := List.mem_map.1 ho
    exact sug_good (h1 y (List.mem_filter.1 hy).1)
  · obtain ⟨y, hy, rfl⟩ := List.mem_map.1 hx
    obtain ⟨hy1, hy2⟩ := List.mem_filter.1 hy
    exact ⟨y, fd_dis h2 hy1, fun e => by simp [other, ← e] at hy2⟩
theorem vs_got (p : Po) (l : List Opt) : (vs p l).map (·.got) = l := by
  revert l
  refine Lco.snoc_ind rfl fun l o ih => ?_
  rw [vs_append, List.map_append, ih]
  congr 1
  unfold ver
  split <;> rfl
theorem pick_sub (q : Ver → Bool) (l : List Ver) : (l.filterMap fun v => if q v then some v.got else none).Sublist (l.map (·.got)) := by
  induction l with
  | nil => exact List.Sublist.slnil
  | cons v l ih =>
    rw [List.filterMap_cons, List.map_cons]
    cases h : q v
    · exact List.Sublist.cons _ ih
    · exact List.Sublist.cons_cons _ ih
theorem refs_sub (p : Po) (l : List Opt) : (refs (vs p l)).Sublist l := by have := pick_sub (fun v => v.rej) (vs p l); rwa [vs_got] at this
theorem poors_sub (p : Po) (l : List Opt) : (poors (vs p l)).Sublist l := by have := pick_sub poor (vs p l); rwa [vs_got] at this
/-- Where one is to be told, one is told. -/
theorem insts_ne {p : Po} {l : List Opt} (h : refs (vs p l) = []) (h2 : ¬ poors (vs p l) = []) : ¬ insts (vs p l) = [] := by
  rw [(clean_vs h).2, List.map_eq_nil_iff, ← (clean_vs h).1]
  exact h2

/-! ### a row within a row -/
def gm : List Opt → List Opt → List Opt
  | _, [] => []
  | [], b :: x => b :: x
  | a :: l, b :: x => if a = b then gm l x else gm l (b :: x)
theorem gm_sub : ∀ {l x : List Opt}, x.Sublist l → gm l x = []
  | _, [], _ => by unfold gm; rfl
  | [], b :: x, h => by cases h
  | a :: l, b :: x, h => by
    unfold gm
    by_cases e : a = b
    · rw [if_pos e]
      cases h with
      | cons _ h => exact gm_sub ((List.sublist_cons_self b x).trans h)
      | cons_cons _ h => exact gm_sub h
    · rw [if_neg e]
      cases h with
      | cons _ h => exact gm_sub h
      | cons_cons _ h => exact absurd rfl e

/-! ### a request that is mended -/
def mend (C : Nat) (x l : List Opt) : List Opt := l.filterMap fun o => if C = 4 then (if fB o.1 x then none else some o) else some (if fB o.1 x then fA o.1 x else o)
theorem mend_sub (x l : List Opt) : (mend 4 x l).Sublist l := by
  unfold mend
  simp only [if_true]
  induction l with
  | nil => exact List.Sublist.slnil
  | cons o l ih =>
    rw [List.filterMap_cons]
    cases h : fB o.1 x
    · exact List.Sublist.cons_cons _ ih
    · exact List.Sublist.cons _ ih
theorem rej_mem (p : Po) (o : Opt) (ha : acc p o = false) : ∀ l : List Opt, o ∈ l → o ∈ refs (vs p l) := by
  refine Lco.snoc_ind (fun h => by cases h) fun l x ih h => ?_
  rw [vs_append, refs_append, refs_one, List.mem_append]
  rcases List.mem_append.1 h with h | h
  · exact .inl (ih h)
  · rw [List.mem_singleton] at h
    subst h
    unfold ver
    rw [ha]
    simp
theorem dis_filter (p : Po) (X : UInt8 → Bool) : ∀ l : List Opt, (∀ o ∈ refs (vs p l), X o.1 = true) → Dis (l.filter fun o => !X o.1) := by
  refine Lco.snoc_ind (fun _ => List.nodup_nil) fun l o ih h => ?_
  rw [vs_append, refs_append] at h
  have h1 := ih fun x hx => h x (List.mem_append.2 (.inl hx))
  rw [List.filter_append]
  cases hX : X o.1
  · have hs : seen l o.1 = false := by
      cases hs : seen l o.1
      · rfl
      · have := h o (List.mem_append.2 (.inr (by rw [refs_one]; unfold ver; rw [hs]; simp)))
        rw [hX] at this
        cases this
    have e : ([o].filter fun o => !X o.1) = [o] := by simp [hX]
    rw [e, dis_snoc]
    exact ⟨h1, fun d hd => (seen_iff _ _).1 hs d (List.mem_filter.1 hd).1⟩
  · have e : ([o].filter fun o => !X o.1) = [] := by simp [hX]
    rw [e, List.append_nil]
    exact h1
theorem fB_mem {x : List Opt} {o : Opt} (h : o ∈ x) : fB o.1 x = true := by
  unfold fB
  cases hf : fd o.1 x with
  | some _ => rfl
  | none => exact absurd h (fd_none.1 hf o.2)
theorem mend4 (x l : List Opt) : mend 4 x l = l.filter fun o => !fB o.1 x := by
  unfold mend
  simp only [if_true]
  induction l with
  | nil => rfl
  | cons o l ih => rw [List.filterMap_cons, List.filter_cons]; cases h : fB o.1 x <;> simp [ih]
/-- What is left of one of which some were rejected. -/
theorem mend_rej (p : Po) (l : List Opt) : refs (vs p (mend 4 (refs (vs p l)) l)) = [] := by
  rw [mend4, clean]
  refine ⟨fun o ho => ?_, dis_filter p (fun t => fB t (refs (vs p l))) l fun o ho => fB_mem ho⟩
  obtain ⟨h1, h2⟩ := List.mem_filter.1 ho
  cases ha : acc p o
  · rw [fB_mem (rej_mem p o ha l h1)] at h2; cases h2
  · rfl
theorem fm_map (f : Opt → Option Opt) (g : Opt → Opt) : ∀ l : List Opt, (∀ o ∈ l, f o = some (g o)) → l.filterMap f = l.map g
  | [], _ => rfl
  | o :: l, h => by
    rw [List.filterMap_cons, h o (by simp), List.map_cons, fm_map f g l fun x hx => h x (by simp [hx])]
/-- What becomes of one of which some were to be others. -/
theorem mend_nak {p : Po} {l : List Opt} (h : refs (vs p l) = []) : mend 3 (insts (vs p l)) l = l.map (sug p) := by
  have hd := ((clean p l).1 h).2
  obtain ⟨_, hdi, _⟩ := naks_ok h
  unfold mend
  refine fm_map _ _ l fun o ho => ?_
  rw [if_neg (by decide)]
  congr 1
  cases he : other p o
  · have hn : fd o.1 (insts (vs p l)) = none := by
      rw [fd_none, (clean_vs h).2]
      intro d hm
      obtain ⟨y, hy, e⟩ := List.mem_map.1 hm
      obtain ⟨hy1, hy2⟩ := List.mem_filter.1 hy
      have e1 : (sug p y).1 = o.1 := by rw [e]
      have e2 := fd_dis hd hy1
      rw [show y.1 = o.1 from e1, fd_dis hd ho] at e2
      cases e2
      rw [he] at hy2
      cases hy2
    unfold fB
    rw [hn]
    show o = sug p o
    have : sug p o = o := by simpa [other] using he
    exact this.symm
  · have hm : sug p o ∈ insts (vs p l) := by
      rw [(clean_vs h).2]
      exact List.mem_map.2 ⟨o, List.mem_filter.2 ⟨ho, he⟩, rfl⟩
    have hf : fd o.1 (insts (vs p l)) = some (sug p o) := fd_dis hdi hm
    unfold fB fA
    rw [hf]
    rfl
theorem sug_clean {p : Po} {l : List Opt} (h : refs (vs p l) = []) (hc : p.c.can ≤ 3) : refs (vs p (l.map (sug p))) = [] ∧ poors (vs p (l.map (sug p))) = [] := by
  obtain ⟨h1, h2⟩ := (clean p l).1 h
  have hr : refs (vs p (l.map (sug p))) = [] := (clean p _).2 ⟨fun o ho => by
    obtain ⟨y, hy, rfl⟩ := List.mem_map.1 ho
    exact acc_sug (h1 y hy), dis_map h2⟩
  refine ⟨hr, ?_⟩
  rw [(clean_vs hr).1, List.filter_eq_nil_iff]
  intro o ho
  obtain ⟨y, hy, rfl⟩ := List.mem_map.1 ho
  simp [other, sug_sug (h1 y hy) hc]
/-- A policy's verdicts hang on its wishes and its conf alone. -/
theorem vs_same {p q : Po} (hw : p.w = q.w) (hc : p.c = q.c) (l : List Opt) : vs p l = vs q l := by
  obtain ⟨w, c, _, _, _, _, _⟩ := p
  obtain ⟨w', c', _, _, _, _, _⟩ := q
  simp only at hw hc
  subst hw hc
  rfl
theorem jP_w (p : Po) (l : List Opt) : (jP p l).w = p.w ∧ (jP p l).c = p.c ∧ (jP p l).naks ≤ p.naks + 1 ∧ (jP p l).loops ≤ p.loops + 1 := by
  have hl : (loopP p l).w = p.w ∧ (loopP p l).c = p.c ∧ (loopP p l).loops ≤ p.loops + 1 := by
    unfold loopP
    split
    · exact ⟨rfl, rfl, Nat.le_refl _⟩
    · exact ⟨rfl, rfl, Nat.le_succ _⟩
  unfold jP
  split
  · exact ⟨hl.1, hl.2.1, Nat.zero_le _, hl.2.2⟩
  · split
    · split
      · exact ⟨hl.1, hl.2.1, Nat.zero_le _, hl.2.2⟩
      · exact ⟨hl.1, hl.2.1, Nat.le_refl _, hl.2.2⟩
    · exact ⟨hl.1, hl.2.1, Nat.zero_le _, hl.2.2⟩
end Go.Proofs.YtpohcejgblahiaaGreat.Pol
