/- Put together: IppR, IppWay, IppT, IppO. -/
import Derived.Test.YtgefodpnhifmdaaGreatGOpts

/- What is suggested: plain mathematics. -/
namespace Go.Proofs.YtgefodpnhifmdaaGreat.Ipp
open Go.Proofs.YtgefodpnhifmdaaGreat.Oct Go.Proofs.YtgefodpnhifmdaaGreat.Opt Go.Proofs.YtgefodpnhifmdaaGreat.Ipc

theorem sug_fst (p : Po) (o : Opt) : (sug p o).1 = o.1 := rfl
theorem sug_good' {p : Po} {o : Opt} (h : known o.1 = true) : good (sug p o) = true := good_of h (sug_size p o)
theorem sug_good {p : Po} {o : Opt} (h : ok p o = true) : good (sug p o) = true := sug_good' (ok_known h)
theorem ad_num (t : UInt8) (v : UInt32) : ad (t, bOf (numS v.toNat 4)) = v := numS_u32 v
theorem or_or (a b : UInt32) : or32 a (or32 a b) = or32 a b := by
  unfold or32
  by_cases h : a = 0
  · rw [if_pos h]
  · rw [if_neg h, if_neg h]
theorem sa_sug {p : Po} {o : Opt} (h : known o.1 = true) : sa p o.1 (lo (sug p o)) = sa p o.1 (lo o) := by
  by_cases h3 : o.1 = 3
  · have e : (lo (sug p o)).addr = sa p o.1 (lo o) := by
      rw [lo_addr (sug_good' h) h3]
      exact ad_num _ _
    unfold sa at e ⊢
    rw [if_pos h3] at e
    rw [if_pos h3, if_pos h3, e, or_or]
  · unfold sa
    rw [if_neg h3, if_neg h3]
theorem ok_sug {p : Po} {o : Opt} (h : ok p o = true) : ok p (sug p o) = true := by
  have hk := ok_known h
  unfold ok at h ⊢
  rw [sug_fst, sug_good' hk, sa_sug hk]
  rw [Bool.and_eq_true_iff] at h
  rw [h.2]
  rfl
theorem sug_sug {p : Po} {o : Opt} (h : ok p o = true) : sug p (sug p o) = sug p o := by
  show (o.1, bOf (numS (sa p o.1 (lo (sug p o))).toNat 4)) = (o.1, bOf (numS (sa p o.1 (lo o)).toNat 4))
  rw [sa_sug (ok_known h)]
/-- The option with the address that the peer is to have. -/
def oPeer (p : Po) : Opt := (3, bOf (numS p.c.peer.toNat 4))
theorem sa_peer {p : Po} (h : p.c.peer ≠ 0) (x : Ipc) : sa p 3 x = p.c.peer := by
  unfold sa or32
  rw [if_pos rfl, if_neg h]
theorem good_peer (p : Po) : good (oPeer p) = true := good_of rfl (by show (bOf _).size = 4; rw [size_bOf, numS_length])
theorem sug_peer {p : Po} (h : p.c.peer ≠ 0) {o : Opt} (h3 : o.1 = 3) : sug p o = oPeer p := by
  unfold sug oPeer
  rw [h3, sa_peer h]
theorem ok_peer {p : Po} (h : p.c.peer ≠ 0) {o : Opt} (hg : good o = true) (h3 : o.1 = 3) : ok p o = true := by
  unfold ok
  rw [h3, sa_peer h, hg]
  exact bne_iff_ne.2 h
theorem miss_some {p : Po} {l : List Opt} (h : fB 3 l = false) (hp : p.c.peer ≠ 0) : miss p l = [oPeer p] := by
  rw [miss_eq, h]
  simp [hp, oPeer]
theorem miss_has {p : Po} {l : List Opt} (h : fB 3 l = true) : miss p l = [] := by rw [miss_eq, h]; rfl
theorem miss_zero {p : Po} {l : List Opt} (hp : p.c.peer = 0) : miss p l = [] := by rw [miss_eq, hp]; split <;> rfl
theorem miss_nil {p : Po} {l : List Opt} (h : miss p l = []) : fB 3 l = true ∨ p.c.peer = 0 := by
  cases hb : fB 3 l
  · by_cases hp : p.c.peer = 0
    · exact .inr hp
    · rw [miss_some hb hp] at h; cases h
  · exact .inl rfl
theorem miss_mem {p : Po} {l : List Opt} {o : Opt} (h : o ∈ miss p l) : o = oPeer p ∧ p.c.peer ≠ 0 ∧ fB 3 l = false := by
  cases hb : fB 3 l
  · by_cases hp : p.c.peer = 0
    · rw [miss_zero hp] at h; cases h
    · rw [miss_some hb hp, List.mem_singleton] at h; exact ⟨h, hp, rfl⟩
  · rw [miss_has hb] at h; cases h
end Go.Proofs.YtgefodpnhifmdaaGreat.Ipp

/- Which way Judge goes: plain mathematics. -/
namespace Go.Proofs.YtgefodpnhifmdaaGreat.Ipp
open Go.Proofs.YtgefodpnhifmdaaGreat.Oct Go.Proofs.YtgefodpnhifmdaaGreat.Opt Go.Proofs.YtgefodpnhifmdaaGreat.Ipc

theorem way_rej {p : Po} {l : List Opt} (h : ¬ refs (vs p l) = []) : way p l = .rej := if_pos h
theorem way_nak {p : Po} {l : List Opt} (h : refs (vs p l) = []) (h2 : ¬ sugs p l = []) (hx : (p.naks : Int) < p.c.mn) : way p l = .nak := by unfold way; rw [if_neg (by rw [h]; simp), if_pos ⟨h2, hx⟩]
theorem way_poor {p : Po} {l : List Opt} (h : refs (vs p l) = []) (hx : ¬ (p.naks : Int) < p.c.mn) (h3 : ¬ poors (vs p l) = []) : way p l = .poor := by unfold way; rw [if_neg (by rw [h]; simp), if_neg (fun e => hx e.2), if_pos h3]
theorem poors_len (l : List Ver) : (poors l).length = (insts l).length := by
  induction l with
  | nil => rfl
  | cons v l ih =>
    unfold poors insts at *
    rw [List.filterMap_cons, List.filterMap_cons]
    cases poor v <;> simp [ih]
theorem sugs_nil {p : Po} {l : List Opt} (h : sugs p l = []) : poors (vs p l) = [] ∧ insts (vs p l) = [] ∧ miss p l = [] := by
  obtain ⟨h1, h2⟩ := List.append_eq_nil_iff.1 h
  have := poors_len (vs p l)
  rw [h1] at this
  exact ⟨List.length_eq_zero_iff.1 this, h1, h2⟩
theorem way_ack {p : Po} {l : List Opt} (h : refs (vs p l) = []) (h2 : sugs p l = []) : way p l = .ack := by unfold way; rw [if_neg (by rw [h]; simp), if_neg (fun e => e.1 h2), if_neg (by rw [(sugs_nil h2).1]; simp)]
theorem way_ack' {p : Po} {l : List Opt} (h : refs (vs p l) = []) (hx : ¬ (p.naks : Int) < p.c.mn) (h3 : poors (vs p l) = []) : way p l = .ack := by unfold way; rw [if_neg (by rw [h]; simp), if_neg (fun e => hx e.2), if_neg (by rw [h3]; simp)]
theorem rej_of {p : Po} {l : List Opt} (h : way p l = .rej) : jC p l = 4 ∧ jA p l = refs (vs p l) ∧ jP p l = { p with naks := 0 } := by unfold jC jA jP; rw [h]; exact ⟨rfl, rfl, rfl⟩
theorem nak_of {p : Po} {l : List Opt} (h : way p l = .nak) : jC p l = 3 ∧ jA p l = sugs p l ∧ jP p l = { p with naks := p.naks + 1 } := by unfold jC jA jP; rw [h]; exact ⟨rfl, rfl, rfl⟩
theorem poor_of {p : Po} {l : List Opt} (h : way p l = .poor) : jC p l = 4 ∧ jA p l = poors (vs p l) ∧ jP p l = { p with naks := 0 } := by unfold jC jA jP; rw [h]; exact ⟨rfl, rfl, rfl⟩
theorem ack_of {p : Po} {l : List Opt} (h : way p l = .ack) : jC p l = 2 ∧ jA p l = l ∧ jP p l = { p with naks := 0, peer := Ipc.gL l } := by unfold jC jA jP; rw [h]; exact ⟨rfl, rfl, rfl⟩
end Go.Proofs.YtgefodpnhifmdaaGreat.Ipp

/- What comes of a request: plain mathematics for the laws. -/
namespace Go.Proofs.YtgefodpnhifmdaaGreat.Ipp
open Go.Proofs.YtgefodpnhifmdaaGreat.Oct Go.Proofs.YtgefodpnhifmdaaGreat.Opt Go.Proofs.YtgefodpnhifmdaaGreat.Ipc

theorem vs_append (p : Po) (l : List Opt) (o : Opt) : vs p (l ++ [o]) = vs p l ++ [ver p l o] := by
  have h := vs_snoc p (l ++ [o]) l.length o (by simp)
  rw [List.take_of_length_le (by simp), List.take_left] at h
  exact h
theorem refs_append (a b : List Ver) : refs (a ++ b) = refs a ++ refs b := List.filterMap_append
theorem poors_append (a b : List Ver) : poors (a ++ b) = poors a ++ poors b := List.filterMap_append
theorem insts_append (a b : List Ver) : insts (a ++ b) = insts a ++ insts b := List.filterMap_append
theorem seen_iff (l : List Opt) (t : UInt8) : seen l t = false ↔ ∀ d, (t, d) ∉ l := by
  unfold seen
  rw [List.any_eq_false]
  constructor
  · intro h d hd
    exact h _ hd (by simp)
  · rintro h ⟨u, d⟩ ho e
    simp only [beq_iff_eq] at e
    subst e
    exact h d ho
theorem ver_clean {p : Po} {l : List Opt} {o : Opt} (hs : seen l o.1 = false) (ha : ok p o = true) : ver p l o = ⟨o, false, sug p o⟩ := by unfold ver imp; rw [hs, ha]; rfl
theorem refs_one (v : Ver) : refs [v] = if v.rej then [v.got] else [] := by unfold refs; cases h : v.rej <;> simp [h]
theorem poors_one (v : Ver) : poors [v] = if poor v then [v.got] else [] := by unfold poors; cases h : poor v <;> simp [h]
theorem insts_one (v : Ver) : insts [v] = if poor v then [v.bet] else [] := by unfold insts; cases h : poor v <;> simp [h]
def other (p : Po) (o : Opt) : Bool := !decide (sug p o = o)
/-- Where nothing is rejected. -/
theorem clean (p : Po) (l : List Opt) : refs (vs p l) = [] ↔ (∀ o ∈ l, ok p o = true) ∧ Dis l := by
  revert l
  refine Ipc.snoc_ind ⟨fun _ => ⟨(fun o h => by cases h), List.nodup_nil⟩, fun _ => rfl⟩ fun l o ih => ?_
  rw [vs_append, refs_append, refs_one, List.append_eq_nil_iff, ih, dis_snoc, ← seen_iff]
  unfold ver
  cases hs : seen l o.1
  · cases ha : ok p o
    · simp only [Bool.not_false, Bool.or_true, if_true]
      constructor
      · rintro ⟨_, h⟩; cases h
      · rintro ⟨h, _⟩
        rw [h o (by simp)] at ha
        cases ha
    · simp only [Bool.not_true, Bool.or_false, Bool.false_eq_true, if_false, and_true]
      constructor
      · rintro ⟨h, hd⟩
        refine ⟨fun x hx => ?_, hd⟩
        rcases List.mem_append.1 hx with hx | hx
        · exact h x hx
        · rw [List.mem_singleton] at hx; rw [hx]; exact ha
      · rintro ⟨h, hd⟩
        exact ⟨fun x hx => h x (by simp [hx]), hd⟩
  · simp only [Bool.true_or, if_true]
    constructor
    · rintro ⟨_, h⟩; cases h
    · rintro ⟨_, _, h⟩; cases h
theorem clean_vs' (p : Po) : ∀ l : List Opt, refs (vs p l) = [] → poors (vs p l) = l.filter (other p) ∧ insts (vs p l) = (l.filter (other p)).map (sug p) := by
  refine Ipc.snoc_ind (fun _ => ⟨rfl, rfl⟩) fun l o ih h => ?_
  have hc := (clean p (l ++ [o])).1 h
  rw [vs_append, refs_append, List.append_eq_nil_iff] at h
  obtain ⟨h1, h2⟩ := ih h.1
  have hv : ver p l o = ⟨o, false, sug p o⟩ := ver_clean ((seen_iff _ _).2 ((dis_snoc l o).1 hc.2).2) (hc.1 o (by simp))
  rw [vs_append, poors_append, insts_append, poors_one, insts_one, hv, h1, h2, List.filter_append, List.map_append]
  have hp : poor ⟨o, false, sug p o⟩ = other p o := rfl
  rw [hp]
  cases he : other p o <;> simp [he]
theorem clean_vs {p : Po} {l : List Opt} (h : refs (vs p l) = []) : poors (vs p l) = l.filter (other p) ∧ insts (vs p l) = (l.filter (other p)).map (sug p) := clean_vs' p l h
theorem acks_good {p : Po} {l : List Opt} (h : refs (vs p l) = []) (h2 : poors (vs p l) = []) : ∀ o ∈ l, sug p o = o ∧ good o = true := by
  intro o ho
  rw [(clean_vs h).1, List.filter_eq_nil_iff] at h2
  have h3 : sug p o = o := by simpa [other] using h2 o ho
  exact ⟨h3, by rw [← h3]; exact sug_good (((clean p l).1 h).1 o ho)⟩
/-- Good ones of unlike types are got whole. -/
theorem got_all {l : List Opt} (hg : ∀ o ∈ l, good o = true) (hd : Dis l) : ∃ y, st l = some (y, []) ∧ Rep y l := by
  obtain ⟨y, h1, h2⟩ := (st_spec l).1 (by rw [goods_all hg]; exact hd)
  rw [odds_all hg] at h1
  rw [goods_all hg] at h2
  exact ⟨y, h1, h2⟩
theorem fd_dis {l : List Opt} {o : Opt} (hd : Dis l) (ho : o ∈ l) : fd o.1 l = some o := by
  unfold fd
  cases hf : l.find? fun x => x.1 == o.1 with
  | none =>
    rw [List.find?_eq_none] at hf
    exact absurd (by simp) (hf o ho)
  | some x =>
    have h1 := List.find?_some hf
    have h2 := List.mem_of_find?_eq_some hf
    simp only [beq_iff_eq] at h1
    obtain ⟨a, b, rfl⟩ := List.append_of_mem ho
    congr 1
    unfold Dis at hd
    rw [List.map_append, List.map_cons, List.nodup_append, List.nodup_cons] at hd
    rcases List.mem_append.1 h2 with h | h
    · exact absurd h1 (hd.2.2 x.1 (List.mem_map.2 ⟨x, h, rfl⟩) o.1 (by simp))
    · rcases List.mem_cons.1 h with h | h
      · exact h
      · exact absurd (List.mem_map.2 ⟨x, h, h1⟩) hd.2.1.1
theorem fd_none {l : List Opt} {t : UInt8} : fd t l = none ↔ ∀ d, (t, d) ∉ l := by
  rw [← seen_iff]
  unfold fd seen
  rw [List.find?_eq_none, List.any_eq_false]
theorem dis_sub {l m : List Opt} (h : m.Sublist l) (hd : Dis l) : Dis m := List.Nodup.sublist (h.map _) hd
theorem dis_map {p : Po} {l : List Opt} (hd : Dis l) : Dis (l.map (sug p)) := by
  unfold Dis at *
  rw [List.map_map]
  exact hd
/-- .. with what was told. -/
theorem naks_ok {p : Po} {l : List Opt} (h : refs (vs p l) = []) : (∀ o ∈ insts (vs p l), good o = true) ∧ Dis (insts (vs p l)) ∧ ∀ x ∈ insts (vs p l), ∃ o, fd x.1 l = some o ∧ ¬ o = x := by
  obtain ⟨h1, h2⟩ := (clean p l).1 h
  rw [(clean_vs h).2]
  refine ⟨fun o ho => ?_, dis_map (dis_sub List.filter_sublist h2), fun x hx => ?_⟩
  · obtain ⟨y, hy, rfl⟩ := List.mem_map.1 ho
    exact sug_good (h1 y (List.mem_filter.1 hy).1)
  · obtain ⟨y, hy, rfl⟩ := List.mem_map.1 hx
    obtain ⟨hy1, hy2⟩ := List.mem_filter.1 hy
    exact ⟨y, fd_dis h2 hy1, fun e => by simp [other, ← e] at hy2⟩
theorem vs_got (p : Po) (l : List Opt) : (vs p l).map (·.got) = l := by
  revert l
  refine Ipc.snoc_ind rfl fun l o ih => ?_
  rw [vs_append, List.map_append, ih]
  rfl
theorem pick_sub (q : Ver → Bool) (l : List Ver) : (l.filterMap fun v => if q v then some v.got else none).Sublist (l.map (·.got)) := by
  induction l with
  | nil => exact List.Sublist.slnil
  | cons v l ih =>
    rw [List.filterMap_cons, List.map_cons]
    cases h : q v
    · exact List.Sublist.cons _ ih
    · exact List.Sublist.cons_cons _ ih
theorem refs_sub (p : Po) (l : List Opt) : (refs (vs p l)).Sublist l := by have := pick_sub (fun v => v.rej) (vs p l); rwa [vs_got] at this
theorem poors_sub (p : Po) (l : List Opt) : (poors (vs p l)).Sublist l := by have := pick_sub poor (vs p l); rwa [vs_got] at this
/-- Where one is to be told, one is told. -/
theorem insts_ne {p : Po} {l : List Opt} (h : refs (vs p l) = []) (h2 : ¬ poors (vs p l) = []) : ¬ insts (vs p l) = [] := by
  rw [(clean_vs h).2, List.map_eq_nil_iff, ← (clean_vs h).1]
  exact h2

/-! ### a row within a row -/
def gm : List Opt → List Opt → List Opt
  | _, [] => []
  | [], b :: x => b :: x
  | a :: l, b :: x => if a = b then gm l x else gm l (b :: x)
theorem gm_sub : ∀ {l x : List Opt}, x.Sublist l → gm l x = []
  | _, [], _ => by unfold gm; rfl
  | [], b :: x, h => by cases h
  | a :: l, b :: x, h => by
    unfold gm
    by_cases e : a = b
    · rw [if_pos e]
      cases h with
      | cons _ h => exact gm_sub ((List.sublist_cons_self b x).trans h)
      | cons_cons _ h => exact gm_sub h
    · rw [if_neg e]
      cases h with
      | cons _ h => exact gm_sub h
      | cons_cons _ h => exact absurd rfl e

/-! ### a request that is mended -/
def mend (C : Nat) (x l : List Opt) : List Opt := l.filterMap fun o => if C = 4 then (if Opt.fB o.1 x then none else some o) else some (if Opt.fB o.1 x then fA o.1 x else o)
theorem mend_sub (x l : List Opt) : (mend 4 x l).Sublist l := by
  unfold mend
  simp only [if_true]
  induction l with
  | nil => exact List.Sublist.slnil
  | cons o l ih =>
    rw [List.filterMap_cons]
    cases h : fB o.1 x
    · exact List.Sublist.cons_cons _ ih
    · exact List.Sublist.cons _ ih
theorem rej_mem (p : Po) (o : Opt) (ha : ok p o = false) : ∀ l : List Opt, o ∈ l → o ∈ refs (vs p l) := by
  refine Ipc.snoc_ind (fun h => by cases h) fun l x ih h => ?_
  rw [vs_append, refs_append, refs_one, List.mem_append]
  rcases List.mem_append.1 h with h | h
  · exact .inl (ih h)
  · rw [List.mem_singleton] at h
    subst h
    unfold ver
    rw [ha]
    simp
theorem dis_filter (p : Po) (X : UInt8 → Bool) : ∀ l : List Opt, (∀ o ∈ refs (vs p l), X o.1 = true) → Dis (l.filter fun o => !X o.1) := by
  refine Ipc.snoc_ind (fun _ => List.nodup_nil) fun l o ih h => ?_
  rw [vs_append, refs_append] at h
  have h1 := ih fun x hx => h x (List.mem_append.2 (.inl hx))
  rw [List.filter_append]
  cases hX : X o.1
  · have hs : seen l o.1 = false := by
      cases hs : seen l o.1
      · rfl
      · have := h o (List.mem_append.2 (.inr (by rw [refs_one]; unfold ver; rw [hs]; simp)))
        rw [hX] at this
        cases this
    have e : ([o].filter fun o => !X o.1) = [o] := by simp [hX]
    rw [e, dis_snoc]
    exact ⟨h1, fun d hd => (seen_iff _ _).1 hs d (List.mem_filter.1 hd).1⟩
  · have e : ([o].filter fun o => !X o.1) = [] := by simp [hX]
    rw [e, List.append_nil]
    exact h1
theorem fB_mem {x : List Opt} {o : Opt} (h : o ∈ x) : fB o.1 x = true := by
  unfold fB
  cases hf : fd o.1 x with
  | some _ => rfl
  | none => exact absurd h (fd_none.1 hf o.2)
theorem mend4 (x l : List Opt) : mend 4 x l = l.filter fun o => !Opt.fB o.1 x := by
  unfold mend
  simp only [if_true]
  induction l with
  | nil => rfl
  | cons o l ih => rw [List.filterMap_cons, List.filter_cons]; cases h : fB o.1 x <;> simp [ih]
/-- What is left of one of which some were rejected. -/
theorem mend_rej (p : Po) (l : List Opt) : refs (vs p (mend 4 (refs (vs p l)) l)) = [] := by
  rw [mend4, clean]
  refine ⟨fun o ho => ?_, dis_filter p (fun t => fB t (refs (vs p l))) l fun o ho => fB_mem ho⟩
  obtain ⟨h1, h2⟩ := List.mem_filter.1 ho
  cases ha : ok p o
  · rw [fB_mem (rej_mem p o ha l h1)] at h2; cases h2
  · rfl
theorem fm_map (f : Opt → Option Opt) (g : Opt → Opt) : ∀ l : List Opt, (∀ o ∈ l, f o = some (g o)) → l.filterMap f = l.map g
  | [], _ => rfl
  | o :: l, h => by
    rw [List.filterMap_cons, h o (by simp), List.map_cons, fm_map f g l fun x hx => h x (by simp [hx])]
/-- What becomes of one of which some were to be others. -/
theorem mend_nak {p : Po} {l : List Opt} (h : refs (vs p l) = []) : mend 3 (insts (vs p l)) l = l.map (sug p) := by
  have hd := ((clean p l).1 h).2
  obtain ⟨_, hdi, _⟩ := naks_ok h
  unfold mend
  refine fm_map _ _ l fun o ho => ?_
  rw [if_neg (by decide)]
  congr 1
  cases he : other p o
  · have hn : fd o.1 (insts (vs p l)) = none := by
      rw [fd_none, (clean_vs h).2]
      intro d hm
      obtain ⟨y, hy, e⟩ := List.mem_map.1 hm
      obtain ⟨hy1, hy2⟩ := List.mem_filter.1 hy
      have e1 : (sug p y).1 = o.1 := by rw [e]
      have e2 := fd_dis hd hy1
      rw [show y.1 = o.1 from e1, fd_dis hd ho] at e2
      cases e2
      rw [he] at hy2
      cases hy2
    unfold fB
    rw [hn]
    show o = sug p o
    have : sug p o = o := by simpa [other] using he
    exact this.symm
  · have hm : sug p o ∈ insts (vs p l) := by
      rw [(clean_vs h).2]
      exact List.mem_map.2 ⟨o, List.mem_filter.2 ⟨ho, he⟩, rfl⟩
    have hf : fd o.1 (insts (vs p l)) = some (sug p o) := fd_dis hdi hm
    unfold fB fA
    rw [hf]
    rfl
theorem sug_clean {p : Po} {l : List Opt} (h : refs (vs p l) = []) : refs (vs p (l.map (sug p))) = [] ∧ poors (vs p (l.map (sug p))) = [] := by
  obtain ⟨h1, h2⟩ := (clean p l).1 h
  have hr : refs (vs p (l.map (sug p))) = [] := (clean p _).2 ⟨fun o ho => by
    obtain ⟨y, hy, rfl⟩ := List.mem_map.1 ho
    exact ok_sug (h1 y hy), dis_map h2⟩
  refine ⟨hr, ?_⟩
  rw [(clean_vs hr).1, List.filter_eq_nil_iff]
  intro o ho
  obtain ⟨y, hy, rfl⟩ := List.mem_map.1 ho
  simp [other, sug_sug (h1 y hy)]
/-- A policy's verdicts hang on its conf alone. -/
theorem vs_same {p q : Po} (hc : p.c = q.c) (l : List Opt) : vs p l = vs q l := by
  obtain ⟨w, c, _, _, _⟩ := p
  obtain ⟨w', c', _, _, _⟩ := q
  simp only at hc
  subst hc
  rfl
theorem miss_same {p q : Po} (hc : p.c = q.c) (l : List Opt) : miss p l = miss q l := by rw [miss_eq, miss_eq, hc]
theorem sugs_same {p q : Po} (hc : p.c = q.c) (l : List Opt) : sugs p l = sugs q l := by unfold sugs; rw [vs_same hc, miss_same hc]
theorem jP_w (p : Po) (l : List Opt) : (jP p l).w = p.w ∧ (jP p l).c = p.c ∧ (jP p l).mine = p.mine ∧ (jP p l).naks ≤ p.naks + 1 := by
  unfold jP
  cases way p l
  · exact ⟨rfl, rfl, rfl, Nat.zero_le _⟩
  · exact ⟨rfl, rfl, rfl, Nat.le_refl _⟩
  · exact ⟨rfl, rfl, rfl, Nat.zero_le _⟩
  · exact ⟨rfl, rfl, rfl, Nat.zero_le _⟩
theorem fB_iff {t : UInt8} {l : List Opt} : Opt.fB t l = true ↔ ∃ d, (t, d) ∈ l := by
  cases h : Opt.fB t l
  · have : fd t l = none := by unfold Opt.fB at h; cases hf : fd t l; rfl; rw [hf] at h; cases h
    rw [fd_none] at this
    exact ⟨(fun e => by cases e), (fun ⟨d, hd⟩ => absurd hd (this d))⟩
  · refine ⟨fun _ => ?_, fun _ => rfl⟩
    unfold Opt.fB at h
    cases hf : fd t l with
    | none => rw [hf] at h; cases h
    | some o =>
      unfold fd at hf
      have h1 := List.find?_some hf
      simp only [beq_iff_eq] at h1
      exact ⟨o.2, by rw [← h1]; exact List.mem_of_find?_eq_some hf⟩
theorem fd_append (t : UInt8) (a b : List Opt) : fd t (a ++ b) = (fd t a).or (fd t b) := List.find?_append
/-- A request that is mended, with what lacks. -/
def mendA (C : Nat) (x l : List Opt) : List Opt := mend C x l ++ (if C = 3 then x.filter fun o => !Opt.fB o.1 l else [])
theorem mendA4 (x l : List Opt) : mendA 4 x l = mend 4 x l := by unfold mendA; simp
theorem fm_congr {f g : Opt → Option Opt} : ∀ {l : List Opt}, (∀ o ∈ l, f o = g o) → l.filterMap f = l.filterMap g
  | [], _ => rfl
  | o :: l, h => by rw [List.filterMap_cons, List.filterMap_cons, h o (by simp), fm_congr fun x hx => h x (by simp [hx])]
theorem mend_both {p : Po} {l : List Opt} : mend 3 (sugs p l) l = mend 3 (insts (vs p l)) l := by
  unfold mend
  refine fm_congr fun o ho => ?_
  have e : fd o.1 (sugs p l) = fd o.1 (insts (vs p l)) := by
    unfold sugs
    rw [fd_append]
    have hm : fd o.1 (miss p l) = none := by
      rw [fd_none]
      intro d hd
      obtain ⟨h1, _, h2⟩ := miss_mem hd
      have h3 : o.1 = 3 := congrArg (fun z : Opt => z.1) h1
      rw [← h3] at h2
      rw [fB_iff.2 ⟨o.2, ho⟩] at h2
      cases h2
    rw [hm, Option.or_none]
  simp only [Opt.fB, fA, e]
  rfl
theorem mendA_nak {p : Po} {l : List Opt} (h : refs (vs p l) = []) : mendA 3 (sugs p l) l = l.map (sug p) ++ miss p l := by
  unfold mendA
  rw [mend_both, mend_nak h, if_pos rfl]
  congr 1
  unfold sugs
  rw [List.filter_append]
  have h1 : (insts (vs p l)).filter (fun o => !Opt.fB o.1 l) = [] := by
    rw [List.filter_eq_nil_iff]
    intro o ho
    rw [(clean_vs h).2] at ho
    obtain ⟨y, hy, rfl⟩ := List.mem_map.1 ho
    have : Opt.fB (sug p y).1 l = true := fB_iff.2 ⟨y.2, (List.mem_filter.1 hy).1⟩
    rw [this]
    decide
  have h2 : (miss p l).filter (fun o => !Opt.fB o.1 l) = miss p l := by
    rw [List.filter_eq_self]
    intro o ho
    obtain ⟨e, _, hb⟩ := miss_mem ho
    rw [e]
    show (!Opt.fB 3 l) = true
    rw [hb]
    rfl
  rw [h1, h2]
  rfl
/-- .. is acked. -/
theorem mendA_clean {p : Po} {l : List Opt} (h : refs (vs p l) = []) : refs (vs p (l.map (sug p) ++ miss p l)) = [] ∧ sugs p (l.map (sug p) ++ miss p l) = [] := by
  obtain ⟨h1, h2⟩ := sug_clean h
  have ht : ∀ t, Opt.fB t (l.map (sug p)) = Opt.fB t l := by
    intro t
    rw [Bool.eq_iff_iff, fB_iff, fB_iff]
    constructor
    · rintro ⟨d, hd⟩
      obtain ⟨y, hy, e⟩ := List.mem_map.1 hd
      exact ⟨y.2, by have : y.1 = t := congrArg (fun z : Opt => z.1) e; rw [← this]; exact hy⟩
    · rintro ⟨d, hd⟩
      exact ⟨_, List.mem_map.2 ⟨(t, d), hd, rfl⟩⟩
  cases hb : Opt.fB 3 l
  · by_cases hp : p.c.peer = 0
    · rw [miss_zero hp, List.append_nil]
      refine ⟨h1, ?_⟩
      unfold sugs
      rw [(clean_vs h1).2, ← (clean_vs h1).1, h2, miss_zero hp]
      rfl
    · rw [miss_some hb hp]
      have hs : seen (l.map (sug p)) (oPeer p).1 = false := by
        rw [seen_iff]
        intro d hd
        have := fB_iff.2 ⟨d, hd⟩
        rw [ht] at this
        rw [show (oPeer p).1 = 3 from rfl, hb] at this
        cases this
      have hv : ver p (l.map (sug p)) (oPeer p) = ⟨oPeer p, false, sug p (oPeer p)⟩ := ver_clean hs (ok_peer hp (good_peer p) rfl)
      have hq : poor ⟨oPeer p, false, sug p (oPeer p)⟩ = false := by rw [sug_peer hp rfl]; simp [poor]
      have hr : refs (vs p (l.map (sug p) ++ [oPeer p])) = [] := by
        rw [vs_append, refs_append, h1, refs_one, hv]
        rfl
      refine ⟨hr, ?_⟩
      unfold sugs
      rw [vs_append, insts_append, insts_one, hv, hq, (clean_vs h1).2, ← (clean_vs h1).1, h2, miss_has (l := l.map (sug p) ++ [oPeer p]) (fB_iff.2 ⟨(oPeer p).2, List.mem_append.2 (.inr (List.mem_singleton.2 rfl))⟩)]
      rfl
  · rw [miss_has hb, List.append_nil]
    refine ⟨h1, ?_⟩
    unfold sugs
    rw [(clean_vs h1).2, ← (clean_vs h1).1, h2, miss_has (by rw [ht, hb])]
    rfl
/-- Where nothing is suggested each is as it should be. -/
theorem acks {p : Po} {l : List Opt} (h : refs (vs p l) = []) (h2 : sugs p l = []) : (∀ o ∈ l, sug p o = o ∧ good o = true) ∧ (p.c.peer ≠ 0 → Opt.fB 3 l = true) := by
  obtain ⟨h3, h4, h5⟩ := sugs_nil h2
  refine ⟨acks_good h h3, fun hp => ?_⟩
  rcases miss_nil h5 with h | h
  · exact h
  · exact absurd h hp
theorem ack_peer {p : Po} {l : List Opt} (h : refs (vs p l) = []) (h2 : sugs p l = []) (hp : p.c.peer ≠ 0) : (Ipc.gL l).ha = true ∧ (Ipc.gL l).addr = p.c.peer := by
  obtain ⟨h3, h4⟩ := acks h h2
  obtain ⟨d, hd⟩ := fB_iff.1 (h4 hp)
  obtain ⟨y, hy, hr⟩ := got_all (fun o ho => (h3 o ho).2) ((clean p l).1 h).2
  have e : Ipc.gL l = y := by unfold Ipc.gL; rw [hy]
  rw [e]
  refine ⟨(hr.2.1 3 rfl).2 ⟨d, hd⟩, ?_⟩
  have h6 : dat 3 y = d := hr.2.2 3 d hd
  have h7 : ((3, d) : Opt) = oPeer p := by rw [← (h3 _ hd).1]; exact sug_peer hp rfl
  have h8 : bOf (numS y.addr.toNat 4) = bOf (numS p.c.peer.toNat 4) := by
    rw [show bOf (numS y.addr.toNat 4) = dat 3 y from rfl, h6]
    exact congrArg (fun z : Opt => z.2) h7
  rw [← numS_u32 y.addr, h8, numS_u32]
end Go.Proofs.YtgefodpnhifmdaaGreat.Ipp

/- What an Ack, and a Nak, say: plain mathematics. -/
namespace Go.Proofs.YtgefodpnhifmdaaGreat.Ipp
open Go.Proofs.YtgefodpnhifmdaaGreat.Oct Go.Proofs.YtgefodpnhifmdaaGreat.Opt Go.Proofs.YtgefodpnhifmdaaGreat.Ipc

theorem num_inj {a b : UInt32} (h : bOf (numS a.toNat 4) = bOf (numS b.toNat 4)) : a = b := by rw [← numS_u32 a, h, numS_u32]
theorem says_adr {p : Po} {l : List Opt} {y : Ipc} (hr : refs (vs p l) = []) (hp : poors (vs p l) = []) (hy : Rep y l) {t : UInt8} (ht : known t = true) (hh : has t y = true) : ∃ x, adr t y = sa p t x ∧ sa p t x ≠ 0 := by
  obtain ⟨d, hd⟩ := (hy.2.1 t ht).1 hh
  have h1 := (acks_good hr hp _ hd).1
  have h2 : dat t y = d := hy.2.2 t d hd
  have h3 : bOf (numS (sa p t (lo (t, d))).toNat 4) = d := congrArg (fun z : Opt => z.2) h1
  refine ⟨lo (t, d), num_inj ?_, ?_⟩
  · rw [h3]; exact h2
  · have := ((clean p l).1 hr).1 _ hd
    unfold ok at this
    rw [Bool.and_eq_true_iff] at this
    exact bne_iff_ne.1 this.2
theorem ack_says {p : Po} {l : List Opt} (hr : refs (vs p l) = []) (hp : poors (vs p l) = []) : Ipc.gE l = 0 ∧ Ipc.gO l = [] ∧ ((Ipc.gL l).ha = true → (Ipc.gL l).addr ≠ 0 ∧ (p.c.peer ≠ 0 → (Ipc.gL l).addr = p.c.peer)) ∧ ((Ipc.gL l).h1 = true → (Ipc.gL l).dns1 = p.c.dns1) ∧ ((Ipc.gL l).h2 = true → (Ipc.gL l).dns2 = p.c.dns2) := by
  obtain ⟨y, hy, hrep⟩ := got_all (fun o ho => (acks_good hr hp o ho).2) ((clean p l).1 hr).2
  have e1 : Ipc.gL l = y := by unfold Ipc.gL; rw [hy]
  have e2 : Ipc.gE l = 0 := by unfold Ipc.gE; rw [hy]
  have e3 : Ipc.gO l = [] := by unfold Ipc.gO; rw [hy]
  rw [e1]
  refine ⟨e2, e3, fun h => ?_, fun h => ?_, fun h => ?_⟩
  · obtain ⟨x, h1, h2⟩ := says_adr hr hp hrep (t := 3) rfl h
    have h1 : y.addr = sa p 3 x := h1
    rw [h1]
    exact ⟨h2, fun hp => sa_peer hp x⟩
  · obtain ⟨x, h1, _⟩ := says_adr hr hp hrep (t := 129) rfl h
    exact h1
  · obtain ⟨x, h1, _⟩ := says_adr hr hp hrep (t := 131) rfl h
    exact h1
theorem insts_peer {p : Po} {l : List Opt} (hr : refs (vs p l) = []) {o : Opt} (ho : o ∈ insts (vs p l)) (h3 : o.1 = 3) : o = oPeer p := by
  rw [(clean_vs hr).2] at ho
  obtain ⟨y, hy, rfl⟩ := List.mem_map.1 ho
  obtain ⟨hy1, hy2⟩ := List.mem_filter.1 hy
  have hy3 : y.1 = 3 := h3
  by_cases hp : p.c.peer = 0
  · exfalso
    have hg := ok_good (((clean p l).1 hr).1 y hy1)
    have e : sug p y = y := by
      unfold sug
      have e1 : sa p y.1 (lo y) = ad y := by
        unfold sa or32
        rw [if_pos hy3, if_pos hp, lo_addr hg hy3]
      rw [e1]
      unfold ad
      rw [u32_val (good_size hg), numS_of (good_size hg)]
    simp [other, e] at hy2
  · exact sug_peer hp hy3
theorem sugs_ok {p : Po} {l : List Opt} (hr : refs (vs p l) = []) : (∀ o ∈ sugs p l, good o = true) ∧ Dis (sugs p l) ∧ ∀ o ∈ sugs p l, o.1 = 3 → o = oPeer p := by
  obtain ⟨h1, h2, h3⟩ := naks_ok hr
  refine ⟨fun o ho => ?_, ?_, fun o ho h => ?_⟩
  · rcases List.mem_append.1 ho with h | h
    · exact h1 o h
    · rw [(miss_mem h).1]; exact good_peer p
  · unfold sugs
    cases hb : Opt.fB 3 l
    · by_cases hp : p.c.peer = 0
      · rw [miss_zero hp, List.append_nil]; exact h2
      · rw [miss_some hb hp, dis_snoc]
        refine ⟨h2, fun d hd => ?_⟩
        obtain ⟨o, ho, _⟩ := h3 _ hd
        have : Opt.fB 3 l = true := by
          have e : (((oPeer p).1, d) : Opt).1 = 3 := rfl
          rw [e] at ho
          unfold Opt.fB
          rw [ho]
          rfl
        rw [hb] at this
        cases this
    · rw [miss_has hb, List.append_nil]; exact h2
  · rcases List.mem_append.1 ho with h' | h'
    · exact insts_peer hr h' h
    · exact (miss_mem h').1
theorem nak_says {p : Po} {l : List Opt} (hr : refs (vs p l) = []) : Ipc.gE (sugs p l) = 0 ∧ Ipc.gO (sugs p l) = [] ∧ ((Ipc.gL (sugs p l)).ha = true → (Ipc.gL (sugs p l)).addr = p.c.peer) := by
  obtain ⟨h1, h2, h3⟩ := sugs_ok hr
  obtain ⟨y, hy, hrep⟩ := got_all h1 h2
  have e1 : Ipc.gL (sugs p l) = y := by unfold Ipc.gL; rw [hy]
  have e2 : Ipc.gE (sugs p l) = 0 := by unfold Ipc.gE; rw [hy]
  have e3 : Ipc.gO (sugs p l) = [] := by unfold Ipc.gO; rw [hy]
  rw [e1]
  refine ⟨e2, e3, fun h => ?_⟩
  obtain ⟨d, hd⟩ := (hrep.2.1 3 rfl).1 h
  have h4 : dat 3 y = d := hrep.2.2 3 d hd
  have h5 := h3 _ hd rfl
  exact num_inj (show bOf (numS y.addr.toNat 4) = bOf (numS p.c.peer.toNat 4) from by
    rw [show bOf (numS y.addr.toNat 4) = dat 3 y from rfl, h4]
    exact congrArg (fun z : Opt => z.2) h5)
/-- The four ways. -/
theorem waysOf (p : Po) (l : List Opt) : (jC p l = 4 ∧ (jA p l).length ≤ l.length) ∨ (jC p l = 3 ∧ refs (vs p l) = [] ∧ jA p l = sugs p l ∧ ¬ sugs p l = [] ∧ (p.naks : Int) < p.c.mn ∧ (jA p l).length ≤ l.length + 3) ∨ (jC p l = 2 ∧ refs (vs p l) = [] ∧ poors (vs p l) = [] ∧ jA p l = l ∧ (jP p l).peer = Ipc.gL l) := by
  by_cases hr : refs (vs p l) = []
  · by_cases hs : sugs p l = []
    · obtain ⟨a, b, c⟩ := ack_of (way_ack hr hs)
      exact .inr (.inr ⟨a, hr, (sugs_nil hs).1, b, by rw [c]⟩)
    · by_cases hn : (p.naks : Int) < p.c.mn
      · obtain ⟨a, b, _⟩ := nak_of (way_nak hr hs hn)
        refine .inr (.inl ⟨a, hr, b, hs, hn, ?_⟩)
        rw [b]
        unfold sugs
        rw [List.length_append, (clean_vs hr).2, List.length_map]
        have h1 := List.length_filter_le (other p) l
        have h2 : (miss p l).length ≤ 3 := by
          rw [miss_eq]
          split
          · exact Nat.zero_le _
          · split <;> simp
        omega
      · by_cases hp : poors (vs p l) = []
        · obtain ⟨a, b, c⟩ := ack_of (way_ack' hr hn hp)
          exact .inr (.inr ⟨a, hr, hp, b, by rw [c]⟩)
        · obtain ⟨a, b, _⟩ := poor_of (way_poor hr hn hp)
          exact .inl ⟨a, by rw [b]; exact (poors_sub p l).length_le⟩
  · obtain ⟨a, b, _⟩ := rej_of (way_rej hr)
    exact .inl ⟨a, by rw [b]; exact (refs_sub p l).length_le⟩
theorem naks_le {p : Po} {l : List Opt} (h : (p.naks : Int) ≤ p.c.mn) (h0 : 0 ≤ p.c.mn) : ((jP p l).naks : Int) ≤ p.c.mn := by
  unfold jP
  cases hw : way p l
  · exact h0
  · have : (p.naks : Int) < p.c.mn := by
      unfold way at hw
      split at hw
      · cases hw
      · split at hw
        · rename_i e; exact e.2
        · split at hw <;> cases hw
    show ((p.naks + 1 : Nat) : Int) ≤ _
    omega
  · exact h0
  · exact h0
end Go.Proofs.YtgefodpnhifmdaaGreat.Ipp
