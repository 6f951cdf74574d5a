/- What a side of LCP says of the request of a side whose conf is valid: plain mathematics, of no program. -/
import Derived.Test.YtpppggicihfbgaaGreatGOpts
namespace Go.Proofs.YtpppggicihfbgaaGreat.Pol
open Go.Proofs.YtpppggicihfbgaaGreat.Oct Go.Proofs.YtpppggicihfbgaaGreat.Opt Go.Proofs.YtpppggicihfbgaaGreat.Lco

theorem seen_no {l : List Opt} (h : (l.map (·.1)).Nodup) (i : Nat) (hi : i < l.length) : seen (l.take i) (l[i]'hi).1 = false := by
  unfold seen
  rw [List.any_eq_false]
  intro o ho he
  obtain ⟨j, hj, rfl⟩ := List.mem_iff_getElem.1 ho
  rw [List.length_take] at hj
  have hj1 : j < l.length := by omega
  have hji : j < i := by omega
  rw [List.getElem_take] at he
  have e : l[j].1 = l[i].1 := by simpa using he
  have h2 := (List.nodup_iff_pairwise_ne.1 h)
  rw [List.pairwise_iff_getElem] at h2
  have := h2 j i (by simpa using hj1) (by simpa using hi) hji
  simp only [List.getElem_map] at this
  exact this e
theorem vs_map (p : Po) {l : List Opt} (h : (l.map (·.1)).Nodup) : vs p l = l.map (ver p []) := by
  unfold vs
  apply List.ext_getElem
  · simp
  intro i h1 h2
  have hi : i < l.length := by simpa using h1
  simp only [List.getElem_map, List.getElem_range]
  have e : l.getD i zo = l[i] := by rw [List.getD_eq_getElem?_getD, List.getElem?_eq_getElem hi]; rfl
  rw [e]
  unfold ver
  rw [seen_no h i hi]
  rfl
theorem put_types (x : Lcp) : (put x).map (·.1) = six.filter fun t => has t x := by
  unfold put
  induction six with
  | nil => rfl
  | cons t l ih =>
    by_cases h : has t x = true
    · rw [List.filterMap_cons, List.filter_cons]
      simp only [h, if_true]
      rw [List.map_cons, ih]
    · rw [List.filterMap_cons, List.filter_cons]
      have h' : has t x = false := by simpa using h
      simp only [h', Bool.false_eq_true, if_false]
      exact ih
theorem put_nodup (x : Lcp) : ((put x).map (·.1)).Nodup := by
  rw [put_types]
  exact List.Pairwise.filter _ (by decide)
theorem nz_ne (v : UInt32) : nz v ≠ 0 := by unfold nz; split; decide; assumption
theorem lo_put {x : Lcp} (hx : may x = true) {t : UInt8} (ht : known t = true) (hh : has t x = true) : lo (t, dat t x) = say lz (t, dat t x) := by
  have hg := dat_good hx ht hh
  have hz : has t lz = false := by rcases known_cases ht with rfl | rfl | rfl | rfl | rfl | rfl <;> rfl
  have e : st [(t, dat t x)] = some (say lz (t, dat t x), []) := by
    show Lco.step (some (lz, [])) (t, dat t x) = _
    unfold Lco.step
    simp only
    rw [if_pos hg, hz]
    rfl
  unfold lo Lco.gL
  rw [e]
theorem sug_plain (p : Po) {y : Lcp} (hy : may y = true) {t : UInt8} (ht : known t = true) (hh : has t y = true) (hm : y.hm = true → 64 ≤ y.mru) (h3 : t ≠ 3) (h5 : t ≠ 5) : sug p (t, dat t y) = (t, dat t y) := by
  have hd := (dat_say (x := lz) (dat_good hy ht hh)).1
  have hl := lo_put hy ht hh
  unfold sug
  simp only
  rw [hl]
  congr 1
  rcases known_cases ht with rfl | rfl | rfl | rfl | rfl | rfl
  · have e : (say lz (1, dat 1 y)).mru = y.mru := by
      show UInt16.ofNat (val (bOf (numS y.mru.toNat 2)).toList) = y.mru
      exact numS_u16 _
    have hlt : ¬ y.mru < 64 := by
      have := hm hh
      rw [UInt16.lt_iff_toNat_lt]
      have h2 := UInt16.le_iff_toNat_le.1 this
      omega
    unfold bet
    rw [if_pos rfl, e, if_neg hlt]
    show bOf (numS y.mru.toNat 2) = _
    rfl
  · exact hd
  · exact absurd rfl h3
  · exact absurd rfl h5
  · rfl
  · rfl
theorem lo_auth {y : Lcp} (hy : may y = true) (hh : has 3 y = true) : (lo (3, dat 3 y)).auth = y.auth := by
  rw [lo_put hy rfl hh]
  show authK (authD y.auth) = y.auth
  exact authK_authD _ ((may_iff y).1 hy).1
theorem lo_magic {y : Lcp} (hy : may y = true) (hh : has 5 y = true) : (lo (5, dat 5 y)).magic = y.magic ∧ (lo (5, dat 5 y)).hg = true := by
  rw [lo_put hy rfl hh]
  exact ⟨numS_u32 _, rfl⟩
theorem sug_auth (p : Po) {y : Lcp} (hy : may y = true) (hh : has 3 y = true) :
    sug p (3, dat 3 y) = (3, authD (if p.c.can &&& y.auth != 0 then y.auth else if p.c.can &&& 2 != 0 then 2 else 1)) := by
  have e := lo_auth hy hh
  have hb : ∀ x, bet p 3 x = { x with auth := if p.c.can &&& x.auth != 0 then x.auth else if p.c.can &&& 2 != 0 then 2 else 1 } := fun x => by
    unfold bet
    rw [if_neg (by decide), if_pos rfl]
  show (3, dat 3 (bet p 3 (lo (3, dat 3 y)))) = _
  rw [hb, e]
  rfl
theorem sug_magic (p : Po) {y : Lcp} (hy : may y = true) (hh : has 5 y = true) (hz : y.magic ≠ 0) (hn : (p.w.hg && y.magic == p.w.magic) = false) : sug p (5, dat 5 y) = (5, dat 5 y) := by
  have e := lo_magic hy hh
  have hd := (dat_say (x := lz) (dat_good hy rfl hh)).1
  have hb : ∀ x, bet p 5 x = (if x.magic != 0 && !isOwn p.w x then x else if isOwn p.w { x with magic := nz (~~~ x.magic) } then { x with magic := 1 } else { x with magic := nz (~~~ x.magic) }) := fun x => by
    unfold bet
    rw [if_neg (by decide), if_neg (by decide), if_pos rfl]
  show (5, dat 5 (bet p 5 (lo (5, dat 5 y)))) = _
  rw [hb]
  have ho : isOwn p.w (lo (5, dat 5 y)) = false := by
    unfold isOwn
    rw [e.1, e.2, Bool.and_true]
    exact hn
  rw [ho, e.1]
  have h1 : (y.magic != 0 && !false) = true := by simpa using hz
  rw [if_pos h1, lo_put hy rfl hh]
  rw [hd]
theorem nz_flip (m : UInt32) (hz : m ≠ 0) : nz (~~~ m) ≠ m := by
  unfold nz
  split
  · rename_i h
    intro e
    subst e
    revert h
    decide
  · intro e
    have h := congrArg UInt32.toNat e
    have h2 : (~~~ m).toNat = 4294967295 - m.toNat := UInt32.toNat_not m
    have := m.toNat_lt
    omega
theorem sug_own (p : Po) {y : Lcp} (hy : may y = true) (hh : has 5 y = true) (hz : y.magic ≠ 0) (hn : (p.w.hg && y.magic == p.w.magic) = true) : sug p (5, dat 5 y) = (5, bOf (numS (nz (~~~ y.magic)).toNat 4)) ∧ sug p (5, dat 5 y) ≠ (5, dat 5 y) := by
  have e := lo_magic hy hh
  have hb : ∀ x, bet p 5 x = (if x.magic != 0 && !isOwn p.w x then x else if isOwn p.w { x with magic := nz (~~~ x.magic) } then { x with magic := 1 } else { x with magic := nz (~~~ x.magic) }) := fun x => by
    unfold bet
    rw [if_neg (by decide), if_neg (by decide), if_pos rfl]
  have ho : isOwn p.w (lo (5, dat 5 y)) = true := by
    unfold isOwn
    rw [e.1, e.2, Bool.and_true]
    exact hn
  have hm : y.magic = p.w.magic := by
    rw [Bool.and_eq_true] at hn
    simpa using hn.2
  have h2 : isOwn p.w { lo (5, dat 5 y) with magic := nz (~~~ (lo (5, dat 5 y)).magic) } = false := by
    unfold isOwn
    simp only
    rw [e.1, ← hm]
    have h3 : (nz (~~~ y.magic) == y.magic) = false := by simpa using nz_flip _ hz
    rw [h3, Bool.and_false]
  have hs : sug p (5, dat 5 y) = (5, bOf (numS (nz (~~~ y.magic)).toNat 4)) := by
    show (5, dat 5 (bet p 5 (lo (5, dat 5 y)))) = _
    rw [hb, ho, h2]
    simp only [Bool.not_true, Bool.and_false, Bool.false_eq_true, if_false]
    show (5, bOf (numS (nz (~~~ (lo (5, dat 5 y)).magic)).toNat 4)) = _
    rw [e.1]
  refine ⟨hs, fun h => ?_⟩
  rw [hs] at h
  have h4 : bOf (numS (nz (~~~ y.magic)).toNat 4) = bOf (numS y.magic.toNat 4) := congrArg Prod.snd h
  have h5 := congrArg (fun s : ByteArray => UInt32.ofNat (val s.toList)) h4
  rw [numS_u32, numS_u32] at h5
  exact nz_flip _ hz h5
structure Asks (y : Lcp) : Prop where
  may : may y = true
  mru : y.hm = true → 64 ≤ y.mru
  mag : y.hg = true → y.magic ≠ 0
def badA (p : Po) (y : Lcp) : Bool := y.auth != 0 && !(p.c.can &&& y.auth != 0)
def owns (p : Po) (y : Lcp) : Bool := y.hg && (p.w.hg && y.magic == p.w.magic)
def kindA (p : Po) : UInt8 := if p.c.can &&& 2 != 0 then 2 else 1
theorem ver_put (p : Po) {y : Lcp} (hy : Asks y) (hc : y.auth ≠ 0 → p.c.can ≠ 0) {t : UInt8} (ht : known t = true) (hh : has t y = true) : ver p [] (t, dat t y) = ⟨(t, dat t y), false, sug p (t, dat t y)⟩ := by
  have ha : acc p (t, dat t y) = true := by
    unfold acc
    split
    · rename_i h3
      simp only at h3
      subst h3
      have : y.auth ≠ 0 := by
        have h : (y.auth != 0) = true := hh
        simpa using h
      simpa using hc this
    · exact dat_good hy.may ht hh
  unfold ver
  rw [ha]
  rfl
def one (p : Po) (o : Opt) : Option Opt := if poor (ver p [] o) then some (ver p [] o).bet else none
theorem one_same {p : Po} {o : Opt} (hv : ver p [] o = ⟨o, false, sug p o⟩) (h : sug p o = o) : one p o = none := by
  unfold one poor
  rw [hv]
  simp [h]
theorem one_other {p : Po} {o : Opt} (hv : ver p [] o = ⟨o, false, sug p o⟩) (h : sug p o ≠ o) : one p o = some (sug p o) := by
  unfold one poor
  rw [hv]
  simp [h]
theorem authD_inj {a b : UInt8} (ha : a ≤ 2) (hb : b ≤ 2) (h : authD a = authD b) : a = b := by rw [← authK_authD a ha, h, authK_authD b hb]
theorem kindA_le (p : Po) : kindA p ≤ 2 ∧ kindA p ≠ 0 := by unfold kindA; split <;> decide
theorem le_three {c : UInt8} (h : c ≤ 3) : c = 0 ∨ c = 1 ∨ c = 2 ∨ c = 3 := by
  have h' : c.toNat ≤ 3 := UInt8.le_iff_toNat_le.1 h
  have hh : ∀ n, n ≤ 3 → n = 0 ∨ n = 1 ∨ n = 2 ∨ n = 3 := fun n _ => by omega
  rcases hh _ h' with e | e | e | e
  · exact .inl (UInt8.toNat_inj.1 e)
  · exact .inr (.inl (UInt8.toNat_inj.1 e))
  · exact .inr (.inr (.inl (UInt8.toNat_inj.1 e)))
  · exact .inr (.inr (.inr (UInt8.toNat_inj.1 e)))
theorem kind_can {p : Po} (h : (p.c.can &&& kindA p != 0) = false) (hl : p.c.can ≤ 3) : p.c.can = 0 := by
  unfold kindA at h
  revert h
  rcases le_three hl with e | e | e | e <;> rw [e] <;> decide
theorem insts_put (p : Po) {y : Lcp} (hy : Asks y) (hc : y.auth ≠ 0 → p.c.can ≠ 0) (hcl : p.c.can ≤ 3) :
    refs (vs p (put y)) = [] ∧ (poors (vs p (put y)) = [] ↔ badA p y = false ∧ owns p y = false) ∧
    insts (vs p (put y)) = (if badA p y then [((3 : UInt8), authD (kindA p))] else []) ++ (if owns p y then [((5 : UInt8), bOf (numS (nz (~~~ y.magic)).toNat 4))] else []) := by
  have hv : ∀ t, known t = true → has t y = true → ver p [] (t, dat t y) = ⟨(t, dat t y), false, sug p (t, dat t y)⟩ := fun t ht hh => ver_put p hy hc ht hh
  have hvs := vs_map p (put_nodup y)
  have hins : insts (vs p (put y)) = (if badA p y then [((3 : UInt8), authD (kindA p))] else []) ++ (if owns p y then [((5 : UInt8), bOf (numS (nz (~~~ y.magic)).toNat 4))] else []) := by
    have e1 : insts (vs p (put y)) = (put y).filterMap (one p) := by
      rw [hvs]
      unfold insts
      rw [List.filterMap_map]
      rfl
    rw [e1]
    unfold put
    rw [List.filterMap_filterMap]
    have hf : ∀ t, known t = true → (t ≠ 3) → (t ≠ 5) → ((if has t y = true then some (t, dat t y) else none).bind (one p)) = none := fun t ht h3 h5 => by
      by_cases hh : has t y = true
      · rw [if_pos hh]
        exact one_same (hv t ht hh) (sug_plain p hy.may ht hh hy.mru h3 h5)
      · rw [if_neg hh]; rfl
    have f3 : ((if has 3 y = true then some ((3 : UInt8), dat 3 y) else none).bind (one p)) = if badA p y then some ((3 : UInt8), authD (kindA p)) else none := by
      by_cases hh : has 3 y = true
      · rw [if_pos hh]
        have hs := sug_auth p hy.may hh
        have hau : y.auth ≠ 0 := by
          have h : (y.auth != 0) = true := hh
          simpa using h
        by_cases hb : badA p y = true
        · rw [if_pos hb]
          have hcan : (p.c.can &&& y.auth != 0) = false := by
            unfold badA at hb
            rw [Bool.and_eq_true] at hb
            simpa using hb.2
          rw [hcan] at hs
          have hs' : sug p (3, dat 3 y) = (3, authD (kindA p)) := hs
          have hne : sug p (3, dat 3 y) ≠ (3, dat 3 y) := fun h => by
            rw [hs'] at h
            have h4 : authD (kindA p) = authD y.auth := congrArg Prod.snd h
            have h5 := authD_inj (kindA_le p).1 ((may_iff y).1 hy.may).1 h4
            have h6 : (p.c.can &&& kindA p != 0) = false := by rw [h5]; exact hcan
            exact absurd (kind_can h6 hcl) (hc hau)
          show one p (3, dat 3 y) = _
          rw [one_other (hv 3 rfl hh) hne, hs']
        · have hb' : badA p y = false := by simpa using hb
          rw [if_neg hb]
          have hcan : (p.c.can &&& y.auth != 0) = true := by
            unfold badA at hb'
            have h : (y.auth != 0) = true := hh
            rw [h, Bool.true_and] at hb'
            simpa using hb'
          rw [hcan] at hs
          exact one_same (hv 3 rfl hh) hs
      · have hau : (y.auth != 0) = false := by
          have h : ¬ (y.auth != 0) = true := hh
          simpa using h
        have hb : badA p y = false := by unfold badA; rw [hau]; rfl
        rw [if_neg hh, hb]; rfl
    have f5 : ((if has 5 y = true then some ((5 : UInt8), dat 5 y) else none).bind (one p)) = if owns p y then some ((5 : UInt8), bOf (numS (nz (~~~ y.magic)).toNat 4)) else none := by
      by_cases hh : has 5 y = true
      · rw [if_pos hh]
        have hg : y.hg = true := hh
        have hz := hy.mag hg
        by_cases ho : owns p y = true
        · have h2 : (p.w.hg && y.magic == p.w.magic) = true := by
            unfold owns at ho
            rw [hg, Bool.true_and] at ho
            exact ho
          have hs := sug_own p hy.may hh hz h2
          rw [if_pos ho]
          show one p (5, dat 5 y) = _
          rw [one_other (hv 5 rfl hh) hs.2, hs.1]
        · have h2 : (p.w.hg && y.magic == p.w.magic) = false := by
            unfold owns at ho
            rw [hg, Bool.true_and] at ho
            simpa using ho
          rw [if_neg ho]
          exact one_same (hv 5 rfl hh) (sug_magic p hy.may hh hz h2)
      · have hg : y.hg = false := by
          have h : ¬ y.hg = true := hh
          simpa using h
        have ho : owns p y = false := by unfold owns; rw [hg]; rfl
        rw [if_neg hh, ho]; rfl
    unfold six
    simp only [List.filterMap_cons, List.filterMap_nil, hf 1 rfl (by decide) (by decide), hf 2 rfl (by decide) (by decide), hf 7 rfl (by decide) (by decide), hf 8 rfl (by decide) (by decide), f3, f5]
    by_cases a : badA p y = true <;> by_cases b : owns p y = true <;> simp [a, b]
  have hall : ∀ v ∈ vs p (put y), v.rej = false := fun v h => by
    rw [hvs] at h
    obtain ⟨⟨t, d⟩, ho, rfl⟩ := List.mem_map.1 h
    obtain ⟨h1, h2, rfl⟩ := mem_put.1 ho
    rw [hv t h1 h2]
  refine ⟨?_, ?_, hins⟩
  · unfold refs
    rw [List.filterMap_eq_nil_iff]
    intro v h
    rw [hall v h]
    rfl
  · have e2 : poors (vs p (put y)) = [] ↔ insts (vs p (put y)) = [] := by
      unfold poors insts
      rw [List.filterMap_eq_nil_iff, List.filterMap_eq_nil_iff]
      constructor
      · intro h v hv'
        have := h v hv'
        by_cases hp : poor v = true
        · rw [if_pos hp] at this; cases this
        · rw [if_neg hp]
      · intro h v hv'
        have := h v hv'
        by_cases hp : poor v = true
        · rw [if_pos hp] at this; cases this
        · rw [if_neg hp]
    rw [e2, hins]
    by_cases a : badA p y = true <;> by_cases b : owns p y = true <;> simp [a, b]
theorem jC_put (p : Po) {y : Lcp} (hy : Asks y) (hc : y.auth ≠ 0 → p.c.can ≠ 0) (hcl : p.c.can ≤ 3) (hn : (p.naks : Int) ≠ p.c.mn) :
    (badA p y = false ∧ owns p y = false → jC p (put y) = 2 ∧ jA p (put y) = put y ∧ (jP p (put y)).w = p.w ∧ (jP p (put y)).c = p.c ∧ (jP p (put y)).mine = p.mine ∧ (jP p (put y)).bad = p.bad ∧ (jP p (put y)).peer = y ∧ (jP p (put y)).naks = 0) ∧
    (¬ (badA p y = false ∧ owns p y = false) → jC p (put y) = 3 ∧ jA p (put y) = insts (vs p (put y)) ∧ (jP p (put y)).w = p.w ∧ (jP p (put y)).c = p.c ∧ (jP p (put y)).mine = p.mine ∧ (jP p (put y)).bad = p.bad ∧ (jP p (put y)).peer = p.peer ∧ (jP p (put y)).naks = p.naks + 1) := by
  obtain ⟨h1, h2, h3⟩ := insts_put p hy hc hcl
  have hl : (loopP p (put y)).w = p.w ∧ (loopP p (put y)).c = p.c ∧ (loopP p (put y)).mine = p.mine ∧ (loopP p (put y)).bad = p.bad ∧ (loopP p (put y)).peer = p.peer := by
    unfold loopP
    split <;> exact ⟨rfl, rfl, rfl, rfl, rfl⟩
  have hg : Lco.gL (put y) = y := by unfold Lco.gL; rw [st_put hy.may]
  constructor
  · intro h
    have h4 := h2.2 h
    unfold jC jA jP
    rw [h1, h4]
    simp only [ne_eq, not_true, if_false]
    exact ⟨trivial, trivial, hl.1, hl.2.1, hl.2.2.1, hl.2.2.2.1, hg, trivial⟩
  · intro h
    have h4 : poors (vs p (put y)) ≠ [] := fun e => h (h2.1 e)
    unfold jC jA jP
    rw [h1]
    simp only [ne_eq, not_true, if_false, h4, not_false_eq_true, if_true, hn]
    exact ⟨trivial, trivial, hl.1, hl.2.1, hl.2.2.1, hl.2.2.2.1, hl.2.2.2.2, trivial⟩
def nakZ (p : Po) (y : Lcp) : Lcp := ⟨false, 0, false, 0, if badA p y then kindA p else 0, owns p y, if owns p y then nz (~~~ y.magic) else 0, false, false⟩
theorem nakZ_may (p : Po) (y : Lcp) : Lco.may (nakZ p y) = true := by
  refine (may_iff _).2 ⟨?_, fun _ => rfl, fun _ => rfl, fun h => ?_⟩
  · show (if badA p y then kindA p else 0) ≤ 2
    split
    · exact (kindA_le p).1
    · decide
  · show (if owns p y then nz (~~~ y.magic) else 0) = 0
    have h' : owns p y = false := h
    rw [h']; rfl
theorem nakZ_three (p : Po) (y : Lcp) : has 3 (nakZ p y) = badA p y := by
  show ((if badA p y then kindA p else 0) != 0) = badA p y
  by_cases a : badA p y = true
  · rw [a]; simpa using (kindA_le p).2
  · have a' : badA p y = false := by simpa using a
    rw [a']; rfl
theorem nakZ_put (p : Po) (y : Lcp) : put (nakZ p y) = (if badA p y then [((3 : UInt8), authD (kindA p))] else []) ++ (if owns p y then [((5 : UInt8), bOf (numS (nz (~~~ y.magic)).toNat 4))] else []) := by
  have b3 : has 3 (nakZ p y) = badA p y := nakZ_three p y
  have b5 : has 5 (nakZ p y) = owns p y := rfl
  have b1 : has 1 (nakZ p y) = false := rfl
  have b2 : has 2 (nakZ p y) = false := rfl
  have b7 : has 7 (nakZ p y) = false := rfl
  have b8 : has 8 (nakZ p y) = false := rfl
  have d3 : badA p y = true → dat 3 (nakZ p y) = authD (kindA p) := fun a => by
    show authD (if badA p y then kindA p else 0) = _
    rw [a]; rfl
  have d5 : owns p y = true → dat 5 (nakZ p y) = bOf (numS (nz (~~~ y.magic)).toNat 4) := fun a => by
    show bOf (numS (if owns p y then nz (~~~ y.magic) else 0).toNat 4) = _
    rw [a]; rfl
  unfold put six
  simp only [List.filterMap_cons, List.filterMap_nil, b1, b2, b3, b5, b7, b8, Bool.false_eq_true, if_false]
  by_cases a : badA p y = true
  · by_cases b : owns p y = true
    · rw [d3 a, d5 b]; simp [a, b]
    · rw [d3 a]; simp [a, b]
  · by_cases b : owns p y = true
    · rw [d5 b]; simp [a, b]
    · simp [a, b]
def behind (q p : Po) (d : UInt32) : Lcp := { q.w with
  auth := if badA p q.w && q.c.takes &&& kindA p != 0 then kindA p else q.w.auth
  magic := if owns p q.w then nz d else q.w.magic }
theorem nk_put (q p : Po) (d : UInt32) (hy : Asks q.w) (hc : q.w.auth ≠ 0 → p.c.can ≠ 0) (hcl : p.c.can ≤ 3) (hn : ¬ (badA p q.w = false ∧ owns p q.w = false)) :
    nkB (insts (vs p (put q.w))) = true ∧ nkP q d (insts (vs p (put q.w))) = { q with w := behind q p d } := by
  obtain ⟨h1, h2, h3⟩ := insts_put p hy hc hcl
  rw [h3, ← nakZ_put]
  have hm := nakZ_may p q.w
  have hg : Lco.gL (put (nakZ p q.w)) = nakZ p q.w := by unfold Lco.gL; rw [st_put hm]
  have hE : Lco.gE (put (nakZ p q.w)) = 0 := by unfold Lco.gE; rw [st_put hm]
  have hne : put (nakZ p q.w) ≠ [] := by
    rw [nakZ_put]
    intro e
    apply hn
    by_cases a : badA p q.w = true <;> by_cases b : owns p q.w = true <;> simp_all
  have hB : nkB (put (nakZ p q.w)) = true := by
    unfold nkB
    rw [hE]
    simpa using hne
  refine ⟨hB, ?_⟩
  unfold nkP
  rw [if_pos hB, hg]
  congr 1
  unfold nkW behind
  have b1 : has 1 (nakZ p q.w) = false := rfl
  have b2 : has 2 (nakZ p q.w) = false := rfl
  have b3 : has 3 (nakZ p q.w) = badA p q.w := nakZ_three p q.w
  have b5 : has 5 (nakZ p q.w) = owns p q.w := rfl
  simp only [b1, b2, b3, b5, Bool.false_and, Bool.false_eq_true, if_false]
  congr 1
  · by_cases a : badA p q.w = true
    · have ha : q.w.auth ≠ 0 := by
        unfold badA at a
        rw [Bool.and_eq_true] at a
        simpa using a.1
      have ha' : (q.w.auth != 0) = true := by simpa using ha
      show (if badA p q.w && q.w.auth != 0 && q.c.takes &&& (if badA p q.w then kindA p else 0) != 0 then (if badA p q.w then kindA p else 0) else q.w.auth) = _
      rw [a, ha']
      rfl
    · have a' : badA p q.w = false := by simpa using a
      rw [a']; rfl
  · by_cases b : owns p q.w = true
    · have hh : q.w.hg = true := by
        unfold owns at b
        rw [Bool.and_eq_true] at b
        exact b.1
      rw [b, hh]; rfl
    · have b' : owns p q.w = false := by simpa using b
      rw [b']; rfl
/-! ### two confs of which each can do what the other one demands -/
theorem le_two {c : UInt8} (h : c ≤ 2) : c = 0 ∨ c = 1 ∨ c = 2 := by
  have h' : c.toNat ≤ 2 := UInt8.le_iff_toNat_le.1 h
  have hh : ∀ n, n ≤ 2 → n = 0 ∨ n = 1 ∨ n = 2 := fun n _ => by omega
  rcases hh _ h' with e | e | e
  · exact .inl (UInt8.toNat_inj.1 e)
  · exact .inr (.inl (UInt8.toNat_inj.1 e))
  · exact .inr (.inr (UInt8.toNat_inj.1 e))
theorem kind_takes {p : Po} {y : Lcp} {t : UInt8} (hcl : p.c.can ≤ 3) (ha : y.auth ≤ 2) (hb : badA p y = true) (h0 : p.c.can ≠ 0) (h : p.c.can = 3 ∨ t &&& p.c.can ≠ 0) : t &&& kindA p ≠ 0 := by
  unfold badA at hb
  unfold kindA
  rcases le_three hcl with e | e | e | e
  · exact absurd e h0
  · rw [e] at h ⊢
    rcases h with h | h
    · exact absurd h (by decide)
    · exact h
  · rw [e] at h ⊢
    rcases h with h | h
    · exact absurd h (by decide)
    · exact h
  · exfalso
    rw [e] at hb
    rcases le_two ha with a | a | a <;> rw [a] at hb <;> exact absurd hb (by decide)
theorem asks_wish {c : Conf} (m : UInt32) (h : mayC c = true) : Asks (wish c m) := by
  unfold mayC at h
  simp only [Bool.and_eq_true, Bool.or_eq_true, decide_eq_true_eq, beq_iff_eq] at h
  obtain ⟨⟨⟨⟨⟨⟨⟨h1, h2⟩, h3⟩, h4⟩, h5⟩, h6⟩, h7⟩, h8⟩ := h
  refine ⟨(may_iff _).2 ⟨h3, fun e => ?_, fun e => ?_, fun e => ?_⟩, fun e => ?_, fun e => ?_⟩
  · have e' : (c.mru != 0) = false := e
    show c.mru = 0
    simpa using e'
  · have e' : c.ha = false := e
    rcases h2 with h2 | h2
    · rw [e'] at h2; cases h2
    · exact h2
  · have e' : c.mg = false := e
    show (if c.mg then nz m else 0) = 0
    rw [e']; rfl
  · have e' : (c.mru != 0) = true := e
    have e2 : c.mru ≠ 0 := by simpa using e'
    rcases h1 with h1 | h1
    · exact absurd h1 e2
    · exact h1
  · have e' : c.mg = true := e
    show (if c.mg then nz m else 0) ≠ 0
    rw [e']
    exact nz_ne m
theorem behind_asks (q p : Po) (d : UInt32) (hy : Asks q.w) (hcl : p.c.can ≤ 3) (hc : q.w.auth ≠ 0 → p.c.can ≠ 0 ∧ (p.c.can = 3 ∨ q.c.takes &&& p.c.can ≠ 0)) :
    Asks (behind q p d) ∧ badA p (behind q p d) = false := by
  have hm := (may_iff q.w).1 hy.may
  refine ⟨⟨(may_iff _).2 ⟨?_, hm.2.1, hm.2.2.1, fun e => ?_⟩, hy.mru, fun e => ?_⟩, ?_⟩
  · show (if badA p q.w && q.c.takes &&& kindA p != 0 then kindA p else q.w.auth) ≤ 2
    split
    · exact (kindA_le p).1
    · exact hm.1
  · have e' : q.w.hg = false := e
    show (if owns p q.w then nz d else q.w.magic) = 0
    have ho : owns p q.w = false := by unfold owns; rw [e']; rfl
    rw [ho]
    exact hm.2.2.2 e'
  · show (if owns p q.w then nz d else q.w.magic) ≠ 0
    split
    · exact nz_ne d
    · exact hy.mag e
  · by_cases a : badA p q.w = true
    · have hau : q.w.auth ≠ 0 := by
        have a' := a
        unfold badA at a'
        rw [Bool.and_eq_true] at a'
        simpa using a'.1
      have h2 := hc hau
      have hk : (q.c.takes &&& kindA p != 0) = true := by simpa using kind_takes hcl hm.1 a h2.1 h2.2
      have e : (behind q p d).auth = kindA p := by
        show (if badA p q.w && q.c.takes &&& kindA p != 0 then kindA p else q.w.auth) = kindA p
        rw [a, hk]; rfl
      unfold badA
      rw [e]
      by_cases h3 : (p.c.can &&& kindA p != 0) = false
      · exact absurd (kind_can h3 hcl) h2.1
      · have h4 : (p.c.can &&& kindA p != 0) = true := by simpa using h3
        rw [h4, Bool.not_true, Bool.and_false]
    · have a' : badA p q.w = false := by simpa using a
      have e : (behind q p d).auth = q.w.auth := by
        show (if badA p q.w && q.c.takes &&& kindA p != 0 then kindA p else q.w.auth) = q.w.auth
        rw [a']; rfl
      unfold badA at a' ⊢
      rw [e]
      exact a'
end Go.Proofs.YtpppggicihfbgaaGreat.Pol
