/- Put together: PolQ, PolR, PolT. -/
import Derived.Test.YtpppggicihfbgaaGreatGOpts

/- What is suggested: plain mathematics. -/
namespace Go.Proofs.YtpppggicihfbgaaGreat.Pol
open Go.Proofs.YtpppggicihfbgaaGreat.Oct Go.Proofs.YtpppggicihfbgaaGreat.Opt Go.Proofs.YtpppggicihfbgaaGreat.Lco

theorem st_one (o : Opt) : st [o] = if good o then some (say lz o, []) else some (lz, [o]) := by
  have h := st_snoc [] o
  rw [List.nil_append, st_nil] at h
  rw [h]
  unfold Lco.step
  cases hg : good o
  · simp
  · have hh : has o.1 lz = false := by rcases known_cases (good_known hg) with e | e | e | e | e | e <;> rw [e] <;> rfl
    simp only [if_true, hh, Bool.false_eq_true, if_false]
theorem lo_good {o : Opt} (h : good o = true) : lo o = say lz o := by unfold lo Lco.gL; rw [st_one, if_pos h]
theorem lo_bad {o : Opt} (h : good o = false) : lo o = lz := by unfold lo Lco.gL; rw [st_one, h]; rfl
theorem lz_may : may lz = true := rfl
theorem lo_may (o : Opt) : may (lo o) = true := by
  cases h : good o
  · rw [lo_bad h]; rfl
  · rw [lo_good h]; exact say_may lz_may h
theorem lo_has {o : Opt} (h : good o = true) : has o.1 (lo o) = true := by rw [lo_good h]; exact (dat_say (x := lz) (t := o.1) (d := o.2) h).2
theorem acc_known {p : Po} {o : Opt} (h : acc p o = true) : known o.1 = true := by
  unfold acc at h
  split at h
  · rename_i e; rw [e]; rfl
  · exact good_known h
theorem acc_good {p : Po} {o : Opt} (h : acc p o = true) (h3 : o.1 ≠ 3) : good o = true := by
  unfold acc at h
  rw [if_neg h3] at h
  exact h
theorem and_zero8 (a : UInt8) : (a &&& 0 != 0) = false := by
  rw [show a &&& 0 = 0 from by apply UInt8.eq_of_toBitVec_eq; exact BitVec.and_zero]
  rfl
theorem bet_same {p : Po} {t : UInt8} (x : Lcp) (h1 : t ≠ 1) (h3 : t ≠ 3) (h5 : t ≠ 5) : bet p t x = x := by unfold bet; rw [if_neg h1, if_neg h3, if_neg h5]
theorem may_mru {x : Lcp} (h : may x = true) (hh : x.hm = true) (v : UInt16) : may { x with mru := v } = true := by
  rw [may_iff] at h ⊢
  exact ⟨h.1, (fun e => by rw [show ({ x with mru := v } : Lcp).hm = x.hm from rfl, hh] at e; cases e), h.2.2.1, h.2.2.2⟩
theorem may_magic {x : Lcp} (h : may x = true) (hh : x.hg = true) (v : UInt32) : may { x with magic := v } = true := by
  rw [may_iff] at h ⊢
  exact ⟨h.1, h.2.1, h.2.2.1, (fun e => by rw [show ({ x with magic := v } : Lcp).hg = x.hg from rfl, hh] at e; cases e)⟩
theorem may_auth {x : Lcp} (h : may x = true) {v : UInt8} (hv : v ≤ 2) : may { x with auth := v } = true := by
  rw [may_iff] at h ⊢
  exact ⟨hv, h.2⟩
theorem bet_ok {p : Po} {o : Opt} (h : acc p o = true) : may (bet p o.1 (lo o)) = true ∧ has o.1 (bet p o.1 (lo o)) = true := by
  have hm := lo_may o
  by_cases h3 : o.1 = 3
  · unfold bet
    rw [h3, if_neg (by decide), if_pos rfl]
    have ha := ((may_iff _).1 hm).1
    cases hc : (p.c.can &&& (lo o).auth != 0)
    · cases h2 : (p.c.can &&& 2 != 0)
      · exact ⟨may_auth (v := 1) hm (by decide), rfl⟩
      · exact ⟨may_auth (v := 2) hm (by decide), rfl⟩
    · refine ⟨may_auth hm ha, ?_⟩
      show ((lo o).auth != 0) = true
      rw [bne_iff_ne]
      intro e
      rw [e, and_zero8] at hc
      cases hc
  · have hg := acc_good h h3
    have hh := lo_has hg
    by_cases h1 : o.1 = 1
    · rw [h1] at hh ⊢
      unfold bet
      rw [if_pos rfl]
      exact ⟨may_mru hm hh _, hh⟩
    · by_cases h5 : o.1 = 5
      · rw [h5] at hh ⊢
        unfold bet
        rw [if_neg (by decide), if_neg (by decide), if_pos rfl]
        split
        · exact ⟨hm, hh⟩
        · split
          · exact ⟨may_magic hm hh _, hh⟩
          · exact ⟨may_magic hm hh _, hh⟩
      · rw [bet_same _ h1 h3 h5]
        exact ⟨hm, hh⟩
theorem fd_put {x : Lcp} {t : UInt8} (ht : known t = true) (hh : has t x = true) : fd t (put x) = some (t, dat t x) := by
  unfold fd
  cases hf : (put x).find? fun o => o.1 == t with
  | none =>
    rw [List.find?_eq_none] at hf
    exact absurd (by simp) (hf (t, dat t x) (mem_put.2 ⟨ht, hh, rfl⟩))
  | some o =>
    have h1 := List.find?_some hf
    have h2 := List.mem_of_find?_eq_some hf
    obtain ⟨u, d⟩ := o
    simp only [beq_iff_eq] at h1
    subst h1
    obtain ⟨_, _, rfl⟩ := mem_put.1 h2
    rfl
theorem fA_put {x : Lcp} {t : UInt8} (ht : known t = true) (hh : has t x = true) : fA t (put x) = (t, dat t x) ∧ fB t (put x) = true := by
  unfold fA fB
  rw [fd_put ht hh]
  exact ⟨rfl, rfl⟩
theorem sug_found {p : Po} {o : Opt} (h : acc p o = true) : fA o.1 (put (bet p o.1 (lo o))) = sug p o := (fA_put (acc_known h) (bet_ok h).2).1
theorem put_size4 (x : Lcp) : ∀ o ∈ put x, o.2.size ≤ 4 := by
  rintro ⟨t, d⟩ ho
  obtain ⟨hk, hh, rfl⟩ := mem_put.1 ho
  rcases known_cases hk with e | e | e | e | e | e <;> subst e
  · show (bOf (numS x.mru.toNat 2)).size ≤ 4
    rw [size_bOf, numS_length]; omega
  · show (bOf (numS x.accm.toNat 4)).size ≤ 4
    rw [size_bOf, numS_length]; omega
  · show (authD x.auth).size ≤ 4
    unfold authD
    split
    · rw [size_bOf]; decide
    · split <;> (rw [size_bOf]; decide)
  · show (bOf (numS x.magic.toNat 4)).size ≤ 4
    rw [size_bOf, numS_length]; omega
  · show (bOf []).size ≤ 4
    rw [size_bOf]; decide
  · show (bOf []).size ≤ 4
    rw [size_bOf]; decide
theorem put_len6 (x : Lcp) : (put x).length ≤ 6 := by
  unfold put
  exact Nat.le_trans (List.length_filterMap_le _ _) (by decide)
theorem sug_size {p : Po} {o : Opt} (h : acc p o = true) : (sug p o).2.size ≤ 4 := put_size4 _ _ (mem_put.2 ⟨acc_known h, (bet_ok h).2, rfl⟩)
end Go.Proofs.YtpppggicihfbgaaGreat.Pol

/- What Judge answers: plain mathematics. -/
namespace Go.Proofs.YtpppggicihfbgaaGreat.Pol
open Go.Proofs.YtpppggicihfbgaaGreat.Oct Go.Proofs.YtpppggicihfbgaaGreat.Opt Go.Proofs.YtpppggicihfbgaaGreat.Lco

/-! ### what is suggested is good, and stays -/
end Go.Proofs.YtpppggicihfbgaaGreat.Pol

/- What comes of a request: plain mathematics for the laws. -/
namespace Go.Proofs.YtpppggicihfbgaaGreat.Pol
open Go.Proofs.YtpppggicihfbgaaGreat.Oct Go.Proofs.YtpppggicihfbgaaGreat.Opt Go.Proofs.YtpppggicihfbgaaGreat.Lco

theorem seen_iff (l : List Opt) (t : UInt8) : seen l t = false ↔ ∀ d, (t, d) ∉ l := by
  unfold seen
  rw [List.any_eq_false]
  constructor
  · intro h d hd
    exact h _ hd (by simp)
  · rintro h ⟨u, d⟩ ho e
    simp only [beq_iff_eq] at e
    subst e
    exact h d ho
theorem fd_none {l : List Opt} {t : UInt8} : fd t l = none ↔ ∀ d, (t, d) ∉ l := by
  rw [← seen_iff]
  unfold fd seen
  rw [List.find?_eq_none, List.any_eq_false]

/-! ### a row within a row -/

/-! ### a request that is mended -/
end Go.Proofs.YtpppggicihfbgaaGreat.Pol
