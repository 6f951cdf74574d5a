/- What a Nak comes to, and a Reject: plain mathematics; the map's functions by type. -/
import Derived.Test.YtcncmddhjbnggaaGreatPolBa
import Derived.Test.YtcncmddhjbnggaaGreatPolCa
namespace Go.Proofs.YtcncmddhjbnggaaGreat.Pol
open Go.RowKit Go.Proofs.YtcncmddhjbnggaaGreat.Oct Go.Proofs.YtcncmddhjbnggaaGreat.Row Go.Proofs.YtcncmddhjbnggaaGreat.Mem Go.Proofs.YtcncmddhjbnggaaGreat.Opt Go.Proofs.YtcncmddhjbnggaaGreat.Lco

theorem or_idem (a b : UInt32) : (a ||| b) ||| b = a ||| b := by
  apply UInt32.eq_of_toBitVec_eq
  simp [BitVec.or_assoc]
theorem nkW_step {c : Conf} {w x : Lcp} {d : UInt32} {m : UInt8 → Bool} {t : UInt8} (ht : known t = true) (hh : has t w = true) : nkF c (nkW c w x d m) x d t = nkW c w x d (fun u => m u || u == t) := by
  rcases known_cases ht with e | e | e | e | e | e <;> subst e
  · have h : w.hm = true := hh
    unfold nkF nkW
    by_cases h6 : 64 ≤ x.mru
    · cases h1 : m 1 <;> simp [h, h6, h1]
    · cases h1 : m 1 <;> simp [h, h6, h1]
  · have h : w.ha = true := hh
    unfold nkF nkW
    cases h1 : m 2 <;> simp [h, h1, or_idem]
  · have h : (w.auth != 0) = true := hh
    unfold nkF nkW
    cases h6 : (c.takes &&& x.auth != 0)
    · cases h1 : m 3 <;> simp [h, h6, h1]
    · cases h1 : m 3 <;> simp [h, h6, h1]
  · have h : w.hg = true := hh
    unfold nkF nkW
    cases h1 : m 5 <;> simp [h, h1]
  · unfold nkF nkW; simp
  · unfold nkF nkW; simp
theorem nkW_skip {c : Conf} {w x : Lcp} {d : UInt32} {m : UInt8 → Bool} {t : UInt8} (ht : known t = true) (hh : has t w = false) : nkW c w x d (fun u => m u || u == t) = nkW c w x d m := by
  rcases known_cases ht with e | e | e | e | e | e <;> subst e
  · have h : w.hm = false := hh
    unfold nkW; simp [h]
  · have h : w.ha = false := hh
    unfold nkW; simp [h]
  · have h : (w.auth != 0) = false := hh
    unfold nkW; simp [h]
  · have h : w.hg = false := hh
    unfold nkW; simp [h]
  · unfold nkW; simp
  · unfold nkW; simp
theorem nkW_congr {c : Conf} {w x : Lcp} {d : UInt32} {m m' : UInt8 → Bool} (h : ∀ t, known t = true → m t = m' t) : nkW c w x d m = nkW c w x d m' := by
  unfold nkW
  rw [h 1 rfl, h 2 rfl, h 3 rfl, h 5 rfl]
def mk (l : List Opt) (t : UInt8) : Bool := l.any fun o => good o && t == o.1
theorem mk_snoc (l : List Opt) (k : Nat) (o : Opt) (h : l[k]? = some o) : mk (l.take (k + 1)) = fun t => mk (l.take k) t || (good o && t == o.1) := by
  obtain ⟨hk, rfl⟩ := List.getElem?_eq_some_iff.1 h
  funext t
  unfold mk
  rw [List.take_succ_eq_append_getElem hk, List.any_append, List.any_cons, List.any_nil, Bool.or_false]
theorem mk_has {l : List Opt} (h : gE l = 0) (t : UInt8) (ht : known t = true) : mk l t = has t (Lco.gL l) := by
  unfold Lco.gE at h
  unfold Lco.gL
  cases hs : st l with
  | none => rw [hs] at h; cases h
  | some p =>
    obtain ⟨x, odd⟩ := p
    obtain ⟨_, _, hr⟩ := st_some hs
    rw [Bool.eq_iff_iff, hr.2.1 t ht]
    unfold mk
    rw [List.any_eq_true]
    constructor
    · rintro ⟨o, ho, h2⟩
      simp only [Bool.and_eq_true, beq_iff_eq] at h2
      exact ⟨o.2, List.mem_filter.2 ⟨by rw [h2.2]; exact ho, by rw [h2.2]; exact h2.1⟩⟩
    · rintro ⟨d, hd⟩
      obtain ⟨h1, h2⟩ := List.mem_filter.1 hd
      exact ⟨(t, d), h1, by rw [h2, beq_self_eq_true]; rfl⟩
theorem nkW_may {c : Conf} {w x : Lcp} {d : UInt32} {m : UInt8 → Bool} (h : may w = true) (hx : may x = true) : may (nkW c w x d m) = true := by
  rw [may_iff] at h hx ⊢
  obtain ⟨h1, h2, h3, h4⟩ := h
  refine ⟨?_, fun e => ?_, fun e => ?_, fun e => ?_⟩
  · show (if _ then x.auth else w.auth) ≤ 2
    split
    · exact hx.1
    · exact h1
  · show (if _ then x.mru else w.mru) = 0
    have e' : w.hm = false := e
    rw [e']
    simp [h2 e']
  · show (if _ then w.accm ||| x.accm else w.accm) = 0
    have e' : w.ha = false := e
    rw [e']
    simp [h3 e']
  · show (if _ then nz d else w.magic) = 0
    have e' : w.hg = false := e
    rw [e']
    simp [h4 e']
theorem drop_may {w : Lcp} (t : UInt8) (h : may w = true) : may (dropW w t) = true := by
  rw [may_iff] at h ⊢
  obtain ⟨h1, h2, h3, h4⟩ := h
  unfold dropW
  split
  · exact ⟨h1, fun _ => rfl, h3, h4⟩
  · split
    · exact ⟨h1, h2, fun _ => rfl, h4⟩
    · split
      · exact ⟨by show (0 : UInt8) ≤ 2; decide, h2, h3, h4⟩
      · split
        · exact ⟨h1, h2, h3, fun _ => rfl⟩
        · split
          · exact ⟨h1, h2, h3, h4⟩
          · split
            · exact ⟨h1, h2, h3, h4⟩
            · exact ⟨h1, h2, h3, h4⟩
theorem part_mem : ∀ {l r : List Opt}, part l r = true → ∀ o ∈ l, o ∈ r
  | [], _, _, o, h => by cases h
  | _ :: _, [], h, _, _ => by unfold part at h; cases h
  | a :: l, x :: r, h, o, ho => by
    unfold part at h
    by_cases e : x = a
    · rw [if_pos e] at h
      rcases List.mem_cons.1 ho with rfl | ho
      · rw [e]; simp
      · exact List.mem_cons_of_mem _ (part_mem h o ho)
    · rw [if_neg e] at h
      exact List.mem_cons_of_mem _ (part_mem h o ho)
theorem naked_fn {t : UInt8} (ht : known t = true) (g : Nat) (p : Po) (x : Lcp) (d : UInt32) (w : World) (h : PAt w g p) : Calls Tryz.prog (fN t) #[.pointer (some ⟨g, 0, none⟩), .agg (lv x).toArray, .int .u32 d.toNat] w (NkQ { p with w := nkF p.c p.w x d t } g w) := by
  rcases known_cases ht with e | e | e | e | e | e <;> subst e
  · exact nk1 g p x d w h
  · exact nk2 g p x d w h
  · exact nk3 g p x d w h
  · exact nk5 g p x d w h
  · exact nk7 g p x d w h
  · exact nk8 g p x d w h
theorem drop_fn {o : Opt} (ht : known o.1 = true) (g : Nat) (p : Po) (w : World) (h : PAt w g p) : Calls Tryz.prog (fX o.1) #[.pointer (some ⟨g, 0, none⟩)] w (NkQ (dropP p o) g w) := by
  obtain ⟨t, d⟩ := o
  rcases known_cases ht with e | e | e | e | e | e <;> (simp only at e; subst e)
  · exact dr1 g p d w h
  · exact dr2 g p d w h
  · exact dr3 g p d w h
  · exact dr5 g p d w h
  · exact dr7 g p d w h
  · exact dr8 g p d w h
theorem field1 (a b c : Nat) (w : World) : (Instr.field 87 (.agg #[.func (.func a) #[] #[], .func (.func b) #[] #[], .func (.func c) #[] #[]]) 1).run Tryz.prog w = .ok (.func (.func b) #[] #[]) w := by kernel_rfl
theorem field2 (a b c : Nat) (w : World) : (Instr.field 87 (.agg #[.func (.func a) #[] #[], .func (.func b) #[] #[], .func (.func c) #[] #[]]) 2).run Tryz.prog w = .ok (.func (.func c) #[] #[]) w := by kernel_rfl
theorem foldl_snoc (p : Po) (l : List Opt) (k : Nat) (o : Opt) (h : l[k]? = some o) : (l.take (k + 1)).foldl dropP p = dropP ((l.take k).foldl dropP p) o := by
  obtain ⟨hk, rfl⟩ := List.getElem?_eq_some_iff.1 h
  rw [List.take_succ_eq_append_getElem hk, List.foldl_append]
  rfl
/-- What a reply answers, and makes of the policy. -/
def RepQ (b : Bool) (q : Po) (g : Nat) (w : World) (e : Ending) (w' : World) : Prop := e = .returned (.bool b) ∧ PAt w' g q ∧ Moves (fun k => k = g) w w'
end Go.Proofs.YtcncmddhjbnggaaGreat.Pol
