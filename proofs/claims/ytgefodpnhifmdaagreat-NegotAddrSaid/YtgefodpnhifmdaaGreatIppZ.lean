/- Two policies that come to terms: plain mathematics. -/
import Derived.Test.YtgefodpnhifmdaaGreatGIppR
import Derived.Test.YtgefodpnhifmdaaGreatIppBa
namespace Go.Proofs.YtgefodpnhifmdaaGreat.Ipp
open Go.Proofs.YtgefodpnhifmdaaGreat.Oct Go.Proofs.YtgefodpnhifmdaaGreat.Opt Go.Proofs.YtgefodpnhifmdaaGreat.Ipc

def ca (own give d1 d2 : UInt32) : Conf := ⟨own, give, d1, d2, false, 5⟩
def cb (want : Bool) : Conf := ⟨0, 0, 0, 0, want, 5⟩
def u0 (want : Bool) : Ipc := ⟨true, 0, want, 0, want, 0⟩
def u1 (want : Bool) (d1 d2 : UInt32) : Ipc := ⟨true, 0, want && d1 != 0, 0, want && d2 != 0, 0⟩
def u2 (give : UInt32) (want : Bool) (d1 d2 : UInt32) : Ipc := ⟨true, give, want && d1 != 0, if want && d1 != 0 then d1 else 0, want && d2 != 0, if want && d2 != 0 then d2 else 0⟩
def na (v : UInt32) : ByteArray := bOf (numS v.toNat 4)
theorem na_size (v : UInt32) : (na v).size = 4 := by unfold na; rw [size_bOf, numS_length]
theorem put_three (h1 h2 : Bool) (a b c : UInt32) : put ⟨true, a, h1, b, h2, c⟩ = ((3 : UInt8), na a) :: ((if h1 then [((129 : UInt8), na b)] else []) ++ (if h2 then [((131 : UInt8), na c)] else [])) := by cases h1 <;> cases h2 <;> rfl
theorem good_na {t : UInt8} (ht : known t = true) (v : UInt32) : good (t, na v) = true := good_of ht (na_size v)
theorem or_zero (a : UInt32) : or32 a 0 = a := by unfold or32; split <;> rename_i h; exact h.symm; rfl
theorem dis_refs (p : Po) : ∀ l : List Opt, Dis l → refs (vs p l) = l.filter fun o => !ok p o := by
  refine Ipc.snoc_ind (fun _ => rfl) fun l o ih hd => ?_
  obtain ⟨h1, h2⟩ := (dis_snoc l o).1 hd
  rw [vs_append, refs_append, refs_one, ih h1, List.filter_append]
  congr 1
  unfold ver
  rw [(seen_iff l o.1).2 h2]
  cases hok : ok p o <;> simp [hok]
theorem part_sub : ∀ {l r : List Opt}, l.Sublist r → part l r = true
  | [], _, _ => by unfold part; rfl
  | o :: l, [], h => by cases h
  | o :: l, x :: r, h => by
    unfold part
    by_cases e : x = o
    · rw [if_pos e]
      cases h with
      | cons _ h => exact part_sub ((List.sublist_cons_self o l).trans h)
      | cons_cons _ h => exact part_sub h
    · rw [if_neg e]
      cases h with
      | cons _ h => exact part_sub h
      | cons_cons _ h => exact absurd rfl e
theorem has3 (want : Bool) (d1 d2 : UInt32) : Opt.fB 3 (put (u1 want d1 d2)) = true := by
  unfold u1
  rw [put_three]
  exact fB_iff.2 ⟨_, List.mem_cons_self⟩
section
variable {p : Po} {own give d1 d2 : UInt32} (hc : p.c = ca own give d1 d2) (hg : give ≠ 0)
include hc
theorem ok129 (v : UInt32) : ok p (129, na v) = (d1 != 0) := by
  unfold ok
  rw [good_na rfl]
  show (true && (p.c.dns1 != 0)) = _
  rw [hc]
  rfl
theorem ok131 (v : UInt32) : ok p (131, na v) = (d2 != 0) := by
  unfold ok
  rw [good_na rfl]
  show (true && (p.c.dns2 != 0)) = _
  rw [hc]
  rfl
theorem sug129 (v : UInt32) : sug p (129, na v) = (129, na d1) := by
  show ((129 : UInt8), bOf (numS p.c.dns1.toNat 4)) = _
  rw [hc]
  rfl
theorem sug131 (v : UInt32) : sug p (131, na v) = (131, na d2) := by
  show ((131 : UInt8), bOf (numS p.c.dns2.toNat 4)) = _
  rw [hc]
  rfl
include hg
theorem peer_ne' : p.c.peer ≠ 0 := by rw [hc]; exact hg
theorem ok3 (v : UInt32) : ok p (3, na v) = true := ok_peer (peer_ne' hc hg) (good_na rfl v) rfl
theorem sug3 (v : UInt32) : sug p (3, na v) = (3, na give) := by
  rw [sug_peer (peer_ne' hc hg) rfl]
  show ((3 : UInt8), bOf (numS p.c.peer.toNat 4)) = _
  rw [hc]
  rfl
theorem refs_u0 (want : Bool) : refs (vs p (put (u0 want))) = (if want && !(d1 != 0) then [((129 : UInt8), na 0)] else []) ++ (if want && !(d2 != 0) then [((131 : UInt8), na 0)] else []) := by
  rw [dis_refs p _ (rise_dis (put_rise _))]
  unfold u0
  rw [put_three]
  have h3 := ok3 hc hg 0
  have h1 := ok129 hc 0
  have h2 := ok131 hc 0
  cases want
  · simp [List.filter_cons, h3]
  · cases e1 : (d1 != 0) <;> cases e2 : (d2 != 0) <;> simp [List.filter_cons, h3, h1, h2, e1, e2]
theorem clean_u1 (want : Bool) : refs (vs p (put (u1 want d1 d2))) = [] := by
  rw [dis_refs p _ (rise_dis (put_rise _))]
  unfold u1
  rw [put_three]
  have h3 := ok3 hc hg 0
  have h1 := ok129 hc 0
  have h2 := ok131 hc 0
  cases want
  · simp [List.filter_cons, h3]
  · cases e1 : (d1 != 0) <;> cases e2 : (d2 != 0) <;> simp [List.filter_cons, h3, h1, h2, e1, e2]
theorem map_u1 (want : Bool) : (put (u1 want d1 d2)).map (sug p) = put (u2 give want d1 d2) := by
  unfold u1 u2
  rw [put_three, put_three]
  have h3 := sug3 hc hg 0
  have h1 := sug129 hc 0
  have h2 := sug131 hc 0
  cases (want && d1 != 0) <;> cases (want && d2 != 0) <;> simp [h3, h1, h2]
theorem other_u1 (want : Bool) : ∀ o ∈ put (u1 want d1 d2), other p o = true := by
  intro o ho
  unfold u1 at ho
  rw [put_three] at ho
  have key : ∀ (t : UInt8) (v : UInt32), v ≠ 0 → ¬ ((t, na v) : Opt) = (t, na 0) := fun t v hv e => hv (num_inj (congrArg (fun z : Opt => z.2) e))
  have h : ∀ (t : UInt8) (v : UInt32), v ≠ 0 → sug p (t, na 0) = (t, na v) → other p (t, na 0) = true := fun t v hv e => by
    unfold other
    rw [e, decide_eq_false (key t v hv)]
    rfl
  rcases List.mem_cons.1 ho with rfl | ho
  · exact h 3 give hg (sug3 hc hg 0)
  · rcases List.mem_append.1 ho with ho | ho
    · split at ho
      · rename_i e
        rw [List.mem_singleton] at ho
        subst ho
        exact h 129 d1 (bne_iff_ne.1 (Bool.and_eq_true_iff.1 e).2) (sug129 hc 0)
      · cases ho
    · split at ho
      · rename_i e
        rw [List.mem_singleton] at ho
        subst ho
        exact h 131 d2 (bne_iff_ne.1 (Bool.and_eq_true_iff.1 e).2) (sug131 hc 0)
      · cases ho
theorem sugs_u1 (want : Bool) : sugs p (put (u1 want d1 d2)) = put (u2 give want d1 d2) := by
  unfold sugs
  rw [(clean_vs (clean_u1 hc hg want)).2, List.filter_eq_self.2 (other_u1 hc hg want), map_u1 hc hg, miss_has (has3 want d1 d2), List.append_nil]
theorem ack_u2 (want : Bool) : refs (vs p (put (u2 give want d1 d2))) = [] ∧ sugs p (put (u2 give want d1 d2)) = [] := by
  have := mendA_clean (clean_u1 hc hg want)
  rw [miss_has (has3 want d1 d2), List.append_nil, map_u1 hc hg] at this
  exact this
end
theorem may_u2 (give : UInt32) (want : Bool) (d1 d2 : UInt32) : may (u2 give want d1 d2) = true := by
  rw [may_iff]
  unfold u2
  cases (want && d1 != 0) <;> cases (want && d2 != 0) <;> simp
theorem gL_put {x : Ipc} (hx : may x = true) : Ipc.gL (put x) = x ∧ Ipc.gE (put x) = 0 := by
  have h := st_put hx
  unfold Ipc.gL Ipc.gE
  rw [h]
  exact ⟨rfl, rfl⟩
/-- How far the two are, behind k requests. -/
def Sz (own give d1 d2 : UInt32) (want : Bool) (k : Nat) (p q : Po) : Prop :=
  p.c = ca own give d1 d2 ∧ p.w = ⟨true, own, false, 0, false, 0⟩ ∧ p.naks ≤ k ∧ q.c = cb want ∧ q.naks = 0 ∧ ((k = 0 ∧ q.w = u0 want) ∨ (k ≤ 1 ∧ p.naks = 0 ∧ q.w = u1 want d1 d2) ∨ (k ≤ 2 ∧ q.w = u2 give want d1 d2))
theorem sz_step {own give d1 d2 : UInt32} {want : Bool} {k : Nat} {p q : Po} (h : Sz own give d1 d2 want k p q) (hg : give ≠ 0) :
    (jC p (req q) = 4 ∧ k ≤ 1 ∧ rjB q (jA p (req q)) = true ∧ Sz own give d1 d2 want (k + 1) (jP p (req q)) (rjP q (jA p (req q)))) ∨
    (jC p (req q) = 3 ∧ k ≤ 1 ∧ nkB (jA p (req q)) = true ∧ Sz own give d1 d2 want (k + 1) (jP p (req q)) (nkP q (jA p (req q)))) ∨
    (jC p (req q) = 2 ∧ jA p (req q) = req q ∧ q.w = u2 give want d1 d2 ∧ (jP p (req q)).peer = u2 give want d1 d2) := by
  obtain ⟨hc, hw, hn, hqc, hqn, hs⟩ := h
  obtain ⟨j1, j2, j3, j4⟩ := jP_w p (req q)
  have nakstep : k ≤ 1 → p.naks = 0 → q.w = u1 want d1 d2 → (jC p (req q) = 3 ∧ k ≤ 1 ∧ nkB (jA p (req q)) = true ∧ Sz own give d1 d2 want (k + 1) (jP p (req q)) (nkP q (jA p (req q)))) := by
    intro hk h0 hq
    have hr : req q = put (u1 want d1 d2) := by unfold req; rw [hq]
    have hcl := clean_u1 hc hg want
    have hsu := sugs_u1 hc hg want
    have hne : ¬ sugs p (put (u1 want d1 d2)) = [] := by
      rw [hsu]
      unfold u2
      rw [put_three]
      simp
    obtain ⟨a, b, c⟩ := nak_of (way_nak hcl hne (by rw [h0, hc]; show ((0 : Nat) : Int) < 5; omega))
    rw [hr] at j1 j2 j3 j4 ⊢
    obtain ⟨g1, g2⟩ := gL_put (may_u2 give want d1 d2)
    have hnk : nkB (put (u2 give want d1 d2)) = true := by
      unfold nkB
      rw [g2]
      have : put (u2 give want d1 d2) ≠ [] := by rw [← hsu]; exact hne
      simpa using this
    refine ⟨a, hk, by rw [b, hsu]; exact hnk, ?_⟩
    rw [b, hsu]
    refine ⟨by rw [j2, hc], by rw [j1, hw], by omega, ?_, ?_, .inr (.inr ⟨by omega, ?_⟩)⟩
    · unfold nkP; rw [hnk]; exact hqc
    · unfold nkP; rw [hnk]; exact hqn
    · unfold nkP
      rw [hnk, if_pos rfl, g1]
      show nkW q.c q.w (u2 give want d1 d2) (fun t => has t q.w) = _
      rw [hqc, hq]
      unfold nkW u1 u2 cb has
      cases (want && d1 != 0) <;> cases (want && d2 != 0) <;> simp [or_zero]
  rcases hs with ⟨rfl, hq⟩ | ⟨hk, h0, hq⟩ | ⟨hk, hq⟩
  · have h0 : p.naks = 0 := by omega
    by_cases e : u0 want = u1 want d1 d2
    · exact .inr (.inl (nakstep (by omega) h0 (by rw [hq, e])))
    · have hr : req q = put (u0 want) := by unfold req; rw [hq]
      have hrf := refs_u0 hc hg want
      have hsub : (refs (vs p (put (u0 want)))).Sublist (put (u0 want)) := refs_sub p _
      have hne : ¬ refs (vs p (put (u0 want))) = [] := by
        rw [hrf]
        intro h
        apply e
        unfold u0 u1
        cases want
        · rfl
        · cases e1 : (d1 != 0)
          · rw [e1] at h; simp at h
          · cases e2 : (d2 != 0)
            · rw [e1, e2] at h; simp at h
            · rfl
      obtain ⟨a, b, c⟩ := rej_of (way_rej hne)
      rw [hr] at j1 j2 j3 j4 ⊢
      have hrj : rjB q (refs (vs p (put (u0 want)))) = true := by
        unfold rjB
        rw [hr, part_sub hsub]
        simpa using hne
      refine .inl ⟨a, by omega, by rw [b]; exact hrj, ?_⟩
      rw [b]
      have hfold : rjP q (refs (vs p (put (u0 want)))) = { q with w := u1 want d1 d2 } := by
        unfold rjP
        rw [hrj, if_pos rfl, hrf]
        obtain ⟨qw, qc, qm, qp, qn⟩ := q
        simp only at hq
        subst hq
        unfold u0 u1
        cases want
        · rfl
        · cases e1 : (d1 != 0) <;> cases e2 : (d2 != 0) <;> rfl
      rw [hfold]
      exact ⟨by rw [j2, hc], by rw [j1, hw], by rw [c]; exact Nat.zero_le _, hqc, hqn, .inr (.inl ⟨by omega, by rw [c], rfl⟩)⟩
  · exact .inr (.inl (nakstep hk h0 hq))
  · have hr : req q = put (u2 give want d1 d2) := by unfold req; rw [hq]
    obtain ⟨a1, a2⟩ := ack_u2 (p := p) hc hg want
    obtain ⟨a, b, c⟩ := ack_of (way_ack a1 a2)
    rw [hr]
    exact .inr (.inr ⟨a, b, hq, by rw [c]; exact (gL_put (may_u2 give want d1 d2)).1⟩)
/-- The other way about. -/
theorem sz_back {own : UInt32} {want : Bool} {p q : Po} (hw : p.w = ⟨true, own, false, 0, false, 0⟩) (hqc : q.c = cb want) (ho : own ≠ 0) : jC q (req p) = 2 ∧ jA q (req p) = req p ∧ (jP q (req p)).peer = ⟨true, own, false, 0, false, 0⟩ := by
  have hr : req p = [((3 : UInt8), na own)] := by unfold req; rw [hw, put_three]; rfl
  have hz : q.c.peer = 0 := by rw [hqc]; rfl
  have hg := good_na (t := 3) rfl own
  have hs : sa q 3 (lo (3, na own)) = own := by
    unfold sa or32
    rw [if_pos rfl, if_pos hz, lo_addr hg rfl]
    exact ad_num 3 own
  have hok : ok q (3, na own) = true := by unfold ok; rw [hg, hs]; exact bne_iff_ne.2 ho
  have hsu : sug q (3, na own) = (3, na own) := by show ((3 : UInt8), bOf (numS (sa q 3 (lo (3, na own))).toNat 4)) = _; rw [hs]; rfl
  have hcl : refs (vs q [((3 : UInt8), na own)]) = [] := (clean q _).2 ⟨fun o h => by rw [List.mem_singleton.1 h]; exact hok, by unfold Dis; simp⟩
  have hsg : sugs q [((3 : UInt8), na own)] = [] := by
    unfold sugs
    rw [(clean_vs hcl).2, miss_zero hz]
    simp [other, hsu]
  obtain ⟨a, b, c⟩ := ack_of (way_ack hcl hsg)
  rw [hr]
  refine ⟨a, b, ?_⟩
  rw [c]
  have := (gL_put (x := ⟨true, own, false, 0, false, 0⟩) rfl).1
  rw [put_three] at this
  exact this
end Go.Proofs.YtgefodpnhifmdaaGreat.Ipp
