/- Put together: HeldX, HeldTwo. -/
import Derived.OrdersHeld
import Derived.Deep.RegionHeld3
import Derived.Test.YtpppggicihfbgaaGreatGPure

/- A region that draws its order, with one condition on the world that all its operations keep but one: the last, which waits for those that are taken first. Of no program. -/
namespace Go.Proofs.YtpppggicihfbgaaGreat.Mem

def waitsB (md : Region.Mode) (ops : Array Oper) (i : Nat) : Nat → Nat → Bool
  | 0, _ => false
  | n + 1, k => match ops[k]? with
    | none => false
    | some o => o.after.any fun e => Region.binds md e && (e.on == i || waitsB md ops i n e.on)
def shutL (md : Region.Mode) (ops : Array Oper) (l : Array Bool) : Prop :=
  ∀ (k : Nat) (o : Oper), ops[k]? = some o → l.getD k false = true → ∀ e ∈ o.after, Region.binds md e = true → l.getD e.on false = true

section
variable {P : Program} {ops : Array Oper} {Q : Exit → Act → World → Prop} {md : Region.Mode} {S : World → Prop} {z : Nat}

theorem shut_start (n : Nat) : shutL md ops (Array.replicate n false) := by
  intro k o _ hk
  rcases Nat.lt_or_ge k n with h | h
  · simp [h] at hk
  · simp [h] at hk
theorem ready_shut {l : Array Bool} {j : Nat} (h : shutL md ops l) (hj : j ∈ Region.ready md ops l) : shutL md ops (l.setIfInBounds j true) := by
  intro k o ho hk e he hb
  obtain ⟨hjun, oj, hoj, hall⟩ := mem_ready.1 hj
  refine getD_set_true ?_
  by_cases hjk : j = k
  · subst hjk
    rw [hoj] at ho
    cases ho
    exact hall e he hb
  · rw [getD_set_ne false hjk] at hk
    exact h k o ho hk e he hb
theorem waits_not {l : Array Bool} {i : Nat} (h : shutL md ops l) (hi : l.getD i false = false) : ∀ (n k : Nat), waitsB md ops i n k = true → l.getD k false = true → False
  | 0, _, hw, _ => by cases hw
  | n + 1, k, hw, hk => by
    unfold waitsB at hw
    cases ho : ops[k]? with
    | none => rw [ho] at hw; cases hw
    | some o =>
      rw [ho] at hw
      obtain ⟨e, he, hb⟩ := Array.any_eq_true'.1 hw
      simp only [Bool.and_eq_true, Bool.or_eq_true, beq_iff_eq] at hb
      have h2 := h k o ho hk e he hb.1
      rcases hb.2 with e1 | e1
      · rw [← e1, h2] at hi
        cases hi
      · exact waits_not h hi n e.on e1 h2
theorem not_ready {l : Array Bool} {i n : Nat} (h : shutL md ops l) (hi : l.getD i false = false) (hw : waitsB md ops i n z = true) : ¬ z ∈ Region.ready md ops l := by
  intro hz
  cases n with
  | zero => cases hw
  | succ n =>
    unfold waitsB at hw
    obtain ⟨_, o, ho, hall⟩ := mem_ready.1 hz
    rw [ho] at hw
    obtain ⟨e, he, hb⟩ := Array.any_eq_true'.1 hw
    simp only [Bool.and_eq_true, Bool.or_eq_true, beq_iff_eq] at hb
    have h2 := hall e he hb.1
    rcases hb.2 with e1 | e1
    · rw [← e1, h2] at hi
      cases hi
    · exact waits_not h hi n e.on e1 h2
theorem unlisted {l : Array Bool} {i : Nat} (h : l.getD i true = false) : l.getD i false = false := by
  rcases Nat.lt_or_ge i l.size with h' | h'
  · simp [h'] at h ⊢; exact h
  · simp [h'] at h

end
end Go.Proofs.YtpppggicihfbgaaGreat.Mem

/- A region that draws its order, with one condition on the world ahead of one of its operations, and another one behind it. Of no program. -/
namespace Go.Proofs.YtpppggicihfbgaaGreat.Mem

section
variable {P : Program} {ops : Array Oper} {Q : Exit → Act → World → Prop} {md : Region.Mode} {S0 S1 : World → Prop} {k : Nat}

def condT (k : Nat) (S0 S1 : World → Prop) (l : Array Bool) (w : World) : Prop := if l.getD k false = true then S1 w else S0 w
theorem cond_at {l : Array Bool} {w : World} (h : l.getD k false = true) : condT k S0 S1 l w = S1 w := if_pos h
theorem cond_ahead {l : Array Bool} {w : World} (h : l.getD k false = false) : condT k S0 S1 l w = S0 w := if_neg (by rw [h]; decide)
theorem getD_set {l : Array Bool} {i j : Nat} (h : i ≠ j) : (l.setIfInBounds i true).getD j false = l.getD j false := getD_set_ne false h
def wpAnyT (P : Program) (md : Region.Mode) (ops : Array Oper) (Q : Exit → Act → World → Prop) (k : Nat) (S0 S1 : World → Prop) : Nat → Array Bool → Act → World → Prop
  | 0, listed, a, w => Region.ready md ops listed = [] ∧ Q .normal a w
  | fuel + 1, listed, a, w =>
    (Region.ready md ops listed = [] → Q .normal a w) ∧
    ∀ i ∈ Region.ready md ops listed, wpOp P ops Q i (fun a' w' => condT k S0 S1 (listed.setIfInBounds i true) w' ∧ wpAnyT P md ops Q k S0 S1 fuel (listed.setIfInBounds i true) a' w') a w
theorem wpAny_of_t : ∀ (fuel : Nat) (listed : Array Bool) (a : Act) (w : World), wpAnyT P md ops Q k S0 S1 fuel listed a w → wpAny P md ops Q fuel listed a w
  | 0, _, _, _, h => h
  | fuel + 1, _, _, _, h => ⟨h.1, fun i hi => wpOp_mono (fun a' w' h' => wpAny_of_t fuel _ a' w' h'.2) (h.2 i hi)⟩
def Ph (md : Region.Mode) (ops : Array Oper) (k i n : Nat) (S0 S1 T : World → Prop) (l : Array Bool) : Prop :=
  i ≠ k ∧ ((l.getD k false = true ∧ T = S1) ∨ (l.getD k false = false ∧ waitsB md ops i n k = true ∧ T = S0))
theorem Ph.cond {i n : Nat} {T : World → Prop} {l : Array Bool} {w : World} (h : Ph md ops k i n S0 S1 T l) : condT k S0 S1 l w = T w := by
  obtain ⟨_, ⟨h1, rfl⟩ | ⟨h1, _, rfl⟩⟩ := h
  · exact cond_at h1
  · exact cond_ahead h1
theorem Ph.cond_i {i n : Nat} {T : World → Prop} {l : Array Bool} {w : World} (h : Ph md ops k i n S0 S1 T l) : condT k S0 S1 (l.setIfInBounds i true) w = T w := by
  rw [← h.cond (w := w)]
  unfold condT
  rw [getD_set h.1]
theorem Ph.next {i n j : Nat} {T : World → Prop} {l : Array Bool} (h : Ph md ops k i n S0 S1 T l) (hs : shutL md ops l) (hi : l.getD i false = false) (hj : j ∈ Region.ready md ops l) : Ph md ops k i n S0 S1 T (l.setIfInBounds j true) := by
  obtain ⟨hik, ⟨h1, rfl⟩ | ⟨h1, h2, rfl⟩⟩ := h
  · exact ⟨hik, .inl ⟨getD_set_true h1, rfl⟩⟩
  · have hjk : j ≠ k := fun e => not_ready hs hi h2 (e ▸ hj)
    exact ⟨hik, .inr ⟨by rw [getD_set hjk]; exact h1, h2, rfl⟩⟩
theorem wpAnyT_first {i n : Nat} {oi : Oper} {v : Value} {T : World → Prop} (hi : ops[i]? = some oi) (hsel : ∀ (j : Nat) (o : Oper) cs b, ops[j]? = some o → o.op ≠ .select cs b)
    (hQ : ∀ c a w, Q (.panic c) (a.put oi.dst v) w → Q (.panic c) a w) :
    ∀ (fuel : Nat) (listed : Array Bool) (a : Act) (w : World),
      (∀ j oj, ops[j]? = some oj → j ≠ i → listed.getD j true = false → (∀ e ∈ oj.after, Region.binds md e = true → e.on ≠ i) → oi.apart ops oj = true) →
      shutL md ops listed → Ph md ops k i n S0 S1 T listed → i ∈ Region.ready md ops listed → YieldsIf P ops T oi v a → T w →
      wpAnyT P md ops Q k S0 S1 fuel (listed.setIfInBounds i true) (a.put oi.dst v) w → wpAnyT P md ops Q k S0 S1 (fuel + 1) listed a w := by
  intro fuel
  induction fuel with
  | zero =>
    intro listed a w _ _ hp hr hy hS H
    refine ⟨fun h => (by rw [h] at hr; cases hr), fun j hj => ?_⟩
    by_cases hji : j = i
    · subst hji; exact hy.wpOp hi hS ⟨by rw [hp.cond_i]; exact hS, H⟩
    · have := ready_mono hj hji
      rw [H.1] at this
      cases this
  | succ fuel ih =>
    intro listed a w hfree hsh hp hr hy hS H
    refine ⟨fun h => (by rw [h] at hr; cases hr), fun j hj => ?_⟩
    by_cases hji : j = i
    · subst hji; exact hy.wpOp hi hS ⟨by rw [hp.cond_i]; exact hS, H⟩
    · have h1 := H.2 j (ready_mono hj hji)
      obtain ⟨hjun, oj, hoj, hall⟩ := mem_ready.1 hj
      have hiun := unlisted (mem_ready.1 hr).1
      have hnot : ∀ e ∈ oj.after, Region.binds md e = true → e.on ≠ i := fun e he hb heq => by
        have h1 := hall e he hb
        rw [heq, hiun] at h1
        cases h1
      have h2 := wpOp_putIf hoj (hfree j oj hoj hji hjun hnot) (fun cs b => hsel i oi cs b hi) (fun cs b => hsel j oj cs b hoj) hQ hy h1
      have hfree' : ∀ k ok, ops[k]? = some ok → k ≠ i → (listed.setIfInBounds j true).getD k true = false →
          (∀ e ∈ ok.after, Region.binds md e = true → e.on ≠ i) → oi.apart ops ok = true := fun k ok hk hki hun hno => by
        refine hfree k ok hk hki ?_ hno
        by_cases hjk : j = k
        · subst hjk; exact hjun
        · rw [getD_set_ne true hjk] at hun; exact hun
      have hp' := hp.next hsh hiun hj
      refine wpOp_mono (fun a' w' h3 => ?_) h2
      have hS' : T w' := by
        have h4 := h3.2.1
        rw [Array.setIfInBounds_comm _ _ (Ne.symm hji), hp'.cond_i] at h4
        exact h4
      refine ⟨by rw [hp'.cond]; exact hS', ih (listed.setIfInBounds j true) a' w' hfree' (ready_shut hsh hj) hp' (ready_mono hr (Ne.symm hji)) h3.1 hS' ?_⟩
      rw [Array.setIfInBounds_comm _ _ hji]
      exact h3.2.2
theorem wpAnyT_take {i n : Nat} {oi : Oper} {v : Value} {fuel : Nat} {listed : Array Bool} {a : Act} {w : World} (T : World → Prop) (hi : ops[i]? = some oi)
    (hs : Region.noSelect ops = true) (hf : Region.free md ops listed i = true) (hr : (Region.ready md ops listed).contains i = true)
    (hQ : ∀ c a w, Q (.panic c) (a.put oi.dst v) w → Q (.panic c) a w) (hp : Ph md ops k i n S0 S1 T listed) (hsh : shutL md ops listed) (hy : YieldsIf P ops T oi v a) (hS : T w)
    (h : shutL md ops (listed.setIfInBounds i true) → wpAnyT P md ops Q k S0 S1 fuel (listed.setIfInBounds i true) (a.put oi.dst v) w) : wpAnyT P md ops Q k S0 S1 (fuel + 1) listed a w :=
  wpAnyT_first hi (Region.noSelect_spec hs) hQ fuel listed a w (Region.free_spec hi hf) hsh hp (by simpa using hr) hy hS (h (ready_shut hsh (by simpa using hr)))
def AllReadyT (P : Program) (md : Region.Mode) (ops : Array Oper) (Q : Exit → Act → World → Prop) (k : Nat) (S0 S1 : World → Prop) (fuel : Nat) (listed : Array Bool) (a : Act) (w : World) (rs : List Nat) : Prop :=
  ∀ i ∈ rs, wpOp P ops Q i (fun a' w' => condT k S0 S1 (listed.setIfInBounds i true) w' ∧ wpAnyT P md ops Q k S0 S1 fuel (listed.setIfInBounds i true) a' w') a w
theorem AllReadyT.nil {fuel : Nat} {listed : Array Bool} {a : Act} {w : World} : AllReadyT P md ops Q k S0 S1 fuel listed a w [] := fun _ h => by cases h
theorem AllReadyT.cons {fuel : Nat} {listed : Array Bool} {a : Act} {w : World} {i : Nat} {o : Oper} {rs : List Nat} (T : World → Prop) (hT : ∀ w, condT k S0 S1 (listed.setIfInBounds i true) w = T w) (hi : (Region.ready md ops listed).contains i = true) (hsh : shutL md ops listed) (ho : ops[i]? = some o)
    (h : ∀ K' : Act → World → Prop, Shut (∀ a w, T w → (T w → shutL md ops (listed.setIfInBounds i true) → wpAnyT P md ops Q k S0 S1 fuel (listed.setIfInBounds i true) a w) → K' a w) → if Region.wanted o (yielded ops a.tmps) = true then Oper.wp P o a w K' Q else K' (a.put o.dst undef) w)
    (hs : AllReadyT P md ops Q k S0 S1 fuel listed a w rs) : AllReadyT P md ops Q k S0 S1 fuel listed a w (i :: rs) := fun j hj => by
  rcases List.mem_cons.1 hj with rfl | hj
  · exact wpOp_step ho (fun K' hK => h K' (fun a w hS hW => hK a w ⟨by rw [hT]; exact hS, hW hS (ready_shut hsh (by simpa using hi))⟩))
  · exact hs j hj
theorem wpAnyT_ready {rs : List Nat} {fuel : Nat} {listed : Array Bool} {a : Act} {w : World} (hr : Region.ready md ops listed = rs) (hne : rs ≠ [])
    (h : AllReadyT P md ops Q k S0 S1 fuel listed a w rs) : wpAnyT P md ops Q k S0 S1 (fuel + 1) listed a w :=
  ⟨fun h0 => absurd (hr ▸ h0) hne, hr ▸ h⟩
theorem wpAnyT_done {listed : Array Bool} {a : Act} {w : World} (hr : Region.ready md ops listed = []) (h : Q .normal a w) : ∀ fuel, wpAnyT P md ops Q k S0 S1 fuel listed a w
  | 0 => ⟨hr, h⟩
  | _ + 1 => ⟨fun _ => h, by rw [hr]; simp⟩
theorem wp_region_t {id : Nat} {a : Act} {w : World} (k : Nat) (S0 S1 : World → Prop) (hm : P.follows .mixedOrders = true)
    (h : shutL .any ops (Array.replicate ops.size false) → wpAnyT P .any ops Q k S0 S1 ops.size (Array.replicate ops.size false) a w.drew) : (Code.region id ops true).wp P Q a w :=
  wp_region_any hm (wpAny_of_t _ _ _ _ (h (shut_start _)))
end
end Go.Proofs.YtpppggicihfbgaaGreat.Mem
