/- Regions of cells and rows, in whatever order their operations come up; a whole piece of code of them. -/
import Derived.Test.YtkabjdejljdbiaaFsmB
namespace Go.Proofs.Ytkabjdejljdbiaa.Fsm
open Go.RowKit Go.Proofs.Ytkabjdejljdbiaa.Oct Go.Proofs.Ytkabjdejljdbiaa.Row Go.Proofs.Ytkabjdejljdbiaa.Mem

section inv
variable {P : Program} {ops : Array Oper} {Q : Exit → Act → World → Prop}

/-- What is kept by whichever operation comes up holds behind them all. -/
theorem wpAny_inv (md : Region.Mode) (I : Array Bool → Act → World → Prop) (hsz : ∀ l a w, I l a w → l.size = ops.size)
    (hstep : ∀ l a w i, i ∈ Region.ready md ops l → I l a w → wpOp P ops Q i (fun a' w' => I (l.setIfInBounds i true) a' w') a w)
    (hend : ∀ l a w, Region.ready md ops l = [] → I l a w → Q .normal a w) :
    ∀ (fuel : Nat) (l : Array Bool) (a : Act) (w : World), l.toList.count false ≤ fuel → I l a w → wpAny P md ops Q fuel l a w := by
  have hlt : ∀ l a w i, i ∈ Region.ready md ops l → I l a w → ∃ h : i < l.toList.length, l.toList[i] = false := by
    intro l a w i hi hI
    have h1 := (mem_ready.1 hi).1
    obtain ⟨o, ho, _⟩ := (mem_ready.1 hi).2
    have h2 : i < l.size := by rw [hsz l a w hI]; exact (Array.getElem?_eq_some_iff.1 ho).1
    refine ⟨by simpa using h2, ?_⟩
    simpa [h2] using h1
  intro fuel
  induction fuel with
  | zero =>
    intro l a w hc hI
    have hr : Region.ready md ops l = [] := by
      cases hr : Region.ready md ops l with
      | nil => rfl
      | cons i r =>
        obtain ⟨h1, h2⟩ := hlt l a w i (by rw [hr]; simp) hI
        have : 0 < l.toList.count false := List.count_pos_iff.2 (h2 ▸ List.getElem_mem h1)
        omega
    exact ⟨hr, hend l a w hr hI⟩
  | succ fuel ih =>
    intro l a w hc hI
    refine ⟨fun hr => hend l a w hr hI, fun i hi => ?_⟩
    obtain ⟨h1, h2⟩ := hlt l a w i hi hI
    refine wpOp_mono (fun a' w' h => ih _ a' w' ?_ h) (hstep l a w i hi hI)
    have : (l.setIfInBounds i true).toList = l.toList.set i true := by simp
    rw [this, List.count_set h1, h2]
    have h0 : 0 < l.toList.count false := List.count_pos_iff.2 (h2 ▸ List.getElem_mem h1)
    show l.toList.count false - 1 + 0 ≤ fuel
    omega

/-- The same where they come up as they stand. -/
theorem wpOps_inv (md : Region.Mode) (I : Array Bool → Act → World → Prop) (hsz : ∀ l a w, I l a w → l.size = ops.size)
    (hstep : ∀ l a w i, i ∈ Region.ready md ops l → I l a w → wpOp P ops Q i (fun a' w' => I (l.setIfInBounds i true) a' w') a w)
    (hend : ∀ l a w, (∀ i, i < ops.size → l.getD i false = true) → I l a w → Q .normal a w)
    (hback : ∀ (i : Nat) (o : Oper), ops[i]? = some o → ∀ e ∈ o.after, Region.binds md e = true → e.on < i) :
    ∀ (n k : Nat) (l : Array Bool) (a : Act) (w : World), k + n = ops.size → (∀ j, j < ops.size → (l.getD j false = true ↔ j < k)) → I l a w → wpOps P ops Q (List.range' k n) a w := by
  intro n
  induction n with
  | zero =>
    intro k l a w hk hl hI
    exact hend l a w (fun i hi => (hl i hi).2 (by omega)) hI
  | succ n ih =>
    intro k l a w hk hl hI
    have hs := hsz l a w hI
    rw [List.range'_succ, wpOps_cons]
    have hkk : l.getD k true = false := by
      have h1 := (hl k (by omega))
      have h2 : k < l.size := by omega
      cases h3 : l[k]
      · simp [h2, h3]
      · have : l.getD k false = true := by simp [h2, h3]
        exact absurd (h1.1 this) (Nat.lt_irrefl k)
    have hr : k ∈ Region.ready md ops l := by
      rw [mem_ready]
      refine ⟨hkk, ops[k], Array.getElem?_eq_getElem (by omega), fun e he hb => ?_⟩
      have := hback k _ (Array.getElem?_eq_getElem (by omega)) e he hb
      exact (hl e.on (by omega)).2 this
    refine wpOp_mono (fun a' w' h => ih (k + 1) _ a' w' (by omega) (fun j hj => ?_) h) (hstep l a w k hr hI)
    by_cases hjk : k = j
    · subst hjk
      have h2 : k < l.size := by omega
      simp [h2]
    · rw [getD_set_ne false hjk, hl j hj]
      omega

theorem all_listed (md : Region.Mode) (l : Array Bool) (hs : l.size = ops.size) (hback : ∀ (i : Nat) (o : Oper), ops[i]? = some o → ∀ e ∈ o.after, Region.binds md e = true → e.on < i)
    (hr : Region.ready md ops l = []) : ∀ i, i < ops.size → l.getD i false = true := by
  intro i
  induction i using Nat.strongRecOn with
  | _ i ih =>
    intro hi
    cases h3 : l.getD i false
    · have h2 : i < l.size := by omega
      have : i ∈ Region.ready md ops l := by
        rw [mem_ready]
        refine ⟨by simpa [h2] using h3, ops[i], Array.getElem?_eq_getElem hi, fun e he hb => ?_⟩
        have := hback i _ (Array.getElem?_eq_getElem hi) e he hb
        exact ih e.on this (by omega)
      rw [hr] at this
      cases this
    · rfl
end inv

def base (t : Nat) : Bool := t == 2 || t == 3
def env0 : List (Nat × Sp) := [(2, .no), (3, .fn)]
def envOf (ops : Array Oper) : List (Nat × Sp) := ops.toList.foldl (fun env o => match o.dst with | some d => (d, sp env o.op) :: env | none => env) env0
def opGood (f N : Nat) (env : List (Nat × Sp)) (ops : Array Oper) (i : Nat) (o : Oper) : Bool :=
  o.guard.isNone && o.after.all (fun e => !Region.binds .any e || decide (e.on < i)) &&
  o.op.operands.all (fun | .tmp t => base t || o.after.any (fun e => Region.binds .any e && decide ((ops[e.on]?).bind (·.dst) = some t)) | _ => true) &&
  (match o.dst with
   | none => false
   | some d => decide (d < N) && !base d &&
     (if i + 1 = ops.size then decide (look env d = .any) && (rowSp f env o.op).isSome else !(sp env o.op).isAny && decide (look env d = sp env o.op)))
def check (f N : Nat) (env : List (Nat × Sp)) (ops : Array Oper) : Bool :=
  decide (0 < ops.size) && decide ((ops.toList.map (·.dst)).Nodup) && decide (look env 2 = .no) && decide (look env 3 = .fn) &&
  (List.range ops.size).all (fun i => match ops[i]? with | none => true | some o => opGood f N env ops i o)
/-- The row that a region lays. -/
def rowOf (f N : Nat) (ops : Array Oper) : Option (Nat × List Cl) :=
  if check f N (envOf ops) ops then (ops[ops.size - 1]?).bind (fun o => rowSp f (envOf ops) o.op) else none
/-- The rows that a piece of code lays. -/
def rowsOf (f N : Nat) : Code → Option (List (Nat × List Cl))
  | .region _ ops _ => (rowOf f N ops).map ([·])
  | .seq x y => match rowsOf f N x, rowsOf f N y with
    | some l, some m => some (l ++ m)
    | _, _ => none
  | _ => none

theorem put_at (a : Act) (d : Nat) (v : Value) (h : d < a.tmps.size) : (a.put (some d) v).tmps.getD d undef = v := by
  simp [Act.put, h]
theorem put_other (a : Act) (d t : Nat) (v : Value) (h : d ≠ t) : (a.put (some d) v).tmps.getD t undef = a.tmps.getD t undef := by
  simp [Act.put, Array.getElem?_setIfInBounds_ne h]

/-- A row's call, whatever lies where. -/
def RowCall (c : Ctx) : Prop := (∀ args w, (callFunc c.F args).run Try.prog w = .ok (.enter c.F args) w) ∧ ∀ (g e : Nat) (t l : List Cl) (w : World), Known c t w → Row w g l → e < 16 → c.f + l.length ≤ 10 → 0 < l.length →
  Calls Try.prog c.F #[.int .i64 e, .slice (some ⟨g, 0, none⟩) l.length l.length, .pointer (some ⟨c.p, 0, none⟩)] w
    fun x w' => x = .returned (.tuple #[]) ∧ Tab w' c.b (over t (e * 10 + c.f) l) ∧ Moves (fun k => k = c.b) w w'

/-- What the frame holds all along. -/
def Base (c : Ctx) (N : Nat) (a : Act) : Prop := a.tmps.size = N ∧ a.tmps.getD 2 undef = .pointer (some ⟨c.z, 0, none⟩) ∧ a.tmps.getD 3 undef = .func (.func c.F) #[] #[.pointer (some ⟨c.p, 0, none⟩)] ∧ a.defers = []

/-- What is kept within a region. -/
structure Inv (c : Ctx) (N : Nat) (ops : Array Oper) (t : List Cl) (e : Nat) (cs : List Cl) (w0 : World) (l : Array Bool) (a : Act) (w : World) : Prop where
  size : l.size = ops.size
  base : Base c N a
  slots : ∀ (j : Nat) (o : Oper) (d : Nat), ops[j]? = some o → l.getD j false = true → o.dst = some d → (look (envOf ops) d).holds c (a.tmps.getD d undef) w
  known : Known c (if l.getD (ops.size - 1) false = true then over t (e * 10 + c.f) cs else t) w
  moves : Moves (fun k => k = c.b) w0 w

theorem nodup_dst {ops : Array Oper} (h : (ops.toList.map (·.dst)).Nodup) {i j : Nat} {o o' : Oper} (hi : ops[i]? = some o) (hj : ops[j]? = some o') (he : o.dst = o'.dst) : i = j := by
  rw [← Array.getElem?_toList] at hi hj
  have h1 : (ops.toList.map (·.dst))[i]? = some o.dst := by rw [List.getElem?_map, hi]; rfl
  have h2 : (ops.toList.map (·.dst))[j]? = some o.dst := by rw [List.getElem?_map, hj, he]; rfl
  obtain ⟨k1, e1⟩ := List.getElem?_eq_some_iff.1 h1
  obtain ⟨k2, e2⟩ := List.getElem?_eq_some_iff.1 h2
  have hp := List.pairwise_iff_getElem.1 h
  rcases Nat.lt_trichotomy i j with hlt | rfl | hlt
  · exact absurd (e1.trans e2.symm) (hp i j k1 k2 hlt)
  · rfl
  · exact absurd (e2.trans e1.symm) (hp j i k2 k1 hlt)

theorem check_spec {f N : Nat} {ops : Array Oper} {r : Nat × List Cl} (h : rowOf f N ops = some r) :
    0 < ops.size ∧ (ops.toList.map (·.dst)).Nodup ∧ look (envOf ops) 2 = .no ∧ look (envOf ops) 3 = .fn ∧ (∀ i o, ops[i]? = some o → opGood f N (envOf ops) ops i o = true) ∧
    ∃ o, ops[ops.size - 1]? = some o ∧ rowSp f (envOf ops) o.op = some r := by
  unfold rowOf at h
  split at h
  case isFalse => cases h
  rename_i hc
  unfold check at hc
  simp only [Bool.and_eq_true, decide_eq_true_eq, List.all_eq_true, List.mem_range] at hc
  obtain ⟨⟨⟨⟨h1, h2⟩, h3⟩, h4⟩, h5⟩ := hc
  refine ⟨h1, h2, h3, h4, fun i o ho => ?_, Option.bind_eq_some_iff.1 h⟩
  have := h5 i (Array.getElem?_eq_some_iff.1 ho).1
  rw [ho] at this
  exact this

theorem opGood_spec {f N : Nat} {env : List (Nat × Sp)} {ops : Array Oper} {i : Nat} {o : Oper} (h : opGood f N env ops i o = true) :
    o.guard = none ∧ (∀ e ∈ o.after, Region.binds .any e = true → e.on < i) ∧
    (∀ t, Operand.tmp t ∈ o.op.operands → base t = true ∨ ∃ e ∈ o.after, Region.binds .any e = true ∧ (ops[e.on]?).bind (·.dst) = some t) ∧
    ∃ d, o.dst = some d ∧ d < N ∧ base d = false ∧ (if i + 1 = ops.size then look env d = .any else (sp env o.op).isAny = false ∧ look env d = sp env o.op) := by
  unfold opGood at h
  simp only [Bool.and_eq_true] at h
  obtain ⟨⟨⟨h1, h2⟩, h3⟩, h4⟩ := h
  refine ⟨by simpa using h1, fun e he hb => ?_, fun t ht => ?_, ?_⟩
  · have := Array.all_eq_true_iff_forall_mem.1 h2 e he
    simpa [hb] using this
  · have := Array.all_eq_true_iff_forall_mem.1 h3 _ ht
    rcases Bool.or_eq_true _ _ ▸ this with h | h
    · exact .inl h
    · obtain ⟨e, he, hb⟩ := Array.any_eq_true'.1 h
      rw [Bool.and_eq_true, decide_eq_true_eq] at hb
      exact .inr ⟨e, he, hb.1, hb.2⟩
  · split at h4
    · cases h4
    · rename_i d hd
      refine ⟨d, hd, ?_⟩
      simp only [Bool.and_eq_true, decide_eq_true_eq, Bool.not_eq_true'] at h4
      refine ⟨h4.1.1, h4.1.2, ?_⟩
      split
      · rename_i hi
        rw [if_pos hi] at h4
        simp only [Bool.and_eq_true, decide_eq_true_eq] at h4
        exact h4.2.1
      · rename_i hi
        rw [if_neg hi] at h4
        simp only [Bool.and_eq_true, decide_eq_true_eq, Bool.not_eq_true'] at h4
        exact h4.2

theorem wpOp_of {P : Program} {ops : Array Oper} {Q : Exit → Act → World → Prop} {i : Nat} {o : Oper} {a : Act} {w : World} {K : Act → World → Prop} (ho : ops[i]? = some o) (hg : o.guard = none) (h : o.wp P a w K Q) : wpOp P ops Q i K a w := by
  unfold wpOp
  simp only [ho]
  rw [if_pos (by simp [Region.wanted, hg])]
  exact .inl h

/-- Behind a row's call. -/
def Rowed (c : Ctx) (t l : List Cl) (e : Nat) (a : Act) (d : Option Tmp) (w : World) (a' : Act) (w' : World) : Prop :=
  ∃ v, a' = a.put d v ∧ Tab w' c.b (over t (e * 10 + c.f) l) ∧ Moves (fun k => k = c.b) w w'
theorem row_ok {c : Ctx} {t : List Cl} {env : List (Nat × Sp)} {o : Oper} {a : Act} {w : World} {Q : Exit → Act → World → Prop} {e : Nat} {l : List Cl} (hm : Known c t w) (hrow : RowCall c)
    (hops : ∀ x ∈ o.op.operands, (opnd env x).holds c (a.eval x) w) (hs : rowSp c.f env o.op = some (e, l)) :
    o.wp Try.prog a w (Rowed c t l e a o.dst w) Q := by
  obtain ⟨dst, op, type, pos, after, guard⟩ := o
  cases op with
  | call cl =>
    simp only [rowSp] at hs
    split at hs
    case h_2 => cases hs
    rename_i f x y hf hxy
    split at hs
    case h_2 => cases hs
    rename_i n l' h1 h2 h3
    split at hs
    case isFalse => cases hs
    rename_i hl
    cases hs
    obtain ⟨callee, args, argTypes⟩ := cl
    obtain ⟨args⟩ := args
    dsimp only at hf hxy
    subst hf hxy
    have k1 := hops f (by simp [Op.operands, Call.operands])
    have k2 := hops x (by simp [Op.operands, Call.operands])
    have k3 := hops y (by simp [Op.operands, Call.operands])
    rw [h1] at k1
    rw [h2] at k2
    rw [h3] at k3
    have k1' : a.eval f = .func (.func c.F) #[] #[.pointer (some ⟨c.p, 0, none⟩)] := k1
    obtain ⟨k2', he⟩ := k2
    obtain ⟨g, hv, hb, hR⟩ := k3
    have HC := hrow.2 g e t l w hm hR he hl.2 hl.1
    have HE := hrow.1
    unfold Oper.wp execOp
    simp only [resolve, List.map_toArray, List.map_cons, List.map_nil, k1', k2', hv]
    go_simp
    refine HC.mono ?_
    rintro x w1 ⟨rfl, h1, h2⟩
    exact ⟨_, rfl, h1, h2⟩
  | _ => cases hs

theorem inv_step {c : Ctx} {N : Nat} {ops : Array Oper} {t cs : List Cl} {e : Nat} {w0 : World} {Q : Exit → Act → World → Prop} (hr : rowOf c.f N ops = some (e, cs)) (hrow : RowCall c)
    (l : Array Bool) (a : Act) (w : World) (i : Nat) (hi : i ∈ Region.ready .any ops l) (hI : Inv c N ops t e cs w0 l a w) :
    wpOp Try.prog ops Q i (fun a' w' => Inv c N ops t e cs w0 (l.setIfInBounds i true) a' w') a w := by
  obtain ⟨hsz, hnd, hl2, hl3, hgood, o', ho', hro⟩ := check_spec hr
  obtain ⟨hun, o, ho, hall⟩ := mem_ready.1 hi
  have hil : i < ops.size := (Array.getElem?_eq_some_iff.1 ho).1
  obtain ⟨hg, hback, hdeps, d, hd, hdN, hdb, hlook⟩ := opGood_spec (hgood i o ho)
  have hds : d < a.tmps.size := by rw [hI.base.1]; exact hdN
  have hd2 : d ≠ 2 := fun e => by subst e; simp [base] at hdb
  have hd3 : d ≠ 3 := fun e => by subst e; simp [base] at hdb
  have hops : ∀ x ∈ o.op.operands, (opnd (envOf ops) x).holds c (a.eval x) w := by
    intro x hx
    refine opnd_holds x fun u hu => ?_
    subst hu
    rcases hdeps u hx with hb | ⟨ed, he, hbd, hto⟩
    · unfold base at hb
      simp only [Bool.or_eq_true, beq_iff_eq] at hb
      rcases hb with rfl | rfl
      · rw [hl2]; exact hI.base.2.1
      · rw [hl3]; exact hI.base.2.2.1
    · obtain ⟨oj, hoj, hdj⟩ := Option.bind_eq_some_iff.1 hto
      exact hI.slots ed.on oj u hoj (hall ed he hbd) hdj
  refine wpOp_of ho hg ?_
  have hset : ∀ j, (l.setIfInBounds i true).getD j false = true → j = i ∨ l.getD j false = true := by
    intro j hj
    by_cases hij : i = j
    · exact .inl hij.symm
    · rw [getD_set_ne false hij] at hj; exact .inr hj
  have hslots : ∀ (v : Value) (w' : World), (look (envOf ops) d).holds c v w' → Moves (fun k => k = c.b) w w' →
      ∀ (j : Nat) (oj : Oper) (dj : Nat), ops[j]? = some oj → (l.setIfInBounds i true).getD j false = true → oj.dst = some dj → (look (envOf ops) dj).holds c ((a.put (some d) v).tmps.getD dj undef) w' := by
    intro v w' hv hm j oj dj hoj hj hdj
    by_cases hji : j = i
    · subst hji
      obtain rfl : o = oj := by rw [ho] at hoj; exact Option.some.inj hoj
      obtain rfl : d = dj := by rw [hd] at hdj; exact Option.some.inj hdj
      rw [put_at a d v hds]
      exact hv
    · have hne : d ≠ dj := fun h => hji (nodup_dst hnd hoj ho (by rw [hd, hdj, h]))
      rw [put_other a d dj v hne]
      exact (hI.slots j oj dj hoj ((hset j hj).resolve_left hji) hdj).moves hm
  have hbase : ∀ v, Base c N (a.put (some d) v) := fun v =>
    ⟨by simp [Act.put, hI.base.1], by rw [put_other a d 2 v hd2]; exact hI.base.2.1, by rw [put_other a d 3 v hd3]; exact hI.base.2.2.1, hI.base.2.2.2⟩
  have hlsz : (l.setIfInBounds i true).size = ops.size := by simp [hI.size]
  by_cases hlast : i + 1 = ops.size
  · rw [if_pos hlast] at hlook
    have hi1 : ops.size - 1 = i := by omega
    obtain rfl : o = o' := by rw [hi1, ho] at ho'; exact Option.some.inj ho'
    have hk := hI.known
    have hll : l.getD i false = false := by
      have h2 : i < l.size := by rw [hI.size]; exact hil
      simpa [h2] using hun
    rw [hi1, hll, if_neg (by decide)] at hk
    refine Oper.wp_mono ?_ (row_ok hk hrow hops hro)
    rintro a' w' ⟨v, rfl, h1, h2⟩
    rw [hd]
    refine ⟨hlsz, hbase v, hslots v w' (by rw [hlook]; trivial) h2, ?_, hI.moves.trans h2 (fun _ _ h => h)⟩
    have : (l.setIfInBounds i true).getD (ops.size - 1) false = true := by
      rw [hi1]
      have h2 : i < l.size := by rw [hI.size]; exact hil
      simp [h2]
    rw [if_pos this]
    exact hk.moves h2 h1
  · rw [if_neg hlast] at hlook
    refine Oper.wp_mono ?_ (step_ok (env := envOf ops) hI.known hops hlook.1)
    rintro a' w' ⟨v, rfl, h1, h2⟩
    rw [hd]
    have hm : Moves (fun k => k = c.b) w w' := Moves.of_below h2
    refine ⟨hlsz, hbase v, hslots v w' (by rw [hlook.2]; exact h1) hm, ?_, hI.moves.trans hm (fun _ _ h => h)⟩
    rw [getD_set_ne false (show i ≠ ops.size - 1 by omega)]
    exact hI.known.callee h2

theorem Known.drewK {c : Ctx} {t : List Cl} {w : World} (h : Known c t w) : Known c t w.drew := ⟨h.tab, h.box, h.no, h.pb, h.zb⟩
/-- A region that lays a row. -/
theorem region_ok {c : Ctx} {N id : Nat} {ops : Array Oper} {draw : Bool} {t cs : List Cl} {e : Nat} {a : Act} {w : World} (hr : rowOf c.f N ops = some (e, cs)) (hrow : RowCall c) (ha : Base c N a) (hk : Known c t w) (hmix : Try.prog.follows .mixedOrders = true) :
    (Code.region id ops draw).wp Try.prog (fun x a' w' => x = .normal ∧ Base c N a' ∧ Known c (over t (e * 10 + c.f) cs) w' ∧ Moves (fun k => k = c.b) w w') a w := by
  obtain ⟨hsz, hnd, hl2, hl3, hgood, o', ho', hro⟩ := check_spec hr
  have hback : ∀ (i : Nat) (o : Oper), ops[i]? = some o → ∀ e ∈ o.after, Region.binds .any e = true → e.on < i := fun i o ho => (opGood_spec (hgood i o ho)).2.1
  have hend : ∀ (l : Array Bool) (a' : Act) (w' : World), (∀ i, i < ops.size → l.getD i false = true) → Inv c N ops t e cs w l a' w' →
      Exit.normal = Exit.normal ∧ Base c N a' ∧ Known c (over t (e * 10 + c.f) cs) w' ∧ Moves (fun k => k = c.b) w w' := by
    intro l a' w' hl hI
    refine ⟨rfl, hI.base, ?_, hI.moves⟩
    have := hI.known
    rwa [if_pos (hl (ops.size - 1) (by omega))] at this
  have hstart : ∀ w', Known c t w' → Moves (fun k => k = c.b) w w' → Inv c N ops t e cs w (Array.replicate ops.size false) a w' := fun w' hk hm =>
    ⟨by simp, ha, fun j o d _ hj => by simp [Array.getElem?_replicate] at hj; split at hj <;> simp_all, by rw [if_neg (by simp [Array.getElem?_replicate]; split <;> simp)]; exact hk, hm⟩
  cases draw with
  | true =>
    refine wp_region_any hmix ?_
    refine wpAny_inv .any (Inv c N ops t e cs w) (fun l a w h => h.size) (fun l a w i hi hI => inv_step hr hrow l a w i hi hI) ?_ _ _ _ _ (by rw [Array.toList_replicate, List.count_replicate_self]; exact Nat.le_refl _) ?_
    · intro l a' w' hrd hI
      exact hend l a' w' (all_listed .any l hI.size hback hrd) hI
    · exact hstart _ hk.drewK (Moves.refl _ w).drew
  | false =>
    refine wp_region ?_
    rw [List.range_eq_range']
    refine wpOps_inv .any (Inv c N ops t e cs w) (fun l a w h => h.size) (fun l a w i hi hI => inv_step hr hrow l a w i hi hI) hend hback _ 0 (Array.replicate ops.size false) a w (by omega) (fun j hj => by simp [hj]) (hstart w hk (Moves.refl _ w))

/-- A piece of code that lays rows. -/
theorem code_ok {c : Ctx} {N : Nat} (hrow : RowCall c) (hmix : Try.prog.follows .mixedOrders = true) : ∀ (x : Code) (rs : List (Nat × List Cl)), rowsOf c.f N x = some rs → ∀ (t : List Cl) (a : Act) (w : World), Base c N a → Known c t w →
    x.wp Try.prog (fun x a' w' => x = .normal ∧ Base c N a' ∧ Known c (lays c.f t rs) w' ∧ Moves (fun k => k = c.b) w w') a w
  | .region id ops draw, rs, h, t, a, w, ha, hk => by
    simp only [rowsOf, Option.map_eq_some_iff] at h
    obtain ⟨⟨e, cs⟩, hr, rfl⟩ := h
    exact region_ok hr hrow ha hk hmix
  | .seq x y, rs, h, t, a, w, ha, hk => by
    simp only [rowsOf] at h
    split at h
    case h_2 => cases h
    rename_i l m hx hy
    cases h
    refine wp_seq (wp_mono (code_ok hrow hmix x l hx t a w ha hk) ?_)
    rintro e a1 w1 ⟨rfl, h1, h2, h3⟩
    refine wp_mono (code_ok hrow hmix y m hy _ a1 w1 h1 h2) ?_
    rintro e a2 w2 ⟨rfl, k1, k2, k3⟩
    refine ⟨rfl, k1, ?_, h3.trans k3 (fun _ _ h => h)⟩
    unfold lays at k2 ⊢
    rw [List.foldl_append]
    exact k2
  | .skip, _, h, _, _, _, _, _ | .cond _ _ _, _, h, _, _, _, _, _ | .block _ _, _, h, _, _, _, _, _ | .loop _, _, h, _, _, _, _, _ | .rangeFunc _ _ _ _, _, h, _, _, _, _, _
  | .exit _, _, h, _, _, _, _, _ | .scope _, _, h, _, _, _, _, _ | .label _, _, h, _, _, _, _, _ | .goto _, _, h, _, _, _, _, _ | .ret, _, h, _, _, _, _, _ | .refuse _, _, h, _, _, _, _, _ => by cases h
end Go.Proofs.Ytkabjdejljdbiaa.Fsm
