/- A region in which cells of the table are told one by one, and laid as a row, whatever the order in which its operations come up. -/
import Derived.Test.YtkabjdejljdbiaaFsmA
import Derived.Great.BuildSlice
import Derived.Orders
namespace Go.Proofs.Ytkabjdejljdbiaa.Fsm
open Go.RowKit Go.Proofs.Ytkabjdejljdbiaa.Oct Go.Proofs.Ytkabjdejljdbiaa.Row Go.Proofs.Ytkabjdejljdbiaa.Mem

/-- The closure's number, from which state it lays, the table's block, those of the captured variable and of the empty cell. -/
structure Ctx where
  F : Nat
  f : Nat
  b : Nat
  p : Nat
  z : Nat

/-- What a slot holds. -/
inductive Sp where
  | any | no | fn | toF
  | num (n : Nat) | idx (n : Nat) | act (n : Nat)
  | cell (x : Cl) | nums (l : List Nat) | row (l : List Cl)
  deriving DecidableEq

def Sp.isAny : Sp → Bool
  | .any => true
  | _ => false

def Sp.holds (c : Ctx) (v : Value) (w : World) : Sp → Prop
  | .any => True
  | .no => v = .pointer (some ⟨c.z, 0, none⟩)
  | .fn => v = .func (.func c.F) #[] #[.pointer (some ⟨c.p, 0, none⟩)]
  | .toF => v = .func (.func 40) #[] #[]
  | .num n => v = .int .u8 n ∧ n < 256
  | .idx n => v = .int .i64 n ∧ n < 16
  | .act n => v = .int .u16 n ∧ n < 65536
  | .cell x => v = x.val
  | .nums l => l.length ≤ 100 ∧ (∀ x ∈ l, x < 65536) ∧ ∃ A, v = .slice A l.length l.length ∧ ∀ (j : Nat) (x : Nat), l[j]? = some x → ∃ g, A = some ⟨g, 0, none⟩ ∧ g ≠ c.b ∧ g < w.heap.size ∧ w.cell? ⟨g, j, none⟩ = some (.int .u16 (x : Int))
  | .row l => ∃ g, v = .slice (some ⟨g, 0, none⟩) l.length l.length ∧ g ≠ c.b ∧ Row w g l

theorem Sp.holds.moves {c : Ctx} {v : Value} {w w' : World} {s : Sp} (h : s.holds c v w) (hm : Moves (fun k => k = c.b) w w') : s.holds c v w' := by
  cases s <;> first
    | exact h
    | skip
  case nums l =>
    obtain ⟨h1, h2, A, hA, h3⟩ := h
    refine ⟨h1, h2, A, hA, fun j x hj => ?_⟩
    obtain ⟨g, e, hb, hg, hc⟩ := h3 j x hj
    exact ⟨g, e, hb, Nat.lt_of_lt_of_le hg hm.size, (hm.cell (p := ⟨g, j, none⟩) hg hb).trans hc⟩
  case row l =>
    obtain ⟨g, e, hb, hg, hc⟩ := h
    exact ⟨g, e, hb, Nat.lt_of_lt_of_le hg hm.size, fun j v hj => (hm.cell (p := ⟨g, j, none⟩) hg hb).trans (hc j v hj)⟩

def look (env : List (Nat × Sp)) (t : Nat) : Sp := (env.lookup t).getD .any
def constOf : Value → Sp
  | .slice none 0 0 => .nums []
  | .int .u8 n => if 0 ≤ n ∧ n < 256 then .num n.toNat else .any
  | .int .i64 n => if 0 ≤ n ∧ n < 16 then .idx n.toNat else .any
  | .int .u16 n => if 0 ≤ n ∧ n < 65536 then .act n.toNat else .any
  | _ => .any
def opnd (env : List (Nat × Sp)) : Operand → Sp
  | .tmp t => look env t
  | .const v => constOf v
  | .func f => if f = 40 then .toF else .any
  | .global _ => .any
theorem constOf_holds (c : Ctx) (v : Value) (w : World) : (constOf v).holds c v w := by
  unfold constOf
  split
  · exact ⟨by simp, by simp, none, rfl, fun j x hj => by simp at hj⟩
  · split
    · rename_i n h; exact ⟨by rw [Int.toNat_of_nonneg h.1], by omega⟩
    · trivial
  · split
    · rename_i n h; exact ⟨by rw [Int.toNat_of_nonneg h.1], by omega⟩
    · trivial
  · split
    · rename_i n h; exact ⟨by rw [Int.toNat_of_nonneg h.1], by omega⟩
    · trivial
  · trivial
theorem opnd_holds {c : Ctx} {env : List (Nat × Sp)} {a : Act} {w : World} (x : Operand) (h : ∀ t, x = .tmp t → (look env t).holds c (a.tmps.getD t undef) w) : (opnd env x).holds c (a.eval x) w := by
  cases x with
  | tmp t => exact h t rfl
  | const v => exact constOf_holds c v w
  | func f =>
    show (if f = 40 then Sp.toF else Sp.any).holds c _ w
    split
    · rename_i e; subst e; rfl
    · trivial
  | global g => trivial

def acts : List Sp → Option (List Nat)
  | [] => some []
  | .act n :: r => (acts r).map (n :: ·)
  | _ :: _ => none
def cls : List Sp → Option (List Cl)
  | [] => some []
  | .cell x :: r => (cls r).map (x :: ·)
  | _ :: _ => none
theorem acts_some : ∀ {s : List Sp} {l : List Nat}, acts s = some l → s = l.map Sp.act
  | [], l, h => by cases h; rfl
  | .act n :: r, l, h => by
    simp only [acts, Option.map_eq_some_iff] at h
    obtain ⟨m, hm, rfl⟩ := h
    rw [acts_some hm]; rfl
  | .any :: _, _, h | .no :: _, _, h | .fn :: _, _, h | .toF :: _, _, h | .num _ :: _, _, h | .idx _ :: _, _, h | .cell _ :: _, _, h | .nums _ :: _, _, h | .row _ :: _, _, h => by simp [acts] at h
theorem cls_some : ∀ {s : List Sp} {l : List Cl}, cls s = some l → s = l.map Sp.cell
  | [], l, h => by cases h; rfl
  | .cell n :: r, l, h => by
    simp only [cls, Option.map_eq_some_iff] at h
    obtain ⟨m, hm, rfl⟩ := h
    rw [cls_some hm]; rfl
  | .any :: _, _, h | .no :: _, _, h | .fn :: _, _, h | .toF :: _, _, h | .num _ :: _, _, h | .idx _ :: _, _, h | .act _ :: _, _, h | .nums _ :: _, _, h | .row _ :: _, _, h => by simp [cls] at h

def callSp (env : List (Nat × Sp)) (c : Call) : Sp :=
  match c.callee, c.args.toList with
  | .value f, [x, y] =>
    match opnd env f, opnd env x, opnd env y with
    | .toF, .num n, .nums l => .cell ⟨ors l, n, true⟩
    | _, _, _ => .any
  | _, _ => .any
def sp (env : List (Nat × Sp)) : Op → Sp
  | .move x => opnd env x
  | .load t x => if t = 57 then (match opnd env x with | .no => .cell no | _ => .any) else .any
  | .buildSlice t k ps =>
    if ps.toList.map (·.1) = List.range k ∧ 0 < k ∧ k ≤ 100 then
      if t = 64 then (match acts (ps.toList.map fun p => opnd env p.2) with | some l => .nums l | none => .any)
      else if t = 77 then (match cls (ps.toList.map fun p => opnd env p.2) with | some l => .row l | none => .any)
      else .any
    else .any
  | .call c => callSp env c
  | _ => .any
/-- The row that a call lays: at which event, which cells. -/
def rowSp (f : Nat) (env : List (Nat × Sp)) : Op → Option (Nat × List Cl)
  | .call c =>
    match c.callee, c.args.toList with
    | .value g, [x, y] =>
      match opnd env g, opnd env x, opnd env y with
      | .fn, .idx e, .row l => if 0 < l.length ∧ f + l.length ≤ 10 then some (e, l) else none
      | _, _, _ => none
    | _, _ => none
  | _ => none

/-- What is known all along. -/
structure Known (c : Ctx) (t : List Cl) (w : World) : Prop where
  tab : Tab w c.b t
  box : Blk w c.p [.pointer (some ⟨c.b, 0, none⟩)] 76
  no : Blk w c.z no.cells 57
  pb : c.p ≠ c.b
  zb : c.z ≠ c.b
theorem Known.callee {c : Ctx} {t : List Cl} {w w' : World} (h : Known c t w) (hb : Below w.heap.size w w') : Known c t w' :=
  ⟨⟨h.tab.1.callee hb, h.tab.2⟩, h.box.callee hb, h.no.callee hb, h.pb, h.zb⟩
theorem Known.moves {c : Ctx} {t t' : List Cl} {w w' : World} (h : Known c t w) (hm : Moves (fun k => k = c.b) w w') (ht : Tab w' c.b t') : Known c t' w' :=
  ⟨ht, h.box.moves hm h.pb, h.no.moves hm h.zb, h.pb, h.zb⟩

/-- Behind an operation that is no row's. -/
def Stepped (c : Ctx) (s : Sp) (a : Act) (d : Option Tmp) (w : World) (a' : Act) (w' : World) : Prop :=
  ∃ v, a' = a.put d v ∧ s.holds c v w' ∧ Below w.heap.size w w'

theorem zipIdx_swap (ps : List (Nat × Operand)) (g : Operand → Value) (k : Nat) (h : ps.map (·.1) = List.range k) :
    ps.map (fun p => (p.1, g p.2)) = ((ps.map fun p => g p.2).zipIdx 0).map fun x => (x.2, x.1) := by
  apply List.ext_getElem?
  intro i
  rw [List.getElem?_map, List.getElem?_map, List.getElem?_zipIdx, List.getElem?_map]
  cases hp : ps[i]? with
  | none => rfl
  | some p =>
    have h1 : (ps.map (·.1))[i]? = some p.1 := by rw [List.getElem?_map, hp]; rfl
    rw [h, List.getElem?_range (by have := (List.getElem?_eq_some_iff.1 hp).1; have := congrArg List.length h; rw [List.length_map, List.length_range] at this; omega)] at h1
    simp only [Option.some.injEq] at h1
    simp [h1]

theorem wp_slice {o : Oper} {a : Act} {w : World} {Q : Exit → Act → World → Prop} {K : Act → World → Prop} (t e : TypeId) (k z : Nat) (ps : Array (Nat × Operand)) (ho : o.op = .buildSlice t k ps)
    (hu : Try.prog.underlying t = some (.slice e)) (hi : (Try.prog.info? e).map (·.size) = some z) (hz : ((Try.prog.info? e).bind (·.zero)).isSome = true) (hzs : 0 < z) (hz3 : z ≤ 3)
    (hk : ps.toList.map (·.1) = List.range k ∧ 0 < k ∧ k ≤ 100) (vs : List Value) (hvs : ps.toList.map (fun p => a.eval p.2) = vs) (h1 : ∀ v ∈ vs, v.cells.size = z)
    (h : K (a.put o.dst (.slice (some ⟨w.heap.size, 0, none⟩) k k)) (w.alloc (.cells (vs.flatMap fun v => v.cells.toList).toArray e))) : o.wp Try.prog a w K Q := by
  have hlen : vs.length = k := by
    rw [← hvs, List.length_map]
    have := congrArg List.length hk.1
    rwa [List.length_map, List.length_range] at this
  have hkz : k * z ≤ 100 * 3 := Nat.mul_le_mul hk.2.2 hz3
  have hkp : 0 < k * z := Nat.mul_pos hk.2.1 hzs
  cases hie : Try.prog.info? e with
  | none => simp [hie] at hi
  | some ie =>
    simp only [hie, Option.map_some, Option.some.injEq, Option.bind_some] at hi hz
    obtain ⟨z0, hzz⟩ := Option.isSome_iff_exists.1 hz
    refine wp_buildSlice t e k ps ho _ ie z0 hu hie hzz (by rw [hi]; omega) (by rw [hi]; omega) ?_ h
    have hp : (ps.map fun (i, x) => (i, a.eval x)).toList = (vs.zipIdx 0).map fun x => (x.2, x.1) := by
      rw [Array.toList_map, ← hvs]
      exact zipIdx_swap ps.toList a.eval k hk.1
    rw [hp, hi]
    exact Great.fill_whole hzs vs _ h1 (by rw [hlen, Array.size_map, Array.size_range])

theorem step_ok {c : Ctx} {t : List Cl} {env : List (Nat × Sp)} {o : Oper} {a : Act} {w : World} {Q : Exit → Act → World → Prop} (hm : Known c t w)
    (hops : ∀ x ∈ o.op.operands, (opnd env x).holds c (a.eval x) w) (hs : (sp env o.op).isAny = false) : o.wp Try.prog a w (Stepped c (sp env o.op) a o.dst w) Q := by
  obtain ⟨dst, op, type, pos, after, guard⟩ := o
  cases op with
  | move x =>
    unfold Oper.wp execOp
    simp only [Sem.run_pure, Oper.upon]
    exact ⟨_, rfl, hops x (by simp [Op.operands]), Below.refl _ _⟩
  | load ty x =>
    have hx := hops x (by simp [Op.operands])
    simp only [sp] at hs ⊢
    split at hs
    case isFalse => cases hs
    rename_i hty
    subst hty
    split at hs
    case h_2 => cases hs
    rename_i hno
    rw [hno] at hx
    rw [if_pos rfl]
    have hx' : a.eval x = .pointer (some ⟨c.z, 0, none⟩) := hx
    have c0 : w.cell? ⟨c.z, 0, none⟩ = some (.int .u16 0) := hm.no.at_ 0
    have c1 : w.cell? ⟨c.z, 1, none⟩ = some (.int .u8 0) := hm.no.at_ 1
    have c2 : w.cell? ⟨c.z, 2, none⟩ = some (.bool false) := hm.no.at_ 2
    unfold Oper.wp execOp
    simp only [hx']
    go_simp
    exact ⟨_, rfl, rfl, Below.refl _ _⟩
  | buildSlice ty k ps =>
    have hv : ∀ p ∈ ps.toList, (opnd env p.2).holds c (a.eval p.2) w := fun p hp => hops p.2 (by simp only [Op.operands]; simp; exact ⟨p.1, by simpa using hp⟩)
    simp only [sp] at hs ⊢
    split at hs
    case isFalse => cases hs
    rename_i hk
    rw [if_pos hk]
    split at hs
    case isTrue =>
      rename_i hty
      subst hty
      rw [if_pos rfl]
      split at hs
      case h_2 => cases hs
      rename_i l hl
      have hm1 := acts_some hl
      have hlen : l.length = k := by
        have h1 := congrArg List.length hm1
        have h2 := congrArg List.length hk.1
        rw [List.length_map, List.length_map] at h1
        rw [List.length_map, List.length_range] at h2
        omega
      have hvs : ps.toList.map (fun p => a.eval p.2) = l.map (fun n : Nat => Value.int .u16 (n : Int)) ∧ ∀ n ∈ l, n < 65536 := by
        clear hl hk hlen hs
        generalize ps.toList = q at *
        induction q generalizing l with
        | nil =>
          cases l with
          | nil => exact ⟨rfl, by simp⟩
          | cons _ _ => cases hm1
        | cons p q ih =>
          cases l with
          | nil => cases hm1
          | cons n l =>
            simp only [List.map_cons, List.cons.injEq] at hm1
            have hp := hv p (by simp)
            rw [hm1.1] at hp
            obtain ⟨i1, i2⟩ := ih l (fun p hp => hv p (by simp [hp])) hm1.2
            refine ⟨by rw [List.map_cons, List.map_cons, i1, hp.1], fun m hm => ?_⟩
            rcases List.mem_cons.1 hm with rfl | hm
            · exact hp.2
            · exact i2 m hm
      have hfl : ∀ l : List Nat, ((l.map (fun n : Nat => Value.int .u16 (n : Int))).flatMap fun v => v.cells.toList) = l.map (fun n : Nat => Value.int .u16 (n : Int)) := by
        intro l
        induction l with
        | nil => rfl
        | cons n l ih => rw [List.map_cons, List.flatMap_cons, ih]; rfl
      refine wp_slice 64 28 k 1 ps rfl Try.underlying64 (by kernel_rfl) (by kernel_rfl) (by decide) (by decide) hk _ hvs.1 (fun v hv => by obtain ⟨n, _, rfl⟩ := List.mem_map.1 hv; rfl) ?_
      rw [hfl]
      refine ⟨_, rfl, ⟨by omega, hvs.2, _, by rw [hlen], fun j x hj => ⟨w.heap.size, rfl, fun e => Nat.lt_irrefl _ (e ▸ hm.tab.1.lt), by rw [World.size_alloc]; exact Nat.lt_succ_self _, ?_⟩⟩, (Below.refl _ w).alloc (Nat.le_refl _) _⟩
      rw [(blk_new w (l.map (fun n : Nat => Value.int .u16 (n : Int))) 28).at_ j, List.getElem?_map, hj]
      rfl
    case isFalse =>
      rename_i hty
      rw [if_neg hty]
      split at hs
      case isFalse => cases hs
      rename_i hty2
      subst hty2
      rw [if_pos rfl]
      split at hs
      case h_2 => cases hs
      rename_i l hl
      have hm1 := cls_some hl
      have hlen : l.length = k := by
        have h1 := congrArg List.length hm1
        have h2 := congrArg List.length hk.1
        rw [List.length_map, List.length_map] at h1
        rw [List.length_map, List.length_range] at h2
        omega
      have hvs : ps.toList.map (fun p => a.eval p.2) = l.map Cl.val := by
        clear hl hk hlen hs
        generalize ps.toList = q at *
        induction q generalizing l with
        | nil =>
          cases l with
          | nil => rfl
          | cons _ _ => cases hm1
        | cons p q ih =>
          cases l with
          | nil => cases hm1
          | cons n l =>
            simp only [List.map_cons, List.cons.injEq] at hm1
            have hp := hv p (by simp)
            rw [hm1.1] at hp
            rw [List.map_cons, List.map_cons, ih l (fun p hp => hv p (by simp [hp])) hm1.2]
            exact congrArg (· :: _) hp
      have hfl : ∀ l : List Cl, ((l.map Cl.val).flatMap fun v => v.cells.toList) = flat l := by
        intro l
        induction l with
        | nil => rfl
        | cons n l ih => rw [List.map_cons, List.flatMap_cons, ih]; rfl
      refine wp_slice 77 57 k 3 ps rfl Try.underlying77 (by kernel_rfl) (by kernel_rfl) (by decide) (by decide) hk _ hvs (fun v hv => by obtain ⟨n, _, rfl⟩ := List.mem_map.1 hv; rfl) ?_
      rw [hfl]
      refine ⟨_, rfl, ⟨w.heap.size, by rw [hlen], fun e => Nat.lt_irrefl _ (e ▸ hm.tab.1.lt), by rw [World.size_alloc]; exact Nat.lt_succ_self _, fun j v hj => ?_⟩, (Below.refl _ w).alloc (Nat.le_refl _) _⟩
      rw [(blk_new w (flat l) 57).at_ j, hj]
  | call cl =>
    simp only [sp, callSp] at hs ⊢
    split at hs
    case h_2 => cases hs
    rename_i f x y hf hxy
    split at hs
    case h_2 => cases hs
    rename_i n l h1 h2 h3
    obtain ⟨callee, args, argTypes⟩ := cl
    obtain ⟨args⟩ := args
    dsimp only at hf hxy
    subst hf hxy
    have k1 := hops f (by simp [Op.operands, Call.operands])
    have k2 := hops x (by simp [Op.operands, Call.operands])
    have k3 := hops y (by simp [Op.operands, Call.operands])
    rw [h1] at k1
    rw [h2] at k2
    rw [h3] at k3
    have k1' : a.eval f = .func (.func 40) #[] #[] := k1
    obtain ⟨k2', _⟩ := k2
    obtain ⟨hl, hu, A, hv, hc⟩ := k3
    have HC := to_any n _ l w ⟨A, rfl, fun j x hj => by obtain ⟨g, e1, _, e2, e3⟩ := hc j x hj; exact ⟨g, e1, e2, e3⟩⟩ hl hu
    unfold Oper.wp execOp
    simp only [resolve, List.map_toArray, List.map_cons, List.map_nil, k1', k2', hv]
    go_simp
    refine HC.mono ?_
    rintro e w1 ⟨rfl, hb⟩
    exact ⟨_, rfl, rfl, hb⟩
  | _ => cases hs
end Go.Proofs.Ytkabjdejljdbiaa.Fsm
