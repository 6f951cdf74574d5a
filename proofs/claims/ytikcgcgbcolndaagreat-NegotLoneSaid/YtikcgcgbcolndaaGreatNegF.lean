/- A packet is received: in no state that hears, of no known code, of a known one. -/
import Derived.Test.YtikcgcgbcolndaaGreatG5
import Derived.Test.YtikcgcgbcolndaaGreatPktKn
import Derived.Test.YtikcgcgbcolndaaGreatQuietS
namespace Go.Proofs.YtikcgcgbcolndaaGreat.Neg
open Go.RowKit Go.Proofs.YtikcgcgbcolndaaGreat.Oct Go.Proofs.YtikcgcgbcolndaaGreat.Row Go.Proofs.YtikcgcgbcolndaaGreat.Mem Go.Proofs.YtikcgcgbcolndaaGreat.Opt Go.Proofs.YtikcgcgbcolndaaGreat.Fsm Go.ChangeMaps
open Go.Proofs.YtikcgcgbcolndaaGreat.Aut (Au Aut Inv evA evE evX push_set state_any)

/-! ### the map of what packets do -/
theorem find8_no (n : Int) : ∀ (es : List MapEntry) (i : Nat), (∀ e ∈ es, ∃ k, e.key = .int .u8 k ∧ (n == k) = false) → Instr.findNow (.int .u8) (.int .u8 n) es i = some none
  | [], _, _ => rfl
  | e :: es, i, h => by
    obtain ⟨k, hk, hn⟩ := h e (by simp)
    unfold Instr.findNow
    rw [hk]
    simp only [Instr.sameNow, if_true, hn]
    exact find8_no n es (i + 1) fun x hx => h x (by simp [hx])
theorem find8_yes (n : Int) (v : Value) : ∀ (es : List MapEntry) (i : Nat), (∀ e ∈ es, ∃ k, e.key = .int .u8 k) → (∃ e ∈ es, e.key = .int .u8 n) → (∀ e ∈ es, e.key = .int .u8 n → e.val = v) → ∃ j, Instr.findNow (.int .u8) (.int .u8 n) es i = some (some (j, v))
  | [], _, _, h, _ => by obtain ⟨e, he, _⟩ := h; cases he
  | e :: es, i, hk, hx, hv => by
    obtain ⟨k, ek⟩ := hk e (by simp)
    unfold Instr.findNow
    rw [ek]
    simp only [Instr.sameNow, if_true]
    by_cases hn : n = k
    · subst hn
      simp only [beq_self_eq_true]
      exact ⟨i, by rw [hv e (by simp) ek]⟩
    · rw [show (n == k) = false from beq_eq_false_iff_ne.2 hn]
      refine find8_yes n v es (i + 1) (fun x hx => hk x (by simp [hx])) ?_ (fun x hx => hv x (by simp [hx]))
      obtain ⟨y, hy, ey⟩ := hx
      rcases List.mem_cons.1 hy with rfl | hy
      · rw [ek] at ey; cases ey; exact absurd rfl hn
      · exact ⟨y, hy, ey⟩
theorem run_key8 (w : World) (em : Bool) (n : Int) : (Instr.checkKey em 10000 5 (.int .u8 n)).run Tryz.prog w = .ok () w := by
  have h := run_underlying (w := w) Tryz.underlying5
  unfold Instr.checkKey
  simp [h, Result.andThen]
def fE (c : Nat) : FuncId := if c = 1 then 65 else if c = 2 then 66 else if c = 3 then 67 else if c = 4 then 68 else if c = 5 then 69 else if c = 6 then 70 else if c = 7 then 71 else if c = 8 then 72 else 73
set_option maxRecDepth 100000 in
theorem fE_enters {c : Nat} (h1 : 1 ≤ c) (h2 : c ≤ 11) : ∀ args w, (callFunc (fE c) args).run Tryz.prog w = .ok (.enter (fE c) args) w := by
  rcases (show c = 1 ∨ c = 2 ∨ c = 3 ∨ c = 4 ∨ c = 5 ∨ c = 6 ∨ c = 7 ∨ c = 8 ∨ c = 9 ∨ c = 10 ∨ c = 11 by omega) with rfl | rfl | rfl | rfl | rfl | rfl | rfl | rfl | rfl | rfl | rfl
  all_goals exact fun args w => by kernel_rfl
def efV (c : Nat) : Value := .agg #[.func (.func (fE c)) #[] #[]]
def efs (n : Nat) : Array MapEntry := ((List.range n).map fun k => (⟨.int .u8 (k + 1 : Nat), efV (k + 1), k⟩ : MapEntry)).toArray
theorem efs_push (n : Nat) : (efs n).push ⟨.int .u8 (n + 1 : Nat), efV (n + 1), n⟩ = efs (n + 1) := by
  unfold efs
  rw [List.range_succ, List.map_append]
  simp
def Ep (W : World) (m : Nat) : Prop := W.heap[m]? = some (.map (efs 11) 11)
theorem Ep.lt {W : World} {m : Nat} (h : Ep W m) : m < W.heap.size := (Array.getElem?_eq_some_iff.1 h).1
theorem Ep.callee {W W' : World} {m : Nat} (h : Ep W m) (hb : Below W.heap.size W W') : Ep W' m := (hb.block m h.lt).trans h
theorem efs_mem {n : Nat} {e : MapEntry} (h : e ∈ (efs n).toList) : ∃ k : Nat, k < n ∧ e.key = .int .u8 (k + 1 : Nat) ∧ e.val = efV (k + 1) := by
  unfold efs at h
  simp only [List.mem_map, List.mem_range] at h
  obtain ⟨k, hk, rfl⟩ := h
  exact ⟨k, hk, rfl, rfl⟩
theorem run_lay8 {w W : World} {m c : Nat} {es : Array MapEntry} (n : Int) (v : Value) (h : W = w.alloc (.map es c)) (hm : m = w.heap.size) (hn : ∀ e ∈ es.toList, ∃ k, e.key = .int .u8 k ∧ (n == k) = false) :
    ∃ W', (Instr.mapUpdate 134 (.map (some m)) (.int .u8 n) v).run Tryz.prog W = .ok () W' ∧ W' = w.alloc (.map (es.push ⟨.int .u8 n, v, c⟩) (c + 1)) := by
  subst h hm
  refine ⟨_, ?_, rfl⟩
  have hb := (MapKept.heap_alloc w (.map es c)).1
  have h1 := run_underlying (w := w.alloc (.map es c)) Tryz.underlying5
  have h2 := run_underlying (w := w.alloc (.map es c)) Tryz.underlying134
  have h3 := run_key8 (w.alloc (.map es c)) false n
  have h4 := MapKept.run_setObj_map (P := Tryz.prog) (.map (es.push ⟨.int .u8 n, v, c⟩) (c + 1)) hb
  have e : { w.alloc (.map es c) with heap := (w.alloc (.map es c)).heap.setIfInBounds w.heap.size (.map (es.push ⟨.int .u8 n, v, c⟩) (c + 1)) } = w.alloc (.map (es.push ⟨.int .u8 n, v, c⟩) (c + 1)) :=
    congrArg (fun h : Array Obj => { w with heap := h }) (push_set w.heap (.map es c) (.map (es.push ⟨.int .u8 n, v, c⟩) (c + 1)))
  rw [e] at h4
  simp [Instr.mapUpdate, h2, MapKept.run_getObj_map hb, h3, Instr.findKey, h1, find8_no n es.toList 0 hn, h4, Result.andThen]
theorem lay_ef {w W : World} {m : Nat} (n : Nat) (N : Int) (v : Value) (hN : N = (n + 1 : Nat)) (hv : v = efV (n + 1)) (h : W = w.alloc (.map (efs n) n)) (hm : m = w.heap.size) :
    ∃ W', (Instr.mapUpdate 134 (.map (some m)) (.int .u8 N) v).run Tryz.prog W = .ok () W' ∧ W' = w.alloc (.map (efs (n + 1)) (n + 1)) := by
  obtain ⟨W', h1, h2⟩ := run_lay8 N v h hm (fun e he => by
    obtain ⟨k, hk, e1, _⟩ := efs_mem he
    exact ⟨_, e1, beq_eq_false_iff_ne.2 (by omega)⟩)
  refine ⟨W', h1, ?_⟩
  rw [h2, ← efs_push, hN, hv]
set_option maxHeartbeats 4000000 in
set_option maxRecDepth 100000 in
theorem effects_any (w : World) : Calls Tryz.prog 55 #[] w fun e w' => ∃ m, e = .returned (.map (some m)) ∧ Ep w' m ∧ w.heap.size ≤ m ∧ Below w.heap.size w w' := by
  have hmm := @run_makeMap Tryz.prog
  obtain ⟨W1, h1, e1⟩ := lay_ef (w := w) (W := w.alloc (.map #[] 0)) 0 1 (.agg #[.func (.func 65) #[] #[]]) rfl rfl rfl rfl
  obtain ⟨W2, h2, e2⟩ := lay_ef (w := w) 1 2 (.agg #[.func (.func 66) #[] #[]]) rfl rfl e1 rfl
  obtain ⟨W3, h3, e3⟩ := lay_ef (w := w) 2 3 (.agg #[.func (.func 67) #[] #[]]) rfl rfl e2 rfl
  obtain ⟨W4, h4, e4⟩ := lay_ef (w := w) 3 4 (.agg #[.func (.func 68) #[] #[]]) rfl rfl e3 rfl
  obtain ⟨W5, h5, e5⟩ := lay_ef (w := w) 4 5 (.agg #[.func (.func 69) #[] #[]]) rfl rfl e4 rfl
  obtain ⟨W6, h6, e6⟩ := lay_ef (w := w) 5 6 (.agg #[.func (.func 70) #[] #[]]) rfl rfl e5 rfl
  obtain ⟨W7, h7, e7⟩ := lay_ef (w := w) 6 7 (.agg #[.func (.func 71) #[] #[]]) rfl rfl e6 rfl
  obtain ⟨W8, h8, e8⟩ := lay_ef (w := w) 7 8 (.agg #[.func (.func 72) #[] #[]]) rfl rfl e7 rfl
  obtain ⟨W9, h9, e9⟩ := lay_ef (w := w) 8 9 (.agg #[.func (.func 73) #[] #[]]) rfl rfl e8 rfl
  obtain ⟨W10, h10, e10⟩ := lay_ef (w := w) 9 10 (.agg #[.func (.func 73) #[] #[]]) rfl rfl e9 rfl
  obtain ⟨W11, h11, e11⟩ := lay_ef (w := w) 10 11 (.agg #[.func (.func 73) #[] #[]]) rfl rfl e10 rfl
  have H : Hid (Ep W11 w.heap.size ∧ Below w.heap.size w W11) := by
    subst e11
    exact ⟨(MapKept.heap_alloc w _).1, (Below.refl _ _).alloc (Nat.le_refl _) _⟩
  clear e1 e2 e3 e4 e5 e6 e7 e8 e9 e10 e11
  go_enter Tryz.func55, Tryz.ntmps55
  go_wp2
  go_ret
  exact ⟨_, rfl, H.out.1, Nat.le_refl _, H.out.2⟩
theorem look_ef {c : Nat} (h1 : 1 ≤ c) (h2 : c ≤ 11) {W : World} {m : Nat} (h : Ep W m) :
    (Instr.lookup 134 (.map (some m)) (.int .u8 c) false).run Tryz.prog W = .ok (efV c) W := by
  have u1 := run_underlying (w := W) Tryz.underlying5
  have u2 := run_underlying (w := W) Tryz.underlying134
  have u3 := run_key8 W (efs 11).isEmpty c
  obtain ⟨j, hj⟩ := find8_yes c (efV c) (efs 11).toList 0 (fun e he => by obtain ⟨u, _, hk, _⟩ := efs_mem he; exact ⟨_, hk⟩) (by
      refine ⟨⟨.int .u8 (c - 1 + 1 : Nat), efV (c - 1 + 1), c - 1⟩, ?_, by rw [Nat.sub_add_cancel h1]⟩
      unfold efs
      simp only [List.mem_map, List.mem_range]
      exact ⟨c - 1, by omega, rfl⟩) (fun e he hk => by
    obtain ⟨u, _, hk', hv⟩ := efs_mem he
    have e2 := hk.symm.trans hk'
    simp only [Value.int.injEq, true_and] at e2
    rw [hv, show u + 1 = c by omega])
  have hb : W.heap[m]? = some (.map (efs 11) 11) := h
  simp [Instr.lookup, u2, MapKept.run_getObj_map hb, u3, Instr.findKey, u1, hj, Result.andThen]
end Go.Proofs.YtikcgcgbcolndaaGreat.Neg
