/- auto's map of what the actions do, and how an event occurs. -/
import Derived.Test.YtkabjdejljdbiaaAutA
import Derived.Maps.RangeRun
import Derived.Maps.Keyed
import Derived.Shelf.Abstract
import Derived.KernelRfl
namespace Go.Proofs.Ytkabjdejljdbiaa.Aut
open Go.RowKit Go.Proofs.Ytkabjdejljdbiaa.Oct Go.Proofs.Ytkabjdejljdbiaa.Row Go.Proofs.Ytkabjdejljdbiaa.Mem Go.Proofs.Ytkabjdejljdbiaa.Fsm Go.ChangeMaps

/-- An action that does something; its function. -/
def kn (a : Nat) : Bool := decide (a = 16) || decide (a = 32) || decide (a = 64) || decide (a = 512)
def fn (a : Nat) : Nat := if a = 16 then 32 else if a = 32 then 33 else 34
theorem kn_cases {a : Nat} (h : kn a = true) : a = 16 ∨ a = 32 ∨ a = 64 ∨ a = 512 := by
  simp only [kn, Bool.or_eq_true, decide_eq_true_eq] at h
  omega
theorem eff_any {a : Nat} (ha : kn a = true) (g set : Nat) (x : Au) (w : World) (h : Aut w g x) (hs : set < 65536) (hc : x.c ≤ 20) : Calls Try.prog (fn a) #[.pointer (some ⟨g, 0, none⟩), .int .u16 set] w (EffP g set a x w) := by
  rcases kn_cases ha with rfl | rfl | rfl | rfl
  · exact init_any g set x w h hs
  · exact zero_any g set x w h
  · exact count_any g set 64 x w h (.inl rfl) hc
  · exact count_any g set 512 x w h (.inr rfl) hc
theorem eff_enters {a : Nat} (ha : kn a = true) : ∀ args w, (callFunc (fn a) args).run Try.prog w = .ok (.enter (fn a) args) w := by
  rcases kn_cases ha with rfl | rfl | rfl | rfl
  · exact enters_of Try.func32 (by kernel_rfl) rfl
  · exact enters_of Try.func33 (by kernel_rfl) rfl
  · exact enters_of Try.func34 (by kernel_rfl) rfl
  · exact enters_of Try.func34 (by kernel_rfl) rfl
def doV (a : Nat) : Value := .agg #[.func (.func (fn a)) #[] #[]]
/-- The map's entries. -/
def ents : Array MapEntry := #[⟨.int .u16 16, doV 16, 0⟩, ⟨.int .u16 32, doV 32, 1⟩, ⟨.int .u16 64, doV 64, 2⟩, ⟨.int .u16 512, doV 512, 3⟩]
/-- The map lies in block m. -/
def Mp (W : World) (m : Nat) : Prop := W.heap[m]? = some (.map ents 4)
theorem Mp.lt {W : World} {m : Nat} (h : Mp W m) : m < W.heap.size := (Array.getElem?_eq_some_iff.1 h).1
theorem Mp.callee {W W' : World} {m : Nat} (h : Mp W m) (hb : Below W.heap.size W W') : Mp W' m := (hb.block m h.lt).trans h
theorem Mp.moves {S : Nat → Prop} {W W' : World} {m : Nat} (h : Mp W m) (hm : Moves S W W') (hs : ¬ S m) : Mp W' m := (hm.block m h.lt hs).trans h
theorem find_no (n : Int) : ∀ (es : List MapEntry) (i : Nat), (∀ e ∈ es, ∃ k, e.key = .int .u16 k ∧ (n == k) = false) → Instr.findNow (.int .u16) (.int .u16 n) es i = some none
  | [], _, _ => rfl
  | e :: es, i, h => by
    obtain ⟨k, hk, hn⟩ := h e (by simp)
    unfold Instr.findNow
    rw [hk]
    simp only [Instr.sameNow, if_true, hn]
    exact find_no n es (i + 1) fun x hx => h x (by simp [hx])
theorem run_key (w : World) (em : Bool) (n : Int) : (Instr.checkKey em 10000 28 (.int .u16 n)).run Try.prog w = .ok () w := by
  have h := run_underlying (w := w) Try.underlying28
  unfold Instr.checkKey
  simp [h, Result.andThen]
theorem push_set {α : Type} (a : Array α) (x y : α) : (a.push x).setIfInBounds a.size y = a.push y := by
  apply Array.ext_getElem?
  intro i
  rw [Array.getElem?_setIfInBounds, Array.getElem?_push, Array.getElem?_push, Array.size_push]
  by_cases hi : a.size = i
  · subst hi
    rw [if_pos rfl, if_pos (Nat.lt_succ_self _), if_pos rfl]
  · rw [if_neg hi, if_neg (Ne.symm hi), if_neg (Ne.symm hi)]
/-- An action more is laid into the map. -/
theorem run_lay {w W : World} {m c : Nat} {es : Array MapEntry} (n : Int) (v : Value) (h : W = w.alloc (.map es c)) (hm : m = w.heap.size) (hn : ∀ e ∈ es.toList, ∃ k, e.key = .int .u16 k ∧ (n == k) = false) :
    ∃ W', (Instr.mapUpdate 62 (.map (some m)) (.int .u16 n) v).run Try.prog W = .ok () W' ∧ W' = w.alloc (.map (es.push ⟨.int .u16 n, v, c⟩) (c + 1)) := by
  subst h hm
  refine ⟨_, ?_, rfl⟩
  have hb := (MapKept.heap_alloc w (.map es c)).1
  have h1 := run_underlying (w := w.alloc (.map es c)) Try.underlying28
  have h2 := run_underlying (w := w.alloc (.map es c)) Try.underlying62
  have h3 := run_key (w.alloc (.map es c)) false n
  have h4 := MapKept.run_setObj_map (P := Try.prog) (.map (es.push ⟨.int .u16 n, v, c⟩) (c + 1)) hb
  have e : { w.alloc (.map es c) with heap := (w.alloc (.map es c)).heap.setIfInBounds w.heap.size (.map (es.push ⟨.int .u16 n, v, c⟩) (c + 1)) } = w.alloc (.map (es.push ⟨.int .u16 n, v, c⟩) (c + 1)) :=
    congrArg (fun h : Array Obj => { w with heap := h }) (push_set w.heap (.map es c) (.map (es.push ⟨.int .u16 n, v, c⟩) (c + 1)))
  rw [e] at h4
  simp [Instr.mapUpdate, h2, MapKept.run_getObj_map hb, h3, Instr.findKey, h1, find_no n es.toList 0 hn, h4, Result.andThen]
set_option maxHeartbeats 1000000 in
set_option maxRecDepth 100000 in
theorem effects_any (w : World) : Calls Try.prog 27 #[] w fun e w' => ∃ m, e = .returned (.map (some m)) ∧ Mp w' m ∧ w.heap.size ≤ m ∧ Below w.heap.size w w' := by
  have hmm := @run_makeMap Try.prog
  obtain ⟨W1, h1, e1⟩ := run_lay (w := w) (c := 0) (es := #[]) 16 (doV 16) rfl rfl (by intro e he; simp at he)
  obtain ⟨W2, h2, e2⟩ := run_lay (w := w) 32 (doV 32) e1 rfl (by intro e he; simp at he; subst he; exact ⟨16, rfl, rfl⟩)
  obtain ⟨W3, h3, e3⟩ := run_lay (w := w) 64 (doV 64) e2 rfl (by intro e he; simp at he; rcases he with rfl | rfl; exact ⟨16, rfl, rfl⟩; exact ⟨32, rfl, rfl⟩)
  obtain ⟨W4, h4, e4⟩ := run_lay (w := w) 512 (doV 512) e3 rfl (by intro e he; simp at he; rcases he with rfl | rfl | rfl; exact ⟨16, rfl, rfl⟩; exact ⟨32, rfl, rfl⟩; exact ⟨64, rfl, rfl⟩)
  have H : Hid (Mp W4 w.heap.size ∧ Below w.heap.size w W4) := by
    subst e4
    exact ⟨(MapKept.heap_alloc w _).1, (Below.refl _ _).alloc (Nat.le_refl _) _⟩
  clear e1 e2 e3 e4
  simp only [doV, fn] at h1 h2 h3 h4
  simp only [if_true, show ¬ (32 : Nat) = 16 by decide, show ¬ (64 : Nat) = 16 by decide, show ¬ (64 : Nat) = 32 by decide, show ¬ (512 : Nat) = 16 by decide, show ¬ (512 : Nat) = 32 by decide, if_false] at h1 h2 h3 h4
  go_enter Try.func27, Try.ntmps27
  go_wp2
  go_ret
  exact ⟨_, rfl, H.out.1, Nat.le_refl _, H.out.2⟩

/-! ### looking up -/
theorem find_yes (n : Int) (v : Value) : ∀ (es : List MapEntry) (i : Nat), (∀ e ∈ es, ∃ k, e.key = .int .u16 k) → (∃ e ∈ es, e.key = .int .u16 n) → (∀ e ∈ es, e.key = .int .u16 n → e.val = v) → ∃ j, Instr.findNow (.int .u16) (.int .u16 n) es i = some (some (j, v))
  | [], _, _, h, _ => by obtain ⟨e, he, _⟩ := h; cases he
  | e :: es, i, hk, hx, hv => by
    obtain ⟨k, ek⟩ := hk e (by simp)
    unfold Instr.findNow
    rw [ek]
    simp only [Instr.sameNow, if_true]
    by_cases hn : n = k
    · subst hn
      simp only [beq_self_eq_true]
      exact ⟨i, by rw [hv e (by simp) ek]⟩
    · rw [show (n == k) = false from beq_eq_false_iff_ne.2 hn]
      refine find_yes n v es (i + 1) (fun x hx => hk x (by simp [hx])) ?_ (fun x hx => hv x (by simp [hx]))
      obtain ⟨y, hy, ey⟩ := hx
      rcases List.mem_cons.1 hy with rfl | hy
      · rw [ek] at ey; cases ey; exact absurd rfl hn
      · exact ⟨y, hy, ey⟩
theorem ents_mem {e : MapEntry} (h : e ∈ ents.toList) : ∃ t : Nat, kn t = true ∧ e.key = .int .u16 (t : Int) ∧ e.val = doV t := by
  simp only [ents, List.mem_cons, List.not_mem_nil, or_false] at h
  rcases h with rfl | rfl | rfl | rfl
  · exact ⟨16, rfl, rfl, rfl⟩
  · exact ⟨32, rfl, rfl, rfl⟩
  · exact ⟨64, rfl, rfl, rfl⟩
  · exact ⟨512, rfl, rfl, rfl⟩
theorem mem_ents {t : Nat} (h : kn t = true) : ∃ e ∈ ents.toList, e.key = .int .u16 (t : Int) := by
  rcases kn_cases h with e | e | e | e <;> subst e
  · exact ⟨⟨.int .u16 16, doV 16, 0⟩, by simp [ents], rfl⟩
  · exact ⟨⟨.int .u16 32, doV 32, 1⟩, by simp [ents], rfl⟩
  · exact ⟨⟨.int .u16 64, doV 64, 2⟩, by simp [ents], rfl⟩
  · exact ⟨⟨.int .u16 512, doV 512, 3⟩, by simp [ents], rfl⟩
theorem look_yes {t : Nat} (ht : kn t = true) {W : World} {m : Nat} (h : Mp W m) :
    (Instr.lookup 62 (.map (some m)) (.int .u16 t) true).run Try.prog W = .ok (.tuple #[doV t, .bool true]) W := by
  have h1 := run_underlying (w := W) Try.underlying28
  have h2 := run_underlying (w := W) Try.underlying62
  have h3 := run_key W ents.isEmpty t
  obtain ⟨j, hj⟩ := find_yes t (doV t) ents.toList 0 (fun e he => by obtain ⟨u, _, hk, _⟩ := ents_mem he; exact ⟨_, hk⟩) (mem_ents ht) (fun e he hk => by
    obtain ⟨u, _, hk', hv⟩ := ents_mem he
    have e2 := hk.symm.trans hk'
    simp only [Value.int.injEq, true_and] at e2
    rw [hv, show t = u by omega])
  have hb : W.heap[m]? = some (.map ents 4) := h
  simp [Instr.lookup, h2, MapKept.run_getObj_map hb, h3, Instr.findKey, h1, hj, Result.andThen]
theorem look_no {t : Nat} (ht : kn t = false) {W : World} {m : Nat} (h : Mp W m) :
    (Instr.lookup 62 (.map (some m)) (.int .u16 t) true).run Try.prog W = .ok (.tuple #[.agg #[.nilFunc], .bool false]) W := by
  have h1 := run_underlying (w := W) Try.underlying28
  have h2 := run_underlying (w := W) Try.underlying62
  have h3 := run_key W ents.isEmpty t
  have hj := find_no t ents.toList 0 (fun e he => by
    obtain ⟨u, hu, hk, _⟩ := ents_mem he
    refine ⟨_, hk, beq_eq_false_iff_ne.2 fun e => ?_⟩
    have : t = u := by omega
    rw [this, hu] at ht
    cases ht)
  have hb : W.heap[m]? = some (.map ents 4) := h
  simp [Instr.lookup, h2, MapKept.run_getObj_map hb, h3, Instr.findKey, h1, hj, Result.andThen]
end Go.Proofs.Ytkabjdejljdbiaa.Aut
