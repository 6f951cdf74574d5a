/- The map of what is said of each option: how it is made, looked up. -/
import Derived.Test.YthoangihndplkaaGIpcA
import Derived.Laws.EntriesVeiled
import Derived.Maps.RangeRun
import Derived.Maps.Keyed
import Derived.Carry
import Derived.Shelf.Abstract
import Derived.KernelRfl
namespace Go.Proofs.Ythoangihndplkaa.Ipp
open Go.RowKit Go.Proofs.Ythoangihndplkaa.Oct Go.Proofs.Ythoangihndplkaa.Row Go.Proofs.Ythoangihndplkaa.Mem Go.Proofs.Ythoangihndplkaa.Opt Go.Proofs.Ythoangihndplkaa.Ipc Go.ChangeMaps

def mB (t : UInt8) : Nat := if t = 3 then 47 else if t = 129 then 53 else 57
def mN (t : UInt8) : Nat := if t = 3 then 51 else if t = 129 then 54 else 58
def mX (t : UInt8) : Nat := if t = 3 then 52 else if t = 129 then 56 else 59
theorem bet_any {t : UInt8} (ht : known t = true) (g : Nat) (p : Po) (x : Ipc) (w : World) (h : PAt w g p) : Calls Try.prog (mB t) #[.pointer (some ⟨g, 0, none⟩), .agg (lv x).toArray] w (BetQ (bet p t x) w) := by
  rcases known_cases ht with e | e | e <;> subst e
  · exact bet_addr g p x w h
  · exact bet_dns1 g p x w h
  · exact bet_dns2 g p x w h
set_option maxRecDepth 100000 in
theorem mB_enters {t : UInt8} (ht : known t = true) : ∀ args w, (callFunc (mB t) args).run Try.prog w = .ok (.enter (mB t) args) w := by
  rcases known_cases ht with e | e | e <;> subst e
  · exact enters_of Try.func47 (by kernel_rfl) rfl
  · exact enters_of Try.func53 (by kernel_rfl) rfl
  · exact enters_of Try.func57 (by kernel_rfl) rfl
set_option maxRecDepth 100000 in
theorem mN_enters {t : UInt8} (ht : known t = true) : ∀ args w, (callFunc (mN t) args).run Try.prog w = .ok (.enter (mN t) args) w := by
  rcases known_cases ht with e | e | e <;> subst e
  · exact enters_of Try.func51 (by kernel_rfl) rfl
  · exact enters_of Try.func54 (by kernel_rfl) rfl
  · exact enters_of Try.func58 (by kernel_rfl) rfl
set_option maxRecDepth 100000 in
theorem mX_enters {t : UInt8} (ht : known t = true) : ∀ args w, (callFunc (mX t) args).run Try.prog w = .ok (.enter (mX t) args) w := by
  rcases known_cases ht with e | e | e <;> subst e
  · exact enters_of Try.func52 (by kernel_rfl) rfl
  · exact enters_of Try.func56 (by kernel_rfl) rfl
  · exact enters_of Try.func59 (by kernel_rfl) rfl
def trip (t : UInt8) : Value := .agg #[.func (.func (mB t)) #[] #[], .func (.func (mN t)) #[] #[], .func (.func (mX t)) #[] #[]]
/-- The map's entries. -/
def sents : Array MapEntry := #[⟨.int .u8 3, trip 3, 0⟩, ⟨.int .u8 129, trip 129, 1⟩, ⟨.int .u8 131, trip 131, 2⟩]
theorem find_no (n : Int) : ∀ (es : List MapEntry) (i : Nat), (∀ e ∈ es, ∃ k, e.key = .int .u8 k ∧ (n == k) = false) → Instr.findNow (.int .u8) (.int .u8 n) es i = some none
  | [], _, _ => rfl
  | e :: es, i, h => by
    obtain ⟨k, hk, hn⟩ := h e (by simp)
    unfold Instr.findNow
    rw [hk]
    simp only [Instr.sameNow, if_true, hn]
    exact find_no n es (i + 1) fun x hx => h x (by simp [hx])
theorem run_key (w : World) (em : Bool) (n : Int) : (Instr.checkKey em 10000 5 (.int .u8 n)).run Try.prog w = .ok () w := by
  have h := run_underlying (w := w) Try.underlying5
  unfold Instr.checkKey
  simp [h, Result.andThen]
theorem push_set {α : Type} (a : Array α) (x y : α) : (a.push x).setIfInBounds a.size y = a.push y := by
  apply Array.ext_getElem?
  intro i
  rw [Array.getElem?_setIfInBounds, Array.getElem?_push, Array.getElem?_push, Array.size_push]
  by_cases hi : a.size = i
  · subst hi
    rw [if_pos rfl, if_pos (Nat.lt_succ_self _), if_pos rfl]
  · rw [if_neg hi, if_neg (Ne.symm hi), if_neg (Ne.symm hi)]
theorem find_yes (n : Int) (v : Value) : ∀ (es : List MapEntry) (i : Nat), (∀ e ∈ es, ∃ k, e.key = .int .u8 k) → (∃ e ∈ es, e.key = .int .u8 n) → (∀ e ∈ es, e.key = .int .u8 n → e.val = v) → ∃ j, Instr.findNow (.int .u8) (.int .u8 n) es i = some (some (j, v))
  | [], _, _, h, _ => by obtain ⟨e, he, _⟩ := h; cases he
  | e :: es, i, hk, hx, hv => by
    obtain ⟨k, ek⟩ := hk e (by simp)
    unfold Instr.findNow
    rw [ek]
    simp only [Instr.sameNow, if_true]
    by_cases hn : n = k
    · subst hn
      simp only [beq_self_eq_true]
      exact ⟨i, by rw [hv e (by simp) ek]⟩
    · rw [show (n == k) = false from beq_eq_false_iff_ne.2 hn]
      refine find_yes n v es (i + 1) (fun x hx => hk x (by simp [hx])) ?_ (fun x hx => hv x (by simp [hx]))
      obtain ⟨y, hy, ey⟩ := hx
      rcases List.mem_cons.1 hy with rfl | hy
      · rw [ek] at ey; cases ey; exact absurd rfl hn
      · exact ⟨y, hy, ey⟩
theorem u8_key {t u : UInt8} (h : Value.int .u8 (t.toNat : Nat) = .int .u8 (u.toNat : Nat)) : t = u := by
  simp only [Value.int.injEq, true_and] at h
  exact UInt8.toNat_inj.1 (by omega)
/-- The map lies in block m. -/
def Sy (W : World) (m : Nat) : Prop := W.heap[m]? = some (.map sents 3)
theorem Sy.lt {W : World} {m : Nat} (h : Sy W m) : m < W.heap.size := (Array.getElem?_eq_some_iff.1 h).1
theorem Sy.below {W W' : World} {m n : Nat} (h : Sy W m) (hb : Below n W W') (hm : m < n) : Sy W' m := (hb.block m hm).trans h
theorem Sy.callee {W W' : World} {m : Nat} (h : Sy W m) (hb : Below W.heap.size W W') : Sy W' m := h.below hb h.lt
theorem Sy.alloc {W : World} {m : Nat} (h : Sy W m) (o : Obj) : Sy (W.alloc o) m := (Below.heap_alloc W o m h.lt).trans h
theorem Sy.moves {S : Nat → Prop} {W W' : World} {m : Nat} (h : Sy W m) (hm : Moves S W W') (hs : ¬ S m) : Sy W' m := (hm.block m h.lt hs).trans h
theorem sy_blk {W : World} {m g : Nat} {cs : List Value} {t : TypeId} (h : Sy W m) (h2 : Blk W g cs t) : m ≠ g := by
  rintro rfl
  have h1 : W.heap[m]? = _ := h
  have h3 : W.heap[m]? = _ := h2
  rw [h1] at h3
  cases h3
theorem run_lay3 {w W : World} {m c : Nat} {es : Array MapEntry} (n : Int) (v : Value) (h : W = w.alloc (.map es c)) (hm : m = w.heap.size) (hn : ∀ e ∈ es.toList, ∃ k, e.key = .int .u8 k ∧ (n == k) = false) :
    ∃ W', (Instr.mapUpdate 72 (.map (some m)) (.int .u8 n) v).run Try.prog W = .ok () W' ∧ W' = w.alloc (.map (es.push ⟨.int .u8 n, v, c⟩) (c + 1)) := by
  subst h hm
  refine ⟨_, ?_, rfl⟩
  have hb := (MapKept.heap_alloc w (.map es c)).1
  have h1 := run_underlying (w := w.alloc (.map es c)) Try.underlying5
  have h2 := run_underlying (w := w.alloc (.map es c)) Try.underlying72
  have h3 := run_key (w.alloc (.map es c)) false n
  have h4 := MapKept.run_setObj_map (P := Try.prog) (.map (es.push ⟨.int .u8 n, v, c⟩) (c + 1)) hb
  have e : { w.alloc (.map es c) with heap := (w.alloc (.map es c)).heap.setIfInBounds w.heap.size (.map (es.push ⟨.int .u8 n, v, c⟩) (c + 1)) } = w.alloc (.map (es.push ⟨.int .u8 n, v, c⟩) (c + 1)) :=
    congrArg (fun h : Array Obj => { w with heap := h }) (push_set w.heap (.map es c) (.map (es.push ⟨.int .u8 n, v, c⟩) (c + 1)))
  rw [e] at h4
  simp [Instr.mapUpdate, h2, MapKept.run_getObj_map hb, h3, Instr.findKey, h1, find_no n es.toList 0 hn, h4, Result.andThen]
set_option maxHeartbeats 2000000 in
set_option maxRecDepth 100000 in
theorem sayings_any (w : World) : Calls Try.prog 35 #[] w fun e w' => ∃ m, e = .returned (.map (some m)) ∧ w.heap.size ≤ m ∧ Sy w' m ∧ Below w.heap.size w w' := by
  have hmm := @run_makeMap Try.prog
  obtain ⟨W1, h1, e1⟩ := run_lay3 (w := w) (c := 0) (es := #[]) 3 (trip 3) rfl rfl (by intro e he; simp at he)
  obtain ⟨W2, h2, e2⟩ := run_lay3 (w := w) 129 (trip 129) e1 rfl (by intro e he; simp at he; subst he; exact ⟨3, rfl, rfl⟩)
  obtain ⟨W3, h3, e3⟩ := run_lay3 (w := w) 131 (trip 131) e2 rfl (by intro e he; simp at he; rcases he with rfl | rfl; exact ⟨3, rfl, rfl⟩; exact ⟨129, rfl, rfl⟩)
  have H : Hid (Sy W3 w.heap.size ∧ Below w.heap.size w W3) := by
    subst e3
    exact ⟨(MapKept.heap_alloc w _).1, (Below.refl _ _).alloc (Nat.le_refl _) _⟩
  clear e1 e2 e3
  simp only [trip, mB, mN, mX] at h1 h2 h3
  simp only [if_true, if_false, show ¬ (129 : UInt8) = 3 by decide, show ¬ (131 : UInt8) = 3 by decide, show ¬ (131 : UInt8) = 129 by decide] at h1 h2 h3
  go_enter Try.func35, Try.ntmps35
  go_wp2
  go_ret
  exact ⟨_, rfl, Nat.le_refl _, H.out⟩

/-! ### looking up -/
theorem sents_mem {e : MapEntry} (h : e ∈ sents.toList) : ∃ t, known t = true ∧ e.key = .int .u8 (t.toNat : Nat) ∧ e.val = trip t := by
  simp only [sents, List.mem_cons, List.not_mem_nil, or_false] at h
  rcases h with rfl | rfl | rfl
  · exact ⟨3, rfl, rfl, rfl⟩
  · exact ⟨129, rfl, rfl, rfl⟩
  · exact ⟨131, rfl, rfl, rfl⟩
theorem mem_sents {t : UInt8} (h : known t = true) : ∃ e ∈ sents.toList, e.key = .int .u8 (t.toNat : Nat) := by
  rcases known_cases h with e | e | e <;> subst e
  · exact ⟨⟨.int .u8 3, trip 3, 0⟩, by simp [sents], rfl⟩
  · exact ⟨⟨.int .u8 129, trip 129, 1⟩, by simp [sents], rfl⟩
  · exact ⟨⟨.int .u8 131, trip 131, 2⟩, by simp [sents], rfl⟩
theorem say_look {t : UInt8} (ht : known t = true) {W : World} {m : Nat} (h : Sy W m) :
    (Instr.lookup 72 (.map (some m)) (.int .u8 t.toNat) false).run Try.prog W = .ok (trip t) W := by
  have h1 := run_underlying (w := W) Try.underlying5
  have h2 := run_underlying (w := W) Try.underlying72
  have h3 := run_key W sents.isEmpty t.toNat
  obtain ⟨j, hj⟩ := find_yes t.toNat (trip t) sents.toList 0 (fun e he => by obtain ⟨u, _, hk, _⟩ := sents_mem he; exact ⟨_, hk⟩) (mem_sents ht) (fun e he hk => by
    obtain ⟨u, _, hk', hv⟩ := sents_mem he
    rw [hv, u8_key (hk.symm.trans hk')])
  have hb : W.heap[m]? = some (.map sents 3) := h
  simp [Instr.lookup, h2, MapKept.run_getObj_map hb, h3, Instr.findKey, h1, hj, Result.andThen]
set_option maxRecDepth 100000 in
theorem zeroS (w : World) : (zeroValue 78).run Try.prog w = .ok (.agg #[.nilFunc, .nilFunc, .nilFunc]) w := by kernel_rfl
theorem say_none {t : UInt8} (ht : known t = false) {W : World} {m : Nat} (h : Sy W m) :
    (Instr.lookup 72 (.map (some m)) (.int .u8 t.toNat) false).run Try.prog W = .ok (.agg #[.nilFunc, .nilFunc, .nilFunc]) W := by
  have h1 := run_underlying (w := W) Try.underlying5
  have h2 := run_underlying (w := W) Try.underlying72
  have h3 := run_key W sents.isEmpty t.toNat
  have hj := find_no t.toNat sents.toList 0 (fun e he => by
    obtain ⟨u, hu, hk, _⟩ := sents_mem he
    refine ⟨_, hk, ?_⟩
    rw [beq_eq_false_iff_ne]
    intro e
    have : t = u := UInt8.toNat_inj.1 (by omega)
    rw [this, hu] at ht
    cases ht)
  have hb : W.heap[m]? = some (.map sents 3) := h
  simp [Instr.lookup, h2, MapKept.run_getObj_map hb, h3, Instr.findKey, h1, hj, zeroS, Result.andThen]
end Go.Proofs.Ythoangihndplkaa.Ipp
