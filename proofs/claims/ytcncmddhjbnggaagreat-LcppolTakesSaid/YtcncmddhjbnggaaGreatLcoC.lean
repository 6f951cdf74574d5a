/- lcpopt's map of what the options say: how it is made, looked up, gone over. -/
import Derived.Test.YtcncmddhjbnggaaGreatLcoB
import Derived.Maps.RangeRun
import Derived.Maps.Keyed
import Derived.Carry
import Derived.Shelf.Abstract
import Derived.KernelRfl
namespace Go.Proofs.YtcncmddhjbnggaaGreat.Lco
open Go.RowKit Go.Proofs.YtcncmddhjbnggaaGreat.Oct Go.Proofs.YtcncmddhjbnggaaGreat.Row Go.Proofs.YtcncmddhjbnggaaGreat.Mem Go.Proofs.YtcncmddhjbnggaaGreat.Opt Go.ChangeMaps

/-- The functions at a type. -/
def fnD (t : UInt8) : Nat := if t = 1 then 93 else if t = 2 then 97 else if t = 3 then 101 else if t = 5 then 105 else if t = 7 then 107 else 109
def fnR (t : UInt8) : Nat := if t = 1 then 95 else if t = 2 then 99 else if t = 3 then 103 else if t = 5 then 106 else if t = 7 then 108 else 110
theorem data_any {t : UInt8} (ht : known t = true) (x : Lcp) (w : World) : Calls Tryz.prog (fnD t) #[.agg (lv x).toArray] w (DataQ t x w) := by
  rcases known_cases ht with e | e | e | e | e | e <;> subst e
  · exact data1 x w
  · exact data2 x w
  · exact data3 x w
  · exact data5 x w
  · exact data7 x w
  · exact data8 x w
theorem read_any {t : UInt8} (ht : known t = true) (d : ByteArray) (x : Lcp) (w : World) (hd : d.size ≤ maxLen) : Calls Tryz.prog (fnR t) #[.agg (lv x).toArray, .string d] w (ReadQ (t, d) x w) := by
  rcases known_cases ht with e | e | e | e | e | e <;> subst e
  · exact read1 d x w hd
  · exact read2 d x w hd
  · exact read3 d x w hd
  · exact read5 d x w hd
  · exact read7 d x w hd
  · exact read8 d x w hd
theorem data_enters {t : UInt8} (ht : known t = true) : ∀ args w, (callFunc (fnD t) args).run Tryz.prog w = .ok (.enter (fnD t) args) w := by
  rcases known_cases ht with e | e | e | e | e | e <;> subst e
  · exact enters_of Tryz.func93 (by kernel_rfl) rfl
  · exact enters_of Tryz.func97 (by kernel_rfl) rfl
  · exact enters_of Tryz.func101 (by kernel_rfl) rfl
  · exact enters_of Tryz.func105 (by kernel_rfl) rfl
  · exact enters_of Tryz.func107 (by kernel_rfl) rfl
  · exact enters_of Tryz.func109 (by kernel_rfl) rfl
theorem read_enters {t : UInt8} (ht : known t = true) : ∀ args w, (callFunc (fnR t) args).run Tryz.prog w = .ok (.enter (fnR t) args) w := by
  rcases known_cases ht with e | e | e | e | e | e <;> subst e
  · exact enters_of Tryz.func95 (by kernel_rfl) rfl
  · exact enters_of Tryz.func99 (by kernel_rfl) rfl
  · exact enters_of Tryz.func103 (by kernel_rfl) rfl
  · exact enters_of Tryz.func106 (by kernel_rfl) rfl
  · exact enters_of Tryz.func108 (by kernel_rfl) rfl
  · exact enters_of Tryz.func110 (by kernel_rfl) rfl
def pair (t : UInt8) : Value := .agg #[.func (.func (fnD t)) #[] #[], .func (.func (fnR t)) #[] #[]]
/-- The map's entries. -/
def ents : Array MapEntry := #[⟨.int .u8 1, pair 1, 0⟩, ⟨.int .u8 2, pair 2, 1⟩, ⟨.int .u8 3, pair 3, 2⟩, ⟨.int .u8 5, pair 5, 3⟩, ⟨.int .u8 7, pair 7, 4⟩, ⟨.int .u8 8, pair 8, 5⟩]
/-- The map lies in block m. -/
def Mp (W : World) (m : Nat) : Prop := W.heap[m]? = some (.map ents 6)
theorem Mp.lt {W : World} {m : Nat} (h : Mp W m) : m < W.heap.size := (Array.getElem?_eq_some_iff.1 h).1
theorem Mp.below {W W' : World} {m n : Nat} (h : Mp W m) (hb : Below n W W') (hm : m < n) : Mp W' m := (hb.block m hm).trans h
theorem Mp.callee {W W' : World} {m : Nat} (h : Mp W m) (hb : Below W.heap.size W W') : Mp W' m := h.below hb h.lt
theorem Mp.alloc {W : World} {m : Nat} (h : Mp W m) (o : Obj) : Mp (W.alloc o) m := (Below.heap_alloc W o m h.lt).trans h
theorem Mp.moves {S : Nat → Prop} {W W' : World} {m : Nat} (h : Mp W m) (hm : Moves S W W') (hs : ¬ S m) : Mp W' m := (hm.block m h.lt hs).trans h
theorem keyed8 : Go.Maps.Keyed Tryz.prog 5 := Go.Maps.int_keyed Tryz.underlying5
theorem find_no (n : Int) : ∀ (es : List MapEntry) (i : Nat), (∀ e ∈ es, ∃ k, e.key = .int .u8 k ∧ (n == k) = false) → Instr.findNow (.int .u8) (.int .u8 n) es i = some none
  | [], _, _ => rfl
  | e :: es, i, h => by
    obtain ⟨k, hk, hn⟩ := h e (by simp)
    unfold Instr.findNow
    rw [hk]
    simp only [Instr.sameNow, if_true, hn]
    exact find_no n es (i + 1) fun x hx => h x (by simp [hx])
theorem run_key (w : World) (em : Bool) (n : Int) : (Instr.checkKey em 10000 5 (.int .u8 n)).run Tryz.prog w = .ok () w := by
  have h := run_underlying (w := w) Tryz.underlying5
  unfold Instr.checkKey
  simp [h, Result.andThen]
theorem push_set {α : Type} (a : Array α) (x y : α) : (a.push x).setIfInBounds a.size y = a.push y := by
  apply Array.ext_getElem?
  intro i
  rw [Array.getElem?_setIfInBounds, Array.getElem?_push, Array.getElem?_push, Array.size_push]
  by_cases hi : a.size = i
  · subst hi
    rw [if_pos rfl, if_pos (Nat.lt_succ_self _), if_pos rfl]
  · rw [if_neg hi, if_neg (Ne.symm hi), if_neg (Ne.symm hi)]
/-- An option more is laid into a map. -/
theorem run_lay {w W : World} {m c : Nat} {es : Array MapEntry} (n : Int) (v : Value) (h : W = w.alloc (.map es c)) (hm : m = w.heap.size) (hn : ∀ e ∈ es.toList, ∃ k, e.key = .int .u8 k ∧ (n == k) = false) :
    ∃ W', (Instr.mapUpdate 100 (.map (some m)) (.int .u8 n) v).run Tryz.prog W = .ok () W' ∧ W' = w.alloc (.map (es.push ⟨.int .u8 n, v, c⟩) (c + 1)) := by
  subst h hm
  refine ⟨_, ?_, rfl⟩
  have hb := (MapKept.heap_alloc w (.map es c)).1
  have h1 := run_underlying (w := w.alloc (.map es c)) Tryz.underlying5
  have h2 := run_underlying (w := w.alloc (.map es c)) Tryz.underlying100
  have h3 := run_key (w.alloc (.map es c)) false n
  have h4 := MapKept.run_setObj_map (P := Tryz.prog) (.map (es.push ⟨.int .u8 n, v, c⟩) (c + 1)) hb
  have e : { w.alloc (.map es c) with heap := (w.alloc (.map es c)).heap.setIfInBounds w.heap.size (.map (es.push ⟨.int .u8 n, v, c⟩) (c + 1)) } = w.alloc (.map (es.push ⟨.int .u8 n, v, c⟩) (c + 1)) :=
    congrArg (fun h : Array Obj => { w with heap := h }) (push_set w.heap (.map es c) (.map (es.push ⟨.int .u8 n, v, c⟩) (c + 1)))
  rw [e] at h4
  simp [Instr.mapUpdate, h2, MapKept.run_getObj_map hb, h3, Instr.findKey, h1, find_no n es.toList 0 hn, h4, Result.andThen]
set_option maxHeartbeats 1000000 in
set_option maxRecDepth 100000 in
theorem meanings_any (w : World) : Calls Tryz.prog 62 #[] w fun e w' => e = .returned (.map (some w.heap.size)) ∧ Mp w' w.heap.size ∧ Below w.heap.size w w' ∧ w'.heap.size = w.heap.size + 1 := by
  have hmm := @run_makeMap Tryz.prog
  obtain ⟨W1, h1, e1⟩ := run_lay (w := w) (c := 0) (es := #[]) 1 (pair 1) rfl rfl (by intro e he; simp at he)
  obtain ⟨W2, h2, e2⟩ := run_lay (w := w) 2 (pair 2) e1 rfl (by intro e he; simp at he; subst he; exact ⟨1, rfl, rfl⟩)
  obtain ⟨W3, h3, e3⟩ := run_lay (w := w) 3 (pair 3) e2 rfl (by intro e he; simp at he; rcases he with rfl | rfl; exact ⟨1, rfl, rfl⟩; exact ⟨2, rfl, rfl⟩)
  obtain ⟨W4, h4, e4⟩ := run_lay (w := w) 5 (pair 5) e3 rfl (by intro e he; simp at he; rcases he with rfl | rfl | rfl; exact ⟨1, rfl, rfl⟩; exact ⟨2, rfl, rfl⟩; exact ⟨3, rfl, rfl⟩)
  obtain ⟨W5, h5, e5⟩ := run_lay (w := w) 7 (pair 7) e4 rfl (by intro e he; simp at he; rcases he with rfl | rfl | rfl | rfl; exact ⟨1, rfl, rfl⟩; exact ⟨2, rfl, rfl⟩; exact ⟨3, rfl, rfl⟩; exact ⟨5, rfl, rfl⟩)
  obtain ⟨W6, h6, e6⟩ := run_lay (w := w) 8 (pair 8) e5 rfl (by intro e he; simp at he; rcases he with rfl | rfl | rfl | rfl | rfl; exact ⟨1, rfl, rfl⟩; exact ⟨2, rfl, rfl⟩; exact ⟨3, rfl, rfl⟩; exact ⟨5, rfl, rfl⟩; exact ⟨7, rfl, rfl⟩)
  have H : Hid (Mp W6 w.heap.size ∧ Below w.heap.size w W6 ∧ W6.heap.size = w.heap.size + 1) := by
    subst e6
    exact ⟨(MapKept.heap_alloc w _).1, (Below.refl _ _).alloc (Nat.le_refl _) _, by simp⟩
  clear e1 e2 e3 e4 e5 e6
  simp only [pair, fnD, fnR] at h1 h2 h3 h4 h5 h6
  simp only [if_true, show ¬ (2 : UInt8) = 1 by decide, show ¬ (3 : UInt8) = 1 by decide, show ¬ (3 : UInt8) = 2 by decide, show ¬ (5 : UInt8) = 1 by decide, show ¬ (5 : UInt8) = 2 by decide, show ¬ (5 : UInt8) = 3 by decide, show ¬ (7 : UInt8) = 1 by decide, show ¬ (7 : UInt8) = 2 by decide, show ¬ (7 : UInt8) = 3 by decide, show ¬ (7 : UInt8) = 5 by decide, show ¬ (8 : UInt8) = 1 by decide, show ¬ (8 : UInt8) = 2 by decide, show ¬ (8 : UInt8) = 3 by decide, show ¬ (8 : UInt8) = 5 by decide, show ¬ (8 : UInt8) = 7 by decide, if_false] at h1 h2 h3 h4 h5 h6
  go_enter Tryz.func62, Tryz.ntmps62
  go_wp2
  go_ret
  exact ⟨rfl, H.out⟩

/-! ### looking up -/
theorem find_yes (n : Int) (v : Value) : ∀ (es : List MapEntry) (i : Nat), (∀ e ∈ es, ∃ k, e.key = .int .u8 k) → (∃ e ∈ es, e.key = .int .u8 n) → (∀ e ∈ es, e.key = .int .u8 n → e.val = v) → ∃ j, Instr.findNow (.int .u8) (.int .u8 n) es i = some (some (j, v))
  | [], _, _, h, _ => by obtain ⟨e, he, _⟩ := h; cases he
  | e :: es, i, hk, hx, hv => by
    obtain ⟨k, ek⟩ := hk e (by simp)
    unfold Instr.findNow
    rw [ek]
    simp only [Instr.sameNow, if_true]
    by_cases hn : n = k
    · subst hn
      simp only [beq_self_eq_true]
      exact ⟨i, by rw [hv e (by simp) ek]⟩
    · rw [show (n == k) = false from beq_eq_false_iff_ne.2 hn]
      refine find_yes n v es (i + 1) (fun x hx => hk x (by simp [hx])) ?_ (fun x hx => hv x (by simp [hx]))
      obtain ⟨y, hy, ey⟩ := hx
      rcases List.mem_cons.1 hy with rfl | hy
      · rw [ek] at ey; cases ey; exact absurd rfl hn
      · exact ⟨y, hy, ey⟩
theorem ents_mem {e : MapEntry} (h : e ∈ ents.toList) : ∃ t, known t = true ∧ e.key = .int .u8 (t.toNat : Nat) ∧ e.val = pair t ∧ e.born < 6 := by
  simp only [ents, List.mem_cons, List.not_mem_nil, or_false] at h
  rcases h with rfl | rfl | rfl | rfl | rfl | rfl
  · exact ⟨1, rfl, rfl, rfl, by decide⟩
  · exact ⟨2, rfl, rfl, rfl, by decide⟩
  · exact ⟨3, rfl, rfl, rfl, by decide⟩
  · exact ⟨5, rfl, rfl, rfl, by decide⟩
  · exact ⟨7, rfl, rfl, rfl, by decide⟩
  · exact ⟨8, rfl, rfl, rfl, by decide⟩
theorem mem_ents {t : UInt8} (h : known t = true) : ∃ e ∈ ents.toList, e.key = .int .u8 (t.toNat : Nat) := by
  rcases known_cases h with e | e | e | e | e | e <;> subst e
  · exact ⟨⟨.int .u8 1, pair 1, 0⟩, by simp [ents], rfl⟩
  · exact ⟨⟨.int .u8 2, pair 2, 1⟩, by simp [ents], rfl⟩
  · exact ⟨⟨.int .u8 3, pair 3, 2⟩, by simp [ents], rfl⟩
  · exact ⟨⟨.int .u8 5, pair 5, 3⟩, by simp [ents], rfl⟩
  · exact ⟨⟨.int .u8 7, pair 7, 4⟩, by simp [ents], rfl⟩
  · exact ⟨⟨.int .u8 8, pair 8, 5⟩, by simp [ents], rfl⟩
theorem u8_key {t u : UInt8} (h : Value.int .u8 (t.toNat : Nat) = .int .u8 (u.toNat : Nat)) : t = u := by
  simp only [Value.int.injEq, true_and] at h
  exact UInt8.toNat_inj.1 (by omega)
theorem look_yes {t : UInt8} (ht : known t = true) (ok : Bool) {W : World} {m : Nat} (h : Mp W m) :
    (Instr.lookup 100 (.map (some m)) (.int .u8 t.toNat) ok).run Tryz.prog W = .ok (if ok then .tuple #[pair t, .bool true] else pair t) W := by
  have h1 := run_underlying (w := W) Tryz.underlying5
  have h2 := run_underlying (w := W) Tryz.underlying100
  have h3 := run_key W ents.isEmpty t.toNat
  obtain ⟨j, hj⟩ := find_yes t.toNat (pair t) ents.toList 0 (fun e he => by obtain ⟨u, _, hk, _⟩ := ents_mem he; exact ⟨_, hk⟩) (mem_ents ht) (fun e he hk => by
    obtain ⟨u, _, hk', hv, _⟩ := ents_mem he
    rw [hv, u8_key (hk.symm.trans hk')])
  have hb : W.heap[m]? = some (.map ents 6) := h
  simp [Instr.lookup, h2, MapKept.run_getObj_map hb, h3, Instr.findKey, h1, hj, Result.andThen]
theorem zeroM (w : World) : (zeroValue 108).run Tryz.prog w = .ok (.agg #[.nilFunc, .nilFunc]) w := by kernel_rfl
theorem look_no {t : UInt8} (ht : known t = false) {W : World} {m : Nat} (h : Mp W m) :
    (Instr.lookup 100 (.map (some m)) (.int .u8 t.toNat) true).run Tryz.prog W = .ok (.tuple #[.agg #[.nilFunc, .nilFunc], .bool false]) W := by
  have h1 := run_underlying (w := W) Tryz.underlying5
  have h2 := run_underlying (w := W) Tryz.underlying100
  have h3 := run_key W ents.isEmpty t.toNat
  have hj := find_no t.toNat ents.toList 0 (fun e he => by
    obtain ⟨u, hu, hk, _⟩ := ents_mem he
    refine ⟨_, hk, beq_eq_false_iff_ne.2 fun e => ?_⟩
    have : t = u := UInt8.toNat_inj.1 (by omega)
    rw [this, hu] at ht
    cases ht)
  have hb : W.heap[m]? = some (.map ents 6) := h
  simp [Instr.lookup, h2, MapKept.run_getObj_map hb, h3, Instr.findKey, h1, hj, zeroM, Result.andThen]
/-- .. the map's block by whatever name. -/
theorem meanings_m (w : World) : Calls Tryz.prog 62 #[] w fun e w' => ∃ m, e = .returned (.map (some m)) ∧ Mp w' m ∧ Below w.heap.size w w' :=
  (meanings_any w).mono fun _ _ ⟨he, hm, hb, _⟩ => ⟨_, he, hm, hb⟩
end Go.Proofs.YtcncmddhjbnggaaGreat.Lco
