/- Put together: LcoC, LcoD, PolD. -/
import Derived.Test.YtpohcejgblahiaaGreatGLcoA
import Derived.Maps.RangeRun
import Derived.Maps.Keyed
import Derived.Carry
import Derived.Shelf.Abstract
import Derived.KernelRfl
import Derived.Laws.EntriesVeiled
import Derived.Deep.RegionWith

/- lcpopt's map of what the options say: how it is made, looked up, gone over. -/
namespace Go.Proofs.YtpohcejgblahiaaGreat.Lco
open Go.RowKit Go.Proofs.YtpohcejgblahiaaGreat.Oct Go.Proofs.YtpohcejgblahiaaGreat.Row Go.Proofs.YtpohcejgblahiaaGreat.Mem Go.Proofs.YtpohcejgblahiaaGreat.Opt Go.ChangeMaps

/-- The functions at a type. -/
def fnD (t : UInt8) : Nat := if t = 1 then 90 else if t = 2 then 94 else if t = 3 then 98 else if t = 5 then 102 else if t = 7 then 104 else 106
def fnR (t : UInt8) : Nat := if t = 1 then 92 else if t = 2 then 96 else if t = 3 then 100 else if t = 5 then 103 else if t = 7 then 105 else 107
theorem data_any {t : UInt8} (ht : known t = true) (x : Lcp) (w : World) : Calls Tryz.prog (fnD t) #[.agg (lv x).toArray] w (DataQ t x w) := by
  rcases known_cases ht with e | e | e | e | e | e <;> subst e
  · exact data1 x w
  · exact data2 x w
  · exact data3 x w
  · exact data5 x w
  · exact data7 x w
  · exact data8 x w
theorem read_any {t : UInt8} (ht : known t = true) (d : ByteArray) (x : Lcp) (w : World) (hd : d.size ≤ maxLen) : Calls Tryz.prog (fnR t) #[.agg (lv x).toArray, .string d] w (ReadQ (t, d) x w) := by
  rcases known_cases ht with e | e | e | e | e | e <;> subst e
  · exact read1 d x w hd
  · exact read2 d x w hd
  · exact read3 d x w hd
  · exact read5 d x w hd
  · exact read7 d x w hd
  · exact read8 d x w hd
set_option maxRecDepth 100000 in
theorem data_enters {t : UInt8} (ht : known t = true) : ∀ args w, (callFunc (fnD t) args).run Tryz.prog w = .ok (.enter (fnD t) args) w := by
  rcases known_cases ht with e | e | e | e | e | e <;> subst e
  · exact enters_of Tryz.func90 (by kernel_rfl) rfl
  · exact enters_of Tryz.func94 (by kernel_rfl) rfl
  · exact enters_of Tryz.func98 (by kernel_rfl) rfl
  · exact enters_of Tryz.func102 (by kernel_rfl) rfl
  · exact enters_of Tryz.func104 (by kernel_rfl) rfl
  · exact enters_of Tryz.func106 (by kernel_rfl) rfl
set_option maxRecDepth 100000 in
theorem read_enters {t : UInt8} (ht : known t = true) : ∀ args w, (callFunc (fnR t) args).run Tryz.prog w = .ok (.enter (fnR t) args) w := by
  rcases known_cases ht with e | e | e | e | e | e <;> subst e
  · exact enters_of Tryz.func92 (by kernel_rfl) rfl
  · exact enters_of Tryz.func96 (by kernel_rfl) rfl
  · exact enters_of Tryz.func100 (by kernel_rfl) rfl
  · exact enters_of Tryz.func103 (by kernel_rfl) rfl
  · exact enters_of Tryz.func105 (by kernel_rfl) rfl
  · exact enters_of Tryz.func107 (by kernel_rfl) rfl
def pair (t : UInt8) : Value := .agg #[.func (.func (fnD t)) #[] #[], .func (.func (fnR t)) #[] #[]]
/-- The map's entries. -/
def ents : Array MapEntry := #[⟨.int .u8 1, pair 1, 0⟩, ⟨.int .u8 2, pair 2, 1⟩, ⟨.int .u8 3, pair 3, 2⟩, ⟨.int .u8 5, pair 5, 3⟩, ⟨.int .u8 7, pair 7, 4⟩, ⟨.int .u8 8, pair 8, 5⟩]
/-- The map lies in block m. -/
def Mp (W : World) (m : Nat) : Prop := W.heap[m]? = some (.map ents 6)
theorem Mp.lt {W : World} {m : Nat} (h : Mp W m) : m < W.heap.size := (Array.getElem?_eq_some_iff.1 h).1
theorem Mp.below {W W' : World} {m n : Nat} (h : Mp W m) (hb : Below n W W') (hm : m < n) : Mp W' m := (hb.block m hm).trans h
theorem Mp.callee {W W' : World} {m : Nat} (h : Mp W m) (hb : Below W.heap.size W W') : Mp W' m := h.below hb h.lt
theorem Mp.alloc {W : World} {m : Nat} (h : Mp W m) (o : Obj) : Mp (W.alloc o) m := (Below.heap_alloc W o m h.lt).trans h
theorem Mp.moves {S : Nat → Prop} {W W' : World} {m : Nat} (h : Mp W m) (hm : Moves S W W') (hs : ¬ S m) : Mp W' m := (hm.block m h.lt hs).trans h
theorem keyed8 : Go.Maps.Keyed Tryz.prog 5 := Go.Maps.int_keyed Tryz.underlying5
theorem find_no (n : Int) : ∀ (es : List MapEntry) (i : Nat), (∀ e ∈ es, ∃ k, e.key = .int .u8 k ∧ (n == k) = false) → Instr.findNow (.int .u8) (.int .u8 n) es i = some none
  | [], _, _ => rfl
  | e :: es, i, h => by
    obtain ⟨k, hk, hn⟩ := h e (by simp)
    unfold Instr.findNow
    rw [hk]
    simp only [Instr.sameNow, if_true, hn]
    exact find_no n es (i + 1) fun x hx => h x (by simp [hx])
theorem run_key (w : World) (em : Bool) (n : Int) : (Instr.checkKey em 10000 5 (.int .u8 n)).run Tryz.prog w = .ok () w := by
  have h := run_underlying (w := w) Tryz.underlying5
  unfold Instr.checkKey
  simp [h, Result.andThen]
theorem push_set {α : Type} (a : Array α) (x y : α) : (a.push x).setIfInBounds a.size y = a.push y := by
  apply Array.ext_getElem?
  intro i
  rw [Array.getElem?_setIfInBounds, Array.getElem?_push, Array.getElem?_push, Array.size_push]
  by_cases hi : a.size = i
  · subst hi
    rw [if_pos rfl, if_pos (Nat.lt_succ_self _), if_pos rfl]
  · rw [if_neg hi, if_neg (Ne.symm hi), if_neg (Ne.symm hi)]
/-- An option more is laid into a map. -/
theorem run_lay {w W : World} {m c : Nat} {es : Array MapEntry} (n : Int) (v : Value) (h : W = w.alloc (.map es c)) (hm : m = w.heap.size) (hn : ∀ e ∈ es.toList, ∃ k, e.key = .int .u8 k ∧ (n == k) = false) :
    ∃ W', (Instr.mapUpdate 96 (.map (some m)) (.int .u8 n) v).run Tryz.prog W = .ok () W' ∧ W' = w.alloc (.map (es.push ⟨.int .u8 n, v, c⟩) (c + 1)) := by
  subst h hm
  refine ⟨_, ?_, rfl⟩
  have hb := (MapKept.heap_alloc w (.map es c)).1
  have h1 := run_underlying (w := w.alloc (.map es c)) Tryz.underlying5
  have h2 := run_underlying (w := w.alloc (.map es c)) Tryz.underlying96
  have h3 := run_key (w.alloc (.map es c)) false n
  have h4 := MapKept.run_setObj_map (P := Tryz.prog) (.map (es.push ⟨.int .u8 n, v, c⟩) (c + 1)) hb
  have e : { w.alloc (.map es c) with heap := (w.alloc (.map es c)).heap.setIfInBounds w.heap.size (.map (es.push ⟨.int .u8 n, v, c⟩) (c + 1)) } = w.alloc (.map (es.push ⟨.int .u8 n, v, c⟩) (c + 1)) :=
    congrArg (fun h : Array Obj => { w with heap := h }) (push_set w.heap (.map es c) (.map (es.push ⟨.int .u8 n, v, c⟩) (c + 1)))
  rw [e] at h4
  simp [Instr.mapUpdate, h2, MapKept.run_getObj_map hb, h3, Instr.findKey, h1, find_no n es.toList 0 hn, h4, Result.andThen]
set_option maxHeartbeats 1000000 in
set_option maxRecDepth 100000 in
theorem meanings_any (w : World) : Calls Tryz.prog 57 #[] w fun e w' => e = .returned (.map (some w.heap.size)) ∧ Mp w' w.heap.size ∧ Below w.heap.size w w' ∧ w'.heap.size = w.heap.size + 1 := by
  have hmm := @run_makeMap Tryz.prog
  obtain ⟨W1, h1, e1⟩ := run_lay (w := w) (c := 0) (es := #[]) 1 (pair 1) rfl rfl (by intro e he; simp at he)
  obtain ⟨W2, h2, e2⟩ := run_lay (w := w) 2 (pair 2) e1 rfl (by intro e he; simp at he; subst he; exact ⟨1, rfl, rfl⟩)
  obtain ⟨W3, h3, e3⟩ := run_lay (w := w) 3 (pair 3) e2 rfl (by intro e he; simp at he; rcases he with rfl | rfl; exact ⟨1, rfl, rfl⟩; exact ⟨2, rfl, rfl⟩)
  obtain ⟨W4, h4, e4⟩ := run_lay (w := w) 5 (pair 5) e3 rfl (by intro e he; simp at he; rcases he with rfl | rfl | rfl; exact ⟨1, rfl, rfl⟩; exact ⟨2, rfl, rfl⟩; exact ⟨3, rfl, rfl⟩)
  obtain ⟨W5, h5, e5⟩ := run_lay (w := w) 7 (pair 7) e4 rfl (by intro e he; simp at he; rcases he with rfl | rfl | rfl | rfl; exact ⟨1, rfl, rfl⟩; exact ⟨2, rfl, rfl⟩; exact ⟨3, rfl, rfl⟩; exact ⟨5, rfl, rfl⟩)
  obtain ⟨W6, h6, e6⟩ := run_lay (w := w) 8 (pair 8) e5 rfl (by intro e he; simp at he; rcases he with rfl | rfl | rfl | rfl | rfl; exact ⟨1, rfl, rfl⟩; exact ⟨2, rfl, rfl⟩; exact ⟨3, rfl, rfl⟩; exact ⟨5, rfl, rfl⟩; exact ⟨7, rfl, rfl⟩)
  have H : Hid (Mp W6 w.heap.size ∧ Below w.heap.size w W6 ∧ W6.heap.size = w.heap.size + 1) := by
    subst e6
    exact ⟨(MapKept.heap_alloc w _).1, (Below.refl _ _).alloc (Nat.le_refl _) _, by simp⟩
  clear e1 e2 e3 e4 e5 e6
  simp only [pair, fnD, fnR] at h1 h2 h3 h4 h5 h6
  simp only [if_true, show ¬ (2 : UInt8) = 1 by decide, show ¬ (3 : UInt8) = 1 by decide, show ¬ (3 : UInt8) = 2 by decide, show ¬ (5 : UInt8) = 1 by decide, show ¬ (5 : UInt8) = 2 by decide, show ¬ (5 : UInt8) = 3 by decide, show ¬ (7 : UInt8) = 1 by decide, show ¬ (7 : UInt8) = 2 by decide, show ¬ (7 : UInt8) = 3 by decide, show ¬ (7 : UInt8) = 5 by decide, show ¬ (8 : UInt8) = 1 by decide, show ¬ (8 : UInt8) = 2 by decide, show ¬ (8 : UInt8) = 3 by decide, show ¬ (8 : UInt8) = 5 by decide, show ¬ (8 : UInt8) = 7 by decide, if_false] at h1 h2 h3 h4 h5 h6
  go_enter Tryz.func57, Tryz.ntmps57
  go_wp2
  go_ret
  exact ⟨rfl, H.out⟩

/-! ### looking up -/
theorem find_yes (n : Int) (v : Value) : ∀ (es : List MapEntry) (i : Nat), (∀ e ∈ es, ∃ k, e.key = .int .u8 k) → (∃ e ∈ es, e.key = .int .u8 n) → (∀ e ∈ es, e.key = .int .u8 n → e.val = v) → ∃ j, Instr.findNow (.int .u8) (.int .u8 n) es i = some (some (j, v))
  | [], _, _, h, _ => by obtain ⟨e, he, _⟩ := h; cases he
  | e :: es, i, hk, hx, hv => by
    obtain ⟨k, ek⟩ := hk e (by simp)
    unfold Instr.findNow
    rw [ek]
    simp only [Instr.sameNow, if_true]
    by_cases hn : n = k
    · subst hn
      simp only [beq_self_eq_true]
      exact ⟨i, by rw [hv e (by simp) ek]⟩
    · rw [show (n == k) = false from beq_eq_false_iff_ne.2 hn]
      refine find_yes n v es (i + 1) (fun x hx => hk x (by simp [hx])) ?_ (fun x hx => hv x (by simp [hx]))
      obtain ⟨y, hy, ey⟩ := hx
      rcases List.mem_cons.1 hy with rfl | hy
      · rw [ek] at ey; cases ey; exact absurd rfl hn
      · exact ⟨y, hy, ey⟩
theorem ents_mem {e : MapEntry} (h : e ∈ ents.toList) : ∃ t, known t = true ∧ e.key = .int .u8 (t.toNat : Nat) ∧ e.val = pair t ∧ e.born < 6 := by
  simp only [ents, List.mem_cons, List.not_mem_nil, or_false] at h
  rcases h with rfl | rfl | rfl | rfl | rfl | rfl
  · exact ⟨1, rfl, rfl, rfl, by decide⟩
  · exact ⟨2, rfl, rfl, rfl, by decide⟩
  · exact ⟨3, rfl, rfl, rfl, by decide⟩
  · exact ⟨5, rfl, rfl, rfl, by decide⟩
  · exact ⟨7, rfl, rfl, rfl, by decide⟩
  · exact ⟨8, rfl, rfl, rfl, by decide⟩
theorem mem_ents {t : UInt8} (h : known t = true) : ∃ e ∈ ents.toList, e.key = .int .u8 (t.toNat : Nat) := by
  rcases known_cases h with e | e | e | e | e | e <;> subst e
  · exact ⟨⟨.int .u8 1, pair 1, 0⟩, by simp [ents], rfl⟩
  · exact ⟨⟨.int .u8 2, pair 2, 1⟩, by simp [ents], rfl⟩
  · exact ⟨⟨.int .u8 3, pair 3, 2⟩, by simp [ents], rfl⟩
  · exact ⟨⟨.int .u8 5, pair 5, 3⟩, by simp [ents], rfl⟩
  · exact ⟨⟨.int .u8 7, pair 7, 4⟩, by simp [ents], rfl⟩
  · exact ⟨⟨.int .u8 8, pair 8, 5⟩, by simp [ents], rfl⟩
theorem u8_key {t u : UInt8} (h : Value.int .u8 (t.toNat : Nat) = .int .u8 (u.toNat : Nat)) : t = u := by
  simp only [Value.int.injEq, true_and] at h
  exact UInt8.toNat_inj.1 (by omega)
theorem look_yes {t : UInt8} (ht : known t = true) (ok : Bool) {W : World} {m : Nat} (h : Mp W m) :
    (Instr.lookup 96 (.map (some m)) (.int .u8 t.toNat) ok).run Tryz.prog W = .ok (if ok then .tuple #[pair t, .bool true] else pair t) W := by
  have h1 := run_underlying (w := W) Tryz.underlying5
  have h2 := run_underlying (w := W) Tryz.underlying96
  have h3 := run_key W ents.isEmpty t.toNat
  obtain ⟨j, hj⟩ := find_yes t.toNat (pair t) ents.toList 0 (fun e he => by obtain ⟨u, _, hk, _⟩ := ents_mem he; exact ⟨_, hk⟩) (mem_ents ht) (fun e he hk => by
    obtain ⟨u, _, hk', hv, _⟩ := ents_mem he
    rw [hv, u8_key (hk.symm.trans hk')])
  have hb : W.heap[m]? = some (.map ents 6) := h
  simp [Instr.lookup, h2, MapKept.run_getObj_map hb, h3, Instr.findKey, h1, hj, Result.andThen]
set_option maxRecDepth 100000 in
theorem zeroM (w : World) : (zeroValue 104).run Tryz.prog w = .ok (.agg #[.nilFunc, .nilFunc]) w := by kernel_rfl
theorem look_no {t : UInt8} (ht : known t = false) {W : World} {m : Nat} (h : Mp W m) :
    (Instr.lookup 96 (.map (some m)) (.int .u8 t.toNat) true).run Tryz.prog W = .ok (.tuple #[.agg #[.nilFunc, .nilFunc], .bool false]) W := by
  have h1 := run_underlying (w := W) Tryz.underlying5
  have h2 := run_underlying (w := W) Tryz.underlying96
  have h3 := run_key W ents.isEmpty t.toNat
  have hj := find_no t.toNat ents.toList 0 (fun e he => by
    obtain ⟨u, hu, hk, _⟩ := ents_mem he
    refine ⟨_, hk, beq_eq_false_iff_ne.2 fun e => ?_⟩
    have : t = u := UInt8.toNat_inj.1 (by omega)
    rw [this, hu] at ht
    cases ht)
  have hb : W.heap[m]? = some (.map ents 6) := h
  simp [Instr.lookup, h2, MapKept.run_getObj_map hb, h3, Instr.findKey, h1, hj, zeroM, Result.andThen]
/-- .. the map's block by whatever name. -/
theorem meanings_m (w : World) : Calls Tryz.prog 57 #[] w fun e w' => ∃ m, e = .returned (.map (some m)) ∧ Mp w' m ∧ Below w.heap.size w w' :=
  (meanings_any w).mono fun _ _ ⟨he, hm, hb, _⟩ => ⟨_, he, hm, hb⟩
end Go.Proofs.YtpohcejgblahiaaGreat.Lco

/- Contracts of lcpopt's add, Good and Known. -/
namespace Go.Proofs.YtpohcejgblahiaaGreat.Lco
open Go.RowKit Go.Proofs.YtpohcejgblahiaaGreat.Oct Go.Proofs.YtpohcejgblahiaaGreat.Row Go.Proofs.YtpohcejgblahiaaGreat.Mem Go.Proofs.YtpohcejgblahiaaGreat.Opt

theorem boxA (w : World) (x : Lcp) (t : UInt8) (d : ByteArray) : ∃ W, ((w.alloc (.cells #[Value.bool x.hm, .int .u16 x.mru.toNat, .bool x.ha, .int .u32 x.accm.toNat, .int .u8 x.auth.toNat, .bool x.hg, .int .u32 x.magic.toNat, .bool x.pfc, .bool x.acfc] 37)).alloc (.cells #[.int .u8 t.toNat, .string d] 51)).alloc (.cells #[Value.bool false, .int .u16 0, .bool false, .int .u32 0, .int .u8 0, .bool false, .int .u32 0, .bool false, .bool false] 37) = W ∧ Hid (LAt W w.heap.size x ∧ At W (w.heap.size + 1) (t, d) ∧ LAt W (w.heap.size + 1 + 1) lz ∧ Below w.heap.size w W ∧ W.heap.size = w.heap.size + 1 + 1 + 1) := by
  refine ⟨_, rfl, ((lat_new w x).alloc _).alloc _, ?_, ?_, (((Below.refl w.heap.size w).alloc (Nat.le_refl _) _).alloc (by simp) _).alloc (by simp <;> omega) _, by simp⟩
  · have := (at_new (w.alloc (.cells (lv x).toArray 37)) t d).alloc (.cells #[Value.bool false, .int .u16 0, .bool false, .int .u32 0, .int .u8 0, .bool false, .int .u32 0, .bool false, .bool false] 37)
    rw [show (w.alloc (.cells (lv x).toArray 37)).heap.size = w.heap.size + 1 by simp] at this
    exact this
  · have := lat_new ((w.alloc (.cells (lv x).toArray 37)).alloc (.cells #[.int .u8 t.toNat, .string d] 51)) lz
    rw [show ((w.alloc (.cells (lv x).toArray 37)).alloc (.cells #[.int .u8 t.toNat, .string d] 51)).heap.size = w.heap.size + 1 + 1 by simp] at this
    exact this
/-- A meaning in a variable's block. -/
theorem boxM (W : World) (v0 v1 : Value) : ∃ V, W.alloc (.cells #[v0, v1] 104) = V ∧ Hid (Blk V W.heap.size [v0, v1] 104 ∧ Below W.heap.size W V) :=
  ⟨_, rfl, blk_new W [v0, v1] _, (Below.refl W.heap.size W).alloc (Nat.le_refl _) _⟩
theorem zall {W : World} {g : Nat} (h : LAt W g lz) : W.cell? ⟨g, 0, none⟩ = some (Value.bool false) ∧ W.cell? ⟨g, 1, none⟩ = some (.int .u16 0) ∧ W.cell? ⟨g, 2, none⟩ = some (.bool false) ∧ W.cell? ⟨g, 3, none⟩ = some (.int .u32 0) ∧ W.cell? ⟨g, 4, none⟩ = some (.int .u8 0) ∧ W.cell? ⟨g, 5, none⟩ = some (.bool false) ∧ W.cell? ⟨g, 6, none⟩ = some (.int .u32 0) ∧ W.cell? ⟨g, 7, none⟩ = some (.bool false) ∧ W.cell? ⟨g, 8, none⟩ = some (.bool false) ∧ W.frozen? ⟨g, 0, none⟩ = false ∧ W.frozen? ⟨g, 1, none⟩ = false ∧ W.frozen? ⟨g, 2, none⟩ = false ∧ W.frozen? ⟨g, 3, none⟩ = false ∧ W.frozen? ⟨g, 4, none⟩ = false ∧ W.frozen? ⟨g, 5, none⟩ = false ∧ W.frozen? ⟨g, 6, none⟩ = false ∧ W.frozen? ⟨g, 7, none⟩ = false ∧ W.frozen? ⟨g, 8, none⟩ = false := ⟨h.c 0, h.c 1, h.c 2, h.c 3, h.c 4, h.c 5, h.c 6, h.c 7, h.c 8, h.f 0, h.f 1, h.f 2, h.f 3, h.f 4, h.f 5, h.f 6, h.f 7, h.f 8⟩
theorem not_known {t : UInt8} {d : ByteArray} (h : known t = false) : good (t, d) = false := by
  rw [Bool.eq_false_iff]
  intro e
  rw [show known t = true from good_known e] at h
  cases h
set_option maxHeartbeats 4000000 in
set_option maxRecDepth 100000 in
theorem add_any (x : Lcp) (t : UInt8) (d : ByteArray) (m : Nat) (w : World) (hm : Mp w m) (hd : d.size ≤ maxLen) : Calls Tryz.prog 58 #[.agg (lv x).toArray, .agg #[.int .u8 t.toNat, .string d], .map (some m)] w (ReadQ (t, d) x w) := by
  show Calls Tryz.prog 58 #[.agg #[Value.bool x.hm, .int .u16 x.mru.toNat, .bool x.ha, .int .u32 x.accm.toNat, .int .u8 x.auth.toNat, .bool x.hg, .int .u32 x.magic.toNat, .bool x.pfc, .bool x.acfc], .agg #[.int .u8 t.toNat, .string d], .map (some m)] w (ReadQ (t, d) x w)
  obtain ⟨W, hW, HW⟩ := boxA w x t d
  have HM := Lib.hid (hm.below HW.out.2.2.2.1 hm.lt); clear hm
  have c0 : W.cell? ⟨w.heap.size, 0, none⟩ = some (Value.bool x.hm) := HW.out.1.c 0
  have c1 : W.cell? ⟨w.heap.size, 1, none⟩ = some (.int .u16 x.mru.toNat) := HW.out.1.c 1
  have c2 : W.cell? ⟨w.heap.size, 2, none⟩ = some (.bool x.ha) := HW.out.1.c 2
  have c3 : W.cell? ⟨w.heap.size, 3, none⟩ = some (.int .u32 x.accm.toNat) := HW.out.1.c 3
  have c4 : W.cell? ⟨w.heap.size, 4, none⟩ = some (.int .u8 x.auth.toNat) := HW.out.1.c 4
  have c5 : W.cell? ⟨w.heap.size, 5, none⟩ = some (.bool x.hg) := HW.out.1.c 5
  have c6 : W.cell? ⟨w.heap.size, 6, none⟩ = some (.int .u32 x.magic.toNat) := HW.out.1.c 6
  have c7 : W.cell? ⟨w.heap.size, 7, none⟩ = some (.bool x.pfc) := HW.out.1.c 7
  have c8 : W.cell? ⟨w.heap.size, 8, none⟩ = some (.bool x.acfc) := HW.out.1.c 8
  have o0 : W.cell? ⟨w.heap.size + 1, 0, none⟩ = some (.int .u8 t.toNat) := HW.out.2.1.c0
  have o1 : W.cell? ⟨w.heap.size + 1, 1, none⟩ = some (.string d) := HW.out.2.1.c1
  have hsz := HW.out.2.2.2.2
  cases ht : known t
  · have hl := look_no ht HM.out
    have HG := Lib.hid (not_known (d := d) ht)
    obtain ⟨V, hV, HV⟩ := boxM W .nilFunc .nilFunc
    subst hV
    have HB := Lib.hid (HW.out.2.2.2.1.trans (HV.out.2.mono (Nat.le_trans HW.out.2.2.2.1.size (Nat.le_refl _))))
    have HZ := Lib.hid (HW.out.2.2.1.callee HV.out.2)
    have z0 : (W.alloc (.cells #[.nilFunc, .nilFunc] 104)).cell? ⟨w.heap.size + 1 + 1, 0, none⟩ = some (Value.bool false) := HZ.out.c 0
    have g0 := HZ.out.f 0
    have z1 : (W.alloc (.cells #[.nilFunc, .nilFunc] 104)).cell? ⟨w.heap.size + 1 + 1, 1, none⟩ = some (.int .u16 0) := HZ.out.c 1
    have g1 := HZ.out.f 1
    have z2 : (W.alloc (.cells #[.nilFunc, .nilFunc] 104)).cell? ⟨w.heap.size + 1 + 1, 2, none⟩ = some (.bool false) := HZ.out.c 2
    have g2 := HZ.out.f 2
    have z3 : (W.alloc (.cells #[.nilFunc, .nilFunc] 104)).cell? ⟨w.heap.size + 1 + 1, 3, none⟩ = some (.int .u32 0) := HZ.out.c 3
    have g3 := HZ.out.f 3
    have z4 : (W.alloc (.cells #[.nilFunc, .nilFunc] 104)).cell? ⟨w.heap.size + 1 + 1, 4, none⟩ = some (.int .u8 0) := HZ.out.c 4
    have g4 := HZ.out.f 4
    have z5 : (W.alloc (.cells #[.nilFunc, .nilFunc] 104)).cell? ⟨w.heap.size + 1 + 1, 5, none⟩ = some (.bool false) := HZ.out.c 5
    have g5 := HZ.out.f 5
    have z6 : (W.alloc (.cells #[.nilFunc, .nilFunc] 104)).cell? ⟨w.heap.size + 1 + 1, 6, none⟩ = some (.int .u32 0) := HZ.out.c 6
    have g6 := HZ.out.f 6
    have z7 : (W.alloc (.cells #[.nilFunc, .nilFunc] 104)).cell? ⟨w.heap.size + 1 + 1, 7, none⟩ = some (.bool false) := HZ.out.c 7
    have g7 := HZ.out.f 7
    have z8 : (W.alloc (.cells #[.nilFunc, .nilFunc] 104)).cell? ⟨w.heap.size + 1 + 1, 8, none⟩ = some (.bool false) := HZ.out.c 8
    have g8 := HZ.out.f 8
    clear ht hsz
    go_enter Tryz.func58, Tryz.ntmps58
    go_wp2
    have HR := setL_blk (y := lz) HZ.out
    have HBe := setL_below HB.out HB.out.size (g := w.heap.size + 1 + 1) (by omega) (lv lz)
    (try simp only [Exit.inBlock, Exit.then])
    refine bodyPost_ret (results_row1 rfl _ _ (w.heap.size + 1 + 1) (lv lz) _ _ rfl HR Tryz.underlying37 rfl (by kernel_rfl)) rfl ?_
    exact ⟨lz, by rw [HG.out]; rfl, fun e => (by rw [HG.out] at e; cases e), HBe⟩
  · have hl := look_yes ht true HM.out
    have HR := Lib.hid (fun w => read_any ht d x w hd)
    have hR := read_enters ht
    simp only [pair, if_true] at hl
    generalize fnR t = R at *
    generalize fnD t = D at *
    obtain ⟨V, hV, HV⟩ := boxM W (.func (.func D) #[] #[]) (.func (.func R) #[] #[])
    have HB : Hid (Below w.heap.size w V) := HW.out.2.2.2.1.trans (HV.out.2.mono (by omega))
    have HZ : Hid (LAt V (w.heap.size + 1 + 1) lz) := HW.out.2.2.1.callee HV.out.2
    have HX : Hid (LAt V w.heap.size x) := HW.out.1.callee HV.out.2
    have HO : Hid (At V (w.heap.size + 1) (t, d)) := HW.out.2.1.callee HV.out.2
    have m0 : V.cell? ⟨W.heap.size, 1, none⟩ = some (.func (.func R) #[] #[]) := Blk.at_ HV.out.1 1
    have p1 : V.cell? ⟨w.heap.size + 1, 1, none⟩ = some (.string d) := HO.out.c1
    have x0 : V.cell? ⟨w.heap.size, 0, none⟩ = some (Value.bool x.hm) := HX.out.c 0
    have x1 : V.cell? ⟨w.heap.size, 1, none⟩ = some (.int .u16 x.mru.toNat) := HX.out.c 1
    have x2 : V.cell? ⟨w.heap.size, 2, none⟩ = some (.bool x.ha) := HX.out.c 2
    have x3 : V.cell? ⟨w.heap.size, 3, none⟩ = some (.int .u32 x.accm.toNat) := HX.out.c 3
    have x4 : V.cell? ⟨w.heap.size, 4, none⟩ = some (.int .u8 x.auth.toNat) := HX.out.c 4
    have x5 : V.cell? ⟨w.heap.size, 5, none⟩ = some (.bool x.hg) := HX.out.c 5
    have x6 : V.cell? ⟨w.heap.size, 6, none⟩ = some (.int .u32 x.magic.toNat) := HX.out.c 6
    have x7 : V.cell? ⟨w.heap.size, 7, none⟩ = some (.bool x.pfc) := HX.out.c 7
    have x8 : V.cell? ⟨w.heap.size, 8, none⟩ = some (.bool x.acfc) := HX.out.c 8
    clear ht hsz
    go_enter Tryz.func58, Tryz.ntmps58
    go_wp2_with fail
    refine (HR.out _).mono ?_
    rintro e w6 ⟨y, rfl, hy, hb6⟩
    have HY := Lib.hid hy
    have HB6 := Lib.hid (HB.out.trans (hb6.mono HB.out.size))
    have HZ6 := Lib.hid (HZ.out.callee hb6)
    clear hV hy hb6 hR hl HR m0 p1 HX HO HV HB HZ HM c0 c1 c2 c3 c4 c5 c6 c7 c8 o0 o1 x0 x1 x2 x3 x4 x5 x6 x7 x8
    unfold lv
    have z0 : w6.cell? ⟨w.heap.size + 1 + 1, 0, none⟩ = some (Value.bool false) := HZ6.out.c 0
    have g0 := HZ6.out.f 0
    have z1 : w6.cell? ⟨w.heap.size + 1 + 1, 1, none⟩ = some (.int .u16 0) := HZ6.out.c 1
    have g1 := HZ6.out.f 1
    have z2 : w6.cell? ⟨w.heap.size + 1 + 1, 2, none⟩ = some (.bool false) := HZ6.out.c 2
    have g2 := HZ6.out.f 2
    have z3 : w6.cell? ⟨w.heap.size + 1 + 1, 3, none⟩ = some (.int .u32 0) := HZ6.out.c 3
    have g3 := HZ6.out.f 3
    have z4 : w6.cell? ⟨w.heap.size + 1 + 1, 4, none⟩ = some (.int .u8 0) := HZ6.out.c 4
    have g4 := HZ6.out.f 4
    have z5 : w6.cell? ⟨w.heap.size + 1 + 1, 5, none⟩ = some (.bool false) := HZ6.out.c 5
    have g5 := HZ6.out.f 5
    have z6 : w6.cell? ⟨w.heap.size + 1 + 1, 6, none⟩ = some (.int .u32 0) := HZ6.out.c 6
    have g6 := HZ6.out.f 6
    have z7 : w6.cell? ⟨w.heap.size + 1 + 1, 7, none⟩ = some (.bool false) := HZ6.out.c 7
    have g7 := HZ6.out.f 7
    have z8 : w6.cell? ⟨w.heap.size + 1 + 1, 8, none⟩ = some (.bool false) := HZ6.out.c 8
    have g8 := HZ6.out.f 8
    go_wp2
    have HR := setL_blk (y := y) HZ6.out
    have HBe := setL_below HB6.out HB6.out.size (g := w.heap.size + 1 + 1) (by omega) (lv y)
    (try simp only [Exit.inBlock, Exit.then])
    refine bodyPost_ret (results_row1 rfl _ _ (w.heap.size + 1 + 1) (lv y) _ _ rfl HR Tryz.underlying37 rfl (by kernel_rfl)) rfl ?_
    exact ⟨y, rfl, HY.out, HBe⟩
end Go.Proofs.YtpohcejgblahiaaGreat.Lco

/- The map of what is said of each option: how it is made, looked up. -/
namespace Go.Proofs.YtpohcejgblahiaaGreat.Pol
open Go.RowKit Go.Proofs.YtpohcejgblahiaaGreat.Oct Go.Proofs.YtpohcejgblahiaaGreat.Row Go.Proofs.YtpohcejgblahiaaGreat.Mem Go.Proofs.YtpohcejgblahiaaGreat.Opt Go.Proofs.YtpohcejgblahiaaGreat.Lco Go.ChangeMaps

/-- The functions at a type. -/
def fB (t : UInt8) : Nat := if t = 1 then 63 else if t = 2 then 66 else if t = 3 then 69 else if t = 5 then 72 else if t = 7 then 66 else 66
def fN (t : UInt8) : Nat := if t = 1 then 64 else if t = 2 then 67 else if t = 3 then 70 else if t = 5 then 73 else if t = 7 then 76 else 78
def fX (t : UInt8) : Nat := if t = 1 then 65 else if t = 2 then 68 else if t = 3 then 71 else if t = 5 then 75 else if t = 7 then 77 else 79
theorem bet_any {t : UInt8} (ht : known t = true) (g : Nat) (p : Po) (x : Lcp) (w : World) (h : PAt w g p) : Calls Tryz.prog (fB t) #[.pointer (some ⟨g, 0, none⟩), .agg (lv x).toArray] w (BetQ (bet p t x) w) := by
  rcases known_cases ht with e | e | e | e | e | e <;> subst e
  · exact bet_mru _ p x w
  · exact good_bet _ x w
  · exact bet_auth g p x w h
  · exact bet_magic g p x w h
  · exact good_bet _ x w
  · exact good_bet _ x w
set_option maxRecDepth 100000 in
theorem fB_enters {t : UInt8} (ht : known t = true) : ∀ args w, (callFunc (fB t) args).run Tryz.prog w = .ok (.enter (fB t) args) w := by
  rcases known_cases ht with e | e | e | e | e | e <;> subst e
  · exact enters_of Tryz.func63 (by kernel_rfl) rfl
  · exact enters_of Tryz.func66 (by kernel_rfl) rfl
  · exact enters_of Tryz.func69 (by kernel_rfl) rfl
  · exact enters_of Tryz.func72 (by kernel_rfl) rfl
  · exact enters_of Tryz.func66 (by kernel_rfl) rfl
  · exact enters_of Tryz.func66 (by kernel_rfl) rfl
set_option maxRecDepth 100000 in
theorem fN_enters {t : UInt8} (ht : known t = true) : ∀ args w, (callFunc (fN t) args).run Tryz.prog w = .ok (.enter (fN t) args) w := by
  rcases known_cases ht with e | e | e | e | e | e <;> subst e
  · exact enters_of Tryz.func64 (by kernel_rfl) rfl
  · exact enters_of Tryz.func67 (by kernel_rfl) rfl
  · exact enters_of Tryz.func70 (by kernel_rfl) rfl
  · exact enters_of Tryz.func73 (by kernel_rfl) rfl
  · exact enters_of Tryz.func76 (by kernel_rfl) rfl
  · exact enters_of Tryz.func78 (by kernel_rfl) rfl
set_option maxRecDepth 100000 in
theorem fX_enters {t : UInt8} (ht : known t = true) : ∀ args w, (callFunc (fX t) args).run Tryz.prog w = .ok (.enter (fX t) args) w := by
  rcases known_cases ht with e | e | e | e | e | e <;> subst e
  · exact enters_of Tryz.func65 (by kernel_rfl) rfl
  · exact enters_of Tryz.func68 (by kernel_rfl) rfl
  · exact enters_of Tryz.func71 (by kernel_rfl) rfl
  · exact enters_of Tryz.func75 (by kernel_rfl) rfl
  · exact enters_of Tryz.func77 (by kernel_rfl) rfl
  · exact enters_of Tryz.func79 (by kernel_rfl) rfl
def trip (t : UInt8) : Value := .agg #[.func (.func (fB t)) #[] #[], .func (.func (fN t)) #[] #[], .func (.func (fX t)) #[] #[]]
/-- The map's entries. -/
def sents : Array MapEntry := #[⟨.int .u8 1, trip 1, 0⟩, ⟨.int .u8 2, trip 2, 1⟩, ⟨.int .u8 3, trip 3, 2⟩, ⟨.int .u8 5, trip 5, 3⟩, ⟨.int .u8 7, trip 7, 4⟩, ⟨.int .u8 8, trip 8, 5⟩]
/-- The map lies in block m. -/
def Sy (W : World) (m : Nat) : Prop := W.heap[m]? = some (.map sents 6)
theorem Sy.lt {W : World} {m : Nat} (h : Sy W m) : m < W.heap.size := (Array.getElem?_eq_some_iff.1 h).1
theorem Sy.below {W W' : World} {m n : Nat} (h : Sy W m) (hb : Below n W W') (hm : m < n) : Sy W' m := (hb.block m hm).trans h
theorem Sy.callee {W W' : World} {m : Nat} (h : Sy W m) (hb : Below W.heap.size W W') : Sy W' m := h.below hb h.lt
theorem Sy.alloc {W : World} {m : Nat} (h : Sy W m) (o : Obj) : Sy (W.alloc o) m := (Below.heap_alloc W o m h.lt).trans h
theorem Sy.moves {S : Nat → Prop} {W W' : World} {m : Nat} (h : Sy W m) (hm : Moves S W W') (hs : ¬ S m) : Sy W' m := (hm.block m h.lt hs).trans h
theorem sy_blk {W : World} {m g : Nat} {cs : List Value} {t : TypeId} (h : Sy W m) (h2 : Blk W g cs t) : m ≠ g := by
  rintro rfl
  have h1 : W.heap[m]? = _ := h
  have h3 : W.heap[m]? = _ := h2
  rw [h1] at h3
  cases h3
theorem run_lay3 {w W : World} {m c : Nat} {es : Array MapEntry} (n : Int) (v : Value) (h : W = w.alloc (.map es c)) (hm : m = w.heap.size) (hn : ∀ e ∈ es.toList, ∃ k, e.key = .int .u8 k ∧ (n == k) = false) :
    ∃ W', (Instr.mapUpdate 75 (.map (some m)) (.int .u8 n) v).run Tryz.prog W = .ok () W' ∧ W' = w.alloc (.map (es.push ⟨.int .u8 n, v, c⟩) (c + 1)) := by
  subst h hm
  refine ⟨_, ?_, rfl⟩
  have hb := (MapKept.heap_alloc w (.map es c)).1
  have h1 := run_underlying (w := w.alloc (.map es c)) Tryz.underlying5
  have h2 := run_underlying (w := w.alloc (.map es c)) Tryz.underlying75
  have h3 := run_key (w.alloc (.map es c)) false n
  have h4 := MapKept.run_setObj_map (P := Tryz.prog) (.map (es.push ⟨.int .u8 n, v, c⟩) (c + 1)) hb
  have e : { w.alloc (.map es c) with heap := (w.alloc (.map es c)).heap.setIfInBounds w.heap.size (.map (es.push ⟨.int .u8 n, v, c⟩) (c + 1)) } = w.alloc (.map (es.push ⟨.int .u8 n, v, c⟩) (c + 1)) :=
    congrArg (fun h : Array Obj => { w with heap := h }) (push_set w.heap (.map es c) (.map (es.push ⟨.int .u8 n, v, c⟩) (c + 1)))
  rw [e] at h4
  simp [Instr.mapUpdate, h2, MapKept.run_getObj_map hb, h3, Instr.findKey, h1, find_no n es.toList 0 hn, h4, Result.andThen]
set_option maxHeartbeats 2000000 in
set_option maxRecDepth 100000 in
theorem sayings_any (w : World) : Calls Tryz.prog 37 #[] w fun e w' => ∃ m, e = .returned (.map (some m)) ∧ w.heap.size ≤ m ∧ Sy w' m ∧ Below w.heap.size w w' := by
  have hmm := @run_makeMap Tryz.prog
  obtain ⟨W1, h1, e1⟩ := run_lay3 (w := w) (c := 0) (es := #[]) 1 (trip 1) rfl rfl (by intro e he; simp at he)
  obtain ⟨W2, h2, e2⟩ := run_lay3 (w := w) 2 (trip 2) e1 rfl (by intro e he; simp at he; subst he; exact ⟨1, rfl, rfl⟩)
  obtain ⟨W3, h3, e3⟩ := run_lay3 (w := w) 3 (trip 3) e2 rfl (by intro e he; simp at he; rcases he with rfl | rfl; exact ⟨1, rfl, rfl⟩; exact ⟨2, rfl, rfl⟩)
  obtain ⟨W4, h4, e4⟩ := run_lay3 (w := w) 5 (trip 5) e3 rfl (by intro e he; simp at he; rcases he with rfl | rfl | rfl; exact ⟨1, rfl, rfl⟩; exact ⟨2, rfl, rfl⟩; exact ⟨3, rfl, rfl⟩)
  obtain ⟨W5, h5, e5⟩ := run_lay3 (w := w) 7 (trip 7) e4 rfl (by intro e he; simp at he; rcases he with rfl | rfl | rfl | rfl; exact ⟨1, rfl, rfl⟩; exact ⟨2, rfl, rfl⟩; exact ⟨3, rfl, rfl⟩; exact ⟨5, rfl, rfl⟩)
  obtain ⟨W6, h6, e6⟩ := run_lay3 (w := w) 8 (trip 8) e5 rfl (by intro e he; simp at he; rcases he with rfl | rfl | rfl | rfl | rfl; exact ⟨1, rfl, rfl⟩; exact ⟨2, rfl, rfl⟩; exact ⟨3, rfl, rfl⟩; exact ⟨5, rfl, rfl⟩; exact ⟨7, rfl, rfl⟩)
  have H : Hid (Sy W6 w.heap.size ∧ Below w.heap.size w W6) := by
    subst e6
    exact ⟨(MapKept.heap_alloc w _).1, (Below.refl _ _).alloc (Nat.le_refl _) _⟩
  clear e1 e2 e3 e4 e5 e6
  simp only [trip, fB, fN, fX] at h1 h2 h3 h4 h5 h6
  simp only [if_true, if_false, show ¬ (2 : UInt8) = 1 by decide, show ¬ (3 : UInt8) = 1 by decide, show ¬ (3 : UInt8) = 2 by decide, show ¬ (5 : UInt8) = 1 by decide, show ¬ (5 : UInt8) = 2 by decide, show ¬ (5 : UInt8) = 3 by decide, show ¬ (7 : UInt8) = 1 by decide, show ¬ (7 : UInt8) = 2 by decide, show ¬ (7 : UInt8) = 3 by decide, show ¬ (7 : UInt8) = 5 by decide, show ¬ (8 : UInt8) = 1 by decide, show ¬ (8 : UInt8) = 2 by decide, show ¬ (8 : UInt8) = 3 by decide, show ¬ (8 : UInt8) = 5 by decide, show ¬ (8 : UInt8) = 7 by decide] at h1 h2 h3 h4 h5 h6
  go_enter Tryz.func37, Tryz.ntmps37
  go_wp2
  go_ret
  exact ⟨_, rfl, Nat.le_refl _, H.out⟩

/-! ### looking up -/
theorem sents_mem {e : MapEntry} (h : e ∈ sents.toList) : ∃ t, known t = true ∧ e.key = .int .u8 (t.toNat : Nat) ∧ e.val = trip t := by
  simp only [sents, List.mem_cons, List.not_mem_nil, or_false] at h
  rcases h with rfl | rfl | rfl | rfl | rfl | rfl
  · exact ⟨1, rfl, rfl, rfl⟩
  · exact ⟨2, rfl, rfl, rfl⟩
  · exact ⟨3, rfl, rfl, rfl⟩
  · exact ⟨5, rfl, rfl, rfl⟩
  · exact ⟨7, rfl, rfl, rfl⟩
  · exact ⟨8, rfl, rfl, rfl⟩
theorem mem_sents {t : UInt8} (h : known t = true) : ∃ e ∈ sents.toList, e.key = .int .u8 (t.toNat : Nat) := by
  rcases known_cases h with e | e | e | e | e | e <;> subst e
  · exact ⟨⟨.int .u8 1, trip 1, 0⟩, by simp [sents], rfl⟩
  · exact ⟨⟨.int .u8 2, trip 2, 1⟩, by simp [sents], rfl⟩
  · exact ⟨⟨.int .u8 3, trip 3, 2⟩, by simp [sents], rfl⟩
  · exact ⟨⟨.int .u8 5, trip 5, 3⟩, by simp [sents], rfl⟩
  · exact ⟨⟨.int .u8 7, trip 7, 4⟩, by simp [sents], rfl⟩
  · exact ⟨⟨.int .u8 8, trip 8, 5⟩, by simp [sents], rfl⟩
theorem say_look {t : UInt8} (ht : known t = true) {W : World} {m : Nat} (h : Sy W m) :
    (Instr.lookup 75 (.map (some m)) (.int .u8 t.toNat) false).run Tryz.prog W = .ok (trip t) W := by
  have h1 := run_underlying (w := W) Tryz.underlying5
  have h2 := run_underlying (w := W) Tryz.underlying75
  have h3 := run_key W sents.isEmpty t.toNat
  obtain ⟨j, hj⟩ := find_yes t.toNat (trip t) sents.toList 0 (fun e he => by obtain ⟨u, _, hk, _⟩ := sents_mem he; exact ⟨_, hk⟩) (mem_sents ht) (fun e he hk => by
    obtain ⟨u, _, hk', hv⟩ := sents_mem he
    rw [hv, u8_key (hk.symm.trans hk')])
  have hb : W.heap[m]? = some (.map sents 6) := h
  simp [Instr.lookup, h2, MapKept.run_getObj_map hb, h3, Instr.findKey, h1, hj, Result.andThen]
end Go.Proofs.YtpohcejgblahiaaGreat.Pol
