/- Put together: LcoC, PolD, LcoEq, PolE, PolV, PolH, LcoD, LcoE. -/
import Derived.Test.YtpppggicihfbgaaGreatGLcoA
import Derived.Maps.RangeRun
import Derived.Maps.Keyed
import Derived.Carry
import Derived.Shelf.Abstract
import Derived.KernelRfl
import Derived.Laws.EntriesVeiled
import Derived.Test.YtpppggicihfbgaaGreatGOpts
import Derived.Deep.RegionHeld3
import Derived.Maps.AppendAt
import Derived.Test.YtpppggicihfbgaaGreatGOptRf
import Derived.OwnWalk
import Derived.Deep.Slices
import Derived.Lib.SmallJoins
import Derived.Deep.WholeRow
import Derived.Deep.RegionWith

/- lcpopt's map of what the options say: how it is made, looked up, gone over. -/
namespace Go.Proofs.YtpppggicihfbgaaGreat.Lco
open Go.RowKit Go.Proofs.YtpppggicihfbgaaGreat.Oct Go.Proofs.YtpppggicihfbgaaGreat.Row Go.Proofs.YtpppggicihfbgaaGreat.Mem Go.Proofs.YtpppggicihfbgaaGreat.Opt Go.ChangeMaps

def fnD (t : UInt8) : Nat := if t = 1 then 166 else if t = 2 then 168 else if t = 3 then 171 else if t = 5 then 175 else if t = 7 then 177 else 179
def fnR (t : UInt8) : Nat := if t = 1 then 167 else if t = 2 then 169 else if t = 3 then 173 else if t = 5 then 176 else if t = 7 then 178 else 180
theorem data_any {t : UInt8} (ht : known t = true) (x : Lcp) (w : World) : Calls Tryz.prog (fnD t) #[.agg (lv x).toArray] w (DataQ t x w) := by
  rcases known_cases ht with e | e | e | e | e | e <;> subst e
  · exact data1 x w
  · exact data2 x w
  · exact data3 x w
  · exact data5 x w
  · exact data7 x w
  · exact data8 x w
theorem read_any {t : UInt8} (ht : known t = true) (d : ByteArray) (x : Lcp) (w : World) (hd : d.size ≤ maxLen) : Calls Tryz.prog (fnR t) #[.agg (lv x).toArray, .string d] w (ReadQ (t, d) x w) := by
  rcases known_cases ht with e | e | e | e | e | e <;> subst e
  · exact read1 d x w hd
  · exact read2 d x w hd
  · exact read3 d x w hd
  · exact read5 d x w hd
  · exact read7 d x w hd
  · exact read8 d x w hd
set_option maxRecDepth 100000 in
theorem data_enters {t : UInt8} (ht : known t = true) : ∀ args w, (callFunc (fnD t) args).run Tryz.prog w = .ok (.enter (fnD t) args) w := by
  rcases known_cases ht with e | e | e | e | e | e <;> subst e
  · exact enters_of Tryz.func166 (by kernel_rfl) rfl
  · exact enters_of Tryz.func168 (by kernel_rfl) rfl
  · exact enters_of Tryz.func171 (by kernel_rfl) rfl
  · exact enters_of Tryz.func175 (by kernel_rfl) rfl
  · exact enters_of Tryz.func177 (by kernel_rfl) rfl
  · exact enters_of Tryz.func179 (by kernel_rfl) rfl
set_option maxRecDepth 100000 in
theorem read_enters {t : UInt8} (ht : known t = true) : ∀ args w, (callFunc (fnR t) args).run Tryz.prog w = .ok (.enter (fnR t) args) w := by
  rcases known_cases ht with e | e | e | e | e | e <;> subst e
  · exact enters_of Tryz.func167 (by kernel_rfl) rfl
  · exact enters_of Tryz.func169 (by kernel_rfl) rfl
  · exact enters_of Tryz.func173 (by kernel_rfl) rfl
  · exact enters_of Tryz.func176 (by kernel_rfl) rfl
  · exact enters_of Tryz.func178 (by kernel_rfl) rfl
  · exact enters_of Tryz.func180 (by kernel_rfl) rfl
def pair (t : UInt8) : Value := .agg #[.func (.func (fnD t)) #[] #[], .func (.func (fnR t)) #[] #[]]
def ents : Array MapEntry := #[⟨.int .u8 1, pair 1, 0⟩, ⟨.int .u8 2, pair 2, 1⟩, ⟨.int .u8 3, pair 3, 2⟩, ⟨.int .u8 5, pair 5, 3⟩, ⟨.int .u8 7, pair 7, 4⟩, ⟨.int .u8 8, pair 8, 5⟩]
def Mp (W : World) (m : Nat) : Prop := W.heap[m]? = some (.map ents 6)
theorem Mp.lt {W : World} {m : Nat} (h : Mp W m) : m < W.heap.size := (Array.getElem?_eq_some_iff.1 h).1
theorem Mp.below {W W' : World} {m n : Nat} (h : Mp W m) (hb : Below n W W') (hm : m < n) : Mp W' m := (hb.block m hm).trans h
theorem Mp.callee {W W' : World} {m : Nat} (h : Mp W m) (hb : Below W.heap.size W W') : Mp W' m := h.below hb h.lt
theorem Mp.alloc {W : World} {m : Nat} (h : Mp W m) (o : Obj) : Mp (W.alloc o) m := (Below.heap_alloc W o m h.lt).trans h
theorem Mp.moves {S : Nat → Prop} {W W' : World} {m : Nat} (h : Mp W m) (hm : Moves S W W') (hs : ¬ S m) : Mp W' m := (hm.block m h.lt hs).trans h
theorem find_no (n : Int) : ∀ (es : List MapEntry) (i : Nat), (∀ e ∈ es, ∃ k, e.key = .int .u8 k ∧ (n == k) = false) → Instr.findNow (.int .u8) (.int .u8 n) es i = some none
  | [], _, _ => rfl
  | e :: es, i, h => by
    obtain ⟨k, hk, hn⟩ := h e (by simp)
    unfold Instr.findNow
    rw [hk]
    simp only [Instr.sameNow, if_true, hn]
    exact find_no n es (i + 1) fun x hx => h x (by simp [hx])
theorem run_key (w : World) (em : Bool) (n : Int) : (Instr.checkKey em 10000 5 (.int .u8 n)).run Tryz.prog w = .ok () w := by
  have h := run_underlying (w := w) Tryz.underlying5
  unfold Instr.checkKey
  simp [h, Result.andThen]
theorem push_set {α : Type} (a : Array α) (x y : α) : (a.push x).setIfInBounds a.size y = a.push y := by
  apply Array.ext_getElem?
  intro i
  rw [Array.getElem?_setIfInBounds, Array.getElem?_push, Array.getElem?_push, Array.size_push]
  by_cases hi : a.size = i
  · subst hi
    rw [if_pos rfl, if_pos (Nat.lt_succ_self _), if_pos rfl]
  · rw [if_neg hi, if_neg (Ne.symm hi), if_neg (Ne.symm hi)]
theorem run_lay {w W : World} {m c : Nat} {es : Array MapEntry} (n : Int) (v : Value) (h : W = w.alloc (.map es c)) (hm : m = w.heap.size) (hn : ∀ e ∈ es.toList, ∃ k, e.key = .int .u8 k ∧ (n == k) = false) :
    ∃ W', (Instr.mapUpdate 247 (.map (some m)) (.int .u8 n) v).run Tryz.prog W = .ok () W' ∧ W' = w.alloc (.map (es.push ⟨.int .u8 n, v, c⟩) (c + 1)) := by
  subst h hm
  refine ⟨_, ?_, rfl⟩
  have hb := (MapKept.heap_alloc w (.map es c)).1
  have h1 := run_underlying (w := w.alloc (.map es c)) Tryz.underlying5
  have h2 := run_underlying (w := w.alloc (.map es c)) Tryz.underlying247
  have h3 := run_key (w.alloc (.map es c)) false n
  have h4 := MapKept.run_setObj_map (P := Tryz.prog) (.map (es.push ⟨.int .u8 n, v, c⟩) (c + 1)) hb
  have e : { w.alloc (.map es c) with heap := (w.alloc (.map es c)).heap.setIfInBounds w.heap.size (.map (es.push ⟨.int .u8 n, v, c⟩) (c + 1)) } = w.alloc (.map (es.push ⟨.int .u8 n, v, c⟩) (c + 1)) :=
    congrArg (fun h : Array Obj => { w with heap := h }) (push_set w.heap (.map es c) (.map (es.push ⟨.int .u8 n, v, c⟩) (c + 1)))
  rw [e] at h4
  simp [Instr.mapUpdate, h2, MapKept.run_getObj_map hb, h3, Instr.findKey, h1, find_no n es.toList 0 hn, h4, Result.andThen]
set_option maxHeartbeats 1000000 in
set_option maxRecDepth 100000 in
theorem meanings_any (w : World) : Calls Tryz.prog 141 #[] w fun e w' => e = .returned (.map (some w.heap.size)) ∧ Mp w' w.heap.size ∧ Below w.heap.size w w' ∧ w'.heap.size = w.heap.size + 1 := by
  have hmm := @run_makeMap Tryz.prog
  obtain ⟨W1, h1, e1⟩ := run_lay (w := w) (c := 0) (es := #[]) 1 (pair 1) rfl rfl (by intro e he; simp at he)
  obtain ⟨W2, h2, e2⟩ := run_lay (w := w) 2 (pair 2) e1 rfl (by intro e he; simp at he; subst he; exact ⟨1, rfl, rfl⟩)
  obtain ⟨W3, h3, e3⟩ := run_lay (w := w) 3 (pair 3) e2 rfl (by intro e he; simp at he; rcases he with rfl | rfl; exact ⟨1, rfl, rfl⟩; exact ⟨2, rfl, rfl⟩)
  obtain ⟨W4, h4, e4⟩ := run_lay (w := w) 5 (pair 5) e3 rfl (by intro e he; simp at he; rcases he with rfl | rfl | rfl; exact ⟨1, rfl, rfl⟩; exact ⟨2, rfl, rfl⟩; exact ⟨3, rfl, rfl⟩)
  obtain ⟨W5, h5, e5⟩ := run_lay (w := w) 7 (pair 7) e4 rfl (by intro e he; simp at he; rcases he with rfl | rfl | rfl | rfl; exact ⟨1, rfl, rfl⟩; exact ⟨2, rfl, rfl⟩; exact ⟨3, rfl, rfl⟩; exact ⟨5, rfl, rfl⟩)
  obtain ⟨W6, h6, e6⟩ := run_lay (w := w) 8 (pair 8) e5 rfl (by intro e he; simp at he; rcases he with rfl | rfl | rfl | rfl | rfl; exact ⟨1, rfl, rfl⟩; exact ⟨2, rfl, rfl⟩; exact ⟨3, rfl, rfl⟩; exact ⟨5, rfl, rfl⟩; exact ⟨7, rfl, rfl⟩)
  have H : Hid (Mp W6 w.heap.size ∧ Below w.heap.size w W6 ∧ W6.heap.size = w.heap.size + 1) := by
    subst e6
    exact ⟨(MapKept.heap_alloc w _).1, (Below.refl _ _).alloc (Nat.le_refl _) _, by simp⟩
  clear e1 e2 e3 e4 e5 e6
  simp only [pair, fnD, fnR] at h1 h2 h3 h4 h5 h6
  simp only [if_true, show ¬ (2 : UInt8) = 1 by decide, show ¬ (3 : UInt8) = 1 by decide, show ¬ (3 : UInt8) = 2 by decide, show ¬ (5 : UInt8) = 1 by decide, show ¬ (5 : UInt8) = 2 by decide, show ¬ (5 : UInt8) = 3 by decide, show ¬ (7 : UInt8) = 1 by decide, show ¬ (7 : UInt8) = 2 by decide, show ¬ (7 : UInt8) = 3 by decide, show ¬ (7 : UInt8) = 5 by decide, show ¬ (8 : UInt8) = 1 by decide, show ¬ (8 : UInt8) = 2 by decide, show ¬ (8 : UInt8) = 3 by decide, show ¬ (8 : UInt8) = 5 by decide, show ¬ (8 : UInt8) = 7 by decide, if_false] at h1 h2 h3 h4 h5 h6
  go_enter Tryz.func141, Tryz.ntmps141
  go_wp2
  go_ret
  exact ⟨rfl, H.out⟩

/-! ### looking up -/
theorem find_yes (n : Int) (v : Value) : ∀ (es : List MapEntry) (i : Nat), (∀ e ∈ es, ∃ k, e.key = .int .u8 k) → (∃ e ∈ es, e.key = .int .u8 n) → (∀ e ∈ es, e.key = .int .u8 n → e.val = v) → ∃ j, Instr.findNow (.int .u8) (.int .u8 n) es i = some (some (j, v))
  | [], _, _, h, _ => by obtain ⟨e, he, _⟩ := h; cases he
  | e :: es, i, hk, hx, hv => by
    obtain ⟨k, ek⟩ := hk e (by simp)
    unfold Instr.findNow
    rw [ek]
    simp only [Instr.sameNow, if_true]
    by_cases hn : n = k
    · subst hn
      simp only [beq_self_eq_true]
      exact ⟨i, by rw [hv e (by simp) ek]⟩
    · rw [show (n == k) = false from beq_eq_false_iff_ne.2 hn]
      refine find_yes n v es (i + 1) (fun x hx => hk x (by simp [hx])) ?_ (fun x hx => hv x (by simp [hx]))
      obtain ⟨y, hy, ey⟩ := hx
      rcases List.mem_cons.1 hy with rfl | hy
      · rw [ek] at ey; cases ey; exact absurd rfl hn
      · exact ⟨y, hy, ey⟩
theorem ents_mem {e : MapEntry} (h : e ∈ ents.toList) : ∃ t, known t = true ∧ e.key = .int .u8 (t.toNat : Nat) ∧ e.val = pair t ∧ e.born < 6 := by
  simp only [ents, List.mem_cons, List.not_mem_nil, or_false] at h
  rcases h with rfl | rfl | rfl | rfl | rfl | rfl
  · exact ⟨1, rfl, rfl, rfl, by decide⟩
  · exact ⟨2, rfl, rfl, rfl, by decide⟩
  · exact ⟨3, rfl, rfl, rfl, by decide⟩
  · exact ⟨5, rfl, rfl, rfl, by decide⟩
  · exact ⟨7, rfl, rfl, rfl, by decide⟩
  · exact ⟨8, rfl, rfl, rfl, by decide⟩
theorem mem_ents {t : UInt8} (h : known t = true) : ∃ e ∈ ents.toList, e.key = .int .u8 (t.toNat : Nat) := by
  rcases known_cases h with e | e | e | e | e | e <;> subst e
  · exact ⟨⟨.int .u8 1, pair 1, 0⟩, by simp [ents], rfl⟩
  · exact ⟨⟨.int .u8 2, pair 2, 1⟩, by simp [ents], rfl⟩
  · exact ⟨⟨.int .u8 3, pair 3, 2⟩, by simp [ents], rfl⟩
  · exact ⟨⟨.int .u8 5, pair 5, 3⟩, by simp [ents], rfl⟩
  · exact ⟨⟨.int .u8 7, pair 7, 4⟩, by simp [ents], rfl⟩
  · exact ⟨⟨.int .u8 8, pair 8, 5⟩, by simp [ents], rfl⟩
theorem u8_key {t u : UInt8} (h : Value.int .u8 (t.toNat : Nat) = .int .u8 (u.toNat : Nat)) : t = u := by
  simp only [Value.int.injEq, true_and] at h
  exact UInt8.toNat_inj.1 (by omega)
theorem look_yes {t : UInt8} (ht : known t = true) (ok : Bool) {W : World} {m : Nat} (h : Mp W m) :
    (Instr.lookup 247 (.map (some m)) (.int .u8 t.toNat) ok).run Tryz.prog W = .ok (if ok then .tuple #[pair t, .bool true] else pair t) W := by
  have h1 := run_underlying (w := W) Tryz.underlying5
  have h2 := run_underlying (w := W) Tryz.underlying247
  have h3 := run_key W ents.isEmpty t.toNat
  obtain ⟨j, hj⟩ := find_yes t.toNat (pair t) ents.toList 0 (fun e he => by obtain ⟨u, _, hk, _⟩ := ents_mem he; exact ⟨_, hk⟩) (mem_ents ht) (fun e he hk => by
    obtain ⟨u, _, hk', hv, _⟩ := ents_mem he
    rw [hv, u8_key (hk.symm.trans hk')])
  have hb : W.heap[m]? = some (.map ents 6) := h
  simp [Instr.lookup, h2, MapKept.run_getObj_map hb, h3, Instr.findKey, h1, hj, Result.andThen]
set_option maxRecDepth 100000 in
theorem zeroM (w : World) : (zeroValue 255).run Tryz.prog w = .ok (.agg #[.nilFunc, .nilFunc]) w := by kernel_rfl
theorem look_no {t : UInt8} (ht : known t = false) {W : World} {m : Nat} (h : Mp W m) :
    (Instr.lookup 247 (.map (some m)) (.int .u8 t.toNat) true).run Tryz.prog W = .ok (.tuple #[.agg #[.nilFunc, .nilFunc], .bool false]) W := by
  have h1 := run_underlying (w := W) Tryz.underlying5
  have h2 := run_underlying (w := W) Tryz.underlying247
  have h3 := run_key W ents.isEmpty t.toNat
  have hj := find_no t.toNat ents.toList 0 (fun e he => by
    obtain ⟨u, hu, hk, _⟩ := ents_mem he
    refine ⟨_, hk, beq_eq_false_iff_ne.2 fun e => ?_⟩
    have : t = u := UInt8.toNat_inj.1 (by omega)
    rw [this, hu] at ht
    cases ht)
  have hb : W.heap[m]? = some (.map ents 6) := h
  simp [Instr.lookup, h2, MapKept.run_getObj_map hb, h3, Instr.findKey, h1, hj, zeroM, Result.andThen]
theorem meanings_m (w : World) : Calls Tryz.prog 141 #[] w fun e w' => ∃ m, e = .returned (.map (some m)) ∧ Mp w' m ∧ Below w.heap.size w w' :=
  (meanings_any w).mono fun _ _ ⟨he, hm, hb, _⟩ => ⟨_, he, hm, hb⟩
end Go.Proofs.YtpppggicihfbgaaGreat.Lco

/- The map of what is said of each option: how it is made, looked up. -/
namespace Go.Proofs.YtpppggicihfbgaaGreat.Pol
open Go.RowKit Go.Proofs.YtpppggicihfbgaaGreat.Oct Go.Proofs.YtpppggicihfbgaaGreat.Row Go.Proofs.YtpppggicihfbgaaGreat.Mem Go.Proofs.YtpppggicihfbgaaGreat.Opt Go.Proofs.YtpppggicihfbgaaGreat.Lco Go.ChangeMaps

def fB (t : UInt8) : Nat := if t = 1 then 144 else if t = 2 then 147 else if t = 3 then 150 else if t = 5 then 153 else if t = 7 then 147 else 147
def fN (t : UInt8) : Nat := if t = 1 then 145 else if t = 2 then 148 else if t = 3 then 151 else if t = 5 then 154 else if t = 7 then 156 else 158
def fX (t : UInt8) : Nat := if t = 1 then 146 else if t = 2 then 149 else if t = 3 then 152 else if t = 5 then 155 else if t = 7 then 157 else 159
theorem bet_any {t : UInt8} (ht : known t = true) (g : Nat) (p : Po) (x : Lcp) (w : World) (h : PAt w g p) : Calls Tryz.prog (fB t) #[.pointer (some ⟨g, 0, none⟩), .agg (lv x).toArray] w (BetQ (bet p t x) w) := by
  rcases known_cases ht with e | e | e | e | e | e <;> subst e
  · exact bet_mru _ p x w
  · exact good_bet _ x w
  · exact bet_auth g p x w h
  · exact bet_magic g p x w h
  · exact good_bet _ x w
  · exact good_bet _ x w
set_option maxRecDepth 100000 in
theorem fB_enters {t : UInt8} (ht : known t = true) : ∀ args w, (callFunc (fB t) args).run Tryz.prog w = .ok (.enter (fB t) args) w := by
  rcases known_cases ht with e | e | e | e | e | e <;> subst e
  · exact enters_of Tryz.func144 (by kernel_rfl) rfl
  · exact enters_of Tryz.func147 (by kernel_rfl) rfl
  · exact enters_of Tryz.func150 (by kernel_rfl) rfl
  · exact enters_of Tryz.func153 (by kernel_rfl) rfl
  · exact enters_of Tryz.func147 (by kernel_rfl) rfl
  · exact enters_of Tryz.func147 (by kernel_rfl) rfl
set_option maxRecDepth 100000 in
theorem fN_enters {t : UInt8} (ht : known t = true) : ∀ args w, (callFunc (fN t) args).run Tryz.prog w = .ok (.enter (fN t) args) w := by
  rcases known_cases ht with e | e | e | e | e | e <;> subst e
  · exact enters_of Tryz.func145 (by kernel_rfl) rfl
  · exact enters_of Tryz.func148 (by kernel_rfl) rfl
  · exact enters_of Tryz.func151 (by kernel_rfl) rfl
  · exact enters_of Tryz.func154 (by kernel_rfl) rfl
  · exact enters_of Tryz.func156 (by kernel_rfl) rfl
  · exact enters_of Tryz.func158 (by kernel_rfl) rfl
def trip (t : UInt8) : Value := .agg #[.func (.func (fB t)) #[] #[], .func (.func (fN t)) #[] #[], .func (.func (fX t)) #[] #[]]
def sents : Array MapEntry := #[⟨.int .u8 1, trip 1, 0⟩, ⟨.int .u8 2, trip 2, 1⟩, ⟨.int .u8 3, trip 3, 2⟩, ⟨.int .u8 5, trip 5, 3⟩, ⟨.int .u8 7, trip 7, 4⟩, ⟨.int .u8 8, trip 8, 5⟩]
def Sy (W : World) (m : Nat) : Prop := W.heap[m]? = some (.map sents 6)
theorem Sy.lt {W : World} {m : Nat} (h : Sy W m) : m < W.heap.size := (Array.getElem?_eq_some_iff.1 h).1
theorem Sy.below {W W' : World} {m n : Nat} (h : Sy W m) (hb : Below n W W') (hm : m < n) : Sy W' m := (hb.block m hm).trans h
theorem Sy.callee {W W' : World} {m : Nat} (h : Sy W m) (hb : Below W.heap.size W W') : Sy W' m := h.below hb h.lt
theorem Sy.alloc {W : World} {m : Nat} (h : Sy W m) (o : Obj) : Sy (W.alloc o) m := (Below.heap_alloc W o m h.lt).trans h
theorem Sy.moves {S : Nat → Prop} {W W' : World} {m : Nat} (h : Sy W m) (hm : Moves S W W') (hs : ¬ S m) : Sy W' m := (hm.block m h.lt hs).trans h
theorem sy_blk {W : World} {m g : Nat} {cs : List Value} {t : TypeId} (h : Sy W m) (h2 : Blk W g cs t) : m ≠ g := by
  rintro rfl
  have h1 : W.heap[m]? = _ := h
  have h3 : W.heap[m]? = _ := h2
  rw [h1] at h3
  cases h3
theorem run_lay3 {w W : World} {m c : Nat} {es : Array MapEntry} (n : Int) (v : Value) (h : W = w.alloc (.map es c)) (hm : m = w.heap.size) (hn : ∀ e ∈ es.toList, ∃ k, e.key = .int .u8 k ∧ (n == k) = false) :
    ∃ W', (Instr.mapUpdate 232 (.map (some m)) (.int .u8 n) v).run Tryz.prog W = .ok () W' ∧ W' = w.alloc (.map (es.push ⟨.int .u8 n, v, c⟩) (c + 1)) := by
  subst h hm
  refine ⟨_, ?_, rfl⟩
  have hb := (MapKept.heap_alloc w (.map es c)).1
  have h1 := run_underlying (w := w.alloc (.map es c)) Tryz.underlying5
  have h2 := run_underlying (w := w.alloc (.map es c)) Tryz.underlying232
  have h3 := run_key (w.alloc (.map es c)) false n
  have h4 := MapKept.run_setObj_map (P := Tryz.prog) (.map (es.push ⟨.int .u8 n, v, c⟩) (c + 1)) hb
  have e : { w.alloc (.map es c) with heap := (w.alloc (.map es c)).heap.setIfInBounds w.heap.size (.map (es.push ⟨.int .u8 n, v, c⟩) (c + 1)) } = w.alloc (.map (es.push ⟨.int .u8 n, v, c⟩) (c + 1)) :=
    congrArg (fun h : Array Obj => { w with heap := h }) (push_set w.heap (.map es c) (.map (es.push ⟨.int .u8 n, v, c⟩) (c + 1)))
  rw [e] at h4
  simp [Instr.mapUpdate, h2, MapKept.run_getObj_map hb, h3, Instr.findKey, h1, find_no n es.toList 0 hn, h4, Result.andThen]
set_option maxHeartbeats 2000000 in
set_option maxRecDepth 100000 in
theorem sayings_any (w : World) : Calls Tryz.prog 132 #[] w fun e w' => ∃ m, e = .returned (.map (some m)) ∧ w.heap.size ≤ m ∧ Sy w' m ∧ Below w.heap.size w w' := by
  have hmm := @run_makeMap Tryz.prog
  obtain ⟨W1, h1, e1⟩ := run_lay3 (w := w) (c := 0) (es := #[]) 1 (trip 1) rfl rfl (by intro e he; simp at he)
  obtain ⟨W2, h2, e2⟩ := run_lay3 (w := w) 2 (trip 2) e1 rfl (by intro e he; simp at he; subst he; exact ⟨1, rfl, rfl⟩)
  obtain ⟨W3, h3, e3⟩ := run_lay3 (w := w) 3 (trip 3) e2 rfl (by intro e he; simp at he; rcases he with rfl | rfl; exact ⟨1, rfl, rfl⟩; exact ⟨2, rfl, rfl⟩)
  obtain ⟨W4, h4, e4⟩ := run_lay3 (w := w) 5 (trip 5) e3 rfl (by intro e he; simp at he; rcases he with rfl | rfl | rfl; exact ⟨1, rfl, rfl⟩; exact ⟨2, rfl, rfl⟩; exact ⟨3, rfl, rfl⟩)
  obtain ⟨W5, h5, e5⟩ := run_lay3 (w := w) 7 (trip 7) e4 rfl (by intro e he; simp at he; rcases he with rfl | rfl | rfl | rfl; exact ⟨1, rfl, rfl⟩; exact ⟨2, rfl, rfl⟩; exact ⟨3, rfl, rfl⟩; exact ⟨5, rfl, rfl⟩)
  obtain ⟨W6, h6, e6⟩ := run_lay3 (w := w) 8 (trip 8) e5 rfl (by intro e he; simp at he; rcases he with rfl | rfl | rfl | rfl | rfl; exact ⟨1, rfl, rfl⟩; exact ⟨2, rfl, rfl⟩; exact ⟨3, rfl, rfl⟩; exact ⟨5, rfl, rfl⟩; exact ⟨7, rfl, rfl⟩)
  have H : Hid (Sy W6 w.heap.size ∧ Below w.heap.size w W6) := by
    subst e6
    exact ⟨(MapKept.heap_alloc w _).1, (Below.refl _ _).alloc (Nat.le_refl _) _⟩
  clear e1 e2 e3 e4 e5 e6
  simp only [trip, fB, fN, fX] at h1 h2 h3 h4 h5 h6
  simp only [if_true, if_false, show ¬ (2 : UInt8) = 1 by decide, show ¬ (3 : UInt8) = 1 by decide, show ¬ (3 : UInt8) = 2 by decide, show ¬ (5 : UInt8) = 1 by decide, show ¬ (5 : UInt8) = 2 by decide, show ¬ (5 : UInt8) = 3 by decide, show ¬ (7 : UInt8) = 1 by decide, show ¬ (7 : UInt8) = 2 by decide, show ¬ (7 : UInt8) = 3 by decide, show ¬ (7 : UInt8) = 5 by decide, show ¬ (8 : UInt8) = 1 by decide, show ¬ (8 : UInt8) = 2 by decide, show ¬ (8 : UInt8) = 3 by decide, show ¬ (8 : UInt8) = 5 by decide, show ¬ (8 : UInt8) = 7 by decide] at h1 h2 h3 h4 h5 h6
  go_enter Tryz.func132, Tryz.ntmps132
  go_wp2
  go_ret
  exact ⟨_, rfl, Nat.le_refl _, H.out⟩

/-! ### looking up -/
theorem sents_mem {e : MapEntry} (h : e ∈ sents.toList) : ∃ t, known t = true ∧ e.key = .int .u8 (t.toNat : Nat) ∧ e.val = trip t := by
  simp only [sents, List.mem_cons, List.not_mem_nil, or_false] at h
  rcases h with rfl | rfl | rfl | rfl | rfl | rfl
  · exact ⟨1, rfl, rfl, rfl⟩
  · exact ⟨2, rfl, rfl, rfl⟩
  · exact ⟨3, rfl, rfl, rfl⟩
  · exact ⟨5, rfl, rfl, rfl⟩
  · exact ⟨7, rfl, rfl, rfl⟩
  · exact ⟨8, rfl, rfl, rfl⟩
theorem mem_sents {t : UInt8} (h : known t = true) : ∃ e ∈ sents.toList, e.key = .int .u8 (t.toNat : Nat) := by
  rcases known_cases h with e | e | e | e | e | e <;> subst e
  · exact ⟨⟨.int .u8 1, trip 1, 0⟩, by simp [sents], rfl⟩
  · exact ⟨⟨.int .u8 2, trip 2, 1⟩, by simp [sents], rfl⟩
  · exact ⟨⟨.int .u8 3, trip 3, 2⟩, by simp [sents], rfl⟩
  · exact ⟨⟨.int .u8 5, trip 5, 3⟩, by simp [sents], rfl⟩
  · exact ⟨⟨.int .u8 7, trip 7, 4⟩, by simp [sents], rfl⟩
  · exact ⟨⟨.int .u8 8, trip 8, 5⟩, by simp [sents], rfl⟩
theorem say_look {t : UInt8} (ht : known t = true) {W : World} {m : Nat} (h : Sy W m) :
    (Instr.lookup 232 (.map (some m)) (.int .u8 t.toNat) false).run Tryz.prog W = .ok (trip t) W := by
  have h1 := run_underlying (w := W) Tryz.underlying5
  have h2 := run_underlying (w := W) Tryz.underlying232
  have h3 := run_key W sents.isEmpty t.toNat
  obtain ⟨j, hj⟩ := find_yes t.toNat (trip t) sents.toList 0 (fun e he => by obtain ⟨u, _, hk, _⟩ := sents_mem he; exact ⟨_, hk⟩) (mem_sents ht) (fun e he hk => by
    obtain ⟨u, _, hk', hv⟩ := sents_mem he
    rw [hv, u8_key (hk.symm.trans hk')])
  have hb : W.heap[m]? = some (.map sents 6) := h
  simp [Instr.lookup, h2, MapKept.run_getObj_map hb, h3, Instr.findKey, h1, hj, Result.andThen]
end Go.Proofs.YtpppggicihfbgaaGreat.Pol

/- '==' of two structs, of two options. -/
namespace Go.Proofs.YtpppggicihfbgaaGreat.Lco
open Go.RowKit Go.Proofs.YtpppggicihfbgaaGreat.Oct Go.Proofs.YtpppggicihfbgaaGreat.Row Go.Proofs.YtpppggicihfbgaaGreat.Mem Go.Proofs.YtpppggicihfbgaaGreat.Opt

theorem eqF (P : Program) (w : World) (d : Nat) (xs ys : Array Value) (f : Field) (fs : List Field) (a b : Value) (r : Bool) (hn : (f.name ≠ "_")) (ha : (part f.type xs f.offset).run P w = .ok a w) (hb : (part f.type ys f.offset).run P w = .ok b w) (hr : (Op.equalIn d f.type a b).run P w = .ok r w) (rest : Bool) (hrest : r = true → (Op.eqFields d xs ys fs).run P w = .ok rest w) :
    (Op.eqFields d xs ys (f :: fs)).run P w = .ok (r && rest) w := by
  rw [Op.eqFields]
  rw [if_pos hn]
  simp only [Sem.run_bind, ha, hb, hr, Result.andThen_ok, Sem.run_ite]
  cases r
  · simp
  · simp [hrest rfl]
set_option maxRecDepth 100000 in
theorem lcp_equal (x y : Lcp) (w : World) : (Op.equalIn 10000 42 (.agg #[Value.bool x.hm, .int .u16 x.mru.toNat, .bool x.ha, .int .u32 x.accm.toNat, .int .u8 x.auth.toNat, .bool x.hg, .int .u32 x.magic.toNat, .bool x.pfc, .bool x.acfc]) (.agg #[Value.bool y.hm, .int .u16 y.mru.toNat, .bool y.ha, .int .u32 y.accm.toNat, .int .u8 y.auth.toNat, .bool y.hg, .int .u32 y.magic.toNat, .bool y.pfc, .bool y.acfc])).run Tryz.prog w
    = .ok (x.hm == y.hm && ((x.mru.toNat : Int) == y.mru.toNat && (x.ha == y.ha && ((x.accm.toNat : Int) == y.accm.toNat && ((x.auth.toNat : Int) == y.auth.toNat && (x.hg == y.hg && ((x.magic.toNat : Int) == y.magic.toNat && (x.pfc == y.pfc && (x.acfc == y.acfc && true))))))))) w := by
  rw [run_equalIn_agg w 9999 42 _ _ (by kernel_rfl) (by kernel_rfl)]
  unfold Program.fieldsOf
  rw [Tryz.underlying42]
  dsimp only
  refine eqF _ w 9999 _ _ _ _ (Value.bool x.hm) (Value.bool y.hm) _ (by decide) (by kernel_rfl) (by kernel_rfl) (run_equalIn_bool' w 9998 _ _ _ Tryz.underlying4) _ (fun _ => ?_)
  refine eqF _ w 9999 _ _ _ _ (.int .u16 x.mru.toNat) (.int .u16 y.mru.toNat) _ (by decide) (by kernel_rfl) (by kernel_rfl) (run_equalIn_int w 9998 _ _ _ _ _ Tryz.underlying22) _ (fun _ => ?_)
  refine eqF _ w 9999 _ _ _ _ (.bool x.ha) (.bool y.ha) _ (by decide) (by kernel_rfl) (by kernel_rfl) (run_equalIn_bool' w 9998 _ _ _ Tryz.underlying4) _ (fun _ => ?_)
  refine eqF _ w 9999 _ _ _ _ (.int .u32 x.accm.toNat) (.int .u32 y.accm.toNat) _ (by decide) (by kernel_rfl) (by kernel_rfl) (run_equalIn_int w 9998 _ _ _ _ _ Tryz.underlying23) _ (fun _ => ?_)
  refine eqF _ w 9999 _ _ _ _ (.int .u8 x.auth.toNat) (.int .u8 y.auth.toNat) _ (by decide) (by kernel_rfl) (by kernel_rfl) (run_equalIn_int w 9998 _ _ _ _ _ Tryz.underlying5) _ (fun _ => ?_)
  refine eqF _ w 9999 _ _ _ _ (.bool x.hg) (.bool y.hg) _ (by decide) (by kernel_rfl) (by kernel_rfl) (run_equalIn_bool' w 9998 _ _ _ Tryz.underlying4) _ (fun _ => ?_)
  refine eqF _ w 9999 _ _ _ _ (.int .u32 x.magic.toNat) (.int .u32 y.magic.toNat) _ (by decide) (by kernel_rfl) (by kernel_rfl) (run_equalIn_int w 9998 _ _ _ _ _ Tryz.underlying23) _ (fun _ => ?_)
  refine eqF _ w 9999 _ _ _ _ (.bool x.pfc) (.bool y.pfc) _ (by decide) (by kernel_rfl) (by kernel_rfl) (run_equalIn_bool' w 9998 _ _ _ Tryz.underlying4) _ (fun _ => ?_)
  refine eqF _ w 9999 _ _ _ _ (.bool x.acfc) (.bool y.acfc) _ (by decide) (by kernel_rfl) (by kernel_rfl) (run_equalIn_bool' w 9998 _ _ _ Tryz.underlying4) _ (fun _ => ?_)
  rfl
theorem lcp_dec (x y : Lcp) : (x.hm == y.hm && ((x.mru.toNat : Int) == y.mru.toNat && (x.ha == y.ha && ((x.accm.toNat : Int) == y.accm.toNat && ((x.auth.toNat : Int) == y.auth.toNat && (x.hg == y.hg && ((x.magic.toNat : Int) == y.magic.toNat && (x.pfc == y.pfc && (x.acfc == y.acfc && true))))))))) = decide (x = y) := by
  obtain ⟨a0, a1, a2, a3, a4, a5, a6, a7, a8⟩ := x
  obtain ⟨b0, b1, b2, b3, b4, b5, b6, b7, b8⟩ := y
  have e16 : ∀ a b : UInt16, ((a.toNat : Int) == b.toNat) = decide (a = b) := fun a b => by
    by_cases h : a = b
    · rw [h]; simp
    · rw [decide_eq_false h, beq_eq_false_iff_ne]; intro e; exact h (UInt16.toNat_inj.1 (by omega))
  have e32 : ∀ a b : UInt32, ((a.toNat : Int) == b.toNat) = decide (a = b) := fun a b => by
    by_cases h : a = b
    · rw [h]; simp
    · rw [decide_eq_false h, beq_eq_false_iff_ne]; intro e; exact h (UInt32.toNat_inj.1 (by omega))
  have e8 : ∀ a b : UInt8, ((a.toNat : Int) == b.toNat) = decide (a = b) := fun a b => by
    by_cases h : a = b
    · rw [h]; simp
    · rw [decide_eq_false h, beq_eq_false_iff_ne]; intro e; exact h (UInt8.toNat_inj.1 (by omega))
  simp only [e16, e32, e8, Lcp.mk.injEq]
  rw [Bool.eq_iff_iff]
  simp
theorem lcp_eq {x y : Lcp} {r : Bool} (h : decide (x = y) = r) (w : World) : (Op.equalIn 10000 42 (.agg #[Value.bool x.hm, .int .u16 x.mru.toNat, .bool x.ha, .int .u32 x.accm.toNat, .int .u8 x.auth.toNat, .bool x.hg, .int .u32 x.magic.toNat, .bool x.pfc, .bool x.acfc]) (.agg #[Value.bool y.hm, .int .u16 y.mru.toNat, .bool y.ha, .int .u32 y.accm.toNat, .int .u8 y.auth.toNat, .bool y.hg, .int .u32 y.magic.toNat, .bool y.pfc, .bool y.acfc])).run Tryz.prog w = .ok r w := by rw [lcp_equal, lcp_dec, h]
theorem lcp_neq {x y : Lcp} {r : Bool} (h : decide (x = y) = r) (w : World) : (binOp .neq 42 (.agg #[Value.bool x.hm, .int .u16 x.mru.toNat, .bool x.ha, .int .u32 x.accm.toNat, .int .u8 x.auth.toNat, .bool x.hg, .int .u32 x.magic.toNat, .bool x.pfc, .bool x.acfc]) (.agg #[Value.bool y.hm, .int .u16 y.mru.toNat, .bool y.ha, .int .u32 y.accm.toNat, .int .u8 y.auth.toNat, .bool y.hg, .int .u32 y.magic.toNat, .bool y.pfc, .bool y.acfc])).run Tryz.prog w = .ok (.bool (!r)) w := by rw [run_neq_struct, lcp_eq h]; rfl
set_option maxRecDepth 100000 in
theorem opt_eq {o p : Opt} {r : Bool} (h : decide (o = p) = r) (w : World) : (Op.equalIn 10000 177 (.agg #[.int .u8 o.1.toNat, .string o.2]) (.agg #[.int .u8 p.1.toNat, .string p.2])).run Tryz.prog w = .ok r w := by
  have e : ((o.1.toNat : Int) == p.1.toNat && ((o.2.toList == p.2.toList) && true)) = r := by
    rw [← h, Bool.eq_iff_iff]
    obtain ⟨t, d⟩ := o
    obtain ⟨t', d'⟩ := p
    simp only [Bool.and_eq_true, beq_iff_eq, decide_eq_true_eq, Prod.mk.injEq, and_true]
    exact ⟨fun ⟨a, b⟩ => ⟨UInt8.toNat_inj.1 (by omega), toList_inj b⟩, fun ⟨a, b⟩ => ⟨by rw [a], by rw [b]⟩⟩
  rw [run_equalIn_agg w 9999 177 _ _ (by kernel_rfl) (by kernel_rfl)]
  unfold Program.fieldsOf
  rw [Tryz.underlying177]
  dsimp only
  rw [← e]
  refine eqF _ w 9999 _ _ _ _ (.int .u8 o.1.toNat) (.int .u8 p.1.toNat) _ (by decide) (by kernel_rfl) (by kernel_rfl) (run_equalIn_int w 9998 _ _ _ _ _ Tryz.underlying5) _ (fun _ => ?_)
  refine eqF _ w 9999 _ _ _ _ (.string o.2) (.string p.2) _ (by decide) (by kernel_rfl) (by kernel_rfl) (run_equalIn_string w 9998 _ _ _ Tryz.underlying9) _ (fun _ => ?_)
  rfl
end Go.Proofs.YtpppggicihfbgaaGreat.Lco

/- A verdict; contracts of isPoor, refused, poor, instead. -/
namespace Go.Proofs.YtpppggicihfbgaaGreat.Pol
open Go.RowKit Go.Proofs.YtpppggicihfbgaaGreat.Oct Go.Proofs.YtpppggicihfbgaaGreat.Row Go.Proofs.YtpppggicihfbgaaGreat.Mem Go.Proofs.YtpppggicihfbgaaGreat.Opt Go.Proofs.YtpppggicihfbgaaGreat.Lco

def verV (v : Ver) : List Value := [.int .u8 v.got.1.toNat, .string v.got.2, .bool v.rej, .int .u8 v.bet.1.toNat, .string v.bet.2]
def VAt (w : World) (g : Nat) (v : Ver) : Prop := Blk w g (verV v) 225
theorem VAt.callee {w w' : World} {g : Nat} {v : Ver} (h : VAt w g v) (hb : Below w.heap.size w w') : VAt w' g v := Blk.callee h hb
theorem VAt.alloc {w : World} {g : Nat} {v : Ver} (h : VAt w g v) (o : Obj) : VAt (w.alloc o) g v := Blk.alloc h o
theorem VAt.c {w : World} {g : Nat} {v : Ver} (h : VAt w g v) (i : Nat) : w.cell? ⟨g, i, none⟩ = (verV v)[i]? := Blk.at_ h i
theorem VAt.moves {S : Nat → Prop} {w w' : World} {g : Nat} {v : Ver} (h : VAt w g v) (hm : Moves S w w') (hs : ¬ S g) : VAt w' g v := Blk.moves h hm hs
theorem vat_new (w : World) (v : Ver) : VAt (w.alloc (.cells (verV v).toArray 225)) w.heap.size v := blk_new w (verV v) _
theorem VAt.all {w : World} {g : Nat} {v : Ver} (h : VAt w g v) : w.cell? ⟨g, 0, none⟩ = some (.int .u8 v.got.1.toNat) ∧ w.cell? ⟨g, 1, none⟩ = some (.string v.got.2) ∧ w.cell? ⟨g, 2, none⟩ = some (.bool v.rej) ∧ w.cell? ⟨g, 3, none⟩ = some (.int .u8 v.bet.1.toNat) ∧ w.cell? ⟨g, 4, none⟩ = some (.string v.bet.2) := ⟨h.c 0, h.c 1, h.c 2, h.c 3, h.c 4⟩
theorem opt_neq {o p : Opt} {r : Bool} (h : decide (o = p) = r) (w : World) : (binOp .neq 177 (.agg #[.int .u8 o.1.toNat, .string o.2]) (.agg #[.int .u8 p.1.toNat, .string p.2])).run Tryz.prog w = .ok (.bool (!r)) w := by rw [run_neq_struct, opt_eq h]; rfl
theorem boxV (w : World) (v : Ver) : ∃ W, w.alloc (.cells #[.int .u8 v.got.1.toNat, .string v.got.2, .bool v.rej, .int .u8 v.bet.1.toNat, .string v.bet.2] 225) = W ∧ Hid (VAt W w.heap.size v ∧ Below w.heap.size w W ∧ W.heap.size = w.heap.size + 1) :=
  ⟨_, rfl, vat_new w v, (Below.refl w.heap.size w).alloc (Nat.le_refl _) _, by simp⟩
theorem boxVO (w : World) (v : Ver) : ∃ W, (w.alloc (.cells #[.int .u8 v.got.1.toNat, .string v.got.2, .bool v.rej, .int .u8 v.bet.1.toNat, .string v.bet.2] 225)).alloc (.cells #[.int .u8 0, .string ⟨#[]⟩] 177) = W ∧ Hid (VAt W w.heap.size v ∧ At W (w.heap.size + 1) (0, ⟨#[]⟩) ∧ Below w.heap.size w W ∧ W.heap.size = w.heap.size + 1 + 1) :=
  ⟨_, rfl, (vat_new w v).alloc _, by have := at_new (w.alloc (.cells (verV v).toArray 225)) 0 ⟨#[]⟩; rw [World.size_alloc] at this; exact this, ((Below.refl w.heap.size w).alloc (Nat.le_refl _) _).alloc (by simp) _, by simp⟩
set_option maxHeartbeats 1000000 in
set_option maxRecDepth 100000 in
theorem isPoor_any (v : Ver) (w : World) : Calls Tryz.prog 140 #[.agg #[.int .u8 v.got.1.toNat, .string v.got.2, .bool v.rej, .int .u8 v.bet.1.toNat, .string v.bet.2]] w fun e w' => e = .returned (.bool (poor v)) ∧ Below w.heap.size w w' := by
  obtain ⟨W, hW, HW⟩ := boxV w v
  obtain ⟨c0, c1, c2, c3, c4⟩ := HW.out.1.all
  have HB := Lib.hid HW.out.2.1
  have HE : Hid (poor v = (!v.rej && !decide (v.bet = v.got))) := rfl
  cases hr : v.rej
  · rw [hr] at c2 HE hW
    obtain ⟨r, hd⟩ : ∃ r, decide (v.bet = v.got) = r := ⟨_, rfl⟩
    have hN := fun w => opt_neq hd w
    have HF : Hid (poor v = !r) := by
      show _ = _
      rw [HE.out, hd]
      rfl
    clear HW hd HE
    go_enter Tryz.func140, Tryz.ntmps140
    go_wp2
    go_ret
    exact ⟨by rw [HF.out] <;> rfl, HB.out⟩
  · rw [hr] at c2 HE hW
    clear HW
    go_enter Tryz.func140, Tryz.ntmps140
    go_wp2
    go_ret
    exact ⟨by rw [HE.out] <;> rfl, HB.out⟩
def PickQ (o : Opt) (b : Bool) (w : World) (e : Ending) (w' : World) : Prop := e = .returned (.tuple #[.agg #[.int .u8 o.1.toNat, .string o.2], .bool b]) ∧ Below w.heap.size w w'
set_option maxRecDepth 100000 in
theorem pick_end {f : Func} {p t : Nat} (hf : f.results = #[.cell p 177, .tmp t]) (tmps : Array Value) {W : World} {g : Nat} (o : Opt) (h : At W g o) (hp : tmps.getD p undef = .pointer (some ⟨g, 0, none⟩)) :
    (results f tmps).run Tryz.prog W = .ok (.tuple #[.agg #[.int .u8 o.1.toNat, .string o.2], tmps.getD t undef]) W := results_row1 hf tmps W g _ _ _ hp h Tryz.underlying177 rfl (by kernel_rfl)
set_option maxHeartbeats 1000000 in
set_option maxRecDepth 100000 in
theorem refused_any (v : Ver) (w : World) : Calls Tryz.prog 125 #[.agg #[.int .u8 v.got.1.toNat, .string v.got.2, .bool v.rej, .int .u8 v.bet.1.toNat, .string v.bet.2]] w (PickQ v.got v.rej w) := by
  obtain ⟨W, hW, HW⟩ := boxVO w v
  obtain ⟨c0, c1, c2, c3, c4⟩ := HW.out.1.all
  have f0 := Blk.frozen HW.out.2.1 0
  have f1 := Blk.frozen HW.out.2.1 1
  have z0 := HW.out.2.1.c0
  have z1 := HW.out.2.1.c1
  have HB := Lib.hid HW.out.2.2.1
  have HR := Lib.hid (HW.out.2.1.set v.got)
  go_enter Tryz.func125, Tryz.ntmps125
  go_wp2
  clear hW
  go_region
  go_wp2
  (try simp only [Exit.inBlock, Exit.then])
  refine bodyPost_ret (pick_end rfl _ v.got HR.out rfl) rfl ?_
  exact ⟨rfl, ((HB.out.setCell (p := ⟨w.heap.size + 1, 0, none⟩) (Nat.le_succ _) _).setCell (p := ⟨w.heap.size + 1, 1, none⟩) (Nat.le_succ _) _).drew⟩
set_option maxHeartbeats 2000000 in
set_option maxRecDepth 100000 in
theorem poor_any (v : Ver) (w : World) : Calls Tryz.prog 127 #[.agg #[.int .u8 v.got.1.toNat, .string v.got.2, .bool v.rej, .int .u8 v.bet.1.toNat, .string v.bet.2]] w (PickQ v.got (poor v) w) := by
  obtain ⟨W, hW, HW⟩ := boxVO w v
  obtain ⟨c0, c1, c2, c3, c4⟩ := HW.out.1.all
  have f0 := Blk.frozen HW.out.2.1 0
  have f1 := Blk.frozen HW.out.2.1 1
  have z0 := HW.out.2.1.c0
  have z1 := HW.out.2.1.c1
  have HV : Hid (VAt W.drew w.heap.size v) := HW.out.1
  have HZ : Hid (At W.drew (w.heap.size + 1) (0, ⟨#[]⟩)) := HW.out.2.1
  have HB : Hid (Below w.heap.size w W.drew) := HW.out.2.2.1.drew
  have HS : Hid (At ((W.drew.setCell ⟨w.heap.size + 1, 0, none⟩ (.int .u8 v.got.1.toNat)).setCell ⟨w.heap.size + 1, 1, none⟩ (.string v.got.2)) (w.heap.size + 1) v.got) := HZ.out.set v.got
  have HBS : Hid (Below w.heap.size w ((W.drew.setCell ⟨w.heap.size + 1, 0, none⟩ (.int .u8 v.got.1.toNat)).setCell ⟨w.heap.size + 1, 1, none⟩ (.string v.got.2))) := (HB.out.setCell (p := ⟨w.heap.size + 1, 0, none⟩) (Nat.le_succ _) _).setCell (p := ⟨w.heap.size + 1, 1, none⟩) (Nat.le_succ _) _
  have HVS : Hid (VAt ((W.drew.setCell ⟨w.heap.size + 1, 0, none⟩ (.int .u8 v.got.1.toNat)).setCell ⟨w.heap.size + 1, 1, none⟩ (.string v.got.2)) w.heap.size v) := ((HV.out.moves (set_moves _ (w.heap.size + 1) 0 _) (by omega)).moves (set_moves _ (w.heap.size + 1) 1 _) (by omega))
  have C1 := Lib.hid (isPoor_any v)
  go_enter Tryz.func127, Tryz.ntmps127
  go_wp2
  clear hW
  go_region_with (first
    | (go_at_call 140; refine (C1.out W.drew).mono ?_; rintro e w1 ⟨rfl, hb1⟩; have HZ1 := Lib.hid (HZ.out.callee hb1); have HB1 := Lib.hid (HB.out.trans (hb1.mono HB.out.size)); obtain ⟨d0, d1, d2, d3, d4⟩ := (HV.out.callee hb1).all; have g0 := Blk.frozen HZ1.out 0; have g1 := Blk.frozen HZ1.out 1; have y0 := HZ1.out.c0; have y1 := HZ1.out.c1; clear hb1)
    | (go_at_call 140; refine (C1.out _).mono ?_; rintro e w1 ⟨rfl, hb1⟩; have HS1 := Lib.hid (HS.out.callee hb1); have HB2 := Lib.hid (HBS.out.trans (hb1.mono HBS.out.size)); obtain ⟨d0, d1, d2, d3, d4⟩ := (HVS.out.callee hb1).all; clear hb1)
    | fail)
  all_goals go_wp2
  all_goals (try simp only [Exit.inBlock, Exit.then])
  all_goals first
    | (refine bodyPost_ret (pick_end rfl _ v.got HS1.out rfl) rfl ?_; exact ⟨rfl, HB2.out⟩)
    | (refine bodyPost_ret (pick_end rfl _ v.got (HZ1.out.set v.got) rfl) rfl ?_; exact ⟨rfl, (HB1.out.setCell (p := ⟨w.heap.size + 1, 0, none⟩) (Nat.le_succ _) _).setCell (p := ⟨w.heap.size + 1, 1, none⟩) (Nat.le_succ _) _⟩)
set_option maxHeartbeats 2000000 in
set_option maxRecDepth 100000 in
theorem instead_any (v : Ver) (w : World) : Calls Tryz.prog 128 #[.agg #[.int .u8 v.got.1.toNat, .string v.got.2, .bool v.rej, .int .u8 v.bet.1.toNat, .string v.bet.2]] w (PickQ v.bet (poor v) w) := by
  obtain ⟨W, hW, HW⟩ := boxVO w v
  obtain ⟨c0, c1, c2, c3, c4⟩ := HW.out.1.all
  have f0 := Blk.frozen HW.out.2.1 0
  have f1 := Blk.frozen HW.out.2.1 1
  have z0 := HW.out.2.1.c0
  have z1 := HW.out.2.1.c1
  have HV : Hid (VAt W.drew w.heap.size v) := HW.out.1
  have HZ : Hid (At W.drew (w.heap.size + 1) (0, ⟨#[]⟩)) := HW.out.2.1
  have HB : Hid (Below w.heap.size w W.drew) := HW.out.2.2.1.drew
  have HS : Hid (At ((W.drew.setCell ⟨w.heap.size + 1, 0, none⟩ (.int .u8 v.bet.1.toNat)).setCell ⟨w.heap.size + 1, 1, none⟩ (.string v.bet.2)) (w.heap.size + 1) v.bet) := HZ.out.set v.bet
  have HBS : Hid (Below w.heap.size w ((W.drew.setCell ⟨w.heap.size + 1, 0, none⟩ (.int .u8 v.bet.1.toNat)).setCell ⟨w.heap.size + 1, 1, none⟩ (.string v.bet.2))) := (HB.out.setCell (p := ⟨w.heap.size + 1, 0, none⟩) (Nat.le_succ _) _).setCell (p := ⟨w.heap.size + 1, 1, none⟩) (Nat.le_succ _) _
  have HVS : Hid (VAt ((W.drew.setCell ⟨w.heap.size + 1, 0, none⟩ (.int .u8 v.bet.1.toNat)).setCell ⟨w.heap.size + 1, 1, none⟩ (.string v.bet.2)) w.heap.size v) := ((HV.out.moves (set_moves _ (w.heap.size + 1) 0 _) (by omega)).moves (set_moves _ (w.heap.size + 1) 1 _) (by omega))
  have C1 := Lib.hid (isPoor_any v)
  go_enter Tryz.func128, Tryz.ntmps128
  go_wp2
  clear hW
  go_region_with (first
    | (go_at_call 140; refine (C1.out W.drew).mono ?_; rintro e w1 ⟨rfl, hb1⟩; have HZ1 := Lib.hid (HZ.out.callee hb1); have HB1 := Lib.hid (HB.out.trans (hb1.mono HB.out.size)); obtain ⟨d0, d1, d2, d3, d4⟩ := (HV.out.callee hb1).all; have g0 := Blk.frozen HZ1.out 0; have g1 := Blk.frozen HZ1.out 1; have y0 := HZ1.out.c0; have y1 := HZ1.out.c1; clear hb1)
    | (go_at_call 140; refine (C1.out _).mono ?_; rintro e w1 ⟨rfl, hb1⟩; have HS1 := Lib.hid (HS.out.callee hb1); have HB2 := Lib.hid (HBS.out.trans (hb1.mono HBS.out.size)); obtain ⟨d0, d1, d2, d3, d4⟩ := (HVS.out.callee hb1).all; clear hb1)
    | fail)
  all_goals go_wp2
  all_goals (try simp only [Exit.inBlock, Exit.then])
  all_goals first
    | (refine bodyPost_ret (pick_end rfl _ v.bet HS1.out rfl) rfl ?_; exact ⟨rfl, HB2.out⟩)
    | (refine bodyPost_ret (pick_end rfl _ v.bet (HZ1.out.set v.bet) rfl) rfl ?_; exact ⟨rfl, (HB1.out.setCell (p := ⟨w.heap.size + 1, 0, none⟩) (Nat.le_succ _) _).setCell (p := ⟨w.heap.size + 1, 1, none⟩) (Nat.le_succ _) _⟩)
end Go.Proofs.YtpppggicihfbgaaGreat.Pol

/- A row of verdicts; the generic row: what a choice takes of them. -/
namespace Go.Proofs.YtpppggicihfbgaaGreat.Pol
open Go.RowKit Go.Joins Go.Deep Go.Proofs.YtpppggicihfbgaaGreat.Oct Go.Proofs.YtpppggicihfbgaaGreat.Row Go.Proofs.YtpppggicihfbgaaGreat.Mem Go.Proofs.YtpppggicihfbgaaGreat.Opt Go.Proofs.YtpppggicihfbgaaGreat.Lco

def versV (l : List Ver) : List Value := l.flatMap verV
theorem versV_length : ∀ l : List Ver, (versV l).length = l.length * 5
  | [] => rfl
  | v :: l => by
    show (verV v ++ versV l).length = _
    rw [List.length_append, versV_length l, List.length_cons]
    simp [verV]; omega
theorem versV_snoc (l : List Ver) (v : Ver) : versV (l ++ [v]) = versV l ++ verV v := by unfold versV; rw [List.flatMap_append]; simp
theorem verV_ones (v : Ver) : ∀ u ∈ verV v, u.oneCell' = true := by
  intro u hu
  simp only [verV, List.mem_cons, List.not_mem_nil, or_false] at hu
  rcases hu with rfl | rfl | rfl | rfl | rfl <;> rfl
theorem versV_at : ∀ (l : List Ver) (j : Nat) (h : j < l.length), (versV l)[j * 5]? = some (.int .u8 l[j].got.1.toNat) ∧ (versV l)[j * 5 + 1]? = some (.string l[j].got.2) ∧ (versV l)[j * 5 + 2]? = some (.bool l[j].rej) ∧ (versV l)[j * 5 + 3]? = some (.int .u8 l[j].bet.1.toNat) ∧ (versV l)[j * 5 + 4]? = some (.string l[j].bet.2)
  | v :: l, 0, _ => ⟨rfl, rfl, rfl, rfl, rfl⟩
  | v :: l, j + 1, h => by
    have := versV_at l j (by simpa using h)
    have e : versV (v :: l) = .int .u8 v.got.1.toNat :: .string v.got.2 :: .bool v.rej :: .int .u8 v.bet.1.toNat :: .string v.bet.2 :: versV l := rfl
    rw [e, show (j + 1) * 5 = j * 5 + 1 + 1 + 1 + 1 + 1 by omega]
    simpa using this
def Vers (w : World) (B : Nat) (A : Option Addr) (n : Nat) (l : List Ver) : Prop :=
  l.length = n ∧ (0 < n → ∃ ad, A = some ad ∧ ad.block < B ∧ ∀ j (h : j < l.length), w.cell? (ad.add (j * 5)) = some (.int .u8 l[j].got.1.toNat) ∧ w.cell? ⟨(ad.add (j * 5)).block, (ad.add (j * 5)).off + 1, none⟩ = some (.string l[j].got.2) ∧ w.cell? ⟨(ad.add (j * 5)).block, (ad.add (j * 5)).off + 2, none⟩ = some (.bool l[j].rej) ∧ w.cell? ⟨(ad.add (j * 5)).block, (ad.add (j * 5)).off + 3, none⟩ = some (.int .u8 l[j].bet.1.toNat) ∧ w.cell? ⟨(ad.add (j * 5)).block, (ad.add (j * 5)).off + 4, none⟩ = some (.string l[j].bet.2))
theorem Vers.below {w w' : World} {B : Nat} {A : Option Addr} {n : Nat} {l : List Ver} (h : Vers w B A n l) (hb : Below B w w') : Vers w' B A n l :=
  ⟨h.1, fun hn => by
    obtain ⟨ad, e, hB, hc⟩ := h.2 hn
    refine ⟨ad, e, hB, fun j hj => ?_⟩
    have hk : (ad.add (j * 5)).block < B := by rw [Oct.block_add]; exact hB
    obtain ⟨c0, c1, c2, c3, c4⟩ := hc j hj
    exact ⟨(hb.cell hk).trans c0, (hb.cell (by exact hk)).trans c1, (hb.cell (by exact hk)).trans c2, (hb.cell (by exact hk)).trans c3, (hb.cell (by exact hk)).trans c4⟩⟩
theorem Vers.more {w : World} {B B' : Nat} {A : Option Addr} {n : Nat} {l : List Ver} (h : Vers w B A n l) (hb : B ≤ B') : Vers w B' A n l :=
  ⟨h.1, fun hn => by
    obtain ⟨ad, e, hB, hc⟩ := h.2 hn
    exact ⟨ad, e, by omega, hc⟩⟩
theorem Vers.next {w w' : World} {A : Option Addr} {n : Nat} {l : List Ver} (h : Vers w w.heap.size A n l) (hb : Below w.heap.size w w') : Vers w' w'.heap.size A n l := (h.below hb).more hb.size
theorem Vers.at_ {w : World} {B : Nat} {A : Option Addr} {n k : Nat} {l : List Ver} (h : Vers w B A n l) (hk : k < n) :
    ∃ ad v, A = some ad ∧ ad.block < B ∧ l[k]? = some v ∧ w.cell? (ad.add (k * 5)) = some (.int .u8 v.got.1.toNat) ∧ w.cell? ⟨(ad.add (k * 5)).block, (ad.add (k * 5)).off + 1, none⟩ = some (.string v.got.2) ∧ w.cell? ⟨(ad.add (k * 5)).block, (ad.add (k * 5)).off + 2, none⟩ = some (.bool v.rej) ∧ w.cell? ⟨(ad.add (k * 5)).block, (ad.add (k * 5)).off + 3, none⟩ = some (.int .u8 v.bet.1.toNat) ∧ w.cell? ⟨(ad.add (k * 5)).block, (ad.add (k * 5)).off + 4, none⟩ = some (.string v.bet.2) := by
  obtain ⟨ad, e, hB, hc⟩ := h.2 (by omega)
  have hl : k < l.length := by rw [h.1]; exact hk
  exact ⟨ad, l[k], e, hB, List.getElem?_eq_getElem hl, hc k hl⟩
theorem vers_own {w : World} {base n : Nat} {e : TypeId} {v : Value} {l : List Ver} (h : w.ownsRow base e 5 v n (versV l)) : ∃ A c, v = .slice A n c ∧ Vers w w.heap.size A n l := by
  have hl : l.length = n := by have := h.1; rw [versV_length] at this; omega
  rcases h.2 with ⟨rfl, rfl⟩ | ⟨g, cap, cur, rfl, hg, hh, _⟩
  · exact ⟨none, 0, rfl, hl, fun h0 => absurd h0 (by omega)⟩
  · have hlt : g < w.heap.size := (Array.getElem?_eq_some_iff.1 hh).1
    refine ⟨some ⟨g, 0, none⟩, cap, rfl, hl, fun _ => ⟨_, rfl, hlt, fun j hj => ?_⟩⟩
    obtain ⟨v0, v1, v2, v3, v4⟩ := versV_at l j hj
    have c0 := h.cells (g := g) rfl (j * 5) _ v0
    have c1 := h.cells (g := g) rfl (j * 5 + 1) _ v1
    have c2 := h.cells (g := g) rfl (j * 5 + 2) _ v2
    have c3 := h.cells (g := g) rfl (j * 5 + 3) _ v3
    have c4 := h.cells (g := g) rfl (j * 5 + 4) _ v4
    rw [← add_add] at c1 c2 c3 c4
    exact ⟨c0, c1, c2, c3, c4⟩
def pick (pk : Ver → Opt × Bool) (l : List Ver) : List Opt := l.filterMap fun v => if (pk v).2 then some (pk v).1 else none
theorem pick_snoc (pk : Ver → Opt × Bool) (l : List Ver) (k : Nat) (v : Ver) (h : l[k]? = some v) : pick pk (l.take (k + 1)) = if (pk v).2 then pick pk (l.take k) ++ [(pk v).1] else pick pk (l.take k) := by
  obtain ⟨hk, rfl⟩ := List.getElem?_eq_some_iff.1 h
  unfold pick
  rw [List.take_succ_eq_append_getElem hk, List.filterMap_append]
  cases hb : (pk l[k]).2 <;> simp [hb]
def OutQ (l : List Opt) (w : World) (e : Ending) (w' : World) : Prop := ∃ A c, e = .returned (.slice A l.length c) ∧ Opts w' w'.heap.size A l.length l ∧ Below w.heap.size w w'
theorem pick_mem {pk : Ver → Opt × Bool} {l : List Ver} {o : Opt} (h : o ∈ pick pk l) : ∃ v ∈ l, (pk v).1 = o := by
  obtain ⟨v, hv, e⟩ := List.mem_filterMap.1 h
  split at e
  · exact ⟨v, hv, Option.some.inj e⟩
  · cases e
theorem pick_end' {pk : Ver → Opt × Bool} {l : List Ver} {n : Nat} {w wr : World} {e : TypeId} {v : Value} (hn : l.length = n) (hz : ∀ v ∈ l, (pk v).1.2.size ≤ 140737488351232) (h : wr.ownsRow w.heap.size e 2 v (pick pk (l.take n)).length (optsV (pick pk (l.take n)))) (hb : Below w.heap.size w wr) : OutQ (pick pk l) w (.returned v) wr := by
  rw [List.take_of_length_le (by rw [hn]; exact Nat.le_refl _)] at h
  obtain ⟨A, c, rfl, hO⟩ := opts_own h (fun o ho => by obtain ⟨v, hv, rfl⟩ := pick_mem ho; exact hz v hv)
  exact ⟨A, c, rfl, hO, hb⟩
theorem two_new (w : World) (x : Obj) (o : Opt) : ∀ j u, [Value.int .u8 o.1.toNat, .string o.2][j]? = some u → ((w.alloc x).alloc (.cells #[Value.int .u8 o.1.toNat, .string o.2] 177)).cell? ((⟨w.heap.size + 1, 0, none⟩ : Addr).add j) = some u := by
  have := cells_new (w.alloc x) #[Value.int .u8 o.1.toNat, .string o.2] 177
  rw [World.size_alloc] at this
  exact this
set_option maxHeartbeats 4000000 in
set_option maxRecDepth 100000 in
theorem row_any (F : Nat) (pk : Ver → Opt × Bool) (hF : ∀ v w, Calls Tryz.prog F #[.agg #[.int .u8 v.got.1.toNat, .string v.got.2, .bool v.rej, .int .u8 v.bet.1.toNat, .string v.bet.2]] w (PickQ (pk v).1 (pk v).2 w)) (hE : ∀ args w, (callFunc F args).run Tryz.prog w = .ok (.enter F args) w)
    (l : List Ver) (A : Option Addr) (n c : Nat) (w : World) (hl : Vers w w.heap.size A n l) (hn : n ≤ 1000) (hz : ∀ v ∈ l, (pk v).1.2.size ≤ 140737488351232) :
    Calls Tryz.prog 124 #[.slice A n c, .func (.func F) #[] #[]] w (OutQ (pick pk l) w) := by
  obtain ⟨i0, hi, hz0, hz1, hz2⟩ := info_parts Tryz.info177
  have Hn := Lib.hid hl.1
  have Hl := Lib.hid hl; clear hl
  have HF := Lib.hid hF; clear hF
  have HZ := Lib.hid hz; clear hz
  go_enter Tryz.func124, Tryz.ntmps124
  go_wp2
  go_loopw [5, 12] (fun v i wr => ∃ (k m : Nat), k ≤ n ∧ i = .int .i64 k ∧ m ≤ k ∧ Hid (m = (pick pk (l.take k)).length ∧ wr.ownsRow w.heap.size 177 2 v m (optsV (pick pk (l.take k)))) ∧ Below w.heap.size w wr)
    (fun _ i _ => n - (intOf i).toNat)
  case atStart => exact ⟨0, 0, Nat.zero_le _, rfl, Nat.le_refl _, ⟨rfl, World.ownsRow_nil _ _ _ _⟩, Below.refl _ _⟩
  case round =>
    obtain ⟨k, m, hk, rfl, hm, Hown, hb⟩ := hrel
    by_cases hlt : k < n
    · obtain ⟨ad, v, rfl, hB, hv, e0, e1, e2, e3, e4⟩ := (Hl.out.below hb).at_ hlt
      have hst := pick_snoc pk l k v hv
      have HB0 := Lib.hid (hb.alloc hb.size (.cells #[.int .u8 v.got.1.toNat, .string v.got.2, .bool v.rej, .int .u8 v.bet.1.toNat, .string v.bet.2] 225))
      have HC := Lib.hid (HF.out v (wr.alloc (.cells #[.int .u8 v.got.1.toNat, .string v.got.2, .bool v.rej, .int .u8 v.bet.1.toNat, .string v.bet.2] 225)))
      have hzr := hb.size
      clear hv
      cases hp : (pk v).2
      · rw [hp] at hst HC
        simp only [Bool.false_eq_true, if_false] at hst
        have HT := Lib.hid hst
        clear hst hp
        go_wp2_with fail
        refine HC.out.mono ?_
        rintro e w1 ⟨rfl, hb1⟩
        have HB1 := Lib.hid (HB0.out.trans (hb1.mono HB0.out.size))
        have HO1 := Lib.hid (own_callee (Hown.out.2.alloc (.cells #[.int .u8 v.got.1.toNat, .string v.got.2, .bool v.rej, .int .u8 v.bet.1.toNat, .string v.bet.2] 225)) hb1)
        clear hb1
        have HB2 := Lib.hid (HB1.out.alloc HB1.out.size (.cells #[.int .u8 (pk v).1.1.toNat, .string (pk v).1.2] 177))
        go_wp2
        go_roundw
        case rel => exact ⟨k + 1, m, by omega, by go_num, by omega, by rw [HT.out]; exact ⟨Hown.out.1, HO1.out.alloc _⟩, HB2.out⟩
        case measure => simp [intOf]; omega
      · rw [hp] at hst HC
        rw [if_pos rfl] at hst
        have HT := Lib.hid hst
        clear hst hp
        go_wp2_with fail
        refine HC.out.mono ?_
        rintro e w1 ⟨rfl, hb1⟩
        have HB1 := Lib.hid (HB0.out.trans (hb1.mono HB0.out.size))
        have HO1 := Lib.hid (own_callee (Hown.out.2.alloc (.cells #[.int .u8 v.got.1.toNat, .string v.got.2, .bool v.rej, .int .u8 v.bet.1.toNat, .string v.bet.2] 225)) hb1)
        clear hb1
        generalize (pk v).1 = o at *
        have HB2 := Lib.hid (HB1.out.alloc HB1.out.size (.cells #[.int .u8 o.1.toNat, .string o.2] 177))
        have hs1 := HB1.out.size
        have HA := Lib.hid (at_new w1 o.1 o.2)
        go_wp2_with (at_builtin; refine wpList_append_own _ rfl _ _ 86 rfl w.heap.size 177 i0 _ 2 24 Tryz.underlying86 hi hz0 hz1 hz2 rfl (by decide) _ _ _ rfl ((HO1.out.alloc _).alloc _) ⟨w1.heap.size + 1, 0, none⟩ 1 1 (optsV [o]) rfl rfl (by rw [optsV_one]; exact two_new w1 _ o) (optsV_ones _) (by unfold maxLen; omega) (by omega) (by simp; omega) ?_; intro v1 w2 hown1 hgr1 _; have Hown1 := Lib.hid hown1; clear hown1; have hb2 := (HB2.out.alloc HB2.out.size (.cells #[.int .u8 o.1.toNat, .string o.2] 177)).grown hgr1 (by simp; omega) (fun q hq => (HO1.out.lt q hq).1))
        go_roundw
        case rel => exact ⟨k + 1, m + 1, by omega, by go_num, by omega, by rw [HT.out, List.length_append, optsV_append]; exact ⟨by rw [Hown.out.1]; rfl, Hown1.out⟩, hb2⟩
        case measure => simp [intOf]; omega
    · obtain rfl : k = n := by omega
      have HE := Lib.hid (pick_end' Hn.out HZ.out (by have h := Hown.out.2; rw [Hown.out.1] at h; exact h) hb)
      go_wp2
      go_ret
      exact HE.out
end Go.Proofs.YtpppggicihfbgaaGreat.Pol

/- What evaluate keeps: the types that were there, the verdicts. -/
namespace Go.Proofs.YtpppggicihfbgaaGreat.Pol
open Go.RowKit Go.Proofs.YtpppggicihfbgaaGreat.Oct Go.Proofs.YtpppggicihfbgaaGreat.Row Go.Proofs.YtpppggicihfbgaaGreat.Mem Go.Proofs.YtpppggicihfbgaaGreat.Opt Go.Proofs.YtpppggicihfbgaaGreat.Lco

def arrB (f : Nat → Bool) : Array Value := (Array.range 256).map fun j => Value.bool (f j)
theorem arrB_size (f : Nat → Bool) : (arrB f).size = 256 := by simp [arrB]
theorem arrB_at (f : Nat → Bool) (j : Nat) (h : j < 256) : (arrB f)[j]? = some (.bool (f j)) := by simp [arrB, h]
theorem arrB_zero : Array.replicate 256 (Value.bool false) = arrB (fun _ => false) := by
  apply Array.ext_getElem?
  intro i
  by_cases h : i < 256
  · rw [arrB_at _ _ h]; simp [h]
  · simp [arrB, h]
def TabB (w : World) (g : Nat) (f : Nat → Bool) : Prop := w.heap[g]? = some (.cells (arrB f) 244 (0, 0))
theorem TabB.lt {w : World} {g : Nat} {f : Nat → Bool} (h : TabB w g f) : g < w.heap.size := (Array.getElem?_eq_some_iff.1 h).1
theorem TabB.cell {w : World} {g : Nat} {f : Nat → Bool} (h : TabB w g f) (j : Nat) (hj : j < 256) : w.cell? ⟨g, j, none⟩ = some (.bool (f j)) := by
  rw [cell_of_row w g j _ _ _ h, arrB_at f j hj]
theorem TabB.frozen {w : World} {g : Nat} {f : Nat → Bool} (h : TabB w g f) (j : Nat) : w.frozen? ⟨g, j, none⟩ = false := by
  unfold World.frozen?
  have h' : w.heap[g]? = _ := h
  simp [h']
theorem TabB.callee {w w' : World} {g : Nat} {f : Nat → Bool} (h : TabB w g f) (hb : Below w.heap.size w w') : TabB w' g f := (hb.block g h.lt).trans h
theorem TabB.moves {S : Nat → Prop} {w w' : World} {g : Nat} {f : Nat → Bool} (h : TabB w g f) (hm : Moves S w w') (hs : ¬ S g) : TabB w' g f := (hm.block g h.lt hs).trans h
theorem TabB.set {w : World} {g : Nat} {f f' : Nat → Bool} (h : TabB w g f) (k : Nat) (hk : k < 256) (hf : ∀ j, j < 256 → f' j = if j = k then true else f j) : TabB (w.setCell ⟨g, k, none⟩ (.bool true)) g f' := by
  have h' : w.heap[g]? = _ := h
  unfold TabB World.setCell
  simp only [Array.getElem?_modify, if_true, h', Option.map_some, Option.isSome_none, Bool.false_eq_true, if_false]
  congr 2
  apply Array.ext_getElem?
  intro i
  rw [Array.getElem?_setIfInBounds, arrB_size]
  by_cases e : k = i
  · subst e; rw [if_pos rfl, if_pos hk, arrB_at _ _ hk, hf k hk, if_pos rfl]
  · rw [if_neg e]
    by_cases hi : i < 256
    · rw [arrB_at _ _ hi, arrB_at _ _ hi, hf i hi, if_neg (fun x => e x.symm)]
    · rw [Array.getElem?_eq_none (by rw [arrB_size]; omega), Array.getElem?_eq_none (by rw [arrB_size]; omega)]
set_option maxRecDepth 100000 in
theorem info_tabB : (Tryz.prog.info? 244).map (fun i => (i.zero, i.size)) = some (some (.agg (Array.replicate 256 (.bool false))), 256) := by kernel_rfl
theorem zero_tabB (w : World) : (zeroValue 244).run Tryz.prog w = .ok (.agg (arrB fun _ => false)) w := by
  rw [← arrB_zero]; exact (zero_of_info info_tabB).1 w
set_option maxRecDepth 100000 in
theorem Tryz.info225 : (Tryz.prog.info? 225).map (fun i => (i.zero, i.size, i.bytes)) = some (some (.agg #[.int .u8 0, .string ByteArray.empty, .bool false, .int .u8 0, .string ByteArray.empty]), 5, 56) := by kernel_rfl
def sn (l : List Opt) (j : Nat) : Bool := seen l (UInt8.ofNat j)
theorem sn_at (l : List Opt) (t : UInt8) : sn l t.toNat = seen l t := by unfold sn; rw [UInt8.ofNat_toNat]
theorem sn_next (l : List Opt) (k : Nat) (o : Opt) (h : l[k]? = some o) : ∀ j, j < 256 → sn (l.take (k + 1)) j = if j = o.1.toNat then true else sn (l.take k) j := by
  intro j hj
  unfold sn
  rw [seen_snoc l k o h]
  by_cases e : j = o.1.toNat
  · subst e
    rw [if_pos rfl, UInt8.ofNat_toNat]
    simp
  · rw [if_neg e, show (o.1 == UInt8.ofNat j) = false from beq_eq_false_iff_ne.2 fun x => e (by rw [x, UInt8.toNat_ofNat']; omega), Bool.or_false]
structure Ev (w wr : World) (g : Nat) (p : Po) (m ge : Nat) (v : Value) (l : List Opt) (k : Nat) : Prop where
  hp : PAt wr g p
  hm : Sy wr m
  ht : TabB wr ge (sn (l.take k))
  hr : wr.ownsRow w.heap.size 225 5 v k (versV (vs p (l.take k)))
  hb : Below w.heap.size w wr
  he : w.heap.size ≤ ge
theorem Ev.callee {w wr w' : World} {g : Nat} {p : Po} {m ge : Nat} {v : Value} {l : List Opt} {k : Nat} (h : Ev w wr g p m ge v l k) (hb : Below wr.heap.size wr w') : Ev w w' g p m ge v l k :=
  ⟨h.hp.callee hb, h.hm.callee hb, h.ht.callee hb, own_callee h.hr hb, h.hb.trans (hb.mono h.hb.size), h.he⟩
theorem Ev.alloc {w wr : World} {g : Nat} {p : Po} {m ge : Nat} {v : Value} {l : List Opt} {k : Nat} (h : Ev w wr g p m ge v l k) (o : Obj) : Ev w (wr.alloc o) g p m ge v l k := h.callee ((Below.refl _ _).alloc (Nat.le_refl _) o)
theorem Ev.moved {w wr w' : World} {g : Nat} {p : Po} {m ge b : Nat} {v : Value} {l : List Opt} {k : Nat} (h : Ev w wr g p m ge v l k) (hm : Moves (fun j => j = b) wr w') (hg : g ≠ b) (hm2 : m ≠ b) (he : ge ≠ b) (hr : ∀ q, v.ownBlock = some q → ¬ q = b) (hb : w.heap.size ≤ b) : Ev w w' g p m ge v l k :=
  ⟨h.hp.moves hm hg, h.hm.moves hm hm2, h.ht.moves hm he, hm.row h.hr hr, h.hb.trans (hm.below h.hb.size (fun j e => by rw [e]; exact hb)), h.he⟩
structure Ew (w wr : World) (g : Nat) (p : Po) (m ge : Nat) (v : Value) (l : List Opt) (k : Nat) : Prop where
  hp : PAt wr g p
  hm : Sy wr m
  ht : TabB wr ge (sn (l.take (k + 1)))
  hr : wr.ownsRow w.heap.size 225 5 v k (versV (vs p (l.take k)))
  hb : Below w.heap.size w wr
  he : w.heap.size ≤ ge
theorem tab_not_row {W : World} {ge base n : Nat} {f : Nat → Bool} {v : Value} {xs : List Value} (h : TabB W ge f) (hr : W.ownsRow base 225 5 v n xs) : v.ownBlock ≠ some ge := cells_not_row h (by decide) hr
theorem say_not_row {W : World} {m base n : Nat} {v : Value} {xs : List Value} (h : Sy W m) (hr : W.ownsRow base 225 5 v n xs) : v.ownBlock ≠ some m := by
  intro e
  rcases hr.2 with ⟨rfl, _⟩ | ⟨g, cap, cur, rfl, _, hgb, _⟩
  · cases e
  · obtain rfl : g = m := by simpa [Value.ownBlock] using e
    have h1 : W.heap[g]? = _ := h
    rw [h1] at hgb
    cases hgb
theorem Ev.mark {w wr : World} {g : Nat} {p : Po} {m ge : Nat} {v : Value} {l : List Opt} {k q : Nat} (h : Ev w wr g p m ge v l k) (hq : q < 256) (hs : ∀ j, j < 256 → sn (l.take (k + 1)) j = if j = q then true else sn (l.take k) j) : Ew w (wr.setCell ⟨ge, q, none⟩ (.bool true)) g p m ge v l k := by
  have hm : Moves (fun j => j = ge) wr (wr.setCell ⟨ge, q, none⟩ (.bool true)) := set_moves wr ge q _
  refine ⟨h.hp.moves hm ?_, h.hm.moves hm ?_, h.ht.set q hq hs, hm.row h.hr (fun j hj e => tab_not_row h.ht h.hr (by rw [hj, e])), h.hb.trans (hm.below h.hb.size (fun j e => by rw [e]; exact h.he)), h.he⟩
  · rintro rfl
    have h1 : wr.heap[g]? = _ := h.hp
    have h3 : wr.heap[g]? = _ := h.ht
    rw [h1] at h3
    simp only [Option.some.injEq, Obj.cells.injEq] at h3
    exact absurd h3.2.1 (by decide)
  · rintro rfl
    have h1 : wr.heap[m]? = _ := h.hm
    have h3 : wr.heap[m]? = _ := h.ht
    rw [h1] at h3
    cases h3
theorem Ew.grown {w wr w' : World} {g : Nat} {p : Po} {m ge : Nat} {v v' : Value} {l : List Opt} {k : Nat} {x : Obj} {vv : Ver} (h : Ew w wr g p m ge v l k) (hg : (wr.alloc x).grownBy w' v.ownBlock) (hr : w'.ownsRow w.heap.size 225 5 v' (k + 1) (versV (vs p (l.take k)) ++ verV vv)) (hv : vs p (l.take (k + 1)) = vs p (l.take k) ++ [vv]) : Ev w w' g p m ge v' l (k + 1) := by
  have h1 : Moves (fun j => v.ownBlock = some j) (wr.alloc x) w' := Moves.of_grown hg (fun j e _ => e)
  have h0 : Below wr.heap.size wr (wr.alloc x) := (Below.refl _ _).alloc (Nat.le_refl _) x
  have hn := own_callee h.hr h0
  refine ⟨(h.hp.callee h0).moves h1 (cells_not_row (h.hp.callee h0) (by decide) hn), (h.hm.callee h0).moves h1 (say_not_row (h.hm.callee h0) hn), (h.ht.callee h0).moves h1 (tab_not_row (h.ht.callee h0) hn), ?_, ?_, h.he⟩
  · rw [hv, versV_snoc]; exact hr
  · exact (h.hb.trans (h0.mono h.hb.size)).trans (h1.below (Nat.le_trans h.hb.size h0.size) (fun j e => (hn.lt j e).1))
def EvQ (p : Po) (l : List Opt) (n : Nat) (w : World) (e : Ending) (w' : World) : Prop := ∃ A c, e = .returned (.slice A n c) ∧ Vers w' w'.heap.size A n (vs p l) ∧ Below w.heap.size w w'
end Go.Proofs.YtpppggicihfbgaaGreat.Pol

/- Contracts of lcpopt's add, Good and Known. -/
namespace Go.Proofs.YtpppggicihfbgaaGreat.Lco
open Go.RowKit Go.Proofs.YtpppggicihfbgaaGreat.Oct Go.Proofs.YtpppggicihfbgaaGreat.Row Go.Proofs.YtpppggicihfbgaaGreat.Mem Go.Proofs.YtpppggicihfbgaaGreat.Opt

theorem boxA (w : World) (x : Lcp) (t : UInt8) (d : ByteArray) : ∃ W, ((w.alloc (.cells #[Value.bool x.hm, .int .u16 x.mru.toNat, .bool x.ha, .int .u32 x.accm.toNat, .int .u8 x.auth.toNat, .bool x.hg, .int .u32 x.magic.toNat, .bool x.pfc, .bool x.acfc] 42)).alloc (.cells #[.int .u8 t.toNat, .string d] 177)).alloc (.cells #[Value.bool false, .int .u16 0, .bool false, .int .u32 0, .int .u8 0, .bool false, .int .u32 0, .bool false, .bool false] 42) = W ∧ Hid (LAt W w.heap.size x ∧ At W (w.heap.size + 1) (t, d) ∧ LAt W (w.heap.size + 1 + 1) lz ∧ Below w.heap.size w W ∧ W.heap.size = w.heap.size + 1 + 1 + 1) := by
  refine ⟨_, rfl, ((lat_new w x).alloc _).alloc _, ?_, ?_, (((Below.refl w.heap.size w).alloc (Nat.le_refl _) _).alloc (by simp) _).alloc (by simp <;> omega) _, by simp⟩
  · have := (at_new (w.alloc (.cells (lv x).toArray 42)) t d).alloc (.cells #[Value.bool false, .int .u16 0, .bool false, .int .u32 0, .int .u8 0, .bool false, .int .u32 0, .bool false, .bool false] 42)
    rw [show (w.alloc (.cells (lv x).toArray 42)).heap.size = w.heap.size + 1 by simp] at this
    exact this
  · have := lat_new ((w.alloc (.cells (lv x).toArray 42)).alloc (.cells #[.int .u8 t.toNat, .string d] 177)) lz
    rw [show ((w.alloc (.cells (lv x).toArray 42)).alloc (.cells #[.int .u8 t.toNat, .string d] 177)).heap.size = w.heap.size + 1 + 1 by simp] at this
    exact this
theorem boxM (W : World) (v0 v1 : Value) : ∃ V, W.alloc (.cells #[v0, v1] 255) = V ∧ Hid (Blk V W.heap.size [v0, v1] 255 ∧ Below W.heap.size W V) :=
  ⟨_, rfl, blk_new W [v0, v1] _, (Below.refl W.heap.size W).alloc (Nat.le_refl _) _⟩
theorem zall {W : World} {g : Nat} (h : LAt W g lz) : W.cell? ⟨g, 0, none⟩ = some (Value.bool false) ∧ W.cell? ⟨g, 1, none⟩ = some (.int .u16 0) ∧ W.cell? ⟨g, 2, none⟩ = some (.bool false) ∧ W.cell? ⟨g, 3, none⟩ = some (.int .u32 0) ∧ W.cell? ⟨g, 4, none⟩ = some (.int .u8 0) ∧ W.cell? ⟨g, 5, none⟩ = some (.bool false) ∧ W.cell? ⟨g, 6, none⟩ = some (.int .u32 0) ∧ W.cell? ⟨g, 7, none⟩ = some (.bool false) ∧ W.cell? ⟨g, 8, none⟩ = some (.bool false) ∧ W.frozen? ⟨g, 0, none⟩ = false ∧ W.frozen? ⟨g, 1, none⟩ = false ∧ W.frozen? ⟨g, 2, none⟩ = false ∧ W.frozen? ⟨g, 3, none⟩ = false ∧ W.frozen? ⟨g, 4, none⟩ = false ∧ W.frozen? ⟨g, 5, none⟩ = false ∧ W.frozen? ⟨g, 6, none⟩ = false ∧ W.frozen? ⟨g, 7, none⟩ = false ∧ W.frozen? ⟨g, 8, none⟩ = false := ⟨h.c 0, h.c 1, h.c 2, h.c 3, h.c 4, h.c 5, h.c 6, h.c 7, h.c 8, h.f 0, h.f 1, h.f 2, h.f 3, h.f 4, h.f 5, h.f 6, h.f 7, h.f 8⟩
theorem not_known {t : UInt8} {d : ByteArray} (h : known t = false) : good (t, d) = false := by
  rw [Bool.eq_false_iff]
  intro e
  rw [show known t = true from good_known e] at h
  cases h
set_option maxHeartbeats 4000000 in
set_option maxRecDepth 100000 in
theorem add_any (x : Lcp) (t : UInt8) (d : ByteArray) (m : Nat) (w : World) (hm : Mp w m) (hd : d.size ≤ maxLen) : Calls Tryz.prog 142 #[.agg (lv x).toArray, .agg #[.int .u8 t.toNat, .string d], .map (some m)] w (ReadQ (t, d) x w) := by
  show Calls Tryz.prog 142 #[.agg #[Value.bool x.hm, .int .u16 x.mru.toNat, .bool x.ha, .int .u32 x.accm.toNat, .int .u8 x.auth.toNat, .bool x.hg, .int .u32 x.magic.toNat, .bool x.pfc, .bool x.acfc], .agg #[.int .u8 t.toNat, .string d], .map (some m)] w (ReadQ (t, d) x w)
  obtain ⟨W, hW, HW⟩ := boxA w x t d
  have HM := Lib.hid (hm.below HW.out.2.2.2.1 hm.lt); clear hm
  have c0 : W.cell? ⟨w.heap.size, 0, none⟩ = some (Value.bool x.hm) := HW.out.1.c 0
  have c1 : W.cell? ⟨w.heap.size, 1, none⟩ = some (.int .u16 x.mru.toNat) := HW.out.1.c 1
  have c2 : W.cell? ⟨w.heap.size, 2, none⟩ = some (.bool x.ha) := HW.out.1.c 2
  have c3 : W.cell? ⟨w.heap.size, 3, none⟩ = some (.int .u32 x.accm.toNat) := HW.out.1.c 3
  have c4 : W.cell? ⟨w.heap.size, 4, none⟩ = some (.int .u8 x.auth.toNat) := HW.out.1.c 4
  have c5 : W.cell? ⟨w.heap.size, 5, none⟩ = some (.bool x.hg) := HW.out.1.c 5
  have c6 : W.cell? ⟨w.heap.size, 6, none⟩ = some (.int .u32 x.magic.toNat) := HW.out.1.c 6
  have c7 : W.cell? ⟨w.heap.size, 7, none⟩ = some (.bool x.pfc) := HW.out.1.c 7
  have c8 : W.cell? ⟨w.heap.size, 8, none⟩ = some (.bool x.acfc) := HW.out.1.c 8
  have o0 : W.cell? ⟨w.heap.size + 1, 0, none⟩ = some (.int .u8 t.toNat) := HW.out.2.1.c0
  have o1 : W.cell? ⟨w.heap.size + 1, 1, none⟩ = some (.string d) := HW.out.2.1.c1
  have hsz := HW.out.2.2.2.2
  cases ht : known t
  · have hl := look_no ht HM.out
    have HG := Lib.hid (not_known (d := d) ht)
    obtain ⟨V, hV, HV⟩ := boxM W .nilFunc .nilFunc
    subst hV
    have HB := Lib.hid (HW.out.2.2.2.1.trans (HV.out.2.mono (Nat.le_trans HW.out.2.2.2.1.size (Nat.le_refl _))))
    have HZ := Lib.hid (HW.out.2.2.1.callee HV.out.2)
    have z0 : (W.alloc (.cells #[.nilFunc, .nilFunc] 255)).cell? ⟨w.heap.size + 1 + 1, 0, none⟩ = some (Value.bool false) := HZ.out.c 0
    have g0 := HZ.out.f 0
    have z1 : (W.alloc (.cells #[.nilFunc, .nilFunc] 255)).cell? ⟨w.heap.size + 1 + 1, 1, none⟩ = some (.int .u16 0) := HZ.out.c 1
    have g1 := HZ.out.f 1
    have z2 : (W.alloc (.cells #[.nilFunc, .nilFunc] 255)).cell? ⟨w.heap.size + 1 + 1, 2, none⟩ = some (.bool false) := HZ.out.c 2
    have g2 := HZ.out.f 2
    have z3 : (W.alloc (.cells #[.nilFunc, .nilFunc] 255)).cell? ⟨w.heap.size + 1 + 1, 3, none⟩ = some (.int .u32 0) := HZ.out.c 3
    have g3 := HZ.out.f 3
    have z4 : (W.alloc (.cells #[.nilFunc, .nilFunc] 255)).cell? ⟨w.heap.size + 1 + 1, 4, none⟩ = some (.int .u8 0) := HZ.out.c 4
    have g4 := HZ.out.f 4
    have z5 : (W.alloc (.cells #[.nilFunc, .nilFunc] 255)).cell? ⟨w.heap.size + 1 + 1, 5, none⟩ = some (.bool false) := HZ.out.c 5
    have g5 := HZ.out.f 5
    have z6 : (W.alloc (.cells #[.nilFunc, .nilFunc] 255)).cell? ⟨w.heap.size + 1 + 1, 6, none⟩ = some (.int .u32 0) := HZ.out.c 6
    have g6 := HZ.out.f 6
    have z7 : (W.alloc (.cells #[.nilFunc, .nilFunc] 255)).cell? ⟨w.heap.size + 1 + 1, 7, none⟩ = some (.bool false) := HZ.out.c 7
    have g7 := HZ.out.f 7
    have z8 : (W.alloc (.cells #[.nilFunc, .nilFunc] 255)).cell? ⟨w.heap.size + 1 + 1, 8, none⟩ = some (.bool false) := HZ.out.c 8
    have g8 := HZ.out.f 8
    clear ht hsz
    go_enter Tryz.func142, Tryz.ntmps142
    go_wp2
    have HR := setL_blk (y := lz) HZ.out
    have HBe := setL_below HB.out HB.out.size (g := w.heap.size + 1 + 1) (by omega) (lv lz)
    (try simp only [Exit.inBlock, Exit.then])
    refine bodyPost_ret (results_row1 rfl _ _ (w.heap.size + 1 + 1) (lv lz) _ _ rfl HR Tryz.underlying42 rfl (by kernel_rfl)) rfl ?_
    exact ⟨lz, by rw [HG.out]; rfl, fun e => (by rw [HG.out] at e; cases e), HBe⟩
  · have hl := look_yes ht true HM.out
    have HR := Lib.hid (fun w => read_any ht d x w hd)
    have hR := read_enters ht
    simp only [pair, if_true] at hl
    generalize fnR t = R at *
    generalize fnD t = D at *
    obtain ⟨V, hV, HV⟩ := boxM W (.func (.func D) #[] #[]) (.func (.func R) #[] #[])
    have HB : Hid (Below w.heap.size w V) := HW.out.2.2.2.1.trans (HV.out.2.mono (by omega))
    have HZ : Hid (LAt V (w.heap.size + 1 + 1) lz) := HW.out.2.2.1.callee HV.out.2
    have HX : Hid (LAt V w.heap.size x) := HW.out.1.callee HV.out.2
    have HO : Hid (At V (w.heap.size + 1) (t, d)) := HW.out.2.1.callee HV.out.2
    have m0 : V.cell? ⟨W.heap.size, 1, none⟩ = some (.func (.func R) #[] #[]) := Blk.at_ HV.out.1 1
    have p1 : V.cell? ⟨w.heap.size + 1, 1, none⟩ = some (.string d) := HO.out.c1
    have x0 : V.cell? ⟨w.heap.size, 0, none⟩ = some (Value.bool x.hm) := HX.out.c 0
    have x1 : V.cell? ⟨w.heap.size, 1, none⟩ = some (.int .u16 x.mru.toNat) := HX.out.c 1
    have x2 : V.cell? ⟨w.heap.size, 2, none⟩ = some (.bool x.ha) := HX.out.c 2
    have x3 : V.cell? ⟨w.heap.size, 3, none⟩ = some (.int .u32 x.accm.toNat) := HX.out.c 3
    have x4 : V.cell? ⟨w.heap.size, 4, none⟩ = some (.int .u8 x.auth.toNat) := HX.out.c 4
    have x5 : V.cell? ⟨w.heap.size, 5, none⟩ = some (.bool x.hg) := HX.out.c 5
    have x6 : V.cell? ⟨w.heap.size, 6, none⟩ = some (.int .u32 x.magic.toNat) := HX.out.c 6
    have x7 : V.cell? ⟨w.heap.size, 7, none⟩ = some (.bool x.pfc) := HX.out.c 7
    have x8 : V.cell? ⟨w.heap.size, 8, none⟩ = some (.bool x.acfc) := HX.out.c 8
    clear ht hsz
    go_enter Tryz.func142, Tryz.ntmps142
    go_wp2_with fail
    refine (HR.out _).mono ?_
    rintro e w6 ⟨y, rfl, hy, hb6⟩
    have HY := Lib.hid hy
    have HB6 := Lib.hid (HB.out.trans (hb6.mono HB.out.size))
    have HZ6 := Lib.hid (HZ.out.callee hb6)
    clear hV hy hb6 hR hl HR m0 p1 HX HO HV HB HZ HM c0 c1 c2 c3 c4 c5 c6 c7 c8 o0 o1 x0 x1 x2 x3 x4 x5 x6 x7 x8
    unfold lv
    have z0 : w6.cell? ⟨w.heap.size + 1 + 1, 0, none⟩ = some (Value.bool false) := HZ6.out.c 0
    have g0 := HZ6.out.f 0
    have z1 : w6.cell? ⟨w.heap.size + 1 + 1, 1, none⟩ = some (.int .u16 0) := HZ6.out.c 1
    have g1 := HZ6.out.f 1
    have z2 : w6.cell? ⟨w.heap.size + 1 + 1, 2, none⟩ = some (.bool false) := HZ6.out.c 2
    have g2 := HZ6.out.f 2
    have z3 : w6.cell? ⟨w.heap.size + 1 + 1, 3, none⟩ = some (.int .u32 0) := HZ6.out.c 3
    have g3 := HZ6.out.f 3
    have z4 : w6.cell? ⟨w.heap.size + 1 + 1, 4, none⟩ = some (.int .u8 0) := HZ6.out.c 4
    have g4 := HZ6.out.f 4
    have z5 : w6.cell? ⟨w.heap.size + 1 + 1, 5, none⟩ = some (.bool false) := HZ6.out.c 5
    have g5 := HZ6.out.f 5
    have z6 : w6.cell? ⟨w.heap.size + 1 + 1, 6, none⟩ = some (.int .u32 0) := HZ6.out.c 6
    have g6 := HZ6.out.f 6
    have z7 : w6.cell? ⟨w.heap.size + 1 + 1, 7, none⟩ = some (.bool false) := HZ6.out.c 7
    have g7 := HZ6.out.f 7
    have z8 : w6.cell? ⟨w.heap.size + 1 + 1, 8, none⟩ = some (.bool false) := HZ6.out.c 8
    have g8 := HZ6.out.f 8
    go_wp2
    have HR := setL_blk (y := y) HZ6.out
    have HBe := setL_below HB6.out HB6.out.size (g := w.heap.size + 1 + 1) (by omega) (lv y)
    (try simp only [Exit.inBlock, Exit.then])
    refine bodyPost_ret (results_row1 rfl _ _ (w.heap.size + 1 + 1) (lv y) _ _ rfl HR Tryz.underlying42 rfl (by kernel_rfl)) rfl ?_
    exact ⟨y, rfl, HY.out, HBe⟩
end Go.Proofs.YtpppggicihfbgaaGreat.Lco

/- Contracts of lcpopt's Good and Known. -/
namespace Go.Proofs.YtpppggicihfbgaaGreat.Lco
open Go.RowKit Go.Proofs.YtpppggicihfbgaaGreat.Oct Go.Proofs.YtpppggicihfbgaaGreat.Row Go.Proofs.YtpppggicihfbgaaGreat.Mem Go.Proofs.YtpppggicihfbgaaGreat.Opt


set_option maxHeartbeats 2000000 in
set_option maxRecDepth 100000 in
theorem good_any (t : UInt8) (d : ByteArray) (w : World) (hd : d.size ≤ maxLen) : Calls Tryz.prog 164 #[.agg #[.int .u8 t.toNat, .string d]] w fun e w' => e = .returned (.bool (good (t, d))) ∧ Below w.heap.size w w' := by
  obtain ⟨W, hW, HW⟩ : ∃ W, w.alloc (.cells #[.int .u8 t.toNat, .string d] 177) = W ∧ Hid (At W w.heap.size (t, d) ∧ Below w.heap.size w W) := ⟨_, rfl, at_new w t d, (Below.refl w.heap.size w).alloc (Nat.le_refl _) _⟩
  have HB := Lib.hid HW.out.2
  have C1 := Lib.hid (fun W => meanings_m W)
  have C2 := Lib.hid (fun m W hm => add_any lz t d m W hm hd)
  have c0 : W.cell? ⟨w.heap.size, 0, none⟩ = some (.int .u8 t.toNat) := HW.out.1.c0
  have c1 : W.cell? ⟨w.heap.size, 1, none⟩ = some (.string d) := HW.out.1.c1
  go_enter Tryz.func164, Tryz.ntmps164
  go_wp2
  clear hW
  have d0 : W.drew.cell? ⟨w.heap.size, 0, none⟩ = some (.int .u8 t.toNat) := c0
  have d1 : W.drew.cell? ⟨w.heap.size, 1, none⟩ = some (.string d) := c1
  have HO := Lib.hid HW.out.1
  have s0 : w.heap.size < W.heap.size := Blk.lt HW.out.1
  clear HW
  go_region_with (first
    | (go_at_call 141; refine (C1.out _).mono ?_; rintro e w1 ⟨m, rfl, hm1, hb1⟩; have HZ1 := Lib.hid (LAt.callee (W := (W.alloc (.cells #[Value.bool false, .int .u16 0, .bool false, .int .u32 0, .int .u8 0, .bool false, .int .u32 0, .bool false, .bool false] 42)).drew) (lat_new W lz) hb1); have p0 : w1.cell? ⟨w.heap.size, 0, none⟩ = some (.int .u8 t.toNat) := (At.callee (W := (W.alloc (.cells #[Value.bool false, .int .u16 0, .bool false, .int .u32 0, .int .u8 0, .bool false, .int .u32 0, .bool false, .bool false] 42)).drew) (HO.out.alloc _) hb1).c0; have s1 : w.heap.size < w1.heap.size := Blk.lt (At.callee (W := (W.alloc (.cells #[Value.bool false, .int .u16 0, .bool false, .int .u32 0, .int .u8 0, .bool false, .int .u32 0, .bool false, .bool false] 42)).drew) (HO.out.alloc _) hb1); have p1 : w1.cell? ⟨w.heap.size, 1, none⟩ = some (.string d) := (At.callee (W := (W.alloc (.cells #[Value.bool false, .int .u16 0, .bool false, .int .u32 0, .int .u8 0, .bool false, .int .u32 0, .bool false, .bool false] 42)).drew) (HO.out.alloc _) hb1).c1; have HB1 : Hid (Below w.heap.size w w1) := ((HB.out.alloc HB.out.size _).drew).trans (hb1.mono ((HB.out.alloc HB.out.size _).drew).size); have HM1 := Lib.hid hm1; clear C1 hm1 hb1)
    | (go_at_call 141; refine (C1.out _).mono ?_; rintro e w1 ⟨m, rfl, hm1, hb1⟩; have p0 : w1.cell? ⟨w.heap.size, 0, none⟩ = some (.int .u8 t.toNat) := (At.callee (W := W.drew) HO.out hb1).c0; have s1 : w.heap.size < w1.heap.size := Blk.lt (At.callee (W := W.drew) HO.out hb1); have p1 : w1.cell? ⟨w.heap.size, 1, none⟩ = some (.string d) := (At.callee (W := W.drew) HO.out hb1).c1; have HB1 : Hid (Below w.heap.size w w1) := HB.out.drew.trans (hb1.mono HB.out.drew.size); have HM1 := Lib.hid hm1; clear C1 hm1 hb1)
    | (go_at_call 142; refine (C2.out _ _ HM1.out).mono ?_; rintro e w2 ⟨y, rfl, hy, hb2⟩; have HZ2 := Lib.hid (HZ1.out.callee hb2); obtain ⟨z0, z1, z2, z3, z4, z5, z6, z7, z8, g0, g1, g2, g3, g4, g5, g6, g7, g8⟩ := zall HZ2.out; have HB2 : Hid (Below w.heap.size w w2) := HB1.out.trans (hb2.mono HB1.out.size); clear hb2 hy C2 HM1; unfold lv)
    | (go_at_call 142; refine (C2.out _ _ HM1.out).mono ?_; rintro e w2 ⟨y, rfl, hy, hb2⟩; have HB2 : Hid (Below w.heap.size w w2) := HB1.out.trans (hb2.mono HB1.out.size); clear hb2 hy C2 HM1; unfold lv)
    | (go_at_call 142; refine (C2.out _ _ (HM1.out.alloc _)).mono ?_; rintro e w2 ⟨y, rfl, hy, hb2⟩; have HZ2 := Lib.hid (LAt.callee (W := w1.alloc (.cells #[Value.bool false, .int .u16 0, .bool false, .int .u32 0, .int .u8 0, .bool false, .int .u32 0, .bool false, .bool false] 42)) (lat_new w1 lz) hb2); obtain ⟨z0, z1, z2, z3, z4, z5, z6, z7, z8, g0, g1, g2, g3, g4, g5, g6, g7, g8⟩ := zall HZ2.out; have HB2 : Hid (Below w.heap.size w w2) := (HB1.out.alloc HB1.out.size _).trans (hb2.mono (HB1.out.alloc HB1.out.size _).size); clear hb2 hy C2 HM1; unfold lv)
    | fail)
  all_goals have HS2 := HB2.out.size
  all_goals go_wp2
  all_goals go_ret
  all_goals refine ⟨rfl, ?_⟩
  all_goals first
    | with_reducible exact HB2.out.alloc HS2 _
    | with_reducible exact ((((((((HB2.out.setCell (by first | exact HS2 | exact Nat.le_of_lt s0 | exact Nat.le_of_lt s1) _).setCell (by first | exact HS2 | exact Nat.le_of_lt s0 | exact Nat.le_of_lt s1) _).setCell (by first | exact HS2 | exact Nat.le_of_lt s0 | exact Nat.le_of_lt s1) _).setCell (by first | exact HS2 | exact Nat.le_of_lt s0 | exact Nat.le_of_lt s1) _).setCell (by first | exact HS2 | exact Nat.le_of_lt s0 | exact Nat.le_of_lt s1) _).setCell (by first | exact HS2 | exact Nat.le_of_lt s0 | exact Nat.le_of_lt s1) _).setCell (by first | exact HS2 | exact Nat.le_of_lt s0 | exact Nat.le_of_lt s1) _).setCell (by first | exact HS2 | exact Nat.le_of_lt s0 | exact Nat.le_of_lt s1) _).setCell (by first | exact HS2 | exact Nat.le_of_lt s0 | exact Nat.le_of_lt s1) _
end Go.Proofs.YtpppggicihfbgaaGreat.Lco
