/- The map of what is said of each option: how it is made, looked up. -/
import Derived.Test.YtcncmddhjbnggaaGreatG2
import Derived.Test.YtcncmddhjbnggaaGreatLcoC
import Derived.Laws.EntriesVeiled
namespace Go.Proofs.YtcncmddhjbnggaaGreat.Pol
open Go.RowKit Go.Proofs.YtcncmddhjbnggaaGreat.Oct Go.Proofs.YtcncmddhjbnggaaGreat.Row Go.Proofs.YtcncmddhjbnggaaGreat.Mem Go.Proofs.YtcncmddhjbnggaaGreat.Opt Go.Proofs.YtcncmddhjbnggaaGreat.Lco Go.ChangeMaps

/-- The functions at a type. -/
def fB (t : UInt8) : Nat := if t = 1 then 68 else if t = 2 then 71 else if t = 3 then 74 else if t = 5 then 77 else if t = 7 then 71 else 71
def fN (t : UInt8) : Nat := if t = 1 then 69 else if t = 2 then 72 else if t = 3 then 75 else if t = 5 then 78 else if t = 7 then 81 else 83
def fX (t : UInt8) : Nat := if t = 1 then 70 else if t = 2 then 73 else if t = 3 then 76 else if t = 5 then 80 else if t = 7 then 82 else 84
theorem bet_any {t : UInt8} (ht : known t = true) (g : Nat) (p : Po) (x : Lcp) (w : World) (h : PAt w g p) : Calls Tryz.prog (fB t) #[.pointer (some ⟨g, 0, none⟩), .agg (lv x).toArray] w (BetQ (bet p t x) w) := by
  rcases known_cases ht with e | e | e | e | e | e <;> subst e
  · exact bet_mru _ p x w
  · exact good_bet _ x w
  · exact bet_auth g p x w h
  · exact bet_magic g p x w h
  · exact good_bet _ x w
  · exact good_bet _ x w
theorem fB_enters {t : UInt8} (ht : known t = true) : ∀ args w, (callFunc (fB t) args).run Tryz.prog w = .ok (.enter (fB t) args) w := by
  rcases known_cases ht with e | e | e | e | e | e <;> subst e
  · exact enters_of Tryz.func68 (by kernel_rfl) rfl
  · exact enters_of Tryz.func71 (by kernel_rfl) rfl
  · exact enters_of Tryz.func74 (by kernel_rfl) rfl
  · exact enters_of Tryz.func77 (by kernel_rfl) rfl
  · exact enters_of Tryz.func71 (by kernel_rfl) rfl
  · exact enters_of Tryz.func71 (by kernel_rfl) rfl
theorem fN_enters {t : UInt8} (ht : known t = true) : ∀ args w, (callFunc (fN t) args).run Tryz.prog w = .ok (.enter (fN t) args) w := by
  rcases known_cases ht with e | e | e | e | e | e <;> subst e
  · exact enters_of Tryz.func69 (by kernel_rfl) rfl
  · exact enters_of Tryz.func72 (by kernel_rfl) rfl
  · exact enters_of Tryz.func75 (by kernel_rfl) rfl
  · exact enters_of Tryz.func78 (by kernel_rfl) rfl
  · exact enters_of Tryz.func81 (by kernel_rfl) rfl
  · exact enters_of Tryz.func83 (by kernel_rfl) rfl
theorem fX_enters {t : UInt8} (ht : known t = true) : ∀ args w, (callFunc (fX t) args).run Tryz.prog w = .ok (.enter (fX t) args) w := by
  rcases known_cases ht with e | e | e | e | e | e <;> subst e
  · exact enters_of Tryz.func70 (by kernel_rfl) rfl
  · exact enters_of Tryz.func73 (by kernel_rfl) rfl
  · exact enters_of Tryz.func76 (by kernel_rfl) rfl
  · exact enters_of Tryz.func80 (by kernel_rfl) rfl
  · exact enters_of Tryz.func82 (by kernel_rfl) rfl
  · exact enters_of Tryz.func84 (by kernel_rfl) rfl
def trip (t : UInt8) : Value := .agg #[.func (.func (fB t)) #[] #[], .func (.func (fN t)) #[] #[], .func (.func (fX t)) #[] #[]]
/-- The map's entries. -/
def sents : Array MapEntry := #[⟨.int .u8 1, trip 1, 0⟩, ⟨.int .u8 2, trip 2, 1⟩, ⟨.int .u8 3, trip 3, 2⟩, ⟨.int .u8 5, trip 5, 3⟩, ⟨.int .u8 7, trip 7, 4⟩, ⟨.int .u8 8, trip 8, 5⟩]
/-- The map lies in block m. -/
def Sy (W : World) (m : Nat) : Prop := W.heap[m]? = some (.map sents 6)
theorem Sy.lt {W : World} {m : Nat} (h : Sy W m) : m < W.heap.size := (Array.getElem?_eq_some_iff.1 h).1
theorem Sy.below {W W' : World} {m n : Nat} (h : Sy W m) (hb : Below n W W') (hm : m < n) : Sy W' m := (hb.block m hm).trans h
theorem Sy.callee {W W' : World} {m : Nat} (h : Sy W m) (hb : Below W.heap.size W W') : Sy W' m := h.below hb h.lt
theorem Sy.alloc {W : World} {m : Nat} (h : Sy W m) (o : Obj) : Sy (W.alloc o) m := (Below.heap_alloc W o m h.lt).trans h
theorem Sy.moves {S : Nat → Prop} {W W' : World} {m : Nat} (h : Sy W m) (hm : Moves S W W') (hs : ¬ S m) : Sy W' m := (hm.block m h.lt hs).trans h
theorem sy_blk {W : World} {m g : Nat} {cs : List Value} {t : TypeId} (h : Sy W m) (h2 : Blk W g cs t) : m ≠ g := by
  rintro rfl
  have h1 : W.heap[m]? = _ := h
  have h3 : W.heap[m]? = _ := h2
  rw [h1] at h3
  cases h3
theorem run_lay3 {w W : World} {m c : Nat} {es : Array MapEntry} (n : Int) (v : Value) (h : W = w.alloc (.map es c)) (hm : m = w.heap.size) (hn : ∀ e ∈ es.toList, ∃ k, e.key = .int .u8 k ∧ (n == k) = false) :
    ∃ W', (Instr.mapUpdate 79 (.map (some m)) (.int .u8 n) v).run Tryz.prog W = .ok () W' ∧ W' = w.alloc (.map (es.push ⟨.int .u8 n, v, c⟩) (c + 1)) := by
  subst h hm
  refine ⟨_, ?_, rfl⟩
  have hb := (MapKept.heap_alloc w (.map es c)).1
  have h1 := run_underlying (w := w.alloc (.map es c)) Tryz.underlying5
  have h2 := run_underlying (w := w.alloc (.map es c)) Tryz.underlying79
  have h3 := run_key (w.alloc (.map es c)) false n
  have h4 := MapKept.run_setObj_map (P := Tryz.prog) (.map (es.push ⟨.int .u8 n, v, c⟩) (c + 1)) hb
  have e : { w.alloc (.map es c) with heap := (w.alloc (.map es c)).heap.setIfInBounds w.heap.size (.map (es.push ⟨.int .u8 n, v, c⟩) (c + 1)) } = w.alloc (.map (es.push ⟨.int .u8 n, v, c⟩) (c + 1)) :=
    congrArg (fun h : Array Obj => { w with heap := h }) (push_set w.heap (.map es c) (.map (es.push ⟨.int .u8 n, v, c⟩) (c + 1)))
  rw [e] at h4
  simp [Instr.mapUpdate, h2, MapKept.run_getObj_map hb, h3, Instr.findKey, h1, find_no n es.toList 0 hn, h4, Result.andThen]
set_option maxHeartbeats 2000000 in
set_option maxRecDepth 100000 in
theorem sayings_any (w : World) : Calls Tryz.prog 40 #[] w fun e w' => ∃ m, e = .returned (.map (some m)) ∧ w.heap.size ≤ m ∧ Sy w' m ∧ Below w.heap.size w w' := by
  have hmm := @run_makeMap Tryz.prog
  obtain ⟨W1, h1, e1⟩ := run_lay3 (w := w) (c := 0) (es := #[]) 1 (trip 1) rfl rfl (by intro e he; simp at he)
  obtain ⟨W2, h2, e2⟩ := run_lay3 (w := w) 2 (trip 2) e1 rfl (by intro e he; simp at he; subst he; exact ⟨1, rfl, rfl⟩)
  obtain ⟨W3, h3, e3⟩ := run_lay3 (w := w) 3 (trip 3) e2 rfl (by intro e he; simp at he; rcases he with rfl | rfl; exact ⟨1, rfl, rfl⟩; exact ⟨2, rfl, rfl⟩)
  obtain ⟨W4, h4, e4⟩ := run_lay3 (w := w) 5 (trip 5) e3 rfl (by intro e he; simp at he; rcases he with rfl | rfl | rfl; exact ⟨1, rfl, rfl⟩; exact ⟨2, rfl, rfl⟩; exact ⟨3, rfl, rfl⟩)
  obtain ⟨W5, h5, e5⟩ := run_lay3 (w := w) 7 (trip 7) e4 rfl (by intro e he; simp at he; rcases he with rfl | rfl | rfl | rfl; exact ⟨1, rfl, rfl⟩; exact ⟨2, rfl, rfl⟩; exact ⟨3, rfl, rfl⟩; exact ⟨5, rfl, rfl⟩)
  obtain ⟨W6, h6, e6⟩ := run_lay3 (w := w) 8 (trip 8) e5 rfl (by intro e he; simp at he; rcases he with rfl | rfl | rfl | rfl | rfl; exact ⟨1, rfl, rfl⟩; exact ⟨2, rfl, rfl⟩; exact ⟨3, rfl, rfl⟩; exact ⟨5, rfl, rfl⟩; exact ⟨7, rfl, rfl⟩)
  have H : Hid (Sy W6 w.heap.size ∧ Below w.heap.size w W6) := by
    subst e6
    exact ⟨(MapKept.heap_alloc w _).1, (Below.refl _ _).alloc (Nat.le_refl _) _⟩
  clear e1 e2 e3 e4 e5 e6
  simp only [trip, fB, fN, fX] at h1 h2 h3 h4 h5 h6
  simp only [if_true, if_false, show ¬ (2 : UInt8) = 1 by decide, show ¬ (3 : UInt8) = 1 by decide, show ¬ (3 : UInt8) = 2 by decide, show ¬ (5 : UInt8) = 1 by decide, show ¬ (5 : UInt8) = 2 by decide, show ¬ (5 : UInt8) = 3 by decide, show ¬ (7 : UInt8) = 1 by decide, show ¬ (7 : UInt8) = 2 by decide, show ¬ (7 : UInt8) = 3 by decide, show ¬ (7 : UInt8) = 5 by decide, show ¬ (8 : UInt8) = 1 by decide, show ¬ (8 : UInt8) = 2 by decide, show ¬ (8 : UInt8) = 3 by decide, show ¬ (8 : UInt8) = 5 by decide, show ¬ (8 : UInt8) = 7 by decide] at h1 h2 h3 h4 h5 h6
  go_enter Tryz.func40, Tryz.ntmps40
  go_wp2
  go_ret
  exact ⟨_, rfl, Nat.le_refl _, H.out⟩

/-! ### looking up -/
theorem sents_mem {e : MapEntry} (h : e ∈ sents.toList) : ∃ t, known t = true ∧ e.key = .int .u8 (t.toNat : Nat) ∧ e.val = trip t := by
  simp only [sents, List.mem_cons, List.not_mem_nil, or_false] at h
  rcases h with rfl | rfl | rfl | rfl | rfl | rfl
  · exact ⟨1, rfl, rfl, rfl⟩
  · exact ⟨2, rfl, rfl, rfl⟩
  · exact ⟨3, rfl, rfl, rfl⟩
  · exact ⟨5, rfl, rfl, rfl⟩
  · exact ⟨7, rfl, rfl, rfl⟩
  · exact ⟨8, rfl, rfl, rfl⟩
theorem mem_sents {t : UInt8} (h : known t = true) : ∃ e ∈ sents.toList, e.key = .int .u8 (t.toNat : Nat) := by
  rcases known_cases h with e | e | e | e | e | e <;> subst e
  · exact ⟨⟨.int .u8 1, trip 1, 0⟩, by simp [sents], rfl⟩
  · exact ⟨⟨.int .u8 2, trip 2, 1⟩, by simp [sents], rfl⟩
  · exact ⟨⟨.int .u8 3, trip 3, 2⟩, by simp [sents], rfl⟩
  · exact ⟨⟨.int .u8 5, trip 5, 3⟩, by simp [sents], rfl⟩
  · exact ⟨⟨.int .u8 7, trip 7, 4⟩, by simp [sents], rfl⟩
  · exact ⟨⟨.int .u8 8, trip 8, 5⟩, by simp [sents], rfl⟩
theorem say_look {t : UInt8} (ht : known t = true) {W : World} {m : Nat} (h : Sy W m) :
    (Instr.lookup 79 (.map (some m)) (.int .u8 t.toNat) false).run Tryz.prog W = .ok (trip t) W := by
  have h1 := run_underlying (w := W) Tryz.underlying5
  have h2 := run_underlying (w := W) Tryz.underlying79
  have h3 := run_key W sents.isEmpty t.toNat
  obtain ⟨j, hj⟩ := find_yes t.toNat (trip t) sents.toList 0 (fun e he => by obtain ⟨u, _, hk, _⟩ := sents_mem he; exact ⟨_, hk⟩) (mem_sents ht) (fun e he hk => by
    obtain ⟨u, _, hk', hv⟩ := sents_mem he
    rw [hv, u8_key (hk.symm.trans hk')])
  have hb : W.heap[m]? = some (.map sents 6) := h
  simp [Instr.lookup, h2, MapKept.run_getObj_map hb, h3, Instr.findKey, h1, hj, Result.andThen]
end Go.Proofs.YtcncmddhjbnggaaGreat.Pol
