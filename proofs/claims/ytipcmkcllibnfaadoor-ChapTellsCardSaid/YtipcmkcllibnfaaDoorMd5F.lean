/- Contracts of package md5's rounds, of the four functions that it makes, and of step. -/
import Derived.Test.YtipcmkcllibnfaaDoorMd5E
namespace Go.Proofs.YtipcmkcllibnfaaDoor.Md5
open Go.RowKit Go.Proofs.YtipcmkcllibnfaaDoor.Oct Go.Proofs.YtipcmkcllibnfaaDoor.Row Go.Proofs.YtipcmkcllibnfaaDoor.Mem

theorem umax : IntKind.u32.max = 4294967295 := by decide
def fnR (k n : Nat) : Value := .func (.func k) #[] #[.pointer (some ⟨n, 0, none⟩), .pointer (some ⟨n + 1, 0, none⟩)]
/-- What rounds lays: the pointer, the numbers, the four functions. -/
def RoundsIn (w : World) (n g : Nat) (x : Nat → Nat) : Prop :=
  Boxed w n 74 (.pointer (some ⟨g, 0, none⟩)) ∧ Tab16 w (n + 1) x ∧
  w.heap[n + 2]? = some (.cells #[fnR 56 n, fnR 57 n, fnR 58 n, fnR 59 n] 80 (0, 0))
theorem RoundsIn.kept {S : Nat → Prop} {w w' : World} {n g : Nat} {x : Nat → Nat} (h : RoundsIn w n g x) (hm : Moves S w w') (hs : ∀ k, n ≤ k → ¬ S k) : RoundsIn w' n g x := by
  obtain ⟨h0, h1, h2⟩ := h
  refine ⟨(hm.block n ?_ (hs n (Nat.le_refl _))).trans h0, (hm.block (n + 1) ?_ (hs _ (by omega))).trans h1, (hm.block (n + 2) ?_ (hs _ (by omega))).trans h2⟩
  · exact (Array.getElem?_eq_some_iff.1 h0).1
  · exact (Array.getElem?_eq_some_iff.1 h1).1
  · exact (Array.getElem?_eq_some_iff.1 h2).1
def RoundsP (g : Nat) (x : Nat → Nat) (w : World) (e : Ending) (w' : World) : Prop :=
  e = .returned (.slice (some ⟨w.heap.size + 2, 0, none⟩) 4 4) ∧ RoundsIn w' w.heap.size g x ∧ Below w.heap.size w w'
set_option maxHeartbeats 2000000 in
set_option maxRecDepth 100000 in
theorem rounds_any (g : Nat) (x : Nat → Nat) (w : World) :
    Calls Tryd.prog 48 #[.pointer (some ⟨g, 0, none⟩), .agg (arr16 x)] w (RoundsP g x w) := by
  go_enter Tryd.func48, Tryd.ntmps48
  go_wp2
  go_ret
  refine ⟨rfl, ⟨?_, ?_, ?_⟩, (((Below.refl _ w).alloc (Nat.le_refl _) _).alloc (by simp) _).alloc (by simp; omega) _⟩
  · exact ((Boxed.new w _ _).alloc _).alloc _
  · have h := World.alloc_heap_new (w.alloc (.cells #[.pointer (some ⟨g, 0, none⟩)] 74)) (.cells (arr16 x) 77)
    rw [World.size_alloc] at h
    exact (Below.heap_alloc _ _ _ (by simp)).trans h
  · have h := World.alloc_heap_new ((w.alloc (.cells #[.pointer (some ⟨g, 0, none⟩)] 74)).alloc (.cells (arr16 x) 77)) (.cells #[fnR 56 w.heap.size, fnR 57 w.heap.size, fnR 58 w.heap.size, fnR 59 w.heap.size] 80 (0, 0))
    rw [World.size_alloc, World.size_alloc] at h
    exact h

set_option maxHeartbeats 1000000 in
set_option maxRecDepth 100000 in
theorem clo1_any (i n g m : Nat) (s : W4) (buf : List UInt8) (x : Nat → Nat) (w : World) (h0 : 0 ≤ i) (h1 : i < 16) (hR : RoundsIn w n g x) (hH : Raw w g s buf m) (hs : Ok4 s) :
    Calls Tryd.prog 56 #[.int .i64 i, .pointer (some ⟨n, 0, none⟩), .pointer (some ⟨n + 1, 0, none⟩)] w fun e w' => e = .returned (.int .u32 (((mixf 0 s.b s.c s.d + x (place i)) % 4294967296 : Nat) : Int)) ∧ ∃ k, w' = w.drewN k := by
  have hp := place_0 i h1
  have hpl : place i ≤ 15 := by have := place_lt i (by omega); omega
  have hc0 := hR.1.cell
  have hcx := hR.2.1.cell (place i) (by omega)
  have hw1 := hH.word.2.1
  have hw2 := hH.word.2.2.1
  have hw3 := hH.word.2.2.2
  obtain ⟨a, b, c, d⟩ := s
  simp only at hw1 hw2 hw3 ⊢
  have HM := Lib.hid (mix0 b c d (by have := hs.2.1; simp only at this; omega) (by have := hs.2.2.1; simp only at this; omega) (by have := hs.2.2.2; simp only at this; omega))
  generalize x (place i) = v at *
  obtain ⟨p, hpp⟩ : ∃ p, place i = p := ⟨_, rfl⟩
  rw [hpp] at hp hpl hcx
  clear hpp hR hH hs
  have j0 : (0 : Int) ≤ i := by omega
  have j1 : (i : Int) < 16 := by omega
  have e1 : (i : Int) % 16 = (p : Int) := by omega
  have q0 : (0 : Int) ≤ p := by omega
  have q1 : (p : Int) < 16 := by omega
  have q2 : (p : Int) ≤ 15 := by omega
  have q3 : IntKind.i64.wrap (p : Int) = (p : Int) := IntWalk.i64_in _ (by omega)
  clear hp
  go_enter Tryd.func56, Tryd.ntmps56
  go_wp2
  go_quiet (fail)
  go_wp2
  (try rw [umax])
  rw [HM.out]
  go_ret
  exact ⟨congrArg (fun z => Ending.returned (Value.int .u32 z)) (by simp), _, rfl⟩

set_option maxHeartbeats 1000000 in
set_option maxRecDepth 100000 in
theorem clo2_any (i n g m : Nat) (s : W4) (buf : List UInt8) (x : Nat → Nat) (w : World) (h0 : 16 ≤ i) (h1 : i < 32) (hR : RoundsIn w n g x) (hH : Raw w g s buf m) (hs : Ok4 s) :
    Calls Tryd.prog 57 #[.int .i64 i, .pointer (some ⟨n, 0, none⟩), .pointer (some ⟨n + 1, 0, none⟩)] w fun e w' => e = .returned (.int .u32 (((mixf 1 s.b s.c s.d + x (place i)) % 4294967296 : Nat) : Int)) ∧ ∃ k, w' = w.drewN k := by
  have hp := place_1 i (by omega) h1
  have hpl : place i ≤ 15 := by have := place_lt i (by omega); omega
  have hc0 := hR.1.cell
  have hcx := hR.2.1.cell (place i) (by omega)
  have hw1 := hH.word.2.1
  have hw2 := hH.word.2.2.1
  have hw3 := hH.word.2.2.2
  obtain ⟨a, b, c, d⟩ := s
  simp only at hw1 hw2 hw3 ⊢
  have HM := Lib.hid (mix1 b c d (by have := hs.2.1; simp only at this; omega) (by have := hs.2.2.1; simp only at this; omega) (by have := hs.2.2.2; simp only at this; omega))
  generalize x (place i) = v at *
  obtain ⟨p, hpp⟩ : ∃ p, place i = p := ⟨_, rfl⟩
  rw [hpp] at hp hpl hcx
  clear hpp hR hH hs
  have j0 : (0 : Int) ≤ i := by omega
  have j1 : (i : Int) < 32 := by omega
  have e1 : IntKind.i64.wrap (5 * (i : Int)) = 5 * (i : Int) := IntWalk.i64_in _ (by omega)
  have e2 : IntKind.i64.wrap (5 * (i : Int) + 1) = 5 * (i : Int) + 1 := IntWalk.i64_in _ (by omega)
  have e3 : (5 * (i : Int) + 1) % 16 = (p : Int) := by omega
  have e4 : (0 : Int) ≤ 5 * (i : Int) + 1 := by omega
  have q0 : (0 : Int) ≤ p := by omega
  have q1 : (p : Int) < 16 := by omega
  have q2 : (p : Int) ≤ 15 := by omega
  have q3 : IntKind.i64.wrap (p : Int) = (p : Int) := IntWalk.i64_in _ (by omega)
  clear hp
  go_enter Tryd.func57, Tryd.ntmps57
  go_wp2
  go_quiet (fail)
  go_wp2
  (try rw [umax])
  rw [HM.out]
  go_ret
  exact ⟨congrArg (fun z => Ending.returned (Value.int .u32 z)) (by simp), _, rfl⟩

set_option maxHeartbeats 1000000 in
set_option maxRecDepth 100000 in
theorem clo3_any (i n g m : Nat) (s : W4) (buf : List UInt8) (x : Nat → Nat) (w : World) (h0 : 32 ≤ i) (h1 : i < 48) (hR : RoundsIn w n g x) (hH : Raw w g s buf m) (hs : Ok4 s) :
    Calls Tryd.prog 58 #[.int .i64 i, .pointer (some ⟨n, 0, none⟩), .pointer (some ⟨n + 1, 0, none⟩)] w fun e w' => e = .returned (.int .u32 (((mixf 2 s.b s.c s.d + x (place i)) % 4294967296 : Nat) : Int)) ∧ ∃ k, w' = w.drewN k := by
  have hp := place_2 i (by omega) h1
  have hpl : place i ≤ 15 := by have := place_lt i (by omega); omega
  have hc0 := hR.1.cell
  have hcx := hR.2.1.cell (place i) (by omega)
  have hw1 := hH.word.2.1
  have hw2 := hH.word.2.2.1
  have hw3 := hH.word.2.2.2
  obtain ⟨a, b, c, d⟩ := s
  simp only at hw1 hw2 hw3 ⊢
  have HM := Lib.hid (mix2 b c d (by have := hs.2.1; simp only at this; omega) (by have := hs.2.2.1; simp only at this; omega) (by have := hs.2.2.2; simp only at this; omega))
  generalize x (place i) = v at *
  obtain ⟨p, hpp⟩ : ∃ p, place i = p := ⟨_, rfl⟩
  rw [hpp] at hp hpl hcx
  clear hpp hR hH hs
  have j0 : (0 : Int) ≤ i := by omega
  have j1 : (i : Int) < 48 := by omega
  have e1 : IntKind.i64.wrap (3 * (i : Int)) = 3 * (i : Int) := IntWalk.i64_in _ (by omega)
  have e2 : IntKind.i64.wrap (3 * (i : Int) + 5) = 3 * (i : Int) + 5 := IntWalk.i64_in _ (by omega)
  have e3 : (3 * (i : Int) + 5) % 16 = (p : Int) := by omega
  have e4 : (0 : Int) ≤ 3 * (i : Int) + 5 := by omega
  have q0 : (0 : Int) ≤ p := by omega
  have q1 : (p : Int) < 16 := by omega
  have q2 : (p : Int) ≤ 15 := by omega
  have q3 : IntKind.i64.wrap (p : Int) = (p : Int) := IntWalk.i64_in _ (by omega)
  clear hp
  go_enter Tryd.func58, Tryd.ntmps58
  go_wp2
  go_quiet (fail)
  go_wp2
  (try rw [umax])
  rw [HM.out]
  go_ret
  exact ⟨congrArg (fun z => Ending.returned (Value.int .u32 z)) (by simp), _, rfl⟩

set_option maxHeartbeats 1000000 in
set_option maxRecDepth 100000 in
theorem clo4_any (i n g m : Nat) (s : W4) (buf : List UInt8) (x : Nat → Nat) (w : World) (h0 : 48 ≤ i) (h1 : i < 64) (hR : RoundsIn w n g x) (hH : Raw w g s buf m) (hs : Ok4 s) :
    Calls Tryd.prog 59 #[.int .i64 i, .pointer (some ⟨n, 0, none⟩), .pointer (some ⟨n + 1, 0, none⟩)] w fun e w' => e = .returned (.int .u32 (((mixf 3 s.b s.c s.d + x (place i)) % 4294967296 : Nat) : Int)) ∧ ∃ k, w' = w.drewN k := by
  have hp := place_3 i (by omega) h1
  have hpl : place i ≤ 15 := by have := place_lt i (by omega); omega
  have hc0 := hR.1.cell
  have hcx := hR.2.1.cell (place i) (by omega)
  have hw1 := hH.word.2.1
  have hw2 := hH.word.2.2.1
  have hw3 := hH.word.2.2.2
  obtain ⟨a, b, c, d⟩ := s
  simp only at hw1 hw2 hw3 ⊢
  have HM := Lib.hid (mix3 b c d (by have := hs.2.1; simp only at this; omega) (by have := hs.2.2.1; simp only at this; omega) (by have := hs.2.2.2; simp only at this; omega))
  generalize x (place i) = v at *
  obtain ⟨p, hpp⟩ : ∃ p, place i = p := ⟨_, rfl⟩
  rw [hpp] at hp hpl hcx
  clear hpp hR hH hs
  have j0 : (0 : Int) ≤ i := by omega
  have j1 : (i : Int) < 64 := by omega
  have e1 : IntKind.i64.wrap (7 * (i : Int)) = 7 * (i : Int) := IntWalk.i64_in _ (by omega)
  have e3 : (7 * (i : Int)) % 16 = (p : Int) := by omega
  have e4 : (0 : Int) ≤ 7 * (i : Int) := by omega
  have q0 : (0 : Int) ≤ p := by omega
  have q1 : (p : Int) < 16 := by omega
  have q2 : (p : Int) ≤ 15 := by omega
  have q3 : IntKind.i64.wrap (p : Int) = (p : Int) := IntWalk.i64_in _ (by omega)
  clear hp
  go_enter Tryd.func59, Tryd.ntmps59
  go_wp2
  go_quiet (fail)
  go_wp2
  (try rw [umax])
  rw [HM.out]
  go_ret
  exact ⟨congrArg (fun z => Ending.returned (Value.int .u32 z)) (by simp), _, rfl⟩

end Go.Proofs.YtipcmkcllibnfaaDoor.Md5
