/- Contracts of lcpopt's sortBy. -/
import Derived.Test.YtndpiefdmlhacaaLcoH
import Derived.LoopN
namespace Go.Proofs.Ytndpiefdmlhacaa.Lco
open Go.RowKit Go.Sort Go.Proofs.Ytndpiefdmlhacaa.Oct Go.Proofs.Ytndpiefdmlhacaa.Row Go.Proofs.Ytndpiefdmlhacaa.Mem Go.Proofs.Ytndpiefdmlhacaa.Opt

theorem ins_nil (f : Value) (w : World) : Calls Try.prog 55 #[.slice none 0 0, .int .i64 0, .int .i64 0, f] w fun e w' => e = .returned (.tuple #[]) ∧ w = w' := by
  go_enter Try.func55, Try.ntmps55
  go_wp2
  refine wp_loop_rounds 1 ?_
  rw [rounds_succ]
  go_wp2
  go_end0
  exact ⟨rfl, rfl⟩
theorem pdq_nil (f : Value) (k : Int) (w : World) : Calls Try.prog 52 #[.slice none 0 0, .int .i64 0, .int .i64 0, .int .i64 k, f] w fun e w' => e = .returned (.tuple #[]) ∧ w = w' := by
  go_enter Try.func52, Try.ntmps52
  go_wp2
  refine wp_loop_rounds 1 ?_
  rw [rounds_succ]
  go_wp2_with (go_at_call 55; refine (ins_nil _ _).mono ?_; rintro e w' ⟨rfl, rfl⟩)
  (try simp only [Exit.inBlock, Exit.then]); refine bodyPost_ret (results_none rfl _ _ _) rfl ?_
  exact ⟨rfl, rfl⟩
theorem sort_nil (f : Value) (w : World) : Calls Try.prog 47 #[.slice none 0 0, f] w fun e w' => e = .returned (.tuple #[]) ∧ w = w' := by
  have C := hlen_any 0 w (by omega)
  go_enter Try.func47, Try.ntmps47
  go_wp2_with (first | (go_at_call 53; refine C.mono ?_; rintro e w' ⟨⟨k, rfl⟩, rfl⟩) | (go_at_call 52; refine (pdq_nil _ _ _).mono ?_; rintro e w' ⟨rfl, rfl⟩))
  go_end0
  exact ⟨rfl, rfl⟩
theorem sortBy_nil (w : World) : Calls Try.prog 23 #[.slice none 0 0, .func (.func 24) #[] #[]] w fun e w' => e = .returned (.tuple #[]) ∧ Below w.heap.size w w' := by
  go_enter Try.func23, Try.ntmps23
  go_wp2_with (go_at_call 47; refine (sort_nil _ _).mono ?_; rintro e w' ⟨rfl, rfl⟩)
  go_end0
  exact ⟨rfl, (Below.refl _ _).alloc (Nat.le_refl _) _⟩
set_option maxHeartbeats 1000000 in
theorem sortBy_any (l : List Opt) (g c : Nat) (w : World) (hH : HoldsK optV 2 w g 0 l.toArray) (hg : g < w.heap.size) (h12 : l.length ≤ 12) :
    Calls Try.prog 23 #[.slice (some ⟨g, 0, none⟩) l.length c, .func (.func 24) #[] #[]] w (SortQ l g w) := by
  obtain ⟨W, hW, HW⟩ : ∃ W, w.alloc (.cells #[.func (.func 24) #[] #[]] 56) = W ∧ Hid (W.cell? ⟨w.heap.size, 0, none⟩ = some (.func (.func 24) #[] #[]) ∧ HoldsK optV 2 W g 0 l.toArray ∧ g < W.heap.size ∧ w.heap.size ≠ g ∧ Below w.heap.size w W) := by
    refine ⟨_, rfl, ?_, ?_, ?_, by omega, (Below.refl _ _).alloc (Nat.le_refl _) _⟩
    · exact Blk.at_ (blk_new w [.func (.func 24) #[] #[]] _) 0
    · rw [alloc_eq_grow]; exact holdsK_grow optV 2 _ _ g 0 _ hg hH
    · simp; omega
  have C1 := Lib.hid (sort_any l g c w.heap.size W HW.out.2.1 HW.out.2.2.1 h12 HW.out.1 HW.out.2.2.2.1)
  have HB := Lib.hid HW.out.2.2.2.2
  have HQ : Hid (∀ e w', SortQ l g W e w' → SortQ l g w e w') := fun e w' ⟨l', h1, h2, h3, h4, h5⟩ => ⟨l', h1, h2, h3, h4, (Moves.of_below HB.out).trans h5 (fun _ _ h => h)⟩
  clear HW hH
  go_enter Try.func23, Try.ntmps23
  go_wp2_with fail
  refine (C1.out).mono ?_
  rintro e w' ⟨l', rfl, h2, h3, h4, h5⟩
  have HE := Lib.hid (HQ.out _ _ ⟨l', rfl, h2, h3, h4, h5⟩)
  clear hW h2 h3 h4 h5 HQ C1
  go_wp2
  go_end0
  exact HE.out
end Go.Proofs.Ytndpiefdmlhacaa.Lco
