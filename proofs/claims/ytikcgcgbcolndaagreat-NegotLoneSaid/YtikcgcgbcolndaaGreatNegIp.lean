/- The kind of IPCP's policies. -/
import Derived.Test.YtikcgcgbcolndaaGreatG5
import Derived.Test.YtikcgcgbcolndaaGreatIppG
import Derived.Test.YtikcgcgbcolndaaGreatIppQa
namespace Go.Proofs.YtikcgcgbcolndaaGreat.Neg
open Go.RowKit Go.Proofs.YtikcgcgbcolndaaGreat.Oct Go.Proofs.YtikcgcgbcolndaaGreat.Row Go.Proofs.YtikcgcgbcolndaaGreat.Mem Go.Proofs.YtikcgcgbcolndaaGreat.Opt

theorem wt_small : ∀ (l : List Opt), (∀ o ∈ l, o.2.size ≤ 4) → wt l ≤ 6 * l.length
  | [], _ => Nat.le_refl _
  | o :: l, h => by
    have h1 := wt_small l (fun p hp => h p (List.mem_cons_of_mem _ hp))
    have h2 := h o (List.mem_cons_self ..)
    simp only [wt, List.length_cons]
    omega
theorem put_len (x : Ipc.Ipc) : (Ipc.put x).length ≤ 3 := Ipc.gat_three x ▸ Ipc.gat_len x 3
theorem put_four (x : Ipc.Ipc) : ∀ o ∈ Ipc.put x, o.2.size ≤ 4 := fun o ho => by
  have h := Ipc.put_good x o ho
  simp only [Ipc.good, Bool.and_eq_true, decide_eq_true_eq] at h
  omega
theorem pe_put (x : Ipc.Ipc) : pE (Ipc.put x) = 0 := by
  refine pE_zero.2 ⟨by have := put_len x; omega, ?_, by have := wt_small _ (put_four x); have := put_len x; omega⟩
  unfold big
  rw [List.any_eq_false]
  intro o ho
  have := put_four x o ho
  simp only [decide_eq_true_eq]
  omega
/-- A policy's word in a variable's block. -/
theorem boxI (w : World) (q : Nat) : ∃ W, w.alloc (.cells #[.pointer (some ⟨q, 0, none⟩)] 97) = W ∧ Hid (Blk W w.heap.size [.pointer (some ⟨q, 0, none⟩)] 97 ∧ Below w.heap.size w W) :=
  ⟨_, rfl, blk_new w [.pointer (some ⟨q, 0, none⟩)] _, (Below.refl w.heap.size w).alloc (Nat.le_refl _) _⟩
set_option maxHeartbeats 2000000 in
set_option maxRecDepth 100000 in
theorem ip_renew (q : Nat) (p : Ipp.Po) (w : World) (d : UInt32) (h : Ipp.PAt w q p) : Calls Tryz.prog 264 #[.agg #[ptr q], .int .u32 d.toNat] w fun e w' => e = .returned (.tuple #[]) ∧ Ipp.PAt w' q (Ipp.newP p.c) ∧ Moves (fun k => k = q) w w' := by
  obtain ⟨W, hW, HW⟩ := boxI w q
  have H := Lib.hid (h.callee HW.out.2)
  have M : Hid (Moves (fun k => k = q) w W) := Moves.of_below HW.out.2
  have HR := Lib.hid (Ipp.reset_any q p W H.out)
  have c0 : W.cell? ⟨w.heap.size, 0, none⟩ = some (.pointer (some ⟨q, 0, none⟩)) := HW.out.1.at_ 0
  clear h HW
  unfold ptr
  go_enter Tryz.func264, Tryz.ntmps264
  go_wp2_with fail
  refine HR.out.mono ?_
  rintro e w1 ⟨rfl, hp, hm⟩
  have HP := Lib.hid hp
  have M1 := Lib.hid (M.out.trans hm fun _ _ x => x)
  clear hp hm
  go_wp2
  go_end0
  exact ⟨rfl, HP.out, M1.out⟩
set_option maxRecDepth 100000 in
def ipK : Kd where
  α := Ipp.Po
  proto := 32801
  ty := 97
  At := Ipp.PAt
  lt := Ipp.PAt.lt
  moves := fun h hm hs => Ipp.PAt.moves h hm hs
  ok := fun p => Ipc.may p.w = true
  req := Ipp.req
  fRequest := 29
  eRequest := enters_of Tryz.func29 (by kernel_rfl) rfl
  mRequest := fun k hk q w => by subst hk; kernel_rfl
  cRequest := fun q p w h hok => (Ipp.request_any q p w h hok).mono fun e w' ⟨A, c, he, hO, _, hb⟩ => ⟨A, c, he, hO, hb⟩
  magic := fun _ => 0
  renew := fun p _ => Ipp.newP p.c
  fRenew := 264
  eRenew := enters_of Tryz.func264 (by kernel_rfl) rfl
  mRenew := fun k hk q w => by subst hk; kernel_rfl
  cRenew := fun q p w d h _ => ip_renew q p w d h
  okRenew := fun p d _ => by
    show Ipc.may (Ipp.newP p.c).w = true
    simp [Ipc.may, Ipp.newP, Ipp.wish]
  rq := fun p _ => ⟨pe_put p.w, by have h := put_len p.w; show (Ipc.put p.w).length ≤ _; unfold maxLen; omega⟩
end Go.Proofs.YtikcgcgbcolndaaGreat.Neg
