/- Contract of package hdlc's faults. -/
import Derived.Test.YtfcmpnfdgfdclaaHdlD
namespace Go.Proofs.Ytfcmpnfdgfdclaa.Hdl
open Go.RowKit Go.Proofs.Ytfcmpnfdgfdclaa.Oct Go.Proofs.Ytfcmpnfdgfdclaa.Row Go.Proofs.Ytfcmpnfdgfdclaa.Esc Go.Proofs.Ytfcmpnfdgfdclaa.Fcs

def fn1 (n : Nat) : Value := .func (.func 37) #[] #[.pointer (some ⟨n + 1, 0, none⟩)]
def fn2 (n : Nat) : Value := .func (.func 39) #[] #[.pointer (some ⟨n + 2, 0, none⟩), .pointer (some ⟨n, 0, none⟩)]
def fn3 (n : Nat) : Value := .func (.func 40) #[] #[.pointer (some ⟨n + 2, 0, none⟩)]
def fn4 (n : Nat) : Value := .func (.func 41) #[] #[.pointer (some ⟨n + 2, 0, none⟩)]
def FaultsIn (w : World) (n g : Nat) (raw plain : ByteArray) : Prop :=
  Boxed w n 26 (.pointer (some ⟨g, 0, none⟩)) ∧ Boxed w (n + 1) 9 (.string raw) ∧ Boxed w (n + 2) 9 (.string plain) ∧
  w.heap[n + 3]? = some (.cells #[fn1 n, .pointer (some ⟨g, 1, none⟩), fn2 n, .pointer (some ⟨g, 2, none⟩), fn3 n, .pointer (some ⟨g, 3, none⟩), fn4 n, .pointer (some ⟨g, 4, none⟩)] 62 (0, 0))
def FaultsP (g : Nat) (raw plain : ByteArray) (w : World) (e : Ending) (w' : World) : Prop :=
  e = .returned (.slice (some ⟨w.heap.size + 3, 0, none⟩) 4 4) ∧ FaultsIn w' w.heap.size g raw plain ∧ Below w.heap.size w w'
set_option maxHeartbeats 2000000 in
set_option maxRecDepth 100000 in
theorem faults_any (g : Nat) (raw plain : ByteArray) (w : World) :
    Calls Try.prog 26 #[.pointer (some ⟨g, 0, none⟩), .string raw, .string plain] w (FaultsP g raw plain w) := by
  go_enter Try.func26, Try.ntmps26
  go_wp2
  obtain ⟨W, hW⟩ : ∃ W, ((w.alloc (.cells #[.pointer (some ⟨g, 0, none⟩)] 26)).alloc (.cells #[.string raw] 9)).alloc (.cells #[.string plain] 9) = W := ⟨_, rfl⟩
  have b0 : Boxed W w.heap.size 26 (.pointer (some ⟨g, 0, none⟩)) := by rw [← hW]; exact ((Boxed.new w _ _).alloc _).alloc _
  have b1 : Boxed W (w.heap.size + 1) 9 (.string raw) := by
    rw [← hW]
    have := (Boxed.new (w.alloc (.cells #[.pointer (some ⟨g, 0, none⟩)] 26)) 9 (.string raw)).alloc (.cells #[.string plain] 9)
    simpa only [World.size_alloc] using this
  have b2 : Boxed W (w.heap.size + 2) 9 (.string plain) := by
    rw [← hW]
    have := (Boxed.new ((w.alloc (.cells #[.pointer (some ⟨g, 0, none⟩)] 26)).alloc (.cells #[.string raw] 9)) 9 (.string plain))
    simpa only [World.size_alloc] using this
  have HW : Hid (W.heap.size = w.heap.size + 3) := by show _ = _; rw [← hW]; simp
  have HB : Hid (Below w.heap.size w W) := by show Below _ _ _; rw [← hW]; exact (((Below.refl _ w).alloc (Nat.le_refl _) _).alloc (by simp) _).alloc (by simp; omega) _
  rw [hW]
  have hc := b0.cell
  have B0 := Lib.hid b0; clear b0
  have B1 := Lib.hid b1; clear b1
  have B2 := Lib.hid b2; clear b2
  clear hW
  go_still_tail 24, (by kernel_rfl)
  go_wp2
  go_ret
  refine ⟨by rw [HW.out]; rfl, ⟨B0.out.alloc _, B1.out.alloc _, B2.out.alloc _, ?_⟩, (HB.out.alloc (by rw [HW.out]; omega) _).drew⟩
  have h := World.alloc_heap_new W (.cells #[fn1 w.heap.size, .pointer (some ⟨g, 1, none⟩), fn2 w.heap.size, .pointer (some ⟨g, 2, none⟩), fn3 w.heap.size, .pointer (some ⟨g, 3, none⟩), fn4 w.heap.size, .pointer (some ⟨g, 4, none⟩)] 62 (0, 0))
  rw [HW.out] at h
  exact h

end Go.Proofs.Ytfcmpnfdgfdclaa.Hdl
