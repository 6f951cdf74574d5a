/- Contract of package md5's step. -/
import Derived.Test.YtipcmkcllibnfaaDoorMd5F
namespace Go.Proofs.YtipcmkcllibnfaaDoor.Md5
open Go.RowKit Go.Proofs.YtipcmkcllibnfaaDoor.Oct Go.Proofs.YtipcmkcllibnfaaDoor.Row Go.Proofs.YtipcmkcllibnfaaDoor.Mem

def StepP (g m : Nat) (s : W4) (buf : List UInt8) (w : World) (e : Ending) (w' : World) : Prop := e = .returned (.tuple #[]) ∧ Raw w' g s buf m ∧ Moves (fun k => k = g) w w'
set_option maxHeartbeats 1000000 in
set_option maxRecDepth 100000 in
theorem step_any (g m p n : Nat) (s : W4) (buf : List UInt8) (w : World) (hH : Raw w g s buf m) (hs : Ok4 s) (h1 : 1 ≤ n) (h2 : n ≤ 31) :
    Calls Tryd.prog 50 #[.pointer (some ⟨g, 0, none⟩), .int .u32 p, .int .i64 n] w (StepP g m ⟨s.d, (s.b + rotl ((s.a + p) % 4294967296) n) % 4294967296, s.b, s.c⟩ buf w) := by
  have HH := Lib.hid hH
  have hw0 := hH.word.1
  have hw1 := hH.word.2.1
  have hw2 := hH.word.2.2.1
  have hw3 := hH.word.2.2.2
  have hf0 := hH.frozen 0
  have hf1 := hH.frozen 1
  have hf2 := hH.frozen 2
  have hf3 := hH.frozen 3
  obtain ⟨a, b, c, d⟩ := s
  simp only at hw0 hw1 hw2 hw3 ⊢
  have CR : Hid (∀ W, Calls Tryd.prog 60 #[.int .u32 (IntKind.u32.wrap ((a : Int) + p)), .int .i64 n] W fun e w' => e = .returned (.int .u32 (rotl ((a + p) % 4294967296) n)) ∧ w' = W) := fun W => by
    rw [show IntKind.u32.wrap ((a : Int) + p) = (((a + p) % 4294967296 : Nat) : Int) by rw [IntKind.wrap_u32']; omega]
    exact (rot_any _ n W (by omega) h1 h2).mono fun e w' h => ⟨h.1, h.2.symm⟩
  generalize hq : rotl ((a + p) % 4294967296) n = q at *
  clear hH hs h1 h2 hq
  go_enter Tryd.func50, Tryd.ntmps50
  go_wp2
  go_quiet ((go_at_call 60; exact Calls.quiet_of_same (CR.out _)))
  go_wp2
  rw [show ((b : Int) + q) % 4294967296 = (((b + q) % 4294967296 : Nat) : Int) by omega]
  generalize (b + q) % 4294967296 = r at *
  go_region
  go_wp2
  go_end0
  have h0 : Raw (w.drewN (nq + 1)) g ⟨a, b, c, d⟩ buf m := HH.out
  have h1 := h0.putWord (s' := ⟨d, b, c, d⟩) 0 (.int .u32 d) (by omega) rfl
  have h2 := h1.putWord (s' := ⟨d, r, c, d⟩) 1 (.int .u32 r) (by omega) rfl
  have h3 := h2.putWord (s' := ⟨d, r, b, d⟩) 2 (.int .u32 b) (by omega) rfl
  have h4 := h3.putWord (s' := ⟨d, r, b, c⟩) 3 (.int .u32 c) (by omega) rfl
  exact ⟨rfl, h4, (((((Moves.refl (fun k => k = g) w).drewN (nq + 1)).setCell ⟨g, 0, none⟩ (fun _ => rfl) _).setCell ⟨g, 1, none⟩ (fun _ => rfl) _).setCell ⟨g, 2, none⟩ (fun _ => rfl) _).setCell ⟨g, 3, none⟩ (fun _ => rfl) _⟩
end Go.Proofs.YtipcmkcllibnfaaDoor.Md5
