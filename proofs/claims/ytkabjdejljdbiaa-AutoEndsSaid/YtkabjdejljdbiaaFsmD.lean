/- Contracts of package fsm's layIdle, layBusy, automaton. -/
import Derived.Test.YtkabjdejljdbiaaFsmC
import Derived.Test.YtkabjdejljdbiaaFsmRows
import Derived.Deep.Cut
namespace Go.Proofs.Ytkabjdejljdbiaa.Fsm
open Go.RowKit Go.Proofs.Ytkabjdejljdbiaa.Oct Go.Proofs.Ytkabjdejljdbiaa.Row Go.Proofs.Ytkabjdejljdbiaa.Mem

theorem row_idle (b p z : Nat) : RowCall ⟨38, 0, b, p, z⟩ :=
  ⟨fun args w => by go_simp, fun g e t l w hk hl he hf h0 => idle_row b p g e t l w hk.tab (hk.box.at_ 0) hl he (by simpa using hf) h0⟩
theorem row_busy (b p z : Nat) : RowCall ⟨41, 6, b, p, z⟩ :=
  ⟨fun args w => by go_simp, fun g e t l w hk hl he hf h0 => busy_row b p g e t l w hk.tab (hk.box.at_ 0) hl he hf h0⟩
theorem known_new (c : Nat → Nat → Ctx) (b : Nat) (t : List Cl) (w : World) (ht : Tab w b t) (hc : ∀ p z, (c p z).b = b ∧ (c p z).p = p ∧ (c p z).z = z) :
    Known (c w.heap.size (w.heap.size + 1)) t ((w.alloc (.cells #[.pointer (some ⟨b, 0, none⟩)] 76)).alloc (.cells #[.int .u16 0, .int .u8 0, .bool false] 57)) := by
  obtain ⟨e1, e2, e3⟩ := hc w.heap.size (w.heap.size + 1)
  have hlt := ht.1.lt
  refine ⟨?_, ?_, ?_, by rw [e1, e2]; omega, by rw [e1, e3]; omega⟩
  · rw [e1]; exact ⟨(ht.1.alloc _).alloc _, ht.2⟩
  · rw [e1, e2]; exact (blk_new w [.pointer (some ⟨b, 0, none⟩)] 76).alloc _
  · rw [e3]
    have := blk_new (w.alloc (.cells #[.pointer (some ⟨b, 0, none⟩)] 76)) no.cells 57
    rw [World.size_alloc] at this
    exact this
theorem moves_two (b : Nat) (w : World) (o o' : Obj) : Moves (fun k => k = b) w ((w.alloc o).alloc o') := ((Moves.refl _ w).alloc o).alloc o'

set_option maxHeartbeats 4000000 in
set_option maxRecDepth 100000 in
theorem idle_any (b : Nat) (t : List Cl) (w : World) (ht : Tab w b t) :
    Calls Try.prog 30 #[.pointer (some ⟨b, 0, none⟩)] w fun x w' => x = .returned (.tuple #[]) ∧ Tab w' b (lays 0 t (idle0 :: idle1)) ∧ Moves (fun k => k = b) w w' := by
  have HT := Lib.hid ht
  have HK := Lib.hid (known_new (fun p z => ⟨38, 0, b, p, z⟩) b t w ht (fun _ _ => ⟨rfl, rfl, rfl⟩))
  have HM := Lib.hid (moves_two b w (.cells #[.pointer (some ⟨b, 0, none⟩)] 76) (.cells #[.int .u16 0, .int .u8 0, .bool false] 57))
  clear ht
  go_enter Try.func30, Try.ntmps30
  go_upto_region 3 with (fail)
  rename_i Q K hK
  refine Go.wp_mono (region_ok (N := 180) (e := idle0.1) (cs := idle0.2) (by show rowOf 0 180 _ = some idle0; decide +kernel) (row_idle b w.heap.size (w.heap.size + 1)) ⟨rfl, rfl, rfl, rfl⟩ HK.out (by kernel_rfl)) ?_
  rintro x a1 w1 ⟨rfl, h1, h2, h3⟩
  refine hK _ _ ?_
  refine Go.wp_mono (code_ok (row_idle b w.heap.size (w.heap.size + 1)) (by kernel_rfl) _ idle1 (by show rowsOf 0 180 _ = some idle1; decide +kernel) _ a1 w1 h1 h2) ?_
  rintro x a2 w2 ⟨rfl, k1, k2, k3⟩
  refine bodyPost_end (results_none rfl _ _ _) k1.2.2.2 ?_
  rw [lays_cons]
  exact ⟨rfl, k2.tab, (HM.out.trans h3 (fun _ _ h => h)).trans k3 (fun _ _ h => h)⟩

set_option maxHeartbeats 4000000 in
set_option maxRecDepth 100000 in
theorem busy_any (b : Nat) (t : List Cl) (w : World) (ht : Tab w b t) :
    Calls Try.prog 31 #[.pointer (some ⟨b, 0, none⟩)] w fun x w' => x = .returned (.tuple #[]) ∧ Tab w' b (lays 6 t (busy0 :: busy1)) ∧ Moves (fun k => k = b) w w' := by
  have HT := Lib.hid ht
  have HK := Lib.hid (known_new (fun p z => ⟨41, 6, b, p, z⟩) b t w ht (fun _ _ => ⟨rfl, rfl, rfl⟩))
  have HM := Lib.hid (moves_two b w (.cells #[.pointer (some ⟨b, 0, none⟩)] 76) (.cells #[.int .u16 0, .int .u8 0, .bool false] 57))
  clear ht
  go_enter Try.func31, Try.ntmps31
  go_upto_region 3 with (fail)
  rename_i Q K hK
  refine Go.wp_mono (region_ok (N := 158) (e := busy0.1) (cs := busy0.2) (by show rowOf 6 158 _ = some busy0; decide +kernel) (row_busy b w.heap.size (w.heap.size + 1)) ⟨rfl, rfl, rfl, rfl⟩ HK.out (by kernel_rfl)) ?_
  rintro x a1 w1 ⟨rfl, h1, h2, h3⟩
  refine hK _ _ ?_
  refine Go.wp_mono (code_ok (row_busy b w.heap.size (w.heap.size + 1)) (by kernel_rfl) _ busy1 (by show rowsOf 6 158 _ = some busy1; decide +kernel) _ a1 w1 h1 h2) ?_
  rintro x a2 w2 ⟨rfl, k1, k2, k3⟩
  refine bodyPost_end (results_none rfl _ _ _) k1.2.2.2 ?_
  rw [lays_cons]
  exact ⟨rfl, k2.tab, (HM.out.trans h3 (fun _ _ h => h)).trans k3 (fun _ _ h => h)⟩
end Go.Proofs.Ytkabjdejljdbiaa.Fsm
