/- Contracts of package md5's first, New, Copy, Len, text, tail, Hex. -/
import Derived.Test.YtipcmkcllibnfaaDoorMd5I
namespace Go.Proofs.YtipcmkcllibnfaaDoor.Md5
open Go.RowKit Go.Proofs.YtipcmkcllibnfaaDoor.Oct Go.Proofs.YtipcmkcllibnfaaDoor.Row Go.Proofs.YtipcmkcllibnfaaDoor.Mem

set_option maxHeartbeats 400000 in
theorem copy_nil (w : World) : Calls Tryd.prog 41 #[.pointer none] w fun e w' => e = .returned (.pointer none) ∧ w' = w := by
  go_enter Tryd.func41, Tryd.ntmps41
  go_wp2
  go_ret
  exact ⟨rfl, rfl⟩
def zeroH : List Value := cellsH ⟨0, 0, 0, 0⟩ (List.replicate 64 0) 0
theorem infoH : (Tryd.prog.info? 67).map (fun i => (i.zero, i.size)) = some (some (.agg zeroH.toArray), 69) := by kernel_rfl
theorem zero_hsh (w : World) : (zeroValue 67).run Tryd.prog w = .ok (.agg zeroH.toArray) w := (zero_of_info infoH).1 w
theorem size_hsh {s : W4} {buf : List UInt8} {n : Nat} (h : buf.length = 64) : (Tryd.prog.info? 67).map (·.size) = some (cellsH s buf n).toArray.size := by
  rw [List.size_toArray, cellsH_length h]
  exact (zero_of_info infoH).2
theorem cellsH_one (s : W4) (buf : List UInt8) (n : Nat) : (cellsH s buf n).toArray.all (·.oneCell') = true := by
  refine all_oneCell_toArray fun v hv => ?_
  unfold cellsH wordsV at hv
  rcases List.mem_append.1 hv with h | h
  · simp only [List.mem_cons, List.not_mem_nil, or_false] at h
    rcases h with rfl | rfl | rfl | rfl <;> rfl
  · rcases List.mem_append.1 h with h | h
    · exact bytesV_one _ _ h
    · rw [List.mem_singleton] at h; subst h; rfl
set_option maxHeartbeats 400000 in
set_option maxRecDepth 100000 in
theorem copy_any (g : Nat) (t : List UInt8) (w : World) (hH : Hsh w g t) : Calls Tryd.prog 41 #[.pointer (some ⟨g, 0, none⟩)] w fun e w' => e = .returned (.pointer (some ⟨w.heap.size, 0, none⟩)) ∧ Hsh w' w.heap.size t ∧ Below w.heap.size w w' ∧ w'.heap.size = w.heap.size + 1 := by
  obtain ⟨buf, h, hr⟩ := hH
  have HR := Lib.hid h.1
  have Hr := Lib.hid hr
  obtain ⟨cs, hcs⟩ : ∃ cs, cellsH (hs t (t.length / 64)) buf t.length = cs := ⟨_, rfl⟩
  have HS := Lib.hid (size_hsh (s := hs t (t.length / 64)) (n := t.length) h.2)
  have HO := Lib.hid (cellsH_one (hs t (t.length / 64)) buf t.length)
  have HZ : Hid (zeroH.toArray.size = (cellsH (hs t (t.length / 64)) buf t.length).toArray.size) := by show _ = _; rw [List.size_toArray, List.size_toArray, cellsH_length h.2]; rfl
  have H64 := Lib.hid h.2
  rw [hcs] at HR HS HO HZ
  have Hcs := Lib.hid hcs
  clear h hr hcs
  have hz := zero_hsh
  generalize zeroH = zs at *
  go_enter Tryd.func41, Tryd.ntmps41
  go_wp2_with (first
    | (refine wpList_load_row rfl 67 _ rfl g rfl 67 _ (0, 0) _ HR.out Tryd.underlying67 rfl HS.out ?_)
    | (refine wpList_store_row rfl 67 _ _ rfl w.heap.size _ rfl rfl 67 _ (World.alloc_heap_new w _) HS.out HZ.out HO.out ?_))
  go_ret
  have hw := World.setRow_alloc_new w zs.toArray cs.toArray 67
  rw [hw]
  refine ⟨rfl, ⟨buf, ⟨?_, H64.out⟩, Hr.out⟩, (Below.refl _ _).alloc (Nat.le_refl _) _, World.size_alloc _ _⟩
  rw [Hcs.out]
  exact World.alloc_heap_new w _
set_option maxHeartbeats 400000 in
theorem first_any (w : World) : Calls Tryd.prog 39 #[] w fun e w' => e = .returned (.agg #[.int .u32 1732584193, .int .u32 4023233417, .int .u32 2562383102, .int .u32 271733878]) ∧ Below w.heap.size w w' := by
  go_enter Tryd.func39, Tryd.ntmps39
  go_wp2
  refine bodyPost_ret (v := .agg #[.int .u32 1732584193, .int .u32 4023233417, .int .u32 2562383102, .int .u32 271733878]) (results_cell_row rfl _ _ w.heap.size 63 #[.int .u32 1732584193, .int .u32 4023233417, .int .u32 2562383102, .int .u32 271733878] (0, 0) _ rfl (World.alloc_heap_new w _) Tryd.underlying63 rfl (by kernel_rfl)) rfl ⟨rfl, (Below.refl _ _).alloc (Nat.le_refl _) _⟩
set_option maxHeartbeats 400000 in
theorem new_any (w : World) : Calls Tryd.prog 30 #[] w fun e w' => ∃ g, e = .returned (.pointer (some ⟨g, 0, none⟩)) ∧ w.heap.size ≤ g ∧ Hsh w' g [] ∧ Below w.heap.size w w' := by
  have hz := zero_hsh
  go_enter Tryd.func30, Tryd.ntmps30
  go_wp2_with fail
  refine (first_any _).mono ?_
  rintro e w1 ⟨rfl, hb⟩
  go_wp2
  go_ret
  have e : ((((zeroH.set 0 (.int .u32 1732584193)).set 1 (.int .u32 4023233417)).set 2 (.int .u32 2562383102)).set 3 (.int .u32 271733878)) = cellsH init (List.replicate 64 0) 0 := rfl
  rw [e]
  exact ⟨_, rfl, hb.size, ⟨_, ⟨World.alloc_heap_new w1 _, rfl⟩, rest_nil⟩, hb.alloc hb.size _⟩
end Go.Proofs.YtipcmkcllibnfaaDoor.Md5
