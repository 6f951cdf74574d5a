/- Contract of package fcs's effects: the array of what each byte does. -/
import Derived.Test.YtfcmpnfdgfdclaaFcsB
import Derived.Deep.WholeRow
import Derived.Deep.MidRow
import Derived.Laws.CopyOwn
namespace Go.Proofs.Ytfcmpnfdgfdclaa.Fcs
open Go.RowKit Go.Proofs.Ytfcmpnfdgfdclaa.Oct

/-- The array of 256 numbers. -/
def arr (f : Nat → Nat) : Array Value := (Array.range 256).map fun j => Value.int .u16 (f j)
theorem arr_size (f : Nat → Nat) : (arr f).size = 256 := by simp [arr]
theorem arr_at (f : Nat → Nat) (j : Nat) (h : j < 256) : (arr f)[j]? = some (.int .u16 (f j)) := by simp [arr, h]
theorem arr_all (f : Nat → Nat) : (arr f).all (·.oneCell') = true := by
  rw [Array.all_eq_true_iff_forall_mem]
  intro v hv
  simp only [arr, Array.mem_map] at hv
  obtain ⟨j, _, rfl⟩ := hv
  rfl
theorem arr_zero : Array.replicate 256 (Value.int .u16 0) = arr (fun _ => 0) := by
  apply Array.ext_getElem?
  intro i
  by_cases h : i < 256
  · rw [arr_at _ _ h]; simp [h]
  · simp [arr, h]

/-- The array lies in block g, whole. -/
def Tab (w : World) (g : Nat) (f : Nat → Nat) : Prop := w.heap[g]? = some (.cells (arr f) 83 (0, 0))
def upd (f : Nat → Nat) (k v : Nat) : Nat → Nat := fun j => if j = k then v else f j
theorem Tab.lt {w : World} {g : Nat} {f : Nat → Nat} (h : Tab w g f) : g < w.heap.size := (Array.getElem?_eq_some_iff.1 h).1
theorem Tab.cell {w : World} {g : Nat} {f : Nat → Nat} (h : Tab w g f) (j : Nat) (hj : j < 256) : w.cell? ⟨g, j, none⟩ = some (.int .u16 (f j)) := by
  rw [cell_of_row w g j _ _ _ h, arr_at f j hj]
theorem Tab.frozen {w : World} {g : Nat} {f : Nat → Nat} (h : Tab w g f) (j : Nat) : w.frozen? ⟨g, j, none⟩ = false := by
  unfold World.frozen?
  have h' : w.heap[g]? = _ := h
  simp [h']
theorem Tab.same {w w' : World} {g : Nat} {f : Nat → Nat} (h : Tab w g f) (e : w'.heap[g]? = w.heap[g]?) : Tab w' g f := e.trans h
theorem Tab.set {w : World} {g : Nat} {f : Nat → Nat} (h : Tab w g f) (k v : Nat) (hk : k < 256) : Tab (w.setCell ⟨g, k, none⟩ (.int .u16 v)) g (upd f k v) := by
  have h' : w.heap[g]? = _ := h
  unfold Tab World.setCell
  simp only [Array.getElem?_modify, if_true, h', Option.map_some, Option.isSome_none, Bool.false_eq_true, if_false]
  congr 2
  apply Array.ext_getElem?
  intro i
  rw [Array.getElem?_setIfInBounds, arr_size]
  by_cases e : k = i
  · subst e; rw [if_pos rfl, if_pos hk, arr_at _ _ hk]; simp [upd]
  · rw [if_neg e]
    by_cases hi : i < 256
    · rw [arr_at _ _ hi, arr_at _ _ hi]; simp [upd, show ¬ i = k from fun h => e h.symm]
    · rw [Array.getElem?_eq_none (by rw [arr_size]; omega), Array.getElem?_eq_none (by rw [arr_size]; omega)]
theorem Tab.set_other {w : World} {g g' : Nat} {f : Nat → Nat} (h : Tab w g f) (hg : g ≠ g') (k : Nat) (v : Value) : Tab (w.setCell ⟨g', k, none⟩ v) g f := by
  have h' : w.heap[g]? = _ := h
  unfold Tab World.setCell
  rw [Array.getElem?_modify, if_neg (fun e => hg e.symm), h']

theorem info_tab : (Try.prog.info? 83).map (fun i => (i.zero, i.size)) = some (some (.agg (Array.replicate 256 (.int .u16 0))), 256) := by kernel_rfl
theorem zero_tab (w : World) : (zeroValue 83).run Try.prog w = .ok (.agg (arr fun _ => 0)) w := by
  rw [← arr_zero]; exact (zero_of_info info_tab).1 w

set_option maxHeartbeats 1000000 in
set_option maxRecDepth 100000 in
theorem effects_any (w : World) :
    Calls Try.prog 55 #[] w fun e w' => e = .returned (.agg (arr tab)) ∧ Below w.heap.size w w' := by
  have hz := zero_tab
  go_enter Try.func55, Try.ntmps55
  go_wp2
  have hT0 : Tab ((w.alloc (.cells (arr fun _ => 0) 83)).alloc (.cells (arr fun _ => 0) 83)) w.heap.size (fun _ => 0) := heap_alloc2_old w _ _
  have hT1 : Tab ((w.alloc (.cells (arr fun _ => 0) 83)).alloc (.cells (arr fun _ => 0) 83)) (w.heap.size + 1) (fun _ => 0) := heap_alloc2_new w _ _
  have HB := Lib.hid (((Below.refl w.heap.size w).alloc (Nat.le_refl _) (.cells (arr fun _ => 0) 83)).alloc (by simp) (.cells (arr fun _ => 0) 83))
  have HT0 := Lib.hid hT0
  have HT1 := Lib.hid hT1
  clear hT0 hT1 hz
  go_loopw [5] (fun i wr => ∃ k : Nat, k ≤ 8 ∧ i = .int .i64 k ∧ Below w.heap.size w wr ∧ Hid (∃ f : Nat → Nat, Tab wr w.heap.size (fun _ => 0) ∧ Tab wr (w.heap.size + 1) f ∧ ∀ j, j < 2 ^ k → f j = tab j)) (fun i _ => 8 - (intOf i).toNat)
  case atStart => exact ⟨0, Nat.zero_le _, rfl, HB.out, _, HT0.out, HT1.out, fun j hj => by simp at hj; subst hj; exact tab_zero.symm⟩
  case round =>
    obtain ⟨k, hk, rfl, hb, ⟨f, ht0, ht1, hf⟩⟩ := hrel
    by_cases hlt : k < 8
    · have hp : 2 ^ k ≤ 128 := Nat.pow_le_pow_right (n := 2) (i := k) (j := 7) (by omega) (by omega)
      have hp1 : 1 ≤ 2 ^ k := Nat.one_le_two_pow
      have Hb := Lib.hid hb
      have Ht0 := Lib.hid ht0
      have Ht1 := Lib.hid ht1
      have Hf := Lib.hid hf
      clear hb ht0 ht1 hf
      have Hw : Hid (wrap64 (2 ^ k) = ((2 ^ k : Nat) : Int)) := by
        show _ = _
        rw [show ((2 : Int) ^ k) = ((2 ^ k : Nat) : Int) from by simp]
        unfold wrap64; omega
      have HA : Hid (∀ low, low < 2 ^ k → tab (2 ^ k + low) = tab (2 ^ k) ^^^ tab low) := tab_add k
      have HP : Hid (2 ^ (k + 1) = 2 ^ k + 2 ^ k) := by show _ = _; rw [Nat.pow_succ]; omega
      go_wp2_with fail
      rw [Hw.out]
      generalize 2 ^ k = H at *
      rw [show IntKind.u16.wrap (H : Int) = (H : Int) from by simp only [IntKind.wrap_u16]; omega]
      refine (eight_any H _ (by omega)).mono ?_
      rintro e w' ⟨rfl, rfl⟩
      have hi1 : (0 : Int) ≤ H := by omega
      have hi2 : (H : Int) < 256 := by omega
      have hc := Ht1.out.cell H (by omega)
      have hfz := Ht1.out.frozen H
      go_wp2
      have HT0' : Hid (Tab (wr.setCell ⟨w.heap.size + 1, H, none⟩ (.int .u16 (tab H))) w.heap.size (fun _ => 0)) := Ht0.out.set_other (by omega) _ _
      have HT1' := Lib.hid (Ht1.out.set H (tab H) (by omega))
      have HB' := Lib.hid (Hb.out.setCell (p := ⟨w.heap.size + 1, H, none⟩) (by simp) (.int .u16 (tab H)))
      clear hc hfz
      generalize wr.setCell ⟨w.heap.size + 1, H, none⟩ (.int .u16 (tab H)) = ws at *
      go_loopw [16] (fun i wr => ∃ m : Nat, m ≤ H ∧ i = .int .i64 m ∧ Below w.heap.size w wr ∧ Hid (∃ g : Nat → Nat, Tab wr w.heap.size (fun _ => 0) ∧ Tab wr (w.heap.size + 1) g ∧ (∀ j, j < H + m → g j = tab j) ∧ g H = tab H)) (fun i _ => H - (intOf i).toNat)
      case atStart => exact ⟨0, Nat.zero_le _, rfl, HB'.out, _, HT0'.out, HT1'.out, fun j hj => by rw [upd, if_neg (by omega)]; exact Hf.out j (by omega), by simp [upd]⟩
      case round =>
        obtain ⟨m, hm, rfl, hb, ⟨g, ht0, ht1, hg, hgH⟩⟩ := hrel
        by_cases hlt2 : m < H
        · have Hb2 := Lib.hid hb
          have Ht02 := Lib.hid ht0
          have Ht12 := Lib.hid ht1
          have Hg := Lib.hid hg
          have HgH := Lib.hid hgH
          have hcH := ht1.cell H (by omega)
          have hcm := ht1.cell m (by omega)
          have hcs := ht1.cell (H + m) (by omega)
          have hfs := ht1.frozen (H + m)
          rw [hgH] at hcH
          rw [hg m (by omega)] at hcm
          have HX := Lib.hid (u16_xor_nat (tab H) (tab m) (tab_lt _ (by omega)) (tab_lt _ (by omega)))
          clear hb ht0 ht1 hg hgH
          have hm1 : (0 : Int) ≤ m := by omega
          have hm2 : (m : Int) < 256 := by omega
          have hm3 : (0 : Int) ≤ (H : Int) + m := by omega
          have hm4 : (H : Int) + m < 256 := by omega
          go_wp2
          go_region
          rw [HX.out]
          go_wp2
          have hs := Ht12.out.set (H + m) (tab H ^^^ tab m) (by omega)
          go_roundw
          case rel =>
            refine ⟨m + 1, by omega, by go_num, ((Hb2.out.setCell (p := ⟨w.heap.size + 1, H + m, none⟩) (by simp) _).drew), _, Ht02.out.set_other (by omega) _ _, hs, fun j hj => ?_, ?_⟩
            · unfold upd
              by_cases e : j = H + m
              · rw [if_pos e, e]; exact (HA.out m hlt2).symm
              · rw [if_neg e]; exact Hg.out j (by omega)
            · unfold upd
              by_cases e : H = H + m
              · rw [if_pos e]; have := HA.out m hlt2; rw [← e] at this; exact this.symm
              · rw [if_neg e]; exact HgH.out
          case measure => simp [intOf]; omega
        · obtain rfl : m = H := by omega
          go_wp2
          go_roundw
          case rel => exact ⟨k + 1, by omega, by go_num, hb, g, ht0, ht1, fun j hj => hg j (by rw [HP.out] at hj; exact hj)⟩
          case measure => simp [intOf]; omega
    · obtain rfl : k = 8 := by omega
      have hsz : (Try.prog.info? 83).map (·.size) = some (arr f).size := by rw [arr_size]; exact (zero_of_info info_tab).2
      have Hsz := Lib.hid hsz
      have H1 := Lib.hid ht1
      have H0 := Lib.hid ht0
      have Hf : Hid (arr f = arr tab) := by
        show _ = _
        apply Array.ext_getElem?
        intro i
        by_cases hi : i < 256
        · rw [arr_at _ _ hi, arr_at _ _ hi, hf i hi]
        · rw [Array.getElem?_eq_none (by rw [arr_size]; omega), Array.getElem?_eq_none (by rw [arr_size]; omega)]
      clear hsz ht1 ht0 hf
      go_wp2_with (first
        | (refine wpList_load_row rfl 83 _ rfl (w.heap.size + 1) rfl 83 _ (0, 0) _ H1.out Try.underlying83 rfl Hsz.out ?_)
        | (refine wpList_store_row rfl 83 _ _ rfl w.heap.size (arr f) rfl rfl 83 _ H0.out Hsz.out (by rw [arr_size, arr_size]) (arr_all f) ?_))
      have hg := setRow_heap wr w.heap.size _ (arr f) _ _ H0.out
      refine bodyPost_ret (v := .agg (arr f)) (results_cell_row rfl _ _ w.heap.size 83 (arr f) (0, 0) _ rfl hg Try.underlying83 rfl Hsz.out) rfl ⟨by rw [Hf.out], below_setRow hb (Nat.le_refl _) _⟩
end Go.Proofs.Ytfcmpnfdgfdclaa.Fcs
