/- Contract of package fcs's More: the register behind all bytes. -/
import Derived.Test.YtfcmpnfdgfdclaaFcsD
namespace Go.Proofs.Ytfcmpnfdgfdclaa.Fcs
open Go.RowKit Go.Shelf Go.Proofs.Ytfcmpnfdgfdclaa.Oct
attribute [local go_sem] Oper.semAt_some

set_option maxHeartbeats 2000000 in
set_option maxRecDepth 100000 in
theorem more_in (c : Nat) (s : ByteArray) (w : World) (hc : c < 65536) (hs : s.size ≤ maxLen) :
    CallsIn Fence.wide 3 Try.prog 52 #[.int .u16 c, .string s] w fun e w' => e = .returned (.int .u16 (more c s.toList)) ∧ Below w.heap.size w w' := by
  have Hc := Lib.hid hc; clear hc
  have Hs := Lib.hid hs; clear hs
  have hz := zero_tab
  have Hsz : Hid ((Try.prog.info? 83).map (·.size) = some (arr tab).size) := by show _ = _; rw [arr_size]; exact (zero_of_info info_tab).2
  refine callsIn_of_wp_marks Try.func52 rfl trivial ?_
  simp only [Try.ntmps52, List.size_toArray, List.length_cons, List.length_nil, Nat.reduceAdd, Nat.reduceSub, Array.replicate_succ, Array.replicate_zero, List.push_toArray, List.append_toArray, List.nil_append, List.cons_append]
  gi_wp2_with (first
    | (refine ⟨trivial, ?_⟩; gi_at_call 55; refine (callsIn_wide.2 (effects_any _)).mono ?_; rintro e w1 ⟨rfl, hb1⟩)
    | (refine ⟨trivial, ?_⟩; gi_at_call 56; refine (octets_in 2 s _).mono ?_; rintro e w2 ⟨rfl, rfl⟩)
    | (refine wpListIn_store_row rfl 83 _ _ rfl w1.heap.size (arr tab) rfl rfl 83 _ (heap_alloc_last w1 _) Hsz.out (by rw [arr_size, arr_size]) (arr_all tab) ?_; rw [World.setRow_alloc_new]))
  have hsz1 : w.heap.size + 1 ≤ w1.heap.size := by have := hb1.size; simp at this; omega
  have hB1 : Below w.heap.size w w1 := ((Below.refl _ w).alloc (Nat.le_refl _) _).trans (hb1.mono (by simp))
  have hC1 : w1.cell? ⟨w.heap.size, 0, none⟩ = some (.int .u16 c) := (hb1.cell (p := ⟨w.heap.size, 0, none⟩) (by simp)).trans (by rw [World.cell?_alloc_new]; rfl)
  have hF1 : w1.frozen? ⟨w.heap.size, 0, none⟩ = false := (hb1.frozen (p := ⟨w.heap.size, 0, none⟩) (by simp)).trans (World.frozen?_alloc_at _ _ _ _ rfl)
  obtain ⟨W0, hW0⟩ : ∃ W0, (w1.alloc (.cells (arr tab) 83)).alloc (.cells #[.string s] 9) = W0 := ⟨_, rfl⟩
  have hs0 : W0.heap.size = w1.heap.size + 2 := by rw [← hW0]; simp
  have hBB : Below w1.heap.size w1 W0 := by rw [← hW0]; exact ((Below.refl _ w1).alloc (Nat.le_refl _) _).alloc (by simp) _
  have hB0 : Below w.heap.size w W0 := hB1.trans (hBB.mono (by omega))
  have hC0 : W0.cell? ⟨w.heap.size, 0, none⟩ = some (.int .u16 c) := (hBB.cell (p := ⟨w.heap.size, 0, none⟩) (by simp; omega)).trans hC1
  have hF0 : W0.frozen? ⟨w.heap.size, 0, none⟩ = false := (hBB.frozen (p := ⟨w.heap.size, 0, none⟩) (by simp; omega)).trans hF1
  have hT0 : Tab W0 w1.heap.size tab := by rw [← hW0]; exact heap_alloc2_old w1 _ _
  have hS0 : W0.cell? ⟨w1.heap.size + 1, 0, none⟩ = some (.string s) := by
    rw [← hW0]
    have := cell_of_row _ (w1.heap.size + 1) 0 _ _ _ (heap_alloc2_new w1 (.cells (arr tab) 83) (.cells #[.string s] 9))
    rw [this]; rfl
  rw [hW0]
  have Hst := octets_stops 2 (by omega) (w1.heap.size + 1) s Hs.out W0 hS0
  refine wpIn_rangeFunc_ownG rfl (by omega) (gf := 59) (lb := #[.pointer (some ⟨w1.heap.size + 1, 0, none⟩)]) rfl trivial (enters_of Try.func59 (by kernel_rfl) rfl)
    Hst keepsText_t keepsText_b (Below.refl _ _) (fun _ => rfl)
    (fun pre W => (W.cell? ⟨w.heap.size, 0, none⟩ = some (.int .u16 (more c pre)) ∧ W.frozen? ⟨w.heap.size, 0, none⟩ = false ∧ Tab W w1.heap.size tab) ∧ Below w.heap.size w W)
    (fun _ _ _ => False)
    (OwnFrom.and (Own.from (fun s A B row hs hg hr => ⟨cell_kept hs.1 hg hr, (frozen_kept hs.1 hg hr).trans hs.2.1, hs.2.2.same (grownBy_keeps_cells hg hr hs.2.2 rfl)⟩) _) (ownFrom_below (Nat.le_refl _) (by omega)))
    (fun _ _ _ _ _ hs _ _ => hs)
    ⟨⟨hC0, hF0, hT0⟩, hB0⟩
    (fun x => { tmps := #[.int .u16 c, .string s, .pointer (some ⟨w.heap.size, 0, none⟩), undef, .int .u16 0, .pointer (some ⟨w1.heap.size, 0, none⟩), .int .u8 (x.toNat : Int), .agg (arr tab), .string s, .func (.func 59) #[] #[.pointer (some ⟨w1.heap.size + 1, 0, none⟩)], .int .u8 (x.toNat : Int), undef, undef, undef, undef, undef, undef, undef, undef, undef, undef], defers := [] }) ?assign ?body ?done ?stop
  case assign =>
    intro l x W K hK
    gi_wp2
    exact hK
  case body =>
    rintro l pre x W ⟨⟨hc, hf, ht⟩, hB⟩ _
    clear hC0 hF0 hT0 hS0 hC1 hF1 hB0 hBB hB1 hW0 Hst hz hs0 hb1
    have hmx : Try.prog.follows .mixedOrders = true := by kernel_rfl
    have HQ := Lib.hid (more_lt c pre Hc.out)
    have HM := Lib.hid (more_snoc c pre x)
    generalize more c pre = q at *
    have hxl := x.toNat_lt
    have HR := Lib.hid (run_byte q x.toNat hxl)
    generalize x.toNat = b at *
    have hil : q % 256 ^^^ b < 256 := Nat.xor_lt_two_pow (n := 8) (by omega) (by omega)
    have hix := u8_xor_nat (q % 256) b (by omega) (by omega)
    rw [show ((q % 256 : Nat) : Int) = (q : Int) % 256 from by omega] at hix
    have hix' : bits .xor .u8 (IntKind.u8.wrap (q : Int)) (b : Int) = ((q % 256 ^^^ b : Nat) : Int) := by rw [IntKind.wrap_u8']; exact hix
    have hq1 : (0 : Int) ≤ q := by omega
    have hq2 : (q : Int) ≤ 65535 := by have := HQ.out; omega
    generalize q % 256 ^^^ b = idx at *
    have hi1 : (0 : Int) ≤ idx := by omega
    have hi2 : (idx : Int) < 256 := by omega
    have hcx := ht.cell idx (by omega)
    have HX := Lib.hid (u16_xor_nat (q / 256) (tab idx) (by have := HQ.out; omega) (tab_lt _ (by omega)))
    have HT := Lib.hid ht
    have HB := Lib.hid hB
    clear ht hB hil hxl
    have FIN : Hid (KeepsFrom W0.heap.size W (W.setCell ⟨w.heap.size, 0, none⟩ (.int .u16 (bits .xor .u16 ((q : Int) / 256) (tab idx)))).drew ∧
        KeepsText (w1.heap.size + 1) s W (W.setCell ⟨w.heap.size, 0, none⟩ (.int .u16 (bits .xor .u16 ((q : Int) / 256) (tab idx)))).drew ∧
        ((W.setCell ⟨w.heap.size, 0, none⟩ (.int .u16 (bits .xor .u16 ((q : Int) / 256) (tab idx)))).drew.cell? ⟨w.heap.size, 0, none⟩ = some (.int .u16 (more c (pre ++ [x]))) ∧
          (W.setCell ⟨w.heap.size, 0, none⟩ (.int .u16 (bits .xor .u16 ((q : Int) / 256) (tab idx)))).drew.frozen? ⟨w.heap.size, 0, none⟩ = false ∧
          Tab (W.setCell ⟨w.heap.size, 0, none⟩ (.int .u16 (bits .xor .u16 ((q : Int) / 256) (tab idx)))).drew w1.heap.size tab) ∧
        Below w.heap.size w (W.setCell ⟨w.heap.size, 0, none⟩ (.int .u16 (bits .xor .u16 ((q : Int) / 256) (tab idx)))).drew) := by
      have hv : bits .xor .u16 ((q : Int) / 256) (tab idx) = ((more c (pre ++ [x]) : Nat) : Int) := by
        rw [HM.out, ← HR.out, ← HX.out]; rfl
      rw [hv]
      refine ⟨((KeepsOthers.setCell _ _ _).trans (KeepsOthers.drew _)).from _, fun h => ?_, ⟨World.cell?_setCell_same _ _ _ hc, (World.frozen?_setCell _ _ _ _).trans hf, HT.out.set_other (by omega) _ _⟩, (HB.out.setCell (p := ⟨w.heap.size, 0, none⟩) (Nat.le_refl _) _).drew⟩
      exact (World.cell?_setCell_other _ _ _ _ (by intro e; have := congrArg Addr.block e; simp at this; omega)).trans h
    clear HX HM HR HT HB
    gi_wp2
    gi_region
    all_goals exact FIN.out
  case done =>
    rintro D ys W hD rfl ⟨⟨hc, hf, ht⟩, hB⟩ hK
    gi_wp2
    refine ⟨by simp, .inl ⟨_, _, rfl, run_takeDeferred hK, ?_⟩⟩
    exact ⟨_, results_tmp rfl _ _ _, rfl, hB.trans (belowK_b (w := w) (Nat.le_refl _) W D _ _ (by omega) hK rfl rfl)⟩
  case stop =>
    rintro D c pre W _ _ h _
    exact h.elim
theorem more_any (c : Nat) (s : ByteArray) (w : World) (hc : c < 65536) (hs : s.size ≤ maxLen) :
    Calls Try.prog 52 #[.int .u16 c, .string s] w fun e w' => e = .returned (.int .u16 (more c s.toList)) ∧ Below w.heap.size w w' := callsIn_wide.1 (more_in c s w hc hs)
end Go.Proofs.Ytfcmpnfdgfdclaa.Fcs
