/- Contracts of made, New. -/
import Derived.Test.YtikcgcgbcolndaaGreatIppA
import Derived.Deep.WholeRow
namespace Go.Proofs.YtikcgcgbcolndaaGreat.Ipp
open Go.RowKit Go.Proofs.YtikcgcgbcolndaaGreat.Oct Go.Proofs.YtikcgcgbcolndaaGreat.Row Go.Proofs.YtikcgcgbcolndaaGreat.Mem Go.Proofs.YtikcgcgbcolndaaGreat.Opt Go.Proofs.YtikcgcgbcolndaaGreat.Ipc

def zc : Conf := ⟨0, 0, 0, 0, false, 0⟩
def zp : Po := ⟨lz, zc, lz, lz, 0⟩
/-- A configuration in a block. -/
def CAt (w : World) (g : Nat) (c : Conf) : Prop := Blk w g (cv c) 48
theorem CAt.all {w : World} {g : Nat} {c : Conf} (h : CAt w g c) : w.cell? ⟨g, 0, none⟩ = some (.int .u32 c.addr.toNat) ∧ w.cell? ⟨g, 1, none⟩ = some (.int .u32 c.peer.toNat) ∧ w.cell? ⟨g, 2, none⟩ = some (.int .u32 c.dns1.toNat) ∧ w.cell? ⟨g, 3, none⟩ = some (.int .u32 c.dns2.toNat) ∧ w.cell? ⟨g, 4, none⟩ = some (.bool c.want) ∧ w.cell? ⟨g, 5, none⟩ = some (.int .i64 c.mn) := ⟨Blk.at_ h 0, Blk.at_ h 1, Blk.at_ h 2, Blk.at_ h 3, Blk.at_ h 4, Blk.at_ h 5⟩
theorem CAt.callee {w w' : World} {g : Nat} {c : Conf} (h : CAt w g c) (hb : Below w.heap.size w w') : CAt w' g c := Blk.callee h hb
theorem cat_new (w : World) (c : Conf) : CAt (w.alloc (.cells (cv c).toArray 48)) w.heap.size c := blk_new w (cv c) _
theorem boxC (w : World) (c : Conf) : ∃ W, w.alloc (.cells #[Value.int .u32 c.addr.toNat, .int .u32 c.peer.toNat, .int .u32 c.dns1.toNat, .int .u32 c.dns2.toNat, .bool c.want, .int .i64 c.mn] 48) = W ∧ Hid (CAt W w.heap.size c ∧ Below w.heap.size w W ∧ W.heap.size = w.heap.size + 1) :=
  ⟨_, rfl, cat_new w c, (Below.refl w.heap.size w).alloc (Nat.le_refl _) _, by simp⟩
set_option maxRecDepth 100000 in
theorem pol_size (p : Po) : (Tryz.prog.info? 102).map (·.size) = some (pv p).toArray.size := by
  rw [List.size_toArray]
  kernel_rfl
theorem lv_ones (x : Ipc) : ∀ v ∈ lv x, v.oneCell' = true := by
  intro v hv
  unfold lv at hv
  simp only [List.mem_cons, List.not_mem_nil, or_false] at hv
  rcases hv with rfl | rfl | rfl | rfl | rfl | rfl <;> rfl
theorem cv_ones (c : Conf) : ∀ v ∈ cv c, v.oneCell' = true := by
  intro v hv
  unfold cv at hv
  simp only [List.mem_cons, List.not_mem_nil, or_false] at hv
  rcases hv with rfl | rfl | rfl | rfl | rfl | rfl <;> rfl
theorem pv_one (p : Po) : (pv p).toArray.all (·.oneCell') = true := by
  refine all_oneCell_toArray fun v hv => ?_
  unfold pv at hv
  simp only [List.mem_append] at hv
  rcases hv with h | h | h | h | h
  · exact lv_ones _ v h
  · exact cv_ones _ v h
  · exact lv_ones _ v h
  · exact lv_ones _ v h
  · simp only [List.mem_cons, List.not_mem_nil, or_false] at h
    rcases h with rfl
    rfl
theorem pat_new (w : World) (p : Po) : PAt (w.alloc (.cells (pv p).toArray 102)) w.heap.size p := blk_new w (pv p) _
theorem pat_row {W : World} {g : Nat} {p : Po} (h : PAt W g p) (q : Po) : PAt (W.setRow g (pv q).toArray) g q := Blk.setRow h (pv q)
/-- A named result that is a policy. -/
theorem pol_end {f : Func} {r : Nat} (hf : f.results = #[.cell r 102]) (tmps : Array Value) {W : World} {g : Nat} (p : Po) (h : PAt W g p) (hp : tmps.getD r undef = .pointer (some ⟨g, 0, none⟩)) :
    (results f tmps).run Tryz.prog W = .ok (.agg (pv p).toArray) W := results_cell_row hf tmps W g _ _ _ _ hp h Tryz.underlying102 rfl (pol_size p)
theorem boxCP (w : World) (c : Conf) : ∃ W, (w.alloc (.cells #[Value.int .u32 c.addr.toNat, .int .u32 c.peer.toNat, .int .u32 c.dns1.toNat, .int .u32 c.dns2.toNat, .bool c.want, .int .i64 c.mn] 48)).alloc (.cells #[Value.bool false, .int .u32 0, .bool false, .int .u32 0, .bool false, .int .u32 0, .int .u32 0, .int .u32 0, .int .u32 0, .int .u32 0, .bool false, .int .i64 0, .bool false, .int .u32 0, .bool false, .int .u32 0, .bool false, .int .u32 0, .bool false, .int .u32 0, .bool false, .int .u32 0, .bool false, .int .u32 0, .int .i64 0] 102) = W ∧ Hid (CAt W w.heap.size c ∧ PAt W (w.heap.size + 1) zp ∧ Below w.heap.size w W ∧ W.heap.size = w.heap.size + 1 + 1) :=
  ⟨_, rfl, Blk.alloc (cat_new w c) _, by have := pat_new (w.alloc (.cells (cv c).toArray 48)) zp; rw [World.size_alloc] at this; exact this, ((Below.refl w.heap.size w).alloc (Nat.le_refl _) _).alloc (by simp) _, by simp⟩
/-- The wishes in a block. -/
def WAt (w : World) (g : Nat) (x : Ipc) : Prop := Blk w g (lv x) 100
theorem wat_new (w : World) (x : Ipc) : WAt (w.alloc (.cells (lv x).toArray 100)) w.heap.size x := blk_new w (lv x) _
theorem boxW (W : World) (c : Conf) : ∃ V, W.alloc (.cells #[Value.bool true, .int .u32 c.addr.toNat, .bool c.want, .int .u32 0, .bool c.want, .int .u32 0] 100) = V ∧ Hid (WAt V W.heap.size (wish c) ∧ Below W.heap.size W V) :=
  ⟨_, rfl, wat_new W (wish c), (Below.refl _ _).alloc (Nat.le_refl _) _⟩
theorem WAt.all {w : World} {g : Nat} {c : Conf} (h : WAt w g (wish c)) : w.cell? ⟨g, 0, none⟩ = some (Value.bool true) ∧ w.cell? ⟨g, 1, none⟩ = some (.int .u32 c.addr.toNat) ∧ w.cell? ⟨g, 2, none⟩ = some (.bool c.want) ∧ w.cell? ⟨g, 3, none⟩ = some (.int .u32 0) ∧ w.cell? ⟨g, 4, none⟩ = some (.bool c.want) ∧ w.cell? ⟨g, 5, none⟩ = some (.int .u32 0) :=
  ⟨Blk.at_ h 0, Blk.at_ h 1, Blk.at_ h 2, Blk.at_ h 3, Blk.at_ h 4, Blk.at_ h 5⟩
set_option maxHeartbeats 8000000 in
set_option maxRecDepth 100000 in
theorem made_any (c : Conf) (w : World) : Calls Tryz.prog 43 #[.agg #[Value.int .u32 c.addr.toNat, .int .u32 c.peer.toNat, .int .u32 c.dns1.toNat, .int .u32 c.dns2.toNat, .bool c.want, .int .i64 c.mn]] w fun e w' => e = .returned (.agg (pv (newP c)).toArray) ∧ Below w.heap.size w w' := by
  obtain ⟨W, hW, HW⟩ := boxCP w c
  obtain ⟨c0, c1, c2, c3, c4, c5⟩ := HW.out.1.all
  have HC := Lib.hid HW.out.1
  have HP := Lib.hid HW.out.2.1
  have HB := Lib.hid HW.out.2.2.1
  obtain ⟨V, hV, HV⟩ := boxW W c
  subst hV
  have HPV := Lib.hid (HP.out.callee HV.out.2)
  have HBV := Lib.hid (HB.out.trans (HV.out.2.mono HB.out.size))
  obtain ⟨d0, d1, d2, d3, d4, d5⟩ := (HC.out.callee HV.out.2).all
  obtain ⟨x0, x1, x2, x3, x4, x5⟩ := WAt.all HV.out.1
  have HN := Lib.hid (pol_size (newP c))
  have HQ : Hid ((pv (newP c)).toArray = #[Value.bool true, .int .u32 c.addr.toNat, .bool c.want, .int .u32 0, .bool c.want, .int .u32 0, .int .u32 c.addr.toNat, .int .u32 c.peer.toNat, .int .u32 c.dns1.toNat, .int .u32 c.dns2.toNat, .bool c.want, .int .i64 c.mn, .bool false, .int .u32 0, .bool false, .int .u32 0, .bool false, .int .u32 0, .bool false, .int .u32 0, .bool false, .int .u32 0, .bool false, .int .u32 0, .int .i64 0]) := rfl
  clear HW HV HC HP HB
  go_enter Tryz.func43, Tryz.ntmps43
  go_wp2_with (refine wpList_store_row rfl 102 _ _ rfl (w.heap.size + 1) (pv (newP c)).toArray rfl (by rw [HQ.out] <;> rfl) 102 _ HPV.out HN.out rfl (pv_one _) ?_)
  (try simp only [Exit.inBlock, Exit.then])
  refine bodyPost_ret (pol_end rfl _ (newP c) (pat_row HPV.out (newP c)) rfl) rfl ?_
  exact ⟨rfl, HBV.out.trans ((moves_row _ (w.heap.size + 1) _).below HBV.out.size (fun k e => by rw [e]; exact Nat.le_succ _))⟩
set_option maxRecDepth 100000 in
theorem info_pol : (Tryz.prog.info? 102).map (fun i => (i.zero, i.size)) = some (some (.agg (pv zp).toArray), 25) := by kernel_rfl
theorem zero_pol (w : World) : (zeroValue 102).run Tryz.prog w = .ok (.agg (pv zp).toArray) w := (zero_of_info info_pol).1 w
/-- What New answers. -/
def NewQ (p : Po) (w : World) (e : Ending) (w' : World) : Prop := ∃ g, e = .returned (.tuple #[.pointer (some ⟨g, 0, none⟩), .int .i64 0]) ∧ w.heap.size ≤ g ∧ PAt w' g p ∧ Below w.heap.size w w'
set_option maxHeartbeats 4000000 in
set_option maxRecDepth 100000 in
theorem new_ok (c : Conf) (w : World) (h : mayC c = true) : Calls Tryz.prog 27 #[.agg #[Value.int .u32 c.addr.toNat, .int .u32 c.peer.toNat, .int .u32 c.dns1.toNat, .int .u32 c.dns2.toNat, .bool c.want, .int .i64 c.mn]] w (NewQ (newP c) w) := by
  obtain ⟨W, hW, HW⟩ := boxC w c
  obtain ⟨c0, c1, c2, c3, c4, c5⟩ := HW.out.1.all
  have HB := Lib.hid HW.out.2.1
  have hmn : ¬ c.mn < 1 ∧ ¬ 10 < c.mn := by unfold mayC at h; simp only [Bool.and_eq_true, decide_eq_true_eq] at h; omega
  have m1 := hmn.1
  have m2 := hmn.2
  have n1 := decide_eq_false hmn.1
  have n2 := decide_eq_false hmn.2
  have HM := Lib.hid (fun w => made_any c w)
  have HN := Lib.hid (pol_size (newP c))
  have HO := Lib.hid (pv_one (newP c))
  have HE : Hid (∀ W : World, PAt (W.alloc (.cells (pv (newP c)).toArray 102)) W.heap.size (newP c)) := fun W => pat_new W _
  have HZ : Hid ((pv zp).toArray.size = (pv (newP c)).toArray.size) := rfl
  have hz := zero_pol
  generalize (pv zp).toArray = zs at *
  generalize (pv (newP c)).toArray = cs at *
  clear h HW hmn
  go_enter Tryz.func27, Tryz.ntmps27
  go_wp2_with fail
  refine (HM.out _).mono ?_
  rintro e w2 ⟨rfl, hb2⟩
  have HB2 := Lib.hid (HB.out.trans (hb2.mono HB.out.size))
  clear hb2
  go_wp2_with (refine wpList_store_row rfl 102 _ _ rfl w2.heap.size cs rfl rfl 102 zs (World.alloc_heap_new w2 _) HN.out HZ.out HO.out ?_)
  go_ret2
  rw [World.setRow_alloc_new]
  exact ⟨_, rfl, HB2.out.size, HE.out w2, HB2.out.alloc HB2.out.size _⟩
set_option maxHeartbeats 4000000 in
set_option maxRecDepth 100000 in
theorem new_no (c : Conf) (w : World) (h : mayC c = false) : Calls Tryz.prog 27 #[.agg #[Value.int .u32 c.addr.toNat, .int .u32 c.peer.toNat, .int .u32 c.dns1.toNat, .int .u32 c.dns2.toNat, .bool c.want, .int .i64 c.mn]] w fun e w' => e = .returned (.tuple #[.pointer none, .int .i64 2]) ∧ Below w.heap.size w w' := by
  obtain ⟨W, hW, HW⟩ := boxC w c
  obtain ⟨c0, c1, c2, c3, c4, c5⟩ := HW.out.1.all
  have HB := Lib.hid HW.out.2.1
  by_cases hl : c.mn < 1
  · have n1 := decide_eq_true hl
    clear h HW
    go_enter Tryz.func27, Tryz.ntmps27
    go_wp2
    go_ret2
    exact ⟨rfl, HB.out⟩
  · have n1 := decide_eq_false hl
    have hg : 10 < c.mn := by unfold mayC at h; simp only [Bool.and_eq_false_iff, decide_eq_false_iff_not] at h; omega
    have n2 := decide_eq_true hg
    clear h HW
    go_enter Tryz.func27, Tryz.ntmps27
    go_wp2
    go_ret2
    exact ⟨rfl, HB.out⟩
end Go.Proofs.YtikcgcgbcolndaaGreat.Ipp
