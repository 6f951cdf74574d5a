/- Put together: IppN, IppK, IppG. -/
import Derived.Test.YthoangihndplkaaGIpcA
import Derived.Deep.WholeRow
import Derived.Test.YthoangihndplkaaOptsApp
import Derived.Test.YthoangihndplkaaGIpcB
import Derived.Deep.RegionHeld3
import Derived.OrdersHeld

/- Contracts of made, New. -/
namespace Go.Proofs.Ythoangihndplkaa.Ipp
open Go.RowKit Go.Proofs.Ythoangihndplkaa.Oct Go.Proofs.Ythoangihndplkaa.Row Go.Proofs.Ythoangihndplkaa.Mem Go.Proofs.Ythoangihndplkaa.Opt Go.Proofs.Ythoangihndplkaa.Ipc

def zc : Conf := ⟨0, 0, 0, 0, false, 0⟩
def zp : Po := ⟨lz, zc, lz, lz, 0⟩
/-- A configuration in a block. -/
def CAt (w : World) (g : Nat) (c : Conf) : Prop := Blk w g (cv c) 24
theorem CAt.all {w : World} {g : Nat} {c : Conf} (h : CAt w g c) : w.cell? ⟨g, 0, none⟩ = some (.int .u32 c.addr.toNat) ∧ w.cell? ⟨g, 1, none⟩ = some (.int .u32 c.peer.toNat) ∧ w.cell? ⟨g, 2, none⟩ = some (.int .u32 c.dns1.toNat) ∧ w.cell? ⟨g, 3, none⟩ = some (.int .u32 c.dns2.toNat) ∧ w.cell? ⟨g, 4, none⟩ = some (.bool c.want) ∧ w.cell? ⟨g, 5, none⟩ = some (.int .i64 c.mn) := ⟨Blk.at_ h 0, Blk.at_ h 1, Blk.at_ h 2, Blk.at_ h 3, Blk.at_ h 4, Blk.at_ h 5⟩
theorem CAt.callee {w w' : World} {g : Nat} {c : Conf} (h : CAt w g c) (hb : Below w.heap.size w w') : CAt w' g c := Blk.callee h hb
theorem cat_new (w : World) (c : Conf) : CAt (w.alloc (.cells (cv c).toArray 24)) w.heap.size c := blk_new w (cv c) _
theorem boxC (w : World) (c : Conf) : ∃ W, w.alloc (.cells #[Value.int .u32 c.addr.toNat, .int .u32 c.peer.toNat, .int .u32 c.dns1.toNat, .int .u32 c.dns2.toNat, .bool c.want, .int .i64 c.mn] 24) = W ∧ Hid (CAt W w.heap.size c ∧ Below w.heap.size w W ∧ W.heap.size = w.heap.size + 1) :=
  ⟨_, rfl, cat_new w c, (Below.refl w.heap.size w).alloc (Nat.le_refl _) _, by simp⟩
set_option maxRecDepth 100000 in
theorem pol_size (p : Po) : (Try.prog.info? 68).map (·.size) = some (pv p).toArray.size := by
  rw [List.size_toArray]
  kernel_rfl
theorem lv_ones (x : Ipc) : ∀ v ∈ lv x, v.oneCell' = true := by
  intro v hv
  unfold lv at hv
  simp only [List.mem_cons, List.not_mem_nil, or_false] at hv
  rcases hv with rfl | rfl | rfl | rfl | rfl | rfl <;> rfl
theorem cv_ones (c : Conf) : ∀ v ∈ cv c, v.oneCell' = true := by
  intro v hv
  unfold cv at hv
  simp only [List.mem_cons, List.not_mem_nil, or_false] at hv
  rcases hv with rfl | rfl | rfl | rfl | rfl | rfl <;> rfl
theorem pv_one (p : Po) : (pv p).toArray.all (·.oneCell') = true := by
  refine all_oneCell_toArray fun v hv => ?_
  unfold pv at hv
  simp only [List.mem_append] at hv
  rcases hv with h | h | h | h | h
  · exact lv_ones _ v h
  · exact cv_ones _ v h
  · exact lv_ones _ v h
  · exact lv_ones _ v h
  · simp only [List.mem_cons, List.not_mem_nil, or_false] at h
    rcases h with rfl
    rfl
theorem pat_new (w : World) (p : Po) : PAt (w.alloc (.cells (pv p).toArray 68)) w.heap.size p := blk_new w (pv p) _
theorem pat_row {W : World} {g : Nat} {p : Po} (h : PAt W g p) (q : Po) : PAt (W.setRow g (pv q).toArray) g q := Blk.setRow h (pv q)
/-- A named result that is a policy. -/
theorem pol_end {f : Func} {r : Nat} (hf : f.results = #[.cell r 68]) (tmps : Array Value) {W : World} {g : Nat} (p : Po) (h : PAt W g p) (hp : tmps.getD r undef = .pointer (some ⟨g, 0, none⟩)) :
    (results f tmps).run Try.prog W = .ok (.agg (pv p).toArray) W := results_cell_row hf tmps W g _ _ _ _ hp h Try.underlying68 rfl (pol_size p)
theorem boxCP (w : World) (c : Conf) : ∃ W, (w.alloc (.cells #[Value.int .u32 c.addr.toNat, .int .u32 c.peer.toNat, .int .u32 c.dns1.toNat, .int .u32 c.dns2.toNat, .bool c.want, .int .i64 c.mn] 24)).alloc (.cells #[Value.bool false, .int .u32 0, .bool false, .int .u32 0, .bool false, .int .u32 0, .int .u32 0, .int .u32 0, .int .u32 0, .int .u32 0, .bool false, .int .i64 0, .bool false, .int .u32 0, .bool false, .int .u32 0, .bool false, .int .u32 0, .bool false, .int .u32 0, .bool false, .int .u32 0, .bool false, .int .u32 0, .int .i64 0] 68) = W ∧ Hid (CAt W w.heap.size c ∧ PAt W (w.heap.size + 1) zp ∧ Below w.heap.size w W ∧ W.heap.size = w.heap.size + 1 + 1) :=
  ⟨_, rfl, Blk.alloc (cat_new w c) _, by have := pat_new (w.alloc (.cells (cv c).toArray 24)) zp; rw [World.size_alloc] at this; exact this, ((Below.refl w.heap.size w).alloc (Nat.le_refl _) _).alloc (by simp) _, by simp⟩
/-- The wishes in a block. -/
def WAt (w : World) (g : Nat) (x : Ipc) : Prop := Blk w g (lv x) 66
theorem wat_new (w : World) (x : Ipc) : WAt (w.alloc (.cells (lv x).toArray 66)) w.heap.size x := blk_new w (lv x) _
theorem boxW (W : World) (c : Conf) : ∃ V, W.alloc (.cells #[Value.bool true, .int .u32 c.addr.toNat, .bool c.want, .int .u32 0, .bool c.want, .int .u32 0] 66) = V ∧ Hid (WAt V W.heap.size (wish c) ∧ Below W.heap.size W V) :=
  ⟨_, rfl, wat_new W (wish c), (Below.refl _ _).alloc (Nat.le_refl _) _⟩
theorem WAt.all {w : World} {g : Nat} {c : Conf} (h : WAt w g (wish c)) : w.cell? ⟨g, 0, none⟩ = some (Value.bool true) ∧ w.cell? ⟨g, 1, none⟩ = some (.int .u32 c.addr.toNat) ∧ w.cell? ⟨g, 2, none⟩ = some (.bool c.want) ∧ w.cell? ⟨g, 3, none⟩ = some (.int .u32 0) ∧ w.cell? ⟨g, 4, none⟩ = some (.bool c.want) ∧ w.cell? ⟨g, 5, none⟩ = some (.int .u32 0) :=
  ⟨Blk.at_ h 0, Blk.at_ h 1, Blk.at_ h 2, Blk.at_ h 3, Blk.at_ h 4, Blk.at_ h 5⟩
set_option maxHeartbeats 8000000 in
set_option maxRecDepth 100000 in
theorem made_any (c : Conf) (w : World) : Calls Try.prog 37 #[.agg #[Value.int .u32 c.addr.toNat, .int .u32 c.peer.toNat, .int .u32 c.dns1.toNat, .int .u32 c.dns2.toNat, .bool c.want, .int .i64 c.mn]] w fun e w' => e = .returned (.agg (pv (newP c)).toArray) ∧ Below w.heap.size w w' := by
  obtain ⟨W, hW, HW⟩ := boxCP w c
  obtain ⟨c0, c1, c2, c3, c4, c5⟩ := HW.out.1.all
  have HC := Lib.hid HW.out.1
  have HP := Lib.hid HW.out.2.1
  have HB := Lib.hid HW.out.2.2.1
  obtain ⟨V, hV, HV⟩ := boxW W c
  subst hV
  have HPV := Lib.hid (HP.out.callee HV.out.2)
  have HBV := Lib.hid (HB.out.trans (HV.out.2.mono HB.out.size))
  obtain ⟨d0, d1, d2, d3, d4, d5⟩ := (HC.out.callee HV.out.2).all
  obtain ⟨x0, x1, x2, x3, x4, x5⟩ := WAt.all HV.out.1
  have HN := Lib.hid (pol_size (newP c))
  have HQ : Hid ((pv (newP c)).toArray = #[Value.bool true, .int .u32 c.addr.toNat, .bool c.want, .int .u32 0, .bool c.want, .int .u32 0, .int .u32 c.addr.toNat, .int .u32 c.peer.toNat, .int .u32 c.dns1.toNat, .int .u32 c.dns2.toNat, .bool c.want, .int .i64 c.mn, .bool false, .int .u32 0, .bool false, .int .u32 0, .bool false, .int .u32 0, .bool false, .int .u32 0, .bool false, .int .u32 0, .bool false, .int .u32 0, .int .i64 0]) := rfl
  clear HW HV HC HP HB
  go_enter Try.func37, Try.ntmps37
  go_wp2_with (refine wpList_store_row rfl 68 _ _ rfl (w.heap.size + 1) (pv (newP c)).toArray rfl (by rw [HQ.out] <;> rfl) 68 _ HPV.out HN.out rfl (pv_one _) ?_)
  (try simp only [Exit.inBlock, Exit.then])
  refine bodyPost_ret (pol_end rfl _ (newP c) (pat_row HPV.out (newP c)) rfl) rfl ?_
  exact ⟨rfl, HBV.out.trans ((moves_row _ (w.heap.size + 1) _).below HBV.out.size (fun k e => by rw [e]; exact Nat.le_succ _))⟩
set_option maxRecDepth 100000 in
theorem info_pol : (Try.prog.info? 68).map (fun i => (i.zero, i.size)) = some (some (.agg (pv zp).toArray), 25) := by kernel_rfl
theorem zero_pol (w : World) : (zeroValue 68).run Try.prog w = .ok (.agg (pv zp).toArray) w := (zero_of_info info_pol).1 w
/-- What New answers. -/
def NewQ (p : Po) (w : World) (e : Ending) (w' : World) : Prop := ∃ g, e = .returned (.tuple #[.pointer (some ⟨g, 0, none⟩), .int .i64 0]) ∧ w.heap.size ≤ g ∧ PAt w' g p ∧ Below w.heap.size w w'
set_option maxHeartbeats 4000000 in
set_option maxRecDepth 100000 in
theorem new_ok (c : Conf) (w : World) (h : mayC c = true) : Calls Try.prog 16 #[.agg #[Value.int .u32 c.addr.toNat, .int .u32 c.peer.toNat, .int .u32 c.dns1.toNat, .int .u32 c.dns2.toNat, .bool c.want, .int .i64 c.mn]] w (NewQ (newP c) w) := by
  obtain ⟨W, hW, HW⟩ := boxC w c
  obtain ⟨c0, c1, c2, c3, c4, c5⟩ := HW.out.1.all
  have HB := Lib.hid HW.out.2.1
  have hmn : ¬ c.mn < 1 ∧ ¬ 10 < c.mn := by unfold mayC at h; simp only [Bool.and_eq_true, decide_eq_true_eq] at h; omega
  have m1 := hmn.1
  have m2 := hmn.2
  have n1 := decide_eq_false hmn.1
  have n2 := decide_eq_false hmn.2
  have HM := Lib.hid (fun w => made_any c w)
  have HN := Lib.hid (pol_size (newP c))
  have HO := Lib.hid (pv_one (newP c))
  have HE : Hid (∀ W : World, PAt (W.alloc (.cells (pv (newP c)).toArray 68)) W.heap.size (newP c)) := fun W => pat_new W _
  have HZ : Hid ((pv zp).toArray.size = (pv (newP c)).toArray.size) := rfl
  have hz := zero_pol
  generalize (pv zp).toArray = zs at *
  generalize (pv (newP c)).toArray = cs at *
  clear h HW hmn
  go_enter Try.func16, Try.ntmps16
  go_wp2_with fail
  refine (HM.out _).mono ?_
  rintro e w2 ⟨rfl, hb2⟩
  have HB2 := Lib.hid (HB.out.trans (hb2.mono HB.out.size))
  clear hb2
  go_wp2_with (refine wpList_store_row rfl 68 _ _ rfl w2.heap.size cs rfl rfl 68 zs (World.alloc_heap_new w2 _) HN.out HZ.out HO.out ?_)
  go_ret2
  rw [World.setRow_alloc_new]
  exact ⟨_, rfl, HB2.out.size, HE.out w2, HB2.out.alloc HB2.out.size _⟩
set_option maxHeartbeats 4000000 in
set_option maxRecDepth 100000 in
theorem new_no (c : Conf) (w : World) (h : mayC c = false) : Calls Try.prog 16 #[.agg #[Value.int .u32 c.addr.toNat, .int .u32 c.peer.toNat, .int .u32 c.dns1.toNat, .int .u32 c.dns2.toNat, .bool c.want, .int .i64 c.mn]] w fun e w' => e = .returned (.tuple #[.pointer none, .int .i64 2]) ∧ Below w.heap.size w w' := by
  obtain ⟨W, hW, HW⟩ := boxC w c
  obtain ⟨c0, c1, c2, c3, c4, c5⟩ := HW.out.1.all
  have HB := Lib.hid HW.out.2.1
  by_cases hl : c.mn < 1
  · have n1 := decide_eq_true hl
    clear h HW
    go_enter Try.func16, Try.ntmps16
    go_wp2
    go_ret2
    exact ⟨rfl, HB.out⟩
  · have n1 := decide_eq_false hl
    have hg : 10 < c.mn := by unfold mayC at h; simp only [Bool.and_eq_false_iff, decide_eq_false_iff_not] at h; omega
    have n2 := decide_eq_true hg
    clear h HW
    go_enter Try.func16, Try.ntmps16
    go_wp2
    go_ret2
    exact ⟨rfl, HB.out⟩
end Go.Proofs.Ythoangihndplkaa.Ipp

/- Contracts of Clone, rejects. -/
namespace Go.Proofs.Ythoangihndplkaa.Ipp
open Go.RowKit Go.Proofs.Ythoangihndplkaa.Oct Go.Proofs.Ythoangihndplkaa.Row Go.Proofs.Ythoangihndplkaa.Mem Go.Proofs.Ythoangihndplkaa.Opt Go.Proofs.Ythoangihndplkaa.Ipc

/-- A row that is handed back. -/
def CpQ (l : List Opt) (n : Nat) (w : World) (e : Ending) (w' : World) : Prop := ∃ A c, e = .returned (.slice A n c) ∧ Opts w' w'.heap.size A n l ∧ (A = none → c = 0) ∧ Below w.heap.size w w'
theorem own_empty (w : World) (e : TypeId) (size : Nat) : (w.alloc (.cells #[] e)).ownsRow w.heap.size e size (.slice (some ⟨w.heap.size, 0, none⟩) 0 0) 0 [] :=
  ⟨by simp, .inr ⟨w.heap.size, 0, #[], rfl, Nat.le_refl _, World.alloc_heap_new w _, Nat.le_refl _, Nat.zero_le _, by simp, by simp⟩⟩
theorem eql_nil (t e : TypeId) (a : Option Addr) (l c : Nat) (h : Try.prog.underlying t = some (.slice e)) (w : World) : (binOp .eql t (.slice a l c) (.slice none 0 0)).run Try.prog w = .ok (.bool a.isNone) w := by
  have := run_equal_slice_nil (P := Try.prog) w t e a l c h
  simp [binOp, this]
set_option maxHeartbeats 1000000 in
set_option maxRecDepth 100000 in
theorem clone_any (l : List Opt) (A : Option Addr) (n c : Nat) (w : World) (hl : Opts w w.heap.size A n l) (hA : A = none → c = 0) (hn : n ≤ 1000) :
    Calls Try.prog 32 #[.slice A n c] w (CpQ l n w) := by
  obtain ⟨i0, hi, hz0, hz1, hz2⟩ := info_parts Try.info48
  cases A with
  | none =>
    have hc := hA rfl
    subst hc
    have hn0 : n = 0 := by
      rcases Nat.eq_zero_or_pos n with h0 | h0
      · exact h0
      · obtain ⟨ad, e', _⟩ := hl.2.2 h0
        cases e'
    subst hn0
    have HL := Lib.hid hl
    have hE := eql_nil 29 _ none 0 0 Try.underlying29
    simp only [Option.isNone_none] at hE
    clear hl hA
    go_enter Try.func32, Try.ntmps32
    go_wp2
    go_ret
    exact ⟨none, 0, rfl, HL.out, (fun _ => rfl), Below.refl _ _⟩
  | some ad =>
    have HL := Lib.hid (hl.laid (.cells #[] 48))
    have HZ := Lib.hid hl.2.1
    have HB : Hid (Below w.heap.size w (w.alloc (.cells #[] 48))) := (Below.refl _ _).alloc (Nat.le_refl _) _
    have HO := Lib.hid (own_empty w 48 2)
    have hE := eql_nil 29 _ (some ad) n c Try.underlying29
    simp only [Option.isNone_some] at hE
    have HS : Hid (w.heap.size ≤ (w.alloc (.cells #[] 48)).heap.size) := HB.out.size
    clear hl hA
    go_enter Try.func32, Try.ntmps32
    go_wp2_with (at_builtin; refine append_opts rfl _ _ 29 rfl w.heap.size 48 i0 _ 24 Try.underlying29 hi hz0 hz1 hz2 rfl _ 0 [] rfl HO.out _ (some ad) n c l (fun e => by cases e) rfl HL.out (by unfold maxLen; omega) (by omega) HS.out ?_; intro v1 w2 hown1 hgr1; have Hown1 := Lib.hid hown1; have Hgr1 := Lib.hid hgr1; clear hown1 hgr1)
    go_ret
    have h1 := Hown1.out
    rw [List.nil_append, Nat.zero_add] at h1
    obtain ⟨A1, c1, e1, hO⟩ := opts_own h1 HZ.out
    have hB2 : Below w.heap.size w w2 := HB.out.grown Hgr1.out HS.out (fun q hq => (HO.out.lt q hq).1)
    refine ⟨A1, c1, by rw [← e1] <;> rfl, hO, fun e => ?_, hB2⟩
    subst e
    subst e1
    rcases h1.2 with ⟨h2, _⟩ | ⟨g, cap, cur, h2, _⟩
    · cases h2; rfl
    · cases h2
set_option maxHeartbeats 400000 in
set_option maxRecDepth 100000 in
theorem rejects_any (g : Nat) (p : Po) (v : Value) (w : World) (h : PAt w g p) : Calls Try.prog 30 #[.pointer (some ⟨g, 0, none⟩), v] w fun e w' => e = .returned (.tuple #[.int .u8 4, v]) ∧ w' = w.setCell ⟨g, 24, none⟩ (.int .i64 0) := by
  have c := h.c 24
  have c37 : w.cell? ⟨g, 24, none⟩ = some (.int .i64 p.naks) := c
  have f37 := h.f 24
  clear c h
  go_enter Try.func30, Try.ntmps30
  go_wp2
  go_ret2
  exact ⟨rfl, rfl⟩
end Go.Proofs.Ythoangihndplkaa.Ipp

/- Contracts of the program's getters, list, Request, Copy, Reset. -/
set_option linter.unusedSimpArgs false
set_option linter.unusedVariables false
namespace Go.Proofs.Ythoangihndplkaa.Ipp
open Go.RowKit Go.Proofs.Ythoangihndplkaa.Oct Go.Proofs.Ythoangihndplkaa.Row Go.Proofs.Ythoangihndplkaa.Mem Go.Proofs.Ythoangihndplkaa.Opt Go.Proofs.Ythoangihndplkaa.Ipc

theorem boxZ (w : World) : ∃ V, w.alloc (.cells #[Value.bool false, .int .u32 0, .bool false, .int .u32 0, .bool false, .int .u32 0] 35) = V ∧ Hid (LAt V w.heap.size lz ∧ Below w.heap.size w V ∧ V.heap.size = w.heap.size + 1) :=
  ⟨_, rfl, lat_new w lz, (Below.refl w.heap.size w).alloc (Nat.le_refl _) _, by simp⟩
set_option maxHeartbeats 1000000 in
set_option maxRecDepth 100000 in
theorem peer_any (g : Nat) (p : Po) (w : World) (h : PAt w g p) : Calls Try.prog 13 #[.pointer (some ⟨g, 0, none⟩)] w (BetQ p.peer w) := by
  have HP := Lib.hid h
  clear h
  obtain ⟨V, hV, HV⟩ := boxZ w
  have HQ : Hid (PAt V g p) := HP.out.callee HV.out.2.1
  have p18 : V.cell? ⟨g, 18, none⟩ = some (Value.bool p.peer.ha) := HQ.out.c 18
  have p19 : V.cell? ⟨g, 19, none⟩ = some (.int .u32 p.peer.addr.toNat) := HQ.out.c 19
  have p20 : V.cell? ⟨g, 20, none⟩ = some (Value.bool p.peer.h1) := HQ.out.c 20
  have p21 : V.cell? ⟨g, 21, none⟩ = some (.int .u32 p.peer.dns1.toNat) := HQ.out.c 21
  have p22 : V.cell? ⟨g, 22, none⟩ = some (Value.bool p.peer.h2) := HQ.out.c 22
  have p23 : V.cell? ⟨g, 23, none⟩ = some (.int .u32 p.peer.dns2.toNat) := HQ.out.c 23
  have HN := Lib.hid (ipc_size p.peer)
  have HZ := Lib.hid HV.out.1
  have HB := Lib.hid HV.out.2.1
  go_enter Try.func13, Try.ntmps13
  go_wp2_with (refine wpList_store_row rfl 35 _ _ rfl w.heap.size (lv p.peer).toArray rfl rfl 35 _ HZ.out HN.out rfl (lv_one _) ?_)
  (try simp only [Exit.inBlock, Exit.then])
  refine bodyPost_ret (bet_res rfl _ p.peer HZ.out rfl) rfl ?_
  exact bet_q p.peer HB.out (Nat.le_refl _)
set_option maxHeartbeats 1000000 in
set_option maxRecDepth 100000 in
theorem mine_any (g : Nat) (p : Po) (w : World) (h : PAt w g p) : Calls Try.prog 12 #[.pointer (some ⟨g, 0, none⟩)] w (BetQ p.mine w) := by
  have HP := Lib.hid h
  clear h
  obtain ⟨V, hV, HV⟩ := boxZ w
  have HQ : Hid (PAt V g p) := HP.out.callee HV.out.2.1
  have p12 : V.cell? ⟨g, 12, none⟩ = some (Value.bool p.mine.ha) := HQ.out.c 12
  have p13 : V.cell? ⟨g, 13, none⟩ = some (.int .u32 p.mine.addr.toNat) := HQ.out.c 13
  have p14 : V.cell? ⟨g, 14, none⟩ = some (Value.bool p.mine.h1) := HQ.out.c 14
  have p15 : V.cell? ⟨g, 15, none⟩ = some (.int .u32 p.mine.dns1.toNat) := HQ.out.c 15
  have p16 : V.cell? ⟨g, 16, none⟩ = some (Value.bool p.mine.h2) := HQ.out.c 16
  have p17 : V.cell? ⟨g, 17, none⟩ = some (.int .u32 p.mine.dns2.toNat) := HQ.out.c 17
  have HN := Lib.hid (ipc_size p.mine)
  have HZ := Lib.hid HV.out.1
  have HB := Lib.hid HV.out.2.1
  go_enter Try.func12, Try.ntmps12
  go_wp2_with (refine wpList_store_row rfl 35 _ _ rfl w.heap.size (lv p.mine).toArray rfl rfl 35 _ HZ.out HN.out rfl (lv_one _) ?_)
  (try simp only [Exit.inBlock, Exit.then])
  refine bodyPost_ret (bet_res rfl _ p.mine HZ.out rfl) rfl ?_
  exact bet_q p.mine HB.out (Nat.le_refl _)
set_option maxHeartbeats 8000000 in
set_option maxRecDepth 100000 in
theorem wish_any (g : Nat) (p : Po) (w : World) (h : PAt w g p) : Calls Try.prog 11 #[.pointer (some ⟨g, 0, none⟩)] w (BetQ p.w w) := by
  have HN := Lib.hid h.lt
  obtain ⟨W, hW, HV⟩ := boxZ w
  have HP : Hid (PAt W g p) := h.callee HV.out.2.1
  have HZ := Lib.hid HV.out.1
  have HB := Lib.hid HV.out.2.1
  obtain ⟨p0, p1, p2, p3, p4, p5⟩ := HP.out.wish
  have z0 : W.drew.cell? ⟨w.heap.size, 0, none⟩ = some (Value.bool false) := HZ.out.c 0
  have z1 : W.drew.cell? ⟨w.heap.size, 1, none⟩ = some (.int .u32 0) := HZ.out.c 1
  have z2 : W.drew.cell? ⟨w.heap.size, 2, none⟩ = some (.bool false) := HZ.out.c 2
  have z3 : W.drew.cell? ⟨w.heap.size, 3, none⟩ = some (.int .u32 0) := HZ.out.c 3
  have z4 : W.drew.cell? ⟨w.heap.size, 4, none⟩ = some (.bool false) := HZ.out.c 4
  have z5 : W.drew.cell? ⟨w.heap.size, 5, none⟩ = some (.int .u32 0) := HZ.out.c 5
  have f0 : W.drew.frozen? ⟨w.heap.size, 0, none⟩ = false := HZ.out.f 0
  have f1 : W.drew.frozen? ⟨w.heap.size, 1, none⟩ = false := HZ.out.f 1
  have f2 : W.drew.frozen? ⟨w.heap.size, 2, none⟩ = false := HZ.out.f 2
  have f3 : W.drew.frozen? ⟨w.heap.size, 3, none⟩ = false := HZ.out.f 3
  have f4 : W.drew.frozen? ⟨w.heap.size, 4, none⟩ = false := HZ.out.f 4
  have f5 : W.drew.frozen? ⟨w.heap.size, 5, none⟩ = false := HZ.out.f 5
  clear h HV
  go_enter Try.func11, Try.ntmps11
  go_wp2_with fail
  clear hW
  refine wp_region_held_drew (S := (fun w' => w'.cell? ⟨g, 0, none⟩ = some (Value.bool p.w.ha) ∧ w'.cell? ⟨g, 1, none⟩ = some (.int .u32 p.w.addr.toNat) ∧ w'.cell? ⟨g, 2, none⟩ = some (.bool p.w.h1) ∧ w'.cell? ⟨g, 3, none⟩ = some (.int .u32 p.w.dns1.toNat) ∧ w'.cell? ⟨g, 4, none⟩ = some (.bool p.w.h2) ∧ w'.cell? ⟨g, 5, none⟩ = some (.int .u32 p.w.dns2.toNat))) (by kernel_rfl) ⟨p0, p1, p2, p3, p4, p5⟩ (fun hHeld => ?_)
  have HPu : Hid (PAt W.drew g p) := HP.out
  have HZu : Hid (LAt W.drew w.heap.size lz) := HZ.out
  have HBu : Hid (Below w.heap.size w W.drew) := HB.out.drew
  clear HP HZ HB p0 p1 p2 p3 p4 p5
  generalize W.drew = U at *
  refine wpAnyH_take (i := 0) (v := ?vv0_1) rfl (by kernel_rfl) (by kernel_rfl) (by kernel_rfl) (fun _ _ _ h => h) (Or.inl ⟨by rfl, ?yy0_1⟩) (by assumption) ?rr0_1
  case yy0_1 => (intro w hSw; (try dsimp only at hSw); obtain ⟨hs0, hs1, hs2, hs3, hs4, hs5⟩ := hSw; (try simp only [List.getElem_toArray, List.getElem_cons_succ, List.getElem_cons_zero, Act.put, List.setIfInBounds_toArray, List.set_cons_zero, List.set_cons_succ]); go_simp; (try (with_reducible rfl)))
  try simp only [List.getElem_toArray, List.getElem_cons_succ, List.getElem_cons_zero, Act.put, List.setIfInBounds_toArray, List.set_cons_zero, List.set_cons_succ]
  refine wpAnyH_take (i := 1) (v := ?vv1_2) rfl (by kernel_rfl) (by kernel_rfl) (by kernel_rfl) (fun _ _ _ h => h) (Or.inl ⟨by rfl, ?yy1_2⟩) (by assumption) ?rr1_2
  case yy1_2 => (intro w hSw; (try dsimp only at hSw); obtain ⟨hs0, hs1, hs2, hs3, hs4, hs5⟩ := hSw; (try simp only [List.getElem_toArray, List.getElem_cons_succ, List.getElem_cons_zero, Act.put, List.setIfInBounds_toArray, List.set_cons_zero, List.set_cons_succ]); go_simp; (try (with_reducible rfl)))
  try simp only [List.getElem_toArray, List.getElem_cons_succ, List.getElem_cons_zero, Act.put, List.setIfInBounds_toArray, List.set_cons_zero, List.set_cons_succ]
  refine wpAnyH_take (i := 2) (v := ?vv2_3) rfl (by kernel_rfl) (by kernel_rfl) (by kernel_rfl) (fun _ _ _ h => h) (Or.inl ⟨by rfl, ?yy2_3⟩) (by assumption) ?rr2_3
  case yy2_3 => (intro w hSw; (try dsimp only at hSw); obtain ⟨hs0, hs1, hs2, hs3, hs4, hs5⟩ := hSw; (try simp only [List.getElem_toArray, List.getElem_cons_succ, List.getElem_cons_zero, Act.put, List.setIfInBounds_toArray, List.set_cons_zero, List.set_cons_succ]); go_simp; (try (with_reducible rfl)))
  try simp only [List.getElem_toArray, List.getElem_cons_succ, List.getElem_cons_zero, Act.put, List.setIfInBounds_toArray, List.set_cons_zero, List.set_cons_succ]
  refine wpAnyH_take (i := 3) (v := ?vv3_4) rfl (by kernel_rfl) (by kernel_rfl) (by kernel_rfl) (fun _ _ _ h => h) (Or.inl ⟨by rfl, ?yy3_4⟩) (by assumption) ?rr3_4
  case yy3_4 => (intro w hSw; (try dsimp only at hSw); obtain ⟨hs0, hs1, hs2, hs3, hs4, hs5⟩ := hSw; (try simp only [List.getElem_toArray, List.getElem_cons_succ, List.getElem_cons_zero, Act.put, List.setIfInBounds_toArray, List.set_cons_zero, List.set_cons_succ]); go_simp; (try (with_reducible rfl)))
  try simp only [List.getElem_toArray, List.getElem_cons_succ, List.getElem_cons_zero, Act.put, List.setIfInBounds_toArray, List.set_cons_zero, List.set_cons_succ]
  refine wpAnyH_take (i := 4) (v := ?vv4_5) rfl (by kernel_rfl) (by kernel_rfl) (by kernel_rfl) (fun _ _ _ h => h) (Or.inl ⟨by rfl, ?yy4_5⟩) (by assumption) ?rr4_5
  case yy4_5 => (intro w hSw; (try dsimp only at hSw); obtain ⟨hs0, hs1, hs2, hs3, hs4, hs5⟩ := hSw; (try simp only [List.getElem_toArray, List.getElem_cons_succ, List.getElem_cons_zero, Act.put, List.setIfInBounds_toArray, List.set_cons_zero, List.set_cons_succ]); go_simp; (try (with_reducible rfl)))
  try simp only [List.getElem_toArray, List.getElem_cons_succ, List.getElem_cons_zero, Act.put, List.setIfInBounds_toArray, List.set_cons_zero, List.set_cons_succ]
  refine wpAnyH_take (i := 5) (v := ?vv5_6) rfl (by kernel_rfl) (by kernel_rfl) (by kernel_rfl) (fun _ _ _ h => h) (Or.inl ⟨by rfl, ?yy5_6⟩) (by assumption) ?rr5_6
  case yy5_6 => (intro w hSw; (try dsimp only at hSw); obtain ⟨hs0, hs1, hs2, hs3, hs4, hs5⟩ := hSw; (try simp only [List.getElem_toArray, List.getElem_cons_succ, List.getElem_cons_zero, Act.put, List.setIfInBounds_toArray, List.set_cons_zero, List.set_cons_succ]); go_simp; (try (with_reducible rfl)))
  try simp only [List.getElem_toArray, List.getElem_cons_succ, List.getElem_cons_zero, Act.put, List.setIfInBounds_toArray, List.set_cons_zero, List.set_cons_succ]
  refine wpAnyH_take (i := 6) (v := ?vv6_7) rfl (by kernel_rfl) (by kernel_rfl) (by kernel_rfl) (fun _ _ _ h => h) (Or.inl ⟨by rfl, ?yy6_7⟩) (by assumption) ?rr6_7
  case yy6_7 => (intro w hSw; (try dsimp only at hSw); obtain ⟨hs0, hs1, hs2, hs3, hs4, hs5⟩ := hSw; (try simp only [List.getElem_toArray, List.getElem_cons_succ, List.getElem_cons_zero, Act.put, List.setIfInBounds_toArray, List.set_cons_zero, List.set_cons_succ]); go_simp; (try (with_reducible rfl)))
  try simp only [List.getElem_toArray, List.getElem_cons_succ, List.getElem_cons_zero, Act.put, List.setIfInBounds_toArray, List.set_cons_zero, List.set_cons_succ]
  refine wpAnyH_take (i := 7) (v := ?vv7_8) rfl (by kernel_rfl) (by kernel_rfl) (by kernel_rfl) (fun _ _ _ h => h) (Or.inl ⟨by rfl, ?yy7_8⟩) (by assumption) ?rr7_8
  case yy7_8 => (intro w hSw; (try dsimp only at hSw); obtain ⟨hs0, hs1, hs2, hs3, hs4, hs5⟩ := hSw; (try simp only [List.getElem_toArray, List.getElem_cons_succ, List.getElem_cons_zero, Act.put, List.setIfInBounds_toArray, List.set_cons_zero, List.set_cons_succ]); go_simp; (try (with_reducible rfl)))
  try simp only [List.getElem_toArray, List.getElem_cons_succ, List.getElem_cons_zero, Act.put, List.setIfInBounds_toArray, List.set_cons_zero, List.set_cons_succ]
  refine wpAnyH_take (i := 8) (v := ?vv8_9) rfl (by kernel_rfl) (by kernel_rfl) (by kernel_rfl) (fun _ _ _ h => h) (Or.inl ⟨by rfl, ?yy8_9⟩) (by assumption) ?rr8_9
  case yy8_9 => (intro w hSw; (try dsimp only at hSw); obtain ⟨hs0, hs1, hs2, hs3, hs4, hs5⟩ := hSw; (try simp only [List.getElem_toArray, List.getElem_cons_succ, List.getElem_cons_zero, Act.put, List.setIfInBounds_toArray, List.set_cons_zero, List.set_cons_succ]); go_simp; (try (with_reducible rfl)))
  try simp only [List.getElem_toArray, List.getElem_cons_succ, List.getElem_cons_zero, Act.put, List.setIfInBounds_toArray, List.set_cons_zero, List.set_cons_succ]
  refine wpAnyH_take (i := 9) (v := ?vv9_10) rfl (by kernel_rfl) (by kernel_rfl) (by kernel_rfl) (fun _ _ _ h => h) (Or.inl ⟨by rfl, ?yy9_10⟩) (by assumption) ?rr9_10
  case yy9_10 => (intro w hSw; (try dsimp only at hSw); obtain ⟨hs0, hs1, hs2, hs3, hs4, hs5⟩ := hSw; (try simp only [List.getElem_toArray, List.getElem_cons_succ, List.getElem_cons_zero, Act.put, List.setIfInBounds_toArray, List.set_cons_zero, List.set_cons_succ]); go_simp; (try (with_reducible rfl)))
  try simp only [List.getElem_toArray, List.getElem_cons_succ, List.getElem_cons_zero, Act.put, List.setIfInBounds_toArray, List.set_cons_zero, List.set_cons_succ]
  refine wpAnyH_take (i := 10) (v := ?vv10_11) rfl (by kernel_rfl) (by kernel_rfl) (by kernel_rfl) (fun _ _ _ h => h) (Or.inl ⟨by rfl, ?yy10_11⟩) (by assumption) ?rr10_11
  case yy10_11 => (intro w hSw; (try dsimp only at hSw); obtain ⟨hs0, hs1, hs2, hs3, hs4, hs5⟩ := hSw; (try simp only [List.getElem_toArray, List.getElem_cons_succ, List.getElem_cons_zero, Act.put, List.setIfInBounds_toArray, List.set_cons_zero, List.set_cons_succ]); go_simp; (try (with_reducible rfl)))
  try simp only [List.getElem_toArray, List.getElem_cons_succ, List.getElem_cons_zero, Act.put, List.setIfInBounds_toArray, List.set_cons_zero, List.set_cons_succ]
  refine wpAnyH_take (i := 11) (v := ?vv11_12) rfl (by kernel_rfl) (by kernel_rfl) (by kernel_rfl) (fun _ _ _ h => h) (Or.inl ⟨by rfl, ?yy11_12⟩) (by assumption) ?rr11_12
  case yy11_12 => (intro w hSw; (try dsimp only at hSw); obtain ⟨hs0, hs1, hs2, hs3, hs4, hs5⟩ := hSw; (try simp only [List.getElem_toArray, List.getElem_cons_succ, List.getElem_cons_zero, Act.put, List.setIfInBounds_toArray, List.set_cons_zero, List.set_cons_succ]); go_simp; (try (with_reducible rfl)))
  try simp only [List.getElem_toArray, List.getElem_cons_succ, List.getElem_cons_zero, Act.put, List.setIfInBounds_toArray, List.set_cons_zero, List.set_cons_succ]
  refine wpAnyH_take (i := 12) (v := ?vv12_13) rfl (by kernel_rfl) (by kernel_rfl) (by kernel_rfl) (fun _ _ _ h => h) (Or.inl ⟨by rfl, ?yy12_13⟩) (by assumption) ?rr12_13
  case yy12_13 => (intro w hSw; (try dsimp only at hSw); obtain ⟨hs0, hs1, hs2, hs3, hs4, hs5⟩ := hSw; (try simp only [List.getElem_toArray, List.getElem_cons_succ, List.getElem_cons_zero, Act.put, List.setIfInBounds_toArray, List.set_cons_zero, List.set_cons_succ]); go_simp; (try (with_reducible rfl)))
  try simp only [List.getElem_toArray, List.getElem_cons_succ, List.getElem_cons_zero, Act.put, List.setIfInBounds_toArray, List.set_cons_zero, List.set_cons_succ]
  refine wpAnyH_take (i := 13) (v := ?vv13_14) rfl (by kernel_rfl) (by kernel_rfl) (by kernel_rfl) (fun _ _ _ h => h) (Or.inl ⟨by rfl, ?yy13_14⟩) (by assumption) ?rr13_14
  case yy13_14 => (intro w hSw; (try dsimp only at hSw); obtain ⟨hs0, hs1, hs2, hs3, hs4, hs5⟩ := hSw; (try simp only [List.getElem_toArray, List.getElem_cons_succ, List.getElem_cons_zero, Act.put, List.setIfInBounds_toArray, List.set_cons_zero, List.set_cons_succ]); go_simp; (try (with_reducible rfl)))
  try simp only [List.getElem_toArray, List.getElem_cons_succ, List.getElem_cons_zero, Act.put, List.setIfInBounds_toArray, List.set_cons_zero, List.set_cons_succ]
  refine wpAnyH_take (i := 14) (v := ?vv14_15) rfl (by kernel_rfl) (by kernel_rfl) (by kernel_rfl) (fun _ _ _ h => h) (Or.inl ⟨by rfl, ?yy14_15⟩) (by assumption) ?rr14_15
  case yy14_15 => (intro w hSw; (try dsimp only at hSw); obtain ⟨hs0, hs1, hs2, hs3, hs4, hs5⟩ := hSw; (try simp only [List.getElem_toArray, List.getElem_cons_succ, List.getElem_cons_zero, Act.put, List.setIfInBounds_toArray, List.set_cons_zero, List.set_cons_succ]); go_simp; (try (with_reducible rfl)))
  try simp only [List.getElem_toArray, List.getElem_cons_succ, List.getElem_cons_zero, Act.put, List.setIfInBounds_toArray, List.set_cons_zero, List.set_cons_succ]
  refine wpAnyH_take (i := 15) (v := ?vv15_16) rfl (by kernel_rfl) (by kernel_rfl) (by kernel_rfl) (fun _ _ _ h => h) (Or.inl ⟨by rfl, ?yy15_16⟩) (by assumption) ?rr15_16
  case yy15_16 => (intro w hSw; (try dsimp only at hSw); obtain ⟨hs0, hs1, hs2, hs3, hs4, hs5⟩ := hSw; (try simp only [List.getElem_toArray, List.getElem_cons_succ, List.getElem_cons_zero, Act.put, List.setIfInBounds_toArray, List.set_cons_zero, List.set_cons_succ]); go_simp; (try (with_reducible rfl)))
  try simp only [List.getElem_toArray, List.getElem_cons_succ, List.getElem_cons_zero, Act.put, List.setIfInBounds_toArray, List.set_cons_zero, List.set_cons_succ]
  refine wpAnyH_take (i := 16) (v := ?vv16_17) rfl (by kernel_rfl) (by kernel_rfl) (by kernel_rfl) (fun _ _ _ h => h) (Or.inl ⟨by rfl, ?yy16_17⟩) (by assumption) ?rr16_17
  case yy16_17 => (intro w hSw; (try dsimp only at hSw); obtain ⟨hs0, hs1, hs2, hs3, hs4, hs5⟩ := hSw; (try simp only [List.getElem_toArray, List.getElem_cons_succ, List.getElem_cons_zero, Act.put, List.setIfInBounds_toArray, List.set_cons_zero, List.set_cons_succ]); go_simp; (try (with_reducible rfl)))
  try simp only [List.getElem_toArray, List.getElem_cons_succ, List.getElem_cons_zero, Act.put, List.setIfInBounds_toArray, List.set_cons_zero, List.set_cons_succ]
  refine wpAnyH_take (i := 17) (v := ?vv17_18) rfl (by kernel_rfl) (by kernel_rfl) (by kernel_rfl) (fun _ _ _ h => h) (Or.inl ⟨by rfl, ?yy17_18⟩) (by assumption) ?rr17_18
  case yy17_18 => (intro w hSw; (try dsimp only at hSw); obtain ⟨hs0, hs1, hs2, hs3, hs4, hs5⟩ := hSw; (try simp only [List.getElem_toArray, List.getElem_cons_succ, List.getElem_cons_zero, Act.put, List.setIfInBounds_toArray, List.set_cons_zero, List.set_cons_succ]); go_simp; (try (with_reducible rfl)))
  try simp only [List.getElem_toArray, List.getElem_cons_succ, List.getElem_cons_zero, Act.put, List.setIfInBounds_toArray, List.set_cons_zero, List.set_cons_succ]
  refine wpAnyH_take (i := 18) (v := ?vv18_19) rfl (by kernel_rfl) (by kernel_rfl) (by kernel_rfl) (fun _ _ _ h => h) (Or.inl ⟨by rfl, ?yy18_19⟩) (by assumption) ?rr18_19
  case yy18_19 => (intro w hSw; (try dsimp only at hSw); obtain ⟨hs0, hs1, hs2, hs3, hs4, hs5⟩ := hSw; (try simp only [List.getElem_toArray, List.getElem_cons_succ, List.getElem_cons_zero, Act.put, List.setIfInBounds_toArray, List.set_cons_zero, List.set_cons_succ]); go_simp; (try (with_reducible rfl)))
  try simp only [List.getElem_toArray, List.getElem_cons_succ, List.getElem_cons_zero, Act.put, List.setIfInBounds_toArray, List.set_cons_zero, List.set_cons_succ]
  refine wpAnyH_take (i := 19) (v := ?vv19_20) rfl (by kernel_rfl) (by kernel_rfl) (by kernel_rfl) (fun _ _ _ h => h) (Or.inl ⟨by rfl, ?yy19_20⟩) (by assumption) ?rr19_20
  case yy19_20 => (intro w hSw; (try dsimp only at hSw); obtain ⟨hs0, hs1, hs2, hs3, hs4, hs5⟩ := hSw; (try simp only [List.getElem_toArray, List.getElem_cons_succ, List.getElem_cons_zero, Act.put, List.setIfInBounds_toArray, List.set_cons_zero, List.set_cons_succ]); go_simp; (try (with_reducible rfl)))
  try simp only [List.getElem_toArray, List.getElem_cons_succ, List.getElem_cons_zero, Act.put, List.setIfInBounds_toArray, List.set_cons_zero, List.set_cons_succ]
  refine wpAnyH_take (i := 20) (v := ?vv20_21) rfl (by kernel_rfl) (by kernel_rfl) (by kernel_rfl) (fun _ _ _ h => h) (Or.inl ⟨by rfl, ?yy20_21⟩) (by assumption) ?rr20_21
  case yy20_21 => (intro w hSw; (try dsimp only at hSw); obtain ⟨hs0, hs1, hs2, hs3, hs4, hs5⟩ := hSw; (try simp only [List.getElem_toArray, List.getElem_cons_succ, List.getElem_cons_zero, Act.put, List.setIfInBounds_toArray, List.set_cons_zero, List.set_cons_succ]); go_simp; (try (with_reducible rfl)))
  try simp only [List.getElem_toArray, List.getElem_cons_succ, List.getElem_cons_zero, Act.put, List.setIfInBounds_toArray, List.set_cons_zero, List.set_cons_succ]
  refine wpAnyH_take (i := 21) (v := ?vv21_22) rfl (by kernel_rfl) (by kernel_rfl) (by kernel_rfl) (fun _ _ _ h => h) (Or.inl ⟨by rfl, ?yy21_22⟩) (by assumption) ?rr21_22
  case yy21_22 => (intro w hSw; (try dsimp only at hSw); obtain ⟨hs0, hs1, hs2, hs3, hs4, hs5⟩ := hSw; (try simp only [List.getElem_toArray, List.getElem_cons_succ, List.getElem_cons_zero, Act.put, List.setIfInBounds_toArray, List.set_cons_zero, List.set_cons_succ]); go_simp; (try (with_reducible rfl)))
  try simp only [List.getElem_toArray, List.getElem_cons_succ, List.getElem_cons_zero, Act.put, List.setIfInBounds_toArray, List.set_cons_zero, List.set_cons_succ]
  refine wpAnyH_take (i := 22) (v := ?vv22_23) rfl (by kernel_rfl) (by kernel_rfl) (by kernel_rfl) (fun _ _ _ h => h) (Or.inl ⟨by rfl, ?yy22_23⟩) (by assumption) ?rr22_23
  case yy22_23 => (intro w hSw; (try dsimp only at hSw); obtain ⟨hs0, hs1, hs2, hs3, hs4, hs5⟩ := hSw; (try simp only [List.getElem_toArray, List.getElem_cons_succ, List.getElem_cons_zero, Act.put, List.setIfInBounds_toArray, List.set_cons_zero, List.set_cons_succ]); go_simp; (try (with_reducible rfl)))
  try simp only [List.getElem_toArray, List.getElem_cons_succ, List.getElem_cons_zero, Act.put, List.setIfInBounds_toArray, List.set_cons_zero, List.set_cons_succ]
  refine wpAnyH_take (i := 23) (v := ?vv23_24) rfl (by kernel_rfl) (by kernel_rfl) (by kernel_rfl) (fun _ _ _ h => h) (Or.inl ⟨by rfl, ?yy23_24⟩) (by assumption) ?rr23_24
  case yy23_24 => (intro w hSw; (try dsimp only at hSw); obtain ⟨hs0, hs1, hs2, hs3, hs4, hs5⟩ := hSw; (try simp only [List.getElem_toArray, List.getElem_cons_succ, List.getElem_cons_zero, Act.put, List.setIfInBounds_toArray, List.set_cons_zero, List.set_cons_succ]); go_simp; (try (with_reducible rfl)))
  try simp only [List.getElem_toArray, List.getElem_cons_succ, List.getElem_cons_zero, Act.put, List.setIfInBounds_toArray, List.set_cons_zero, List.set_cons_succ]
  refine wpAnyH_take (i := 24) (v := ?vv24_25) rfl (by kernel_rfl) (by kernel_rfl) (by kernel_rfl) (fun _ _ _ h => h) (Or.inl ⟨by rfl, ?yy24_25⟩) (by assumption) ?rr24_25
  case yy24_25 => (intro w hSw; (try dsimp only at hSw); obtain ⟨hs0, hs1, hs2, hs3, hs4, hs5⟩ := hSw; (try simp only [List.getElem_toArray, List.getElem_cons_succ, List.getElem_cons_zero, Act.put, List.setIfInBounds_toArray, List.set_cons_zero, List.set_cons_succ]); go_simp; (try (with_reducible rfl)))
  try simp only [List.getElem_toArray, List.getElem_cons_succ, List.getElem_cons_zero, Act.put, List.setIfInBounds_toArray, List.set_cons_zero, List.set_cons_succ]
  refine wpAnyH_take (i := 25) (v := ?vv25_26) rfl (by kernel_rfl) (by kernel_rfl) (by kernel_rfl) (fun _ _ _ h => h) (Or.inl ⟨by rfl, ?yy25_26⟩) (by assumption) ?rr25_26
  case yy25_26 => (intro w hSw; (try dsimp only at hSw); obtain ⟨hs0, hs1, hs2, hs3, hs4, hs5⟩ := hSw; (try simp only [List.getElem_toArray, List.getElem_cons_succ, List.getElem_cons_zero, Act.put, List.setIfInBounds_toArray, List.set_cons_zero, List.set_cons_succ]); go_simp; (try (with_reducible rfl)))
  try simp only [List.getElem_toArray, List.getElem_cons_succ, List.getElem_cons_zero, Act.put, List.setIfInBounds_toArray, List.set_cons_zero, List.set_cons_succ]
  refine wpAnyH_take (i := 26) (v := ?vv26_27) rfl (by kernel_rfl) (by kernel_rfl) (by kernel_rfl) (fun _ _ _ h => h) (Or.inl ⟨by rfl, ?yy26_27⟩) (by assumption) ?rr26_27
  case yy26_27 => (intro w hSw; (try dsimp only at hSw); obtain ⟨hs0, hs1, hs2, hs3, hs4, hs5⟩ := hSw; (try simp only [List.getElem_toArray, List.getElem_cons_succ, List.getElem_cons_zero, Act.put, List.setIfInBounds_toArray, List.set_cons_zero, List.set_cons_succ]); go_simp; (try (with_reducible rfl)))
  try simp only [List.getElem_toArray, List.getElem_cons_succ, List.getElem_cons_zero, Act.put, List.setIfInBounds_toArray, List.set_cons_zero, List.set_cons_succ]
  refine wpAnyH_take (i := 27) (v := ?vv27_28) rfl (by kernel_rfl) (by kernel_rfl) (by kernel_rfl) (fun _ _ _ h => h) (Or.inl ⟨by rfl, ?yy27_28⟩) (by assumption) ?rr27_28
  case yy27_28 => (intro w hSw; (try dsimp only at hSw); obtain ⟨hs0, hs1, hs2, hs3, hs4, hs5⟩ := hSw; (try simp only [List.getElem_toArray, List.getElem_cons_succ, List.getElem_cons_zero, Act.put, List.setIfInBounds_toArray, List.set_cons_zero, List.set_cons_succ]); go_simp; (try (with_reducible rfl)))
  try simp only [List.getElem_toArray, List.getElem_cons_succ, List.getElem_cons_zero, Act.put, List.setIfInBounds_toArray, List.set_cons_zero, List.set_cons_succ]
  refine wpAnyH_take (i := 28) (v := ?vv28_29) rfl (by kernel_rfl) (by kernel_rfl) (by kernel_rfl) (fun _ _ _ h => h) (Or.inl ⟨by rfl, ?yy28_29⟩) (by assumption) ?rr28_29
  case yy28_29 => (intro w hSw; (try dsimp only at hSw); obtain ⟨hs0, hs1, hs2, hs3, hs4, hs5⟩ := hSw; (try simp only [List.getElem_toArray, List.getElem_cons_succ, List.getElem_cons_zero, Act.put, List.setIfInBounds_toArray, List.set_cons_zero, List.set_cons_succ]); go_simp; (try (with_reducible rfl)))
  try simp only [List.getElem_toArray, List.getElem_cons_succ, List.getElem_cons_zero, Act.put, List.setIfInBounds_toArray, List.set_cons_zero, List.set_cons_succ]
  refine wpAnyH_take (i := 29) (v := ?vv29_30) rfl (by kernel_rfl) (by kernel_rfl) (by kernel_rfl) (fun _ _ _ h => h) (Or.inl ⟨by rfl, ?yy29_30⟩) (by assumption) ?rr29_30
  case yy29_30 => (intro w hSw; (try dsimp only at hSw); obtain ⟨hs0, hs1, hs2, hs3, hs4, hs5⟩ := hSw; (try simp only [List.getElem_toArray, List.getElem_cons_succ, List.getElem_cons_zero, Act.put, List.setIfInBounds_toArray, List.set_cons_zero, List.set_cons_succ]); go_simp; (try (with_reducible rfl)))
  try simp only [List.getElem_toArray, List.getElem_cons_succ, List.getElem_cons_zero, Act.put, List.setIfInBounds_toArray, List.set_cons_zero, List.set_cons_succ]
  refine wpAnyH_take (i := 30) (v := ?vv30_31) rfl (by kernel_rfl) (by kernel_rfl) (by kernel_rfl) (fun _ _ _ h => h) (Or.inl ⟨by rfl, ?yy30_31⟩) (by assumption) ?rr30_31
  case yy30_31 => (intro w hSw; (try dsimp only at hSw); obtain ⟨hs0, hs1, hs2, hs3, hs4, hs5⟩ := hSw; (try simp only [List.getElem_toArray, List.getElem_cons_succ, List.getElem_cons_zero, Act.put, List.setIfInBounds_toArray, List.set_cons_zero, List.set_cons_succ]); go_simp; (try (with_reducible rfl)))
  try simp only [List.getElem_toArray, List.getElem_cons_succ, List.getElem_cons_zero, Act.put, List.setIfInBounds_toArray, List.set_cons_zero, List.set_cons_succ]
  refine wpAnyH_ready (rs := [31]) (by kernel_rfl) (by simp) ?_
  refine AllReadyH.cons (o := _) rfl (fun K hK => ?_) AllReadyH.nil
  try simp only [List.getElem_toArray, List.getElem_cons_succ, List.getElem_cons_zero, Act.put, List.setIfInBounds_toArray, List.set_cons_zero, List.set_cons_succ]
  go_simp
  have HQ : Hid (PAt (setL U w.heap.size (lv p.w)) g p) := PAt.moves HPu.out (setL_moves U w.heap.size (lv p.w)) (by have := HN.out; show ¬ g = w.heap.size; omega)
  refine hK.out _ _ HQ.out.wish (fun hHeld => ?_)
  clear hK K
  try simp only [List.getElem_toArray, List.getElem_cons_succ, List.getElem_cons_zero, Act.put, List.setIfInBounds_toArray, List.set_cons_zero, List.set_cons_succ]
  refine wpAnyH_done (by kernel_rfl) ?_ _
  go_wp2
  have HR : Hid (LAt (setL U w.heap.size (lv p.w)) w.heap.size p.w) := setL_blk HZu.out
  (try simp only [Exit.inBlock, Exit.then])
  refine bodyPost_ret (res_ipc rfl _ _ w.heap.size p.w rfl HR.out rfl (by kernel_rfl)) rfl ?_
  exact ⟨rfl, setL_below HBu.out HBu.out.size (Nat.le_refl _) (lv p.w)⟩
set_option maxHeartbeats 1000000 in
set_option maxRecDepth 100000 in
theorem list_any (x : Ipc) (w : World) (hm : may x = true) : Calls Try.prog 33 #[.agg (lv x).toArray] w (CpQ (put x) (put x).length w) := by
  show Calls Try.prog 33 #[.agg #[Value.bool x.ha, .int .u32 x.addr.toNat, .bool x.h1, .int .u32 x.dns1.toNat, .bool x.h2, .int .u32 x.dns2.toNat]] w (CpQ (put x) (put x).length w)
  obtain ⟨W, hW, HW⟩ := boxL w x
  obtain ⟨c0, c1, c2, c3, c4, c5⟩ := cells6 HW.out.1
  have HB := Lib.hid HW.out.2.1
  have HC : Hid (∀ U, Calls Try.prog 49 #[.agg #[Value.bool x.ha, .int .u32 x.addr.toNat, .bool x.h1, .int .u32 x.dns1.toNat, .bool x.h2, .int .u32 x.dns2.toNat]] U (PutQ x U)) := fun U => put_any x U
  have HM := Lib.hid hm
  clear HW hm
  go_enter Try.func33, Try.ntmps33
  go_wp2_with fail
  refine (HC.out _).mono ?_
  rintro e w2 ⟨A, c, rfl, hA, hO, hb2⟩
  rw [(pL_yes HM.out).1, (pL_yes HM.out).2] at *
  have HB2 := Lib.hid (HB.out.trans (hb2.mono HB.out.size))
  have HO := Lib.hid hO
  have HA := Lib.hid hA
  clear hb2 hO hA
  go_wp2
  go_ret
  exact ⟨A, c, rfl, HO.out, HA.out, HB2.out⟩
set_option maxHeartbeats 1000000 in
set_option maxRecDepth 100000 in
theorem request_any (g : Nat) (p : Po) (w : World) (h : PAt w g p) (hm : may p.w = true) : Calls Try.prog 7 #[.pointer (some ⟨g, 0, none⟩)] w (CpQ (req p) (req p).length w) := by
  have HW := Lib.hid (wish_any g p w h)
  have HL := Lib.hid (fun w => list_any p.w w hm)
  clear h hm
  go_enter Try.func7, Try.ntmps7
  go_wp2_with fail
  refine HW.out.mono ?_
  rintro e w1 ⟨rfl, hb1⟩
  have HB1 := Lib.hid hb1
  clear hb1
  go_wp2_with fail
  refine (HL.out w1).mono ?_
  rintro e w2 ⟨A, c, rfl, hO, hA, hb2⟩
  have HB2 := Lib.hid (HB1.out.trans (hb2.mono HB1.out.size))
  have HO := Lib.hid hO
  have HA := Lib.hid hA
  clear hb2 hO hA
  go_wp2
  go_ret
  exact ⟨A, c, rfl, HO.out, HA.out, HB2.out⟩
end Go.Proofs.Ythoangihndplkaa.Ipp
