/- Put together: IppN, IppK, IpcB, IpcC, IppG, IppQa, IpcD, IppAa, IpcGr. -/
import Derived.Test.YtpppggicihfbgaaGreatGIpcA
import Derived.Deep.WholeRow
import Derived.Test.YtpppggicihfbgaaGreatGOptsApp
import Derived.OwnWalk
import Derived.Maps.AppendAt
import Derived.Deep.RegionHeld3
import Derived.OrdersHeld
import Derived.Deep.DeepCutAuto

/- Contracts of made, New. -/
namespace Go.Proofs.YtpppggicihfbgaaGreat.Ipp
open Go.RowKit Go.Proofs.YtpppggicihfbgaaGreat.Oct Go.Proofs.YtpppggicihfbgaaGreat.Row Go.Proofs.YtpppggicihfbgaaGreat.Mem Go.Proofs.YtpppggicihfbgaaGreat.Opt Go.Proofs.YtpppggicihfbgaaGreat.Ipc

def zc : Conf := ⟨0, 0, 0, 0, false, 0⟩
def zp : Po := ⟨lz, zc, lz, lz, 0⟩
def CAt (w : World) (g : Nat) (c : Conf) : Prop := Blk w g (cv c) 48
theorem CAt.all {w : World} {g : Nat} {c : Conf} (h : CAt w g c) : w.cell? ⟨g, 0, none⟩ = some (.int .u32 c.addr.toNat) ∧ w.cell? ⟨g, 1, none⟩ = some (.int .u32 c.peer.toNat) ∧ w.cell? ⟨g, 2, none⟩ = some (.int .u32 c.dns1.toNat) ∧ w.cell? ⟨g, 3, none⟩ = some (.int .u32 c.dns2.toNat) ∧ w.cell? ⟨g, 4, none⟩ = some (.bool c.want) ∧ w.cell? ⟨g, 5, none⟩ = some (.int .i64 c.mn) := ⟨Blk.at_ h 0, Blk.at_ h 1, Blk.at_ h 2, Blk.at_ h 3, Blk.at_ h 4, Blk.at_ h 5⟩
theorem CAt.callee {w w' : World} {g : Nat} {c : Conf} (h : CAt w g c) (hb : Below w.heap.size w w') : CAt w' g c := Blk.callee h hb
theorem cat_new (w : World) (c : Conf) : CAt (w.alloc (.cells (cv c).toArray 48)) w.heap.size c := blk_new w (cv c) _
theorem boxC (w : World) (c : Conf) : ∃ W, w.alloc (.cells #[Value.int .u32 c.addr.toNat, .int .u32 c.peer.toNat, .int .u32 c.dns1.toNat, .int .u32 c.dns2.toNat, .bool c.want, .int .i64 c.mn] 48) = W ∧ Hid (CAt W w.heap.size c ∧ Below w.heap.size w W ∧ W.heap.size = w.heap.size + 1) :=
  ⟨_, rfl, cat_new w c, (Below.refl w.heap.size w).alloc (Nat.le_refl _) _, by simp⟩
set_option maxRecDepth 100000 in
theorem pol_size (p : Po) : (Tryz.prog.info? 99).map (·.size) = some (pv p).toArray.size := by
  rw [List.size_toArray]
  kernel_rfl
theorem lv_ones (x : Ipc) : ∀ v ∈ lv x, v.oneCell' = true := by
  intro v hv
  unfold lv at hv
  simp only [List.mem_cons, List.not_mem_nil, or_false] at hv
  rcases hv with rfl | rfl | rfl | rfl | rfl | rfl <;> rfl
theorem cv_ones (c : Conf) : ∀ v ∈ cv c, v.oneCell' = true := by
  intro v hv
  unfold cv at hv
  simp only [List.mem_cons, List.not_mem_nil, or_false] at hv
  rcases hv with rfl | rfl | rfl | rfl | rfl | rfl <;> rfl
theorem pv_one (p : Po) : (pv p).toArray.all (·.oneCell') = true := by
  refine all_oneCell_toArray fun v hv => ?_
  unfold pv at hv
  simp only [List.mem_append] at hv
  rcases hv with h | h | h | h | h
  · exact lv_ones _ v h
  · exact cv_ones _ v h
  · exact lv_ones _ v h
  · exact lv_ones _ v h
  · simp only [List.mem_cons, List.not_mem_nil, or_false] at h
    rcases h with rfl
    rfl
theorem pat_new (w : World) (p : Po) : PAt (w.alloc (.cells (pv p).toArray 99)) w.heap.size p := blk_new w (pv p) _
theorem pat_row {W : World} {g : Nat} {p : Po} (h : PAt W g p) (q : Po) : PAt (W.setRow g (pv q).toArray) g q := Blk.setRow h (pv q)
theorem pol_end {f : Func} {r : Nat} (hf : f.results = #[.cell r 99]) (tmps : Array Value) {W : World} {g : Nat} (p : Po) (h : PAt W g p) (hp : tmps.getD r undef = .pointer (some ⟨g, 0, none⟩)) :
    (results f tmps).run Tryz.prog W = .ok (.agg (pv p).toArray) W := results_cell_row hf tmps W g _ _ _ _ hp h Tryz.underlying99 rfl (pol_size p)
theorem boxCP (w : World) (c : Conf) : ∃ W, (w.alloc (.cells #[Value.int .u32 c.addr.toNat, .int .u32 c.peer.toNat, .int .u32 c.dns1.toNat, .int .u32 c.dns2.toNat, .bool c.want, .int .i64 c.mn] 48)).alloc (.cells #[Value.bool false, .int .u32 0, .bool false, .int .u32 0, .bool false, .int .u32 0, .int .u32 0, .int .u32 0, .int .u32 0, .int .u32 0, .bool false, .int .i64 0, .bool false, .int .u32 0, .bool false, .int .u32 0, .bool false, .int .u32 0, .bool false, .int .u32 0, .bool false, .int .u32 0, .bool false, .int .u32 0, .int .i64 0] 99) = W ∧ Hid (CAt W w.heap.size c ∧ PAt W (w.heap.size + 1) zp ∧ Below w.heap.size w W ∧ W.heap.size = w.heap.size + 1 + 1) :=
  ⟨_, rfl, Blk.alloc (cat_new w c) _, by have := pat_new (w.alloc (.cells (cv c).toArray 48)) zp; rw [World.size_alloc] at this; exact this, ((Below.refl w.heap.size w).alloc (Nat.le_refl _) _).alloc (by simp) _, by simp⟩
def WAt (w : World) (g : Nat) (x : Ipc) : Prop := Blk w g (lv x) 95
theorem wat_new (w : World) (x : Ipc) : WAt (w.alloc (.cells (lv x).toArray 95)) w.heap.size x := blk_new w (lv x) _
theorem boxW (W : World) (c : Conf) : ∃ V, W.alloc (.cells #[Value.bool true, .int .u32 c.addr.toNat, .bool c.want, .int .u32 0, .bool c.want, .int .u32 0] 95) = V ∧ Hid (WAt V W.heap.size (wish c) ∧ Below W.heap.size W V) :=
  ⟨_, rfl, wat_new W (wish c), (Below.refl _ _).alloc (Nat.le_refl _) _⟩
theorem WAt.all {w : World} {g : Nat} {c : Conf} (h : WAt w g (wish c)) : w.cell? ⟨g, 0, none⟩ = some (Value.bool true) ∧ w.cell? ⟨g, 1, none⟩ = some (.int .u32 c.addr.toNat) ∧ w.cell? ⟨g, 2, none⟩ = some (.bool c.want) ∧ w.cell? ⟨g, 3, none⟩ = some (.int .u32 0) ∧ w.cell? ⟨g, 4, none⟩ = some (.bool c.want) ∧ w.cell? ⟨g, 5, none⟩ = some (.int .u32 0) :=
  ⟨Blk.at_ h 0, Blk.at_ h 1, Blk.at_ h 2, Blk.at_ h 3, Blk.at_ h 4, Blk.at_ h 5⟩
set_option maxHeartbeats 8000000 in
set_option maxRecDepth 100000 in
theorem made_any (c : Conf) (w : World) : Calls Tryz.prog 32 #[.agg #[Value.int .u32 c.addr.toNat, .int .u32 c.peer.toNat, .int .u32 c.dns1.toNat, .int .u32 c.dns2.toNat, .bool c.want, .int .i64 c.mn]] w fun e w' => e = .returned (.agg (pv (newP c)).toArray) ∧ Below w.heap.size w w' := by
  obtain ⟨W, hW, HW⟩ := boxCP w c
  obtain ⟨c0, c1, c2, c3, c4, c5⟩ := HW.out.1.all
  have HC := Lib.hid HW.out.1
  have HP := Lib.hid HW.out.2.1
  have HB := Lib.hid HW.out.2.2.1
  obtain ⟨V, hV, HV⟩ := boxW W c
  subst hV
  have HPV := Lib.hid (HP.out.callee HV.out.2)
  have HBV := Lib.hid (HB.out.trans (HV.out.2.mono HB.out.size))
  obtain ⟨d0, d1, d2, d3, d4, d5⟩ := (HC.out.callee HV.out.2).all
  obtain ⟨x0, x1, x2, x3, x4, x5⟩ := WAt.all HV.out.1
  have HN := Lib.hid (pol_size (newP c))
  have HQ : Hid ((pv (newP c)).toArray = #[Value.bool true, .int .u32 c.addr.toNat, .bool c.want, .int .u32 0, .bool c.want, .int .u32 0, .int .u32 c.addr.toNat, .int .u32 c.peer.toNat, .int .u32 c.dns1.toNat, .int .u32 c.dns2.toNat, .bool c.want, .int .i64 c.mn, .bool false, .int .u32 0, .bool false, .int .u32 0, .bool false, .int .u32 0, .bool false, .int .u32 0, .bool false, .int .u32 0, .bool false, .int .u32 0, .int .i64 0]) := rfl
  clear HW HV HC HP HB
  go_enter Tryz.func32, Tryz.ntmps32
  go_wp2_with (refine wpList_store_row rfl 99 _ _ rfl (w.heap.size + 1) (pv (newP c)).toArray rfl (by rw [HQ.out] <;> rfl) 99 _ HPV.out HN.out rfl (pv_one _) ?_)
  (try simp only [Exit.inBlock, Exit.then])
  refine bodyPost_ret (pol_end rfl _ (newP c) (pat_row HPV.out (newP c)) rfl) rfl ?_
  exact ⟨rfl, HBV.out.trans ((moves_row _ (w.heap.size + 1) _).below HBV.out.size (fun k e => by rw [e]; exact Nat.le_succ _))⟩
set_option maxRecDepth 100000 in
theorem info_pol : (Tryz.prog.info? 99).map (fun i => (i.zero, i.size)) = some (some (.agg (pv zp).toArray), 25) := by kernel_rfl
theorem zero_pol (w : World) : (zeroValue 99).run Tryz.prog w = .ok (.agg (pv zp).toArray) w := (zero_of_info info_pol).1 w
def NewQ (p : Po) (w : World) (e : Ending) (w' : World) : Prop := ∃ g, e = .returned (.tuple #[.pointer (some ⟨g, 0, none⟩), .int .i64 0]) ∧ w.heap.size ≤ g ∧ PAt w' g p ∧ Below w.heap.size w w'
set_option maxHeartbeats 4000000 in
set_option maxRecDepth 100000 in
theorem new_ok (c : Conf) (w : World) (h : mayC c = true) : Calls Tryz.prog 24 #[.agg #[Value.int .u32 c.addr.toNat, .int .u32 c.peer.toNat, .int .u32 c.dns1.toNat, .int .u32 c.dns2.toNat, .bool c.want, .int .i64 c.mn]] w (NewQ (newP c) w) := by
  obtain ⟨W, hW, HW⟩ := boxC w c
  obtain ⟨c0, c1, c2, c3, c4, c5⟩ := HW.out.1.all
  have HB := Lib.hid HW.out.2.1
  have hmn : ¬ c.mn < 1 ∧ ¬ 10 < c.mn := by unfold mayC at h; simp only [Bool.and_eq_true, decide_eq_true_eq] at h; omega
  have m1 := hmn.1
  have m2 := hmn.2
  have n1 := decide_eq_false hmn.1
  have n2 := decide_eq_false hmn.2
  have HM := Lib.hid (fun w => made_any c w)
  have HN := Lib.hid (pol_size (newP c))
  have HO := Lib.hid (pv_one (newP c))
  have HE : Hid (∀ W : World, PAt (W.alloc (.cells (pv (newP c)).toArray 99)) W.heap.size (newP c)) := fun W => pat_new W _
  have HZ : Hid ((pv zp).toArray.size = (pv (newP c)).toArray.size) := rfl
  have hz := zero_pol
  generalize (pv zp).toArray = zs at *
  generalize (pv (newP c)).toArray = cs at *
  clear h HW hmn
  go_enter Tryz.func24, Tryz.ntmps24
  go_wp2_with fail
  refine (HM.out _).mono ?_
  rintro e w2 ⟨rfl, hb2⟩
  have HB2 := Lib.hid (HB.out.trans (hb2.mono HB.out.size))
  clear hb2
  go_wp2_with (refine wpList_store_row rfl 99 _ _ rfl w2.heap.size cs rfl rfl 99 zs (World.alloc_heap_new w2 _) HN.out HZ.out HO.out ?_)
  go_ret2
  rw [World.setRow_alloc_new]
  exact ⟨_, rfl, HB2.out.size, HE.out w2, HB2.out.alloc HB2.out.size _⟩
set_option maxHeartbeats 4000000 in
set_option maxRecDepth 100000 in
theorem new_no (c : Conf) (w : World) (h : mayC c = false) : Calls Tryz.prog 24 #[.agg #[Value.int .u32 c.addr.toNat, .int .u32 c.peer.toNat, .int .u32 c.dns1.toNat, .int .u32 c.dns2.toNat, .bool c.want, .int .i64 c.mn]] w fun e w' => e = .returned (.tuple #[.pointer none, .int .i64 2]) ∧ Below w.heap.size w w' := by
  obtain ⟨W, hW, HW⟩ := boxC w c
  obtain ⟨c0, c1, c2, c3, c4, c5⟩ := HW.out.1.all
  have HB := Lib.hid HW.out.2.1
  by_cases hl : c.mn < 1
  · have n1 := decide_eq_true hl
    clear h HW
    go_enter Tryz.func24, Tryz.ntmps24
    go_wp2
    go_ret2
    exact ⟨rfl, HB.out⟩
  · have n1 := decide_eq_false hl
    have hg : 10 < c.mn := by unfold mayC at h; simp only [Bool.and_eq_false_iff, decide_eq_false_iff_not] at h; omega
    have n2 := decide_eq_true hg
    clear h HW
    go_enter Tryz.func24, Tryz.ntmps24
    go_wp2
    go_ret2
    exact ⟨rfl, HB.out⟩
end Go.Proofs.YtpppggicihfbgaaGreat.Ipp

/- Contracts of Clone, rejects. -/
namespace Go.Proofs.YtpppggicihfbgaaGreat.Ipp
open Go.RowKit Go.Proofs.YtpppggicihfbgaaGreat.Oct Go.Proofs.YtpppggicihfbgaaGreat.Row Go.Proofs.YtpppggicihfbgaaGreat.Mem Go.Proofs.YtpppggicihfbgaaGreat.Opt Go.Proofs.YtpppggicihfbgaaGreat.Ipc

def CpQ (l : List Opt) (n : Nat) (w : World) (e : Ending) (w' : World) : Prop := ∃ A c, e = .returned (.slice A n c) ∧ Opts w' w'.heap.size A n l ∧ (A = none → c = 0) ∧ Below w.heap.size w w'
end Go.Proofs.YtpppggicihfbgaaGreat.Ipp

/- Contracts of ipcpopt's read and Good. -/
namespace Go.Proofs.YtpppggicihfbgaaGreat.Ipc
open Go.RowKit Go.Proofs.YtpppggicihfbgaaGreat.Oct Go.Proofs.YtpppggicihfbgaaGreat.Row Go.Proofs.YtpppggicihfbgaaGreat.Mem Go.Proofs.YtpppggicihfbgaaGreat.Opt

def Rnd (w wr : World) (o : Opt) (k : Nat) : Prop := At wr w.heap.size o ∧ Blk wr (w.heap.size + 1) [.int .u8 0, .nilFunc, .nilFunc] 317 ∧ (∀ j, j < k → kd j ≠ o.1) ∧ Below w.heap.size w wr
theorem Rnd.callee {w wr W' : World} {o : Opt} {k : Nat} (h : Rnd w wr o k) (hb : Below wr.heap.size wr W') : Rnd w W' o k := ⟨h.1.callee hb, Blk.callee h.2.1 hb, h.2.2.1, h.2.2.2.trans (hb.mono h.2.2.2.size)⟩
end Go.Proofs.YtpppggicihfbgaaGreat.Ipc

/- Contract of ipcpopt's Put. -/
namespace Go.Proofs.YtpppggicihfbgaaGreat.Ipc
open Go.RowKit Go.Proofs.YtpppggicihfbgaaGreat.Oct Go.Proofs.YtpppggicihfbgaaGreat.Row Go.Proofs.YtpppggicihfbgaaGreat.Mem Go.Proofs.YtpppggicihfbgaaGreat.Opt

def gat (x : Ipc) (k : Nat) : List Opt := (six.take k).filterMap fun t => if has t x then some (t, dat t x) else none
theorem gat_three (x : Ipc) : gat x 3 = put x := rfl
theorem gat_next (x : Ipc) (k : Nat) (hk : k < 3) : gat x (k + 1) = gat x k ++ (if has (kd k) x then [(kd k, dat (kd k) x)] else []) := by
  have h : six.take (k + 1) = six.take k ++ [kd k] := by
    rcases (show k = 0 ∨ k = 1 ∨ k = 2 by omega) with rfl | rfl | rfl <;> rfl
  unfold gat
  rw [h, List.filterMap_append]
  congr 1
  rw [List.filterMap_cons]
  cases has (kd k) x <;> simp
theorem gat_yes {x : Ipc} {k : Nat} (hk : k < 3) (h : has (kd k) x = true) : gat x (k + 1) = gat x k ++ [(kd k, dat (kd k) x)] := by rw [gat_next x k hk, h]; rfl
theorem gat_no {x : Ipc} {k : Nat} (hk : k < 3) (h : has (kd k) x = false) : gat x (k + 1) = gat x k := by rw [gat_next x k hk, h]; exact List.append_nil _
theorem gat_size (x : Ipc) (k : Nat) : ∀ o ∈ gat x k, o.2.size ≤ 140737488351232 := by
  intro o ho
  obtain ⟨t, _, h⟩ := List.mem_filterMap.1 ho
  split at h
  · cases h
    show (bOf (numS _ 4)).size ≤ _
    rw [size_bOf, numS_length]
    omega
  · cases h
theorem gat_len (x : Ipc) (k : Nat) : (gat x k).length ≤ k := Nat.le_trans (List.length_filterMap_le _ _) (by rw [List.length_take]; exact Nat.min_le_left _ _)
def pL (x : Ipc) : List Opt := if may x then put x else []
def pE (x : Ipc) : Nat := if may x then 0 else 2
theorem pL_yes {x : Ipc} (h : may x = true) : pL x = put x ∧ pE x = 0 := by unfold pL pE; rw [h]; exact ⟨rfl, rfl⟩
theorem pL_no {x : Ipc} (h : may x = false) : pL x = [] ∧ pE x = 2 := by unfold pL pE; rw [h]; exact ⟨rfl, rfl⟩
theorem may_kd {x : Ipc} : may x = true ↔ ∀ k, k < 3 → has (kd k) x = false → adr (kd k) x = 0 := by
  rw [may_iff]
  constructor
  · rintro ⟨h1, h2, h3⟩ k hk
    rcases (show k = 0 ∨ k = 1 ∨ k = 2 by omega) with rfl | rfl | rfl
    · exact h1
    · exact h2
    · exact h3
  · intro h
    exact ⟨h 0 (by omega), h 1 (by omega), h 2 (by omega)⟩
def PutQ (x : Ipc) (w : World) (e : Ending) (w' : World) : Prop := ∃ A c, e = .returned (.tuple #[.slice A (pL x).length c, .int .i64 (pE x)]) ∧ (A = none → c = 0) ∧ Opts w' w'.heap.size A (pL x).length (pL x) ∧ Below w.heap.size w w'
def PutR (x : Ipc) (w : World) (e : Ending) (w' : World) : Prop := ∃ A c, e = .returned (.tuple #[.slice A (pL x).length c, .int .i64 (pE x)]) ∧ (A = none → c = 0) ∧ Opts w' w'.heap.size A (pL x).length (pL x) ∧ Below w.heap.size w w' ∧ (pL x).length ≤ c
def Pts (w wr : World) (x : Ipc) (k n : Nat) (A : Option Addr) (c : Nat) : Prop := LAt wr w.heap.size x ∧ wr.ownsRow (w.heap.size + 1) 177 2 (.slice A n c) n (optsV (gat x k)) ∧ n = (gat x k).length ∧ (∀ j, j < k → has (kd j) x = false → adr (kd j) x = 0) ∧ Below w.heap.size w wr
theorem Pts.callee {w wr W' : World} {x : Ipc} {k n : Nat} {A : Option Addr} {c : Nat} (h : Pts w wr x k n A c) (hb : Below wr.heap.size wr W') : Pts w W' x k n A c :=
  ⟨h.1.callee hb, (Moves.of_below (S := fun _ => False) hb).row h.2.1 (fun _ _ x => x), h.2.2.1, h.2.2.2.1, h.2.2.2.2.trans (hb.mono h.2.2.2.2.size)⟩
theorem Pts.skip {w wr : World} {x : Ipc} {k n : Nat} {A : Option Addr} {c : Nat} (h : Pts w wr x k n A c) (hk : k < 3) (hh : has (kd k) x = false) (ha : adr (kd k) x = 0) : Pts w wr x (k + 1) n A c := by
  obtain ⟨h1, h2, h3, h4, h5⟩ := h
  refine ⟨h1, by rw [gat_no hk hh]; exact h2, by rw [gat_no hk hh]; exact h3, fun j hj hf => ?_, h5⟩
  rcases Nat.lt_succ_iff_lt_or_eq.1 hj with hj | rfl
  · exact h4 j hj hf
  · exact ha
theorem own_nil {w : World} {base n c : Nat} {e : TypeId} {A : Option Addr} {xs : List Value} (h : w.ownsRow base e 2 (.slice A n c) n xs) : A = none → c = 0 := by
  rintro rfl
  rcases h.2 with ⟨e', _⟩ | ⟨g, cap, cur, e', _⟩
  · cases e'; rfl
  · cases e'
set_option maxHeartbeats 4000000 in
set_option maxRecDepth 100000 in
theorem own_room {w : World} {base n c : Nat} {e : TypeId} {A : Option Addr} {xs : List Value} (h : w.ownsRow base e 2 (.slice A n c) n xs) : n ≤ c := by
  rcases h.2 with ⟨_, h2⟩ | ⟨g, cap, cur, e', _, _, h2, _⟩
  · rw [h2]; exact Nat.zero_le _
  · rw [(Value.slice.inj e').2.2]; exact h2
set_option maxHeartbeats 4000000 in
set_option maxRecDepth 100000 in
theorem put_room (x : Ipc) (w : World) : Calls Tryz.prog 241 #[.agg (lv x).toArray] w (PutR x w) := by
  show Calls Tryz.prog 241 #[.agg #[Value.bool x.ha, .int .u32 x.addr.toNat, .bool x.h1, .int .u32 x.dns1.toNat, .bool x.h2, .int .u32 x.dns2.toNat]] w (PutR x w)
  obtain ⟨i0, hi, hz0, hz1, hz2⟩ := info_parts Tryz.info177
  have HC := Lib.hid meanings_any
  obtain ⟨W, hW, HW⟩ := boxL w x
  have HP : Hid (Pts w W x 0 0 none 0) := ⟨HW.out.1, World.ownsRow_nil _ _ _ _, rfl, fun j h => by omega, HW.out.2.1⟩
  clear HW
  go_enter Tryz.func241, Tryz.ntmps241
  go_wp2_with fail
  refine (HC.out _).mono ?_
  rintro e w1 ⟨rfl, hb1⟩
  have HP1 := Lib.hid (HP.out.callee hb1)
  clear hb1 hW HP HC
  go_wp2
  go_loopw [4, 10] (fun v i wr => ∃ (k n : Nat) (A : Option Addr) (c : Nat), k ≤ 3 ∧ n ≤ 3 ∧ i = .int .i64 k ∧ v = .slice A n c ∧ Hid (Pts w wr x k n A c)) (fun _ i _ => 3 - (intOf i).toNat)
  case atStart => exact ⟨0, 0, none, 0, Nat.zero_le _, Nat.zero_le _, rfl, rfl, HP1⟩
  case round =>
    obtain ⟨k, n, A, c, hk, hn3, rfl, rfl, HR⟩ := hrel
    by_cases hlt : k < 3
    · have hl1 : (k : Int) < 3 := by omega
      have hix : ∀ W, (Instr.index 324 msV (.int .i64 (k : Nat))).run Tryz.prog W = .ok (.agg #[.int .u8 (kd k).toNat, .func (.func (fS k)) #[] #[], .func (.func (fW k)) #[] #[]]) W := fun W => index_ms k hlt W
      have C1 : Hid (∀ W, Calls Tryz.prog (fS k) #[.agg #[Value.bool x.ha, .int .u32 x.addr.toNat, .bool x.h1, .int .u32 x.dns1.toNat, .bool x.h2, .int .u32 x.dns2.toNat]] W (SaidQ (kd k) x W)) := fun W => said_any k hlt x W
      have hen := said_enters k hlt
      have C2 : Hid (∀ W, Calls Tryz.prog 82 #[.int .u32 (adr (kd k) x).toNat] W fun e w' => e = .returned (.string (dat (kd k) x)) ∧ Below W.heap.size W w') := fun W => put32_any _ W (by have := (adr (kd k) x).toNat_lt; omega)
      obtain ⟨V1, hV1, HV1⟩ : ∃ V1, wr.alloc (.cells #[.int .u8 (kd k).toNat, .func (.func (fS k)) #[] #[], .func (.func (fW k)) #[] #[]] 317) = V1 ∧ Hid (Blk V1 wr.heap.size [.int .u8 (kd k).toNat, .func (.func (fS k)) #[] #[], .func (.func (fW k)) #[] #[]] 317 ∧ Below wr.heap.size wr V1) := ⟨_, rfl, blk_new _ _ _, (Below.refl _ _).alloc (Nat.le_refl _) _⟩
      have HS1 := Lib.hid (HR.out.callee HV1.out.2)
      have m0 : V1.cell? ⟨wr.heap.size, 0, none⟩ = some (.int .u8 (kd k).toNat) := Blk.at_ HV1.out.1 0
      have m1 : V1.cell? ⟨wr.heap.size, 1, none⟩ = some (.func (.func (fS k)) #[] #[]) := Blk.at_ HV1.out.1 1
      have x0 : V1.cell? ⟨w.heap.size, 0, none⟩ = some (Value.bool x.ha) := HS1.out.1.c 0
      have x1 : V1.cell? ⟨w.heap.size, 1, none⟩ = some (.int .u32 x.addr.toNat) := HS1.out.1.c 1
      have x2 : V1.cell? ⟨w.heap.size, 2, none⟩ = some (.bool x.h1) := HS1.out.1.c 2
      have x3 : V1.cell? ⟨w.heap.size, 3, none⟩ = some (.int .u32 x.dns1.toNat) := HS1.out.1.c 3
      have x4 : V1.cell? ⟨w.heap.size, 4, none⟩ = some (.bool x.h2) := HS1.out.1.c 4
      have x5 : V1.cell? ⟨w.heap.size, 5, none⟩ = some (.int .u32 x.dns2.toNat) := HS1.out.1.c 5
      unfold SaidQ at C1
      have HY : Hid (has (kd k) x = true → gat x (k + 1) = gat x k ++ [(kd k, dat (kd k) x)]) := gat_yes hlt
      have HZ : Hid (has (kd k) x = false → adr (kd k) x = 0 → ∀ W n A c, Pts w W x k n A c → Pts w W x (k + 1) n A c) := fun h1 h2 W n A c h => h.skip hlt h1 h2
      have HF : Hid (has (kd k) x = false → adr (kd k) x ≠ 0 → may x = false) := fun h1 h2 => by
        rw [Bool.eq_false_iff]
        intro h
        exact h2 (may_kd.1 h k hlt h1)
      have HD : Hid ((dat (kd k) x).size = 4) := by show (bOf _).size = 4; rw [size_bOf, numS_length]
      generalize fS k = S at *
      generalize fW k = R at *
      go_wp2_with fail
      refine (C1.out _).mono ?_
      rintro e w2 ⟨rfl, hb2⟩
      have HS2 := Lib.hid (HS1.out.callee hb2)
      have HM2 := Lib.hid (Blk.callee HV1.out.1 hb2)
      clear hb2 hV1 HV1 HS1 HR C1 hen hix m0 m1 x0 x1 x2 x3 x4 x5
      obtain ⟨b, Hb⟩ : ∃ b, Hid (b = has (kd k) x) := ⟨_, rfl⟩
      rw [← Hb.out] at HY HZ HF
      rw [← Hb.out]
      cases b
      · have HZ2 := Lib.hid (HZ.out rfl)
        have HF2 := Lib.hid (HF.out rfl)
        clear HY HZ HF C2 HD HM2
        by_cases ha : adr (kd k) x = 0
        · have HS3 := Lib.hid (HZ2.out ha _ _ _ _ HS2.out)
          have ht : (((adr (kd k) x).toNat : Int) != 0) = false := by rw [ha]; rfl
          clear HZ2 HF2 ha
          generalize adr (kd k) x = a at *
          go_wp2
          go_roundw
          case rel => exact ⟨k + 1, n, A, c, by omega, hn3, by go_num, rfl, HS3⟩
          case measure => simp [intOf]; omega
        · have HM := Lib.hid (HF2.out ha)
          have ht : (((adr (kd k) x).toNat : Int) != 0) = true := by
            rw [bne_iff_ne]
            intro e
            exact ha (UInt32.toNat_inj.1 (by show _ = 0; omega))
          clear HZ2 HF2 ha
          generalize adr (kd k) x = a at *
          go_wp2
          go_ret2
          refine ⟨none, 0, ?_, fun _ => rfl, ?_, HS2.out.2.2.2.2, by rw [(pL_no HM.out).1]; exact Nat.le_refl _⟩
          · rw [(pL_no HM.out).1, (pL_no HM.out).2]; rfl
          · rw [(pL_no HM.out).1]; exact opts_nil _ _
      · have HY2 := Lib.hid (HY.out rfl)
        clear HZ HF HY
        have m0 : w2.cell? ⟨wr.heap.size, 0, none⟩ = some (.int .u8 (kd k).toNat) := Blk.at_ HM2.out 0
        generalize hs : dat (kd k) x = s at *
        clear hs
        generalize adr (kd k) x = a at *
        go_wp2
        have m0d : w2.drew.cell? ⟨wr.heap.size, 0, none⟩ = some (.int .u8 (kd k).toNat) := m0
        have HSd : Hid (Pts w w2.drew x k n A c) := HS2.out.callee (Below.refl _ w2).drew
        have HMd : Hid (Blk w2.drew wr.heap.size [.int .u8 (kd k).toNat, .func (.func S) #[] #[], .func (.func R) #[] #[]] 317) := HM2.out
        go_region_held3 (fun w' => w'.cell? ⟨wr.heap.size, 0, none⟩ = some (.int .u8 (kd k).toNat))
          (first | assumption)
          (first
            | (go_at_call 82; (refine (C2.out _).mono ?_; clear C2; rintro e w6 ⟨rfl, hb6⟩; have y1 := (hb6.cell (p := ⟨wr.heap.size, 0, none⟩) (World.block_lt_of_cell? _ _ m0d)).trans m0d; have HS6 := Lib.hid (HSd.out.callee hb6); have HO6 := Lib.hid HS6.out.2.1; have HM6 := Lib.hid (Blk.alloc (Blk.callee HMd.out hb6) (.cells #[.int .u8 (kd k).toNat, .string s] 177)); have HSz6 := HS6.out.2.2.2.2.size; have y2 : (w6.alloc (.cells #[.int .u8 (kd k).toNat, .string s] 177)).cell? ⟨wr.heap.size, 0, none⟩ = some (.int .u8 (kd k).toNat) := ((Below.refl _ w6).alloc (Nat.le_refl _) _ |>.cell (p := ⟨wr.heap.size, 0, none⟩) (World.block_lt_of_cell? _ _ y1)).trans y1))
            | (refine step_append_any (w6.alloc (.cells #[.int .u8 (kd k).toNat, .string s] 177)) (by rfl) _ _ _ (by rfl) (w.heap.size + 1) 177 i0 _ 2 24 Tryz.underlying86 hi hz0 hz1 hz2 rfl (by decide) (.slice A n c) n (optsV (gat x k)) (by rfl) (HO6.out.alloc _) ⟨w6.heap.size, 0, none⟩ 1 1 (optsV [(kd k, s)]) (by rfl) (by rfl) (by rw [optsV_one]; exact cells_new _ _ _) (optsV_ones _) (by unfold maxLen; omega) (by omega) (by simp; omega) ?_; intro v7 w7 hown7 hgr7 _; have HM7 : Blk w7 wr.heap.size [.int .u8 (kd k).toNat, .func (.func S) #[] #[], .func (.func R) #[] #[]] 317 := Blk.moves HM6.out (Moves.of_grown hgr7 (fun k e _ => e)) (fun e => cells_not_row HM6.out (by decide) (HO6.out.alloc _) e); have y3 : w7.cell? ⟨wr.heap.size, 0, none⟩ = some (.int .u8 (kd k).toNat) := Blk.at_ HM7 0; clear HM7)
            | fail)
        have HS7 : Hid (∃ A' c', v7 = .slice A' (n + 1) c' ∧ Pts w w7 x (k + 1) (n + 1) A' c') := by
          obtain ⟨g', cap', rfl⟩ := ownsRow_succ hown7
          have hx := HS6.out.callee ((Below.refl _ w6).alloc (Nat.le_refl _) (.cells #[.int .u8 (kd k).toNat, .string s] 177))
          refine ⟨_, cap', rfl, Blk.moves hx.1 (Moves.of_grown hgr7 (fun k e _ => e)) (fun e => cells_not_row hx.1 (by decide) hx.2.1 e), ?_, ?_, fun j hj hf => ?_, hx.2.2.2.2.grown hgr7 hx.2.2.2.2.size (fun q hq => by have := (hx.2.1.lt q hq).1; omega)⟩
          · rw [HY2.out, optsV_append]; exact hown7
          · rw [HY2.out, List.length_append, ← hx.2.2.1]; rfl
          · rcases Nat.lt_succ_iff_lt_or_eq.1 hj with hj | rfl
            · exact hx.2.2.2.1 j hj hf
            · rw [← Hb.out] at hf; cases hf
        have hn2 : n ≤ 2 := by
          have := gat_len x k
          rw [← HS2.out.2.2.1] at this
          omega
        clear hown7 hgr7 y1 y2 y3
        obtain ⟨A', c', rfl, hs7⟩ := HS7.out
        have HS8 := Lib.hid hs7
        clear HS7 hs7
        go_wp2
        go_roundw
        case rel => exact ⟨k + 1, n + 1, A', c', by omega, by omega, by go_num, rfl, HS8⟩
        case measure => simp [intOf]; omega
    · have hl1 : ¬ (k : Int) < 3 := by omega
      have HK : Hid (k = 3) := by show k = 3; omega
      go_wp2
      go_ret2
      obtain ⟨h1, h2, h3, h4, h5⟩ := HR.out
      have hm : may x = true := may_kd.2 fun j hj hf => h4 j (by omega) hf
      rw [HK.out, gat_three] at h2 h3
      refine ⟨A, c, ?_, own_nil h2, ?_, h5, by rw [(pL_yes hm).1, ← h3]; exact own_room h2⟩
      · rw [(pL_yes hm).1, (pL_yes hm).2, ← h3]; rfl
      · rw [(pL_yes hm).1, ← h3]
        obtain ⟨A', c', e', ho⟩ := opts_own h2 (fun o ho => gat_size x 3 o ho)
        cases e'
        exact ho
theorem put_any (x : Ipc) (w : World) : Calls Tryz.prog 241 #[.agg (lv x).toArray] w (PutQ x w) :=
  (put_room x w).mono fun _ _ ⟨A, c, h1, h2, h3, h4, _⟩ => ⟨A, c, h1, h2, h3, h4⟩
end Go.Proofs.YtpppggicihfbgaaGreat.Ipc

/- Contracts of the program's getters, list, Request, Copy, Reset. -/
set_option linter.unusedSimpArgs false
set_option linter.unusedVariables false
namespace Go.Proofs.YtpppggicihfbgaaGreat.Ipp
open List (getElem_toArray getElem_cons_succ getElem_cons_zero setIfInBounds_toArray set_cons_zero set_cons_succ)
open Go.RowKit Go.Proofs.YtpppggicihfbgaaGreat.Oct Go.Proofs.YtpppggicihfbgaaGreat.Row Go.Proofs.YtpppggicihfbgaaGreat.Mem Go.Proofs.YtpppggicihfbgaaGreat.Opt Go.Proofs.YtpppggicihfbgaaGreat.Ipc

theorem boxZ (w : World) : ∃ V, w.alloc (.cells #[Value.bool false, .int .u32 0, .bool false, .int .u32 0, .bool false, .int .u32 0] 97) = V ∧ Hid (LAt V w.heap.size lz ∧ Below w.heap.size w V ∧ V.heap.size = w.heap.size + 1) :=
  ⟨_, rfl, lat_new w lz, (Below.refl w.heap.size w).alloc (Nat.le_refl _) _, by simp⟩
set_option maxHeartbeats 8000000 in
set_option maxRecDepth 100000 in
theorem wish_any (g : Nat) (p : Po) (w : World) (h : PAt w g p) : Calls Tryz.prog 216 #[.pointer (some ⟨g, 0, none⟩)] w (BetQ p.w w) := by
  have HN := Lib.hid h.lt
  obtain ⟨W, hW, HV⟩ := boxZ w
  have HP : Hid (PAt W g p) := h.callee HV.out.2.1
  have HZ := Lib.hid HV.out.1
  have HB := Lib.hid HV.out.2.1
  obtain ⟨p0, p1, p2, p3, p4, p5⟩ := HP.out.wish
  have z0 : W.drew.cell? ⟨w.heap.size, 0, none⟩ = some (Value.bool false) := HZ.out.c 0
  have z1 : W.drew.cell? ⟨w.heap.size, 1, none⟩ = some (.int .u32 0) := HZ.out.c 1
  have z2 : W.drew.cell? ⟨w.heap.size, 2, none⟩ = some (.bool false) := HZ.out.c 2
  have z3 : W.drew.cell? ⟨w.heap.size, 3, none⟩ = some (.int .u32 0) := HZ.out.c 3
  have z4 : W.drew.cell? ⟨w.heap.size, 4, none⟩ = some (.bool false) := HZ.out.c 4
  have z5 : W.drew.cell? ⟨w.heap.size, 5, none⟩ = some (.int .u32 0) := HZ.out.c 5
  have f0 : W.drew.frozen? ⟨w.heap.size, 0, none⟩ = false := HZ.out.f 0
  have f1 : W.drew.frozen? ⟨w.heap.size, 1, none⟩ = false := HZ.out.f 1
  have f2 : W.drew.frozen? ⟨w.heap.size, 2, none⟩ = false := HZ.out.f 2
  have f3 : W.drew.frozen? ⟨w.heap.size, 3, none⟩ = false := HZ.out.f 3
  have f4 : W.drew.frozen? ⟨w.heap.size, 4, none⟩ = false := HZ.out.f 4
  have f5 : W.drew.frozen? ⟨w.heap.size, 5, none⟩ = false := HZ.out.f 5
  clear h HV
  go_enter Tryz.func216, Tryz.ntmps216
  go_wp2_with fail
  clear hW
  refine wp_region_held_drew (S := (fun w' => w'.cell? ⟨g, 0, none⟩ = some (Value.bool p.w.ha) ∧ w'.cell? ⟨g, 1, none⟩ = some (.int .u32 p.w.addr.toNat) ∧ w'.cell? ⟨g, 2, none⟩ = some (.bool p.w.h1) ∧ w'.cell? ⟨g, 3, none⟩ = some (.int .u32 p.w.dns1.toNat) ∧ w'.cell? ⟨g, 4, none⟩ = some (.bool p.w.h2) ∧ w'.cell? ⟨g, 5, none⟩ = some (.int .u32 p.w.dns2.toNat))) (by kernel_rfl) ⟨p0, p1, p2, p3, p4, p5⟩ (fun hHeld => ?_)
  have HPu : Hid (PAt W.drew g p) := HP.out
  have HZu : Hid (LAt W.drew w.heap.size lz) := HZ.out
  have HBu : Hid (Below w.heap.size w W.drew) := HB.out.drew
  clear HP HZ HB p0 p1 p2 p3 p4 p5
  generalize W.drew = U at *
  refine wpAnyH_take (i := 0) (v := ?vv0_1) rfl (by kernel_rfl) (by kernel_rfl) (by kernel_rfl) (fun _ _ _ h => h) (Or.inl ⟨by rfl, ?yy0_1⟩) (by assumption) ?rr0_1
  case yy0_1 => (intro w hSw; (try dsimp only at hSw); obtain ⟨hs0, hs1, hs2, hs3, hs4, hs5⟩ := hSw; (try simp only [getElem_toArray, getElem_cons_succ, getElem_cons_zero, Act.put, setIfInBounds_toArray, set_cons_zero, set_cons_succ]); go_simp; (try (with_reducible rfl)))
  try simp only [getElem_toArray, getElem_cons_succ, getElem_cons_zero, Act.put, setIfInBounds_toArray, set_cons_zero, set_cons_succ]
  refine wpAnyH_take (i := 1) (v := ?vv1_2) rfl (by kernel_rfl) (by kernel_rfl) (by kernel_rfl) (fun _ _ _ h => h) (Or.inl ⟨by rfl, ?yy1_2⟩) (by assumption) ?rr1_2
  case yy1_2 => (intro w hSw; (try dsimp only at hSw); obtain ⟨hs0, hs1, hs2, hs3, hs4, hs5⟩ := hSw; (try simp only [getElem_toArray, getElem_cons_succ, getElem_cons_zero, Act.put, setIfInBounds_toArray, set_cons_zero, set_cons_succ]); go_simp; (try (with_reducible rfl)))
  try simp only [getElem_toArray, getElem_cons_succ, getElem_cons_zero, Act.put, setIfInBounds_toArray, set_cons_zero, set_cons_succ]
  refine wpAnyH_take (i := 2) (v := ?vv2_3) rfl (by kernel_rfl) (by kernel_rfl) (by kernel_rfl) (fun _ _ _ h => h) (Or.inl ⟨by rfl, ?yy2_3⟩) (by assumption) ?rr2_3
  case yy2_3 => (intro w hSw; (try dsimp only at hSw); obtain ⟨hs0, hs1, hs2, hs3, hs4, hs5⟩ := hSw; (try simp only [getElem_toArray, getElem_cons_succ, getElem_cons_zero, Act.put, setIfInBounds_toArray, set_cons_zero, set_cons_succ]); go_simp; (try (with_reducible rfl)))
  try simp only [getElem_toArray, getElem_cons_succ, getElem_cons_zero, Act.put, setIfInBounds_toArray, set_cons_zero, set_cons_succ]
  refine wpAnyH_take (i := 3) (v := ?vv3_4) rfl (by kernel_rfl) (by kernel_rfl) (by kernel_rfl) (fun _ _ _ h => h) (Or.inl ⟨by rfl, ?yy3_4⟩) (by assumption) ?rr3_4
  case yy3_4 => (intro w hSw; (try dsimp only at hSw); obtain ⟨hs0, hs1, hs2, hs3, hs4, hs5⟩ := hSw; (try simp only [getElem_toArray, getElem_cons_succ, getElem_cons_zero, Act.put, setIfInBounds_toArray, set_cons_zero, set_cons_succ]); go_simp; (try (with_reducible rfl)))
  try simp only [getElem_toArray, getElem_cons_succ, getElem_cons_zero, Act.put, setIfInBounds_toArray, set_cons_zero, set_cons_succ]
  refine wpAnyH_take (i := 4) (v := ?vv4_5) rfl (by kernel_rfl) (by kernel_rfl) (by kernel_rfl) (fun _ _ _ h => h) (Or.inl ⟨by rfl, ?yy4_5⟩) (by assumption) ?rr4_5
  case yy4_5 => (intro w hSw; (try dsimp only at hSw); obtain ⟨hs0, hs1, hs2, hs3, hs4, hs5⟩ := hSw; (try simp only [getElem_toArray, getElem_cons_succ, getElem_cons_zero, Act.put, setIfInBounds_toArray, set_cons_zero, set_cons_succ]); go_simp; (try (with_reducible rfl)))
  try simp only [getElem_toArray, getElem_cons_succ, getElem_cons_zero, Act.put, setIfInBounds_toArray, set_cons_zero, set_cons_succ]
  refine wpAnyH_take (i := 5) (v := ?vv5_6) rfl (by kernel_rfl) (by kernel_rfl) (by kernel_rfl) (fun _ _ _ h => h) (Or.inl ⟨by rfl, ?yy5_6⟩) (by assumption) ?rr5_6
  case yy5_6 => (intro w hSw; (try dsimp only at hSw); obtain ⟨hs0, hs1, hs2, hs3, hs4, hs5⟩ := hSw; (try simp only [getElem_toArray, getElem_cons_succ, getElem_cons_zero, Act.put, setIfInBounds_toArray, set_cons_zero, set_cons_succ]); go_simp; (try (with_reducible rfl)))
  try simp only [getElem_toArray, getElem_cons_succ, getElem_cons_zero, Act.put, setIfInBounds_toArray, set_cons_zero, set_cons_succ]
  refine wpAnyH_take (i := 6) (v := ?vv6_7) rfl (by kernel_rfl) (by kernel_rfl) (by kernel_rfl) (fun _ _ _ h => h) (Or.inl ⟨by rfl, ?yy6_7⟩) (by assumption) ?rr6_7
  case yy6_7 => (intro w hSw; (try dsimp only at hSw); obtain ⟨hs0, hs1, hs2, hs3, hs4, hs5⟩ := hSw; (try simp only [getElem_toArray, getElem_cons_succ, getElem_cons_zero, Act.put, setIfInBounds_toArray, set_cons_zero, set_cons_succ]); go_simp; (try (with_reducible rfl)))
  try simp only [getElem_toArray, getElem_cons_succ, getElem_cons_zero, Act.put, setIfInBounds_toArray, set_cons_zero, set_cons_succ]
  refine wpAnyH_take (i := 7) (v := ?vv7_8) rfl (by kernel_rfl) (by kernel_rfl) (by kernel_rfl) (fun _ _ _ h => h) (Or.inl ⟨by rfl, ?yy7_8⟩) (by assumption) ?rr7_8
  case yy7_8 => (intro w hSw; (try dsimp only at hSw); obtain ⟨hs0, hs1, hs2, hs3, hs4, hs5⟩ := hSw; (try simp only [getElem_toArray, getElem_cons_succ, getElem_cons_zero, Act.put, setIfInBounds_toArray, set_cons_zero, set_cons_succ]); go_simp; (try (with_reducible rfl)))
  try simp only [getElem_toArray, getElem_cons_succ, getElem_cons_zero, Act.put, setIfInBounds_toArray, set_cons_zero, set_cons_succ]
  refine wpAnyH_take (i := 8) (v := ?vv8_9) rfl (by kernel_rfl) (by kernel_rfl) (by kernel_rfl) (fun _ _ _ h => h) (Or.inl ⟨by rfl, ?yy8_9⟩) (by assumption) ?rr8_9
  case yy8_9 => (intro w hSw; (try dsimp only at hSw); obtain ⟨hs0, hs1, hs2, hs3, hs4, hs5⟩ := hSw; (try simp only [getElem_toArray, getElem_cons_succ, getElem_cons_zero, Act.put, setIfInBounds_toArray, set_cons_zero, set_cons_succ]); go_simp; (try (with_reducible rfl)))
  try simp only [getElem_toArray, getElem_cons_succ, getElem_cons_zero, Act.put, setIfInBounds_toArray, set_cons_zero, set_cons_succ]
  refine wpAnyH_take (i := 9) (v := ?vv9_10) rfl (by kernel_rfl) (by kernel_rfl) (by kernel_rfl) (fun _ _ _ h => h) (Or.inl ⟨by rfl, ?yy9_10⟩) (by assumption) ?rr9_10
  case yy9_10 => (intro w hSw; (try dsimp only at hSw); obtain ⟨hs0, hs1, hs2, hs3, hs4, hs5⟩ := hSw; (try simp only [getElem_toArray, getElem_cons_succ, getElem_cons_zero, Act.put, setIfInBounds_toArray, set_cons_zero, set_cons_succ]); go_simp; (try (with_reducible rfl)))
  try simp only [getElem_toArray, getElem_cons_succ, getElem_cons_zero, Act.put, setIfInBounds_toArray, set_cons_zero, set_cons_succ]
  refine wpAnyH_take (i := 10) (v := ?vv10_11) rfl (by kernel_rfl) (by kernel_rfl) (by kernel_rfl) (fun _ _ _ h => h) (Or.inl ⟨by rfl, ?yy10_11⟩) (by assumption) ?rr10_11
  case yy10_11 => (intro w hSw; (try dsimp only at hSw); obtain ⟨hs0, hs1, hs2, hs3, hs4, hs5⟩ := hSw; (try simp only [getElem_toArray, getElem_cons_succ, getElem_cons_zero, Act.put, setIfInBounds_toArray, set_cons_zero, set_cons_succ]); go_simp; (try (with_reducible rfl)))
  try simp only [getElem_toArray, getElem_cons_succ, getElem_cons_zero, Act.put, setIfInBounds_toArray, set_cons_zero, set_cons_succ]
  refine wpAnyH_take (i := 11) (v := ?vv11_12) rfl (by kernel_rfl) (by kernel_rfl) (by kernel_rfl) (fun _ _ _ h => h) (Or.inl ⟨by rfl, ?yy11_12⟩) (by assumption) ?rr11_12
  case yy11_12 => (intro w hSw; (try dsimp only at hSw); obtain ⟨hs0, hs1, hs2, hs3, hs4, hs5⟩ := hSw; (try simp only [getElem_toArray, getElem_cons_succ, getElem_cons_zero, Act.put, setIfInBounds_toArray, set_cons_zero, set_cons_succ]); go_simp; (try (with_reducible rfl)))
  try simp only [getElem_toArray, getElem_cons_succ, getElem_cons_zero, Act.put, setIfInBounds_toArray, set_cons_zero, set_cons_succ]
  refine wpAnyH_take (i := 12) (v := ?vv12_13) rfl (by kernel_rfl) (by kernel_rfl) (by kernel_rfl) (fun _ _ _ h => h) (Or.inl ⟨by rfl, ?yy12_13⟩) (by assumption) ?rr12_13
  case yy12_13 => (intro w hSw; (try dsimp only at hSw); obtain ⟨hs0, hs1, hs2, hs3, hs4, hs5⟩ := hSw; (try simp only [getElem_toArray, getElem_cons_succ, getElem_cons_zero, Act.put, setIfInBounds_toArray, set_cons_zero, set_cons_succ]); go_simp; (try (with_reducible rfl)))
  try simp only [getElem_toArray, getElem_cons_succ, getElem_cons_zero, Act.put, setIfInBounds_toArray, set_cons_zero, set_cons_succ]
  refine wpAnyH_take (i := 13) (v := ?vv13_14) rfl (by kernel_rfl) (by kernel_rfl) (by kernel_rfl) (fun _ _ _ h => h) (Or.inl ⟨by rfl, ?yy13_14⟩) (by assumption) ?rr13_14
  case yy13_14 => (intro w hSw; (try dsimp only at hSw); obtain ⟨hs0, hs1, hs2, hs3, hs4, hs5⟩ := hSw; (try simp only [getElem_toArray, getElem_cons_succ, getElem_cons_zero, Act.put, setIfInBounds_toArray, set_cons_zero, set_cons_succ]); go_simp; (try (with_reducible rfl)))
  try simp only [getElem_toArray, getElem_cons_succ, getElem_cons_zero, Act.put, setIfInBounds_toArray, set_cons_zero, set_cons_succ]
  refine wpAnyH_take (i := 14) (v := ?vv14_15) rfl (by kernel_rfl) (by kernel_rfl) (by kernel_rfl) (fun _ _ _ h => h) (Or.inl ⟨by rfl, ?yy14_15⟩) (by assumption) ?rr14_15
  case yy14_15 => (intro w hSw; (try dsimp only at hSw); obtain ⟨hs0, hs1, hs2, hs3, hs4, hs5⟩ := hSw; (try simp only [getElem_toArray, getElem_cons_succ, getElem_cons_zero, Act.put, setIfInBounds_toArray, set_cons_zero, set_cons_succ]); go_simp; (try (with_reducible rfl)))
  try simp only [getElem_toArray, getElem_cons_succ, getElem_cons_zero, Act.put, setIfInBounds_toArray, set_cons_zero, set_cons_succ]
  refine wpAnyH_take (i := 15) (v := ?vv15_16) rfl (by kernel_rfl) (by kernel_rfl) (by kernel_rfl) (fun _ _ _ h => h) (Or.inl ⟨by rfl, ?yy15_16⟩) (by assumption) ?rr15_16
  case yy15_16 => (intro w hSw; (try dsimp only at hSw); obtain ⟨hs0, hs1, hs2, hs3, hs4, hs5⟩ := hSw; (try simp only [getElem_toArray, getElem_cons_succ, getElem_cons_zero, Act.put, setIfInBounds_toArray, set_cons_zero, set_cons_succ]); go_simp; (try (with_reducible rfl)))
  try simp only [getElem_toArray, getElem_cons_succ, getElem_cons_zero, Act.put, setIfInBounds_toArray, set_cons_zero, set_cons_succ]
  refine wpAnyH_take (i := 16) (v := ?vv16_17) rfl (by kernel_rfl) (by kernel_rfl) (by kernel_rfl) (fun _ _ _ h => h) (Or.inl ⟨by rfl, ?yy16_17⟩) (by assumption) ?rr16_17
  case yy16_17 => (intro w hSw; (try dsimp only at hSw); obtain ⟨hs0, hs1, hs2, hs3, hs4, hs5⟩ := hSw; (try simp only [getElem_toArray, getElem_cons_succ, getElem_cons_zero, Act.put, setIfInBounds_toArray, set_cons_zero, set_cons_succ]); go_simp; (try (with_reducible rfl)))
  try simp only [getElem_toArray, getElem_cons_succ, getElem_cons_zero, Act.put, setIfInBounds_toArray, set_cons_zero, set_cons_succ]
  refine wpAnyH_take (i := 17) (v := ?vv17_18) rfl (by kernel_rfl) (by kernel_rfl) (by kernel_rfl) (fun _ _ _ h => h) (Or.inl ⟨by rfl, ?yy17_18⟩) (by assumption) ?rr17_18
  case yy17_18 => (intro w hSw; (try dsimp only at hSw); obtain ⟨hs0, hs1, hs2, hs3, hs4, hs5⟩ := hSw; (try simp only [getElem_toArray, getElem_cons_succ, getElem_cons_zero, Act.put, setIfInBounds_toArray, set_cons_zero, set_cons_succ]); go_simp; (try (with_reducible rfl)))
  try simp only [getElem_toArray, getElem_cons_succ, getElem_cons_zero, Act.put, setIfInBounds_toArray, set_cons_zero, set_cons_succ]
  refine wpAnyH_take (i := 18) (v := ?vv18_19) rfl (by kernel_rfl) (by kernel_rfl) (by kernel_rfl) (fun _ _ _ h => h) (Or.inl ⟨by rfl, ?yy18_19⟩) (by assumption) ?rr18_19
  case yy18_19 => (intro w hSw; (try dsimp only at hSw); obtain ⟨hs0, hs1, hs2, hs3, hs4, hs5⟩ := hSw; (try simp only [getElem_toArray, getElem_cons_succ, getElem_cons_zero, Act.put, setIfInBounds_toArray, set_cons_zero, set_cons_succ]); go_simp; (try (with_reducible rfl)))
  try simp only [getElem_toArray, getElem_cons_succ, getElem_cons_zero, Act.put, setIfInBounds_toArray, set_cons_zero, set_cons_succ]
  refine wpAnyH_take (i := 19) (v := ?vv19_20) rfl (by kernel_rfl) (by kernel_rfl) (by kernel_rfl) (fun _ _ _ h => h) (Or.inl ⟨by rfl, ?yy19_20⟩) (by assumption) ?rr19_20
  case yy19_20 => (intro w hSw; (try dsimp only at hSw); obtain ⟨hs0, hs1, hs2, hs3, hs4, hs5⟩ := hSw; (try simp only [getElem_toArray, getElem_cons_succ, getElem_cons_zero, Act.put, setIfInBounds_toArray, set_cons_zero, set_cons_succ]); go_simp; (try (with_reducible rfl)))
  try simp only [getElem_toArray, getElem_cons_succ, getElem_cons_zero, Act.put, setIfInBounds_toArray, set_cons_zero, set_cons_succ]
  refine wpAnyH_take (i := 20) (v := ?vv20_21) rfl (by kernel_rfl) (by kernel_rfl) (by kernel_rfl) (fun _ _ _ h => h) (Or.inl ⟨by rfl, ?yy20_21⟩) (by assumption) ?rr20_21
  case yy20_21 => (intro w hSw; (try dsimp only at hSw); obtain ⟨hs0, hs1, hs2, hs3, hs4, hs5⟩ := hSw; (try simp only [getElem_toArray, getElem_cons_succ, getElem_cons_zero, Act.put, setIfInBounds_toArray, set_cons_zero, set_cons_succ]); go_simp; (try (with_reducible rfl)))
  try simp only [getElem_toArray, getElem_cons_succ, getElem_cons_zero, Act.put, setIfInBounds_toArray, set_cons_zero, set_cons_succ]
  refine wpAnyH_take (i := 21) (v := ?vv21_22) rfl (by kernel_rfl) (by kernel_rfl) (by kernel_rfl) (fun _ _ _ h => h) (Or.inl ⟨by rfl, ?yy21_22⟩) (by assumption) ?rr21_22
  case yy21_22 => (intro w hSw; (try dsimp only at hSw); obtain ⟨hs0, hs1, hs2, hs3, hs4, hs5⟩ := hSw; (try simp only [getElem_toArray, getElem_cons_succ, getElem_cons_zero, Act.put, setIfInBounds_toArray, set_cons_zero, set_cons_succ]); go_simp; (try (with_reducible rfl)))
  try simp only [getElem_toArray, getElem_cons_succ, getElem_cons_zero, Act.put, setIfInBounds_toArray, set_cons_zero, set_cons_succ]
  refine wpAnyH_take (i := 22) (v := ?vv22_23) rfl (by kernel_rfl) (by kernel_rfl) (by kernel_rfl) (fun _ _ _ h => h) (Or.inl ⟨by rfl, ?yy22_23⟩) (by assumption) ?rr22_23
  case yy22_23 => (intro w hSw; (try dsimp only at hSw); obtain ⟨hs0, hs1, hs2, hs3, hs4, hs5⟩ := hSw; (try simp only [getElem_toArray, getElem_cons_succ, getElem_cons_zero, Act.put, setIfInBounds_toArray, set_cons_zero, set_cons_succ]); go_simp; (try (with_reducible rfl)))
  try simp only [getElem_toArray, getElem_cons_succ, getElem_cons_zero, Act.put, setIfInBounds_toArray, set_cons_zero, set_cons_succ]
  refine wpAnyH_take (i := 23) (v := ?vv23_24) rfl (by kernel_rfl) (by kernel_rfl) (by kernel_rfl) (fun _ _ _ h => h) (Or.inl ⟨by rfl, ?yy23_24⟩) (by assumption) ?rr23_24
  case yy23_24 => (intro w hSw; (try dsimp only at hSw); obtain ⟨hs0, hs1, hs2, hs3, hs4, hs5⟩ := hSw; (try simp only [getElem_toArray, getElem_cons_succ, getElem_cons_zero, Act.put, setIfInBounds_toArray, set_cons_zero, set_cons_succ]); go_simp; (try (with_reducible rfl)))
  try simp only [getElem_toArray, getElem_cons_succ, getElem_cons_zero, Act.put, setIfInBounds_toArray, set_cons_zero, set_cons_succ]
  refine wpAnyH_take (i := 24) (v := ?vv24_25) rfl (by kernel_rfl) (by kernel_rfl) (by kernel_rfl) (fun _ _ _ h => h) (Or.inl ⟨by rfl, ?yy24_25⟩) (by assumption) ?rr24_25
  case yy24_25 => (intro w hSw; (try dsimp only at hSw); obtain ⟨hs0, hs1, hs2, hs3, hs4, hs5⟩ := hSw; (try simp only [getElem_toArray, getElem_cons_succ, getElem_cons_zero, Act.put, setIfInBounds_toArray, set_cons_zero, set_cons_succ]); go_simp; (try (with_reducible rfl)))
  try simp only [getElem_toArray, getElem_cons_succ, getElem_cons_zero, Act.put, setIfInBounds_toArray, set_cons_zero, set_cons_succ]
  refine wpAnyH_take (i := 25) (v := ?vv25_26) rfl (by kernel_rfl) (by kernel_rfl) (by kernel_rfl) (fun _ _ _ h => h) (Or.inl ⟨by rfl, ?yy25_26⟩) (by assumption) ?rr25_26
  case yy25_26 => (intro w hSw; (try dsimp only at hSw); obtain ⟨hs0, hs1, hs2, hs3, hs4, hs5⟩ := hSw; (try simp only [getElem_toArray, getElem_cons_succ, getElem_cons_zero, Act.put, setIfInBounds_toArray, set_cons_zero, set_cons_succ]); go_simp; (try (with_reducible rfl)))
  try simp only [getElem_toArray, getElem_cons_succ, getElem_cons_zero, Act.put, setIfInBounds_toArray, set_cons_zero, set_cons_succ]
  refine wpAnyH_take (i := 26) (v := ?vv26_27) rfl (by kernel_rfl) (by kernel_rfl) (by kernel_rfl) (fun _ _ _ h => h) (Or.inl ⟨by rfl, ?yy26_27⟩) (by assumption) ?rr26_27
  case yy26_27 => (intro w hSw; (try dsimp only at hSw); obtain ⟨hs0, hs1, hs2, hs3, hs4, hs5⟩ := hSw; (try simp only [getElem_toArray, getElem_cons_succ, getElem_cons_zero, Act.put, setIfInBounds_toArray, set_cons_zero, set_cons_succ]); go_simp; (try (with_reducible rfl)))
  try simp only [getElem_toArray, getElem_cons_succ, getElem_cons_zero, Act.put, setIfInBounds_toArray, set_cons_zero, set_cons_succ]
  refine wpAnyH_take (i := 27) (v := ?vv27_28) rfl (by kernel_rfl) (by kernel_rfl) (by kernel_rfl) (fun _ _ _ h => h) (Or.inl ⟨by rfl, ?yy27_28⟩) (by assumption) ?rr27_28
  case yy27_28 => (intro w hSw; (try dsimp only at hSw); obtain ⟨hs0, hs1, hs2, hs3, hs4, hs5⟩ := hSw; (try simp only [getElem_toArray, getElem_cons_succ, getElem_cons_zero, Act.put, setIfInBounds_toArray, set_cons_zero, set_cons_succ]); go_simp; (try (with_reducible rfl)))
  try simp only [getElem_toArray, getElem_cons_succ, getElem_cons_zero, Act.put, setIfInBounds_toArray, set_cons_zero, set_cons_succ]
  refine wpAnyH_take (i := 28) (v := ?vv28_29) rfl (by kernel_rfl) (by kernel_rfl) (by kernel_rfl) (fun _ _ _ h => h) (Or.inl ⟨by rfl, ?yy28_29⟩) (by assumption) ?rr28_29
  case yy28_29 => (intro w hSw; (try dsimp only at hSw); obtain ⟨hs0, hs1, hs2, hs3, hs4, hs5⟩ := hSw; (try simp only [getElem_toArray, getElem_cons_succ, getElem_cons_zero, Act.put, setIfInBounds_toArray, set_cons_zero, set_cons_succ]); go_simp; (try (with_reducible rfl)))
  try simp only [getElem_toArray, getElem_cons_succ, getElem_cons_zero, Act.put, setIfInBounds_toArray, set_cons_zero, set_cons_succ]
  refine wpAnyH_take (i := 29) (v := ?vv29_30) rfl (by kernel_rfl) (by kernel_rfl) (by kernel_rfl) (fun _ _ _ h => h) (Or.inl ⟨by rfl, ?yy29_30⟩) (by assumption) ?rr29_30
  case yy29_30 => (intro w hSw; (try dsimp only at hSw); obtain ⟨hs0, hs1, hs2, hs3, hs4, hs5⟩ := hSw; (try simp only [getElem_toArray, getElem_cons_succ, getElem_cons_zero, Act.put, setIfInBounds_toArray, set_cons_zero, set_cons_succ]); go_simp; (try (with_reducible rfl)))
  try simp only [getElem_toArray, getElem_cons_succ, getElem_cons_zero, Act.put, setIfInBounds_toArray, set_cons_zero, set_cons_succ]
  refine wpAnyH_take (i := 30) (v := ?vv30_31) rfl (by kernel_rfl) (by kernel_rfl) (by kernel_rfl) (fun _ _ _ h => h) (Or.inl ⟨by rfl, ?yy30_31⟩) (by assumption) ?rr30_31
  case yy30_31 => (intro w hSw; (try dsimp only at hSw); obtain ⟨hs0, hs1, hs2, hs3, hs4, hs5⟩ := hSw; (try simp only [getElem_toArray, getElem_cons_succ, getElem_cons_zero, Act.put, setIfInBounds_toArray, set_cons_zero, set_cons_succ]); go_simp; (try (with_reducible rfl)))
  try simp only [getElem_toArray, getElem_cons_succ, getElem_cons_zero, Act.put, setIfInBounds_toArray, set_cons_zero, set_cons_succ]
  refine wpAnyH_ready (rs := [31]) (by kernel_rfl) (by simp) ?_
  refine AllReadyH.cons (o := _) rfl (fun K hK => ?_) AllReadyH.nil
  try simp only [getElem_toArray, getElem_cons_succ, getElem_cons_zero, Act.put, setIfInBounds_toArray, set_cons_zero, set_cons_succ]
  go_simp
  have HQ : Hid (PAt (setL U w.heap.size (lv p.w)) g p) := PAt.moves HPu.out (setL_moves U w.heap.size (lv p.w)) (by have := HN.out; show ¬ g = w.heap.size; omega)
  refine hK.out _ _ HQ.out.wish (fun hHeld => ?_)
  clear hK K
  try simp only [getElem_toArray, getElem_cons_succ, getElem_cons_zero, Act.put, setIfInBounds_toArray, set_cons_zero, set_cons_succ]
  refine wpAnyH_done (by kernel_rfl) ?_ _
  go_wp2
  have HR : Hid (LAt (setL U w.heap.size (lv p.w)) w.heap.size p.w) := setL_blk HZu.out
  (try simp only [Exit.inBlock, Exit.then])
  refine bodyPost_ret (res_ipc rfl _ _ w.heap.size p.w rfl HR.out rfl (by kernel_rfl)) rfl ?_
  exact ⟨rfl, setL_below HBu.out HBu.out.size (Nat.le_refl _) (lv p.w)⟩
set_option maxHeartbeats 1000000 in
set_option maxRecDepth 100000 in
theorem list_any (x : Ipc) (w : World) (hm : may x = true) : Calls Tryz.prog 227 #[.agg (lv x).toArray] w (CpQ (put x) (put x).length w) := by
  show Calls Tryz.prog 227 #[.agg #[Value.bool x.ha, .int .u32 x.addr.toNat, .bool x.h1, .int .u32 x.dns1.toNat, .bool x.h2, .int .u32 x.dns2.toNat]] w (CpQ (put x) (put x).length w)
  obtain ⟨W, hW, HW⟩ := boxL w x
  obtain ⟨c0, c1, c2, c3, c4, c5⟩ := cells6 HW.out.1
  have HB := Lib.hid HW.out.2.1
  have HC : Hid (∀ U, Calls Tryz.prog 241 #[.agg #[Value.bool x.ha, .int .u32 x.addr.toNat, .bool x.h1, .int .u32 x.dns1.toNat, .bool x.h2, .int .u32 x.dns2.toNat]] U (PutQ x U)) := fun U => put_any x U
  have HM := Lib.hid hm
  clear HW hm
  go_enter Tryz.func227, Tryz.ntmps227
  go_wp2_with fail
  refine (HC.out _).mono ?_
  rintro e w2 ⟨A, c, rfl, hA, hO, hb2⟩
  rw [(pL_yes HM.out).1, (pL_yes HM.out).2] at *
  have HB2 := Lib.hid (HB.out.trans (hb2.mono HB.out.size))
  have HO := Lib.hid hO
  have HA := Lib.hid hA
  clear hb2 hO hA
  go_wp2
  go_ret
  exact ⟨A, c, rfl, HO.out, HA.out, HB2.out⟩
set_option maxHeartbeats 1000000 in
set_option maxRecDepth 100000 in
theorem request_any (g : Nat) (p : Po) (w : World) (h : PAt w g p) (hm : may p.w = true) : Calls Tryz.prog 215 #[.pointer (some ⟨g, 0, none⟩)] w (CpQ (req p) (req p).length w) := by
  have HW := Lib.hid (wish_any g p w h)
  have HL := Lib.hid (fun w => list_any p.w w hm)
  clear h hm
  go_enter Tryz.func215, Tryz.ntmps215
  go_wp2_with fail
  refine HW.out.mono ?_
  rintro e w1 ⟨rfl, hb1⟩
  have HB1 := Lib.hid hb1
  clear hb1
  go_wp2_with fail
  refine (HL.out w1).mono ?_
  rintro e w2 ⟨A, c, rfl, hO, hA, hb2⟩
  have HB2 := Lib.hid (HB1.out.trans (hb2.mono HB1.out.size))
  have HO := Lib.hid hO
  have HA := Lib.hid hA
  clear hb2 hO hA
  go_wp2
  go_ret
  exact ⟨A, c, rfl, HO.out, HA.out, HB2.out⟩
end Go.Proofs.YtpppggicihfbgaaGreat.Ipp

/- Contracts of Reset, Copy and of every call of a nil policy. -/
set_option linter.unusedSimpArgs false
set_option linter.unusedVariables false
namespace Go.Proofs.YtpppggicihfbgaaGreat.Ipp
open Go.RowKit Go.Proofs.YtpppggicihfbgaaGreat.Oct Go.Proofs.YtpppggicihfbgaaGreat.Row Go.Proofs.YtpppggicihfbgaaGreat.Mem Go.Proofs.YtpppggicihfbgaaGreat.Opt Go.Proofs.YtpppggicihfbgaaGreat.Ipc

set_option maxHeartbeats 4000000 in
set_option maxRecDepth 100000 in
theorem reset_any (g : Nat) (p : Po) (w : World) (h : PAt w g p) : Calls Tryz.prog 255 #[.pointer (some ⟨g, 0, none⟩)] w fun e w' => e = .returned (.int .i64 0) ∧ PAt w' g (newP p.c) ∧ Moves (fun k => k = g) w w' := by
  have HP := Lib.hid h
  have c6 : w.cell? ⟨g, 6, none⟩ = some (Value.int .u32 p.c.addr.toNat) := HP.out.c 6
  have c7 : w.cell? ⟨g, 7, none⟩ = some (Value.int .u32 p.c.peer.toNat) := HP.out.c 7
  have c8 : w.cell? ⟨g, 8, none⟩ = some (Value.int .u32 p.c.dns1.toNat) := HP.out.c 8
  have c9 : w.cell? ⟨g, 9, none⟩ = some (Value.int .u32 p.c.dns2.toNat) := HP.out.c 9
  have c10 : w.cell? ⟨g, 10, none⟩ = some (Value.bool p.c.want) := HP.out.c 10
  have c11 : w.cell? ⟨g, 11, none⟩ = some (Value.int .i64 p.c.mn) := HP.out.c 11
  have HM := Lib.hid (fun w => made_any p.c w)
  have HN := Lib.hid (pol_size (newP p.c))
  have HO := Lib.hid (pv_one (newP p.c))
  have HE : Hid (∀ W : World, PAt W g p → PAt (W.setRow g (pv (newP p.c)).toArray) g (newP p.c)) := fun W hW => pat_row hW _
  have HZ : Hid ((pv p).toArray.size = (pv (newP p.c)).toArray.size) := rfl
  generalize (pv (newP p.c)).toArray = cs at *
  clear h
  go_enter Tryz.func255, Tryz.ntmps255
  go_wp2_with fail
  refine (HM.out _).mono ?_
  rintro e w2 ⟨rfl, hb2⟩
  have HB2 := Lib.hid hb2
  have HP2 := Lib.hid (HP.out.callee hb2)
  clear hb2
  go_wp2_with (refine wpList_store_row rfl 99 _ _ rfl g cs rfl rfl 99 _ HP2.out HN.out HZ.out HO.out ?_)
  go_ret
  exact ⟨rfl, HE.out _ HP2.out, (Moves.of_below HB2.out).trans (moves_row w2 g _) (fun _ _ h => h)⟩

/-! ### nil -/
end Go.Proofs.YtpppggicihfbgaaGreat.Ipp

/- Contract of ipcpopt's Get. -/
namespace Go.Proofs.YtpppggicihfbgaaGreat.Ipc
open Go.RowKit Go.Proofs.YtpppggicihfbgaaGreat.Oct Go.Proofs.YtpppggicihfbgaaGreat.Row Go.Proofs.YtpppggicihfbgaaGreat.Mem Go.Proofs.YtpppggicihfbgaaGreat.Opt

def Gos (g : Nat) (w wr : World) (l : List Opt) (k : Nat) (x : Ipc) (odd : List Opt) (A : Option Addr) (n c : Nat) : Prop :=
  LAt wr g x ∧ wr.ownsRow g 177 2 (.slice A n c) n (optsV odd) ∧ n = odd.length ∧ n ≤ k ∧ st (l.take k) = some (x, odd) ∧ Below w.heap.size w wr
theorem Gos.callee {g : Nat} {w wr W' : World} {l : List Opt} {k : Nat} {x : Ipc} {odd : List Opt} {A : Option Addr} {n c : Nat} (h : Gos g w wr l k x odd A n c) (hb : Below wr.heap.size wr W') : Gos g w W' l k x odd A n c :=
  ⟨h.1.callee hb, (Moves.of_below (S := fun _ => False) hb).row h.2.1 (fun _ _ x => x), h.2.2.1, h.2.2.2.1, h.2.2.2.2.1, h.2.2.2.2.2.trans (hb.mono h.2.2.2.2.2.size)⟩
end Go.Proofs.YtpppggicihfbgaaGreat.Ipc

/- Contracts of list and Request with their rows' room. -/
namespace Go.Proofs.YtpppggicihfbgaaGreat.Ipp
open Go.RowKit Go.Proofs.YtpppggicihfbgaaGreat.Oct Go.Proofs.YtpppggicihfbgaaGreat.Row Go.Proofs.YtpppggicihfbgaaGreat.Mem Go.Proofs.YtpppggicihfbgaaGreat.Opt Go.Proofs.YtpppggicihfbgaaGreat.Ipc

end Go.Proofs.YtpppggicihfbgaaGreat.Ipp

/- IpcGr: parted from XIpcRw.lean.tpl: the program's Get, of a row. -/
namespace Go.Proofs.YtpppggicihfbgaaGreat.Ipc
open Go.RowKit Go.Proofs.YtpppggicihfbgaaGreat.Oct Go.Proofs.YtpppggicihfbgaaGreat.Row Go.Proofs.YtpppggicihfbgaaGreat.Mem Go.Proofs.YtpppggicihfbgaaGreat.Opt

end Go.Proofs.YtpppggicihfbgaaGreat.Ipc
