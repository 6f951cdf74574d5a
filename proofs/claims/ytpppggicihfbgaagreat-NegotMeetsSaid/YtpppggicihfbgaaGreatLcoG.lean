/- Contracts of cmp.Compare at bytes, and of the sorting of options by their types. -/
import Derived.Test.YtpppggicihfbgaaGreatGOpts
import Derived.Test.YtpppggicihfbgaaGreatShelf
import Derived.Shelf.SlSortCmp.SmallK
import Derived.Shelf.SlSortCmp.QuietGrown
import Derived.WalkSpells
import Derived.WalkLawsBesides
import Derived.Lib.Hide
import Derived.Laws.EntriesVeiled
import Derived.KernelRfl
namespace Go.Proofs.YtpppggicihfbgaaGreat.Lco
open Go.RowKit Go.Sort Go.Proofs.YtpppggicihfbgaaGreat.Oct Go.Proofs.YtpppggicihfbgaaGreat.Row Go.Proofs.YtpppggicihfbgaaGreat.Mem Go.Proofs.YtpppggicihfbgaaGreat.Opt

set_option maxRecDepth 100000 in
theorem cmp_any (a b : Nat) (w : World) : Calls Tryz.prog 183 #[.int .u8 a, .int .u8 b] w fun e w' => e = .returned (.int .i64 (Lib.compareInt a b)) ∧ w = w' := by
  have ha : ((a : Int) != (a : Int)) = false := by simp
  have hb : ((b : Int) != (b : Int)) = false := by simp
  by_cases h1 : (a : Int) < b
  · have H : Hid (Lib.compareInt a b = -1) := by show _ = _; unfold Lib.compareInt; rw [if_pos h1]
    go_enter Tryz.func183, Tryz.ntmps183
    go_wp2_with go_in
    go_ret
    exact ⟨by rw [H.out] <;> rfl, rfl⟩
  · by_cases h2 : (b : Int) < a
    · have H : Hid (Lib.compareInt a b = 1) := by show _ = _; unfold Lib.compareInt; rw [if_neg h1, if_pos h2]
      go_enter Tryz.func183, Tryz.ntmps183
      go_wp2_with go_in
      go_ret
      exact ⟨by rw [H.out] <;> rfl, rfl⟩
    · have H : Hid (Lib.compareInt a b = 0) := by show _ = _; unfold Lib.compareInt; rw [if_neg h1, if_neg h2]
      go_enter Tryz.func183, Tryz.ntmps183
      go_wp2_with go_in
      go_ret
      exact ⟨by rw [H.out] <;> rfl, rfl⟩
set_option maxRecDepth 100000 in
theorem key_any (t : UInt8) (d : ByteArray) (w : World) : Calls Tryz.prog 162 #[.agg #[.int .u8 t.toNat, .string d]] w fun e w' => e = .returned (.int .u8 t.toNat) ∧ ∃ q os', w' = grow (w.drewN q) os' := by
  go_enter Tryz.func162, Tryz.ntmps162
  go_wp2
  go_ret
  exact ⟨rfl, 0, _, by rw [alloc_eq_grow]; rfl⟩
set_option maxHeartbeats 1000000 in
set_option maxRecDepth 100000 in
theorem clo_any (a b : Opt) (kb : Nat) (W : World) (hk : W.cell? ⟨kb, 0, none⟩ = some (.func (.func 162) #[] #[])) :
    Calls Tryz.prog 182 #[.agg #[.int .u8 a.1.toNat, .string a.2], .agg #[.int .u8 b.1.toNat, .string b.2], .pointer (some ⟨kb, 0, none⟩)] W fun e w' => e = .returned (.int .i64 (Lib.compareInt a.1.toNat b.1.toNat)) ∧ ∃ q os', w' = grow (W.drewN q) os' := by
  obtain ⟨at_, ad⟩ := a
  obtain ⟨bt, bd⟩ := b
  obtain ⟨V, hV, HV⟩ : ∃ V, (W.alloc (.cells #[.int .u8 at_.toNat, .string ad] 177)).alloc (.cells #[.int .u8 bt.toNat, .string bd] 177) = V ∧ Hid (At V W.heap.size (at_, ad) ∧ At V (W.heap.size + 1) (bt, bd) ∧ V.cell? ⟨kb, 0, none⟩ = some (.func (.func 162) #[] #[]) ∧ kb < V.heap.size ∧ ∃ os, V = grow W os) := by
    have hb : kb < W.heap.size := World.block_lt_of_cell? _ _ hk
    refine ⟨_, rfl, (at_new W at_ ad).alloc _, ?_, ?_, ?_, ⟨_, by rw [alloc_eq_grow, alloc_eq_grow, grow_grow]⟩⟩
    · have := at_new (W.alloc (.cells #[.int .u8 at_.toNat, .string ad] 177)) bt bd
      rw [show (W.alloc (.cells #[.int .u8 at_.toNat, .string ad] 177)).heap.size = W.heap.size + 1 by simp] at this
      exact this
    · exact ((((Below.refl _ W).alloc (Nat.le_refl _) _).alloc (by simp) _).cell (p := ⟨kb, 0, none⟩) hb).trans hk
    · simp; omega
  have hfk : ∀ n os, (grow (V.drewN n) os).cell? ⟨kb, 0, none⟩ = some (.func (.func 162) #[] #[]) := fun n os => cell_grown (by exact HV.out.2.2.2.1) HV.out.2.2.1 n os
  have ha0 : ∀ n os, (grow (V.drewN n) os).cell? ⟨W.heap.size, 0, none⟩ = some (.int .u8 at_.toNat) := fun n os => cell_grown (by exact Blk.lt HV.out.1) HV.out.1.c0 n os
  have ha1 : ∀ n os, (grow (V.drewN n) os).cell? ⟨W.heap.size, 1, none⟩ = some (.string ad) := fun n os => cell_grown (by exact Blk.lt HV.out.1) HV.out.1.c1 n os
  have hb0 : ∀ n os, (grow (V.drewN n) os).cell? ⟨W.heap.size + 1, 0, none⟩ = some (.int .u8 bt.toNat) := fun n os => cell_grown (by exact Blk.lt HV.out.2.1) HV.out.2.1.c0 n os
  have hb1 : ∀ n os, (grow (V.drewN n) os).cell? ⟨W.heap.size + 1, 1, none⟩ = some (.string bd) := fun n os => cell_grown (by exact Blk.lt HV.out.2.1) HV.out.2.1.c1 n os
  have HG : Hid (∃ os, V = grow W os) := HV.out.2.2.2.2
  have C1 : ∀ (a b : Nat) (w : World), Calls Tryz.prog 183 #[.int .u8 a, .int .u8 b] w fun e w' => e = .returned (.int .i64 (Lib.compareInt a b)) ∧ ∃ q os', w' = grow (w.drewN q) os' := fun a b w => (cmp_any a b w).mono fun _ _ ⟨he, hw⟩ => ⟨he, 0, #[], by rw [grow_empty, ← hw]; rfl⟩
  clear HV
  go_enter Tryz.func182, Tryz.ntmps182
  go_wp2
  clear hV
  have mixed : Tryz.prog.follows .mixedOrders = true := by kernel_rfl
  go_quiet_grown (first
    | (go_at_call 162; refine Calls.grown_of (key_any _ _ _))
    | (go_at_call 183; refine Calls.grown_of (C1 _ _ _)))
  go_wp2
  go_ret
  obtain ⟨os, hos⟩ := HG.out
  exact ⟨rfl, nq, os ++ osq, by rw [hos]; exact grow_grow (W.drewN nq) os osq⟩
theorem ltT (x y : Opt) : ltOf (fun x y : Opt => Lib.compareInt x.1.toNat y.1.toNat) x y = decide (x.1.toNat < y.1.toNat) := by
  unfold ltOf Lib.compareInt
  show decide ((if (x.1.toNat : Int) < y.1.toNat then (-1 : Int) else if (x.1.toNat : Int) > y.1.toNat then 1 else 0) < 0) = _
  by_cases h1 : (x.1.toNat : Int) < y.1.toNat
  · rw [if_pos h1]; simp; omega
  · rw [if_neg h1]
    by_cases h2 : (x.1.toNat : Int) > y.1.toNat
    · rw [if_pos h2]; simp; omega
    · rw [if_neg h2]; simp; omega
theorem swoT : SWO (ltOf fun x y : Opt => Lib.compareInt x.1.toNat y.1.toNat) where
  irrefl x := by rw [ltT]; simp
  trans x y z h1 h2 := by rw [ltT] at h1 h2 ⊢; simp at h1 h2 ⊢; omega
  ntrans x y z h1 h2 := by rw [ltT] at h1 h2 ⊢; simp at h1 h2 ⊢; omega
/-! ### a row of options and the sort's words -/
theorem add0 (g k : Nat) : (⟨g, 0, none⟩ : Addr).add k = ⟨g, k, none⟩ := by
  unfold Addr.add
  split
  · rename_i h; rw [h]
  · simp
theorem holds_opts {w : World} {base g c : Nat} {l : List Opt} (h : w.ownsRow base 177 2 (.slice (some ⟨g, 0, none⟩) l.length c) l.length (optsV l)) : HoldsK optV 2 w g 0 l.toArray := by
  intro j hj
  rw [size_flatK, List.size_toArray] at hj
  rw [get_flatK _ _ _ _ (by rw [List.size_toArray]; exact hj)]
  have hq : j / 2 < l.length := by omega
  have hv := optsV_at l (j / 2) hq
  have e : l.toArray[j / 2]! = l[j / 2] := by rw [getElem!_pos l.toArray (j / 2) (by simpa using hq)]; simp
  rw [e]
  rcases h.2 with ⟨h0, _⟩ | ⟨g', cap, cur, hv', _, hh, _⟩
  · cases h0
  · cases hv'
    have hf : w.frozen? ⟨g, 0 + j, none⟩ = false := by simp [World.frozen?, hh]
    rcases Nat.mod_two_eq_zero_or_one j with hm | hm
    · have c0 := h.cells (g := g) rfl (j / 2 * 2) _ hv.1
      rw [show j / 2 * 2 = j by omega] at c0
      refine ⟨?_, hf⟩
      rw [hm, Nat.zero_add]
      rw [add0] at c0
      exact c0
    · have c1 := h.cells (g := g) rfl (j / 2 * 2 + 1) _ hv.2
      rw [show j / 2 * 2 + 1 = j by omega] at c1
      refine ⟨?_, hf⟩
      rw [hm, Nat.zero_add]
      rw [add0] at c1
      exact c1
theorem opts_holds {w : World} {g : Nat} {l : List Opt} (h : HoldsK optV 2 w g 0 l.toArray) (hz : ∀ o ∈ l, o.2.size ≤ 140737488351232) (hg : g < w.heap.size) : Opts w w.heap.size (some ⟨g, 0, none⟩) l.length l := by
  refine ⟨rfl, hz, fun _ => ⟨_, rfl, hg, fun j hj => ?_⟩⟩
  have e : l.toArray[j]! = l[j] := by rw [getElem!_pos l.toArray j (by simpa using hj)]; simp
  have c0 := (HoldsK.cell h (i := j) (c := 0) (by simpa using hj) (by omega)).1
  have c1 := (HoldsK.cell h (i := j) (c := 1) (by simpa using hj) (by omega)).1
  rw [e] at c0 c1
  rw [add0]
  rw [Nat.zero_add, Nat.add_zero] at c0
  rw [Nat.zero_add] at c1
  exact ⟨c0, c1⟩
theorem sort_moves (w : World) (g n : Nat) (d : Array Opt) (os : Array Obj) : Moves (fun k => k = g) w (sortWorldK optV 2 w g 0 n d os) := by
  refine ⟨rfl, rfl, rfl, ?_, fun k hk hs => ?_⟩
  · show w.heap.size ≤ ((w.heap.modify g _) ++ os).size
    rw [Array.size_append, Array.size_modify]
    omega
  · show ((w.heap.modify g _) ++ os)[k]? = w.heap[k]?
    rw [Array.getElem?_append, if_pos (by rw [Array.size_modify]; exact hk), Array.getElem?_modify, if_neg (fun e => hs e.symm)]
def Srt (l : List Opt) : Prop := ∀ i j (hi : i < j) (hj : j < l.length), ¬ l[j].1.toNat < (l[i]'(by omega)).1.toNat
theorem srt_rise {l : List Opt} (h : Srt l) (hd : Dis l) : Rise l := by
  unfold Rise
  rw [List.pairwise_iff_getElem]
  intro i j hi hj hij
  have h1 := h i j hij hj
  have h2 : l[i].1 ≠ l[j].1 := by
    unfold Dis at hd
    rw [List.nodup_iff_pairwise_ne, List.pairwise_map, List.pairwise_iff_getElem] at hd
    exact hd i j hi hj hij
  rw [UInt8.lt_iff_toNat_lt]
  have h3 : l[i].1.toNat ≠ l[j].1.toNat := fun e => h2 (UInt8.toNat_inj.1 e)
  omega
def SortQ (l : List Opt) (g : Nat) (w : World) (e : Ending) (w' : World) : Prop := ∃ l' : List Opt, e = .returned (.tuple #[]) ∧ l'.Perm l ∧ Srt l' ∧ HoldsK optV 2 w' g 0 l'.toArray ∧ Moves (fun k => k = g) w w'
theorem hlen_any (n : Nat) (W : World) (h : n ≤ 12) : Calls Tryz.prog 186 #[.int .u64 n] W fun e w' => (∃ l : Int, e = .returned (.int .i64 l)) ∧ w' = W :=
  (Tryz.bits_Len n W (by omega) (by omega)).mono fun _ _ ⟨he, hw⟩ => ⟨⟨_, he⟩, hw⟩
set_option maxRecDepth 100000 in
theorem sort_any (l : List Opt) (g c kb : Nat) (w : World) (hH : HoldsK optV 2 w g 0 l.toArray) (hg : g < w.heap.size) (h12 : l.length ≤ 12) (hk : w.cell? ⟨kb, 0, none⟩ = some (.func (.func 162) #[] #[])) (hne : kb ≠ g) :
    Calls Tryz.prog 181 #[.slice (some ⟨g, 0, none⟩) l.length c, .func (.func 182) #[] #[.pointer (some ⟨kb, 0, none⟩)]] w (SortQ l g w) := by
  have hkb : kb < w.heap.size := World.block_lt_of_cell? _ _ hk
  have hcmp : CmpLays Tryz.prog 182 #[.pointer (some ⟨kb, 0, none⟩)] optV 2 (fun x y : Opt => Lib.compareInt x.1.toNat y.1.toNat) g 0 l.toArray.size w := by
    intro m os dk _ x y
    refine clo_any x y kb _ ?_
    exact ((sort_moves w g m dk os).cell (p := ⟨kb, 0, none⟩) hkb hne).trans hk
  have hcon := AnyQ.slices_SortFunc_small_sorted Tryz.sortOpt 2 Tryz.isAgg177 Tryz.sizeOf177 optV (fun _ => rfl) (fun x v hv => by simp [optV] at hv; rcases hv with rfl | rfl <;> rfl) (fun x y : Opt => Lib.compareInt x.1.toNat y.1.toNat) 182 #[.pointer (some ⟨kb, 0, none⟩)] swoT g 0 c l.toArray w
    (enters_of Tryz.func182 (by kernel_rfl) rfl) hcmp hH hg (by rw [List.size_toArray]; exact h12) hlen_any
  rw [List.size_toArray] at hcon
  refine Calls.mono hcon ?_
  rintro e w' ⟨he, d', n, os, hp, hs, rfl⟩
  obtain ⟨h1, _, h3⟩ := hp
  replace h1 : d'.size = l.length := by simpa using h1
  refine ⟨d'.toList, he, ?_, ?_, ?_, sort_moves w g n d' os⟩
  · have e1 : (d'.extract 0 l.length).toList = d'.toList := by rw [← h1]; simp
    have e2 : (l.toArray.extract 0 l.length).toList = l := by simp
    rw [e1, e2] at h3
    exact h3
  · intro i j hij hj
    have hj' : j < d'.size := by simpa using hj
    have := hs i j (Nat.zero_le _) hij (by rw [← h1]; exact hj')
    rw [ltT] at this
    rw [getElem!_pos d' j hj', getElem!_pos d' i (by omega)] at this
    simpa using this
  · unfold sortWorldK
    exact holdsK_grow optV 2 _ os g 0 _ (by show g < (w.heap.modify g _).size; rw [Array.size_modify]; exact hg) (by
      have := holdsK_putRowK optV 2 (Sort.ahead w n) g 0 l.toArray d' (holdsK_ahead optV 2 w n g 0 _ hH) (by rw [List.size_toArray]; exact h1)
      simpa using this)
end Go.Proofs.YtpppggicihfbgaaGreat.Lco
