/- Put together: Md5E, Md5F. -/
import Derived.Test.YtpfbknbloeilmaaDoorMd5D
import Derived.Deep.WholeRow
import Derived.Laws.Tables
import Derived.Laws.CopyOwn

/- Contracts of package md5's split, and of bits.RotateLeft32. -/
namespace Go.Proofs.YtpfbknbloeilmaaDoor.Md5
open Go.RowKit Go.Proofs.YtpfbknbloeilmaaDoor.Oct Go.Proofs.YtpfbknbloeilmaaDoor.Row Go.Proofs.YtpfbknbloeilmaaDoor.Mem

theorem and31 (n : Nat) (h : n ≤ 31) : bits .and .u64 (n : Int) 31 = (n : Int) := by
  rw [show (31 : Int) = ((31 : Nat) : Int) from rfl, u64_and_nat _ _ (by omega) (by omega), nat_mask5]
  omega
theorem or_rot (x n : Nat) (hx : x ≤ 4294967295) (h1 : 1 ≤ n) (h2 : n ≤ 31) : bits .or .u32 ((x : Int) * 2 ^ n % 4294967296) ((x : Int) / 2 ^ (32 - n)) = (rotl x n : Int) := by
  rw [← rotl_or x n (by omega) h1 h2]
  rw [← u32_or_nat _ _ (Nat.mod_lt _ (by decide)) (Nat.lt_of_le_of_lt (Nat.div_le_self _ _) (by omega))]
  simp only [Int.natCast_emod, Int.natCast_mul, Int.natCast_ediv, Int.natCast_pow]
  rfl
set_option maxHeartbeats 400000 in
theorem rot_any (x n : Nat) (w : World) (hx : x ≤ 4294967295) (h1 : 1 ≤ n) (h2 : n ≤ 31) :
    Calls Tryd.prog 94 #[.int .u32 x, .int .i64 n] w fun e w' => e = .returned (.int .u32 (rotl x n)) ∧ w = w' := by
  have HO := Lib.hid (or_rot x n hx h1 h2)
  have ha := and31 n h2
  have h3 : (0 : Int) ≤ x := by omega
  have h4 : (x : Int) ≤ 4294967295 := by omega
  have h5 : (1 : Int) ≤ n := by omega
  have h6 : (n : Int) ≤ 31 := by omega
  go_enter Tryd.func94, Tryd.ntmps94
  go_wp2
  go_ret
  exact ⟨congrArg (fun z => Ending.returned (Value.int .u32 z)) HO.out, rfl⟩

/-- The array of 16 numbers. -/
def arr16 (f : Nat → Nat) : Array Value := (Array.range 16).map fun j => Value.int .u32 (f j)
theorem arr16_size (f : Nat → Nat) : (arr16 f).size = 16 := by simp [arr16]
theorem arr16_at (f : Nat → Nat) (j : Nat) (h : j < 16) : (arr16 f)[j]? = some (.int .u32 (f j)) := by simp [arr16, h]
theorem arr16_all (f : Nat → Nat) : (arr16 f).all (·.oneCell') = true := by
  rw [Array.all_eq_true_iff_forall_mem]
  intro v hv
  simp only [arr16, Array.mem_map] at hv
  obtain ⟨j, _, rfl⟩ := hv
  rfl
theorem arr16_zero : Array.replicate 16 (Value.int .u32 0) = arr16 (fun _ => 0) := by
  apply Array.ext_getElem?
  intro i
  by_cases h : i < 16
  · rw [arr16_at _ _ h]; simp [h]
  · simp [arr16, h]
theorem arr16_congr {f g : Nat → Nat} (h : ∀ j, j < 16 → f j = g j) : arr16 f = arr16 g := by
  apply Array.ext_getElem?
  intro i
  by_cases hi : i < 16
  · rw [arr16_at _ _ hi, arr16_at _ _ hi, h i hi]
  · rw [Array.getElem?_eq_none (by rw [arr16_size]; omega), Array.getElem?_eq_none (by rw [arr16_size]; omega)]
/-- The array lies in block g, whole. -/
def Tab16 (w : World) (g : Nat) (f : Nat → Nat) : Prop := w.heap[g]? = some (.cells (arr16 f) 118 (0, 0))
def upd (f : Nat → Nat) (k v : Nat) : Nat → Nat := fun j => if j = k then v else f j
theorem Tab16.cell {w : World} {g : Nat} {f : Nat → Nat} (h : Tab16 w g f) (j : Nat) (hj : j < 16) : w.cell? ⟨g, j, none⟩ = some (.int .u32 (f j)) := by
  rw [cell_of_row w g j _ _ _ h, arr16_at f j hj]
theorem Tab16.frozen {w : World} {g : Nat} {f : Nat → Nat} (h : Tab16 w g f) (j : Nat) : w.frozen? ⟨g, j, none⟩ = false := by
  unfold World.frozen?
  have h' : w.heap[g]? = _ := h
  simp [h']
theorem Tab16.same {w w' : World} {g : Nat} {f : Nat → Nat} (h : Tab16 w g f) (e : w'.heap[g]? = w.heap[g]?) : Tab16 w' g f := e.trans h
theorem Tab16.set {w : World} {g : Nat} {f : Nat → Nat} (h : Tab16 w g f) (k v : Nat) (hk : k < 16) : Tab16 (w.setCell ⟨g, k, none⟩ (.int .u32 v)) g (upd f k v) := by
  unfold Tab16
  rw [cells_set h]
  congr 2
  apply Array.ext_getElem?
  intro i
  rw [Array.getElem?_setIfInBounds, arr16_size]
  by_cases e : k = i
  · subst e; rw [if_pos rfl, if_pos hk, arr16_at _ _ hk]; simp [upd]
  · rw [if_neg e]
    by_cases hi : i < 16
    · rw [arr16_at _ _ hi, arr16_at _ _ hi]; simp [upd, show ¬ i = k from fun h => e h.symm]
    · rw [Array.getElem?_eq_none (by rw [arr16_size]; omega), Array.getElem?_eq_none (by rw [arr16_size]; omega)]
theorem Tab16.set_other {w : World} {g g' : Nat} {f : Nat → Nat} (h : Tab16 w g f) (hg : g ≠ g') (k : Nat) (v : Value) : Tab16 (w.setCell ⟨g', k, none⟩ v) g f :=
  (Below.heap_setCell _ _ _ _ hg).trans h
theorem info16 : (Tryd.prog.info? 118).map (fun i => (i.zero, i.size)) = some (some (.agg (Array.replicate 16 (.int .u32 0))), 16) := by kernel_rfl
theorem zero16 (w : World) : (zeroValue 118).run Tryd.prog w = .ok (.agg (arr16 fun _ => 0)) w := by
  rw [← arr16_zero]; exact (zero_of_info info16).1 w

theorem getD_take (l : List UInt8) (i m : Nat) : (l.take i).getD m 0 = if m < i then l.getD m 0 else 0 := by
  rw [List.getD_eq_getElem?_getD, List.getD_eq_getElem?_getD, List.getElem?_take]
  split <;> rfl
theorem word_other (l : List UInt8) (i j : Nat) (h : j ≠ i / 4) : wordAt (l.take (i + 1)) j = wordAt (l.take i) j := by
  unfold wordAt
  simp only [getD_take]
  have e : ∀ m, m ≠ i → (if m < i + 1 then l.getD m 0 else 0) = (if m < i then l.getD m 0 else 0) := by
    intro m hm
    by_cases hl : m < i
    · rw [if_pos hl, if_pos (by omega)]
    · rw [if_neg hl, if_neg (by omega)]
  rw [e _ (by omega), e _ (by omega), e _ (by omega), e _ (by omega)]
theorem word_step (l : List UInt8) (q r : Nat) (hr : r ≤ 3) : wordAt (l.take (4 * q + r + 1)) q = wordAt (l.take (4 * q + r)) q ||| (l.getD (4 * q + r) 0).toNat * 2 ^ (8 * r) ∧ wordAt (l.take (4 * q + r)) q < 2 ^ (8 * r) := by
  unfold wordAt
  simp only [getD_take]
  have b0 := (l.getD (4 * q) 0).toNat_lt
  have b1 := (l.getD (4 * q + 1) 0).toNat_lt
  have b2 := (l.getD (4 * q + 2) 0).toNat_lt
  have z : (0 : UInt8).toNat = 0 := rfl
  rcases (show r = 0 ∨ r = 1 ∨ r = 2 ∨ r = 3 by omega) with rfl | rfl | rfl | rfl
  · rw [if_pos (by omega), if_neg (by omega), if_neg (by omega), if_neg (by omega), if_neg (by omega), if_neg (by omega), if_neg (by omega), if_neg (by omega)]
    simp
  · rw [if_pos (by omega), if_pos (by omega), if_neg (by omega), if_neg (by omega), if_pos (by omega), if_neg (by omega), if_neg (by omega), if_neg (by omega), z]
    generalize (l.getD (4 * q) 0).toNat = x0 at *
    generalize (l.getD (4 * q + 1) 0).toNat = x1 at *
    generalize (l.getD (4 * q + 2) 0).toNat = x2 at *
    generalize (l.getD (4 * q + 3) 0).toNat = x3 at *
    rw [show (2 : Nat) ^ (8 * 1) = 2 ^ 8 from rfl]
    refine ⟨?_, by omega⟩
    rw [Nat.or_comm, nat_join 8 _ _ (by omega) (by omega)]
    omega
  · rw [if_pos (by omega), if_pos (by omega), if_pos (by omega), if_neg (by omega), if_pos (by omega), if_pos (by omega), if_neg (by omega), if_neg (by omega), z]
    generalize (l.getD (4 * q) 0).toNat = x0 at *
    generalize (l.getD (4 * q + 1) 0).toNat = x1 at *
    generalize (l.getD (4 * q + 2) 0).toNat = x2 at *
    generalize (l.getD (4 * q + 3) 0).toNat = x3 at *
    rw [show (2 : Nat) ^ (8 * 2) = 2 ^ 16 from rfl]
    refine ⟨?_, by omega⟩
    rw [Nat.or_comm, nat_join 16 _ _ (by omega) (by omega)]
    omega
  · rw [if_pos (by omega), if_pos (by omega), if_pos (by omega), if_pos (by omega), if_pos (by omega), if_pos (by omega), if_pos (by omega), if_neg (by omega), z]
    generalize (l.getD (4 * q) 0).toNat = x0 at *
    generalize (l.getD (4 * q + 1) 0).toNat = x1 at *
    generalize (l.getD (4 * q + 2) 0).toNat = x2 at *
    generalize (l.getD (4 * q + 3) 0).toNat = x3 at *
    rw [show (2 : Nat) ^ (8 * 3) = 2 ^ 24 from rfl]
    refine ⟨?_, by omega⟩
    rw [Nat.or_comm, nat_join 24 _ _ (by omega) (by omega)]
    omega

/-- 'a[i]' of an array of numbers by value. -/
theorem run_index_arr {P : Program} (w : World) (t e : TypeId) (n : Nat) (ik : IntKind) (cs : Array Value) (k : Nat) (v : Value) (h : P.underlying t = some (.array n e)) (he : P.underlying e = some (.int ik)) (hz : (P.info? e).map (·.size) = some 1) (hk : k < n) (hv : cs[k]? = some v) :
    (Instr.index t (.agg cs) (.int .i64 (k : Int))).run P w = .ok v w := by
  cases hq : P.info? e with
  | none => simp [hq] at hz
  | some i =>
    have hi : i.size = 1 := by simpa [hq] using hz
    have hk' : (k : Int) < (n : Int) := by omega
    have h0 : (0 : Int) ≤ (k : Int) := by omega
    simp [Instr.index, run_underlying h, asIntOf, sizeOf, typeInfo, hq, hi, part, isAgg, run_underlying he, hv]
    omega
theorem last (q k v : Nat) (f : Nat → Nat) (l : List UInt8) {r : Nat} (hk : k = 4 * q + r) (hr : r ≤ 3) (hv : wordAt (l.take (k + 1)) q = v) (hf : ∀ j, j < 16 → f j = wordAt (l.take k) j) : ∀ j, j < 16 → upd f q v j = wordAt (l.take (k + 1)) j := fun j hj => by
  unfold upd
  by_cases e : j = q
  · rw [if_pos e, e, hv]
  · rw [if_neg e, hf j hj, word_other l k j (by omega)]
theorem sizeB : (Tryd.prog.info? 102).map (·.size) = some 64 := by kernel_rfl
set_option maxHeartbeats 2000000 in
set_option maxRecDepth 100000 in
theorem split_any (l : List UInt8) (w : World) (hl : l.length = 64) :
    Calls Tryd.prog 77 #[.agg (bytesV l).toArray] w fun e w' => e = .returned (.agg (arr16 (wordAt l))) ∧ Below w.heap.size w w' := by
  have hz := zero16
  have Hl := Lib.hid hl; clear hl
  obtain ⟨cs, hcs⟩ : ∃ cs, (bytesV l).toArray = cs := ⟨_, rfl⟩
  have HC : Hid (∀ j, j < 64 → cs[j]? = some (.int .u8 ((l.getD j 0).toNat : Int))) := by
    intro j hj
    rw [← hcs, List.getElem?_toArray]
    unfold bytesV
    rw [List.getElem?_map, List.getD_eq_getElem?_getD, List.getElem?_eq_getElem (by rw [Hl.out]; exact hj)]
    rfl
  have HZ : Hid (cs.size = 64) := by show _ = _; rw [← hcs, List.size_toArray, bytesV_length]; exact Hl.out
  rw [hcs]
  clear hcs
  have hsz : (Tryd.prog.info? 102).map (·.size) = some cs.size := by rw [HZ.out]; exact sizeB
  have Hsz := Lib.hid hsz; clear hsz
  obtain ⟨W, hW⟩ : ∃ W, ((w.alloc (.cells cs 102)).alloc (.cells (arr16 fun _ => 0) 118)).alloc (.cells (arr16 fun _ => 0) 118) = W := ⟨_, rfl⟩
  have HX0 : Hid (W.heap[w.heap.size]? = some (.cells cs 102 (0, 0))) := by
    show _ = _
    rw [← hW, Below.heap_alloc _ _ _ (by simp; omega), Below.heap_alloc _ _ _ (by simp)]
    exact World.alloc_heap_new w _
  have HX1 : Hid (Tab16 W (w.heap.size + 1) (fun _ => 0)) := by
    show W.heap[_]? = _
    rw [← hW, Below.heap_alloc _ _ _ (by simp)]
    have := World.alloc_heap_new (w.alloc (.cells cs 102)) (.cells (arr16 fun _ => 0) 118)
    rwa [World.size_alloc] at this
  have HX2 : Hid (Tab16 W (w.heap.size + 2) (fun _ => 0)) := by
    show W.heap[_]? = _
    rw [← hW]
    have := World.alloc_heap_new ((w.alloc (.cells cs 102)).alloc (.cells (arr16 fun _ => 0) 118)) (.cells (arr16 fun _ => 0) 118)
    rwa [World.size_alloc, World.size_alloc] at this
  have HB : Hid (Below w.heap.size w W) := by
    show Below _ _ _
    rw [← hW]
    exact (((Below.refl _ w).alloc (Nat.le_refl _) _).alloc (by simp) _).alloc (by simp; omega) _
  have HW := Lib.hid hW; clear hW
  go_enter Tryd.func77, Tryd.ntmps77
  go_wp2_with (first
    | (rw [HW.out]; refine wpList_load_row rfl 102 _ rfl w.heap.size rfl 102 _ (0, 0) _ HX0.out Tryd.underlying102 rfl Hsz.out ?_))
  go_loopw [7] (fun i wr => ∃ k : Nat, k ≤ 64 ∧ i = .int .i64 k ∧ Below w.heap.size w wr ∧ Hid (∃ f : Nat → Nat, Tab16 wr (w.heap.size + 1) (fun _ => 0) ∧ Tab16 wr (w.heap.size + 2) f ∧ ∀ j, j < 16 → f j = wordAt (l.take k) j)) (fun i _ => 64 - (intOf i).toNat)
  case atStart => exact ⟨0, Nat.zero_le _, rfl, HB.out, _, HX1.out, HX2.out, fun j _ => by simp [wordAt]⟩
  case round =>
    obtain ⟨k, hk, rfl, hb, ⟨f, ht0, ht1, hf⟩⟩ := hrel
    by_cases hlt : k < 64
    · obtain ⟨q, r, hqr, hr⟩ : ∃ q r, k = 4 * q + r ∧ r ≤ 3 := ⟨k / 4, k % 4, by omega, by omega⟩
      have hq15 : q ≤ 15 := by omega
      have hck0 := HC.out k hlt
      have hw := word_step l q r hr
      rw [← hqr] at hw
      have hfq := hf q (by omega)
      have hcell := ht1.cell q (by omega)
      rw [hfq] at hcell
      have hfz := ht1.frozen q
      have hwl := wordAt_lt (l.take k) q
      have HW1 := Lib.hid hw.1
      have Hf := Lib.hid hf
      have Ht0 := Lib.hid ht0
      have Ht1 := Lib.hid ht1
      have Hb := Lib.hid hb
      have Hwl := Lib.hid hw.2
      clear hf ht0 ht1 hb hw hfq
      generalize wordAt (l.take k) q = v at *
      have hck := run_index_arr (P := Tryd.prog) wr 102 5 64 .u8 cs k _ Tryd.underlying102 Tryd.underlying5 (by kernel_rfl) hlt hck0
      clear hck0
      have hby := (l.getD k 0).toNat_lt
      generalize (l.getD k 0).toNat = b at *
      have hq1 : (k : Int) / 4 = (q : Int) := by omega
      have hr1 : (k : Int) % 4 = (r : Int) := by omega
      have g0 : (0 : Int) ≤ q := by omega
      have g1 : (q : Int) ≤ 15 := by omega
      have g2 : (k : Int) < 64 := by omega
      have g3 : (0 : Int) ≤ k := by omega
      have HQR := Lib.hid hqr; clear hqr
      rcases (show r = 0 ∨ r = 1 ∨ r = 2 ∨ r = 3 by omega) with rfl | rfl | rfl | rfl
      · have HX : Hid (bits .or .u32 (v : Int) (b : Int) = ((v ||| b : Nat) : Int)) := u32_or_nat v (b) hwl (by omega)
        have HV : Hid (wordAt (l.take (k + 1)) q = v ||| b) := by show _ = _; rw [HW1.out]; simp
        clear HW1
        go_wp2
        go_region
        rw [HX.out]
        go_wp2
        have hs := Ht1.out.set q (v ||| b) (by omega)
        go_roundw
        case rel => exact ⟨k + 1, by omega, by go_num, (Hb.out.setCell (p := ⟨w.heap.size + 2, q, none⟩) (by simp) _).drew, _, Ht0.out.set_other (by omega) _ _, hs, last q k (v ||| b) f l HQR.out (by omega) HV.out Hf.out⟩
        case measure => simp [intOf]; omega
      · have HX : Hid (bits .or .u32 (v : Int) ((b : Int) * 256) = ((v ||| b * 256 : Nat) : Int)) := u32_or_nat v (b * 256) hwl (by omega)
        have HV : Hid (wordAt (l.take (k + 1)) q = v ||| b * 256) := HW1.out
        clear HW1
        go_wp2
        go_region
        rw [HX.out]
        go_wp2
        have hs := Ht1.out.set q (v ||| b * 256) (by omega)
        go_roundw
        case rel => exact ⟨k + 1, by omega, by go_num, (Hb.out.setCell (p := ⟨w.heap.size + 2, q, none⟩) (by simp) _).drew, _, Ht0.out.set_other (by omega) _ _, hs, last q k (v ||| b * 256) f l HQR.out (by omega) HV.out Hf.out⟩
        case measure => simp [intOf]; omega
      · have HX : Hid (bits .or .u32 (v : Int) ((b : Int) * 65536) = ((v ||| b * 65536 : Nat) : Int)) := u32_or_nat v (b * 65536) hwl (by omega)
        have HV : Hid (wordAt (l.take (k + 1)) q = v ||| b * 65536) := HW1.out
        clear HW1
        go_wp2
        go_region
        rw [HX.out]
        go_wp2
        have hs := Ht1.out.set q (v ||| b * 65536) (by omega)
        go_roundw
        case rel => exact ⟨k + 1, by omega, by go_num, (Hb.out.setCell (p := ⟨w.heap.size + 2, q, none⟩) (by simp) _).drew, _, Ht0.out.set_other (by omega) _ _, hs, last q k (v ||| b * 65536) f l HQR.out (by omega) HV.out Hf.out⟩
        case measure => simp [intOf]; omega
      · have HX : Hid (bits .or .u32 (v : Int) ((b : Int) * 16777216) = ((v ||| b * 16777216 : Nat) : Int)) := u32_or_nat v (b * 16777216) hwl (by omega)
        have HV : Hid (wordAt (l.take (k + 1)) q = v ||| b * 16777216) := HW1.out
        clear HW1
        go_wp2
        go_region
        rw [HX.out]
        go_wp2
        have hs := Ht1.out.set q (v ||| b * 16777216) (by omega)
        go_roundw
        case rel => exact ⟨k + 1, by omega, by go_num, (Hb.out.setCell (p := ⟨w.heap.size + 2, q, none⟩) (by simp) _).drew, _, Ht0.out.set_other (by omega) _ _, hs, last q k (v ||| b * 16777216) f l HQR.out (by omega) HV.out Hf.out⟩
        case measure => simp [intOf]; omega
    · obtain rfl : k = 64 := by omega
      have hsz : (Tryd.prog.info? 118).map (·.size) = some (arr16 f).size := by rw [arr16_size]; exact (zero_of_info info16).2
      have Hsz := Lib.hid hsz
      have H1 := Lib.hid ht1
      have H0 := Lib.hid ht0
      have Hf : Hid (arr16 f = arr16 (wordAt l)) := by
        refine arr16_congr fun j hj => ?_
        rw [hf j hj, List.take_of_length_le (by rw [Hl.out]; exact Nat.le_refl _)]
      clear hsz ht1 ht0 hf
      go_wp2_with (first
        | (refine wpList_load_row rfl 118 _ rfl (w.heap.size + 2) rfl 118 _ (0, 0) _ H1.out Tryd.underlying118 rfl Hsz.out ?_)
        | (refine wpList_store_row rfl 118 _ _ rfl (w.heap.size + 1) (arr16 f) rfl rfl 118 _ H0.out Hsz.out (by rw [arr16_size, arr16_size]) (arr16_all f) ?_))
      have hg := setRow_heap wr (w.heap.size + 1) _ (arr16 f) _ _ H0.out
      refine bodyPost_ret (v := .agg (arr16 f)) (results_cell_row rfl _ _ (w.heap.size + 1) 118 (arr16 f) (0, 0) _ rfl hg Tryd.underlying118 rfl Hsz.out) rfl ⟨by rw [Hf.out], below_setRow hb (by omega) _⟩
end Go.Proofs.YtpfbknbloeilmaaDoor.Md5

/- Contracts of package md5's rounds, of the four functions that it makes, and of step. -/
namespace Go.Proofs.YtpfbknbloeilmaaDoor.Md5
open Go.RowKit Go.Proofs.YtpfbknbloeilmaaDoor.Oct Go.Proofs.YtpfbknbloeilmaaDoor.Row Go.Proofs.YtpfbknbloeilmaaDoor.Mem

theorem umax : IntKind.u32.max = 4294967295 := by decide
def fnR (k n : Nat) : Value := .func (.func k) #[] #[.pointer (some ⟨n, 0, none⟩), .pointer (some ⟨n + 1, 0, none⟩)]
/-- What rounds lays: the pointer, the numbers, the four functions. -/
def RoundsIn (w : World) (n g : Nat) (x : Nat → Nat) : Prop :=
  Boxed w n 115 (.pointer (some ⟨g, 0, none⟩)) ∧ Tab16 w (n + 1) x ∧
  w.heap[n + 2]? = some (.cells #[fnR 90 n, fnR 91 n, fnR 92 n, fnR 93 n] 121 (0, 0))
theorem RoundsIn.kept {S : Nat → Prop} {w w' : World} {n g : Nat} {x : Nat → Nat} (h : RoundsIn w n g x) (hm : Moves S w w') (hs : ∀ k, n ≤ k → ¬ S k) : RoundsIn w' n g x := by
  obtain ⟨h0, h1, h2⟩ := h
  refine ⟨(hm.block n ?_ (hs n (Nat.le_refl _))).trans h0, (hm.block (n + 1) ?_ (hs _ (by omega))).trans h1, (hm.block (n + 2) ?_ (hs _ (by omega))).trans h2⟩
  · exact (Array.getElem?_eq_some_iff.1 h0).1
  · exact (Array.getElem?_eq_some_iff.1 h1).1
  · exact (Array.getElem?_eq_some_iff.1 h2).1
def RoundsP (g : Nat) (x : Nat → Nat) (w : World) (e : Ending) (w' : World) : Prop :=
  e = .returned (.slice (some ⟨w.heap.size + 2, 0, none⟩) 4 4) ∧ RoundsIn w' w.heap.size g x ∧ Below w.heap.size w w'
set_option maxHeartbeats 2000000 in
set_option maxRecDepth 100000 in
theorem rounds_any (g : Nat) (x : Nat → Nat) (w : World) :
    Calls Tryd.prog 76 #[.pointer (some ⟨g, 0, none⟩), .agg (arr16 x)] w (RoundsP g x w) := by
  go_enter Tryd.func76, Tryd.ntmps76
  go_wp2
  go_ret
  refine ⟨rfl, ⟨?_, ?_, ?_⟩, (((Below.refl _ w).alloc (Nat.le_refl _) _).alloc (by simp) _).alloc (by simp; omega) _⟩
  · exact ((Boxed.new w _ _).alloc _).alloc _
  · have h := World.alloc_heap_new (w.alloc (.cells #[.pointer (some ⟨g, 0, none⟩)] 115)) (.cells (arr16 x) 118)
    rw [World.size_alloc] at h
    exact (Below.heap_alloc _ _ _ (by simp)).trans h
  · have h := World.alloc_heap_new ((w.alloc (.cells #[.pointer (some ⟨g, 0, none⟩)] 115)).alloc (.cells (arr16 x) 118)) (.cells #[fnR 90 w.heap.size, fnR 91 w.heap.size, fnR 92 w.heap.size, fnR 93 w.heap.size] 121 (0, 0))
    rw [World.size_alloc, World.size_alloc] at h
    exact h

set_option maxHeartbeats 1000000 in
set_option maxRecDepth 100000 in
theorem clo1_any (i n g m : Nat) (s : W4) (buf : List UInt8) (x : Nat → Nat) (w : World) (h0 : 0 ≤ i) (h1 : i < 16) (hR : RoundsIn w n g x) (hH : Raw w g s buf m) (hs : Ok4 s) :
    Calls Tryd.prog 90 #[.int .i64 i, .pointer (some ⟨n, 0, none⟩), .pointer (some ⟨n + 1, 0, none⟩)] w fun e w' => e = .returned (.int .u32 (((mixf 0 s.b s.c s.d + x (place i)) % 4294967296 : Nat) : Int)) ∧ ∃ k, w' = w.drewN k := by
  have hp := place_0 i h1
  have hpl : place i ≤ 15 := by have := place_lt i (by omega); omega
  have hc0 := hR.1.cell
  have hcx := hR.2.1.cell (place i) (by omega)
  have hw1 := hH.word.2.1
  have hw2 := hH.word.2.2.1
  have hw3 := hH.word.2.2.2
  obtain ⟨a, b, c, d⟩ := s
  simp only at hw1 hw2 hw3 ⊢
  have HM := Lib.hid (mix0 b c d (by have := hs.2.1; simp only at this; omega) (by have := hs.2.2.1; simp only at this; omega) (by have := hs.2.2.2; simp only at this; omega))
  generalize x (place i) = v at *
  obtain ⟨p, hpp⟩ : ∃ p, place i = p := ⟨_, rfl⟩
  rw [hpp] at hp hpl hcx
  clear hpp hR hH hs
  have j0 : (0 : Int) ≤ i := by omega
  have j1 : (i : Int) < 16 := by omega
  have e1 : (i : Int) % 16 = (p : Int) := by omega
  have q0 : (0 : Int) ≤ p := by omega
  have q1 : (p : Int) < 16 := by omega
  have q2 : (p : Int) ≤ 15 := by omega
  have q3 : IntKind.i64.wrap (p : Int) = (p : Int) := IntWalk.i64_in _ (by omega)
  clear hp
  go_enter Tryd.func90, Tryd.ntmps90
  go_wp2
  go_quiet (fail)
  go_wp2
  (try rw [umax])
  rw [HM.out]
  go_ret
  exact ⟨congrArg (fun z => Ending.returned (Value.int .u32 z)) (by simp), _, rfl⟩

set_option maxHeartbeats 1000000 in
set_option maxRecDepth 100000 in
theorem clo2_any (i n g m : Nat) (s : W4) (buf : List UInt8) (x : Nat → Nat) (w : World) (h0 : 16 ≤ i) (h1 : i < 32) (hR : RoundsIn w n g x) (hH : Raw w g s buf m) (hs : Ok4 s) :
    Calls Tryd.prog 91 #[.int .i64 i, .pointer (some ⟨n, 0, none⟩), .pointer (some ⟨n + 1, 0, none⟩)] w fun e w' => e = .returned (.int .u32 (((mixf 1 s.b s.c s.d + x (place i)) % 4294967296 : Nat) : Int)) ∧ ∃ k, w' = w.drewN k := by
  have hp := place_1 i (by omega) h1
  have hpl : place i ≤ 15 := by have := place_lt i (by omega); omega
  have hc0 := hR.1.cell
  have hcx := hR.2.1.cell (place i) (by omega)
  have hw1 := hH.word.2.1
  have hw2 := hH.word.2.2.1
  have hw3 := hH.word.2.2.2
  obtain ⟨a, b, c, d⟩ := s
  simp only at hw1 hw2 hw3 ⊢
  have HM := Lib.hid (mix1 b c d (by have := hs.2.1; simp only at this; omega) (by have := hs.2.2.1; simp only at this; omega) (by have := hs.2.2.2; simp only at this; omega))
  generalize x (place i) = v at *
  obtain ⟨p, hpp⟩ : ∃ p, place i = p := ⟨_, rfl⟩
  rw [hpp] at hp hpl hcx
  clear hpp hR hH hs
  have j0 : (0 : Int) ≤ i := by omega
  have j1 : (i : Int) < 32 := by omega
  have e1 : IntKind.i64.wrap (5 * (i : Int)) = 5 * (i : Int) := IntWalk.i64_in _ (by omega)
  have e2 : IntKind.i64.wrap (5 * (i : Int) + 1) = 5 * (i : Int) + 1 := IntWalk.i64_in _ (by omega)
  have e3 : (5 * (i : Int) + 1) % 16 = (p : Int) := by omega
  have e4 : (0 : Int) ≤ 5 * (i : Int) + 1 := by omega
  have q0 : (0 : Int) ≤ p := by omega
  have q1 : (p : Int) < 16 := by omega
  have q2 : (p : Int) ≤ 15 := by omega
  have q3 : IntKind.i64.wrap (p : Int) = (p : Int) := IntWalk.i64_in _ (by omega)
  clear hp
  go_enter Tryd.func91, Tryd.ntmps91
  go_wp2
  go_quiet (fail)
  go_wp2
  (try rw [umax])
  rw [HM.out]
  go_ret
  exact ⟨congrArg (fun z => Ending.returned (Value.int .u32 z)) (by simp), _, rfl⟩

set_option maxHeartbeats 1000000 in
set_option maxRecDepth 100000 in
theorem clo3_any (i n g m : Nat) (s : W4) (buf : List UInt8) (x : Nat → Nat) (w : World) (h0 : 32 ≤ i) (h1 : i < 48) (hR : RoundsIn w n g x) (hH : Raw w g s buf m) (hs : Ok4 s) :
    Calls Tryd.prog 92 #[.int .i64 i, .pointer (some ⟨n, 0, none⟩), .pointer (some ⟨n + 1, 0, none⟩)] w fun e w' => e = .returned (.int .u32 (((mixf 2 s.b s.c s.d + x (place i)) % 4294967296 : Nat) : Int)) ∧ ∃ k, w' = w.drewN k := by
  have hp := place_2 i (by omega) h1
  have hpl : place i ≤ 15 := by have := place_lt i (by omega); omega
  have hc0 := hR.1.cell
  have hcx := hR.2.1.cell (place i) (by omega)
  have hw1 := hH.word.2.1
  have hw2 := hH.word.2.2.1
  have hw3 := hH.word.2.2.2
  obtain ⟨a, b, c, d⟩ := s
  simp only at hw1 hw2 hw3 ⊢
  have HM := Lib.hid (mix2 b c d (by have := hs.2.1; simp only at this; omega) (by have := hs.2.2.1; simp only at this; omega) (by have := hs.2.2.2; simp only at this; omega))
  generalize x (place i) = v at *
  obtain ⟨p, hpp⟩ : ∃ p, place i = p := ⟨_, rfl⟩
  rw [hpp] at hp hpl hcx
  clear hpp hR hH hs
  have j0 : (0 : Int) ≤ i := by omega
  have j1 : (i : Int) < 48 := by omega
  have e1 : IntKind.i64.wrap (3 * (i : Int)) = 3 * (i : Int) := IntWalk.i64_in _ (by omega)
  have e2 : IntKind.i64.wrap (3 * (i : Int) + 5) = 3 * (i : Int) + 5 := IntWalk.i64_in _ (by omega)
  have e3 : (3 * (i : Int) + 5) % 16 = (p : Int) := by omega
  have e4 : (0 : Int) ≤ 3 * (i : Int) + 5 := by omega
  have q0 : (0 : Int) ≤ p := by omega
  have q1 : (p : Int) < 16 := by omega
  have q2 : (p : Int) ≤ 15 := by omega
  have q3 : IntKind.i64.wrap (p : Int) = (p : Int) := IntWalk.i64_in _ (by omega)
  clear hp
  go_enter Tryd.func92, Tryd.ntmps92
  go_wp2
  go_quiet (fail)
  go_wp2
  (try rw [umax])
  rw [HM.out]
  go_ret
  exact ⟨congrArg (fun z => Ending.returned (Value.int .u32 z)) (by simp), _, rfl⟩

set_option maxHeartbeats 1000000 in
set_option maxRecDepth 100000 in
theorem clo4_any (i n g m : Nat) (s : W4) (buf : List UInt8) (x : Nat → Nat) (w : World) (h0 : 48 ≤ i) (h1 : i < 64) (hR : RoundsIn w n g x) (hH : Raw w g s buf m) (hs : Ok4 s) :
    Calls Tryd.prog 93 #[.int .i64 i, .pointer (some ⟨n, 0, none⟩), .pointer (some ⟨n + 1, 0, none⟩)] w fun e w' => e = .returned (.int .u32 (((mixf 3 s.b s.c s.d + x (place i)) % 4294967296 : Nat) : Int)) ∧ ∃ k, w' = w.drewN k := by
  have hp := place_3 i (by omega) h1
  have hpl : place i ≤ 15 := by have := place_lt i (by omega); omega
  have hc0 := hR.1.cell
  have hcx := hR.2.1.cell (place i) (by omega)
  have hw1 := hH.word.2.1
  have hw2 := hH.word.2.2.1
  have hw3 := hH.word.2.2.2
  obtain ⟨a, b, c, d⟩ := s
  simp only at hw1 hw2 hw3 ⊢
  have HM := Lib.hid (mix3 b c d (by have := hs.2.1; simp only at this; omega) (by have := hs.2.2.1; simp only at this; omega) (by have := hs.2.2.2; simp only at this; omega))
  generalize x (place i) = v at *
  obtain ⟨p, hpp⟩ : ∃ p, place i = p := ⟨_, rfl⟩
  rw [hpp] at hp hpl hcx
  clear hpp hR hH hs
  have j0 : (0 : Int) ≤ i := by omega
  have j1 : (i : Int) < 64 := by omega
  have e1 : IntKind.i64.wrap (7 * (i : Int)) = 7 * (i : Int) := IntWalk.i64_in _ (by omega)
  have e3 : (7 * (i : Int)) % 16 = (p : Int) := by omega
  have e4 : (0 : Int) ≤ 7 * (i : Int) := by omega
  have q0 : (0 : Int) ≤ p := by omega
  have q1 : (p : Int) < 16 := by omega
  have q2 : (p : Int) ≤ 15 := by omega
  have q3 : IntKind.i64.wrap (p : Int) = (p : Int) := IntWalk.i64_in _ (by omega)
  clear hp
  go_enter Tryd.func93, Tryd.ntmps93
  go_wp2
  go_quiet (fail)
  go_wp2
  (try rw [umax])
  rw [HM.out]
  go_ret
  exact ⟨congrArg (fun z => Ending.returned (Value.int .u32 z)) (by simp), _, rfl⟩

end Go.Proofs.YtpfbknbloeilmaaDoor.Md5
