/- Contracts of package md5's split, and of bits.RotateLeft32. -/
import Derived.Test.YtipcmkcllibnfaaDoorMd5D
import Derived.Deep.WholeRow
import Derived.Laws.Tables
import Derived.Laws.CopyOwn
namespace Go.Proofs.YtipcmkcllibnfaaDoor.Md5
open Go.RowKit Go.Proofs.YtipcmkcllibnfaaDoor.Oct Go.Proofs.YtipcmkcllibnfaaDoor.Row Go.Proofs.YtipcmkcllibnfaaDoor.Mem

theorem and31 (n : Nat) (h : n ≤ 31) : bits .and .u64 (n : Int) 31 = (n : Int) := by
  rw [show (31 : Int) = ((31 : Nat) : Int) from rfl, u64_and_nat _ _ (by omega) (by omega), nat_mask5]
  omega
theorem or_rot (x n : Nat) (hx : x ≤ 4294967295) (h1 : 1 ≤ n) (h2 : n ≤ 31) : bits .or .u32 ((x : Int) * 2 ^ n % 4294967296) ((x : Int) / 2 ^ (32 - n)) = (rotl x n : Int) := by
  rw [← rotl_or x n (by omega) h1 h2]
  rw [← u32_or_nat _ _ (Nat.mod_lt _ (by decide)) (Nat.lt_of_le_of_lt (Nat.div_le_self _ _) (by omega))]
  simp only [Int.natCast_emod, Int.natCast_mul, Int.natCast_ediv, Int.natCast_pow]
  rfl
set_option maxHeartbeats 400000 in
theorem rot_any (x n : Nat) (w : World) (hx : x ≤ 4294967295) (h1 : 1 ≤ n) (h2 : n ≤ 31) :
    Calls Tryd.prog 60 #[.int .u32 x, .int .i64 n] w fun e w' => e = .returned (.int .u32 (rotl x n)) ∧ w = w' := by
  have HO := Lib.hid (or_rot x n hx h1 h2)
  have ha := and31 n h2
  have h3 : (0 : Int) ≤ x := by omega
  have h4 : (x : Int) ≤ 4294967295 := by omega
  have h5 : (1 : Int) ≤ n := by omega
  have h6 : (n : Int) ≤ 31 := by omega
  go_enter Tryd.func60, Tryd.ntmps60
  go_wp2
  go_ret
  exact ⟨congrArg (fun z => Ending.returned (Value.int .u32 z)) HO.out, rfl⟩

/-- The array of 16 numbers. -/
def arr16 (f : Nat → Nat) : Array Value := (Array.range 16).map fun j => Value.int .u32 (f j)
theorem arr16_size (f : Nat → Nat) : (arr16 f).size = 16 := by simp [arr16]
theorem arr16_at (f : Nat → Nat) (j : Nat) (h : j < 16) : (arr16 f)[j]? = some (.int .u32 (f j)) := by simp [arr16, h]
theorem arr16_all (f : Nat → Nat) : (arr16 f).all (·.oneCell') = true := by
  rw [Array.all_eq_true_iff_forall_mem]
  intro v hv
  simp only [arr16, Array.mem_map] at hv
  obtain ⟨j, _, rfl⟩ := hv
  rfl
theorem arr16_zero : Array.replicate 16 (Value.int .u32 0) = arr16 (fun _ => 0) := by
  apply Array.ext_getElem?
  intro i
  by_cases h : i < 16
  · rw [arr16_at _ _ h]; simp [h]
  · simp [arr16, h]
theorem arr16_congr {f g : Nat → Nat} (h : ∀ j, j < 16 → f j = g j) : arr16 f = arr16 g := by
  apply Array.ext_getElem?
  intro i
  by_cases hi : i < 16
  · rw [arr16_at _ _ hi, arr16_at _ _ hi, h i hi]
  · rw [Array.getElem?_eq_none (by rw [arr16_size]; omega), Array.getElem?_eq_none (by rw [arr16_size]; omega)]
/-- The array lies in block g, whole. -/
def Tab16 (w : World) (g : Nat) (f : Nat → Nat) : Prop := w.heap[g]? = some (.cells (arr16 f) 77 (0, 0))
def upd (f : Nat → Nat) (k v : Nat) : Nat → Nat := fun j => if j = k then v else f j
theorem Tab16.cell {w : World} {g : Nat} {f : Nat → Nat} (h : Tab16 w g f) (j : Nat) (hj : j < 16) : w.cell? ⟨g, j, none⟩ = some (.int .u32 (f j)) := by
  rw [cell_of_row w g j _ _ _ h, arr16_at f j hj]
theorem Tab16.frozen {w : World} {g : Nat} {f : Nat → Nat} (h : Tab16 w g f) (j : Nat) : w.frozen? ⟨g, j, none⟩ = false := by
  unfold World.frozen?
  have h' : w.heap[g]? = _ := h
  simp [h']
theorem Tab16.same {w w' : World} {g : Nat} {f : Nat → Nat} (h : Tab16 w g f) (e : w'.heap[g]? = w.heap[g]?) : Tab16 w' g f := e.trans h
theorem Tab16.set {w : World} {g : Nat} {f : Nat → Nat} (h : Tab16 w g f) (k v : Nat) (hk : k < 16) : Tab16 (w.setCell ⟨g, k, none⟩ (.int .u32 v)) g (upd f k v) := by
  unfold Tab16
  rw [cells_set h]
  congr 2
  apply Array.ext_getElem?
  intro i
  rw [Array.getElem?_setIfInBounds, arr16_size]
  by_cases e : k = i
  · subst e; rw [if_pos rfl, if_pos hk, arr16_at _ _ hk]; simp [upd]
  · rw [if_neg e]
    by_cases hi : i < 16
    · rw [arr16_at _ _ hi, arr16_at _ _ hi]; simp [upd, show ¬ i = k from fun h => e h.symm]
    · rw [Array.getElem?_eq_none (by rw [arr16_size]; omega), Array.getElem?_eq_none (by rw [arr16_size]; omega)]
theorem Tab16.set_other {w : World} {g g' : Nat} {f : Nat → Nat} (h : Tab16 w g f) (hg : g ≠ g') (k : Nat) (v : Value) : Tab16 (w.setCell ⟨g', k, none⟩ v) g f :=
  (Below.heap_setCell _ _ _ _ hg).trans h
theorem info16 : (Tryd.prog.info? 77).map (fun i => (i.zero, i.size)) = some (some (.agg (Array.replicate 16 (.int .u32 0))), 16) := by kernel_rfl
theorem zero16 (w : World) : (zeroValue 77).run Tryd.prog w = .ok (.agg (arr16 fun _ => 0)) w := by
  rw [← arr16_zero]; exact (zero_of_info info16).1 w

theorem getD_take (l : List UInt8) (i m : Nat) : (l.take i).getD m 0 = if m < i then l.getD m 0 else 0 := by
  rw [List.getD_eq_getElem?_getD, List.getD_eq_getElem?_getD, List.getElem?_take]
  split <;> rfl
theorem word_other (l : List UInt8) (i j : Nat) (h : j ≠ i / 4) : wordAt (l.take (i + 1)) j = wordAt (l.take i) j := by
  unfold wordAt
  simp only [getD_take]
  have e : ∀ m, m ≠ i → (if m < i + 1 then l.getD m 0 else 0) = (if m < i then l.getD m 0 else 0) := by
    intro m hm
    by_cases hl : m < i
    · rw [if_pos hl, if_pos (by omega)]
    · rw [if_neg hl, if_neg (by omega)]
  rw [e _ (by omega), e _ (by omega), e _ (by omega), e _ (by omega)]
theorem word_step (l : List UInt8) (q r : Nat) (hr : r ≤ 3) : wordAt (l.take (4 * q + r + 1)) q = wordAt (l.take (4 * q + r)) q ||| (l.getD (4 * q + r) 0).toNat * 2 ^ (8 * r) ∧ wordAt (l.take (4 * q + r)) q < 2 ^ (8 * r) := by
  unfold wordAt
  simp only [getD_take]
  have b0 := (l.getD (4 * q) 0).toNat_lt
  have b1 := (l.getD (4 * q + 1) 0).toNat_lt
  have b2 := (l.getD (4 * q + 2) 0).toNat_lt
  have z : (0 : UInt8).toNat = 0 := rfl
  rcases (show r = 0 ∨ r = 1 ∨ r = 2 ∨ r = 3 by omega) with rfl | rfl | rfl | rfl
  · rw [if_pos (by omega), if_neg (by omega), if_neg (by omega), if_neg (by omega), if_neg (by omega), if_neg (by omega), if_neg (by omega), if_neg (by omega)]
    simp
  · rw [if_pos (by omega), if_pos (by omega), if_neg (by omega), if_neg (by omega), if_pos (by omega), if_neg (by omega), if_neg (by omega), if_neg (by omega), z]
    generalize (l.getD (4 * q) 0).toNat = x0 at *
    generalize (l.getD (4 * q + 1) 0).toNat = x1 at *
    generalize (l.getD (4 * q + 2) 0).toNat = x2 at *
    generalize (l.getD (4 * q + 3) 0).toNat = x3 at *
    rw [show (2 : Nat) ^ (8 * 1) = 2 ^ 8 from rfl]
    refine ⟨?_, by omega⟩
    rw [Nat.or_comm, nat_join 8 _ _ (by omega) (by omega)]
    omega
  · rw [if_pos (by omega), if_pos (by omega), if_pos (by omega), if_neg (by omega), if_pos (by omega), if_pos (by omega), if_neg (by omega), if_neg (by omega), z]
    generalize (l.getD (4 * q) 0).toNat = x0 at *
    generalize (l.getD (4 * q + 1) 0).toNat = x1 at *
    generalize (l.getD (4 * q + 2) 0).toNat = x2 at *
    generalize (l.getD (4 * q + 3) 0).toNat = x3 at *
    rw [show (2 : Nat) ^ (8 * 2) = 2 ^ 16 from rfl]
    refine ⟨?_, by omega⟩
    rw [Nat.or_comm, nat_join 16 _ _ (by omega) (by omega)]
    omega
  · rw [if_pos (by omega), if_pos (by omega), if_pos (by omega), if_pos (by omega), if_pos (by omega), if_pos (by omega), if_pos (by omega), if_neg (by omega), z]
    generalize (l.getD (4 * q) 0).toNat = x0 at *
    generalize (l.getD (4 * q + 1) 0).toNat = x1 at *
    generalize (l.getD (4 * q + 2) 0).toNat = x2 at *
    generalize (l.getD (4 * q + 3) 0).toNat = x3 at *
    rw [show (2 : Nat) ^ (8 * 3) = 2 ^ 24 from rfl]
    refine ⟨?_, by omega⟩
    rw [Nat.or_comm, nat_join 24 _ _ (by omega) (by omega)]
    omega

/-- 'a[i]' of an array of numbers by value. -/
theorem run_index_arr {P : Program} (w : World) (t e : TypeId) (n : Nat) (ik : IntKind) (cs : Array Value) (k : Nat) (v : Value) (h : P.underlying t = some (.array n e)) (he : P.underlying e = some (.int ik)) (hz : (P.info? e).map (·.size) = some 1) (hk : k < n) (hv : cs[k]? = some v) :
    (Instr.index t (.agg cs) (.int .i64 (k : Int))).run P w = .ok v w := by
  cases hq : P.info? e with
  | none => simp [hq] at hz
  | some i =>
    have hi : i.size = 1 := by simpa [hq] using hz
    have hk' : (k : Int) < (n : Int) := by omega
    have h0 : (0 : Int) ≤ (k : Int) := by omega
    simp [Instr.index, run_underlying h, asIntOf, sizeOf, typeInfo, hq, hi, part, isAgg, run_underlying he, hv]
    omega
theorem last (q k v : Nat) (f : Nat → Nat) (l : List UInt8) {r : Nat} (hk : k = 4 * q + r) (hr : r ≤ 3) (hv : wordAt (l.take (k + 1)) q = v) (hf : ∀ j, j < 16 → f j = wordAt (l.take k) j) : ∀ j, j < 16 → upd f q v j = wordAt (l.take (k + 1)) j := fun j hj => by
  unfold upd
  by_cases e : j = q
  · rw [if_pos e, e, hv]
  · rw [if_neg e, hf j hj, word_other l k j (by omega)]
theorem sizeB : (Tryd.prog.info? 65).map (·.size) = some 64 := by kernel_rfl
set_option maxHeartbeats 2000000 in
set_option maxRecDepth 100000 in
theorem split_any (l : List UInt8) (w : World) (hl : l.length = 64) :
    Calls Tryd.prog 49 #[.agg (bytesV l).toArray] w fun e w' => e = .returned (.agg (arr16 (wordAt l))) ∧ Below w.heap.size w w' := by
  have hz := zero16
  have Hl := Lib.hid hl; clear hl
  obtain ⟨cs, hcs⟩ : ∃ cs, (bytesV l).toArray = cs := ⟨_, rfl⟩
  have HC : Hid (∀ j, j < 64 → cs[j]? = some (.int .u8 ((l.getD j 0).toNat : Int))) := by
    intro j hj
    rw [← hcs, List.getElem?_toArray]
    unfold bytesV
    rw [List.getElem?_map, List.getD_eq_getElem?_getD, List.getElem?_eq_getElem (by rw [Hl.out]; exact hj)]
    rfl
  have HZ : Hid (cs.size = 64) := by show _ = _; rw [← hcs, List.size_toArray, bytesV_length]; exact Hl.out
  rw [hcs]
  clear hcs
  have hsz : (Tryd.prog.info? 65).map (·.size) = some cs.size := by rw [HZ.out]; exact sizeB
  have Hsz := Lib.hid hsz; clear hsz
  obtain ⟨W, hW⟩ : ∃ W, ((w.alloc (.cells cs 65)).alloc (.cells (arr16 fun _ => 0) 77)).alloc (.cells (arr16 fun _ => 0) 77) = W := ⟨_, rfl⟩
  have HX0 : Hid (W.heap[w.heap.size]? = some (.cells cs 65 (0, 0))) := by
    show _ = _
    rw [← hW, Below.heap_alloc _ _ _ (by simp; omega), Below.heap_alloc _ _ _ (by simp)]
    exact World.alloc_heap_new w _
  have HX1 : Hid (Tab16 W (w.heap.size + 1) (fun _ => 0)) := by
    show W.heap[_]? = _
    rw [← hW, Below.heap_alloc _ _ _ (by simp)]
    have := World.alloc_heap_new (w.alloc (.cells cs 65)) (.cells (arr16 fun _ => 0) 77)
    rwa [World.size_alloc] at this
  have HX2 : Hid (Tab16 W (w.heap.size + 2) (fun _ => 0)) := by
    show W.heap[_]? = _
    rw [← hW]
    have := World.alloc_heap_new ((w.alloc (.cells cs 65)).alloc (.cells (arr16 fun _ => 0) 77)) (.cells (arr16 fun _ => 0) 77)
    rwa [World.size_alloc, World.size_alloc] at this
  have HB : Hid (Below w.heap.size w W) := by
    show Below _ _ _
    rw [← hW]
    exact (((Below.refl _ w).alloc (Nat.le_refl _) _).alloc (by simp) _).alloc (by simp; omega) _
  have HW := Lib.hid hW; clear hW
  go_enter Tryd.func49, Tryd.ntmps49
  go_wp2_with (first
    | (rw [HW.out]; refine wpList_load_row rfl 65 _ rfl w.heap.size rfl 65 _ (0, 0) _ HX0.out Tryd.underlying65 rfl Hsz.out ?_))
  go_loopw [7] (fun i wr => ∃ k : Nat, k ≤ 64 ∧ i = .int .i64 k ∧ Below w.heap.size w wr ∧ Hid (∃ f : Nat → Nat, Tab16 wr (w.heap.size + 1) (fun _ => 0) ∧ Tab16 wr (w.heap.size + 2) f ∧ ∀ j, j < 16 → f j = wordAt (l.take k) j)) (fun i _ => 64 - (intOf i).toNat)
  case atStart => exact ⟨0, Nat.zero_le _, rfl, HB.out, _, HX1.out, HX2.out, fun j _ => by simp [wordAt]⟩
  case round =>
    obtain ⟨k, hk, rfl, hb, ⟨f, ht0, ht1, hf⟩⟩ := hrel
    by_cases hlt : k < 64
    · obtain ⟨q, r, hqr, hr⟩ : ∃ q r, k = 4 * q + r ∧ r ≤ 3 := ⟨k / 4, k % 4, by omega, by omega⟩
      have hq15 : q ≤ 15 := by omega
      have hck0 := HC.out k hlt
      have hw := word_step l q r hr
      rw [← hqr] at hw
      have hfq := hf q (by omega)
      have hcell := ht1.cell q (by omega)
      rw [hfq] at hcell
      have hfz := ht1.frozen q
      have hwl := wordAt_lt (l.take k) q
      have HW1 := Lib.hid hw.1
      have Hf := Lib.hid hf
      have Ht0 := Lib.hid ht0
      have Ht1 := Lib.hid ht1
      have Hb := Lib.hid hb
      have Hwl := Lib.hid hw.2
      clear hf ht0 ht1 hb hw hfq
      generalize wordAt (l.take k) q = v at *
      have hck := run_index_arr (P := Tryd.prog) wr 65 5 64 .u8 cs k _ Tryd.underlying65 Tryd.underlying5 (by kernel_rfl) hlt hck0
      clear hck0
      have hby := (l.getD k 0).toNat_lt
      generalize (l.getD k 0).toNat = b at *
      have hq1 : (k : Int) / 4 = (q : Int) := by omega
      have hr1 : (k : Int) % 4 = (r : Int) := by omega
      have g0 : (0 : Int) ≤ q := by omega
      have g1 : (q : Int) ≤ 15 := by omega
      have g2 : (k : Int) < 64 := by omega
      have g3 : (0 : Int) ≤ k := by omega
      have HQR := Lib.hid hqr; clear hqr
      rcases (show r = 0 ∨ r = 1 ∨ r = 2 ∨ r = 3 by omega) with rfl | rfl | rfl | rfl
      · have HX : Hid (bits .or .u32 (v : Int) (b : Int) = ((v ||| b : Nat) : Int)) := u32_or_nat v (b) hwl (by omega)
        have HV : Hid (wordAt (l.take (k + 1)) q = v ||| b) := by show _ = _; rw [HW1.out]; simp
        clear HW1
        go_wp2
        go_region
        rw [HX.out]
        go_wp2
        have hs := Ht1.out.set q (v ||| b) (by omega)
        go_roundw
        case rel => exact ⟨k + 1, by omega, by go_num, (Hb.out.setCell (p := ⟨w.heap.size + 2, q, none⟩) (by simp) _).drew, _, Ht0.out.set_other (by omega) _ _, hs, last q k (v ||| b) f l HQR.out (by omega) HV.out Hf.out⟩
        case measure => simp [intOf]; omega
      · have HX : Hid (bits .or .u32 (v : Int) ((b : Int) * 256) = ((v ||| b * 256 : Nat) : Int)) := u32_or_nat v (b * 256) hwl (by omega)
        have HV : Hid (wordAt (l.take (k + 1)) q = v ||| b * 256) := HW1.out
        clear HW1
        go_wp2
        go_region
        rw [HX.out]
        go_wp2
        have hs := Ht1.out.set q (v ||| b * 256) (by omega)
        go_roundw
        case rel => exact ⟨k + 1, by omega, by go_num, (Hb.out.setCell (p := ⟨w.heap.size + 2, q, none⟩) (by simp) _).drew, _, Ht0.out.set_other (by omega) _ _, hs, last q k (v ||| b * 256) f l HQR.out (by omega) HV.out Hf.out⟩
        case measure => simp [intOf]; omega
      · have HX : Hid (bits .or .u32 (v : Int) ((b : Int) * 65536) = ((v ||| b * 65536 : Nat) : Int)) := u32_or_nat v (b * 65536) hwl (by omega)
        have HV : Hid (wordAt (l.take (k + 1)) q = v ||| b * 65536) := HW1.out
        clear HW1
        go_wp2
        go_region
        rw [HX.out]
        go_wp2
        have hs := Ht1.out.set q (v ||| b * 65536) (by omega)
        go_roundw
        case rel => exact ⟨k + 1, by omega, by go_num, (Hb.out.setCell (p := ⟨w.heap.size + 2, q, none⟩) (by simp) _).drew, _, Ht0.out.set_other (by omega) _ _, hs, last q k (v ||| b * 65536) f l HQR.out (by omega) HV.out Hf.out⟩
        case measure => simp [intOf]; omega
      · have HX : Hid (bits .or .u32 (v : Int) ((b : Int) * 16777216) = ((v ||| b * 16777216 : Nat) : Int)) := u32_or_nat v (b * 16777216) hwl (by omega)
        have HV : Hid (wordAt (l.take (k + 1)) q = v ||| b * 16777216) := HW1.out
        clear HW1
        go_wp2
        go_region
        rw [HX.out]
        go_wp2
        have hs := Ht1.out.set q (v ||| b * 16777216) (by omega)
        go_roundw
        case rel => exact ⟨k + 1, by omega, by go_num, (Hb.out.setCell (p := ⟨w.heap.size + 2, q, none⟩) (by simp) _).drew, _, Ht0.out.set_other (by omega) _ _, hs, last q k (v ||| b * 16777216) f l HQR.out (by omega) HV.out Hf.out⟩
        case measure => simp [intOf]; omega
    · obtain rfl : k = 64 := by omega
      have hsz : (Tryd.prog.info? 77).map (·.size) = some (arr16 f).size := by rw [arr16_size]; exact (zero_of_info info16).2
      have Hsz := Lib.hid hsz
      have H1 := Lib.hid ht1
      have H0 := Lib.hid ht0
      have Hf : Hid (arr16 f = arr16 (wordAt l)) := by
        refine arr16_congr fun j hj => ?_
        rw [hf j hj, List.take_of_length_le (by rw [Hl.out]; exact Nat.le_refl _)]
      clear hsz ht1 ht0 hf
      go_wp2_with (first
        | (refine wpList_load_row rfl 77 _ rfl (w.heap.size + 2) rfl 77 _ (0, 0) _ H1.out Tryd.underlying77 rfl Hsz.out ?_)
        | (refine wpList_store_row rfl 77 _ _ rfl (w.heap.size + 1) (arr16 f) rfl rfl 77 _ H0.out Hsz.out (by rw [arr16_size, arr16_size]) (arr16_all f) ?_))
      have hg := setRow_heap wr (w.heap.size + 1) _ (arr16 f) _ _ H0.out
      refine bodyPost_ret (v := .agg (arr16 f)) (results_cell_row rfl _ _ (w.heap.size + 1) 77 (arr16 f) (0, 0) _ rfl hg Tryd.underlying77 rfl Hsz.out) rfl ⟨by rw [Hf.out], below_setRow hb (by omega) _⟩
end Go.Proofs.YtipcmkcllibnfaaDoor.Md5
