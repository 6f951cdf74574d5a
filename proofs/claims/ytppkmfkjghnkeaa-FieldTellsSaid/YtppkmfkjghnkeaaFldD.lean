/- Contract of the document's Put of a frame's information. -/
import Derived.Test.YtppkmfkjghnkeaaFldC
import Derived.Maps.AppendAt
namespace Go.Proofs.Ytppkmfkjghnkeaa.Fld
open Go.RowKit Go.Proofs.Ytppkmfkjghnkeaa.Oct Go.Proofs.Ytppkmfkjghnkeaa.Row
set_option linter.unusedVariables false

theorem Try.info5 : (Try.prog.info? 5).map (fun i => (i.zero, i.size, i.bytes)) = some (some (.int .u8 0), 1, 1) := by kernel_rfl
theorem lt256 (c : UInt8) : (c.toNat : Int) ≤ 255 := by have := c.toNat_lt; omega
theorem box_new (w : World) (a c : Bool) (t : TypeId) : (w.alloc (.cells #[.bool a, .bool c] t)).cell? ⟨w.heap.size, 0, none⟩ = some (.bool a) ∧ (w.alloc (.cells #[.bool a, .bool c] t)).cell? ⟨w.heap.size, 1, none⟩ = some (.bool c) := by
  rw [World.cell?_alloc_new, World.cell?_alloc_new]
  exact ⟨rfl, rfl⟩
theorem text_and (l : List UInt8) (s : ByteArray) : bOf l ++ s = bOf (l ++ s.toList) := by rw [append_bOf, toList_bOf]

set_option maxHeartbeats 1000000 in
theorem rput_0 (p : Nat) (x y : UInt8) (s : ByteArray) (w : World) (hp : p < 65536) (hm : may p = true) (hs : s.size ≤ 1048576) (hx : (p : Int) / 256 = (x.toNat : Int)) (hy : (p : Int) % 256 = (y.toNat : Int)) (hl : ((p : Int) == 49185) = false) (hh : ((x.toNat : Int) != 0) = false) :
    Calls Try.prog 9 #[.int .u16 p, .string s, .agg #[.bool false, .bool false]] w fun e w' => e = .returned (.tuple #[.string (bOf ([255, 3, x, y] ++ s.toList)), .int .i64 0]) ∧ Below w.heap.size w w' := by
  obtain ⟨i0, hi, hz0, hz1, hz2⟩ := info_parts Try.info5
  have M := Lib.hid (fun w => rmay_any p w hp)
  rw [hm] at M
  have hp0 : (0 : Int) ≤ p := by omega
  have hp1 : (p : Int) ≤ 65535 := by omega
  have hx1 := lt256 x
  have hy1 := lt256 y
  have Z := Lib.hid (box_new w false false 24)
  have Hw := Lib.hid (World.size_alloc w (.cells #[.bool false, .bool false] 24))
  have HB := Lib.hid ((Below.refl w.heap.size w).alloc (Nat.le_refl _) (.cells #[.bool false, .bool false] 24))
  clear hp hm
  go_enter Try.func9, Try.ntmps9
  go_wp2_with fail
  refine (M.out _).mono ?_
  rintro e w0 ⟨rfl, hw0⟩
  rw [hw0] at Z Hw HB
  have c0 := Z.out.1
  have c1 := Z.out.2
  have gl : w.heap.size < w0.heap.size := by rw [Hw.out]; exact Nat.lt_succ_self _
  clear Z Hw hw0
  generalize hg : w.heap.size = g at *
  have Hg := Lib.hid hg
  clear hg
  have HO0 := Lib.hid (World.ownsRow_nil w0 w0.heap.size 5 1)
  have hb0 := Below.refl w0.heap.size w0
  go_wp2_with (first
    | (at_builtin; refine wpList_append_own _ rfl _ _ 38 rfl w0.heap.size 5 i0 (.int .u8 0) 1 1 Try.underlying38 hi hz0 hz1 hz2 rfl (by decide) (.slice none 0 0) (([] : List UInt8)).length (bytesV ([] : List UInt8)) rfl (HO0.out.alloc _) ⟨w0.heap.size, 0, none⟩ 2 2 (bytesV ([255, 3] : List UInt8)) rfl rfl (cells_new _ _ _) (bytesV_one _) (by unfold maxLen; simp <;> omega) (by simp <;> omega) (by have := hb0.size; simp <;> omega) ?_; intro v1 w1 hown hgr _; rw [← bytesV_append] at hown; have HO1 := Lib.hid hown; clear hown; have hb1 := (hb0.alloc hb0.size (.cells (bytesV ([255, 3] : List UInt8)).toArray 5)).grown hgr (by have := hb0.size; simp <;> omega) (fun q hq => (HO0.out.lt q hq).1); clear hgr; have hc1 := (hb1.cell (p := ⟨g, 1, none⟩) gl).trans c1)
    | (at_builtin; refine wpList_append_own _ rfl _ _ 38 rfl w0.heap.size 5 i0 (.int .u8 0) 1 1 Try.underlying38 hi hz0 hz1 hz2 rfl (by decide) v1 (([255, 3] : List UInt8)).length (bytesV ([255, 3] : List UInt8)) rfl (HO1.out.alloc _) ⟨w1.heap.size, 0, none⟩ 1 1 (bytesV [x]) rfl rfl (cells_new _ _ _) (bytesV_one _) (by unfold maxLen; simp <;> omega) (by simp <;> omega) (by have := hb1.size; simp <;> omega) ?_; intro v2 w2 hown hgr _; rw [← bytesV_append] at hown; have HO2 := Lib.hid hown; clear hown; have hb2 := (hb1.alloc hb1.size (.cells (bytesV [x]).toArray 5)).grown hgr (by have := hb1.size; simp <;> omega) (fun q hq => (HO1.out.lt q hq).1); clear hgr; have hc2 := (hb2.cell (p := ⟨g, 1, none⟩) gl).trans c1)
    | (at_builtin; refine wpList_append_own _ rfl _ _ 38 rfl w0.heap.size 5 i0 (.int .u8 0) 1 1 Try.underlying38 hi hz0 hz1 hz2 rfl (by decide) v2 ((([255, 3] : List UInt8) ++ [x])).length (bytesV (([255, 3] : List UInt8) ++ [x])) rfl (HO2.out.alloc _) ⟨w2.heap.size, 0, none⟩ 1 1 (bytesV [y]) rfl rfl (cells_new _ _ _) (bytesV_one _) (by unfold maxLen; simp <;> omega) (by simp <;> omega) (by have := hb2.size; simp <;> omega) ?_; intro v3 w3 hown hgr _; rw [← bytesV_append] at hown; have HO3 := Lib.hid hown; clear hown; have hb3 := (hb2.alloc hb2.size (.cells (bytesV [y]).toArray 5)).grown hgr (by have := hb2.size; simp <;> omega) (fun q hq => (HO2.out.lt q hq).1); clear hgr; have hc3 := (hb3.cell (p := ⟨g, 1, none⟩) gl).trans c1))
  have hcv := conv_own (P := Try.prog) (src := 38) (dst := 9) Try.underlying38 Try.underlying5 Try.underlying9 (n := ([255, 3, x, y]).length) (l := [255, 3, x, y]) HO3.out
  have hsz : (bOf ([255, 3, x, y])).size ≤ 8 := by rw [size_bOf]; simp
  rw [hcv]
  clear hcv
  go_wp2
  go_ret2
  rw [text_and]
  exact ⟨rfl, by rw [Hg.out]; exact HB.out.trans (hb3.mono (by omega))⟩
set_option maxHeartbeats 1000000 in
theorem rput_1 (p : Nat) (x y : UInt8) (s : ByteArray) (w : World) (hp : p < 65536) (hm : may p = true) (hs : s.size ≤ 1048576) (hx : (p : Int) / 256 = (x.toNat : Int)) (hy : (p : Int) % 256 = (y.toNat : Int)) (hl : ((p : Int) == 49185) = false) (hh : ((x.toNat : Int) != 0) = true) :
    Calls Try.prog 9 #[.int .u16 p, .string s, .agg #[.bool false, .bool false]] w fun e w' => e = .returned (.tuple #[.string (bOf ([255, 3, x, y] ++ s.toList)), .int .i64 0]) ∧ Below w.heap.size w w' := by
  obtain ⟨i0, hi, hz0, hz1, hz2⟩ := info_parts Try.info5
  have M := Lib.hid (fun w => rmay_any p w hp)
  rw [hm] at M
  have hp0 : (0 : Int) ≤ p := by omega
  have hp1 : (p : Int) ≤ 65535 := by omega
  have hx1 := lt256 x
  have hy1 := lt256 y
  have Z := Lib.hid (box_new w false false 24)
  have Hw := Lib.hid (World.size_alloc w (.cells #[.bool false, .bool false] 24))
  have HB := Lib.hid ((Below.refl w.heap.size w).alloc (Nat.le_refl _) (.cells #[.bool false, .bool false] 24))
  clear hp hm
  go_enter Try.func9, Try.ntmps9
  go_wp2_with fail
  refine (M.out _).mono ?_
  rintro e w0 ⟨rfl, hw0⟩
  rw [hw0] at Z Hw HB
  have c0 := Z.out.1
  have c1 := Z.out.2
  have gl : w.heap.size < w0.heap.size := by rw [Hw.out]; exact Nat.lt_succ_self _
  clear Z Hw hw0
  generalize hg : w.heap.size = g at *
  have Hg := Lib.hid hg
  clear hg
  have HO0 := Lib.hid (World.ownsRow_nil w0 w0.heap.size 5 1)
  have hb0 := Below.refl w0.heap.size w0
  go_wp2_with (first
    | (at_builtin; refine wpList_append_own _ rfl _ _ 38 rfl w0.heap.size 5 i0 (.int .u8 0) 1 1 Try.underlying38 hi hz0 hz1 hz2 rfl (by decide) (.slice none 0 0) (([] : List UInt8)).length (bytesV ([] : List UInt8)) rfl (HO0.out.alloc _) ⟨w0.heap.size, 0, none⟩ 2 2 (bytesV ([255, 3] : List UInt8)) rfl rfl (cells_new _ _ _) (bytesV_one _) (by unfold maxLen; simp <;> omega) (by simp <;> omega) (by have := hb0.size; simp <;> omega) ?_; intro v1 w1 hown hgr _; rw [← bytesV_append] at hown; have HO1 := Lib.hid hown; clear hown; have hb1 := (hb0.alloc hb0.size (.cells (bytesV ([255, 3] : List UInt8)).toArray 5)).grown hgr (by have := hb0.size; simp <;> omega) (fun q hq => (HO0.out.lt q hq).1); clear hgr; have hc1 := (hb1.cell (p := ⟨g, 1, none⟩) gl).trans c1)
    | (at_builtin; refine wpList_append_own _ rfl _ _ 38 rfl w0.heap.size 5 i0 (.int .u8 0) 1 1 Try.underlying38 hi hz0 hz1 hz2 rfl (by decide) v1 (([255, 3] : List UInt8)).length (bytesV ([255, 3] : List UInt8)) rfl (HO1.out.alloc _) ⟨w1.heap.size, 0, none⟩ 1 1 (bytesV [x]) rfl rfl (cells_new _ _ _) (bytesV_one _) (by unfold maxLen; simp <;> omega) (by simp <;> omega) (by have := hb1.size; simp <;> omega) ?_; intro v2 w2 hown hgr _; rw [← bytesV_append] at hown; have HO2 := Lib.hid hown; clear hown; have hb2 := (hb1.alloc hb1.size (.cells (bytesV [x]).toArray 5)).grown hgr (by have := hb1.size; simp <;> omega) (fun q hq => (HO1.out.lt q hq).1); clear hgr; have hc2 := (hb2.cell (p := ⟨g, 1, none⟩) gl).trans c1)
    | (at_builtin; refine wpList_append_own _ rfl _ _ 38 rfl w0.heap.size 5 i0 (.int .u8 0) 1 1 Try.underlying38 hi hz0 hz1 hz2 rfl (by decide) v2 ((([255, 3] : List UInt8) ++ [x])).length (bytesV (([255, 3] : List UInt8) ++ [x])) rfl (HO2.out.alloc _) ⟨w2.heap.size, 0, none⟩ 1 1 (bytesV [y]) rfl rfl (cells_new _ _ _) (bytesV_one _) (by unfold maxLen; simp <;> omega) (by simp <;> omega) (by have := hb2.size; simp <;> omega) ?_; intro v3 w3 hown hgr _; rw [← bytesV_append] at hown; have HO3 := Lib.hid hown; clear hown; have hb3 := (hb2.alloc hb2.size (.cells (bytesV [y]).toArray 5)).grown hgr (by have := hb2.size; simp <;> omega) (fun q hq => (HO2.out.lt q hq).1); clear hgr; have hc3 := (hb3.cell (p := ⟨g, 1, none⟩) gl).trans c1))
  have hcv := conv_own (P := Try.prog) (src := 38) (dst := 9) Try.underlying38 Try.underlying5 Try.underlying9 (n := ([255, 3, x, y]).length) (l := [255, 3, x, y]) HO3.out
  have hsz : (bOf ([255, 3, x, y])).size ≤ 8 := by rw [size_bOf]; simp
  rw [hcv]
  clear hcv
  go_wp2
  go_ret2
  rw [text_and]
  exact ⟨rfl, by rw [Hg.out]; exact HB.out.trans (hb3.mono (by omega))⟩
set_option maxHeartbeats 1000000 in
theorem rput_2 (p : Nat) (x y : UInt8) (s : ByteArray) (w : World) (hp : p < 65536) (hm : may p = true) (hs : s.size ≤ 1048576) (hx : (p : Int) / 256 = (x.toNat : Int)) (hy : (p : Int) % 256 = (y.toNat : Int)) (hl : ((p : Int) == 49185) = true) (hh : ((x.toNat : Int) != 0) = true) :
    Calls Try.prog 9 #[.int .u16 p, .string s, .agg #[.bool false, .bool false]] w fun e w' => e = .returned (.tuple #[.string (bOf ([255, 3, x, y] ++ s.toList)), .int .i64 0]) ∧ Below w.heap.size w w' := by
  obtain ⟨i0, hi, hz0, hz1, hz2⟩ := info_parts Try.info5
  have M := Lib.hid (fun w => rmay_any p w hp)
  rw [hm] at M
  have hp0 : (0 : Int) ≤ p := by omega
  have hp1 : (p : Int) ≤ 65535 := by omega
  have hx1 := lt256 x
  have hy1 := lt256 y
  have Z := Lib.hid (box_new w false false 24)
  have Hw := Lib.hid (World.size_alloc w (.cells #[.bool false, .bool false] 24))
  have HB := Lib.hid ((Below.refl w.heap.size w).alloc (Nat.le_refl _) (.cells #[.bool false, .bool false] 24))
  clear hp hm
  go_enter Try.func9, Try.ntmps9
  go_wp2_with fail
  refine (M.out _).mono ?_
  rintro e w0 ⟨rfl, hw0⟩
  rw [hw0] at Z Hw HB
  have c0 := Z.out.1
  have c1 := Z.out.2
  have gl : w.heap.size < w0.heap.size := by rw [Hw.out]; exact Nat.lt_succ_self _
  clear Z Hw hw0
  generalize hg : w.heap.size = g at *
  have Hg := Lib.hid hg
  clear hg
  have HO0 := Lib.hid (World.ownsRow_nil w0 w0.heap.size 5 1)
  have hb0 := Below.refl w0.heap.size w0
  go_wp2_with (first
    | (at_builtin; refine wpList_append_own _ rfl _ _ 38 rfl w0.heap.size 5 i0 (.int .u8 0) 1 1 Try.underlying38 hi hz0 hz1 hz2 rfl (by decide) (.slice none 0 0) (([] : List UInt8)).length (bytesV ([] : List UInt8)) rfl (HO0.out.alloc _) ⟨w0.heap.size, 0, none⟩ 2 2 (bytesV ([255, 3] : List UInt8)) rfl rfl (cells_new _ _ _) (bytesV_one _) (by unfold maxLen; simp <;> omega) (by simp <;> omega) (by have := hb0.size; simp <;> omega) ?_; intro v1 w1 hown hgr _; rw [← bytesV_append] at hown; have HO1 := Lib.hid hown; clear hown; have hb1 := (hb0.alloc hb0.size (.cells (bytesV ([255, 3] : List UInt8)).toArray 5)).grown hgr (by have := hb0.size; simp <;> omega) (fun q hq => (HO0.out.lt q hq).1); clear hgr; have hc1 := (hb1.cell (p := ⟨g, 1, none⟩) gl).trans c1)
    | (at_builtin; refine wpList_append_own _ rfl _ _ 38 rfl w0.heap.size 5 i0 (.int .u8 0) 1 1 Try.underlying38 hi hz0 hz1 hz2 rfl (by decide) v1 (([255, 3] : List UInt8)).length (bytesV ([255, 3] : List UInt8)) rfl (HO1.out.alloc _) ⟨w1.heap.size, 0, none⟩ 1 1 (bytesV [x]) rfl rfl (cells_new _ _ _) (bytesV_one _) (by unfold maxLen; simp <;> omega) (by simp <;> omega) (by have := hb1.size; simp <;> omega) ?_; intro v2 w2 hown hgr _; rw [← bytesV_append] at hown; have HO2 := Lib.hid hown; clear hown; have hb2 := (hb1.alloc hb1.size (.cells (bytesV [x]).toArray 5)).grown hgr (by have := hb1.size; simp <;> omega) (fun q hq => (HO1.out.lt q hq).1); clear hgr; have hc2 := (hb2.cell (p := ⟨g, 1, none⟩) gl).trans c1)
    | (at_builtin; refine wpList_append_own _ rfl _ _ 38 rfl w0.heap.size 5 i0 (.int .u8 0) 1 1 Try.underlying38 hi hz0 hz1 hz2 rfl (by decide) v2 ((([255, 3] : List UInt8) ++ [x])).length (bytesV (([255, 3] : List UInt8) ++ [x])) rfl (HO2.out.alloc _) ⟨w2.heap.size, 0, none⟩ 1 1 (bytesV [y]) rfl rfl (cells_new _ _ _) (bytesV_one _) (by unfold maxLen; simp <;> omega) (by simp <;> omega) (by have := hb2.size; simp <;> omega) ?_; intro v3 w3 hown hgr _; rw [← bytesV_append] at hown; have HO3 := Lib.hid hown; clear hown; have hb3 := (hb2.alloc hb2.size (.cells (bytesV [y]).toArray 5)).grown hgr (by have := hb2.size; simp <;> omega) (fun q hq => (HO2.out.lt q hq).1); clear hgr; have hc3 := (hb3.cell (p := ⟨g, 1, none⟩) gl).trans c1))
  have hcv := conv_own (P := Try.prog) (src := 38) (dst := 9) Try.underlying38 Try.underlying5 Try.underlying9 (n := ([255, 3, x, y]).length) (l := [255, 3, x, y]) HO3.out
  have hsz : (bOf ([255, 3, x, y])).size ≤ 8 := by rw [size_bOf]; simp
  rw [hcv]
  clear hcv
  go_wp2
  go_ret2
  rw [text_and]
  exact ⟨rfl, by rw [Hg.out]; exact HB.out.trans (hb3.mono (by omega))⟩
set_option maxHeartbeats 1000000 in
theorem rput_3 (p : Nat) (x y : UInt8) (s : ByteArray) (w : World) (hp : p < 65536) (hm : may p = true) (hs : s.size ≤ 1048576) (hx : (p : Int) / 256 = (x.toNat : Int)) (hy : (p : Int) % 256 = (y.toNat : Int)) (hl : ((p : Int) == 49185) = false) (hh : ((x.toNat : Int) != 0) = false) :
    Calls Try.prog 9 #[.int .u16 p, .string s, .agg #[.bool false, .bool true]] w fun e w' => e = .returned (.tuple #[.string (bOf ([255, 3, y] ++ s.toList)), .int .i64 0]) ∧ Below w.heap.size w w' := by
  obtain ⟨i0, hi, hz0, hz1, hz2⟩ := info_parts Try.info5
  have M := Lib.hid (fun w => rmay_any p w hp)
  rw [hm] at M
  have hp0 : (0 : Int) ≤ p := by omega
  have hp1 : (p : Int) ≤ 65535 := by omega
  have hx1 := lt256 x
  have hy1 := lt256 y
  have Z := Lib.hid (box_new w false true 24)
  have Hw := Lib.hid (World.size_alloc w (.cells #[.bool false, .bool true] 24))
  have HB := Lib.hid ((Below.refl w.heap.size w).alloc (Nat.le_refl _) (.cells #[.bool false, .bool true] 24))
  clear hp hm
  go_enter Try.func9, Try.ntmps9
  go_wp2_with fail
  refine (M.out _).mono ?_
  rintro e w0 ⟨rfl, hw0⟩
  rw [hw0] at Z Hw HB
  have c0 := Z.out.1
  have c1 := Z.out.2
  have gl : w.heap.size < w0.heap.size := by rw [Hw.out]; exact Nat.lt_succ_self _
  clear Z Hw hw0
  generalize hg : w.heap.size = g at *
  have Hg := Lib.hid hg
  clear hg
  have HO0 := Lib.hid (World.ownsRow_nil w0 w0.heap.size 5 1)
  have hb0 := Below.refl w0.heap.size w0
  go_wp2_with (first
    | (at_builtin; refine wpList_append_own _ rfl _ _ 38 rfl w0.heap.size 5 i0 (.int .u8 0) 1 1 Try.underlying38 hi hz0 hz1 hz2 rfl (by decide) (.slice none 0 0) (([] : List UInt8)).length (bytesV ([] : List UInt8)) rfl (HO0.out.alloc _) ⟨w0.heap.size, 0, none⟩ 2 2 (bytesV ([255, 3] : List UInt8)) rfl rfl (cells_new _ _ _) (bytesV_one _) (by unfold maxLen; simp <;> omega) (by simp <;> omega) (by have := hb0.size; simp <;> omega) ?_; intro v1 w1 hown hgr _; rw [← bytesV_append] at hown; have HO1 := Lib.hid hown; clear hown; have hb1 := (hb0.alloc hb0.size (.cells (bytesV ([255, 3] : List UInt8)).toArray 5)).grown hgr (by have := hb0.size; simp <;> omega) (fun q hq => (HO0.out.lt q hq).1); clear hgr; have hc1 := (hb1.cell (p := ⟨g, 1, none⟩) gl).trans c1)
    | (at_builtin; refine wpList_append_own _ rfl _ _ 38 rfl w0.heap.size 5 i0 (.int .u8 0) 1 1 Try.underlying38 hi hz0 hz1 hz2 rfl (by decide) v1 (([255, 3] : List UInt8)).length (bytesV ([255, 3] : List UInt8)) rfl (HO1.out.alloc _) ⟨w1.heap.size, 0, none⟩ 1 1 (bytesV [y]) rfl rfl (cells_new _ _ _) (bytesV_one _) (by unfold maxLen; simp <;> omega) (by simp <;> omega) (by have := hb1.size; simp <;> omega) ?_; intro v2 w2 hown hgr _; rw [← bytesV_append] at hown; have HO2 := Lib.hid hown; clear hown; have hb2 := (hb1.alloc hb1.size (.cells (bytesV [y]).toArray 5)).grown hgr (by have := hb1.size; simp <;> omega) (fun q hq => (HO1.out.lt q hq).1); clear hgr; have hc2 := (hb2.cell (p := ⟨g, 1, none⟩) gl).trans c1))
  have hcv := conv_own (P := Try.prog) (src := 38) (dst := 9) Try.underlying38 Try.underlying5 Try.underlying9 (n := ([255, 3, y]).length) (l := [255, 3, y]) HO2.out
  have hsz : (bOf ([255, 3, y])).size ≤ 8 := by rw [size_bOf]; simp
  rw [hcv]
  clear hcv
  go_wp2
  go_ret2
  rw [text_and]
  exact ⟨rfl, by rw [Hg.out]; exact HB.out.trans (hb2.mono (by omega))⟩
set_option maxHeartbeats 1000000 in
theorem rput_4 (p : Nat) (x y : UInt8) (s : ByteArray) (w : World) (hp : p < 65536) (hm : may p = true) (hs : s.size ≤ 1048576) (hx : (p : Int) / 256 = (x.toNat : Int)) (hy : (p : Int) % 256 = (y.toNat : Int)) (hl : ((p : Int) == 49185) = false) (hh : ((x.toNat : Int) != 0) = true) :
    Calls Try.prog 9 #[.int .u16 p, .string s, .agg #[.bool false, .bool true]] w fun e w' => e = .returned (.tuple #[.string (bOf ([255, 3, x, y] ++ s.toList)), .int .i64 0]) ∧ Below w.heap.size w w' := by
  obtain ⟨i0, hi, hz0, hz1, hz2⟩ := info_parts Try.info5
  have M := Lib.hid (fun w => rmay_any p w hp)
  rw [hm] at M
  have hp0 : (0 : Int) ≤ p := by omega
  have hp1 : (p : Int) ≤ 65535 := by omega
  have hx1 := lt256 x
  have hy1 := lt256 y
  have Z := Lib.hid (box_new w false true 24)
  have Hw := Lib.hid (World.size_alloc w (.cells #[.bool false, .bool true] 24))
  have HB := Lib.hid ((Below.refl w.heap.size w).alloc (Nat.le_refl _) (.cells #[.bool false, .bool true] 24))
  clear hp hm
  go_enter Try.func9, Try.ntmps9
  go_wp2_with fail
  refine (M.out _).mono ?_
  rintro e w0 ⟨rfl, hw0⟩
  rw [hw0] at Z Hw HB
  have c0 := Z.out.1
  have c1 := Z.out.2
  have gl : w.heap.size < w0.heap.size := by rw [Hw.out]; exact Nat.lt_succ_self _
  clear Z Hw hw0
  generalize hg : w.heap.size = g at *
  have Hg := Lib.hid hg
  clear hg
  have HO0 := Lib.hid (World.ownsRow_nil w0 w0.heap.size 5 1)
  have hb0 := Below.refl w0.heap.size w0
  go_wp2_with (first
    | (at_builtin; refine wpList_append_own _ rfl _ _ 38 rfl w0.heap.size 5 i0 (.int .u8 0) 1 1 Try.underlying38 hi hz0 hz1 hz2 rfl (by decide) (.slice none 0 0) (([] : List UInt8)).length (bytesV ([] : List UInt8)) rfl (HO0.out.alloc _) ⟨w0.heap.size, 0, none⟩ 2 2 (bytesV ([255, 3] : List UInt8)) rfl rfl (cells_new _ _ _) (bytesV_one _) (by unfold maxLen; simp <;> omega) (by simp <;> omega) (by have := hb0.size; simp <;> omega) ?_; intro v1 w1 hown hgr _; rw [← bytesV_append] at hown; have HO1 := Lib.hid hown; clear hown; have hb1 := (hb0.alloc hb0.size (.cells (bytesV ([255, 3] : List UInt8)).toArray 5)).grown hgr (by have := hb0.size; simp <;> omega) (fun q hq => (HO0.out.lt q hq).1); clear hgr; have hc1 := (hb1.cell (p := ⟨g, 1, none⟩) gl).trans c1)
    | (at_builtin; refine wpList_append_own _ rfl _ _ 38 rfl w0.heap.size 5 i0 (.int .u8 0) 1 1 Try.underlying38 hi hz0 hz1 hz2 rfl (by decide) v1 (([255, 3] : List UInt8)).length (bytesV ([255, 3] : List UInt8)) rfl (HO1.out.alloc _) ⟨w1.heap.size, 0, none⟩ 1 1 (bytesV [x]) rfl rfl (cells_new _ _ _) (bytesV_one _) (by unfold maxLen; simp <;> omega) (by simp <;> omega) (by have := hb1.size; simp <;> omega) ?_; intro v2 w2 hown hgr _; rw [← bytesV_append] at hown; have HO2 := Lib.hid hown; clear hown; have hb2 := (hb1.alloc hb1.size (.cells (bytesV [x]).toArray 5)).grown hgr (by have := hb1.size; simp <;> omega) (fun q hq => (HO1.out.lt q hq).1); clear hgr; have hc2 := (hb2.cell (p := ⟨g, 1, none⟩) gl).trans c1)
    | (at_builtin; refine wpList_append_own _ rfl _ _ 38 rfl w0.heap.size 5 i0 (.int .u8 0) 1 1 Try.underlying38 hi hz0 hz1 hz2 rfl (by decide) v2 ((([255, 3] : List UInt8) ++ [x])).length (bytesV (([255, 3] : List UInt8) ++ [x])) rfl (HO2.out.alloc _) ⟨w2.heap.size, 0, none⟩ 1 1 (bytesV [y]) rfl rfl (cells_new _ _ _) (bytesV_one _) (by unfold maxLen; simp <;> omega) (by simp <;> omega) (by have := hb2.size; simp <;> omega) ?_; intro v3 w3 hown hgr _; rw [← bytesV_append] at hown; have HO3 := Lib.hid hown; clear hown; have hb3 := (hb2.alloc hb2.size (.cells (bytesV [y]).toArray 5)).grown hgr (by have := hb2.size; simp <;> omega) (fun q hq => (HO2.out.lt q hq).1); clear hgr; have hc3 := (hb3.cell (p := ⟨g, 1, none⟩) gl).trans c1))
  have hcv := conv_own (P := Try.prog) (src := 38) (dst := 9) Try.underlying38 Try.underlying5 Try.underlying9 (n := ([255, 3, x, y]).length) (l := [255, 3, x, y]) HO3.out
  have hsz : (bOf ([255, 3, x, y])).size ≤ 8 := by rw [size_bOf]; simp
  rw [hcv]
  clear hcv
  go_wp2
  go_ret2
  rw [text_and]
  exact ⟨rfl, by rw [Hg.out]; exact HB.out.trans (hb3.mono (by omega))⟩
set_option maxHeartbeats 1000000 in
theorem rput_5 (p : Nat) (x y : UInt8) (s : ByteArray) (w : World) (hp : p < 65536) (hm : may p = true) (hs : s.size ≤ 1048576) (hx : (p : Int) / 256 = (x.toNat : Int)) (hy : (p : Int) % 256 = (y.toNat : Int)) (hl : ((p : Int) == 49185) = true) (hh : ((x.toNat : Int) != 0) = true) :
    Calls Try.prog 9 #[.int .u16 p, .string s, .agg #[.bool false, .bool true]] w fun e w' => e = .returned (.tuple #[.string (bOf ([255, 3, x, y] ++ s.toList)), .int .i64 0]) ∧ Below w.heap.size w w' := by
  obtain ⟨i0, hi, hz0, hz1, hz2⟩ := info_parts Try.info5
  have M := Lib.hid (fun w => rmay_any p w hp)
  rw [hm] at M
  have hp0 : (0 : Int) ≤ p := by omega
  have hp1 : (p : Int) ≤ 65535 := by omega
  have hx1 := lt256 x
  have hy1 := lt256 y
  have Z := Lib.hid (box_new w false true 24)
  have Hw := Lib.hid (World.size_alloc w (.cells #[.bool false, .bool true] 24))
  have HB := Lib.hid ((Below.refl w.heap.size w).alloc (Nat.le_refl _) (.cells #[.bool false, .bool true] 24))
  clear hp hm
  go_enter Try.func9, Try.ntmps9
  go_wp2_with fail
  refine (M.out _).mono ?_
  rintro e w0 ⟨rfl, hw0⟩
  rw [hw0] at Z Hw HB
  have c0 := Z.out.1
  have c1 := Z.out.2
  have gl : w.heap.size < w0.heap.size := by rw [Hw.out]; exact Nat.lt_succ_self _
  clear Z Hw hw0
  generalize hg : w.heap.size = g at *
  have Hg := Lib.hid hg
  clear hg
  have HO0 := Lib.hid (World.ownsRow_nil w0 w0.heap.size 5 1)
  have hb0 := Below.refl w0.heap.size w0
  go_wp2_with (first
    | (at_builtin; refine wpList_append_own _ rfl _ _ 38 rfl w0.heap.size 5 i0 (.int .u8 0) 1 1 Try.underlying38 hi hz0 hz1 hz2 rfl (by decide) (.slice none 0 0) (([] : List UInt8)).length (bytesV ([] : List UInt8)) rfl (HO0.out.alloc _) ⟨w0.heap.size, 0, none⟩ 2 2 (bytesV ([255, 3] : List UInt8)) rfl rfl (cells_new _ _ _) (bytesV_one _) (by unfold maxLen; simp <;> omega) (by simp <;> omega) (by have := hb0.size; simp <;> omega) ?_; intro v1 w1 hown hgr _; rw [← bytesV_append] at hown; have HO1 := Lib.hid hown; clear hown; have hb1 := (hb0.alloc hb0.size (.cells (bytesV ([255, 3] : List UInt8)).toArray 5)).grown hgr (by have := hb0.size; simp <;> omega) (fun q hq => (HO0.out.lt q hq).1); clear hgr; have hc1 := (hb1.cell (p := ⟨g, 1, none⟩) gl).trans c1)
    | (at_builtin; refine wpList_append_own _ rfl _ _ 38 rfl w0.heap.size 5 i0 (.int .u8 0) 1 1 Try.underlying38 hi hz0 hz1 hz2 rfl (by decide) v1 (([255, 3] : List UInt8)).length (bytesV ([255, 3] : List UInt8)) rfl (HO1.out.alloc _) ⟨w1.heap.size, 0, none⟩ 1 1 (bytesV [x]) rfl rfl (cells_new _ _ _) (bytesV_one _) (by unfold maxLen; simp <;> omega) (by simp <;> omega) (by have := hb1.size; simp <;> omega) ?_; intro v2 w2 hown hgr _; rw [← bytesV_append] at hown; have HO2 := Lib.hid hown; clear hown; have hb2 := (hb1.alloc hb1.size (.cells (bytesV [x]).toArray 5)).grown hgr (by have := hb1.size; simp <;> omega) (fun q hq => (HO1.out.lt q hq).1); clear hgr; have hc2 := (hb2.cell (p := ⟨g, 1, none⟩) gl).trans c1)
    | (at_builtin; refine wpList_append_own _ rfl _ _ 38 rfl w0.heap.size 5 i0 (.int .u8 0) 1 1 Try.underlying38 hi hz0 hz1 hz2 rfl (by decide) v2 ((([255, 3] : List UInt8) ++ [x])).length (bytesV (([255, 3] : List UInt8) ++ [x])) rfl (HO2.out.alloc _) ⟨w2.heap.size, 0, none⟩ 1 1 (bytesV [y]) rfl rfl (cells_new _ _ _) (bytesV_one _) (by unfold maxLen; simp <;> omega) (by simp <;> omega) (by have := hb2.size; simp <;> omega) ?_; intro v3 w3 hown hgr _; rw [← bytesV_append] at hown; have HO3 := Lib.hid hown; clear hown; have hb3 := (hb2.alloc hb2.size (.cells (bytesV [y]).toArray 5)).grown hgr (by have := hb2.size; simp <;> omega) (fun q hq => (HO2.out.lt q hq).1); clear hgr; have hc3 := (hb3.cell (p := ⟨g, 1, none⟩) gl).trans c1))
  have hcv := conv_own (P := Try.prog) (src := 38) (dst := 9) Try.underlying38 Try.underlying5 Try.underlying9 (n := ([255, 3, x, y]).length) (l := [255, 3, x, y]) HO3.out
  have hsz : (bOf ([255, 3, x, y])).size ≤ 8 := by rw [size_bOf]; simp
  rw [hcv]
  clear hcv
  go_wp2
  go_ret2
  rw [text_and]
  exact ⟨rfl, by rw [Hg.out]; exact HB.out.trans (hb3.mono (by omega))⟩
set_option maxHeartbeats 1000000 in
theorem rput_6 (p : Nat) (x y : UInt8) (s : ByteArray) (w : World) (hp : p < 65536) (hm : may p = true) (hs : s.size ≤ 1048576) (hx : (p : Int) / 256 = (x.toNat : Int)) (hy : (p : Int) % 256 = (y.toNat : Int)) (hl : ((p : Int) == 49185) = false) (hh : ((x.toNat : Int) != 0) = false) :
    Calls Try.prog 9 #[.int .u16 p, .string s, .agg #[.bool true, .bool false]] w fun e w' => e = .returned (.tuple #[.string (bOf ([x, y] ++ s.toList)), .int .i64 0]) ∧ Below w.heap.size w w' := by
  obtain ⟨i0, hi, hz0, hz1, hz2⟩ := info_parts Try.info5
  have M := Lib.hid (fun w => rmay_any p w hp)
  rw [hm] at M
  have hp0 : (0 : Int) ≤ p := by omega
  have hp1 : (p : Int) ≤ 65535 := by omega
  have hx1 := lt256 x
  have hy1 := lt256 y
  have Z := Lib.hid (box_new w true false 24)
  have Hw := Lib.hid (World.size_alloc w (.cells #[.bool true, .bool false] 24))
  have HB := Lib.hid ((Below.refl w.heap.size w).alloc (Nat.le_refl _) (.cells #[.bool true, .bool false] 24))
  clear hp hm
  go_enter Try.func9, Try.ntmps9
  go_wp2_with fail
  refine (M.out _).mono ?_
  rintro e w0 ⟨rfl, hw0⟩
  rw [hw0] at Z Hw HB
  have c0 := Z.out.1
  have c1 := Z.out.2
  have gl : w.heap.size < w0.heap.size := by rw [Hw.out]; exact Nat.lt_succ_self _
  clear Z Hw hw0
  generalize hg : w.heap.size = g at *
  have Hg := Lib.hid hg
  clear hg
  have HO0 := Lib.hid (World.ownsRow_nil w0 w0.heap.size 5 1)
  have hb0 := Below.refl w0.heap.size w0
  go_wp2_with (first
    | (at_builtin; refine wpList_append_own _ rfl _ _ 38 rfl w0.heap.size 5 i0 (.int .u8 0) 1 1 Try.underlying38 hi hz0 hz1 hz2 rfl (by decide) (.slice none 0 0) (([] : List UInt8)).length (bytesV ([] : List UInt8)) rfl (HO0.out.alloc _) ⟨w0.heap.size, 0, none⟩ 1 1 (bytesV [x]) rfl rfl (cells_new _ _ _) (bytesV_one _) (by unfold maxLen; simp <;> omega) (by simp <;> omega) (by have := hb0.size; simp <;> omega) ?_; intro v1 w1 hown hgr _; rw [← bytesV_append] at hown; have HO1 := Lib.hid hown; clear hown; have hb1 := (hb0.alloc hb0.size (.cells (bytesV [x]).toArray 5)).grown hgr (by have := hb0.size; simp <;> omega) (fun q hq => (HO0.out.lt q hq).1); clear hgr; have hc1 := (hb1.cell (p := ⟨g, 1, none⟩) gl).trans c1)
    | (at_builtin; refine wpList_append_own _ rfl _ _ 38 rfl w0.heap.size 5 i0 (.int .u8 0) 1 1 Try.underlying38 hi hz0 hz1 hz2 rfl (by decide) v1 ([x]).length (bytesV [x]) rfl (HO1.out.alloc _) ⟨w1.heap.size, 0, none⟩ 1 1 (bytesV [y]) rfl rfl (cells_new _ _ _) (bytesV_one _) (by unfold maxLen; simp <;> omega) (by simp <;> omega) (by have := hb1.size; simp <;> omega) ?_; intro v2 w2 hown hgr _; rw [← bytesV_append] at hown; have HO2 := Lib.hid hown; clear hown; have hb2 := (hb1.alloc hb1.size (.cells (bytesV [y]).toArray 5)).grown hgr (by have := hb1.size; simp <;> omega) (fun q hq => (HO1.out.lt q hq).1); clear hgr; have hc2 := (hb2.cell (p := ⟨g, 1, none⟩) gl).trans c1))
  have hcv := conv_own (P := Try.prog) (src := 38) (dst := 9) Try.underlying38 Try.underlying5 Try.underlying9 (n := ([x, y]).length) (l := [x, y]) HO2.out
  have hsz : (bOf ([x, y])).size ≤ 8 := by rw [size_bOf]; simp
  rw [hcv]
  clear hcv
  go_wp2
  go_ret2
  rw [text_and]
  exact ⟨rfl, by rw [Hg.out]; exact HB.out.trans (hb2.mono (by omega))⟩
set_option maxHeartbeats 1000000 in
theorem rput_7 (p : Nat) (x y : UInt8) (s : ByteArray) (w : World) (hp : p < 65536) (hm : may p = true) (hs : s.size ≤ 1048576) (hx : (p : Int) / 256 = (x.toNat : Int)) (hy : (p : Int) % 256 = (y.toNat : Int)) (hl : ((p : Int) == 49185) = false) (hh : ((x.toNat : Int) != 0) = true) :
    Calls Try.prog 9 #[.int .u16 p, .string s, .agg #[.bool true, .bool false]] w fun e w' => e = .returned (.tuple #[.string (bOf ([x, y] ++ s.toList)), .int .i64 0]) ∧ Below w.heap.size w w' := by
  obtain ⟨i0, hi, hz0, hz1, hz2⟩ := info_parts Try.info5
  have M := Lib.hid (fun w => rmay_any p w hp)
  rw [hm] at M
  have hp0 : (0 : Int) ≤ p := by omega
  have hp1 : (p : Int) ≤ 65535 := by omega
  have hx1 := lt256 x
  have hy1 := lt256 y
  have Z := Lib.hid (box_new w true false 24)
  have Hw := Lib.hid (World.size_alloc w (.cells #[.bool true, .bool false] 24))
  have HB := Lib.hid ((Below.refl w.heap.size w).alloc (Nat.le_refl _) (.cells #[.bool true, .bool false] 24))
  clear hp hm
  go_enter Try.func9, Try.ntmps9
  go_wp2_with fail
  refine (M.out _).mono ?_
  rintro e w0 ⟨rfl, hw0⟩
  rw [hw0] at Z Hw HB
  have c0 := Z.out.1
  have c1 := Z.out.2
  have gl : w.heap.size < w0.heap.size := by rw [Hw.out]; exact Nat.lt_succ_self _
  clear Z Hw hw0
  generalize hg : w.heap.size = g at *
  have Hg := Lib.hid hg
  clear hg
  have HO0 := Lib.hid (World.ownsRow_nil w0 w0.heap.size 5 1)
  have hb0 := Below.refl w0.heap.size w0
  go_wp2_with (first
    | (at_builtin; refine wpList_append_own _ rfl _ _ 38 rfl w0.heap.size 5 i0 (.int .u8 0) 1 1 Try.underlying38 hi hz0 hz1 hz2 rfl (by decide) (.slice none 0 0) (([] : List UInt8)).length (bytesV ([] : List UInt8)) rfl (HO0.out.alloc _) ⟨w0.heap.size, 0, none⟩ 1 1 (bytesV [x]) rfl rfl (cells_new _ _ _) (bytesV_one _) (by unfold maxLen; simp <;> omega) (by simp <;> omega) (by have := hb0.size; simp <;> omega) ?_; intro v1 w1 hown hgr _; rw [← bytesV_append] at hown; have HO1 := Lib.hid hown; clear hown; have hb1 := (hb0.alloc hb0.size (.cells (bytesV [x]).toArray 5)).grown hgr (by have := hb0.size; simp <;> omega) (fun q hq => (HO0.out.lt q hq).1); clear hgr; have hc1 := (hb1.cell (p := ⟨g, 1, none⟩) gl).trans c1)
    | (at_builtin; refine wpList_append_own _ rfl _ _ 38 rfl w0.heap.size 5 i0 (.int .u8 0) 1 1 Try.underlying38 hi hz0 hz1 hz2 rfl (by decide) v1 ([x]).length (bytesV [x]) rfl (HO1.out.alloc _) ⟨w1.heap.size, 0, none⟩ 1 1 (bytesV [y]) rfl rfl (cells_new _ _ _) (bytesV_one _) (by unfold maxLen; simp <;> omega) (by simp <;> omega) (by have := hb1.size; simp <;> omega) ?_; intro v2 w2 hown hgr _; rw [← bytesV_append] at hown; have HO2 := Lib.hid hown; clear hown; have hb2 := (hb1.alloc hb1.size (.cells (bytesV [y]).toArray 5)).grown hgr (by have := hb1.size; simp <;> omega) (fun q hq => (HO1.out.lt q hq).1); clear hgr; have hc2 := (hb2.cell (p := ⟨g, 1, none⟩) gl).trans c1))
  have hcv := conv_own (P := Try.prog) (src := 38) (dst := 9) Try.underlying38 Try.underlying5 Try.underlying9 (n := ([x, y]).length) (l := [x, y]) HO2.out
  have hsz : (bOf ([x, y])).size ≤ 8 := by rw [size_bOf]; simp
  rw [hcv]
  clear hcv
  go_wp2
  go_ret2
  rw [text_and]
  exact ⟨rfl, by rw [Hg.out]; exact HB.out.trans (hb2.mono (by omega))⟩
set_option maxHeartbeats 1000000 in
theorem rput_8 (p : Nat) (x y : UInt8) (s : ByteArray) (w : World) (hp : p < 65536) (hm : may p = true) (hs : s.size ≤ 1048576) (hx : (p : Int) / 256 = (x.toNat : Int)) (hy : (p : Int) % 256 = (y.toNat : Int)) (hl : ((p : Int) == 49185) = true) (hh : ((x.toNat : Int) != 0) = true) :
    Calls Try.prog 9 #[.int .u16 p, .string s, .agg #[.bool true, .bool false]] w fun e w' => e = .returned (.tuple #[.string (bOf ([255, 3, x, y] ++ s.toList)), .int .i64 0]) ∧ Below w.heap.size w w' := by
  obtain ⟨i0, hi, hz0, hz1, hz2⟩ := info_parts Try.info5
  have M := Lib.hid (fun w => rmay_any p w hp)
  rw [hm] at M
  have hp0 : (0 : Int) ≤ p := by omega
  have hp1 : (p : Int) ≤ 65535 := by omega
  have hx1 := lt256 x
  have hy1 := lt256 y
  have Z := Lib.hid (box_new w true false 24)
  have Hw := Lib.hid (World.size_alloc w (.cells #[.bool true, .bool false] 24))
  have HB := Lib.hid ((Below.refl w.heap.size w).alloc (Nat.le_refl _) (.cells #[.bool true, .bool false] 24))
  clear hp hm
  go_enter Try.func9, Try.ntmps9
  go_wp2_with fail
  refine (M.out _).mono ?_
  rintro e w0 ⟨rfl, hw0⟩
  rw [hw0] at Z Hw HB
  have c0 := Z.out.1
  have c1 := Z.out.2
  have gl : w.heap.size < w0.heap.size := by rw [Hw.out]; exact Nat.lt_succ_self _
  clear Z Hw hw0
  generalize hg : w.heap.size = g at *
  have Hg := Lib.hid hg
  clear hg
  have HO0 := Lib.hid (World.ownsRow_nil w0 w0.heap.size 5 1)
  have hb0 := Below.refl w0.heap.size w0
  go_wp2_with (first
    | (at_builtin; refine wpList_append_own _ rfl _ _ 38 rfl w0.heap.size 5 i0 (.int .u8 0) 1 1 Try.underlying38 hi hz0 hz1 hz2 rfl (by decide) (.slice none 0 0) (([] : List UInt8)).length (bytesV ([] : List UInt8)) rfl (HO0.out.alloc _) ⟨w0.heap.size, 0, none⟩ 2 2 (bytesV ([255, 3] : List UInt8)) rfl rfl (cells_new _ _ _) (bytesV_one _) (by unfold maxLen; simp <;> omega) (by simp <;> omega) (by have := hb0.size; simp <;> omega) ?_; intro v1 w1 hown hgr _; rw [← bytesV_append] at hown; have HO1 := Lib.hid hown; clear hown; have hb1 := (hb0.alloc hb0.size (.cells (bytesV ([255, 3] : List UInt8)).toArray 5)).grown hgr (by have := hb0.size; simp <;> omega) (fun q hq => (HO0.out.lt q hq).1); clear hgr; have hc1 := (hb1.cell (p := ⟨g, 1, none⟩) gl).trans c1)
    | (at_builtin; refine wpList_append_own _ rfl _ _ 38 rfl w0.heap.size 5 i0 (.int .u8 0) 1 1 Try.underlying38 hi hz0 hz1 hz2 rfl (by decide) v1 (([255, 3] : List UInt8)).length (bytesV ([255, 3] : List UInt8)) rfl (HO1.out.alloc _) ⟨w1.heap.size, 0, none⟩ 1 1 (bytesV [x]) rfl rfl (cells_new _ _ _) (bytesV_one _) (by unfold maxLen; simp <;> omega) (by simp <;> omega) (by have := hb1.size; simp <;> omega) ?_; intro v2 w2 hown hgr _; rw [← bytesV_append] at hown; have HO2 := Lib.hid hown; clear hown; have hb2 := (hb1.alloc hb1.size (.cells (bytesV [x]).toArray 5)).grown hgr (by have := hb1.size; simp <;> omega) (fun q hq => (HO1.out.lt q hq).1); clear hgr; have hc2 := (hb2.cell (p := ⟨g, 1, none⟩) gl).trans c1)
    | (at_builtin; refine wpList_append_own _ rfl _ _ 38 rfl w0.heap.size 5 i0 (.int .u8 0) 1 1 Try.underlying38 hi hz0 hz1 hz2 rfl (by decide) v2 ((([255, 3] : List UInt8) ++ [x])).length (bytesV (([255, 3] : List UInt8) ++ [x])) rfl (HO2.out.alloc _) ⟨w2.heap.size, 0, none⟩ 1 1 (bytesV [y]) rfl rfl (cells_new _ _ _) (bytesV_one _) (by unfold maxLen; simp <;> omega) (by simp <;> omega) (by have := hb2.size; simp <;> omega) ?_; intro v3 w3 hown hgr _; rw [← bytesV_append] at hown; have HO3 := Lib.hid hown; clear hown; have hb3 := (hb2.alloc hb2.size (.cells (bytesV [y]).toArray 5)).grown hgr (by have := hb2.size; simp <;> omega) (fun q hq => (HO2.out.lt q hq).1); clear hgr; have hc3 := (hb3.cell (p := ⟨g, 1, none⟩) gl).trans c1))
  have hcv := conv_own (P := Try.prog) (src := 38) (dst := 9) Try.underlying38 Try.underlying5 Try.underlying9 (n := ([255, 3, x, y]).length) (l := [255, 3, x, y]) HO3.out
  have hsz : (bOf ([255, 3, x, y])).size ≤ 8 := by rw [size_bOf]; simp
  rw [hcv]
  clear hcv
  go_wp2
  go_ret2
  rw [text_and]
  exact ⟨rfl, by rw [Hg.out]; exact HB.out.trans (hb3.mono (by omega))⟩
set_option maxHeartbeats 1000000 in
theorem rput_9 (p : Nat) (x y : UInt8) (s : ByteArray) (w : World) (hp : p < 65536) (hm : may p = true) (hs : s.size ≤ 1048576) (hx : (p : Int) / 256 = (x.toNat : Int)) (hy : (p : Int) % 256 = (y.toNat : Int)) (hl : ((p : Int) == 49185) = false) (hh : ((x.toNat : Int) != 0) = false) :
    Calls Try.prog 9 #[.int .u16 p, .string s, .agg #[.bool true, .bool true]] w fun e w' => e = .returned (.tuple #[.string (bOf ([y] ++ s.toList)), .int .i64 0]) ∧ Below w.heap.size w w' := by
  obtain ⟨i0, hi, hz0, hz1, hz2⟩ := info_parts Try.info5
  have M := Lib.hid (fun w => rmay_any p w hp)
  rw [hm] at M
  have hp0 : (0 : Int) ≤ p := by omega
  have hp1 : (p : Int) ≤ 65535 := by omega
  have hx1 := lt256 x
  have hy1 := lt256 y
  have Z := Lib.hid (box_new w true true 24)
  have Hw := Lib.hid (World.size_alloc w (.cells #[.bool true, .bool true] 24))
  have HB := Lib.hid ((Below.refl w.heap.size w).alloc (Nat.le_refl _) (.cells #[.bool true, .bool true] 24))
  clear hp hm
  go_enter Try.func9, Try.ntmps9
  go_wp2_with fail
  refine (M.out _).mono ?_
  rintro e w0 ⟨rfl, hw0⟩
  rw [hw0] at Z Hw HB
  have c0 := Z.out.1
  have c1 := Z.out.2
  have gl : w.heap.size < w0.heap.size := by rw [Hw.out]; exact Nat.lt_succ_self _
  clear Z Hw hw0
  generalize hg : w.heap.size = g at *
  have Hg := Lib.hid hg
  clear hg
  have HO0 := Lib.hid (World.ownsRow_nil w0 w0.heap.size 5 1)
  have hb0 := Below.refl w0.heap.size w0
  go_wp2_with (first
    | (at_builtin; refine wpList_append_own _ rfl _ _ 38 rfl w0.heap.size 5 i0 (.int .u8 0) 1 1 Try.underlying38 hi hz0 hz1 hz2 rfl (by decide) (.slice none 0 0) (([] : List UInt8)).length (bytesV ([] : List UInt8)) rfl (HO0.out.alloc _) ⟨w0.heap.size, 0, none⟩ 1 1 (bytesV [y]) rfl rfl (cells_new _ _ _) (bytesV_one _) (by unfold maxLen; simp <;> omega) (by simp <;> omega) (by have := hb0.size; simp <;> omega) ?_; intro v1 w1 hown hgr _; rw [← bytesV_append] at hown; have HO1 := Lib.hid hown; clear hown; have hb1 := (hb0.alloc hb0.size (.cells (bytesV [y]).toArray 5)).grown hgr (by have := hb0.size; simp <;> omega) (fun q hq => (HO0.out.lt q hq).1); clear hgr; have hc1 := (hb1.cell (p := ⟨g, 1, none⟩) gl).trans c1))
  have hcv := conv_own (P := Try.prog) (src := 38) (dst := 9) Try.underlying38 Try.underlying5 Try.underlying9 (n := ([y]).length) (l := [y]) HO1.out
  have hsz : (bOf ([y])).size ≤ 8 := by rw [size_bOf]; simp
  rw [hcv]
  clear hcv
  go_wp2
  go_ret2
  rw [text_and]
  exact ⟨rfl, by rw [Hg.out]; exact HB.out.trans (hb1.mono (by omega))⟩
set_option maxHeartbeats 1000000 in
theorem rput_10 (p : Nat) (x y : UInt8) (s : ByteArray) (w : World) (hp : p < 65536) (hm : may p = true) (hs : s.size ≤ 1048576) (hx : (p : Int) / 256 = (x.toNat : Int)) (hy : (p : Int) % 256 = (y.toNat : Int)) (hl : ((p : Int) == 49185) = false) (hh : ((x.toNat : Int) != 0) = true) :
    Calls Try.prog 9 #[.int .u16 p, .string s, .agg #[.bool true, .bool true]] w fun e w' => e = .returned (.tuple #[.string (bOf ([x, y] ++ s.toList)), .int .i64 0]) ∧ Below w.heap.size w w' := by
  obtain ⟨i0, hi, hz0, hz1, hz2⟩ := info_parts Try.info5
  have M := Lib.hid (fun w => rmay_any p w hp)
  rw [hm] at M
  have hp0 : (0 : Int) ≤ p := by omega
  have hp1 : (p : Int) ≤ 65535 := by omega
  have hx1 := lt256 x
  have hy1 := lt256 y
  have Z := Lib.hid (box_new w true true 24)
  have Hw := Lib.hid (World.size_alloc w (.cells #[.bool true, .bool true] 24))
  have HB := Lib.hid ((Below.refl w.heap.size w).alloc (Nat.le_refl _) (.cells #[.bool true, .bool true] 24))
  clear hp hm
  go_enter Try.func9, Try.ntmps9
  go_wp2_with fail
  refine (M.out _).mono ?_
  rintro e w0 ⟨rfl, hw0⟩
  rw [hw0] at Z Hw HB
  have c0 := Z.out.1
  have c1 := Z.out.2
  have gl : w.heap.size < w0.heap.size := by rw [Hw.out]; exact Nat.lt_succ_self _
  clear Z Hw hw0
  generalize hg : w.heap.size = g at *
  have Hg := Lib.hid hg
  clear hg
  have HO0 := Lib.hid (World.ownsRow_nil w0 w0.heap.size 5 1)
  have hb0 := Below.refl w0.heap.size w0
  go_wp2_with (first
    | (at_builtin; refine wpList_append_own _ rfl _ _ 38 rfl w0.heap.size 5 i0 (.int .u8 0) 1 1 Try.underlying38 hi hz0 hz1 hz2 rfl (by decide) (.slice none 0 0) (([] : List UInt8)).length (bytesV ([] : List UInt8)) rfl (HO0.out.alloc _) ⟨w0.heap.size, 0, none⟩ 1 1 (bytesV [x]) rfl rfl (cells_new _ _ _) (bytesV_one _) (by unfold maxLen; simp <;> omega) (by simp <;> omega) (by have := hb0.size; simp <;> omega) ?_; intro v1 w1 hown hgr _; rw [← bytesV_append] at hown; have HO1 := Lib.hid hown; clear hown; have hb1 := (hb0.alloc hb0.size (.cells (bytesV [x]).toArray 5)).grown hgr (by have := hb0.size; simp <;> omega) (fun q hq => (HO0.out.lt q hq).1); clear hgr; have hc1 := (hb1.cell (p := ⟨g, 1, none⟩) gl).trans c1)
    | (at_builtin; refine wpList_append_own _ rfl _ _ 38 rfl w0.heap.size 5 i0 (.int .u8 0) 1 1 Try.underlying38 hi hz0 hz1 hz2 rfl (by decide) v1 ([x]).length (bytesV [x]) rfl (HO1.out.alloc _) ⟨w1.heap.size, 0, none⟩ 1 1 (bytesV [y]) rfl rfl (cells_new _ _ _) (bytesV_one _) (by unfold maxLen; simp <;> omega) (by simp <;> omega) (by have := hb1.size; simp <;> omega) ?_; intro v2 w2 hown hgr _; rw [← bytesV_append] at hown; have HO2 := Lib.hid hown; clear hown; have hb2 := (hb1.alloc hb1.size (.cells (bytesV [y]).toArray 5)).grown hgr (by have := hb1.size; simp <;> omega) (fun q hq => (HO1.out.lt q hq).1); clear hgr; have hc2 := (hb2.cell (p := ⟨g, 1, none⟩) gl).trans c1))
  have hcv := conv_own (P := Try.prog) (src := 38) (dst := 9) Try.underlying38 Try.underlying5 Try.underlying9 (n := ([x, y]).length) (l := [x, y]) HO2.out
  have hsz : (bOf ([x, y])).size ≤ 8 := by rw [size_bOf]; simp
  rw [hcv]
  clear hcv
  go_wp2
  go_ret2
  rw [text_and]
  exact ⟨rfl, by rw [Hg.out]; exact HB.out.trans (hb2.mono (by omega))⟩
set_option maxHeartbeats 1000000 in
theorem rput_11 (p : Nat) (x y : UInt8) (s : ByteArray) (w : World) (hp : p < 65536) (hm : may p = true) (hs : s.size ≤ 1048576) (hx : (p : Int) / 256 = (x.toNat : Int)) (hy : (p : Int) % 256 = (y.toNat : Int)) (hl : ((p : Int) == 49185) = true) (hh : ((x.toNat : Int) != 0) = true) :
    Calls Try.prog 9 #[.int .u16 p, .string s, .agg #[.bool true, .bool true]] w fun e w' => e = .returned (.tuple #[.string (bOf ([255, 3, x, y] ++ s.toList)), .int .i64 0]) ∧ Below w.heap.size w w' := by
  obtain ⟨i0, hi, hz0, hz1, hz2⟩ := info_parts Try.info5
  have M := Lib.hid (fun w => rmay_any p w hp)
  rw [hm] at M
  have hp0 : (0 : Int) ≤ p := by omega
  have hp1 : (p : Int) ≤ 65535 := by omega
  have hx1 := lt256 x
  have hy1 := lt256 y
  have Z := Lib.hid (box_new w true true 24)
  have Hw := Lib.hid (World.size_alloc w (.cells #[.bool true, .bool true] 24))
  have HB := Lib.hid ((Below.refl w.heap.size w).alloc (Nat.le_refl _) (.cells #[.bool true, .bool true] 24))
  clear hp hm
  go_enter Try.func9, Try.ntmps9
  go_wp2_with fail
  refine (M.out _).mono ?_
  rintro e w0 ⟨rfl, hw0⟩
  rw [hw0] at Z Hw HB
  have c0 := Z.out.1
  have c1 := Z.out.2
  have gl : w.heap.size < w0.heap.size := by rw [Hw.out]; exact Nat.lt_succ_self _
  clear Z Hw hw0
  generalize hg : w.heap.size = g at *
  have Hg := Lib.hid hg
  clear hg
  have HO0 := Lib.hid (World.ownsRow_nil w0 w0.heap.size 5 1)
  have hb0 := Below.refl w0.heap.size w0
  go_wp2_with (first
    | (at_builtin; refine wpList_append_own _ rfl _ _ 38 rfl w0.heap.size 5 i0 (.int .u8 0) 1 1 Try.underlying38 hi hz0 hz1 hz2 rfl (by decide) (.slice none 0 0) (([] : List UInt8)).length (bytesV ([] : List UInt8)) rfl (HO0.out.alloc _) ⟨w0.heap.size, 0, none⟩ 2 2 (bytesV ([255, 3] : List UInt8)) rfl rfl (cells_new _ _ _) (bytesV_one _) (by unfold maxLen; simp <;> omega) (by simp <;> omega) (by have := hb0.size; simp <;> omega) ?_; intro v1 w1 hown hgr _; rw [← bytesV_append] at hown; have HO1 := Lib.hid hown; clear hown; have hb1 := (hb0.alloc hb0.size (.cells (bytesV ([255, 3] : List UInt8)).toArray 5)).grown hgr (by have := hb0.size; simp <;> omega) (fun q hq => (HO0.out.lt q hq).1); clear hgr; have hc1 := (hb1.cell (p := ⟨g, 1, none⟩) gl).trans c1)
    | (at_builtin; refine wpList_append_own _ rfl _ _ 38 rfl w0.heap.size 5 i0 (.int .u8 0) 1 1 Try.underlying38 hi hz0 hz1 hz2 rfl (by decide) v1 (([255, 3] : List UInt8)).length (bytesV ([255, 3] : List UInt8)) rfl (HO1.out.alloc _) ⟨w1.heap.size, 0, none⟩ 1 1 (bytesV [x]) rfl rfl (cells_new _ _ _) (bytesV_one _) (by unfold maxLen; simp <;> omega) (by simp <;> omega) (by have := hb1.size; simp <;> omega) ?_; intro v2 w2 hown hgr _; rw [← bytesV_append] at hown; have HO2 := Lib.hid hown; clear hown; have hb2 := (hb1.alloc hb1.size (.cells (bytesV [x]).toArray 5)).grown hgr (by have := hb1.size; simp <;> omega) (fun q hq => (HO1.out.lt q hq).1); clear hgr; have hc2 := (hb2.cell (p := ⟨g, 1, none⟩) gl).trans c1)
    | (at_builtin; refine wpList_append_own _ rfl _ _ 38 rfl w0.heap.size 5 i0 (.int .u8 0) 1 1 Try.underlying38 hi hz0 hz1 hz2 rfl (by decide) v2 ((([255, 3] : List UInt8) ++ [x])).length (bytesV (([255, 3] : List UInt8) ++ [x])) rfl (HO2.out.alloc _) ⟨w2.heap.size, 0, none⟩ 1 1 (bytesV [y]) rfl rfl (cells_new _ _ _) (bytesV_one _) (by unfold maxLen; simp <;> omega) (by simp <;> omega) (by have := hb2.size; simp <;> omega) ?_; intro v3 w3 hown hgr _; rw [← bytesV_append] at hown; have HO3 := Lib.hid hown; clear hown; have hb3 := (hb2.alloc hb2.size (.cells (bytesV [y]).toArray 5)).grown hgr (by have := hb2.size; simp <;> omega) (fun q hq => (HO2.out.lt q hq).1); clear hgr; have hc3 := (hb3.cell (p := ⟨g, 1, none⟩) gl).trans c1))
  have hcv := conv_own (P := Try.prog) (src := 38) (dst := 9) Try.underlying38 Try.underlying5 Try.underlying9 (n := ([255, 3, x, y]).length) (l := [255, 3, x, y]) HO3.out
  have hsz : (bOf ([255, 3, x, y])).size ≤ 8 := by rw [size_bOf]; simp
  rw [hcv]
  clear hcv
  go_wp2
  go_ret2
  rw [text_and]
  exact ⟨rfl, by rw [Hg.out]; exact HB.out.trans (hb3.mono (by omega))⟩
theorem heads_is (p : Nat) (a c : Bool) : heads p a c = (if a && p != 49185 then [] else [255, 3]) ++ ((if (c && p / 256 == 0) && p != 49185 then [] else [UInt8.ofNat (p / 256)]) ++ [UInt8.ofNat (p % 256)]) := rfl
/-- What Put answers. -/
def putA (p : Nat) (s : ByteArray) (a c : Bool) : ByteArray := if may p then bOf (heads p a c ++ s.toList) else bOf []
def putE (p : Nat) : Int := if may p then 0 else 2
set_option maxHeartbeats 1000000 in
theorem rput_no (p : Nat) (s : ByteArray) (a c : Bool) (w : World) (hp : p < 65536) (hm : may p = false) :
    Calls Try.prog 9 #[.int .u16 p, .string s, .agg #[.bool a, .bool c]] w fun e w' => e = .returned (.tuple #[.string (bOf []), .int .i64 2]) ∧ Below w.heap.size w w' := by
  have M := Lib.hid (fun w => rmay_any p w hp)
  rw [hm] at M
  clear hp hm
  go_enter Try.func9, Try.ntmps9
  go_wp2_with fail
  refine (M.out _).mono ?_
  rintro e w0 ⟨rfl, rfl⟩
  go_wp2
  go_ret2
  exact ⟨rfl, (Below.refl _ _).alloc (Nat.le_refl _) _⟩
theorem rput_any (p : Nat) (s : ByteArray) (a c : Bool) (w : World) (hp : p < 65536) (hs : s.size ≤ 1048576) :
    Calls Try.prog 9 #[.int .u16 p, .string s, .agg #[.bool a, .bool c]] w fun e w' => e = .returned (.tuple #[.string (putA p s a c), .int .i64 (putE p)]) ∧ Below w.heap.size w w' := by
  unfold putA putE
  cases hm : may p with
  | false => exact rput_no p s a c w hp hm
  | true =>
    have hx : (p : Int) / 256 = ((UInt8.ofNat (p / 256)).toNat : Int) := by rw [ofNat_toNat (by omega)]; omega
    have hy : (p : Int) % 256 = ((UInt8.ofNat (p % 256)).toNat : Int) := by rw [ofNat_toNat (by omega)]; omega
    have hl : ((p : Int) == 49185) = (p == 49185) := by rw [Bool.eq_iff_iff]; simp; omega
    have hl2 : (p != 49185) = !(p == 49185) := rfl
    have hh : (((UInt8.ofNat (p / 256)).toNat : Int) != 0) = !(p / 256 == 0) := by rw [ofNat_toNat (by omega), Bool.eq_iff_iff]; simp; omega
    have hno : ¬ ((p == 49185) = true ∧ (p / 256 == 0) = true) := by simp; omega
    rw [if_pos rfl, if_pos rfl, heads_is, hl2]
    generalize (p == 49185) = L at *
    generalize (p / 256 == 0) = I at *
    cases a <;> cases c <;> cases L <;> cases I <;> first | exact absurd ⟨rfl, rfl⟩ hno | skip
    · exact rput_1 p _ _ s w hp hm hs hx hy hl hh
    · exact rput_0 p _ _ s w hp hm hs hx hy hl hh
    · exact rput_2 p _ _ s w hp hm hs hx hy hl hh
    · exact rput_4 p _ _ s w hp hm hs hx hy hl hh
    · exact rput_3 p _ _ s w hp hm hs hx hy hl hh
    · exact rput_5 p _ _ s w hp hm hs hx hy hl hh
    · exact rput_7 p _ _ s w hp hm hs hx hy hl hh
    · exact rput_6 p _ _ s w hp hm hs hx hy hl hh
    · exact rput_8 p _ _ s w hp hm hs hx hy hl hh
    · exact rput_10 p _ _ s w hp hm hs hx hy hl hh
    · exact rput_9 p _ _ s w hp hm hs hx hy hl hh
    · exact rput_11 p _ _ s w hp hm hs hx hy hl hh
end Go.Proofs.Ytppkmfkjghnkeaa.Fld
