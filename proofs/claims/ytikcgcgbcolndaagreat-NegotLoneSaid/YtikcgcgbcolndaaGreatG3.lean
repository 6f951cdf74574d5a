/- Put together: FsmRows, FsmD, FsmE, FsmAct, FsmSt, FsmNy. -/
import Derived.Test.YtikcgcgbcolndaaGreatG2
import Derived.Deep.Cut
import Derived.Deep.WholeRow
import Derived.BigQuiet
import Derived.Test.YtikcgcgbcolndaaGreatG1
import Derived.OpenShut

/- The rows of the table, as the program's text lays them (by gen/fsm_rows.py); the table as a function. Of no program. -/
namespace Go.Proofs.YtikcgcgbcolndaaGreat.Fsm

def idle0 : Nat × List Cl := (0, [⟨0, 2, true⟩, ⟨80, 6, true⟩, no, no, no, no])
def idle1 : List (Nat × List Cl) := [
  (1, [no, no, ⟨0, 0, true⟩, ⟨4, 1, true⟩, ⟨0, 0, true⟩, ⟨0, 1, true⟩]),
  (2, [⟨4, 1, true⟩, ⟨0, 1, true⟩, ⟨80, 6, true⟩, ⟨0, 3, true⟩, ⟨0, 5, true⟩, ⟨0, 5, true⟩]),
  (3, [⟨0, 0, true⟩, ⟨8, 0, true⟩, ⟨0, 2, true⟩, ⟨0, 2, true⟩, ⟨0, 4, true⟩, ⟨0, 4, true⟩]),
  (4, [no, no, no, no, ⟨512, 4, true⟩, ⟨512, 5, true⟩]),
  (5, [no, no, no, no, ⟨8, 2, true⟩, ⟨8, 3, true⟩]),
  (6, [no, no, ⟨1024, 2, true⟩, ⟨208, 8, true⟩, ⟨0, 4, true⟩, ⟨0, 5, true⟩]),
  (7, [no, no, ⟨1024, 2, true⟩, ⟨336, 6, true⟩, ⟨0, 4, true⟩, ⟨0, 5, true⟩]),
  (8, [no, no, ⟨1024, 2, true⟩, ⟨1024, 3, true⟩, ⟨0, 4, true⟩, ⟨0, 5, true⟩]),
  (9, [no, no, ⟨1024, 2, true⟩, ⟨1024, 3, true⟩, ⟨0, 4, true⟩, ⟨0, 5, true⟩]),
  (10, [no, no, ⟨1024, 2, true⟩, ⟨1024, 3, true⟩, ⟨1024, 4, true⟩, ⟨1024, 5, true⟩]),
  (11, [no, no, ⟨0, 2, true⟩, ⟨0, 3, true⟩, ⟨8, 2, true⟩, ⟨8, 3, true⟩]),
  (12, [no, no, ⟨2048, 2, true⟩, ⟨2048, 3, true⟩, ⟨2048, 4, true⟩, ⟨2048, 5, true⟩]),
  (13, [no, no, ⟨0, 2, true⟩, ⟨0, 3, true⟩, ⟨0, 4, true⟩, ⟨0, 5, true⟩]),
  (14, [no, no, ⟨8, 2, true⟩, ⟨8, 3, true⟩, ⟨8, 2, true⟩, ⟨8, 3, true⟩]),
  (15, [no, no, ⟨0, 2, true⟩, ⟨0, 3, true⟩, ⟨0, 4, true⟩, ⟨0, 5, true⟩])]
def busy0 : Nat × List Cl := (0, [no, no, no, no])
def busy1 : List (Nat × List Cl) := [
  (1, [⟨0, 1, true⟩, ⟨0, 1, true⟩, ⟨0, 1, true⟩, ⟨2, 1, true⟩]),
  (2, [⟨0, 6, true⟩, ⟨0, 7, true⟩, ⟨0, 8, true⟩, ⟨0, 9, true⟩]),
  (3, [⟨528, 4, true⟩, ⟨528, 4, true⟩, ⟨528, 4, true⟩, ⟨530, 4, true⟩]),
  (4, [⟨64, 6, true⟩, ⟨64, 6, true⟩, ⟨64, 8, true⟩, no]),
  (5, [⟨8, 3, true⟩, ⟨8, 3, true⟩, ⟨8, 3, true⟩, no]),
  (6, [⟨128, 8, true⟩, ⟨129, 9, true⟩, ⟨128, 8, true⟩, ⟨194, 8, true⟩]),
  (7, [⟨256, 6, true⟩, ⟨256, 7, true⟩, ⟨256, 6, true⟩, ⟨322, 6, true⟩]),
  (8, [⟨16, 7, true⟩, ⟨64, 6, true⟩, ⟨17, 9, true⟩, ⟨66, 6, true⟩]),
  (9, [⟨80, 6, true⟩, ⟨64, 6, true⟩, ⟨80, 8, true⟩, ⟨66, 6, true⟩]),
  (10, [⟨1024, 6, true⟩, ⟨1024, 6, true⟩, ⟨1024, 6, true⟩, ⟨1058, 5, true⟩]),
  (11, [⟨0, 6, true⟩, ⟨0, 6, true⟩, ⟨0, 8, true⟩, ⟨66, 6, true⟩]),
  (12, [⟨2048, 6, true⟩, ⟨2048, 7, true⟩, ⟨2048, 8, true⟩, ⟨2048, 9, true⟩]),
  (13, [⟨0, 6, true⟩, ⟨0, 6, true⟩, ⟨0, 8, true⟩, ⟨0, 9, true⟩]),
  (14, [⟨8, 3, true⟩, ⟨8, 3, true⟩, ⟨8, 3, true⟩, ⟨530, 5, true⟩]),
  (15, [⟨0, 6, true⟩, ⟨0, 7, true⟩, ⟨0, 8, true⟩, ⟨4096, 9, true⟩])]
/-- The whole table. -/
def tbl : List Cl := lays 6 (lays 0 (List.replicate 160 no) (idle0 :: idle1)) (busy0 :: busy1)
theorem tbl_length : tbl.length = 160 := by decide +kernel
/-- The cell of an event and a state. -/
def at_ (e s : Nat) : Cl := tbl.getD (e * 10 + s) no
theorem tbl_at (e s : Nat) (he : e < 16) (hs : s < 10) : tbl[e * 10 + s]? = some (at_ e s) := by
  unfold at_
  rw [List.getD_eq_getElem?_getD, List.getElem?_eq_getElem (by rw [tbl_length]; omega)]
  rfl
end Go.Proofs.YtikcgcgbcolndaaGreat.Fsm

/- Contracts of package fsm's layIdle, layBusy, automaton. -/
namespace Go.Proofs.YtikcgcgbcolndaaGreat.Fsm
open Go.RowKit Go.Proofs.YtikcgcgbcolndaaGreat.Oct Go.Proofs.YtikcgcgbcolndaaGreat.Row Go.Proofs.YtikcgcgbcolndaaGreat.Mem

theorem row_idle (b p z : Nat) : RowCall ⟨105, 0, b, p, z⟩ :=
  ⟨fun args w => by go_simp, fun g e t l w hk hl he hf h0 => idle_row b p g e t l w hk.tab (hk.box.at_ 0) hl he (by simpa using hf) h0⟩
theorem row_busy (b p z : Nat) : RowCall ⟨108, 6, b, p, z⟩ :=
  ⟨fun args w => by go_simp, fun g e t l w hk hl he hf h0 => busy_row b p g e t l w hk.tab (hk.box.at_ 0) hl he hf h0⟩
theorem known_new (c : Nat → Nat → Ctx) (b : Nat) (t : List Cl) (w : World) (ht : Tab w b t) (hc : ∀ p z, (c p z).b = b ∧ (c p z).p = p ∧ (c p z).z = z) :
    Known (c w.heap.size (w.heap.size + 1)) t ((w.alloc (.cells #[.pointer (some ⟨b, 0, none⟩)] 193)).alloc (.cells #[.int .u16 0, .int .u8 0, .bool false] 153)) := by
  obtain ⟨e1, e2, e3⟩ := hc w.heap.size (w.heap.size + 1)
  have hlt := ht.1.lt
  refine ⟨?_, ?_, ?_, by rw [e1, e2]; omega, by rw [e1, e3]; omega⟩
  · rw [e1]; exact ⟨(ht.1.alloc _).alloc _, ht.2⟩
  · rw [e1, e2]; exact (blk_new w [.pointer (some ⟨b, 0, none⟩)] 193).alloc _
  · rw [e3]
    have := blk_new (w.alloc (.cells #[.pointer (some ⟨b, 0, none⟩)] 193)) no.cells 153
    rw [World.size_alloc] at this
    exact this
theorem moves_two (b : Nat) (w : World) (o o' : Obj) : Moves (fun k => k = b) w ((w.alloc o).alloc o') := ((Moves.refl _ w).alloc o).alloc o'

set_option maxHeartbeats 4000000 in
set_option maxRecDepth 100000 in
theorem idle_any (b : Nat) (t : List Cl) (w : World) (ht : Tab w b t) :
    Calls Tryz.prog 84 #[.pointer (some ⟨b, 0, none⟩)] w fun x w' => x = .returned (.tuple #[]) ∧ Tab w' b (lays 0 t (idle0 :: idle1)) ∧ Moves (fun k => k = b) w w' := by
  have HT := Lib.hid ht
  have HK := Lib.hid (known_new (fun p z => ⟨105, 0, b, p, z⟩) b t w ht (fun _ _ => ⟨rfl, rfl, rfl⟩))
  have HM := Lib.hid (moves_two b w (.cells #[.pointer (some ⟨b, 0, none⟩)] 193) (.cells #[.int .u16 0, .int .u8 0, .bool false] 153))
  clear ht
  go_enter Tryz.func84, Tryz.ntmps84
  go_upto_region 3 with (fail)
  rename_i Q K hK
  refine Go.wp_mono (region_ok (N := 180) (e := idle0.1) (cs := idle0.2) (by show rowOf 0 180 _ = some idle0; decide +kernel) (row_idle b w.heap.size (w.heap.size + 1)) ⟨rfl, rfl, rfl, rfl⟩ HK.out (by kernel_rfl)) ?_
  rintro x a1 w1 ⟨rfl, h1, h2, h3⟩
  refine hK _ _ ?_
  refine Go.wp_mono (code_ok (row_idle b w.heap.size (w.heap.size + 1)) (by kernel_rfl) _ idle1 (by show rowsOf 0 180 _ = some idle1; decide +kernel) _ a1 w1 h1 h2) ?_
  rintro x a2 w2 ⟨rfl, k1, k2, k3⟩
  refine bodyPost_end (results_none rfl _ _ _) k1.2.2.2 ?_
  rw [lays_cons]
  exact ⟨rfl, k2.tab, (HM.out.trans h3 (fun _ _ h => h)).trans k3 (fun _ _ h => h)⟩

set_option maxHeartbeats 4000000 in
set_option maxRecDepth 100000 in
theorem busy_any (b : Nat) (t : List Cl) (w : World) (ht : Tab w b t) :
    Calls Tryz.prog 85 #[.pointer (some ⟨b, 0, none⟩)] w fun x w' => x = .returned (.tuple #[]) ∧ Tab w' b (lays 6 t (busy0 :: busy1)) ∧ Moves (fun k => k = b) w w' := by
  have HT := Lib.hid ht
  have HK := Lib.hid (known_new (fun p z => ⟨108, 6, b, p, z⟩) b t w ht (fun _ _ => ⟨rfl, rfl, rfl⟩))
  have HM := Lib.hid (moves_two b w (.cells #[.pointer (some ⟨b, 0, none⟩)] 193) (.cells #[.int .u16 0, .int .u8 0, .bool false] 153))
  clear ht
  go_enter Tryz.func85, Tryz.ntmps85
  go_upto_region 3 with (fail)
  rename_i Q K hK
  refine Go.wp_mono (region_ok (N := 158) (e := busy0.1) (cs := busy0.2) (by show rowOf 6 158 _ = some busy0; decide +kernel) (row_busy b w.heap.size (w.heap.size + 1)) ⟨rfl, rfl, rfl, rfl⟩ HK.out (by kernel_rfl)) ?_
  rintro x a1 w1 ⟨rfl, h1, h2, h3⟩
  refine hK _ _ ?_
  refine Go.wp_mono (code_ok (row_busy b w.heap.size (w.heap.size + 1)) (by kernel_rfl) _ busy1 (by show rowsOf 6 158 _ = some busy1; decide +kernel) _ a1 w1 h1 h2) ?_
  rintro x a2 w2 ⟨rfl, k1, k2, k3⟩
  refine bodyPost_end (results_none rfl _ _ _) k1.2.2.2 ?_
  rw [lays_cons]
  exact ⟨rfl, k2.tab, (HM.out.trans h3 (fun _ _ h => h)).trans k3 (fun _ _ h => h)⟩
end Go.Proofs.YtikcgcgbcolndaaGreat.Fsm

/- Contracts of package fsm's automaton and Next. -/
namespace Go.Proofs.YtikcgcgbcolndaaGreat.Fsm
open Go.RowKit Go.Proofs.YtikcgcgbcolndaaGreat.Oct Go.Proofs.YtikcgcgbcolndaaGreat.Row Go.Proofs.YtikcgcgbcolndaaGreat.Mem

def zeros : Array Value := (flat (List.replicate 160 no)).toArray
set_option maxRecDepth 100000 in
theorem info_table : (Tryz.prog.info? 156).map (fun i => (i.zero, i.size)) = some (some (.agg zeros), 480) := by kernel_rfl
set_option maxRecDepth 100000 in
theorem size_table : (Tryz.prog.info? 156).map (·.size) = some 480 := by kernel_rfl
theorem zero_table (w : World) : (zeroValue 156).run Tryz.prog w = .ok (.agg zeros) w := (zero_of_info info_table).1 w
theorem flat_tbl : (flat tbl).length = 480 := by rw [flat_length, tbl_length]
theorem zeros_size : zeros.size = 480 := by decide +kernel
theorem two_new (w : World) (o o' : Obj) : ((w.alloc o).alloc o').heap[w.heap.size]? = some o ∧ ((w.alloc o).alloc o').heap[w.heap.size + 1]? = some o' := by
  have h := World.alloc_heap_new (w.alloc o) o'
  rw [World.size_alloc] at h
  exact ⟨(Below.heap_alloc (w.alloc o) o' w.heap.size (by rw [World.size_alloc]; exact Nat.lt_succ_self _)).trans (World.alloc_heap_new w o), h⟩
theorem all_toArray (l : List Value) (h : ∀ v ∈ l, v.oneCell' = true) : l.toArray.all (·.oneCell') = true := by
  rw [Array.all_eq_true_iff_forall_mem]
  intro v hv
  exact h v (by simpa using hv)

set_option maxHeartbeats 1000000 in
set_option maxRecDepth 100000 in
theorem auto_any (w : World) :
    Calls Tryz.prog 64 #[] w fun x w' => x = .returned (.agg (flat tbl).toArray) ∧ Below w.heap.size w w' := by
  obtain ⟨Z, hZ⟩ : ∃ Z, Z = zeros := ⟨_, rfl⟩
  have hz : ∀ w, (zeroValue 156).run Tryz.prog w = .ok (.agg Z) w := by rw [hZ]; exact zero_table
  have HZ := Lib.hid hZ
  clear hZ
  have H2 := Lib.hid (two_new w (.cells Z 156) (.cells Z 156))
  have HB := Lib.hid (((Below.refl w.heap.size w).alloc (Nat.le_refl _) (.cells Z 156)).alloc (by rw [World.size_alloc]; exact Nat.le_succ _) (.cells Z 156))
  go_enter Tryz.func64, Tryz.ntmps64
  go_wp2_with fail
  generalize hW : (w.alloc (.cells Z 156)).alloc (.cells Z 156) = W at *
  have HT : Hid (Tab W (w.heap.size + 1) (List.replicate 160 no)) := by
    refine ⟨?_, List.length_replicate⟩
    have := H2.out.2
    rw [HZ.out] at this
    exact this
  clear hW
  refine (idle_any _ _ _ HT.out).mono ?_
  rintro x w1 ⟨rfl, h1, h2⟩
  have HT1 := Lib.hid h1
  have HM1 := Lib.hid h2
  clear h1 h2 HT
  go_wp2_with fail
  refine (busy_any _ _ _ HT1.out).mono ?_
  rintro x w2 ⟨rfl, h1, h2⟩
  have HT2 : Hid (Tab w2 (w.heap.size + 1) tbl) := by unfold tbl; exact h1
  have HM2 := Lib.hid (HM1.out.trans h2 (fun _ _ h => h))
  clear h1 h2 HT1 HM1
  have HG : Hid (w2.heap[w.heap.size]? = some (.cells Z 156 (0, 0))) := (HM2.out.block w.heap.size (by have := (Array.getElem?_eq_some_iff.1 H2.out.1).1; exact this) (by omega)).trans H2.out.1
  have HB2 : Hid (Below w.heap.size w w2) := HB.out.trans (HM2.out.below HB.out.size (fun k hk => by omega))
  clear H2 HB HM2 hz
  have HZs : Hid (Z.size = 480) := by show _ = _; rw [HZ.out]; exact zeros_size
  go_wp2_with (first
    | (refine wpList_load_mid rfl 156 (.tmp 1) rfl (w.heap.size + 1) 0 rfl (flat tbl) _ HT2.out.1.range Tryz.underlying156 rfl (by rw [flat_tbl]; exact size_table) ?_)
    | (refine wpList_store_row rfl 156 _ _ rfl w.heap.size (flat tbl).toArray rfl rfl 156 Z HG.out (by rw [List.size_toArray, flat_tbl]; exact size_table) (by rw [HZs.out, List.size_toArray, flat_tbl]) (all_toArray _ (flat_one tbl)) ?_))
  have HR := setRow_heap w2 w.heap.size _ (flat tbl).toArray 156 (0, 0) HG.out
  refine bodyPost_ret (results_cell_row rfl _ _ w.heap.size _ (flat tbl).toArray (0, 0) _ rfl HR Tryz.underlying156 rfl (by rw [List.size_toArray, flat_tbl]; exact size_table)) rfl ?_
  exact ⟨rfl, HB2.out.trans ((moves_row w2 w.heap.size _).below HB2.out.size (fun k hk => by omega))⟩

/-- What Next answers. -/
def nE (s e : Nat) : Nat := if 10 ≤ s ∨ 16 ≤ e then 2 else if (at_ e s).c then 0 else 120
def nA (s e : Nat) : Nat := if 10 ≤ s ∨ 16 ≤ e then 0 else if (at_ e s).c then (at_ e s).a else 0
def nN (s e : Nat) : Nat := if 10 ≤ s ∨ 16 ≤ e then 0 else if (at_ e s).c then (at_ e s).n else 0
def nR (s e : Nat) : Value := .tuple #[.int .u16 (nA s e), .int .u8 (nN s e), .int .i64 (nE s e)]

set_option maxHeartbeats 1000000 in
set_option maxRecDepth 100000 in
theorem next_bad (s e : Nat) (w : World) (hb : 10 ≤ s ∨ 16 ≤ e) :
    Calls Tryz.prog 51 #[.int .u8 s, .int .u8 e] w fun x w' => x = .returned (.tuple #[.int .u16 0, .int .u8 0, .int .i64 2]) ∧ Below w.heap.size w w' := by
  by_cases h : 10 ≤ s
  · have h1 : (10 : Int) ≤ (s : Int) := by omega
    clear hb h
    go_enter Tryz.func51, Tryz.ntmps51
    go_wp2
    go_ret3
    exact ⟨rfl, Below.refl _ _⟩
  · have h1 : (s : Int) < 10 := by omega
    have h2 : (16 : Int) ≤ (e : Int) := by omega
    clear hb h
    go_enter Tryz.func51, Tryz.ntmps51
    go_wp2
    go_ret3
    exact ⟨rfl, Below.refl _ _⟩
set_option maxHeartbeats 1000000 in
set_option maxRecDepth 100000 in
theorem next_no (s e xa xn : Nat) (w : World) (hs : s < 10) (he : e < 16) (hx : tbl[e * 10 + s]? = some ⟨xa, xn, false⟩) :
    Calls Tryz.prog 51 #[.int .u8 s, .int .u8 e] w fun x w' => x = .returned (.tuple #[.int .u16 0, .int .u8 0, .int .i64 120]) ∧ Below w.heap.size w w' := by
  obtain ⟨Z, hZ⟩ : ∃ Z, Z = zeros := ⟨_, rfl⟩
  have hz : ∀ w, (zeroValue 156).run Tryz.prog w = .ok (.agg Z) w := by rw [hZ]; exact zero_table
  have HZs : Hid (Z.size = 480) := by show _ = _; rw [hZ]; exact zeros_size
  clear hZ
  have HA := Lib.hid (fun w => auto_any w)
  have HX0 := Lib.hid hx
  clear hx
  have h1 : (s : Int) < 10 := by omega
  have h2 : (e : Int) < 16 := by omega
  have h3 : (0 : Int) ≤ s := Int.natCast_nonneg s
  have h4 : (0 : Int) ≤ e := Int.natCast_nonneg e
  go_enter Tryz.func51, Tryz.ntmps51
  go_wp2_with fail
  refine (HA.out _).mono ?_
  rintro x w1 ⟨rfl, hb1⟩
  have HB1 := Lib.hid hb1
  clear hb1
  have HG : Hid ((w1.alloc (.cells Z 156)).heap[w1.heap.size]? = some (.cells Z 156 (0, 0))) := World.alloc_heap_new w1 _
  obtain ⟨T, hT⟩ : ∃ T, T = flat tbl := ⟨_, rfl⟩
  have HTs : Hid (T.length = 480 ∧ ∀ v ∈ T, v.oneCell' = true) := by rw [hT]; exact ⟨flat_tbl, flat_one tbl⟩
  rw [← hT]
  obtain ⟨W, hW, HB⟩ : ∃ W, (w1.alloc (.cells Z 156)).setRow w1.heap.size T.toArray = W ∧ Hid (Blk W w1.heap.size T 156 ∧ Below w1.heap.size w1 W) :=
    ⟨_, rfl, setRow_heap _ w1.heap.size _ T.toArray 156 (0, 0) HG.out, ((Below.refl w1.heap.size w1).alloc (Nat.le_refl _) _).trans ((moves_row (w1.alloc (.cells Z 156)) w1.heap.size T.toArray).below (by rw [World.size_alloc]; exact Nat.le_succ _) (fun k hk => by omega))⟩
  have HX := flat_at tbl (e * 10 + s)
  rw [HX0.out, show (e * 10 + s) * 3 = e * 30 + s * 3 by omega, ← hT] at HX
  have c0 : W.cell? ⟨w1.heap.size, e * 30 + s * 3, none⟩ = some (.int .u16 xa) := (HB.out.1.at_ _).trans HX.1
  have c1 : W.cell? ⟨w1.heap.size, e * 30 + s * 3 + 1, none⟩ = some (.int .u8 xn) := (HB.out.1.at_ _).trans HX.2.1
  have c2 : W.cell? ⟨w1.heap.size, e * 30 + s * 3 + 2, none⟩ = some (.bool false) := (HB.out.1.at_ _).trans HX.2.2
  have HBB : Hid (Below w.heap.size w W) := HB1.out.trans (HB.out.2.mono HB1.out.size)
  clear hT HX HB1 HA
  have HC2 : Hid (Below w.heap.size w (W.alloc (.cells #[.int .u16 xa, .int .u8 xn, .bool false] 153))) := HBB.out.alloc HBB.out.size _
  go_wp2_with (first
      | (refine wpList_store_row rfl 156 _ _ rfl w1.heap.size T.toArray rfl rfl 156 Z HG.out (by rw [List.size_toArray, HTs.out.1]; exact size_table) (by rw [HZs.out, List.size_toArray, HTs.out.1]) (all_toArray _ HTs.out.2) ?_; rw [hW]))
  go_ret3
  exact ⟨rfl, HC2.out⟩
set_option maxHeartbeats 1000000 in
set_option maxRecDepth 100000 in
theorem next_yes (s e xa xn : Nat) (w : World) (hs : s < 10) (he : e < 16) (hx : tbl[e * 10 + s]? = some ⟨xa, xn, true⟩) :
    Calls Tryz.prog 51 #[.int .u8 s, .int .u8 e] w fun x w' => x = .returned (.tuple #[.int .u16 xa, .int .u8 xn, .int .i64 0]) ∧ Below w.heap.size w w' := by
  obtain ⟨Z, hZ⟩ : ∃ Z, Z = zeros := ⟨_, rfl⟩
  have hz : ∀ w, (zeroValue 156).run Tryz.prog w = .ok (.agg Z) w := by rw [hZ]; exact zero_table
  have HZs : Hid (Z.size = 480) := by show _ = _; rw [hZ]; exact zeros_size
  clear hZ
  have HA := Lib.hid (fun w => auto_any w)
  have HX0 := Lib.hid hx
  clear hx
  have h1 : (s : Int) < 10 := by omega
  have h2 : (e : Int) < 16 := by omega
  have h3 : (0 : Int) ≤ s := Int.natCast_nonneg s
  have h4 : (0 : Int) ≤ e := Int.natCast_nonneg e
  go_enter Tryz.func51, Tryz.ntmps51
  go_wp2_with fail
  refine (HA.out _).mono ?_
  rintro x w1 ⟨rfl, hb1⟩
  have HB1 := Lib.hid hb1
  clear hb1
  have HG : Hid ((w1.alloc (.cells Z 156)).heap[w1.heap.size]? = some (.cells Z 156 (0, 0))) := World.alloc_heap_new w1 _
  obtain ⟨T, hT⟩ : ∃ T, T = flat tbl := ⟨_, rfl⟩
  have HTs : Hid (T.length = 480 ∧ ∀ v ∈ T, v.oneCell' = true) := by rw [hT]; exact ⟨flat_tbl, flat_one tbl⟩
  rw [← hT]
  obtain ⟨W, hW, HB⟩ : ∃ W, (w1.alloc (.cells Z 156)).setRow w1.heap.size T.toArray = W ∧ Hid (Blk W w1.heap.size T 156 ∧ Below w1.heap.size w1 W) :=
    ⟨_, rfl, setRow_heap _ w1.heap.size _ T.toArray 156 (0, 0) HG.out, ((Below.refl w1.heap.size w1).alloc (Nat.le_refl _) _).trans ((moves_row (w1.alloc (.cells Z 156)) w1.heap.size T.toArray).below (by rw [World.size_alloc]; exact Nat.le_succ _) (fun k hk => by omega))⟩
  have HX := flat_at tbl (e * 10 + s)
  rw [HX0.out, show (e * 10 + s) * 3 = e * 30 + s * 3 by omega, ← hT] at HX
  have c0 : W.cell? ⟨w1.heap.size, e * 30 + s * 3, none⟩ = some (.int .u16 xa) := (HB.out.1.at_ _).trans HX.1
  have c1 : W.cell? ⟨w1.heap.size, e * 30 + s * 3 + 1, none⟩ = some (.int .u8 xn) := (HB.out.1.at_ _).trans HX.2.1
  have c2 : W.cell? ⟨w1.heap.size, e * 30 + s * 3 + 2, none⟩ = some (.bool true) := (HB.out.1.at_ _).trans HX.2.2
  have HBB : Hid (Below w.heap.size w W) := HB1.out.trans (HB.out.2.mono HB1.out.size)
  clear hT HX HB1 HA
  have HC := Lib.hid (blk_new W [.int .u16 xa, .int .u8 xn, .bool true] 153)
  have HC2 : Hid (Below w.heap.size w (W.alloc (.cells #[.int .u16 xa, .int .u8 xn, .bool true] 153))) := HBB.out.alloc HBB.out.size _
  go_wp2_with (first
      | (refine wpList_store_row rfl 156 _ _ rfl w1.heap.size T.toArray rfl rfl 156 Z HG.out (by rw [List.size_toArray, HTs.out.1]; exact size_table) (by rw [HZs.out, List.size_toArray, HTs.out.1]) (all_toArray _ HTs.out.2) ?_; rw [hW]))
  generalize W.alloc (.cells #[.int .u16 xa, .int .u8 xn, .bool true] 153) = V at *
  have d0 : V.cell? ⟨W.heap.size, 0, none⟩ = some (.int .u16 xa) := HC.out.at_ 0
  have d1 : V.cell? ⟨W.heap.size, 1, none⟩ = some (.int .u8 xn) := HC.out.at_ 1
  clear c0 c1 c2 hW
  go_quiet (fail)
  go_wp2
  go_ret3
  exact ⟨rfl, HC2.out.drewN' _⟩

theorem next_any (s e : Nat) (w : World) : Calls Tryz.prog 51 #[.int .u8 s, .int .u8 e] w fun x w' => x = .returned (nR s e) ∧ Below w.heap.size w w' := by
  unfold nR nA nN nE
  by_cases hb : 10 ≤ s ∨ 16 ≤ e
  · simp only [if_pos hb]
    exact next_bad s e w hb
  · simp only [if_neg hb]
    have hx := tbl_at e s (by omega) (by omega)
    generalize at_ e s = x at *
    obtain ⟨xa, xn, xc⟩ := x
    cases xc
    · exact next_no s e xa xn w (by omega) (by omega) hx
    · exact next_yes s e xa xn w (by omega) (by omega) hx
end Go.Proofs.YtikcgcgbcolndaaGreat.Fsm

/- Contracts of Timed of both, and of Actions. -/
namespace Go.Proofs.YtikcgcgbcolndaaGreat.Fsm
open Go.RowKit Go.Proofs.YtikcgcgbcolndaaGreat.Oct Go.Proofs.YtikcgcgbcolndaaGreat.Row Go.Proofs.YtikcgcgbcolndaaGreat.Mem

def timed (s : Nat) : Bool := decide (4 ≤ s) && decide (s ≤ 8)
set_option maxHeartbeats 2000000 in
set_option maxRecDepth 100000 in
theorem timed_any (s : Nat) (w : World) : Calls Tryz.prog 77 #[.int .u8 s] w fun x w' => x = .returned (.bool (timed s)) ∧ w = w' := by
  unfold timed
  go_enter Tryz.func77, Tryz.ntmps77
  go_wp2
  all_goals (go_ret; exact ⟨by first | (simp_all; done) | (simp_all; omega), rfl⟩)
def has (a b : Nat) : Bool := decide (a &&& b ≠ 0)
theorem has_bits (a b : Nat) (ha : a < 65536) (hb : b < 65536) : (bits .and .u16 (a : Int) (b : Int) != 0) = has a b := by
  rw [u16_and_nat a b ha hb]
  unfold has
  generalize a &&& b = q
  cases q with
  | zero => rfl
  | succ q =>
    rw [decide_eq_true (Nat.succ_ne_zero q), bne_iff_ne]
    omega
/-- The bits of a set below the k-th, one by one. -/
def bitsTo (s k : Nat) : List Nat := ((List.range k).filter fun i => s.testBit i).map (2 ^ ·)
theorem bitsTo_more (s k : Nat) : bitsTo s (k + 1) = if s.testBit k then bitsTo s k ++ [2 ^ k] else bitsTo s k := by
  unfold bitsTo
  rw [List.range_succ, List.filter_append, List.map_append]
  cases h : s.testBit k
  · simp [h]
  · simp [h]
theorem bitsTo_length (s k : Nat) : (bitsTo s k).length ≤ k := by
  unfold bitsTo
  rw [List.length_map]
  exact Nat.le_trans (List.length_filter_le _ _) (by rw [List.length_range]; exact Nat.le_refl _)
theorem has_bit (s k : Nat) : has s (2 ^ k) = s.testBit k := by
  unfold has
  cases h : s.testBit k
  · refine decide_eq_false (fun hn => hn (Nat.eq_of_testBit_eq fun j => ?_))
    rw [Nat.testBit_and, Nat.testBit_two_pow, Nat.zero_testBit]
    by_cases hj : k = j
    · subst hj; rw [h]; rfl
    · rw [decide_eq_false hj, Bool.and_false]
  · refine decide_eq_true (fun h0 => ?_)
    have h1 := congrArg (fun n => Nat.testBit n k) h0
    simp only [Nat.testBit_and, Nat.testBit_two_pow, Nat.zero_testBit, h] at h1
    simp at h1
def numsV (l : List Nat) : List Value := l.map fun n : Nat => Value.int .u16 (n : Int)
theorem numsV_snoc (l : List Nat) (n : Nat) : numsV (l ++ [n]) = numsV l ++ [.int .u16 (n : Int)] := by simp [numsV]
/-- A row of numbers is handed back. -/
def Acts (w : World) (l : List Nat) (e : Ending) (w' : World) : Prop := ∃ v, e = .returned v ∧ w'.ownsRow w.heap.size 22 1 v l.length (numsV l) ∧ Below w.heap.size w w'
set_option maxRecDepth 100000 in
theorem info_u16 : (Tryz.prog.info? 22).map (fun i => (i.zero, i.size, i.bytes)) = some (some (.int .u16 0), 1, 2) := by kernel_rfl
/-- A round's row. -/
def ActsIn (w wr : World) (s k : Nat) (v : Value) : Prop := wr.ownsRow w.heap.size 22 1 v (bitsTo s k).length (numsV (bitsTo s k)) ∧ Below w.heap.size w wr
theorem actsIn_no {w wr : World} {s k : Nat} {v : Value} (h : ActsIn w wr s k v) (hb : s.testBit k = false) : ActsIn w wr s (k + 1) v := by
  unfold ActsIn at h ⊢
  rw [bitsTo_more, hb]
  exact h
theorem actsIn_yes {w wr : World} {s k : Nat} {v : Value} (hown : wr.ownsRow w.heap.size 22 1 v ((bitsTo s k).length + 1) (numsV (bitsTo s k) ++ [.int .u16 ((2 ^ k : Nat) : Int)])) (hb : Below w.heap.size w wr) (ht : s.testBit k = true) : ActsIn w wr s (k + 1) v := by
  unfold ActsIn
  rw [bitsTo_more, ht, if_pos rfl, numsV_snoc, List.length_append]
  exact ⟨hown, hb⟩

set_option maxHeartbeats 2000000 in
set_option maxRecDepth 100000 in
theorem actions_any (s : Nat) (w : World) (hs : s < 65536) : Calls Tryz.prog 60 #[.int .u16 s] w (Acts w (bitsTo s 13)) := by
  obtain ⟨i0, hi, hz0, hz1, hz2⟩ := info_parts info_u16
  have Hs := Lib.hid hs
  go_enter Tryz.func60, Tryz.ntmps60
  go_wp2
  go_loopw [3, 4] (fun v i wr => ∃ k : Nat, k ≤ 13 ∧ i = .int .u16 (2 ^ k : Nat) ∧ Hid (ActsIn w wr s k v)) (fun _ i _ => 20000 - (intOf i).toNat)
  case atStart => exact ⟨0, Nat.zero_le _, rfl, ⟨World.ownsRow_nil _ _ _ _, Below.refl _ _⟩⟩
  case round =>
    obtain ⟨k, hk, rfl, HF⟩ := hrel
    by_cases hlt : k < 13
    · have hp : 2 ^ k ≤ 4096 := Nat.pow_le_pow_right (n := 2) (i := k) (j := 12) (by omega) (by omega)
      have hp0 : 0 < 2 ^ k := Nat.two_pow_pos k
      have HP : Hid (2 ^ (k + 1) = 2 ^ k * 2) := Nat.pow_succ 2 k
      have hlen := bitsTo_length s k
      have hsize := HF.out.2.size
      have HB := Lib.hid (has_bits s (2 ^ k) hs (by omega))
      rw [has_bit] at HB
      have HY := Lib.hid (fun (v : Value) (wr : World) (a b c) => @actsIn_yes w wr s k v a b c)
      cases ht : s.testBit k
      · have hb : (bits .and .u16 (s : Int) ((2 ^ k : Nat) : Int) != 0) = false := HB.out.trans ht
        have HN := Lib.hid (actsIn_no HF.out ht)
        clear HB ht HY HF hs
        generalize 2 ^ k = a at *
        go_wp2
        go_roundw
        case rel => exact ⟨k + 1, by omega, by rw [HP.out]; go_num, HN⟩
        case measure => simp [intOf]; omega
      · have hb : (bits .and .u16 (s : Int) ((2 ^ k : Nat) : Int) != 0) = true := HB.out.trans ht
        have HT := Lib.hid ht
        clear HB ht hs
        generalize 2 ^ k = a at *
        go_wp2_with (first
          | (at_builtin; refine wpList_append_own _ rfl _ _ 140 rfl w.heap.size 22 i0 (.int .u16 0) 1 2 Tryz.underlying140 hi hz0 hz1 hz2 rfl (by decide) _ _ _ rfl (HF.out.1.alloc _) ⟨wr.heap.size, 0, none⟩ 1 1 [.int .u16 (a : Int)] rfl rfl (cell_one_new _ _ _) (fun x hx => by simp at hx; subst hx; rfl) (by unfold maxLen; omega) (by omega) (by simp; omega) ?_; intro v2 w2 hown2 hgr2 _; have Hown2 := Lib.hid hown2; clear hown2; have hb2 := (HF.out.2.alloc hsize (.cells #[.int .u16 (a : Int)] 22)).grown hgr2 (by simp; omega) (fun q hq => (HF.out.1.lt q hq).1)))
        have HT2 := Lib.hid (HY.out _ _ Hown2.out hb2 HT.out)
        go_roundw
        case rel => exact ⟨k + 1, by omega, by rw [HP.out]; go_num, HT2⟩
        case measure => simp [intOf]; omega
    · obtain rfl : k = 13 := by omega
      go_wp2
      go_ret
      exact ⟨_, rfl, HF.out.1, HF.out.2⟩

theorem rbit (s k : Nat) : (((s : Int) / 2 ^ k).tmod 2 == 1) = s.testBit k := by
  rw [show ((2 : Int) ^ k) = ((2 ^ k : Nat) : Int) by simp, ← Int.natCast_ediv, show ((2 : Int)) = ((2 : Nat) : Int) from rfl, ← Int.ofNat_tmod, Nat.testBit_eq_decide_div_mod_eq]
  by_cases h : s / 2 ^ k % 2 = 1
  · rw [h]; rfl
  · rw [decide_eq_false h]
    have : s / 2 ^ k % 2 = 0 := by omega
    rw [this]; rfl
theorem wrap_pow (k : Nat) (h : k ≤ 12) : IntKind.u16.wrap ((2 : Int) ^ k) = ((2 ^ k : Nat) : Int) := by
  have hp : 2 ^ k ≤ 4096 := Nat.pow_le_pow_right (n := 2) (i := k) (j := 12) (by omega) h
  rw [show ((2 : Int) ^ k) = ((2 ^ k : Nat) : Int) by simp]
  generalize 2 ^ k = q at *
  simp only [IntKind.wrap_u16]
  omega
end Go.Proofs.YtikcgcgbcolndaaGreat.Fsm

/- FsmSt: parted from XFsmH.lean.tpl. -/
namespace Go.Proofs.YtikcgcgbcolndaaGreat.Fsm
open Go.RowKit Go.Proofs.YtikcgcgbcolndaaGreat.Oct Go.Proofs.YtikcgcgbcolndaaGreat.Row Go.Proofs.YtikcgcgbcolndaaGreat.Mem
theorem stays {w w' : World} {p : Addr} {v : Value} (hb : Below w.heap.size w w') (h : w.cell? p = some v) : w'.cell? p = some v := (hb.cell (World.block_lt_of_cell? w _ h)).trans h
end Go.Proofs.YtikcgcgbcolndaaGreat.Fsm

/- FsmNy: parted from XFsmNx.lean.tpl. -/
namespace Go.Proofs.YtikcgcgbcolndaaGreat.Fsm
open Go.RowKit Go.Proofs.YtikcgcgbcolndaaGreat.Oct Go.Proofs.YtikcgcgbcolndaaGreat.Row Go.Proofs.YtikcgcgbcolndaaGreat.Mem
set_option maxRecDepth 100000 in
theorem own : ownKnob Tryz.prog.godebug = none := by kernel_rfl
set_option maxRecDepth 100000 in
theorem laidOut : laidOutB Tryz.prog = true := by kernel_rfl
/-- Numbers that were handed back. -/
def NumsAt (w : World) (v : Value) (l : List Nat) : Prop := ∃ A c, v = .slice A l.length c ∧ ∀ (j x : Nat), l[j]? = some x → ∃ g, A = some ⟨g, 0, none⟩ ∧ w.cell? ⟨g, j, none⟩ = some (.int .u16 (x : Int))
theorem nums_at {w : World} {base : Nat} {v : Value} {l : List Nat} (h : w.ownsRow base 22 1 v l.length (numsV l)) : NumsAt w v l := by
  rcases h.2 with ⟨rfl, h0⟩ | ⟨g, cap, cur, rfl, _⟩
  · exact ⟨none, 0, by rw [h0], fun j x hj => by have := (List.getElem?_eq_some_iff.1 hj).1; omega⟩
  · refine ⟨some ⟨g, 0, none⟩, cap, rfl, fun j x hj => ⟨g, rfl, ?_⟩⟩
    rw [h.cellAt j (by have := (List.getElem?_eq_some_iff.1 hj).1; omega)]
    unfold numsV
    rw [List.getElem?_map, hj]
    rfl
theorem NumsAt.callee {w w' : World} {v : Value} {l : List Nat} (h : NumsAt w v l) (hb : Below w.heap.size w w') : NumsAt w' v l := by
  obtain ⟨A, c, rfl, hc⟩ := h
  exact ⟨A, c, rfl, fun j x hj => by obtain ⟨g, e, hg⟩ := hc j x hj; exact ⟨g, e, stays hb hg⟩⟩

/-- An event of the arguments. -/
theorem event_at {w : World} {B : Nat} {A : Option Addr} {n k : Nat} (h : Ints w B A n .u8) (hk : k < n) : ∃ (ad : Addr) (y : Nat), A = some ad ∧ y ≤ 255 ∧ w.cell? (ad.add k) = some (.int .u8 (y : Int)) := by
  obtain ⟨ad, z, hA, _, hc, hz⟩ := h k hk
  have hb := bounds_u8 hz
  refine ⟨ad, z.toNat, hA, by omega, ?_⟩
  rw [hc, Int.toNat_of_nonneg (by omega)]
theorem ev_of (y : Nat) (_ : y ≤ 255) : ∃ ev : Nat, ev < 16 ∧ (y : Int).tmod 16 = (ev : Int) := ⟨y % 16, Nat.mod_lt _ (by decide), rfl⟩
/-- Either the combination is impossible, or the table has it. -/
theorem next_cases (s e : Nat) (hs : s < 10) (he : e < 16) :
    ((at_ e s).c = false ∧ Hid (∀ w, Calls Tryz.prog 51 #[.int .u8 s, .int .u8 e] w fun x w' => x = .returned (.tuple #[.int .u16 0, .int .u8 0, .int .i64 120]) ∧ Below w.heap.size w w')) ∨
    ∃ a n : Nat, at_ e s = ⟨a, n, true⟩ ∧ Hid (∀ w, Calls Tryz.prog 51 #[.int .u8 s, .int .u8 e] w fun x w' => x = .returned (.tuple #[.int .u16 a, .int .u8 n, .int .i64 0]) ∧ Below w.heap.size w w') := by
  have hx := tbl_at e s he hs
  generalize at_ e s = x at *
  obtain ⟨a, n, c⟩ := x
  cases c
  · exact .inl ⟨rfl, fun w => next_no s e a n w hs he hx⟩
  · exact .inr ⟨a, n, rfl, fun w => next_yes s e a n w hs he hx⟩
theorem int_beq (m k : Nat) : ((m : Int) == (k : Int)) = decide (m = k) := by
  by_cases h : m = k
  · rw [decide_eq_true h, h]; simp
  · rw [decide_eq_false h, beq_eq_false_iff_ne]; omega
theorem int_bne (m k : Nat) : ((m : Int) != (k : Int)) = !decide (m = k) := by
  rw [← int_beq]; rfl
def upOk (e s : Nat) : Bool :=
  let x := at_ e s
  !x.c || (decide (x.n < 10) && decide (x.a < 65536) && (has x.a 1 == (decide (x.n = 9) && !decide (s = 9))) && (has x.a 2 == (decide (s = 9) && !decide (x.n = 9))) && !(has x.a 4 && !decide (x.n = 1)) && !(has x.a 8 && timed x.n))
theorem up_ok : ∀ e, e < 16 → ∀ s, s < 10 → upOk e s = true := by decide +kernel
theorem up_spec {e s a n : Nat} (he : e < 16) (hs : s < 10) (h : at_ e s = ⟨a, n, true⟩) :
    n < 10 ∧ a < 65536 ∧ has a 1 = (decide (n = 9) && !decide (s = 9)) ∧ has a 2 = (decide (s = 9) && !decide (n = 9)) ∧ (has a 4 && !decide (n = 1)) = false ∧ (has a 8 && timed n) = false := by
  have h1 := up_ok e he s hs
  unfold upOk at h1
  rw [h] at h1
  simp only [Bool.not_true, Bool.false_or, Bool.and_eq_true, decide_eq_true_eq, beq_iff_eq, Bool.not_eq_true'] at h1
  obtain ⟨⟨⟨⟨⟨h2, h3⟩, h4⟩, h5⟩, h6⟩, h7⟩ := h1
  exact ⟨h2, h3, h4, h5, h6, h7⟩
end Go.Proofs.YtikcgcgbcolndaaGreat.Fsm
