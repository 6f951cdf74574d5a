/- Put together: FsmD, FsmE, FsmAct, FsmSt, FsmNy, AutPure, AutA, AutB, AutC, AutD, AutE. -/
import Derived.Test.YtpppggicihfbgaaGreatGFsmPure
import Derived.Deep.Cut
import Derived.Deep.WholeRow
import Derived.BigQuiet
import Derived.Test.YtpppggicihfbgaaGreatGRow
import Derived.OpenShut
import Derived.Carry
import Derived.Maps.RangeRun
import Derived.Maps.Keyed
import Derived.Shelf.Abstract
import Derived.KernelRfl
import Derived.Laws.EntriesVeiled

/- Contracts of package fsm's layIdle, layBusy, automaton. -/
namespace Go.Proofs.YtpppggicihfbgaaGreat.Fsm
open Go.RowKit Go.Proofs.YtpppggicihfbgaaGreat.Oct Go.Proofs.YtpppggicihfbgaaGreat.Row Go.Proofs.YtpppggicihfbgaaGreat.Mem

theorem row_idle (b p z : Nat) : RowCall ⟨70, 0, b, p, z⟩ :=
  ⟨fun args w => by go_simp, fun g e t l w hk hl he hf h0 => idle_row b p g e t l w hk.tab (hk.box.at_ 0) hl he (by simpa using hf) h0⟩
theorem row_busy (b p z : Nat) : RowCall ⟨73, 6, b, p, z⟩ :=
  ⟨fun args w => by go_simp, fun g e t l w hk hl he hf h0 => busy_row b p g e t l w hk.tab (hk.box.at_ 0) hl he hf h0⟩
theorem known_new (c : Nat → Nat → Ctx) (b : Nat) (t : List Cl) (w : World) (ht : Tab w b t) (hc : ∀ p z, (c p z).b = b ∧ (c p z).p = p ∧ (c p z).z = z) :
    Known (c w.heap.size (w.heap.size + 1)) t ((w.alloc (.cells #[.pointer (some ⟨b, 0, none⟩)] 159)).alloc (.cells #[.int .u16 0, .int .u8 0, .bool false] 125)) := by
  obtain ⟨e1, e2, e3⟩ := hc w.heap.size (w.heap.size + 1)
  have hlt := ht.1.lt
  refine ⟨?_, ?_, ?_, by rw [e1, e2]; omega, by rw [e1, e3]; omega⟩
  · rw [e1]; exact ⟨(ht.1.alloc _).alloc _, ht.2⟩
  · rw [e1, e2]; exact (blk_new w [.pointer (some ⟨b, 0, none⟩)] 159).alloc _
  · rw [e3]
    have := blk_new (w.alloc (.cells #[.pointer (some ⟨b, 0, none⟩)] 159)) no.cells 125
    rw [World.size_alloc] at this
    exact this
theorem moves_two (b : Nat) (w : World) (o o' : Obj) : Moves (fun k => k = b) w ((w.alloc o).alloc o') := ((Moves.refl _ w).alloc o).alloc o'

set_option maxHeartbeats 4000000 in
set_option maxRecDepth 100000 in
theorem idle_any (b : Nat) (t : List Cl) (w : World) (ht : Tab w b t) :
    Calls Tryz.prog 55 #[.pointer (some ⟨b, 0, none⟩)] w fun x w' => x = .returned (.tuple #[]) ∧ Tab w' b (lays 0 t (idle0 :: idle1)) ∧ Moves (fun k => k = b) w w' := by
  have HT := Lib.hid ht
  have HK := Lib.hid (known_new (fun p z => ⟨70, 0, b, p, z⟩) b t w ht (fun _ _ => ⟨rfl, rfl, rfl⟩))
  have HM := Lib.hid (moves_two b w (.cells #[.pointer (some ⟨b, 0, none⟩)] 159) (.cells #[.int .u16 0, .int .u8 0, .bool false] 125))
  clear ht
  go_enter Tryz.func55, Tryz.ntmps55
  go_upto_region 3 with (fail)
  rename_i Q K hK
  refine Go.wp_mono (region_ok (N := 180) (e := idle0.1) (cs := idle0.2) (by show rowOf 0 180 _ = some idle0; decide +kernel) (row_idle b w.heap.size (w.heap.size + 1)) ⟨rfl, rfl, rfl, rfl⟩ HK.out (by kernel_rfl)) ?_
  rintro x a1 w1 ⟨rfl, h1, h2, h3⟩
  refine hK _ _ ?_
  refine Go.wp_mono (code_ok (row_idle b w.heap.size (w.heap.size + 1)) (by kernel_rfl) _ idle1 (by show rowsOf 0 180 _ = some idle1; decide +kernel) _ a1 w1 h1 h2) ?_
  rintro x a2 w2 ⟨rfl, k1, k2, k3⟩
  refine bodyPost_end (results_none rfl _ _ _) k1.2.2.2 ?_
  rw [lays_cons]
  exact ⟨rfl, k2.tab, (HM.out.trans h3 (fun _ _ h => h)).trans k3 (fun _ _ h => h)⟩

set_option maxHeartbeats 4000000 in
set_option maxRecDepth 100000 in
theorem busy_any (b : Nat) (t : List Cl) (w : World) (ht : Tab w b t) :
    Calls Tryz.prog 56 #[.pointer (some ⟨b, 0, none⟩)] w fun x w' => x = .returned (.tuple #[]) ∧ Tab w' b (lays 6 t (busy0 :: busy1)) ∧ Moves (fun k => k = b) w w' := by
  have HT := Lib.hid ht
  have HK := Lib.hid (known_new (fun p z => ⟨73, 6, b, p, z⟩) b t w ht (fun _ _ => ⟨rfl, rfl, rfl⟩))
  have HM := Lib.hid (moves_two b w (.cells #[.pointer (some ⟨b, 0, none⟩)] 159) (.cells #[.int .u16 0, .int .u8 0, .bool false] 125))
  clear ht
  go_enter Tryz.func56, Tryz.ntmps56
  go_upto_region 3 with (fail)
  rename_i Q K hK
  refine Go.wp_mono (region_ok (N := 158) (e := busy0.1) (cs := busy0.2) (by show rowOf 6 158 _ = some busy0; decide +kernel) (row_busy b w.heap.size (w.heap.size + 1)) ⟨rfl, rfl, rfl, rfl⟩ HK.out (by kernel_rfl)) ?_
  rintro x a1 w1 ⟨rfl, h1, h2, h3⟩
  refine hK _ _ ?_
  refine Go.wp_mono (code_ok (row_busy b w.heap.size (w.heap.size + 1)) (by kernel_rfl) _ busy1 (by show rowsOf 6 158 _ = some busy1; decide +kernel) _ a1 w1 h1 h2) ?_
  rintro x a2 w2 ⟨rfl, k1, k2, k3⟩
  refine bodyPost_end (results_none rfl _ _ _) k1.2.2.2 ?_
  rw [lays_cons]
  exact ⟨rfl, k2.tab, (HM.out.trans h3 (fun _ _ h => h)).trans k3 (fun _ _ h => h)⟩
end Go.Proofs.YtpppggicihfbgaaGreat.Fsm

/- Contracts of package fsm's automaton and Next. -/
namespace Go.Proofs.YtpppggicihfbgaaGreat.Fsm
open Go.RowKit Go.Proofs.YtpppggicihfbgaaGreat.Oct Go.Proofs.YtpppggicihfbgaaGreat.Row Go.Proofs.YtpppggicihfbgaaGreat.Mem

def zeros : Array Value := (flat (List.replicate 160 no)).toArray
set_option maxRecDepth 100000 in
theorem info_table : (Tryz.prog.info? 128).map (fun i => (i.zero, i.size)) = some (some (.agg zeros), 480) := by kernel_rfl
set_option maxRecDepth 100000 in
theorem size_table : (Tryz.prog.info? 128).map (·.size) = some 480 := by kernel_rfl
theorem zero_table (w : World) : (zeroValue 128).run Tryz.prog w = .ok (.agg zeros) w := (zero_of_info info_table).1 w
theorem flat_tbl : (flat tbl).length = 480 := by rw [flat_length, tbl_length]
theorem zeros_size : zeros.size = 480 := by decide +kernel
theorem two_new (w : World) (o o' : Obj) : ((w.alloc o).alloc o').heap[w.heap.size]? = some o ∧ ((w.alloc o).alloc o').heap[w.heap.size + 1]? = some o' := by
  have h := World.alloc_heap_new (w.alloc o) o'
  rw [World.size_alloc] at h
  exact ⟨(Below.heap_alloc (w.alloc o) o' w.heap.size (by rw [World.size_alloc]; exact Nat.lt_succ_self _)).trans (World.alloc_heap_new w o), h⟩
theorem all_toArray (l : List Value) (h : ∀ v ∈ l, v.oneCell' = true) : l.toArray.all (·.oneCell') = true := by
  rw [Array.all_eq_true_iff_forall_mem]
  intro v hv
  exact h v (by simpa using hv)

set_option maxHeartbeats 1000000 in
set_option maxRecDepth 100000 in
theorem auto_any (w : World) :
    Calls Tryz.prog 42 #[] w fun x w' => x = .returned (.agg (flat tbl).toArray) ∧ Below w.heap.size w w' := by
  obtain ⟨Z, hZ⟩ : ∃ Z, Z = zeros := ⟨_, rfl⟩
  have hz : ∀ w, (zeroValue 128).run Tryz.prog w = .ok (.agg Z) w := by rw [hZ]; exact zero_table
  have HZ := Lib.hid hZ
  clear hZ
  have H2 := Lib.hid (two_new w (.cells Z 128) (.cells Z 128))
  have HB := Lib.hid (((Below.refl w.heap.size w).alloc (Nat.le_refl _) (.cells Z 128)).alloc (by rw [World.size_alloc]; exact Nat.le_succ _) (.cells Z 128))
  go_enter Tryz.func42, Tryz.ntmps42
  go_wp2_with fail
  generalize hW : (w.alloc (.cells Z 128)).alloc (.cells Z 128) = W at *
  have HT : Hid (Tab W (w.heap.size + 1) (List.replicate 160 no)) := by
    refine ⟨?_, List.length_replicate⟩
    have := H2.out.2
    rw [HZ.out] at this
    exact this
  clear hW
  refine (idle_any _ _ _ HT.out).mono ?_
  rintro x w1 ⟨rfl, h1, h2⟩
  have HT1 := Lib.hid h1
  have HM1 := Lib.hid h2
  clear h1 h2 HT
  go_wp2_with fail
  refine (busy_any _ _ _ HT1.out).mono ?_
  rintro x w2 ⟨rfl, h1, h2⟩
  have HT2 : Hid (Tab w2 (w.heap.size + 1) tbl) := by unfold tbl; exact h1
  have HM2 := Lib.hid (HM1.out.trans h2 (fun _ _ h => h))
  clear h1 h2 HT1 HM1
  have HG : Hid (w2.heap[w.heap.size]? = some (.cells Z 128 (0, 0))) := (HM2.out.block w.heap.size (by have := (Array.getElem?_eq_some_iff.1 H2.out.1).1; exact this) (by omega)).trans H2.out.1
  have HB2 : Hid (Below w.heap.size w w2) := HB.out.trans (HM2.out.below HB.out.size (fun k hk => by omega))
  clear H2 HB HM2 hz
  have HZs : Hid (Z.size = 480) := by show _ = _; rw [HZ.out]; exact zeros_size
  go_wp2_with (first
    | (refine wpList_load_mid rfl 128 (.tmp 1) rfl (w.heap.size + 1) 0 rfl (flat tbl) _ HT2.out.1.range Tryz.underlying128 rfl (by rw [flat_tbl]; exact size_table) ?_)
    | (refine wpList_store_row rfl 128 _ _ rfl w.heap.size (flat tbl).toArray rfl rfl 128 Z HG.out (by rw [List.size_toArray, flat_tbl]; exact size_table) (by rw [HZs.out, List.size_toArray, flat_tbl]) (all_toArray _ (flat_one tbl)) ?_))
  have HR := setRow_heap w2 w.heap.size _ (flat tbl).toArray 128 (0, 0) HG.out
  refine bodyPost_ret (results_cell_row rfl _ _ w.heap.size _ (flat tbl).toArray (0, 0) _ rfl HR Tryz.underlying128 rfl (by rw [List.size_toArray, flat_tbl]; exact size_table)) rfl ?_
  exact ⟨rfl, HB2.out.trans ((moves_row w2 w.heap.size _).below HB2.out.size (fun k hk => by omega))⟩

def nE (s e : Nat) : Nat := if 10 ≤ s ∨ 16 ≤ e then 2 else if (at_ e s).c then 0 else 120
def nA (s e : Nat) : Nat := if 10 ≤ s ∨ 16 ≤ e then 0 else if (at_ e s).c then (at_ e s).a else 0
def nN (s e : Nat) : Nat := if 10 ≤ s ∨ 16 ≤ e then 0 else if (at_ e s).c then (at_ e s).n else 0
def nR (s e : Nat) : Value := .tuple #[.int .u16 (nA s e), .int .u8 (nN s e), .int .i64 (nE s e)]

set_option maxHeartbeats 1000000 in
set_option maxRecDepth 100000 in
theorem next_bad (s e : Nat) (w : World) (hb : 10 ≤ s ∨ 16 ≤ e) :
    Calls Tryz.prog 33 #[.int .u8 s, .int .u8 e] w fun x w' => x = .returned (.tuple #[.int .u16 0, .int .u8 0, .int .i64 2]) ∧ Below w.heap.size w w' := by
  by_cases h : 10 ≤ s
  · have h1 : (10 : Int) ≤ (s : Int) := by omega
    clear hb h
    go_enter Tryz.func33, Tryz.ntmps33
    go_wp2
    go_ret3
    exact ⟨rfl, Below.refl _ _⟩
  · have h1 : (s : Int) < 10 := by omega
    have h2 : (16 : Int) ≤ (e : Int) := by omega
    clear hb h
    go_enter Tryz.func33, Tryz.ntmps33
    go_wp2
    go_ret3
    exact ⟨rfl, Below.refl _ _⟩
set_option maxHeartbeats 1000000 in
set_option maxRecDepth 100000 in
theorem next_no (s e xa xn : Nat) (w : World) (hs : s < 10) (he : e < 16) (hx : tbl[e * 10 + s]? = some ⟨xa, xn, false⟩) :
    Calls Tryz.prog 33 #[.int .u8 s, .int .u8 e] w fun x w' => x = .returned (.tuple #[.int .u16 0, .int .u8 0, .int .i64 120]) ∧ Below w.heap.size w w' := by
  obtain ⟨Z, hZ⟩ : ∃ Z, Z = zeros := ⟨_, rfl⟩
  have hz : ∀ w, (zeroValue 128).run Tryz.prog w = .ok (.agg Z) w := by rw [hZ]; exact zero_table
  have HZs : Hid (Z.size = 480) := by show _ = _; rw [hZ]; exact zeros_size
  clear hZ
  have HA := Lib.hid (fun w => auto_any w)
  have HX0 := Lib.hid hx
  clear hx
  have h1 : (s : Int) < 10 := by omega
  have h2 : (e : Int) < 16 := by omega
  have h3 : (0 : Int) ≤ s := Int.natCast_nonneg s
  have h4 : (0 : Int) ≤ e := Int.natCast_nonneg e
  go_enter Tryz.func33, Tryz.ntmps33
  go_wp2_with fail
  refine (HA.out _).mono ?_
  rintro x w1 ⟨rfl, hb1⟩
  have HB1 := Lib.hid hb1
  clear hb1
  have HG : Hid ((w1.alloc (.cells Z 128)).heap[w1.heap.size]? = some (.cells Z 128 (0, 0))) := World.alloc_heap_new w1 _
  obtain ⟨T, hT⟩ : ∃ T, T = flat tbl := ⟨_, rfl⟩
  have HTs : Hid (T.length = 480 ∧ ∀ v ∈ T, v.oneCell' = true) := by rw [hT]; exact ⟨flat_tbl, flat_one tbl⟩
  rw [← hT]
  obtain ⟨W, hW, HB⟩ : ∃ W, (w1.alloc (.cells Z 128)).setRow w1.heap.size T.toArray = W ∧ Hid (Blk W w1.heap.size T 128 ∧ Below w1.heap.size w1 W) :=
    ⟨_, rfl, setRow_heap _ w1.heap.size _ T.toArray 128 (0, 0) HG.out, ((Below.refl w1.heap.size w1).alloc (Nat.le_refl _) _).trans ((moves_row (w1.alloc (.cells Z 128)) w1.heap.size T.toArray).below (by rw [World.size_alloc]; exact Nat.le_succ _) (fun k hk => by omega))⟩
  have HX := flat_at tbl (e * 10 + s)
  rw [HX0.out, show (e * 10 + s) * 3 = e * 30 + s * 3 by omega, ← hT] at HX
  have c0 : W.cell? ⟨w1.heap.size, e * 30 + s * 3, none⟩ = some (.int .u16 xa) := (HB.out.1.at_ _).trans HX.1
  have c1 : W.cell? ⟨w1.heap.size, e * 30 + s * 3 + 1, none⟩ = some (.int .u8 xn) := (HB.out.1.at_ _).trans HX.2.1
  have c2 : W.cell? ⟨w1.heap.size, e * 30 + s * 3 + 2, none⟩ = some (.bool false) := (HB.out.1.at_ _).trans HX.2.2
  have HBB : Hid (Below w.heap.size w W) := HB1.out.trans (HB.out.2.mono HB1.out.size)
  clear hT HX HB1 HA
  have HC2 : Hid (Below w.heap.size w (W.alloc (.cells #[.int .u16 xa, .int .u8 xn, .bool false] 125))) := HBB.out.alloc HBB.out.size _
  go_wp2_with (first
      | (refine wpList_store_row rfl 128 _ _ rfl w1.heap.size T.toArray rfl rfl 128 Z HG.out (by rw [List.size_toArray, HTs.out.1]; exact size_table) (by rw [HZs.out, List.size_toArray, HTs.out.1]) (all_toArray _ HTs.out.2) ?_; rw [hW]))
  go_ret3
  exact ⟨rfl, HC2.out⟩
set_option maxHeartbeats 1000000 in
set_option maxRecDepth 100000 in
theorem next_yes (s e xa xn : Nat) (w : World) (hs : s < 10) (he : e < 16) (hx : tbl[e * 10 + s]? = some ⟨xa, xn, true⟩) :
    Calls Tryz.prog 33 #[.int .u8 s, .int .u8 e] w fun x w' => x = .returned (.tuple #[.int .u16 xa, .int .u8 xn, .int .i64 0]) ∧ Below w.heap.size w w' := by
  obtain ⟨Z, hZ⟩ : ∃ Z, Z = zeros := ⟨_, rfl⟩
  have hz : ∀ w, (zeroValue 128).run Tryz.prog w = .ok (.agg Z) w := by rw [hZ]; exact zero_table
  have HZs : Hid (Z.size = 480) := by show _ = _; rw [hZ]; exact zeros_size
  clear hZ
  have HA := Lib.hid (fun w => auto_any w)
  have HX0 := Lib.hid hx
  clear hx
  have h1 : (s : Int) < 10 := by omega
  have h2 : (e : Int) < 16 := by omega
  have h3 : (0 : Int) ≤ s := Int.natCast_nonneg s
  have h4 : (0 : Int) ≤ e := Int.natCast_nonneg e
  go_enter Tryz.func33, Tryz.ntmps33
  go_wp2_with fail
  refine (HA.out _).mono ?_
  rintro x w1 ⟨rfl, hb1⟩
  have HB1 := Lib.hid hb1
  clear hb1
  have HG : Hid ((w1.alloc (.cells Z 128)).heap[w1.heap.size]? = some (.cells Z 128 (0, 0))) := World.alloc_heap_new w1 _
  obtain ⟨T, hT⟩ : ∃ T, T = flat tbl := ⟨_, rfl⟩
  have HTs : Hid (T.length = 480 ∧ ∀ v ∈ T, v.oneCell' = true) := by rw [hT]; exact ⟨flat_tbl, flat_one tbl⟩
  rw [← hT]
  obtain ⟨W, hW, HB⟩ : ∃ W, (w1.alloc (.cells Z 128)).setRow w1.heap.size T.toArray = W ∧ Hid (Blk W w1.heap.size T 128 ∧ Below w1.heap.size w1 W) :=
    ⟨_, rfl, setRow_heap _ w1.heap.size _ T.toArray 128 (0, 0) HG.out, ((Below.refl w1.heap.size w1).alloc (Nat.le_refl _) _).trans ((moves_row (w1.alloc (.cells Z 128)) w1.heap.size T.toArray).below (by rw [World.size_alloc]; exact Nat.le_succ _) (fun k hk => by omega))⟩
  have HX := flat_at tbl (e * 10 + s)
  rw [HX0.out, show (e * 10 + s) * 3 = e * 30 + s * 3 by omega, ← hT] at HX
  have c0 : W.cell? ⟨w1.heap.size, e * 30 + s * 3, none⟩ = some (.int .u16 xa) := (HB.out.1.at_ _).trans HX.1
  have c1 : W.cell? ⟨w1.heap.size, e * 30 + s * 3 + 1, none⟩ = some (.int .u8 xn) := (HB.out.1.at_ _).trans HX.2.1
  have c2 : W.cell? ⟨w1.heap.size, e * 30 + s * 3 + 2, none⟩ = some (.bool true) := (HB.out.1.at_ _).trans HX.2.2
  have HBB : Hid (Below w.heap.size w W) := HB1.out.trans (HB.out.2.mono HB1.out.size)
  clear hT HX HB1 HA
  have HC := Lib.hid (blk_new W [.int .u16 xa, .int .u8 xn, .bool true] 125)
  have HC2 : Hid (Below w.heap.size w (W.alloc (.cells #[.int .u16 xa, .int .u8 xn, .bool true] 125))) := HBB.out.alloc HBB.out.size _
  go_wp2_with (first
      | (refine wpList_store_row rfl 128 _ _ rfl w1.heap.size T.toArray rfl rfl 128 Z HG.out (by rw [List.size_toArray, HTs.out.1]; exact size_table) (by rw [HZs.out, List.size_toArray, HTs.out.1]) (all_toArray _ HTs.out.2) ?_; rw [hW]))
  generalize W.alloc (.cells #[.int .u16 xa, .int .u8 xn, .bool true] 125) = V at *
  have d0 : V.cell? ⟨W.heap.size, 0, none⟩ = some (.int .u16 xa) := HC.out.at_ 0
  have d1 : V.cell? ⟨W.heap.size, 1, none⟩ = some (.int .u8 xn) := HC.out.at_ 1
  clear c0 c1 c2 hW
  go_quiet (fail)
  go_wp2
  go_ret3
  exact ⟨rfl, HC2.out.drewN' _⟩

theorem next_any (s e : Nat) (w : World) : Calls Tryz.prog 33 #[.int .u8 s, .int .u8 e] w fun x w' => x = .returned (nR s e) ∧ Below w.heap.size w w' := by
  unfold nR nA nN nE
  by_cases hb : 10 ≤ s ∨ 16 ≤ e
  · simp only [if_pos hb]
    exact next_bad s e w hb
  · simp only [if_neg hb]
    have hx := tbl_at e s (by omega) (by omega)
    generalize at_ e s = x at *
    obtain ⟨xa, xn, xc⟩ := x
    cases xc
    · exact next_no s e xa xn w (by omega) (by omega) hx
    · exact next_yes s e xa xn w (by omega) (by omega) hx
end Go.Proofs.YtpppggicihfbgaaGreat.Fsm

/- Contracts of Timed of both, and of Actions. -/
namespace Go.Proofs.YtpppggicihfbgaaGreat.Fsm
open Go.RowKit Go.Proofs.YtpppggicihfbgaaGreat.Oct Go.Proofs.YtpppggicihfbgaaGreat.Row Go.Proofs.YtpppggicihfbgaaGreat.Mem

def timed (s : Nat) : Bool := decide (4 ≤ s) && decide (s ≤ 8)
set_option maxHeartbeats 2000000 in
set_option maxRecDepth 100000 in
theorem timed_any (s : Nat) (w : World) : Calls Tryz.prog 58 #[.int .u8 s] w fun x w' => x = .returned (.bool (timed s)) ∧ w = w' := by
  unfold timed
  go_enter Tryz.func58, Tryz.ntmps58
  go_wp2
  all_goals (go_ret; exact ⟨by first | (simp_all; done) | (simp_all; omega), rfl⟩)
def has (a b : Nat) : Bool := decide (a &&& b ≠ 0)
theorem has_bits (a b : Nat) (ha : a < 65536) (hb : b < 65536) : (bits .and .u16 (a : Int) (b : Int) != 0) = has a b := by
  rw [u16_and_nat a b ha hb]
  unfold has
  generalize a &&& b = q
  cases q with
  | zero => rfl
  | succ q =>
    rw [decide_eq_true (Nat.succ_ne_zero q), bne_iff_ne]
    omega
def bitsTo (s k : Nat) : List Nat := ((List.range k).filter fun i => s.testBit i).map (2 ^ ·)
theorem bitsTo_more (s k : Nat) : bitsTo s (k + 1) = if s.testBit k then bitsTo s k ++ [2 ^ k] else bitsTo s k := by
  unfold bitsTo
  rw [List.range_succ, List.filter_append, List.map_append]
  cases h : s.testBit k
  · simp [h]
  · simp [h]
theorem bitsTo_length (s k : Nat) : (bitsTo s k).length ≤ k := by
  unfold bitsTo
  rw [List.length_map]
  exact Nat.le_trans (List.length_filter_le _ _) (by rw [List.length_range]; exact Nat.le_refl _)
theorem has_bit (s k : Nat) : has s (2 ^ k) = s.testBit k := by
  unfold has
  cases h : s.testBit k
  · refine decide_eq_false (fun hn => hn (Nat.eq_of_testBit_eq fun j => ?_))
    rw [Nat.testBit_and, Nat.testBit_two_pow, Nat.zero_testBit]
    by_cases hj : k = j
    · subst hj; rw [h]; rfl
    · rw [decide_eq_false hj, Bool.and_false]
  · refine decide_eq_true (fun h0 => ?_)
    have h1 := congrArg (fun n => Nat.testBit n k) h0
    simp only [Nat.testBit_and, Nat.testBit_two_pow, Nat.zero_testBit, h] at h1
    simp at h1
def numsV (l : List Nat) : List Value := l.map fun n : Nat => Value.int .u16 (n : Int)
theorem numsV_snoc (l : List Nat) (n : Nat) : numsV (l ++ [n]) = numsV l ++ [.int .u16 (n : Int)] := by simp [numsV]
def Acts (w : World) (l : List Nat) (e : Ending) (w' : World) : Prop := ∃ v, e = .returned v ∧ w'.ownsRow w.heap.size 22 1 v l.length (numsV l) ∧ Below w.heap.size w w'
set_option maxRecDepth 100000 in
theorem info_u16 : (Tryz.prog.info? 22).map (fun i => (i.zero, i.size, i.bytes)) = some (some (.int .u16 0), 1, 2) := by kernel_rfl
def ActsIn (w wr : World) (s k : Nat) (v : Value) : Prop := wr.ownsRow w.heap.size 22 1 v (bitsTo s k).length (numsV (bitsTo s k)) ∧ Below w.heap.size w wr
theorem actsIn_no {w wr : World} {s k : Nat} {v : Value} (h : ActsIn w wr s k v) (hb : s.testBit k = false) : ActsIn w wr s (k + 1) v := by
  unfold ActsIn at h ⊢
  rw [bitsTo_more, hb]
  exact h
theorem actsIn_yes {w wr : World} {s k : Nat} {v : Value} (hown : wr.ownsRow w.heap.size 22 1 v ((bitsTo s k).length + 1) (numsV (bitsTo s k) ++ [.int .u16 ((2 ^ k : Nat) : Int)])) (hb : Below w.heap.size w wr) (ht : s.testBit k = true) : ActsIn w wr s (k + 1) v := by
  unfold ActsIn
  rw [bitsTo_more, ht, if_pos rfl, numsV_snoc, List.length_append]
  exact ⟨hown, hb⟩

set_option maxHeartbeats 2000000 in
set_option maxRecDepth 100000 in
theorem actions_any (s : Nat) (w : World) (hs : s < 65536) : Calls Tryz.prog 45 #[.int .u16 s] w (Acts w (bitsTo s 13)) := by
  obtain ⟨i0, hi, hz0, hz1, hz2⟩ := info_parts info_u16
  have Hs := Lib.hid hs
  go_enter Tryz.func45, Tryz.ntmps45
  go_wp2
  go_loopw [3, 4] (fun v i wr => ∃ k : Nat, k ≤ 13 ∧ i = .int .u16 (2 ^ k : Nat) ∧ Hid (ActsIn w wr s k v)) (fun _ i _ => 20000 - (intOf i).toNat)
  case atStart => exact ⟨0, Nat.zero_le _, rfl, ⟨World.ownsRow_nil _ _ _ _, Below.refl _ _⟩⟩
  case round =>
    obtain ⟨k, hk, rfl, HF⟩ := hrel
    by_cases hlt : k < 13
    · have hp : 2 ^ k ≤ 4096 := Nat.pow_le_pow_right (n := 2) (i := k) (j := 12) (by omega) (by omega)
      have hp0 : 0 < 2 ^ k := Nat.two_pow_pos k
      have HP : Hid (2 ^ (k + 1) = 2 ^ k * 2) := Nat.pow_succ 2 k
      have hlen := bitsTo_length s k
      have hsize := HF.out.2.size
      have HB := Lib.hid (has_bits s (2 ^ k) hs (by omega))
      rw [has_bit] at HB
      have HY := Lib.hid (fun (v : Value) (wr : World) (a b c) => @actsIn_yes w wr s k v a b c)
      cases ht : s.testBit k
      · have hb : (bits .and .u16 (s : Int) ((2 ^ k : Nat) : Int) != 0) = false := HB.out.trans ht
        have HN := Lib.hid (actsIn_no HF.out ht)
        clear HB ht HY HF hs
        generalize 2 ^ k = a at *
        go_wp2
        go_roundw
        case rel => exact ⟨k + 1, by omega, by rw [HP.out]; go_num, HN⟩
        case measure => simp [intOf]; omega
      · have hb : (bits .and .u16 (s : Int) ((2 ^ k : Nat) : Int) != 0) = true := HB.out.trans ht
        have HT := Lib.hid ht
        clear HB ht hs
        generalize 2 ^ k = a at *
        go_wp2_with (first
          | (at_builtin; refine wpList_append_own _ rfl _ _ 132 rfl w.heap.size 22 i0 (.int .u16 0) 1 2 Tryz.underlying132 hi hz0 hz1 hz2 rfl (by decide) _ _ _ rfl (HF.out.1.alloc _) ⟨wr.heap.size, 0, none⟩ 1 1 [.int .u16 (a : Int)] rfl rfl (cell_one_new _ _ _) (fun x hx => by simp at hx; subst hx; rfl) (by unfold maxLen; omega) (by omega) (by simp; omega) ?_; intro v2 w2 hown2 hgr2 _; have Hown2 := Lib.hid hown2; clear hown2; have hb2 := (HF.out.2.alloc hsize (.cells #[.int .u16 (a : Int)] 22)).grown hgr2 (by simp; omega) (fun q hq => (HF.out.1.lt q hq).1)))
        have HT2 := Lib.hid (HY.out _ _ Hown2.out hb2 HT.out)
        go_roundw
        case rel => exact ⟨k + 1, by omega, by rw [HP.out]; go_num, HT2⟩
        case measure => simp [intOf]; omega
    · obtain rfl : k = 13 := by omega
      go_wp2
      go_ret
      exact ⟨_, rfl, HF.out.1, HF.out.2⟩

end Go.Proofs.YtpppggicihfbgaaGreat.Fsm

/- FsmSt: parted from XFsmH.lean.tpl. -/
namespace Go.Proofs.YtpppggicihfbgaaGreat.Fsm
open Go.RowKit Go.Proofs.YtpppggicihfbgaaGreat.Oct Go.Proofs.YtpppggicihfbgaaGreat.Row Go.Proofs.YtpppggicihfbgaaGreat.Mem
theorem stays {w w' : World} {p : Addr} {v : Value} (hb : Below w.heap.size w w') (h : w.cell? p = some v) : w'.cell? p = some v := (hb.cell (World.block_lt_of_cell? w _ h)).trans h
end Go.Proofs.YtpppggicihfbgaaGreat.Fsm

/- FsmNy: parted from XFsmNx.lean.tpl. -/
namespace Go.Proofs.YtpppggicihfbgaaGreat.Fsm
open Go.RowKit Go.Proofs.YtpppggicihfbgaaGreat.Oct Go.Proofs.YtpppggicihfbgaaGreat.Row Go.Proofs.YtpppggicihfbgaaGreat.Mem
set_option maxRecDepth 100000 in
theorem own : ownKnob Tryz.prog.godebug = none := by kernel_rfl
set_option maxRecDepth 100000 in
theorem laidOut : laidOutB Tryz.prog = true := by kernel_rfl
def NumsAt (w : World) (v : Value) (l : List Nat) : Prop := ∃ A c, v = .slice A l.length c ∧ ∀ (j x : Nat), l[j]? = some x → ∃ g, A = some ⟨g, 0, none⟩ ∧ w.cell? ⟨g, j, none⟩ = some (.int .u16 (x : Int))
theorem nums_at {w : World} {base : Nat} {v : Value} {l : List Nat} (h : w.ownsRow base 22 1 v l.length (numsV l)) : NumsAt w v l := by
  rcases h.2 with ⟨rfl, h0⟩ | ⟨g, cap, cur, rfl, _⟩
  · exact ⟨none, 0, by rw [h0], fun j x hj => by have := (List.getElem?_eq_some_iff.1 hj).1; omega⟩
  · refine ⟨some ⟨g, 0, none⟩, cap, rfl, fun j x hj => ⟨g, rfl, ?_⟩⟩
    rw [h.cellAt j (by have := (List.getElem?_eq_some_iff.1 hj).1; omega)]
    unfold numsV
    rw [List.getElem?_map, hj]
    rfl
theorem NumsAt.callee {w w' : World} {v : Value} {l : List Nat} (h : NumsAt w v l) (hb : Below w.heap.size w w') : NumsAt w' v l := by
  obtain ⟨A, c, rfl, hc⟩ := h
  exact ⟨A, c, rfl, fun j x hj => by obtain ⟨g, e, hg⟩ := hc j x hj; exact ⟨g, e, stays hb hg⟩⟩

end Go.Proofs.YtpppggicihfbgaaGreat.Fsm

/- An automaton with its counter and its timer, as a function on numbers. -/
namespace Go.Proofs.YtpppggicihfbgaaGreat.Aut
open Go.RowKit Go.Proofs.YtpppggicihfbgaaGreat.Oct Go.Proofs.YtpppggicihfbgaaGreat.Row Go.Proofs.YtpppggicihfbgaaGreat.Mem Go.Proofs.YtpppggicihfbgaaGreat.Fsm

structure Au where
  r : Nat
  mc : Nat
  mt : Nat
  s : Nat
  c : Nat
  l : Nat
def av (x : Au) : List Value := [.int .i64 x.r, .int .i64 x.mc, .int .i64 x.mt, .int .u8 x.s, .int .i64 x.c, .int .i64 x.l]

def eff (set a : Nat) (x : Au) : Au :=
  if a = 16 then { x with c := if has set 512 then x.mt else x.mc }
  else if a = 32 then { x with c := 0, l := x.r }
  else if a = 64 ∨ a = 512 then { x with c := x.c - 1, l := x.r }
  else x
def actsL (set : Nat) (l : List Nat) (x : Au) : Au := l.foldl (fun y a => eff set a y) x
theorem actsL_snoc (set : Nat) (l : List Nat) (a : Nat) (x : Au) : actsL set (l ++ [a]) x = eff set a (actsL set l x) := by unfold actsL; rw [List.foldl_append]; rfl
def acts (set : Nat) (x : Au) : Au := actsL set (bitsTo set 13) x
theorem acts_more (set k : Nat) (x : Au) : actsL set (bitsTo set (k + 1)) x = if has set (2 ^ k) then eff set (2 ^ k) (actsL set (bitsTo set k) x) else actsL set (bitsTo set k) x := by
  rw [bitsTo_more, has_bit]
  cases set.testBit k
  · rfl
  · exact actsL_snoc _ _ _ _
theorem eff_other (set a : Nat) (x : Au) (h : (decide (a = 16) || decide (a = 32) || decide (a = 64) || decide (a = 512)) = false) : eff set a x = x := by
  simp only [Bool.or_eq_false_iff, decide_eq_false_iff_not] at h
  unfold eff
  rw [if_neg h.1.1.1, if_neg h.1.1.2, if_neg (by omega)]
theorem acts_skip (set k : Nat) (x : Au) (h : (decide (2 ^ k = 16) || decide (2 ^ k = 32) || decide (2 ^ k = 64) || decide (2 ^ k = 512)) = false) : actsL set (bitsTo set (k + 1)) x = actsL set (bitsTo set k) x := by
  rw [acts_more, eff_other set _ _ h, ite_self]
theorem acts_nil (set : Nat) (x : Au) : actsL set (bitsTo set 0) x = x := rfl
theorem acts_is (set : Nat) (x : Au) : acts set x =
    (let y0 := if has set 16 then eff set 16 x else x
     let y1 := if has set 32 then eff set 32 y0 else y0
     let y2 := if has set 64 then eff set 64 y1 else y1
     if has set 512 then eff set 512 y2 else y2) := by
  unfold acts
  rw [acts_skip set 12 x (by decide), acts_skip set 11 x (by decide), acts_skip set 10 x (by decide), acts_more set 9, acts_skip set 8 x (by decide), acts_skip set 7 x (by decide), acts_more set 6, acts_more set 5, acts_more set 4, acts_skip set 3 x (by decide), acts_skip set 2 x (by decide), acts_skip set 1 x (by decide), acts_skip set 0 x (by decide), acts_nil]
def rc (set : Nat) (x : Au) : Au :=
  let y0 : Au := if has set 16 then (if has set 512 then { x with c := x.mt } else { x with c := x.mc }) else x
  let y1 : Au := if has set 32 then { y0 with c := 0, l := x.r } else y0
  if has set 576 then { y1 with c := y1.c - 1, l := x.r } else y1
def fin (n : Nat) (x : Au) : Au := { x with s := n, l := if timed n then x.l else 0 }
def come (x : Au) (e : Nat) : Au := if nE x.s e = 0 then fin (nN x.s e) (acts (nA x.s e) x) else x

/-! ### what the table has -/
def tabOk (e s : Nat) : Bool :=
  let x := at_ e s
  !x.c || (decide (x.n < 10) && decide (x.a < 65536) && (has x.a 576 == (has x.a 64 || has x.a 512)) && !(has x.a 64 && has x.a 512) && (!timed x.n || timed s || has x.a 32 || has x.a 64 || has x.a 512))
theorem tab_ok : ∀ e, e < 16 → ∀ s, s < 10 → tabOk e s = true := by decide +kernel
theorem next_of {s e : Nat} (hs : s < 10) (he : e < 16) : nE s e = (if (at_ e s).c then 0 else 120) ∧ nA s e = (if (at_ e s).c then (at_ e s).a else 0) ∧ nN s e = (if (at_ e s).c then (at_ e s).n else 0) := by
  unfold nE nA nN
  have h : ¬ (10 ≤ s ∨ 16 ≤ e) := by omega
  simp only [if_neg h, and_self]
theorem nE_big {s e : Nat} (he : 16 ≤ e) : nE s e = 2 ∧ nA s e = 0 ∧ nN s e = 0 := by
  unfold nE nA nN
  have h : 10 ≤ s ∨ 16 ≤ e := .inr he
  simp only [if_pos h, and_self]
theorem tab_spec {s e : Nat} (hs : s < 10) (h0 : nE s e = 0) : nN s e < 10 ∧ nA s e < 65536 ∧ has (nA s e) 576 = (has (nA s e) 64 || has (nA s e) 512) ∧ (has (nA s e) 64 && has (nA s e) 512) = false ∧ (!timed (nN s e) || timed s || has (nA s e) 32 || has (nA s e) 64 || has (nA s e) 512) = true := by
  by_cases he : e < 16
  · have h1 := tab_ok e he s hs
    obtain ⟨h2, h3, h4⟩ := next_of hs he
    cases hc : (at_ e s).c
    · rw [h2, hc] at h0; cases h0
    · rw [h3, h4, hc]
      unfold tabOk at h1
      simp only [hc, Bool.not_true, Bool.false_or, Bool.and_eq_true, decide_eq_true_eq, beq_iff_eq, Bool.not_eq_true'] at h1
      obtain ⟨⟨⟨⟨h5, h6⟩, h7⟩, h8⟩, h9⟩ := h1
      exact ⟨h5, h6, h7, h8, h9⟩
  · rw [(nE_big (by omega)).1] at h0; cases h0
theorem nA_lt (s e : Nat) (hs : s < 10) : nA s e < 65536 := by
  by_cases h0 : nE s e = 0
  · exact (tab_spec hs h0).2.1
  · by_cases he : e < 16
    · obtain ⟨h2, h3, h4⟩ := next_of hs he
      cases hc : (at_ e s).c
      · rw [h3, hc]; exact Nat.zero_lt_succ _
      · rw [h2, hc] at h0; exact absurd rfl h0
    · rw [(nE_big (by omega)).2.1]; exact Nat.zero_lt_succ _
theorem nA_no {s e : Nat} (hs : s < 10) (h0 : nE s e ≠ 0) : nA s e = 0 := by
  by_cases he : e < 16
  · obtain ⟨h2, h3, h4⟩ := next_of hs he
    cases hc : (at_ e s).c
    · rw [h3, hc]; rfl
    · rw [h2, hc] at h0; exact absurd rfl h0
  · exact (nE_big (by omega)).2.1

/-! ### what holds of an automaton -/
structure Inv (x : Au) : Prop where
  r1 : 1 ≤ x.r
  r2 : x.r ≤ 1000
  m1 : 1 ≤ x.mc
  m2 : x.mc ≤ 20
  t1 : 1 ≤ x.mt
  t2 : x.mt ≤ 20
  s : x.s < 10
  c : x.c ≤ max x.mc x.mt
  l : x.l ≤ x.r
  t : timed x.s = decide (0 < x.l)
def Same (x y : Au) : Prop := y.r = x.r ∧ y.mc = x.mc ∧ y.mt = x.mt
theorem Same.refl (x : Au) : Same x x := ⟨rfl, rfl, rfl⟩
theorem Same.trans {x y z : Au} (h : Same x y) (k : Same y z) : Same x z := ⟨k.1.trans h.1, k.2.1.trans h.2.1, k.2.2.trans h.2.2⟩
theorem eff_same (set a : Nat) (x : Au) : Same x (eff set a x) := by
  unfold eff
  split <;> (try split) <;> (try split) <;> exact ⟨rfl, rfl, rfl⟩
theorem actsL_same (set : Nat) : ∀ (l : List Nat) (x : Au), Same x (actsL set l x)
  | [], x => .refl x
  | a :: l, x => (eff_same set a x).trans (actsL_same set l _)
theorem eff_bounds (set a : Nat) (x : Au) (hc : x.c ≤ max x.mc x.mt) (hl : x.l ≤ x.r) : (eff set a x).c ≤ max x.mc x.mt ∧ (eff set a x).l ≤ x.r := by
  unfold eff
  split
  · split <;> exact ⟨by simp only []; omega, hl⟩
  · split
    · exact ⟨by simp, Nat.le_refl _⟩
    · split
      · exact ⟨by simp only []; omega, Nat.le_refl _⟩
      · exact ⟨hc, hl⟩
theorem actsL_bounds (set : Nat) : ∀ (l : List Nat) (x : Au), x.c ≤ max x.mc x.mt → x.l ≤ x.r → (actsL set l x).c ≤ max x.mc x.mt ∧ (actsL set l x).l ≤ x.r
  | [], x, hc, hl => ⟨hc, hl⟩
  | a :: l, x, hc, hl => by
    have h := eff_bounds set a x hc hl
    obtain ⟨e1, e2, e3⟩ := eff_same set a x
    have h2 := actsL_bounds set l (eff set a x) (by rw [e2, e3]; exact h.1) (by rw [e1]; exact h.2)
    rw [e1, e2, e3] at h2
    exact h2
theorem acts_pos (set : Nat) (x : Au) (hr : 1 ≤ x.r) (h : (decide (0 < x.l) || has set 32 || has set 64 || has set 512) = true) : 0 < (acts set x).l := by
  rw [acts_is]
  unfold eff
  cases has set 16 <;> cases h5 : has set 32 <;> cases h6 : has set 64 <;> cases h9 : has set 512 <;> simp_all <;> omega
theorem come_inv {x : Au} (h : Inv x) (e : Nat) : Inv (come x e) := by
  unfold come
  split
  · next h0 =>
    obtain ⟨f1, _, _, _, f5⟩ := tab_spec h.s h0
    obtain ⟨e1, e2, e3⟩ : Same x (acts (nA x.s e) x) := actsL_same _ _ x
    obtain ⟨b1, b2⟩ : (acts (nA x.s e) x).c ≤ max x.mc x.mt ∧ (acts (nA x.s e) x).l ≤ x.r := actsL_bounds _ _ x h.c h.l
    have hp : timed (nN x.s e) = true → 0 < (acts (nA x.s e) x).l := fun ht => acts_pos _ x h.r1 (by rw [ht, h.t] at f5; simpa using f5)
    generalize acts (nA x.s e) x = y at *
    generalize nN x.s e = n at *
    obtain ⟨yr, ymc, ymt, ys, yc, yl⟩ := y
    simp only at e1 e2 e3 b1 b2 hp
    subst e1 e2 e3
    refine ⟨h.r1, h.r2, h.m1, h.m2, h.t1, h.t2, f1, b1, ?_, ?_⟩
    · unfold fin
      show (if timed n then yl else 0) ≤ x.r
      split
      · exact b2
      · exact Nat.zero_le _
    · unfold fin
      show timed n = decide (0 < if timed n then yl else 0)
      cases ht : timed n
      · rfl
      · rw [if_pos rfl, decide_eq_true (hp ht)]
  · exact h
def tev (x : Au) : Nat := if x.c = 0 then 5 else 4
def tk (x : Au) : Au := if x.l = 0 then x else if x.l = 1 then come { x with l := x.r } (tev x) else { x with l := x.l - 1 }
def tkS (x : Au) : Nat := if x.l = 1 then nA x.s (tev x) else 0
theorem wound {x : Au} (h : Inv x) (h1 : x.l = 1) : Inv { x with l := x.r } :=
  ⟨h.r1, h.r2, h.m1, h.m2, h.t1, h.t2, h.s, h.c, Nat.le_refl _, by
    show timed x.s = decide (0 < x.r)
    rw [h.t, decide_eq_true (show 0 < x.r from h.r1), decide_eq_true (show 0 < x.l by omega)]⟩
theorem tk_inv {x : Au} (h : Inv x) : Inv (tk x) := by
  unfold tk
  split
  · exact h
  · split
    · next h1 => exact come_inv (wound h h1) _
    · next h0 h1 =>
      exact ⟨h.r1, h.r2, h.m1, h.m2, h.t1, h.t2, h.s, h.c, Nat.le_trans (Nat.sub_le _ _) h.l, by
        show timed x.s = decide (0 < x.l - 1)
        rw [h.t, decide_eq_true (show 0 < x.l by omega), decide_eq_true (show 0 < x.l - 1 by omega)]⟩
theorem tkS_lt {x : Au} (h : Inv x) : tkS x < 65536 := by
  unfold tkS
  split
  · exact nA_lt _ _ h.s
  · decide
end Go.Proofs.YtpppggicihfbgaaGreat.Aut

/- The automaton in memory; its getters; what its actions do to it. -/
namespace Go.Proofs.YtpppggicihfbgaaGreat.Aut
open Go.RowKit Go.Proofs.YtpppggicihfbgaaGreat.Oct Go.Proofs.YtpppggicihfbgaaGreat.Row Go.Proofs.YtpppggicihfbgaaGreat.Mem Go.Proofs.YtpppggicihfbgaaGreat.Fsm

def Aut (w : World) (g : Nat) (x : Au) : Prop := Blk w g (av x) 121
theorem Aut.lt {w : World} {g : Nat} {x : Au} (h : Aut w g x) : g < w.heap.size := Blk.lt h
theorem Aut.c {w : World} {g : Nat} {x : Au} (h : Aut w g x) (i : Nat) : w.cell? ⟨g, i, none⟩ = (av x)[i]? := Blk.at_ h i
theorem Aut.f {w : World} {g : Nat} {x : Au} (h : Aut w g x) (i : Nat) : w.frozen? ⟨g, i, none⟩ = false := Blk.frozen h i
theorem Aut.moves {S : Nat → Prop} {w w' : World} {g : Nat} {x : Au} (h : Aut w g x) (hm : Moves S w w') (hs : ¬ S g) : Aut w' g x := Blk.moves h hm hs
theorem Aut.callee {w w' : World} {g : Nat} {x : Au} (h : Aut w g x) (hb : Below w.heap.size w w') : Aut w' g x := Blk.callee h hb
theorem Aut.alloc {w : World} {g : Nat} {x : Au} (h : Aut w g x) (o : Obj) : Aut (w.alloc o) g x := Blk.alloc h o
theorem Aut.setC {w : World} {g : Nat} {x : Au} (h : Aut w g x) (n : Nat) : Aut (w.setCell ⟨g, 4, none⟩ (.int .i64 n)) g { x with c := n } := Blk.set h 4 (.int .i64 n)
theorem Aut.setL {w : World} {g : Nat} {x : Au} (h : Aut w g x) (n : Nat) : Aut (w.setCell ⟨g, 5, none⟩ (.int .i64 n)) g { x with l := n } := Blk.set h 5 (.int .i64 n)
theorem Aut.setS {w : World} {g : Nat} {x : Au} (h : Aut w g x) (n : Nat) : Aut (w.setCell ⟨g, 3, none⟩ (.int .u8 n)) g { x with s := n } := Blk.set h 3 (.int .u8 n)

/-! ### getters -/
set_option maxHeartbeats 400000 in
set_option maxRecDepth 100000 in
theorem state_any (g : Nat) (x : Au) (w : World) (h : Aut w g x) : Calls Tryz.prog 31 #[.pointer (some ⟨g, 0, none⟩)] w fun e w' => e = .returned (.int .u8 x.s) ∧ w = w' := by
  have c3 : w.cell? ⟨g, 3, none⟩ = some (.int .u8 x.s) := h.c 3
  clear h
  go_enter Tryz.func31, Tryz.ntmps31
  go_wp2
  go_ret
  exact ⟨rfl, rfl⟩
/-! ### nil -/
/-! ### actions -/
def EffP (g set a : Nat) (x : Au) (w : World) (e : Ending) (w' : World) : Prop := e = .returned (.tuple #[]) ∧ Aut w' g (eff set a x) ∧ Moves (fun k => k = g) w w'
theorem set_moves (w : World) (g i : Nat) (v : Value) : Moves (fun k => k = g) w (w.setCell ⟨g, i, none⟩ v) := ⟨rfl, rfl, rfl, by simp [World.setCell], fun k _ hk => Below.heap_setCell _ _ _ _ hk⟩
set_option maxHeartbeats 1000000 in
set_option maxRecDepth 100000 in
theorem zero_any (g set : Nat) (x : Au) (w : World) (h : Aut w g x) : Calls Tryz.prog 75 #[.pointer (some ⟨g, 0, none⟩), .int .u16 set] w (EffP g set 32 x w) := by
  have c0 : w.cell? ⟨g, 0, none⟩ = some (.int .i64 x.r) := h.c 0
  have c4 : w.cell? ⟨g, 4, none⟩ = some (.int .i64 x.c) := h.c 4
  have c5 : w.cell? ⟨g, 5, none⟩ = some (.int .i64 x.l) := h.c 5
  have f4 := h.f 4
  have f5 := h.f 5
  have H := Lib.hid h
  clear h
  go_enter Tryz.func75, Tryz.ntmps75
  go_wp2
  go_end0
  exact ⟨rfl, (H.out.setC 0).setL x.r, (set_moves _ _ _ _).trans (set_moves _ _ _ _) (fun _ _ h => h)⟩
set_option maxHeartbeats 1000000 in
set_option maxRecDepth 100000 in
theorem count_any (g set a : Nat) (x : Au) (w : World) (h : Aut w g x) (ha : a = 64 ∨ a = 512) (hc : x.c ≤ 20) : Calls Tryz.prog 76 #[.pointer (some ⟨g, 0, none⟩), .int .u16 set] w (EffP g set a x w) := by
  have c0 : w.cell? ⟨g, 0, none⟩ = some (.int .i64 x.r) := h.c 0
  have c4 : w.cell? ⟨g, 4, none⟩ = some (.int .i64 x.c) := h.c 4
  have c5 : w.cell? ⟨g, 5, none⟩ = some (.int .i64 x.l) := h.c 5
  have f4 := h.f 4
  have f5 := h.f 5
  have H := Lib.hid h
  have HE : Hid (eff set a x = { x with c := x.c - 1, l := x.r }) := by
    show _ = _
    rcases ha with rfl | rfl <;> rfl
  have hc1 : (x.c : Int) ≤ 20 := by omega
  have hc0 : (0 : Int) ≤ (x.c : Int) := Int.natCast_nonneg _
  clear h ha hc
  go_enter Tryz.func76, Tryz.ntmps76
  go_wp2
  all_goals go_end0
  all_goals unfold EffP
  all_goals rw [HE.out]
  · have e : x.c - 1 = 0 := by omega
    rw [e]
    exact ⟨rfl, (H.out.setC 0).setL x.r, (set_moves _ _ _ _).trans (set_moves _ _ _ _) (fun _ _ h => h)⟩
  · have e : (x.c : Int) - 1 = ((x.c - 1 : Nat) : Int) := by omega
    rw [e]
    exact ⟨rfl, (H.out.setC (x.c - 1)).setL x.r, (set_moves _ _ _ _).trans (set_moves _ _ _ _) (fun _ _ h => h)⟩
set_option maxHeartbeats 1000000 in
set_option maxRecDepth 100000 in
theorem init_any (g set : Nat) (x : Au) (w : World) (h : Aut w g x) (hs : set < 65536) : Calls Tryz.prog 74 #[.pointer (some ⟨g, 0, none⟩), .int .u16 set] w (EffP g set 16 x w) := by
  have c1 : w.cell? ⟨g, 1, none⟩ = some (.int .i64 x.mc) := h.c 1
  have c2 : w.cell? ⟨g, 2, none⟩ = some (.int .i64 x.mt) := h.c 2
  have c4 : w.cell? ⟨g, 4, none⟩ = some (.int .i64 x.c) := h.c 4
  have f4 := h.f 4
  have H := Lib.hid h
  have hb : (bits .and .u16 (set : Int) 512 != 0) = has set 512 := has_bits set 512 hs (by decide)
  cases h5 : has set 512
  · rw [h5] at hb
    have HE : Hid (eff set 16 x = { x with c := x.mc }) := by
      show _ = _
      unfold eff
      rw [h5]
      rfl
    clear h h5 hs
    go_enter Tryz.func74, Tryz.ntmps74
    go_wp2
    go_end0
    unfold EffP
    rw [HE.out]
    exact ⟨rfl, H.out.setC _, set_moves _ _ _ _⟩
  · rw [h5] at hb
    have HE : Hid (eff set 16 x = { x with c := x.mt }) := by
      show _ = _
      unfold eff
      rw [h5]
      rfl
    clear h h5 hs
    go_enter Tryz.func74, Tryz.ntmps74
    go_wp2
    go_end0
    unfold EffP
    rw [HE.out]
    exact ⟨rfl, (H.out.setC x.mc).setC x.mt, (set_moves _ _ _ _).trans (set_moves _ _ _ _) (fun _ _ h => h)⟩
end Go.Proofs.YtpppggicihfbgaaGreat.Aut

/- auto's map of what the actions do, and how an event occurs. -/
namespace Go.Proofs.YtpppggicihfbgaaGreat.Aut
open Go.RowKit Go.Proofs.YtpppggicihfbgaaGreat.Oct Go.Proofs.YtpppggicihfbgaaGreat.Row Go.Proofs.YtpppggicihfbgaaGreat.Mem Go.Proofs.YtpppggicihfbgaaGreat.Fsm Go.ChangeMaps

def kn (a : Nat) : Bool := decide (a = 16) || decide (a = 32) || decide (a = 64) || decide (a = 512)
def fn (a : Nat) : Nat := if a = 16 then 74 else if a = 32 then 75 else 76
theorem kn_cases {a : Nat} (h : kn a = true) : a = 16 ∨ a = 32 ∨ a = 64 ∨ a = 512 := by
  simp only [kn, Bool.or_eq_true, decide_eq_true_eq] at h
  omega
theorem eff_any {a : Nat} (ha : kn a = true) (g set : Nat) (x : Au) (w : World) (h : Aut w g x) (hs : set < 65536) (hc : x.c ≤ 20) : Calls Tryz.prog (fn a) #[.pointer (some ⟨g, 0, none⟩), .int .u16 set] w (EffP g set a x w) := by
  rcases kn_cases ha with rfl | rfl | rfl | rfl
  · exact init_any g set x w h hs
  · exact zero_any g set x w h
  · exact count_any g set 64 x w h (.inl rfl) hc
  · exact count_any g set 512 x w h (.inr rfl) hc
set_option maxRecDepth 100000 in
theorem eff_enters {a : Nat} (ha : kn a = true) : ∀ args w, (callFunc (fn a) args).run Tryz.prog w = .ok (.enter (fn a) args) w := by
  rcases kn_cases ha with rfl | rfl | rfl | rfl
  · exact enters_of Tryz.func74 (by kernel_rfl) rfl
  · exact enters_of Tryz.func75 (by kernel_rfl) rfl
  · exact enters_of Tryz.func76 (by kernel_rfl) rfl
  · exact enters_of Tryz.func76 (by kernel_rfl) rfl
def doV (a : Nat) : Value := .agg #[.func (.func (fn a)) #[] #[]]
def ents : Array MapEntry := #[⟨.int .u16 16, doV 16, 0⟩, ⟨.int .u16 32, doV 32, 1⟩, ⟨.int .u16 64, doV 64, 2⟩, ⟨.int .u16 512, doV 512, 3⟩]
def Mp (W : World) (m : Nat) : Prop := W.heap[m]? = some (.map ents 4)
theorem Mp.lt {W : World} {m : Nat} (h : Mp W m) : m < W.heap.size := (Array.getElem?_eq_some_iff.1 h).1
theorem Mp.callee {W W' : World} {m : Nat} (h : Mp W m) (hb : Below W.heap.size W W') : Mp W' m := (hb.block m h.lt).trans h
theorem Mp.moves {S : Nat → Prop} {W W' : World} {m : Nat} (h : Mp W m) (hm : Moves S W W') (hs : ¬ S m) : Mp W' m := (hm.block m h.lt hs).trans h
theorem find_no (n : Int) : ∀ (es : List MapEntry) (i : Nat), (∀ e ∈ es, ∃ k, e.key = .int .u16 k ∧ (n == k) = false) → Instr.findNow (.int .u16) (.int .u16 n) es i = some none
  | [], _, _ => rfl
  | e :: es, i, h => by
    obtain ⟨k, hk, hn⟩ := h e (by simp)
    unfold Instr.findNow
    rw [hk]
    simp only [Instr.sameNow, if_true, hn]
    exact find_no n es (i + 1) fun x hx => h x (by simp [hx])
theorem run_key (w : World) (em : Bool) (n : Int) : (Instr.checkKey em 10000 22 (.int .u16 n)).run Tryz.prog w = .ok () w := by
  have h := run_underlying (w := w) Tryz.underlying22
  unfold Instr.checkKey
  simp [h, Result.andThen]
theorem push_set {α : Type} (a : Array α) (x y : α) : (a.push x).setIfInBounds a.size y = a.push y := by
  apply Array.ext_getElem?
  intro i
  rw [Array.getElem?_setIfInBounds, Array.getElem?_push, Array.getElem?_push, Array.size_push]
  by_cases hi : a.size = i
  · subst hi
    rw [if_pos rfl, if_pos (Nat.lt_succ_self _), if_pos rfl]
  · rw [if_neg hi, if_neg (Ne.symm hi), if_neg (Ne.symm hi)]
theorem run_lay {w W : World} {m c : Nat} {es : Array MapEntry} (n : Int) (v : Value) (h : W = w.alloc (.map es c)) (hm : m = w.heap.size) (hn : ∀ e ∈ es.toList, ∃ k, e.key = .int .u16 k ∧ (n == k) = false) :
    ∃ W', (Instr.mapUpdate 139 (.map (some m)) (.int .u16 n) v).run Tryz.prog W = .ok () W' ∧ W' = w.alloc (.map (es.push ⟨.int .u16 n, v, c⟩) (c + 1)) := by
  subst h hm
  refine ⟨_, ?_, rfl⟩
  have hb := (MapKept.heap_alloc w (.map es c)).1
  have h1 := run_underlying (w := w.alloc (.map es c)) Tryz.underlying22
  have h2 := run_underlying (w := w.alloc (.map es c)) Tryz.underlying139
  have h3 := run_key (w.alloc (.map es c)) false n
  have h4 := MapKept.run_setObj_map (P := Tryz.prog) (.map (es.push ⟨.int .u16 n, v, c⟩) (c + 1)) hb
  have e : { w.alloc (.map es c) with heap := (w.alloc (.map es c)).heap.setIfInBounds w.heap.size (.map (es.push ⟨.int .u16 n, v, c⟩) (c + 1)) } = w.alloc (.map (es.push ⟨.int .u16 n, v, c⟩) (c + 1)) :=
    congrArg (fun h : Array Obj => { w with heap := h }) (push_set w.heap (.map es c) (.map (es.push ⟨.int .u16 n, v, c⟩) (c + 1)))
  rw [e] at h4
  simp [Instr.mapUpdate, h2, MapKept.run_getObj_map hb, h3, Instr.findKey, h1, find_no n es.toList 0 hn, h4, Result.andThen]
set_option maxHeartbeats 1000000 in
set_option maxRecDepth 100000 in
theorem effects_any (w : World) : Calls Tryz.prog 57 #[] w fun e w' => ∃ m, e = .returned (.map (some m)) ∧ Mp w' m ∧ w.heap.size ≤ m ∧ Below w.heap.size w w' := by
  have hmm := @run_makeMap Tryz.prog
  obtain ⟨W1, h1, e1⟩ := run_lay (w := w) (c := 0) (es := #[]) 16 (doV 16) rfl rfl (by intro e he; simp at he)
  obtain ⟨W2, h2, e2⟩ := run_lay (w := w) 32 (doV 32) e1 rfl (by intro e he; simp at he; subst he; exact ⟨16, rfl, rfl⟩)
  obtain ⟨W3, h3, e3⟩ := run_lay (w := w) 64 (doV 64) e2 rfl (by intro e he; simp at he; rcases he with rfl | rfl; exact ⟨16, rfl, rfl⟩; exact ⟨32, rfl, rfl⟩)
  obtain ⟨W4, h4, e4⟩ := run_lay (w := w) 512 (doV 512) e3 rfl (by intro e he; simp at he; rcases he with rfl | rfl | rfl; exact ⟨16, rfl, rfl⟩; exact ⟨32, rfl, rfl⟩; exact ⟨64, rfl, rfl⟩)
  have H : Hid (Mp W4 w.heap.size ∧ Below w.heap.size w W4) := by
    subst e4
    exact ⟨(MapKept.heap_alloc w _).1, (Below.refl _ _).alloc (Nat.le_refl _) _⟩
  clear e1 e2 e3 e4
  simp only [doV, fn] at h1 h2 h3 h4
  simp only [if_true, show ¬ (32 : Nat) = 16 by decide, show ¬ (64 : Nat) = 16 by decide, show ¬ (64 : Nat) = 32 by decide, show ¬ (512 : Nat) = 16 by decide, show ¬ (512 : Nat) = 32 by decide, if_false] at h1 h2 h3 h4
  go_enter Tryz.func57, Tryz.ntmps57
  go_wp2
  go_ret
  exact ⟨_, rfl, H.out.1, Nat.le_refl _, H.out.2⟩

/-! ### looking up -/
theorem find_yes (n : Int) (v : Value) : ∀ (es : List MapEntry) (i : Nat), (∀ e ∈ es, ∃ k, e.key = .int .u16 k) → (∃ e ∈ es, e.key = .int .u16 n) → (∀ e ∈ es, e.key = .int .u16 n → e.val = v) → ∃ j, Instr.findNow (.int .u16) (.int .u16 n) es i = some (some (j, v))
  | [], _, _, h, _ => by obtain ⟨e, he, _⟩ := h; cases he
  | e :: es, i, hk, hx, hv => by
    obtain ⟨k, ek⟩ := hk e (by simp)
    unfold Instr.findNow
    rw [ek]
    simp only [Instr.sameNow, if_true]
    by_cases hn : n = k
    · subst hn
      simp only [beq_self_eq_true]
      exact ⟨i, by rw [hv e (by simp) ek]⟩
    · rw [show (n == k) = false from beq_eq_false_iff_ne.2 hn]
      refine find_yes n v es (i + 1) (fun x hx => hk x (by simp [hx])) ?_ (fun x hx => hv x (by simp [hx]))
      obtain ⟨y, hy, ey⟩ := hx
      rcases List.mem_cons.1 hy with rfl | hy
      · rw [ek] at ey; cases ey; exact absurd rfl hn
      · exact ⟨y, hy, ey⟩
theorem ents_mem {e : MapEntry} (h : e ∈ ents.toList) : ∃ t : Nat, kn t = true ∧ e.key = .int .u16 (t : Int) ∧ e.val = doV t := by
  simp only [ents, List.mem_cons, List.not_mem_nil, or_false] at h
  rcases h with rfl | rfl | rfl | rfl
  · exact ⟨16, rfl, rfl, rfl⟩
  · exact ⟨32, rfl, rfl, rfl⟩
  · exact ⟨64, rfl, rfl, rfl⟩
  · exact ⟨512, rfl, rfl, rfl⟩
theorem mem_ents {t : Nat} (h : kn t = true) : ∃ e ∈ ents.toList, e.key = .int .u16 (t : Int) := by
  rcases kn_cases h with e | e | e | e <;> subst e
  · exact ⟨⟨.int .u16 16, doV 16, 0⟩, by simp [ents], rfl⟩
  · exact ⟨⟨.int .u16 32, doV 32, 1⟩, by simp [ents], rfl⟩
  · exact ⟨⟨.int .u16 64, doV 64, 2⟩, by simp [ents], rfl⟩
  · exact ⟨⟨.int .u16 512, doV 512, 3⟩, by simp [ents], rfl⟩
theorem look_yes {t : Nat} (ht : kn t = true) {W : World} {m : Nat} (h : Mp W m) :
    (Instr.lookup 139 (.map (some m)) (.int .u16 t) true).run Tryz.prog W = .ok (.tuple #[doV t, .bool true]) W := by
  have h1 := run_underlying (w := W) Tryz.underlying22
  have h2 := run_underlying (w := W) Tryz.underlying139
  have h3 := run_key W ents.isEmpty t
  obtain ⟨j, hj⟩ := find_yes t (doV t) ents.toList 0 (fun e he => by obtain ⟨u, _, hk, _⟩ := ents_mem he; exact ⟨_, hk⟩) (mem_ents ht) (fun e he hk => by
    obtain ⟨u, _, hk', hv⟩ := ents_mem he
    have e2 := hk.symm.trans hk'
    simp only [Value.int.injEq, true_and] at e2
    rw [hv, show t = u by omega])
  have hb : W.heap[m]? = some (.map ents 4) := h
  simp [Instr.lookup, h2, MapKept.run_getObj_map hb, h3, Instr.findKey, h1, hj, Result.andThen]
theorem look_no {t : Nat} (ht : kn t = false) {W : World} {m : Nat} (h : Mp W m) :
    (Instr.lookup 139 (.map (some m)) (.int .u16 t) true).run Tryz.prog W = .ok (.tuple #[.agg #[.nilFunc], .bool false]) W := by
  have h1 := run_underlying (w := W) Tryz.underlying22
  have h2 := run_underlying (w := W) Tryz.underlying139
  have h3 := run_key W ents.isEmpty t
  have hj := find_no t ents.toList 0 (fun e he => by
    obtain ⟨u, hu, hk, _⟩ := ents_mem he
    refine ⟨_, hk, beq_eq_false_iff_ne.2 fun e => ?_⟩
    have : t = u := by omega
    rw [this, hu] at ht
    cases ht)
  have hb : W.heap[m]? = some (.map ents 4) := h
  simp [Instr.lookup, h2, MapKept.run_getObj_map hb, h3, Instr.findKey, h1, hj, Result.andThen]
end Go.Proofs.YtpppggicihfbgaaGreat.Aut

/- How an event occurs. -/
namespace Go.Proofs.YtpppggicihfbgaaGreat.Aut
open Go.RowKit Go.Proofs.YtpppggicihfbgaaGreat.Oct Go.Proofs.YtpppggicihfbgaaGreat.Row Go.Proofs.YtpppggicihfbgaaGreat.Mem Go.Proofs.YtpppggicihfbgaaGreat.Fsm

def Occ (w wr : World) (g base m : Nat) (v : Value) (L : List Nat) (y : Au) : Prop :=
  wr.ownsRow base 22 1 v L.length (numsV L) ∧ Mp wr m ∧ Aut wr g y ∧ Moves (fun k => k = g) w wr
theorem Occ.moves {w wr w' : World} {g base m : Nat} {v : Value} {L : List Nat} {y y' : Au} (h : Occ w wr g base m v L y) (hm : Moves (fun k => k = g) wr w') (ha : Aut w' g y') (hb : g < base) (hg : g < m) : Occ w w' g base m v L y' :=
  ⟨hm.row h.1 (fun k hk e => by have := (h.1.lt k hk).1; omega), h.2.1.moves hm (by omega), ha, h.2.2.2.trans hm fun _ _ e => e⟩
theorem boxE (W : World) (v : Value) : ∃ V V2, W.alloc (.cells #[.nilFunc] 143) = V ∧ V.setCell ⟨W.heap.size, 0, none⟩ v = V2 ∧ V.cell? ⟨W.heap.size, 0, none⟩ = some .nilFunc ∧ V.frozen? ⟨W.heap.size, 0, none⟩ = false ∧ Hid (Blk V2 W.heap.size [v] 143 ∧ Below W.heap.size W V2) := by
  have h := blk_new W [.nilFunc] 143
  exact ⟨_, _, rfl, rfl, h.at_ 0, h.frozen 0, h.set 0 v, ((Below.refl W.heap.size W).alloc (Nat.le_refl _) _).setCell (p := ⟨W.heap.size, 0, none⟩) (Nat.le_refl _) _⟩
theorem eff_none {a : Nat} (h : kn a = false) (set : Nat) (x : Au) : eff set a x = x := eff_other set a x h
theorem actsL_take {L : List Nat} {j : Nat} (h : j < L.length) (set : Nat) (x : Au) : actsL set (L.take (j + 1)) x = eff set L[j] (actsL set (L.take j) x) := by
  rw [List.take_succ_eq_append_getElem h, actsL_snoc]
theorem setS_moves {w wr : World} {g : Nat} (h : Moves (fun k => k = g) w wr) (i : Nat) (v : Value) : Moves (fun k => k = g) w (wr.setCell ⟨g, i, none⟩ v) := h.setCell ⟨g, i, none⟩ (fun _ => rfl) v

def OccQ (x : Au) (e g : Nat) (w : World) (o : Ending) (w' : World) : Prop := o = .returned (.tuple #[.int .u16 (nA x.s e), .int .i64 (nE x.s e)]) ∧ Aut w' g (come x e) ∧ Moves (fun k => k = g) w w'
set_option maxHeartbeats 4000000 in
set_option maxRecDepth 100000 in
theorem occur_any (x : Au) (g e : Nat) (w : World) (h : Aut w g x) (hi : Inv x) : Calls Tryz.prog 43 #[.pointer (some ⟨g, 0, none⟩), .int .u8 e] w (OccQ x e g w) := by
  have HN : Hid (∀ w, Calls Tryz.prog 33 #[.int .u8 x.s, .int .u8 e] w fun o w' => o = .returned (.tuple #[.int .u16 (nA x.s e), .int .u8 (nN x.s e), .int .i64 (nE x.s e)]) ∧ Below w.heap.size w w') := fun w => next_any x.s e w
  have c3 : w.cell? ⟨g, 3, none⟩ = some (.int .u8 x.s) := h.c 3
  have H := Lib.hid h
  have HI := Lib.hid hi
  unfold OccQ
  by_cases h0 : nE x.s e = 0
  · obtain ⟨hn, ha, _⟩ := tab_spec hi.s h0
    have HC : Hid (come x e = fin (nN x.s e) (acts (nA x.s e) x)) := if_pos h0
    have HA := Lib.hid ha
    have HL := Lib.hid (bitsTo_length (nA x.s e) 13)
    rw [h0] at HN ⊢
    rw [HC.out]
    unfold acts
    clear h hi h0 ha hn HC
    generalize nA x.s e = A at *
    generalize nN x.s e = N at *
    have HT := Lib.hid (fun w => timed_any N w)
    have HF : Hid (∀ y : Au, fin N y = { y with s := N, l := if timed N then y.l else 0 }) := fun _ => rfl
    have HX := Lib.hid (fun w => actions_any A w HA.out)
    generalize bitsTo A 13 = L at *
    have HZ : Hid (∀ j, (actsL A (L.take j) x).c ≤ 20) := fun j => by
      have := (actsL_bounds A (L.take j) x HI.out.c HI.out.l).1
      have := HI.out.m2
      have := HI.out.t2
      omega
    have HS : Hid (∀ j (hj : j < L.length), actsL A (L.take (j + 1)) x = eff A L[j] (actsL A (L.take j) x)) := fun j hj => actsL_take hj A x
    have H0 : Hid (actsL A (L.take 0) x = x) := rfl
    have hlen := HL.out
    go_enter Tryz.func43, Tryz.ntmps43
    go_wp2_with fail
    refine (HN.out _).mono ?_
    rintro o w1 ⟨rfl, hb1⟩
    have H1 := Lib.hid (H.out.callee hb1)
    have M1 : Hid (Moves (fun k => k = g) w w1) := Moves.of_below hb1
    clear c3 hb1 HN
    go_wp2_with fail
    refine (effects_any _).mono ?_
    rintro o w2 ⟨m, rfl, hm, hge, hb2⟩
    have hgm : Hid (g < m) := Nat.lt_of_lt_of_le H1.out.lt hge
    have H2 := Lib.hid (H1.out.callee hb2)
    have M2 := Lib.hid (M1.out.trans (Moves.of_below (S := fun k => k = g) hb2) fun _ _ e => e)
    have HM2 := Lib.hid hm
    clear hm hge hb2
    go_wp2_with fail
    refine (HX.out _).mono ?_
    rintro o w3 ⟨v, rfl, hown, hb3⟩
    obtain ⟨R, cc, hv, _⟩ := nums_at hown
    subst hv
    have hgb : Hid (g < w2.heap.size) := H2.out.lt
    have HO : Hid (Occ w w3 g w2.heap.size m (.slice R L.length cc) L x) := ⟨hown, HM2.out.callee hb3, H2.out.callee hb3, M2.out.trans (Moves.of_below hb3) fun _ _ e => e⟩
    clear hown hb3 HM2 H2 M2 H1 M1 HX
    generalize w2.heap.size = base at *
    go_wp2_with fail
    go_loopw [30] (fun i wr => ∃ j : Nat, j ≤ L.length ∧ i = .int .i64 j ∧ Hid (Occ w wr g base m (.slice R L.length cc) L (actsL A (L.take j) x))) (fun i _ => L.length - (intOf i).toNat)
    case atStart => exact ⟨0, Nat.zero_le _, rfl, by rw [H0.out]; exact HO⟩
    case round =>
      obtain ⟨j, hj, rfl, HF⟩ := hrel
      by_cases hlt : j < L.length
      · obtain ⟨R', c', hv', hcs⟩ := nums_at HF.out.1
        simp only [Value.slice.injEq, true_and] at hv'
        obtain ⟨rfl, rfl⟩ := hv'
        obtain ⟨q, rfl, hq⟩ := hcs j L[j] (List.getElem?_eq_getElem hlt)
        clear hcs
        have HS1 := Lib.hid (HS.out j hlt)
        have HZ1 := Lib.hid (HZ.out j)
        generalize L[j] = a at *
        obtain ⟨y', hy'⟩ : ∃ y', y' = actsL A (L.take (j + 1)) x := ⟨_, rfl⟩
        rw [← hy'] at HS1
        have HY' := Lib.hid hy'
        clear hy'
        generalize actsL A (L.take j) x = y at *
        cases hk : kn a
        · have hl := look_no hk HF.out.2.1
          obtain ⟨V0, V, hV0, hV, z0, g0, HV⟩ := boxE wr .nilFunc
          have HO2 : Hid (Occ w V g base m (.slice (some ⟨q, 0, none⟩) L.length cc) L y') := by
            rw [HS1.out, eff_none hk]
            exact HF.out.moves (Moves.of_below HV.out.2) (HF.out.2.2.1.callee HV.out.2) hgb.out hgm.out
          clear hk HF HS1 HZ1 HV HO
          go_wp2
          go_roundw
          case rel => exact ⟨j + 1, by omega, by go_num, by rw [← HY'.out]; exact HO2⟩
          case measure => simp [intOf]; omega
        · have hl := look_yes hk HF.out.2.1
          have HR := Lib.hid (fun w h => eff_any hk g A y w h HA.out HZ1.out)
          have hR := eff_enters hk
          simp only [doV] at hl
          generalize fn a = F at *
          obtain ⟨V0, V, hV0, hV, z0, g0, HV⟩ := boxE wr (.func (.func F) #[] #[])
          have HO2 : Hid (Occ w V g base m (.slice (some ⟨q, 0, none⟩) L.length cc) L y) := HF.out.moves (Moves.of_below HV.out.2) (HF.out.2.2.1.callee HV.out.2) hgb.out hgm.out
          have m0 : V.cell? ⟨wr.heap.size, 0, none⟩ = some (.func (.func F) #[] #[]) := Blk.at_ HV.out.1 0
          clear hk HF HV HO HZ1
          go_wp2_with fail
          refine (HR.out _ HO2.out.2.2.1).mono ?_
          rintro o w6 ⟨rfl, ha6, hm6⟩
          have HO3 : Hid (Occ w w6 g base m (.slice (some ⟨q, 0, none⟩) L.length cc) L y') := by
            rw [HS1.out]
            exact HO2.out.moves hm6 ha6 hgb.out hgm.out
          clear ha6 hm6 hV hV0 z0 g0 m0 HO2 hR HR hl hq HS1
          go_wp2
          go_roundw
          case rel => exact ⟨j + 1, by omega, by go_num, by rw [← HY'.out]; exact HO3⟩
          case measure => simp [intOf]; omega
      · obtain rfl : j = L.length := by omega
        have hgo := HF.out
        rw [List.take_length] at hgo
        have H4 := Lib.hid hgo.2.2.1
        have M4 := Lib.hid hgo.2.2.2
        have f3 := H4.out.f 3
        clear hgo HF HO hj hlt HZ HS H0
        obtain ⟨y, hy⟩ : ∃ y, y = actsL A L x := ⟨_, rfl⟩
        rw [← hy] at H4
        have c3 : wr.cell? ⟨g, 3, none⟩ = some (.int .u8 y.s) := H4.out.c 3
        have HY := Lib.hid hy
        clear hy
        go_wp2_with fail
        refine (HT.out _).mono ?_
        rintro o w5 ⟨rfl, e5⟩
        have H5 := Lib.hid (H4.out.setS N)
        have M5 := Lib.hid (setS_moves M4.out 3 (.int .u8 N))
        rw [e5] at H5 M5
        clear e5 c3 f3 H4 M4
        have c5 : w5.cell? ⟨g, 5, none⟩ = some (.int .i64 y.l) := H5.out.c 5
        have f5 := H5.out.f 5
        cases ht : timed N
        · rw [ht] at HT
          go_wp2
          go_ret2
          refine ⟨rfl, ?_, setS_moves M5.out 5 _⟩
          unfold fin
          rw [ht, ← HY.out]
          exact H5.out.setL 0
        · go_wp2
          go_ret2
          refine ⟨rfl, ?_, M5.out⟩
          unfold fin
          rw [ht, ← HY.out]
          exact H5.out
  · have HC : Hid (come x e = x) := if_neg h0
    have HA : Hid (nA x.s e = 0) := nA_no hi.s h0
    rw [HC.out, HA.out]
    rw [HA.out] at HN
    have hE : (((nE x.s e : Nat) : Int) != 0) = true := by rw [bne_iff_ne]; omega
    clear h0 h hi HC HA
    generalize nE x.s e = E at *
    generalize nN x.s e = N at *
    go_enter Tryz.func43, Tryz.ntmps43
    go_wp2_with fail
    refine (HN.out _).mono ?_
    rintro o w1 ⟨rfl, hb1⟩
    have H1 := Lib.hid (H.out.callee hb1)
    have M1 : Hid (Moves (fun k => k = g) w w1) := Moves.of_below hb1
    clear c3 hb1 HN
    go_wp2
    go_ret2
    exact ⟨rfl, H1.out, M1.out⟩
end Go.Proofs.YtpppggicihfbgaaGreat.Aut

/- Event, Tick, New and Copy of the program. -/
namespace Go.Proofs.YtpppggicihfbgaaGreat.Aut
open Go.RowKit Go.Proofs.YtpppggicihfbgaaGreat.Oct Go.Proofs.YtpppggicihfbgaaGreat.Row Go.Proofs.YtpppggicihfbgaaGreat.Mem Go.Proofs.YtpppggicihfbgaaGreat.Fsm

/-! ### Event -/
def evA (x : Au) (v : Nat) : Nat := if v = 4 ∨ v = 5 then 0 else nA x.s v
def evE (x : Au) (v : Nat) : Nat := if v = 4 ∨ v = 5 then 2 else nE x.s v
def evX (x : Au) (v : Nat) : Au := if v = 4 ∨ v = 5 then x else come x v
def EvQ (x : Au) (v g : Nat) (w : World) (o : Ending) (w' : World) : Prop := o = .returned (.tuple #[.int .u16 (evA x v), .int .i64 (evE x v)]) ∧ Aut w' g (evX x v) ∧ Moves (fun k => k = g) w w'
set_option maxHeartbeats 2000000 in
set_option maxRecDepth 100000 in
theorem event_any (x : Au) (g v : Nat) (w : World) (h : Aut w g x) (hi : Inv x) : Calls Tryz.prog 34 #[.pointer (some ⟨g, 0, none⟩), .int .u8 v] w (EvQ x v g w) := by
  unfold EvQ evA evE evX
  have H := Lib.hid h
  by_cases hv : v = 4 ∨ v = 5
  · simp only [if_pos hv]
    rcases hv with rfl | rfl
    all_goals
      clear h hi
      go_enter Tryz.func34, Tryz.ntmps34
      go_wp2
      go_ret2
      exact ⟨rfl, H.out, Moves.refl _ _⟩
  · simp only [if_neg hv]
    have HO := Lib.hid (occur_any x g v w h hi)
    have h4 : ((v : Int) == 4) = false := by rw [beq_eq_false_iff_ne]; omega
    have h5 : ((v : Int) == 5) = false := by rw [beq_eq_false_iff_ne]; omega
    clear h hi hv
    go_enter Tryz.func34, Tryz.ntmps34
    go_wp2_with fail
    refine HO.out.mono ?_
    rintro o w1 ⟨rfl, ha, hm⟩
    have HA := Lib.hid ha
    have HM := Lib.hid hm
    clear ha hm HO
    go_wp2
    go_ret2
    exact ⟨rfl, HA.out, HM.out⟩

/-! ### Copy -/
/-! ### New -/
set_option maxRecDepth 100000 in
theorem within_any (n m : Int) (w : World) : Calls Tryz.prog 41 #[.int .i64 n, .int .i64 m] w fun o w' => o = .returned (.bool (decide (1 ≤ n) && decide (n ≤ m))) ∧ w = w' := by
  by_cases h1 : 1 ≤ n
  · have h2 : decide (1 ≤ n) = true := decide_eq_true h1
    rw [h2]
    go_enter Tryz.func41, Tryz.ntmps41
    go_wp2
    go_ret
    exact ⟨by simp, rfl⟩
  · have h2 : decide (1 ≤ n) = false := decide_eq_false h1
    have h3 : n < 1 := by omega
    rw [h2]
    clear h1
    go_enter Tryz.func41, Tryz.ntmps41
    go_wp2
    go_ret
    exact ⟨by simp, rfl⟩
end Go.Proofs.YtpppggicihfbgaaGreat.Aut

/- New of the program. -/
namespace Go.Proofs.YtpppggicihfbgaaGreat.Aut
open Go.RowKit Go.Proofs.YtpppggicihfbgaaGreat.Oct Go.Proofs.YtpppggicihfbgaaGreat.Row Go.Proofs.YtpppggicihfbgaaGreat.Mem Go.Proofs.YtpppggicihfbgaaGreat.Fsm

def ok (n m : Int) : Bool := decide (1 ≤ n) && decide (n ≤ m)
def may (a b d : Int) : Bool := ok a 1000 && ok b 20 && ok d 20
theorem boxC (w : World) (a b d : Int) : ∃ W, w.alloc (.cells #[.int .i64 a, .int .i64 b, .int .i64 d] 34) = W ∧ W.cell? ⟨w.heap.size, 0, none⟩ = some (.int .i64 a) ∧ W.cell? ⟨w.heap.size, 1, none⟩ = some (.int .i64 b) ∧ W.cell? ⟨w.heap.size, 2, none⟩ = some (.int .i64 d) ∧ Hid (Below w.heap.size w W) := by
  have h := blk_new w [.int .i64 a, .int .i64 b, .int .i64 d] 34
  exact ⟨_, rfl, h.at_ 0, h.at_ 1, h.at_ 2, (Below.refl w.heap.size w).alloc (Nat.le_refl _) _⟩
theorem boxD (w : World) (a b d : Int) : ∃ W, w.alloc (.cells #[.int .i64 a, .int .i64 b, .int .i64 d] 119) = W ∧ W.cell? ⟨w.heap.size, 0, none⟩ = some (.int .i64 a) ∧ W.cell? ⟨w.heap.size, 1, none⟩ = some (.int .i64 b) ∧ W.cell? ⟨w.heap.size, 2, none⟩ = some (.int .i64 d) ∧ Hid (Below w.heap.size w W) := by
  have h := blk_new w [.int .i64 a, .int .i64 b, .int .i64 d] 119
  exact ⟨_, rfl, h.at_ 0, h.at_ 1, h.at_ 2, (Below.refl w.heap.size w).alloc (Nat.le_refl _) _⟩
def NewQ (x : Au) (w : World) (o : Ending) (w' : World) : Prop := ∃ g, o = .returned (.tuple #[.pointer (some ⟨g, 0, none⟩), .int .i64 0]) ∧ w.heap.size ≤ g ∧ Aut w' g x ∧ Below w.heap.size w w'
set_option maxHeartbeats 4000000 in
set_option maxRecDepth 100000 in
theorem new_ok (r mc mt : Nat) (w : World) (h : may r mc mt = true) : Calls Tryz.prog 30 #[.agg #[.int .i64 r, .int .i64 mc, .int .i64 mt]] w (NewQ ⟨r, mc, mt, 0, 0, 0⟩ w) := by
  simp only [may, Bool.and_eq_true] at h
  obtain ⟨⟨h1, h2⟩, h3⟩ := h
  have HR1 : Hid (∀ w, Calls Tryz.prog 41 #[.int .i64 r, .int .i64 1000] w fun o w' => o = .returned (.bool true) ∧ w = w') := fun w => by have := within_any r 1000 w; rw [show (decide ((1 : Int) ≤ r) && decide ((r : Int) ≤ 1000)) = true from h1] at this; exact this
  have HR2 : Hid (∀ w, Calls Tryz.prog 41 #[.int .i64 mc, .int .i64 20] w fun o w' => o = .returned (.bool true) ∧ w = w') := fun w => by have := within_any mc 20 w; rw [show (decide ((1 : Int) ≤ mc) && decide ((mc : Int) ≤ 20)) = true from h2] at this; exact this
  have HR3 : Hid (∀ w, Calls Tryz.prog 41 #[.int .i64 mt, .int .i64 20] w fun o w' => o = .returned (.bool true) ∧ w = w') := fun w => by have := within_any mt 20 w; rw [show (decide ((1 : Int) ≤ mt) && decide ((mt : Int) ≤ 20)) = true from h3] at this; exact this
  clear h1 h2 h3
  obtain ⟨W, hW, c0, c1, c2, HB⟩ := boxC w r mc mt
  obtain ⟨V, hV, d0, d1, d2, HD⟩ := boxD W r mc mt
  have HL : Hid (w.heap.size ≤ V.heap.size) := (HB.out.trans (HD.out.mono HB.out.size)).size
  have HA : Hid (Aut (V.alloc (.cells #[.int .i64 r, .int .i64 mc, .int .i64 mt, .int .u8 0, .int .i64 0, .int .i64 0] 121)) V.heap.size ⟨r, mc, mt, 0, 0, 0⟩) := blk_new V (av ⟨r, mc, mt, 0, 0, 0⟩) _
  have HE : Hid (Below w.heap.size w (V.alloc (.cells #[.int .i64 r, .int .i64 mc, .int .i64 mt, .int .u8 0, .int .i64 0, .int .i64 0] 121))) := (HB.out.trans (HD.out.mono HB.out.size)).alloc HL.out _
  go_enter Tryz.func30, Tryz.ntmps30
  go_wp2_with fail
  refine (HR1.out _).mono ?_
  rintro o _ ⟨rfl, rfl⟩
  go_wp2_with fail
  refine (HR2.out _).mono ?_
  rintro o _ ⟨rfl, rfl⟩
  go_wp2_with fail
  refine (HR3.out _).mono ?_
  rintro o _ ⟨rfl, rfl⟩
  clear HR1 HR2 HR3 HB HD
  go_wp2
  go_ret2
  exact ⟨_, rfl, HL.out, HA.out, HE.out⟩
set_option maxHeartbeats 4000000 in
set_option maxRecDepth 100000 in
theorem new_no (a b d : Int) (w : World) (h : may a b d = false) : Calls Tryz.prog 30 #[.agg #[.int .i64 a, .int .i64 b, .int .i64 d]] w fun o w' => o = .returned (.tuple #[.pointer none, .int .i64 2]) ∧ Below w.heap.size w w' := by
  have HR1 : Hid (∀ w, Calls Tryz.prog 41 #[.int .i64 a, .int .i64 1000] w fun o w' => o = .returned (.bool (ok a 1000)) ∧ w = w') := fun w => within_any a 1000 w
  have HR2 : Hid (∀ w, Calls Tryz.prog 41 #[.int .i64 b, .int .i64 20] w fun o w' => o = .returned (.bool (ok b 20)) ∧ w = w') := fun w => within_any b 20 w
  have HR3 : Hid (∀ w, Calls Tryz.prog 41 #[.int .i64 d, .int .i64 20] w fun o w' => o = .returned (.bool (ok d 20)) ∧ w = w') := fun w => within_any d 20 w
  unfold may at h
  obtain ⟨W, hW, c0, c1, c2, HB⟩ := boxC w a b d
  generalize ok a 1000 = p1 at *
  generalize ok b 20 = p2 at *
  generalize ok d 20 = p3 at *
  cases p1
  · clear h
    go_enter Tryz.func30, Tryz.ntmps30
    go_wp2_with fail
    refine (HR1.out _).mono ?_
    rintro o _ ⟨rfl, rfl⟩
    go_wp2
    go_ret2
    exact ⟨rfl, HB.out⟩
  · cases p2
    · clear h
      go_enter Tryz.func30, Tryz.ntmps30
      go_wp2_with fail
      refine (HR1.out _).mono ?_
      rintro o _ ⟨rfl, rfl⟩
      go_wp2_with fail
      refine (HR2.out _).mono ?_
      rintro o _ ⟨rfl, rfl⟩
      go_wp2
      go_ret2
      exact ⟨rfl, HB.out⟩
    · cases p3
      · clear h
        go_enter Tryz.func30, Tryz.ntmps30
        go_wp2_with fail
        refine (HR1.out _).mono ?_
        rintro o _ ⟨rfl, rfl⟩
        go_wp2_with fail
        refine (HR2.out _).mono ?_
        rintro o _ ⟨rfl, rfl⟩
        go_wp2_with fail
        refine (HR3.out _).mono ?_
        rintro o _ ⟨rfl, rfl⟩
        go_wp2
        go_ret2
        exact ⟨rfl, HB.out⟩
      · cases h
end Go.Proofs.YtpppggicihfbgaaGreat.Aut
