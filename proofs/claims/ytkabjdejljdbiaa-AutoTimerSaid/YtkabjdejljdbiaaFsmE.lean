/- Contracts of package fsm's automaton and Next. -/
import Derived.Test.YtkabjdejljdbiaaFsmD
import Derived.Deep.WholeRow
import Derived.BigQuiet
namespace Go.Proofs.Ytkabjdejljdbiaa.Fsm
open Go.RowKit Go.Proofs.Ytkabjdejljdbiaa.Oct Go.Proofs.Ytkabjdejljdbiaa.Row Go.Proofs.Ytkabjdejljdbiaa.Mem

def zeros : Array Value := (flat (List.replicate 160 no)).toArray
theorem info_table : (Try.prog.info? 60).map (fun i => (i.zero, i.size)) = some (some (.agg zeros), 480) := by kernel_rfl
theorem size_table : (Try.prog.info? 60).map (·.size) = some 480 := by kernel_rfl
theorem zero_table (w : World) : (zeroValue 60).run Try.prog w = .ok (.agg zeros) w := (zero_of_info info_table).1 w
theorem flat_tbl : (flat tbl).length = 480 := by rw [flat_length, tbl_length]
theorem zeros_size : zeros.size = 480 := by decide +kernel
theorem two_new (w : World) (o o' : Obj) : ((w.alloc o).alloc o').heap[w.heap.size]? = some o ∧ ((w.alloc o).alloc o').heap[w.heap.size + 1]? = some o' := by
  have h := World.alloc_heap_new (w.alloc o) o'
  rw [World.size_alloc] at h
  exact ⟨(Below.heap_alloc (w.alloc o) o' w.heap.size (by rw [World.size_alloc]; exact Nat.lt_succ_self _)).trans (World.alloc_heap_new w o), h⟩
theorem all_toArray (l : List Value) (h : ∀ v ∈ l, v.oneCell' = true) : l.toArray.all (·.oneCell') = true := by
  rw [Array.all_eq_true_iff_forall_mem]
  intro v hv
  exact h v (by simpa using hv)

set_option maxHeartbeats 1000000 in
set_option maxRecDepth 100000 in
theorem auto_any (w : World) :
    Calls Try.prog 26 #[] w fun x w' => x = .returned (.agg (flat tbl).toArray) ∧ Below w.heap.size w w' := by
  obtain ⟨Z, hZ⟩ : ∃ Z, Z = zeros := ⟨_, rfl⟩
  have hz : ∀ w, (zeroValue 60).run Try.prog w = .ok (.agg Z) w := by rw [hZ]; exact zero_table
  have HZ := Lib.hid hZ
  clear hZ
  have H2 := Lib.hid (two_new w (.cells Z 60) (.cells Z 60))
  have HB := Lib.hid (((Below.refl w.heap.size w).alloc (Nat.le_refl _) (.cells Z 60)).alloc (by rw [World.size_alloc]; exact Nat.le_succ _) (.cells Z 60))
  go_enter Try.func26, Try.ntmps26
  go_wp2_with fail
  generalize hW : (w.alloc (.cells Z 60)).alloc (.cells Z 60) = W at *
  have HT : Hid (Tab W (w.heap.size + 1) (List.replicate 160 no)) := by
    refine ⟨?_, List.length_replicate⟩
    have := H2.out.2
    rw [HZ.out] at this
    exact this
  clear hW
  refine (idle_any _ _ _ HT.out).mono ?_
  rintro x w1 ⟨rfl, h1, h2⟩
  have HT1 := Lib.hid h1
  have HM1 := Lib.hid h2
  clear h1 h2 HT
  go_wp2_with fail
  refine (busy_any _ _ _ HT1.out).mono ?_
  rintro x w2 ⟨rfl, h1, h2⟩
  have HT2 : Hid (Tab w2 (w.heap.size + 1) tbl) := by unfold tbl; exact h1
  have HM2 := Lib.hid (HM1.out.trans h2 (fun _ _ h => h))
  clear h1 h2 HT1 HM1
  have HG : Hid (w2.heap[w.heap.size]? = some (.cells Z 60 (0, 0))) := (HM2.out.block w.heap.size (by have := (Array.getElem?_eq_some_iff.1 H2.out.1).1; exact this) (by omega)).trans H2.out.1
  have HB2 : Hid (Below w.heap.size w w2) := HB.out.trans (HM2.out.below HB.out.size (fun k hk => by omega))
  clear H2 HB HM2 hz
  have HZs : Hid (Z.size = 480) := by show _ = _; rw [HZ.out]; exact zeros_size
  go_wp2_with (first
    | (refine wpList_load_mid rfl 60 (.tmp 1) rfl (w.heap.size + 1) 0 rfl (flat tbl) _ HT2.out.1.range Try.underlying60 rfl (by rw [flat_tbl]; exact size_table) ?_)
    | (refine wpList_store_row rfl 60 _ _ rfl w.heap.size (flat tbl).toArray rfl rfl 60 Z HG.out (by rw [List.size_toArray, flat_tbl]; exact size_table) (by rw [HZs.out, List.size_toArray, flat_tbl]) (all_toArray _ (flat_one tbl)) ?_))
  have HR := setRow_heap w2 w.heap.size _ (flat tbl).toArray 60 (0, 0) HG.out
  refine bodyPost_ret (results_cell_row rfl _ _ w.heap.size _ (flat tbl).toArray (0, 0) _ rfl HR Try.underlying60 rfl (by rw [List.size_toArray, flat_tbl]; exact size_table)) rfl ?_
  exact ⟨rfl, HB2.out.trans ((moves_row w2 w.heap.size _).below HB2.out.size (fun k hk => by omega))⟩

/-- What Next answers. -/
def nE (s e : Nat) : Nat := if 10 ≤ s ∨ 16 ≤ e then 2 else if (at_ e s).c then 0 else 120
def nA (s e : Nat) : Nat := if 10 ≤ s ∨ 16 ≤ e then 0 else if (at_ e s).c then (at_ e s).a else 0
def nN (s e : Nat) : Nat := if 10 ≤ s ∨ 16 ≤ e then 0 else if (at_ e s).c then (at_ e s).n else 0
def nR (s e : Nat) : Value := .tuple #[.int .u16 (nA s e), .int .u8 (nN s e), .int .i64 (nE s e)]

set_option maxHeartbeats 1000000 in
set_option maxRecDepth 100000 in
theorem next_bad (s e : Nat) (w : World) (hb : 10 ≤ s ∨ 16 ≤ e) :
    Calls Try.prog 20 #[.int .u8 s, .int .u8 e] w fun x w' => x = .returned (.tuple #[.int .u16 0, .int .u8 0, .int .i64 2]) ∧ Below w.heap.size w w' := by
  by_cases h : 10 ≤ s
  · have h1 : (10 : Int) ≤ (s : Int) := by omega
    clear hb h
    go_enter Try.func20, Try.ntmps20
    go_wp2
    go_ret3
    exact ⟨rfl, Below.refl _ _⟩
  · have h1 : (s : Int) < 10 := by omega
    have h2 : (16 : Int) ≤ (e : Int) := by omega
    clear hb h
    go_enter Try.func20, Try.ntmps20
    go_wp2
    go_ret3
    exact ⟨rfl, Below.refl _ _⟩
set_option maxHeartbeats 1000000 in
set_option maxRecDepth 100000 in
theorem next_no (s e xa xn : Nat) (w : World) (hs : s < 10) (he : e < 16) (hx : tbl[e * 10 + s]? = some ⟨xa, xn, false⟩) :
    Calls Try.prog 20 #[.int .u8 s, .int .u8 e] w fun x w' => x = .returned (.tuple #[.int .u16 0, .int .u8 0, .int .i64 120]) ∧ Below w.heap.size w w' := by
  obtain ⟨Z, hZ⟩ : ∃ Z, Z = zeros := ⟨_, rfl⟩
  have hz : ∀ w, (zeroValue 60).run Try.prog w = .ok (.agg Z) w := by rw [hZ]; exact zero_table
  have HZs : Hid (Z.size = 480) := by show _ = _; rw [hZ]; exact zeros_size
  clear hZ
  have HA := Lib.hid (fun w => auto_any w)
  have HX0 := Lib.hid hx
  clear hx
  have h1 : (s : Int) < 10 := by omega
  have h2 : (e : Int) < 16 := by omega
  have h3 : (0 : Int) ≤ s := Int.natCast_nonneg s
  have h4 : (0 : Int) ≤ e := Int.natCast_nonneg e
  go_enter Try.func20, Try.ntmps20
  go_wp2_with fail
  refine (HA.out _).mono ?_
  rintro x w1 ⟨rfl, hb1⟩
  have HB1 := Lib.hid hb1
  clear hb1
  have HG : Hid ((w1.alloc (.cells Z 60)).heap[w1.heap.size]? = some (.cells Z 60 (0, 0))) := World.alloc_heap_new w1 _
  obtain ⟨T, hT⟩ : ∃ T, T = flat tbl := ⟨_, rfl⟩
  have HTs : Hid (T.length = 480 ∧ ∀ v ∈ T, v.oneCell' = true) := by rw [hT]; exact ⟨flat_tbl, flat_one tbl⟩
  rw [← hT]
  obtain ⟨W, hW, HB⟩ : ∃ W, (w1.alloc (.cells Z 60)).setRow w1.heap.size T.toArray = W ∧ Hid (Blk W w1.heap.size T 60 ∧ Below w1.heap.size w1 W) :=
    ⟨_, rfl, setRow_heap _ w1.heap.size _ T.toArray 60 (0, 0) HG.out, ((Below.refl w1.heap.size w1).alloc (Nat.le_refl _) _).trans ((moves_row (w1.alloc (.cells Z 60)) w1.heap.size T.toArray).below (by rw [World.size_alloc]; exact Nat.le_succ _) (fun k hk => by omega))⟩
  have HX := flat_at tbl (e * 10 + s)
  rw [HX0.out, show (e * 10 + s) * 3 = e * 30 + s * 3 by omega, ← hT] at HX
  have c0 : W.cell? ⟨w1.heap.size, e * 30 + s * 3, none⟩ = some (.int .u16 xa) := (HB.out.1.at_ _).trans HX.1
  have c1 : W.cell? ⟨w1.heap.size, e * 30 + s * 3 + 1, none⟩ = some (.int .u8 xn) := (HB.out.1.at_ _).trans HX.2.1
  have c2 : W.cell? ⟨w1.heap.size, e * 30 + s * 3 + 2, none⟩ = some (.bool false) := (HB.out.1.at_ _).trans HX.2.2
  have HBB : Hid (Below w.heap.size w W) := HB1.out.trans (HB.out.2.mono HB1.out.size)
  clear hT HX HB1 HA
  have HC2 : Hid (Below w.heap.size w (W.alloc (.cells #[.int .u16 xa, .int .u8 xn, .bool false] 57))) := HBB.out.alloc HBB.out.size _
  go_wp2_with (first
      | (refine wpList_store_row rfl 60 _ _ rfl w1.heap.size T.toArray rfl rfl 60 Z HG.out (by rw [List.size_toArray, HTs.out.1]; exact size_table) (by rw [HZs.out, List.size_toArray, HTs.out.1]) (all_toArray _ HTs.out.2) ?_; rw [hW]))
  go_ret3
  exact ⟨rfl, HC2.out⟩
set_option maxHeartbeats 1000000 in
set_option maxRecDepth 100000 in
theorem next_yes (s e xa xn : Nat) (w : World) (hs : s < 10) (he : e < 16) (hx : tbl[e * 10 + s]? = some ⟨xa, xn, true⟩) :
    Calls Try.prog 20 #[.int .u8 s, .int .u8 e] w fun x w' => x = .returned (.tuple #[.int .u16 xa, .int .u8 xn, .int .i64 0]) ∧ Below w.heap.size w w' := by
  obtain ⟨Z, hZ⟩ : ∃ Z, Z = zeros := ⟨_, rfl⟩
  have hz : ∀ w, (zeroValue 60).run Try.prog w = .ok (.agg Z) w := by rw [hZ]; exact zero_table
  have HZs : Hid (Z.size = 480) := by show _ = _; rw [hZ]; exact zeros_size
  clear hZ
  have HA := Lib.hid (fun w => auto_any w)
  have HX0 := Lib.hid hx
  clear hx
  have h1 : (s : Int) < 10 := by omega
  have h2 : (e : Int) < 16 := by omega
  have h3 : (0 : Int) ≤ s := Int.natCast_nonneg s
  have h4 : (0 : Int) ≤ e := Int.natCast_nonneg e
  go_enter Try.func20, Try.ntmps20
  go_wp2_with fail
  refine (HA.out _).mono ?_
  rintro x w1 ⟨rfl, hb1⟩
  have HB1 := Lib.hid hb1
  clear hb1
  have HG : Hid ((w1.alloc (.cells Z 60)).heap[w1.heap.size]? = some (.cells Z 60 (0, 0))) := World.alloc_heap_new w1 _
  obtain ⟨T, hT⟩ : ∃ T, T = flat tbl := ⟨_, rfl⟩
  have HTs : Hid (T.length = 480 ∧ ∀ v ∈ T, v.oneCell' = true) := by rw [hT]; exact ⟨flat_tbl, flat_one tbl⟩
  rw [← hT]
  obtain ⟨W, hW, HB⟩ : ∃ W, (w1.alloc (.cells Z 60)).setRow w1.heap.size T.toArray = W ∧ Hid (Blk W w1.heap.size T 60 ∧ Below w1.heap.size w1 W) :=
    ⟨_, rfl, setRow_heap _ w1.heap.size _ T.toArray 60 (0, 0) HG.out, ((Below.refl w1.heap.size w1).alloc (Nat.le_refl _) _).trans ((moves_row (w1.alloc (.cells Z 60)) w1.heap.size T.toArray).below (by rw [World.size_alloc]; exact Nat.le_succ _) (fun k hk => by omega))⟩
  have HX := flat_at tbl (e * 10 + s)
  rw [HX0.out, show (e * 10 + s) * 3 = e * 30 + s * 3 by omega, ← hT] at HX
  have c0 : W.cell? ⟨w1.heap.size, e * 30 + s * 3, none⟩ = some (.int .u16 xa) := (HB.out.1.at_ _).trans HX.1
  have c1 : W.cell? ⟨w1.heap.size, e * 30 + s * 3 + 1, none⟩ = some (.int .u8 xn) := (HB.out.1.at_ _).trans HX.2.1
  have c2 : W.cell? ⟨w1.heap.size, e * 30 + s * 3 + 2, none⟩ = some (.bool true) := (HB.out.1.at_ _).trans HX.2.2
  have HBB : Hid (Below w.heap.size w W) := HB1.out.trans (HB.out.2.mono HB1.out.size)
  clear hT HX HB1 HA
  have HC := Lib.hid (blk_new W [.int .u16 xa, .int .u8 xn, .bool true] 57)
  have HC2 : Hid (Below w.heap.size w (W.alloc (.cells #[.int .u16 xa, .int .u8 xn, .bool true] 57))) := HBB.out.alloc HBB.out.size _
  go_wp2_with (first
      | (refine wpList_store_row rfl 60 _ _ rfl w1.heap.size T.toArray rfl rfl 60 Z HG.out (by rw [List.size_toArray, HTs.out.1]; exact size_table) (by rw [HZs.out, List.size_toArray, HTs.out.1]) (all_toArray _ HTs.out.2) ?_; rw [hW]))
  generalize W.alloc (.cells #[.int .u16 xa, .int .u8 xn, .bool true] 57) = V at *
  have d0 : V.cell? ⟨W.heap.size, 0, none⟩ = some (.int .u16 xa) := HC.out.at_ 0
  have d1 : V.cell? ⟨W.heap.size, 1, none⟩ = some (.int .u8 xn) := HC.out.at_ 1
  clear c0 c1 c2 hW
  go_quiet (fail)
  go_wp2
  go_ret3
  exact ⟨rfl, HC2.out.drewN' _⟩

theorem next_any (s e : Nat) (w : World) : Calls Try.prog 20 #[.int .u8 s, .int .u8 e] w fun x w' => x = .returned (nR s e) ∧ Below w.heap.size w w' := by
  unfold nR nA nN nE
  by_cases hb : 10 ≤ s ∨ 16 ≤ e
  · simp only [if_pos hb]
    exact next_bad s e w hb
  · simp only [if_neg hb]
    have hx := tbl_at e s (by omega) (by omega)
    generalize at_ e s = x at *
    obtain ⟨xa, xn, xc⟩ := x
    cases xc
    · exact next_no s e xa xn w (by omega) (by omega) hx
    · exact next_yes s e xa xn w (by omega) (by omega) hx
end Go.Proofs.Ytkabjdejljdbiaa.Fsm
