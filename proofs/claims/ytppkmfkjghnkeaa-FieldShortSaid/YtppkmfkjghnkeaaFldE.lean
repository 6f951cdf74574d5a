/- Contract of package field's Put. -/
import Derived.Test.YtppkmfkjghnkeaaFldD
import Derived.Test.YtppkmfkjghnkeaaPut16
import Derived.Deep.RegionHeld3
import Derived.OrdersHeld
namespace Go.Proofs.Ytppkmfkjghnkeaa.Fld
open Go.RowKit Go.Proofs.Ytppkmfkjghnkeaa.Oct Go.Proofs.Ytppkmfkjghnkeaa.Row
set_option linter.unusedSimpArgs false

theorem four_cells (w : World) (x y z u : ByteArray) (t : TypeId) : ∀ (j : Nat) v, [x, y, z, u][j]? = some v → (w.alloc (.cells #[.string x, .string y, .string z, .string u] t)).cell? ⟨w.heap.size, 0 + j, none⟩ = some (.string v) := by
  intro j v hv
  rw [Nat.zero_add, World.cell?_alloc_new]
  match j, hv with
  | 0, h => cases h; rfl
  | 1, h => cases h; rfl
  | 2, h => cases h; rfl
  | 3, h => cases h; rfl
theorem join_four (X Y Z U : ByteArray) (w : World) (h1 : X.size ≤ 8) (h2 : Y.size ≤ 8) (h3 : Z.size ≤ 8) (h4 : U.size ≤ 1048576) :
    Calls Try.prog 16 #[.slice (some ⟨w.heap.size, 0, none⟩) 4 4] (w.alloc (.cells #[.string X, .string Y, .string Z, .string U] 9)) fun e w' => e = .returned (.string (bOf (X.toList ++ (Y.toList ++ (Z.toList ++ U.toList))))) ∧ Below w.heap.size w w' := by
  have e : flat [X, Y, Z, U] = X.toList ++ (Y.toList ++ (Z.toList ++ U.toList)) := by simp [flat]
  have C := join_any w.heap.size 4 [X, Y, Z, U] (w.alloc (.cells #[.string X, .string Y, .string Z, .string U] 9)) (four_cells w _ _ _ _ _) (by rw [World.size_alloc]; exact Nat.lt_succ_self _) (by simp) (by simp) (by rw [e]; simp only [List.length_append, ← size_toList]; omega)
  rw [e] at C
  exact C.mono fun x w' ⟨h1, h2⟩ => ⟨h1, ((Below.refl w.heap.size w).alloc (Nat.le_refl _) _).trans (h2.mono (by rw [World.size_alloc]; exact Nat.le_succ _))⟩

/-- What Put keeps in memory: the protocol, and how it is compressed. -/
def Kept (W : World) (g p : Nat) (a c : Bool) : Prop := (Boxed W g 22 (.int .u16 p) ∧ g < W.heap.size) ∧ W.cell? ⟨g + 1, 0, none⟩ = some (.bool a) ∧ W.cell? ⟨g + 1, 1, none⟩ = some (.bool c)
theorem Kept.callee {W W' : World} {g p : Nat} {a c : Bool} (h : Kept W g p a c) (hb : Below W.heap.size W W') : Kept W' g p a c :=
  ⟨⟨(hb.block g h.1.2).trans h.1.1, Nat.lt_of_lt_of_le h.1.2 hb.size⟩, (hb.cell (p := ⟨g + 1, 0, none⟩) (World.block_lt_of_cell? W _ h.2.1)).trans h.2.1, (hb.cell (p := ⟨g + 1, 1, none⟩) (World.block_lt_of_cell? W _ h.2.2)).trans h.2.2⟩
theorem Kept.drewN {W : World} {g p : Nat} {a c : Bool} (h : Kept W g p a c) (k : Nat) : Kept (W.drewN k) g p a c := h
theorem kept_new (w : World) (p : Nat) (a c : Bool) : Kept ((w.alloc (.cells #[.int .u16 p] 22)).alloc (.cells #[.bool a, .bool c] 24)) w.heap.size p a c := by
  have h := box_new (w.alloc (.cells #[.int .u16 p] 22)) a c 24
  rw [World.size_alloc] at h
  refine ⟨⟨?_, ?_⟩, h⟩
  · exact (Below.heap_alloc _ _ w.heap.size (by rw [World.size_alloc]; exact Nat.lt_succ_self _)).trans (World.alloc_heap_new w _)
  · rw [World.size_alloc, World.size_alloc]; omega
theorem kept_below (w : World) (p : Nat) (a c : Bool) : Below w.heap.size w ((w.alloc (.cells #[.int .u16 p] 22)).alloc (.cells #[.bool a, .bool c] 24)) :=
  ((Below.refl w.heap.size w).alloc (Nat.le_refl _) _).alloc (by rw [World.size_alloc]; exact Nat.le_succ _) _

-- what follows is written by gen/fld_put.py

set_option maxHeartbeats 2000000 in
set_option maxRecDepth 100000 in
theorem put_f (p : Nat) (s : ByteArray) (a : Bool) (w : World) (hp : p < 65536) (hs : s.size ≤ 1048576) (hm : may p = true) (L : List UInt8)
    (hL : (unl p a ⟨#[255, 3]⟩).toList ++ ((unl p false (bOf [UInt8.ofNat (p / 256 % 256)])).toList ++ ((bOf [UInt8.ofNat (p % 256)]).toList ++ s.toList)) = L) :
    Calls Try.prog 8 #[.int .u16 p, .string s, .agg #[.bool a, .bool false]] w fun e w' => e = .returned (.tuple #[.string (bOf L), .int .i64 0]) ∧ Below w.heap.size w w' := by
  have M := Lib.hid (fun w => may_any p w hp)
  rw [hm] at M
  have P := Lib.hid (fun w => put16_any p w hp)
  rw [numS_two] at P
  generalize UInt8.ofNat (p / 256 % 256) = x at *
  generalize UInt8.ofNat (p % 256) = y at *
  have HX : Hid ((bOf [x, y]).extract 0 1 = bOf [x]) := by show _ = _; rw [extract_front, toList_bOf]; rfl
  have HY : Hid ((bOf [x, y]).extract 1 (bOf [x, y]).size = bOf [y]) := by show _ = _; rw [extract_rest, toList_bOf]; rfl
  have hz2 : (2 : Int) ≤ (bOf [x, y]).size := by rw [size_bOf]; simp
  have HK := Lib.hid (kept_new w p a false)
  have HB := Lib.hid (kept_below w p a false)
  have hu1 : (unl p a ⟨#[255, 3]⟩).size ≤ 8 := by unfold unl; split <;> simp [bOf, ByteArray.size]
  have hu2 : (unl p false (bOf [x])).size ≤ 8 := by unfold unl; split <;> simp [bOf, ByteArray.size]
  have hu3 : (bOf [y]).size ≤ 8 := by rw [size_bOf]; simp
  have C1 := Lib.hid (unl_any w.heap.size p a ⟨#[255, 3]⟩)
  have C2 := Lib.hid (unl_any w.heap.size p false (bOf [x]))
  have J := Lib.hid (fun w => join_four (unl p a ⟨#[255, 3]⟩) (unl p false (bOf [x])) (bOf [y]) s w hu1 hu2 hu3 hs)
  have HL := Lib.hid hL
  clear hp hm hL hu1 hu2 hu3
  generalize unl p a ⟨#[255, 3]⟩ = u1 at *
  generalize unl p false (bOf [x]) = u2 at *
  go_enter Try.func8, Try.ntmps8
  go_wp2_with fail
  refine (M.out _).mono ?_
  rintro e w0 ⟨rfl, hw0⟩
  rw [hw0] at HK HB
  clear hw0
  generalize hg : w.heap.size = g at *
  have Hg := Lib.hid hg
  clear hg
  have hc0 := HK.out.1.1.cell
  go_wp2_with fail
  refine (P.out _).mono ?_
  rintro e w1 ⟨rfl, hb1⟩
  have HK1 := HK.out.callee hb1
  clear hc0
  go_wp2
  go_quiet (fail)
  go_wp2
  rw [HX.out, HY.out]
  have HB1 := Lib.hid (HB.out.trans ((hb1.mono (by rw [← Hg.out]; exact HB.out.size)).drewN' nq))
  have HK2 := Lib.hid (HK1.drewN nq)
  clear HK1 hb1 HK HB
  generalize w1.drewN nq = w2 at *
  have k1 : w2.drew.cell? ⟨g + 1, 0, none⟩ = some (.bool a) := HK2.out.2.1
  have k2 : w2.drew.cell? ⟨g + 1, 1, none⟩ = some (.bool false) := HK2.out.2.2
  have kb : Boxed w2.drew g 22 (.int .u16 p) := HK2.out.1.1
  refine wp_region_held_drew (S := fun w' => w'.cell? ⟨g + 1, 0, none⟩ = some (.bool a) ∧ w'.cell? ⟨g + 1, 1, none⟩ = some (.bool false)) (by kernel_rfl) ⟨k1, k2⟩ (fun hHeld => ?_)
  refine wpAnyH_take (i := 0) (v := ?vv0_1) rfl (by kernel_rfl) (by kernel_rfl) (by kernel_rfl) (fun _ _ _ h => h) (Or.inl ⟨by rfl, ?yy0_1⟩) (by assumption) ?rr0_1
  case yy0_1 => (intro w hSw; (try dsimp only at hSw); (try simp only [List.getElem_toArray, List.getElem_cons_succ, List.getElem_cons_zero, Act.put, List.setIfInBounds_toArray, List.set_cons_zero, List.set_cons_succ]); go_simp; (try (with_reducible rfl)))
  try simp only [List.getElem_toArray, List.getElem_cons_succ, List.getElem_cons_zero, Act.put, List.setIfInBounds_toArray, List.set_cons_zero, List.set_cons_succ]
  refine wpAnyH_take (i := 1) (v := ?vv1_2) rfl (by kernel_rfl) (by kernel_rfl) (by kernel_rfl) (fun _ _ _ h => h) (Or.inl ⟨by rfl, ?yy1_2⟩) (by assumption) ?rr1_2
  case yy1_2 => (intro w hSw; (try dsimp only at hSw); (try simp only [List.getElem_toArray, List.getElem_cons_succ, List.getElem_cons_zero, Act.put, List.setIfInBounds_toArray, List.set_cons_zero, List.set_cons_succ]); go_simp; (try (with_reducible rfl)))
  try simp only [List.getElem_toArray, List.getElem_cons_succ, List.getElem_cons_zero, Act.put, List.setIfInBounds_toArray, List.set_cons_zero, List.set_cons_succ]
  refine wpAnyH_take (i := 2) (v := ?vv2_3) rfl (by kernel_rfl) (by kernel_rfl) (by kernel_rfl) (fun _ _ _ h => h) (Or.inl ⟨by rfl, ?yy2_3⟩) (by assumption) ?rr2_3
  case yy2_3 => (intro w hSw; (try dsimp only at hSw); (try simp only [List.getElem_toArray, List.getElem_cons_succ, List.getElem_cons_zero, Act.put, List.setIfInBounds_toArray, List.set_cons_zero, List.set_cons_succ]); go_simp; (try (with_reducible rfl)))
  try simp only [List.getElem_toArray, List.getElem_cons_succ, List.getElem_cons_zero, Act.put, List.setIfInBounds_toArray, List.set_cons_zero, List.set_cons_succ]
  refine wpAnyH_take (i := 4) (v := ?vv4_4) rfl (by kernel_rfl) (by kernel_rfl) (by kernel_rfl) (fun _ _ _ h => h) (Or.inl ⟨by rfl, ?yy4_4⟩) (by assumption) ?rr4_4
  case yy4_4 => (intro w hSw; (try dsimp only at hSw); (try simp only [List.getElem_toArray, List.getElem_cons_succ, List.getElem_cons_zero, Act.put, List.setIfInBounds_toArray, List.set_cons_zero, List.set_cons_succ]); go_simp; (try (with_reducible rfl)))
  try simp only [List.getElem_toArray, List.getElem_cons_succ, List.getElem_cons_zero, Act.put, List.setIfInBounds_toArray, List.set_cons_zero, List.set_cons_succ]
  refine wpAnyH_take (i := 5) (v := ?vv5_5) rfl (by kernel_rfl) (by kernel_rfl) (by kernel_rfl) (fun _ _ _ h => h) (Or.inl ⟨by rfl, ?yy5_5⟩) (by assumption) ?rr5_5
  case yy5_5 => (intro w hSw; (try dsimp only at hSw); (try simp only [List.getElem_toArray, List.getElem_cons_succ, List.getElem_cons_zero, Act.put, List.setIfInBounds_toArray, List.set_cons_zero, List.set_cons_succ]); go_simp; (try (with_reducible rfl)))
  try simp only [List.getElem_toArray, List.getElem_cons_succ, List.getElem_cons_zero, Act.put, List.setIfInBounds_toArray, List.set_cons_zero, List.set_cons_succ]
  refine wpAnyH_take (i := 6) (v := ?vv6_6) rfl (by kernel_rfl) (by kernel_rfl) (by kernel_rfl) (fun _ _ _ h => h) (Or.inl ⟨by rfl, ?yy6_6⟩) (by assumption) ?rr6_6
  case yy6_6 => (intro w hSw; (try dsimp only at hSw); (try simp only [List.getElem_toArray, List.getElem_cons_succ, List.getElem_cons_zero, Act.put, List.setIfInBounds_toArray, List.set_cons_zero, List.set_cons_succ]); go_simp; (try (with_reducible rfl)))
  try simp only [List.getElem_toArray, List.getElem_cons_succ, List.getElem_cons_zero, Act.put, List.setIfInBounds_toArray, List.set_cons_zero, List.set_cons_succ]
  refine wpAnyH_take (i := 11) (v := ?vv11_7) rfl (by kernel_rfl) (by kernel_rfl) (by kernel_rfl) (fun _ _ _ h => h) (Or.inl ⟨by rfl, ?yy11_7⟩) (by assumption) ?rr11_7
  case yy11_7 => (intro w hSw; (try dsimp only at hSw); (try simp only [List.getElem_toArray, List.getElem_cons_succ, List.getElem_cons_zero, Act.put, List.setIfInBounds_toArray, List.set_cons_zero, List.set_cons_succ]); go_simp; (try (with_reducible rfl)))
  try simp only [List.getElem_toArray, List.getElem_cons_succ, List.getElem_cons_zero, Act.put, List.setIfInBounds_toArray, List.set_cons_zero, List.set_cons_succ]
  refine wpAnyH_take (i := 13) (v := ?vv13_8) rfl (by kernel_rfl) (by kernel_rfl) (by kernel_rfl) (fun _ _ _ h => h) (Or.inl ⟨by rfl, ?yy13_8⟩) (by assumption) ?rr13_8
  case yy13_8 => (intro w hSw; (try dsimp only at hSw); (try simp only [List.getElem_toArray, List.getElem_cons_succ, List.getElem_cons_zero, Act.put, List.setIfInBounds_toArray, List.set_cons_zero, List.set_cons_succ]); go_simp; (try (with_reducible rfl)))
  try simp only [List.getElem_toArray, List.getElem_cons_succ, List.getElem_cons_zero, Act.put, List.setIfInBounds_toArray, List.set_cons_zero, List.set_cons_succ]
  refine wpAnyH_take (i := 14) (v := ?vv14_9) rfl (by kernel_rfl) (by kernel_rfl) (by kernel_rfl) (fun _ _ _ h => h) (Or.inl ⟨by rfl, ?yy14_9⟩) (by assumption) ?rr14_9
  case yy14_9 => (intro w hSw; (try dsimp only at hSw); (try simp only [List.getElem_toArray, List.getElem_cons_succ, List.getElem_cons_zero, Act.put, List.setIfInBounds_toArray, List.set_cons_zero, List.set_cons_succ]); go_simp; (try (with_reducible rfl)))
  try simp only [List.getElem_toArray, List.getElem_cons_succ, List.getElem_cons_zero, Act.put, List.setIfInBounds_toArray, List.set_cons_zero, List.set_cons_succ]
  refine wpAnyH_ready (rs := [3]) (by kernel_rfl) (by simp) ?_
  refine AllReadyH.cons (o := _) rfl (fun K hK => ?_) AllReadyH.nil
  try simp only [List.getElem_toArray, List.getElem_cons_succ, List.getElem_cons_zero, Act.put, List.setIfInBounds_toArray, List.set_cons_zero, List.set_cons_succ]
  go_simp
  refine (C1.out _ kb).mono ?_
  rintro e w3 ⟨rfl, rfl⟩
  refine hK.out _ _ ⟨k1, k2⟩ (fun hHeld => ?_)
  clear hK K
  try simp only [List.getElem_toArray, List.getElem_cons_succ, List.getElem_cons_zero, Act.put, List.setIfInBounds_toArray, List.set_cons_zero, List.set_cons_succ]
  refine wpAnyH_take (i := 7) (v := ?vv7_10) rfl (by kernel_rfl) (by kernel_rfl) (by kernel_rfl) (fun _ _ _ h => h) (Or.inl ⟨by rfl, ?yy7_10⟩) (by assumption) ?rr7_10
  case yy7_10 => (intro w hSw; (try dsimp only at hSw); (try simp only [List.getElem_toArray, List.getElem_cons_succ, List.getElem_cons_zero, Act.put, List.setIfInBounds_toArray, List.set_cons_zero, List.set_cons_succ]); go_simp; (try (with_reducible rfl)))
  try simp only [List.getElem_toArray, List.getElem_cons_succ, List.getElem_cons_zero, Act.put, List.setIfInBounds_toArray, List.set_cons_zero, List.set_cons_succ]
  refine wpAnyH_take (i := 8) (v := undef) rfl (by kernel_rfl) (by kernel_rfl) (by kernel_rfl) (fun _ _ _ h => h) (Or.inr ⟨by rfl, rfl⟩) (by assumption) ?_
  try simp only [List.getElem_toArray, List.getElem_cons_succ, List.getElem_cons_zero, Act.put, List.setIfInBounds_toArray, List.set_cons_zero, List.set_cons_succ]
  refine wpAnyH_take (i := 9) (v := undef) rfl (by kernel_rfl) (by kernel_rfl) (by kernel_rfl) (fun _ _ _ h => h) (Or.inr ⟨by rfl, rfl⟩) (by assumption) ?_
  try simp only [List.getElem_toArray, List.getElem_cons_succ, List.getElem_cons_zero, Act.put, List.setIfInBounds_toArray, List.set_cons_zero, List.set_cons_succ]
  refine wpAnyH_take (i := 10) (v := ?vv10_11) rfl (by kernel_rfl) (by kernel_rfl) (by kernel_rfl) (fun _ _ _ h => h) (Or.inl ⟨by rfl, ?yy10_11⟩) (by assumption) ?rr10_11
  case yy10_11 => (intro w hSw; (try dsimp only at hSw); (try simp only [List.getElem_toArray, List.getElem_cons_succ, List.getElem_cons_zero, Act.put, List.setIfInBounds_toArray, List.set_cons_zero, List.set_cons_succ]); go_simp; (try (with_reducible rfl)))
  try simp only [List.getElem_toArray, List.getElem_cons_succ, List.getElem_cons_zero, Act.put, List.setIfInBounds_toArray, List.set_cons_zero, List.set_cons_succ]
  refine wpAnyH_ready (rs := [12]) (by kernel_rfl) (by simp) ?_
  refine AllReadyH.cons (o := _) rfl (fun K hK => ?_) AllReadyH.nil
  try simp only [List.getElem_toArray, List.getElem_cons_succ, List.getElem_cons_zero, Act.put, List.setIfInBounds_toArray, List.set_cons_zero, List.set_cons_succ]
  go_simp
  refine (C2.out _ kb).mono ?_
  rintro e w3 ⟨rfl, rfl⟩
  refine hK.out _ _ ⟨k1, k2⟩ (fun hHeld => ?_)
  clear hK K
  try simp only [List.getElem_toArray, List.getElem_cons_succ, List.getElem_cons_zero, Act.put, List.setIfInBounds_toArray, List.set_cons_zero, List.set_cons_succ]
  have hbA := (Below.refl w2.heap.size w2.drew).alloc (Nat.le_refl _) (.cells #[.string u1, .string u2, .string (bOf [y]), .string s] 9)
  have l1 := (hbA.cell (p := ⟨g + 1, 0, none⟩) (World.block_lt_of_cell? _ _ k1)).trans k1
  have l2 := (hbA.cell (p := ⟨g + 1, 1, none⟩) (World.block_lt_of_cell? _ _ k2)).trans k2
  refine wpAnyH_ready (rs := [15]) (by kernel_rfl) (by simp) ?_
  refine AllReadyH.cons (o := _) rfl (fun K hK => ?_) AllReadyH.nil
  try simp only [List.getElem_toArray, List.getElem_cons_succ, List.getElem_cons_zero, Act.put, List.setIfInBounds_toArray, List.set_cons_zero, List.set_cons_succ]
  go_simp
  refine hK.out _ _ ⟨l1, l2⟩ (fun hHeld => ?_)
  clear hK K
  try simp only [List.getElem_toArray, List.getElem_cons_succ, List.getElem_cons_zero, Act.put, List.setIfInBounds_toArray, List.set_cons_zero, List.set_cons_succ]
  refine wpAnyH_ready (rs := [16]) (by kernel_rfl) (by simp) ?_
  refine AllReadyH.cons (o := _) rfl (fun K hK => ?_) AllReadyH.nil
  try simp only [List.getElem_toArray, List.getElem_cons_succ, List.getElem_cons_zero, Act.put, List.setIfInBounds_toArray, List.set_cons_zero, List.set_cons_succ]
  go_simp
  refine (J.out w2.drew).mono ?_
  rw [HL.out]
  rintro e w3 ⟨rfl, hb3⟩
  have m1 := (hb3.cell (p := ⟨g + 1, 0, none⟩) (World.block_lt_of_cell? _ _ k1)).trans k1
  have m2 := (hb3.cell (p := ⟨g + 1, 1, none⟩) (World.block_lt_of_cell? _ _ k2)).trans k2
  refine hK.out _ _ ⟨m1, m2⟩ (fun hHeld => ?_)
  clear hK K
  try simp only [List.getElem_toArray, List.getElem_cons_succ, List.getElem_cons_zero, Act.put, List.setIfInBounds_toArray, List.set_cons_zero, List.set_cons_succ]
  refine wpAnyH_take (i := 17) (v := ?vv17_12) rfl (by kernel_rfl) (by kernel_rfl) (by kernel_rfl) (fun _ _ _ h => h) (Or.inl ⟨by rfl, ?yy17_12⟩) (by assumption) ?rr17_12
  case yy17_12 => (intro w hSw; (try dsimp only at hSw); (try simp only [List.getElem_toArray, List.getElem_cons_succ, List.getElem_cons_zero, Act.put, List.setIfInBounds_toArray, List.set_cons_zero, List.set_cons_succ]); go_simp; (try (with_reducible rfl)))
  try simp only [List.getElem_toArray, List.getElem_cons_succ, List.getElem_cons_zero, Act.put, List.setIfInBounds_toArray, List.set_cons_zero, List.set_cons_succ]
  refine wpAnyH_take (i := 18) (v := ?vv18_13) rfl (by kernel_rfl) (by kernel_rfl) (by kernel_rfl) (fun _ _ _ h => h) (Or.inl ⟨by rfl, ?yy18_13⟩) (by assumption) ?rr18_13
  case yy18_13 => (intro w hSw; (try dsimp only at hSw); (try simp only [List.getElem_toArray, List.getElem_cons_succ, List.getElem_cons_zero, Act.put, List.setIfInBounds_toArray, List.set_cons_zero, List.set_cons_succ]); go_simp; (try (with_reducible rfl)))
  try simp only [List.getElem_toArray, List.getElem_cons_succ, List.getElem_cons_zero, Act.put, List.setIfInBounds_toArray, List.set_cons_zero, List.set_cons_succ]
  refine wpAnyH_done (by kernel_rfl) ?_ _
  go_wp2
  go_ret2
  exact ⟨rfl, by rw [Hg.out]; exact HB1.out.drew.trans (hb3.mono (by have := HB1.out.size; rw [Hg.out] at this; exact this))⟩

set_option maxHeartbeats 2000000 in
set_option maxRecDepth 100000 in
theorem put_tf (p : Nat) (s : ByteArray) (a : Bool) (w : World) (hp : p < 65536) (hs : s.size ≤ 1048576) (hm : may p = true) (L : List UInt8) (hI : ((bOf [UInt8.ofNat (p / 256 % 256)]).toList == [0]) = false)
    (hL : (unl p a ⟨#[255, 3]⟩).toList ++ ((unl p false (bOf [UInt8.ofNat (p / 256 % 256)])).toList ++ ((bOf [UInt8.ofNat (p % 256)]).toList ++ s.toList)) = L) :
    Calls Try.prog 8 #[.int .u16 p, .string s, .agg #[.bool a, .bool true]] w fun e w' => e = .returned (.tuple #[.string (bOf L), .int .i64 0]) ∧ Below w.heap.size w w' := by
  have M := Lib.hid (fun w => may_any p w hp)
  rw [hm] at M
  have P := Lib.hid (fun w => put16_any p w hp)
  rw [numS_two] at P
  generalize UInt8.ofNat (p / 256 % 256) = x at *
  generalize UInt8.ofNat (p % 256) = y at *
  have HX : Hid ((bOf [x, y]).extract 0 1 = bOf [x]) := by show _ = _; rw [extract_front, toList_bOf]; rfl
  have HY : Hid ((bOf [x, y]).extract 1 (bOf [x, y]).size = bOf [y]) := by show _ = _; rw [extract_rest, toList_bOf]; rfl
  have hz2 : (2 : Int) ≤ (bOf [x, y]).size := by rw [size_bOf]; simp
  have HK := Lib.hid (kept_new w p a true)
  have HB := Lib.hid (kept_below w p a true)
  have hu1 : (unl p a ⟨#[255, 3]⟩).size ≤ 8 := by unfold unl; split <;> simp [bOf, ByteArray.size]
  have hu2 : (unl p false (bOf [x])).size ≤ 8 := by unfold unl; split <;> simp [bOf, ByteArray.size]
  have hu3 : (bOf [y]).size ≤ 8 := by rw [size_bOf]; simp
  have C1 := Lib.hid (unl_any w.heap.size p a ⟨#[255, 3]⟩)
  have C2 := Lib.hid (unl_any w.heap.size p false (bOf [x]))
  have J := Lib.hid (fun w => join_four (unl p a ⟨#[255, 3]⟩) (unl p false (bOf [x])) (bOf [y]) s w hu1 hu2 hu3 hs)
  have HL := Lib.hid hL
  clear hp hm hL hu1 hu2 hu3
  generalize unl p a ⟨#[255, 3]⟩ = u1 at *
  generalize unl p false (bOf [x]) = u2 at *
  go_enter Try.func8, Try.ntmps8
  go_wp2_with fail
  refine (M.out _).mono ?_
  rintro e w0 ⟨rfl, hw0⟩
  rw [hw0] at HK HB
  clear hw0
  generalize hg : w.heap.size = g at *
  have Hg := Lib.hid hg
  clear hg
  have hc0 := HK.out.1.1.cell
  go_wp2_with fail
  refine (P.out _).mono ?_
  rintro e w1 ⟨rfl, hb1⟩
  have HK1 := HK.out.callee hb1
  clear hc0
  go_wp2
  go_quiet (fail)
  go_wp2
  rw [HX.out, HY.out]
  have HB1 := Lib.hid (HB.out.trans ((hb1.mono (by rw [← Hg.out]; exact HB.out.size)).drewN' nq))
  have HK2 := Lib.hid (HK1.drewN nq)
  clear HK1 hb1 HK HB
  generalize w1.drewN nq = w2 at *
  have k1 : w2.drew.cell? ⟨g + 1, 0, none⟩ = some (.bool a) := HK2.out.2.1
  have k2 : w2.drew.cell? ⟨g + 1, 1, none⟩ = some (.bool true) := HK2.out.2.2
  have kb : Boxed w2.drew g 22 (.int .u16 p) := HK2.out.1.1
  refine wp_region_held_drew (S := fun w' => w'.cell? ⟨g + 1, 0, none⟩ = some (.bool a) ∧ w'.cell? ⟨g + 1, 1, none⟩ = some (.bool true)) (by kernel_rfl) ⟨k1, k2⟩ (fun hHeld => ?_)
  refine wpAnyH_take (i := 0) (v := ?vv0_14) rfl (by kernel_rfl) (by kernel_rfl) (by kernel_rfl) (fun _ _ _ h => h) (Or.inl ⟨by rfl, ?yy0_14⟩) (by assumption) ?rr0_14
  case yy0_14 => (intro w hSw; (try dsimp only at hSw); (try simp only [List.getElem_toArray, List.getElem_cons_succ, List.getElem_cons_zero, Act.put, List.setIfInBounds_toArray, List.set_cons_zero, List.set_cons_succ]); go_simp; (try (with_reducible rfl)))
  try simp only [List.getElem_toArray, List.getElem_cons_succ, List.getElem_cons_zero, Act.put, List.setIfInBounds_toArray, List.set_cons_zero, List.set_cons_succ]
  refine wpAnyH_take (i := 1) (v := ?vv1_15) rfl (by kernel_rfl) (by kernel_rfl) (by kernel_rfl) (fun _ _ _ h => h) (Or.inl ⟨by rfl, ?yy1_15⟩) (by assumption) ?rr1_15
  case yy1_15 => (intro w hSw; (try dsimp only at hSw); (try simp only [List.getElem_toArray, List.getElem_cons_succ, List.getElem_cons_zero, Act.put, List.setIfInBounds_toArray, List.set_cons_zero, List.set_cons_succ]); go_simp; (try (with_reducible rfl)))
  try simp only [List.getElem_toArray, List.getElem_cons_succ, List.getElem_cons_zero, Act.put, List.setIfInBounds_toArray, List.set_cons_zero, List.set_cons_succ]
  refine wpAnyH_take (i := 2) (v := ?vv2_16) rfl (by kernel_rfl) (by kernel_rfl) (by kernel_rfl) (fun _ _ _ h => h) (Or.inl ⟨by rfl, ?yy2_16⟩) (by assumption) ?rr2_16
  case yy2_16 => (intro w hSw; (try dsimp only at hSw); (try simp only [List.getElem_toArray, List.getElem_cons_succ, List.getElem_cons_zero, Act.put, List.setIfInBounds_toArray, List.set_cons_zero, List.set_cons_succ]); go_simp; (try (with_reducible rfl)))
  try simp only [List.getElem_toArray, List.getElem_cons_succ, List.getElem_cons_zero, Act.put, List.setIfInBounds_toArray, List.set_cons_zero, List.set_cons_succ]
  refine wpAnyH_take (i := 4) (v := ?vv4_17) rfl (by kernel_rfl) (by kernel_rfl) (by kernel_rfl) (fun _ _ _ h => h) (Or.inl ⟨by rfl, ?yy4_17⟩) (by assumption) ?rr4_17
  case yy4_17 => (intro w hSw; (try dsimp only at hSw); (try simp only [List.getElem_toArray, List.getElem_cons_succ, List.getElem_cons_zero, Act.put, List.setIfInBounds_toArray, List.set_cons_zero, List.set_cons_succ]); go_simp; (try (with_reducible rfl)))
  try simp only [List.getElem_toArray, List.getElem_cons_succ, List.getElem_cons_zero, Act.put, List.setIfInBounds_toArray, List.set_cons_zero, List.set_cons_succ]
  refine wpAnyH_take (i := 5) (v := ?vv5_18) rfl (by kernel_rfl) (by kernel_rfl) (by kernel_rfl) (fun _ _ _ h => h) (Or.inl ⟨by rfl, ?yy5_18⟩) (by assumption) ?rr5_18
  case yy5_18 => (intro w hSw; (try dsimp only at hSw); (try simp only [List.getElem_toArray, List.getElem_cons_succ, List.getElem_cons_zero, Act.put, List.setIfInBounds_toArray, List.set_cons_zero, List.set_cons_succ]); go_simp; (try (with_reducible rfl)))
  try simp only [List.getElem_toArray, List.getElem_cons_succ, List.getElem_cons_zero, Act.put, List.setIfInBounds_toArray, List.set_cons_zero, List.set_cons_succ]
  refine wpAnyH_take (i := 6) (v := ?vv6_19) rfl (by kernel_rfl) (by kernel_rfl) (by kernel_rfl) (fun _ _ _ h => h) (Or.inl ⟨by rfl, ?yy6_19⟩) (by assumption) ?rr6_19
  case yy6_19 => (intro w hSw; (try dsimp only at hSw); (try simp only [List.getElem_toArray, List.getElem_cons_succ, List.getElem_cons_zero, Act.put, List.setIfInBounds_toArray, List.set_cons_zero, List.set_cons_succ]); go_simp; (try (with_reducible rfl)))
  try simp only [List.getElem_toArray, List.getElem_cons_succ, List.getElem_cons_zero, Act.put, List.setIfInBounds_toArray, List.set_cons_zero, List.set_cons_succ]
  refine wpAnyH_take (i := 11) (v := ?vv11_20) rfl (by kernel_rfl) (by kernel_rfl) (by kernel_rfl) (fun _ _ _ h => h) (Or.inl ⟨by rfl, ?yy11_20⟩) (by assumption) ?rr11_20
  case yy11_20 => (intro w hSw; (try dsimp only at hSw); (try simp only [List.getElem_toArray, List.getElem_cons_succ, List.getElem_cons_zero, Act.put, List.setIfInBounds_toArray, List.set_cons_zero, List.set_cons_succ]); go_simp; (try (with_reducible rfl)))
  try simp only [List.getElem_toArray, List.getElem_cons_succ, List.getElem_cons_zero, Act.put, List.setIfInBounds_toArray, List.set_cons_zero, List.set_cons_succ]
  refine wpAnyH_take (i := 13) (v := ?vv13_21) rfl (by kernel_rfl) (by kernel_rfl) (by kernel_rfl) (fun _ _ _ h => h) (Or.inl ⟨by rfl, ?yy13_21⟩) (by assumption) ?rr13_21
  case yy13_21 => (intro w hSw; (try dsimp only at hSw); (try simp only [List.getElem_toArray, List.getElem_cons_succ, List.getElem_cons_zero, Act.put, List.setIfInBounds_toArray, List.set_cons_zero, List.set_cons_succ]); go_simp; (try (with_reducible rfl)))
  try simp only [List.getElem_toArray, List.getElem_cons_succ, List.getElem_cons_zero, Act.put, List.setIfInBounds_toArray, List.set_cons_zero, List.set_cons_succ]
  refine wpAnyH_take (i := 14) (v := ?vv14_22) rfl (by kernel_rfl) (by kernel_rfl) (by kernel_rfl) (fun _ _ _ h => h) (Or.inl ⟨by rfl, ?yy14_22⟩) (by assumption) ?rr14_22
  case yy14_22 => (intro w hSw; (try dsimp only at hSw); (try simp only [List.getElem_toArray, List.getElem_cons_succ, List.getElem_cons_zero, Act.put, List.setIfInBounds_toArray, List.set_cons_zero, List.set_cons_succ]); go_simp; (try (with_reducible rfl)))
  try simp only [List.getElem_toArray, List.getElem_cons_succ, List.getElem_cons_zero, Act.put, List.setIfInBounds_toArray, List.set_cons_zero, List.set_cons_succ]
  refine wpAnyH_ready (rs := [3]) (by kernel_rfl) (by simp) ?_
  refine AllReadyH.cons (o := _) rfl (fun K hK => ?_) AllReadyH.nil
  try simp only [List.getElem_toArray, List.getElem_cons_succ, List.getElem_cons_zero, Act.put, List.setIfInBounds_toArray, List.set_cons_zero, List.set_cons_succ]
  go_simp
  refine (C1.out _ kb).mono ?_
  rintro e w3 ⟨rfl, rfl⟩
  refine hK.out _ _ ⟨k1, k2⟩ (fun hHeld => ?_)
  clear hK K
  try simp only [List.getElem_toArray, List.getElem_cons_succ, List.getElem_cons_zero, Act.put, List.setIfInBounds_toArray, List.set_cons_zero, List.set_cons_succ]
  refine wpAnyH_take (i := 7) (v := ?vv7_23) rfl (by kernel_rfl) (by kernel_rfl) (by kernel_rfl) (fun _ _ _ h => h) (Or.inl ⟨by rfl, ?yy7_23⟩) (by assumption) ?rr7_23
  case yy7_23 => (intro w hSw; (try dsimp only at hSw); (try simp only [List.getElem_toArray, List.getElem_cons_succ, List.getElem_cons_zero, Act.put, List.setIfInBounds_toArray, List.set_cons_zero, List.set_cons_succ]); go_simp; (try (with_reducible rfl)))
  try simp only [List.getElem_toArray, List.getElem_cons_succ, List.getElem_cons_zero, Act.put, List.setIfInBounds_toArray, List.set_cons_zero, List.set_cons_succ]
  refine wpAnyH_take (i := 8) (v := ?vv8_24) rfl (by kernel_rfl) (by kernel_rfl) (by kernel_rfl) (fun _ _ _ h => h) (Or.inl ⟨by rfl, ?yy8_24⟩) (by assumption) ?rr8_24
  case yy8_24 => (intro w hSw; (try dsimp only at hSw); (try simp only [List.getElem_toArray, List.getElem_cons_succ, List.getElem_cons_zero, Act.put, List.setIfInBounds_toArray, List.set_cons_zero, List.set_cons_succ]); go_simp; (try (with_reducible rfl)))
  try simp only [List.getElem_toArray, List.getElem_cons_succ, List.getElem_cons_zero, Act.put, List.setIfInBounds_toArray, List.set_cons_zero, List.set_cons_succ]
  refine wpAnyH_take (i := 9) (v := ?vv9_25) rfl (by kernel_rfl) (by kernel_rfl) (by kernel_rfl) (fun _ _ _ h => h) (Or.inl ⟨by rfl, ?yy9_25⟩) (by assumption) ?rr9_25
  case yy9_25 => (intro w hSw; (try dsimp only at hSw); (try simp only [List.getElem_toArray, List.getElem_cons_succ, List.getElem_cons_zero, Act.put, List.setIfInBounds_toArray, List.set_cons_zero, List.set_cons_succ]); go_simp; (try (with_reducible rfl)))
  try simp only [List.getElem_toArray, List.getElem_cons_succ, List.getElem_cons_zero, Act.put, List.setIfInBounds_toArray, List.set_cons_zero, List.set_cons_succ]
  refine wpAnyH_take (i := 10) (v := ?vv10_26) rfl (by kernel_rfl) (by kernel_rfl) (by kernel_rfl) (fun _ _ _ h => h) (Or.inl ⟨by rfl, ?yy10_26⟩) (by assumption) ?rr10_26
  case yy10_26 => (intro w hSw; (try dsimp only at hSw); (try simp only [List.getElem_toArray, List.getElem_cons_succ, List.getElem_cons_zero, Act.put, List.setIfInBounds_toArray, List.set_cons_zero, List.set_cons_succ]); go_simp; (try (with_reducible rfl)))
  try simp only [List.getElem_toArray, List.getElem_cons_succ, List.getElem_cons_zero, Act.put, List.setIfInBounds_toArray, List.set_cons_zero, List.set_cons_succ]
  refine wpAnyH_ready (rs := [12]) (by kernel_rfl) (by simp) ?_
  refine AllReadyH.cons (o := _) rfl (fun K hK => ?_) AllReadyH.nil
  try simp only [List.getElem_toArray, List.getElem_cons_succ, List.getElem_cons_zero, Act.put, List.setIfInBounds_toArray, List.set_cons_zero, List.set_cons_succ]
  go_simp
  refine (C2.out _ kb).mono ?_
  rintro e w3 ⟨rfl, rfl⟩
  refine hK.out _ _ ⟨k1, k2⟩ (fun hHeld => ?_)
  clear hK K
  try simp only [List.getElem_toArray, List.getElem_cons_succ, List.getElem_cons_zero, Act.put, List.setIfInBounds_toArray, List.set_cons_zero, List.set_cons_succ]
  have hbA := (Below.refl w2.heap.size w2.drew).alloc (Nat.le_refl _) (.cells #[.string u1, .string u2, .string (bOf [y]), .string s] 9)
  have l1 := (hbA.cell (p := ⟨g + 1, 0, none⟩) (World.block_lt_of_cell? _ _ k1)).trans k1
  have l2 := (hbA.cell (p := ⟨g + 1, 1, none⟩) (World.block_lt_of_cell? _ _ k2)).trans k2
  refine wpAnyH_ready (rs := [15]) (by kernel_rfl) (by simp) ?_
  refine AllReadyH.cons (o := _) rfl (fun K hK => ?_) AllReadyH.nil
  try simp only [List.getElem_toArray, List.getElem_cons_succ, List.getElem_cons_zero, Act.put, List.setIfInBounds_toArray, List.set_cons_zero, List.set_cons_succ]
  go_simp
  refine hK.out _ _ ⟨l1, l2⟩ (fun hHeld => ?_)
  clear hK K
  try simp only [List.getElem_toArray, List.getElem_cons_succ, List.getElem_cons_zero, Act.put, List.setIfInBounds_toArray, List.set_cons_zero, List.set_cons_succ]
  refine wpAnyH_ready (rs := [16]) (by kernel_rfl) (by simp) ?_
  refine AllReadyH.cons (o := _) rfl (fun K hK => ?_) AllReadyH.nil
  try simp only [List.getElem_toArray, List.getElem_cons_succ, List.getElem_cons_zero, Act.put, List.setIfInBounds_toArray, List.set_cons_zero, List.set_cons_succ]
  go_simp
  refine (J.out w2.drew).mono ?_
  rw [HL.out]
  rintro e w3 ⟨rfl, hb3⟩
  have m1 := (hb3.cell (p := ⟨g + 1, 0, none⟩) (World.block_lt_of_cell? _ _ k1)).trans k1
  have m2 := (hb3.cell (p := ⟨g + 1, 1, none⟩) (World.block_lt_of_cell? _ _ k2)).trans k2
  refine hK.out _ _ ⟨m1, m2⟩ (fun hHeld => ?_)
  clear hK K
  try simp only [List.getElem_toArray, List.getElem_cons_succ, List.getElem_cons_zero, Act.put, List.setIfInBounds_toArray, List.set_cons_zero, List.set_cons_succ]
  refine wpAnyH_take (i := 17) (v := ?vv17_27) rfl (by kernel_rfl) (by kernel_rfl) (by kernel_rfl) (fun _ _ _ h => h) (Or.inl ⟨by rfl, ?yy17_27⟩) (by assumption) ?rr17_27
  case yy17_27 => (intro w hSw; (try dsimp only at hSw); (try simp only [List.getElem_toArray, List.getElem_cons_succ, List.getElem_cons_zero, Act.put, List.setIfInBounds_toArray, List.set_cons_zero, List.set_cons_succ]); go_simp; (try (with_reducible rfl)))
  try simp only [List.getElem_toArray, List.getElem_cons_succ, List.getElem_cons_zero, Act.put, List.setIfInBounds_toArray, List.set_cons_zero, List.set_cons_succ]
  refine wpAnyH_take (i := 18) (v := ?vv18_28) rfl (by kernel_rfl) (by kernel_rfl) (by kernel_rfl) (fun _ _ _ h => h) (Or.inl ⟨by rfl, ?yy18_28⟩) (by assumption) ?rr18_28
  case yy18_28 => (intro w hSw; (try dsimp only at hSw); (try simp only [List.getElem_toArray, List.getElem_cons_succ, List.getElem_cons_zero, Act.put, List.setIfInBounds_toArray, List.set_cons_zero, List.set_cons_succ]); go_simp; (try (with_reducible rfl)))
  try simp only [List.getElem_toArray, List.getElem_cons_succ, List.getElem_cons_zero, Act.put, List.setIfInBounds_toArray, List.set_cons_zero, List.set_cons_succ]
  refine wpAnyH_done (by kernel_rfl) ?_ _
  go_wp2
  go_ret2
  exact ⟨rfl, by rw [Hg.out]; exact HB1.out.drew.trans (hb3.mono (by have := HB1.out.size; rw [Hg.out] at this; exact this))⟩

set_option maxHeartbeats 2000000 in
set_option maxRecDepth 100000 in
theorem put_tt (p : Nat) (s : ByteArray) (a : Bool) (w : World) (hp : p < 65536) (hs : s.size ≤ 1048576) (hm : may p = true) (L : List UInt8) (hI : ((bOf [UInt8.ofNat (p / 256 % 256)]).toList == [0]) = true)
    (hL : (unl p a ⟨#[255, 3]⟩).toList ++ ((unl p true (bOf [UInt8.ofNat (p / 256 % 256)])).toList ++ ((bOf [UInt8.ofNat (p % 256)]).toList ++ s.toList)) = L) :
    Calls Try.prog 8 #[.int .u16 p, .string s, .agg #[.bool a, .bool true]] w fun e w' => e = .returned (.tuple #[.string (bOf L), .int .i64 0]) ∧ Below w.heap.size w w' := by
  have M := Lib.hid (fun w => may_any p w hp)
  rw [hm] at M
  have P := Lib.hid (fun w => put16_any p w hp)
  rw [numS_two] at P
  generalize UInt8.ofNat (p / 256 % 256) = x at *
  generalize UInt8.ofNat (p % 256) = y at *
  have HX : Hid ((bOf [x, y]).extract 0 1 = bOf [x]) := by show _ = _; rw [extract_front, toList_bOf]; rfl
  have HY : Hid ((bOf [x, y]).extract 1 (bOf [x, y]).size = bOf [y]) := by show _ = _; rw [extract_rest, toList_bOf]; rfl
  have hz2 : (2 : Int) ≤ (bOf [x, y]).size := by rw [size_bOf]; simp
  have HK := Lib.hid (kept_new w p a true)
  have HB := Lib.hid (kept_below w p a true)
  have hu1 : (unl p a ⟨#[255, 3]⟩).size ≤ 8 := by unfold unl; split <;> simp [bOf, ByteArray.size]
  have hu2 : (unl p true (bOf [x])).size ≤ 8 := by unfold unl; split <;> simp [bOf, ByteArray.size]
  have hu3 : (bOf [y]).size ≤ 8 := by rw [size_bOf]; simp
  have C1 := Lib.hid (unl_any w.heap.size p a ⟨#[255, 3]⟩)
  have C2 := Lib.hid (unl_any w.heap.size p true (bOf [x]))
  have J := Lib.hid (fun w => join_four (unl p a ⟨#[255, 3]⟩) (unl p true (bOf [x])) (bOf [y]) s w hu1 hu2 hu3 hs)
  have HL := Lib.hid hL
  clear hp hm hL hu1 hu2 hu3
  generalize unl p a ⟨#[255, 3]⟩ = u1 at *
  generalize unl p true (bOf [x]) = u2 at *
  go_enter Try.func8, Try.ntmps8
  go_wp2_with fail
  refine (M.out _).mono ?_
  rintro e w0 ⟨rfl, hw0⟩
  rw [hw0] at HK HB
  clear hw0
  generalize hg : w.heap.size = g at *
  have Hg := Lib.hid hg
  clear hg
  have hc0 := HK.out.1.1.cell
  go_wp2_with fail
  refine (P.out _).mono ?_
  rintro e w1 ⟨rfl, hb1⟩
  have HK1 := HK.out.callee hb1
  clear hc0
  go_wp2
  go_quiet (fail)
  go_wp2
  rw [HX.out, HY.out]
  have HB1 := Lib.hid (HB.out.trans ((hb1.mono (by rw [← Hg.out]; exact HB.out.size)).drewN' nq))
  have HK2 := Lib.hid (HK1.drewN nq)
  clear HK1 hb1 HK HB
  generalize w1.drewN nq = w2 at *
  have k1 : w2.drew.cell? ⟨g + 1, 0, none⟩ = some (.bool a) := HK2.out.2.1
  have k2 : w2.drew.cell? ⟨g + 1, 1, none⟩ = some (.bool true) := HK2.out.2.2
  have kb : Boxed w2.drew g 22 (.int .u16 p) := HK2.out.1.1
  refine wp_region_held_drew (S := fun w' => w'.cell? ⟨g + 1, 0, none⟩ = some (.bool a) ∧ w'.cell? ⟨g + 1, 1, none⟩ = some (.bool true)) (by kernel_rfl) ⟨k1, k2⟩ (fun hHeld => ?_)
  refine wpAnyH_take (i := 0) (v := ?vv0_29) rfl (by kernel_rfl) (by kernel_rfl) (by kernel_rfl) (fun _ _ _ h => h) (Or.inl ⟨by rfl, ?yy0_29⟩) (by assumption) ?rr0_29
  case yy0_29 => (intro w hSw; (try dsimp only at hSw); (try simp only [List.getElem_toArray, List.getElem_cons_succ, List.getElem_cons_zero, Act.put, List.setIfInBounds_toArray, List.set_cons_zero, List.set_cons_succ]); go_simp; (try (with_reducible rfl)))
  try simp only [List.getElem_toArray, List.getElem_cons_succ, List.getElem_cons_zero, Act.put, List.setIfInBounds_toArray, List.set_cons_zero, List.set_cons_succ]
  refine wpAnyH_take (i := 1) (v := ?vv1_30) rfl (by kernel_rfl) (by kernel_rfl) (by kernel_rfl) (fun _ _ _ h => h) (Or.inl ⟨by rfl, ?yy1_30⟩) (by assumption) ?rr1_30
  case yy1_30 => (intro w hSw; (try dsimp only at hSw); (try simp only [List.getElem_toArray, List.getElem_cons_succ, List.getElem_cons_zero, Act.put, List.setIfInBounds_toArray, List.set_cons_zero, List.set_cons_succ]); go_simp; (try (with_reducible rfl)))
  try simp only [List.getElem_toArray, List.getElem_cons_succ, List.getElem_cons_zero, Act.put, List.setIfInBounds_toArray, List.set_cons_zero, List.set_cons_succ]
  refine wpAnyH_take (i := 2) (v := ?vv2_31) rfl (by kernel_rfl) (by kernel_rfl) (by kernel_rfl) (fun _ _ _ h => h) (Or.inl ⟨by rfl, ?yy2_31⟩) (by assumption) ?rr2_31
  case yy2_31 => (intro w hSw; (try dsimp only at hSw); (try simp only [List.getElem_toArray, List.getElem_cons_succ, List.getElem_cons_zero, Act.put, List.setIfInBounds_toArray, List.set_cons_zero, List.set_cons_succ]); go_simp; (try (with_reducible rfl)))
  try simp only [List.getElem_toArray, List.getElem_cons_succ, List.getElem_cons_zero, Act.put, List.setIfInBounds_toArray, List.set_cons_zero, List.set_cons_succ]
  refine wpAnyH_take (i := 4) (v := ?vv4_32) rfl (by kernel_rfl) (by kernel_rfl) (by kernel_rfl) (fun _ _ _ h => h) (Or.inl ⟨by rfl, ?yy4_32⟩) (by assumption) ?rr4_32
  case yy4_32 => (intro w hSw; (try dsimp only at hSw); (try simp only [List.getElem_toArray, List.getElem_cons_succ, List.getElem_cons_zero, Act.put, List.setIfInBounds_toArray, List.set_cons_zero, List.set_cons_succ]); go_simp; (try (with_reducible rfl)))
  try simp only [List.getElem_toArray, List.getElem_cons_succ, List.getElem_cons_zero, Act.put, List.setIfInBounds_toArray, List.set_cons_zero, List.set_cons_succ]
  refine wpAnyH_take (i := 5) (v := ?vv5_33) rfl (by kernel_rfl) (by kernel_rfl) (by kernel_rfl) (fun _ _ _ h => h) (Or.inl ⟨by rfl, ?yy5_33⟩) (by assumption) ?rr5_33
  case yy5_33 => (intro w hSw; (try dsimp only at hSw); (try simp only [List.getElem_toArray, List.getElem_cons_succ, List.getElem_cons_zero, Act.put, List.setIfInBounds_toArray, List.set_cons_zero, List.set_cons_succ]); go_simp; (try (with_reducible rfl)))
  try simp only [List.getElem_toArray, List.getElem_cons_succ, List.getElem_cons_zero, Act.put, List.setIfInBounds_toArray, List.set_cons_zero, List.set_cons_succ]
  refine wpAnyH_take (i := 6) (v := ?vv6_34) rfl (by kernel_rfl) (by kernel_rfl) (by kernel_rfl) (fun _ _ _ h => h) (Or.inl ⟨by rfl, ?yy6_34⟩) (by assumption) ?rr6_34
  case yy6_34 => (intro w hSw; (try dsimp only at hSw); (try simp only [List.getElem_toArray, List.getElem_cons_succ, List.getElem_cons_zero, Act.put, List.setIfInBounds_toArray, List.set_cons_zero, List.set_cons_succ]); go_simp; (try (with_reducible rfl)))
  try simp only [List.getElem_toArray, List.getElem_cons_succ, List.getElem_cons_zero, Act.put, List.setIfInBounds_toArray, List.set_cons_zero, List.set_cons_succ]
  refine wpAnyH_take (i := 11) (v := ?vv11_35) rfl (by kernel_rfl) (by kernel_rfl) (by kernel_rfl) (fun _ _ _ h => h) (Or.inl ⟨by rfl, ?yy11_35⟩) (by assumption) ?rr11_35
  case yy11_35 => (intro w hSw; (try dsimp only at hSw); (try simp only [List.getElem_toArray, List.getElem_cons_succ, List.getElem_cons_zero, Act.put, List.setIfInBounds_toArray, List.set_cons_zero, List.set_cons_succ]); go_simp; (try (with_reducible rfl)))
  try simp only [List.getElem_toArray, List.getElem_cons_succ, List.getElem_cons_zero, Act.put, List.setIfInBounds_toArray, List.set_cons_zero, List.set_cons_succ]
  refine wpAnyH_take (i := 13) (v := ?vv13_36) rfl (by kernel_rfl) (by kernel_rfl) (by kernel_rfl) (fun _ _ _ h => h) (Or.inl ⟨by rfl, ?yy13_36⟩) (by assumption) ?rr13_36
  case yy13_36 => (intro w hSw; (try dsimp only at hSw); (try simp only [List.getElem_toArray, List.getElem_cons_succ, List.getElem_cons_zero, Act.put, List.setIfInBounds_toArray, List.set_cons_zero, List.set_cons_succ]); go_simp; (try (with_reducible rfl)))
  try simp only [List.getElem_toArray, List.getElem_cons_succ, List.getElem_cons_zero, Act.put, List.setIfInBounds_toArray, List.set_cons_zero, List.set_cons_succ]
  refine wpAnyH_take (i := 14) (v := ?vv14_37) rfl (by kernel_rfl) (by kernel_rfl) (by kernel_rfl) (fun _ _ _ h => h) (Or.inl ⟨by rfl, ?yy14_37⟩) (by assumption) ?rr14_37
  case yy14_37 => (intro w hSw; (try dsimp only at hSw); (try simp only [List.getElem_toArray, List.getElem_cons_succ, List.getElem_cons_zero, Act.put, List.setIfInBounds_toArray, List.set_cons_zero, List.set_cons_succ]); go_simp; (try (with_reducible rfl)))
  try simp only [List.getElem_toArray, List.getElem_cons_succ, List.getElem_cons_zero, Act.put, List.setIfInBounds_toArray, List.set_cons_zero, List.set_cons_succ]
  refine wpAnyH_ready (rs := [3]) (by kernel_rfl) (by simp) ?_
  refine AllReadyH.cons (o := _) rfl (fun K hK => ?_) AllReadyH.nil
  try simp only [List.getElem_toArray, List.getElem_cons_succ, List.getElem_cons_zero, Act.put, List.setIfInBounds_toArray, List.set_cons_zero, List.set_cons_succ]
  go_simp
  refine (C1.out _ kb).mono ?_
  rintro e w3 ⟨rfl, rfl⟩
  refine hK.out _ _ ⟨k1, k2⟩ (fun hHeld => ?_)
  clear hK K
  try simp only [List.getElem_toArray, List.getElem_cons_succ, List.getElem_cons_zero, Act.put, List.setIfInBounds_toArray, List.set_cons_zero, List.set_cons_succ]
  refine wpAnyH_take (i := 7) (v := ?vv7_38) rfl (by kernel_rfl) (by kernel_rfl) (by kernel_rfl) (fun _ _ _ h => h) (Or.inl ⟨by rfl, ?yy7_38⟩) (by assumption) ?rr7_38
  case yy7_38 => (intro w hSw; (try dsimp only at hSw); (try simp only [List.getElem_toArray, List.getElem_cons_succ, List.getElem_cons_zero, Act.put, List.setIfInBounds_toArray, List.set_cons_zero, List.set_cons_succ]); go_simp; (try (with_reducible rfl)))
  try simp only [List.getElem_toArray, List.getElem_cons_succ, List.getElem_cons_zero, Act.put, List.setIfInBounds_toArray, List.set_cons_zero, List.set_cons_succ]
  refine wpAnyH_take (i := 8) (v := ?vv8_39) rfl (by kernel_rfl) (by kernel_rfl) (by kernel_rfl) (fun _ _ _ h => h) (Or.inl ⟨by rfl, ?yy8_39⟩) (by assumption) ?rr8_39
  case yy8_39 => (intro w hSw; (try dsimp only at hSw); (try simp only [List.getElem_toArray, List.getElem_cons_succ, List.getElem_cons_zero, Act.put, List.setIfInBounds_toArray, List.set_cons_zero, List.set_cons_succ]); go_simp; (try (with_reducible rfl)))
  try simp only [List.getElem_toArray, List.getElem_cons_succ, List.getElem_cons_zero, Act.put, List.setIfInBounds_toArray, List.set_cons_zero, List.set_cons_succ]
  refine wpAnyH_take (i := 9) (v := ?vv9_40) rfl (by kernel_rfl) (by kernel_rfl) (by kernel_rfl) (fun _ _ _ h => h) (Or.inl ⟨by rfl, ?yy9_40⟩) (by assumption) ?rr9_40
  case yy9_40 => (intro w hSw; (try dsimp only at hSw); (try simp only [List.getElem_toArray, List.getElem_cons_succ, List.getElem_cons_zero, Act.put, List.setIfInBounds_toArray, List.set_cons_zero, List.set_cons_succ]); go_simp; (try (with_reducible rfl)))
  try simp only [List.getElem_toArray, List.getElem_cons_succ, List.getElem_cons_zero, Act.put, List.setIfInBounds_toArray, List.set_cons_zero, List.set_cons_succ]
  refine wpAnyH_take (i := 10) (v := ?vv10_41) rfl (by kernel_rfl) (by kernel_rfl) (by kernel_rfl) (fun _ _ _ h => h) (Or.inl ⟨by rfl, ?yy10_41⟩) (by assumption) ?rr10_41
  case yy10_41 => (intro w hSw; (try dsimp only at hSw); (try simp only [List.getElem_toArray, List.getElem_cons_succ, List.getElem_cons_zero, Act.put, List.setIfInBounds_toArray, List.set_cons_zero, List.set_cons_succ]); go_simp; (try (with_reducible rfl)))
  try simp only [List.getElem_toArray, List.getElem_cons_succ, List.getElem_cons_zero, Act.put, List.setIfInBounds_toArray, List.set_cons_zero, List.set_cons_succ]
  refine wpAnyH_ready (rs := [12]) (by kernel_rfl) (by simp) ?_
  refine AllReadyH.cons (o := _) rfl (fun K hK => ?_) AllReadyH.nil
  try simp only [List.getElem_toArray, List.getElem_cons_succ, List.getElem_cons_zero, Act.put, List.setIfInBounds_toArray, List.set_cons_zero, List.set_cons_succ]
  go_simp
  refine (C2.out _ kb).mono ?_
  rintro e w3 ⟨rfl, rfl⟩
  refine hK.out _ _ ⟨k1, k2⟩ (fun hHeld => ?_)
  clear hK K
  try simp only [List.getElem_toArray, List.getElem_cons_succ, List.getElem_cons_zero, Act.put, List.setIfInBounds_toArray, List.set_cons_zero, List.set_cons_succ]
  have hbA := (Below.refl w2.heap.size w2.drew).alloc (Nat.le_refl _) (.cells #[.string u1, .string u2, .string (bOf [y]), .string s] 9)
  have l1 := (hbA.cell (p := ⟨g + 1, 0, none⟩) (World.block_lt_of_cell? _ _ k1)).trans k1
  have l2 := (hbA.cell (p := ⟨g + 1, 1, none⟩) (World.block_lt_of_cell? _ _ k2)).trans k2
  refine wpAnyH_ready (rs := [15]) (by kernel_rfl) (by simp) ?_
  refine AllReadyH.cons (o := _) rfl (fun K hK => ?_) AllReadyH.nil
  try simp only [List.getElem_toArray, List.getElem_cons_succ, List.getElem_cons_zero, Act.put, List.setIfInBounds_toArray, List.set_cons_zero, List.set_cons_succ]
  go_simp
  refine hK.out _ _ ⟨l1, l2⟩ (fun hHeld => ?_)
  clear hK K
  try simp only [List.getElem_toArray, List.getElem_cons_succ, List.getElem_cons_zero, Act.put, List.setIfInBounds_toArray, List.set_cons_zero, List.set_cons_succ]
  refine wpAnyH_ready (rs := [16]) (by kernel_rfl) (by simp) ?_
  refine AllReadyH.cons (o := _) rfl (fun K hK => ?_) AllReadyH.nil
  try simp only [List.getElem_toArray, List.getElem_cons_succ, List.getElem_cons_zero, Act.put, List.setIfInBounds_toArray, List.set_cons_zero, List.set_cons_succ]
  go_simp
  refine (J.out w2.drew).mono ?_
  rw [HL.out]
  rintro e w3 ⟨rfl, hb3⟩
  have m1 := (hb3.cell (p := ⟨g + 1, 0, none⟩) (World.block_lt_of_cell? _ _ k1)).trans k1
  have m2 := (hb3.cell (p := ⟨g + 1, 1, none⟩) (World.block_lt_of_cell? _ _ k2)).trans k2
  refine hK.out _ _ ⟨m1, m2⟩ (fun hHeld => ?_)
  clear hK K
  try simp only [List.getElem_toArray, List.getElem_cons_succ, List.getElem_cons_zero, Act.put, List.setIfInBounds_toArray, List.set_cons_zero, List.set_cons_succ]
  refine wpAnyH_take (i := 17) (v := ?vv17_42) rfl (by kernel_rfl) (by kernel_rfl) (by kernel_rfl) (fun _ _ _ h => h) (Or.inl ⟨by rfl, ?yy17_42⟩) (by assumption) ?rr17_42
  case yy17_42 => (intro w hSw; (try dsimp only at hSw); (try simp only [List.getElem_toArray, List.getElem_cons_succ, List.getElem_cons_zero, Act.put, List.setIfInBounds_toArray, List.set_cons_zero, List.set_cons_succ]); go_simp; (try (with_reducible rfl)))
  try simp only [List.getElem_toArray, List.getElem_cons_succ, List.getElem_cons_zero, Act.put, List.setIfInBounds_toArray, List.set_cons_zero, List.set_cons_succ]
  refine wpAnyH_take (i := 18) (v := ?vv18_43) rfl (by kernel_rfl) (by kernel_rfl) (by kernel_rfl) (fun _ _ _ h => h) (Or.inl ⟨by rfl, ?yy18_43⟩) (by assumption) ?rr18_43
  case yy18_43 => (intro w hSw; (try dsimp only at hSw); (try simp only [List.getElem_toArray, List.getElem_cons_succ, List.getElem_cons_zero, Act.put, List.setIfInBounds_toArray, List.set_cons_zero, List.set_cons_succ]); go_simp; (try (with_reducible rfl)))
  try simp only [List.getElem_toArray, List.getElem_cons_succ, List.getElem_cons_zero, Act.put, List.setIfInBounds_toArray, List.set_cons_zero, List.set_cons_succ]
  refine wpAnyH_done (by kernel_rfl) ?_ _
  go_wp2
  go_ret2
  exact ⟨rfl, by rw [Hg.out]; exact HB1.out.drew.trans (hb3.mono (by have := HB1.out.size; rw [Hg.out] at this; exact this))⟩

set_option maxHeartbeats 1000000 in
theorem put_no (p : Nat) (s : ByteArray) (a c : Bool) (w : World) (hp : p < 65536) (hm : may p = false) :
    Calls Try.prog 8 #[.int .u16 p, .string s, .agg #[.bool a, .bool c]] w fun e w' => e = .returned (.tuple #[.string (bOf []), .int .i64 2]) ∧ Below w.heap.size w w' := by
  have M := Lib.hid (fun w => may_any p w hp)
  rw [hm] at M
  have HB := Lib.hid (kept_below w p a c)
  clear hp hm
  go_enter Try.func8, Try.ntmps8
  go_wp2_with fail
  refine (M.out _).mono ?_
  rintro e w0 ⟨rfl, rfl⟩
  go_wp2
  go_ret2
  exact ⟨rfl, HB.out⟩
theorem put_text (p : Nat) (s : ByteArray) (a c : Bool) (hp : p < 65536) : (unl p a ⟨#[255, 3]⟩).toList ++ ((unl p (c && p / 256 == 0) (bOf [UInt8.ofNat (p / 256 % 256)])).toList ++ ((bOf [UInt8.ofNat (p % 256)]).toList ++ s.toList)) = heads p a c ++ s.toList := by
  rw [show p / 256 % 256 = p / 256 by omega, toList_bOf]
  have e1 : (unl p a ⟨#[255, 3]⟩).toList = opens p a := by
    unfold unl opens
    split
    · exact toList_bOf []
    · exact toList_bOf [255, 3]
  have e2 : (unl p (c && p / 256 == 0) (bOf [UInt8.ofNat (p / 256)])).toList = higher p c := by
    unfold unl higher
    split
    · exact toList_bOf []
    · exact toList_bOf _
  rw [e1, e2]
  unfold heads lower
  simp only [List.append_assoc]
theorem zero_is (p : Nat) (hp : p < 65536) : ((bOf [UInt8.ofNat (p / 256 % 256)]).toList == [0]) = (p / 256 == 0) := by
  rw [toList_bOf, show p / 256 % 256 = p / 256 by omega, Bool.eq_iff_iff]
  simp only [beq_iff_eq, List.cons.injEq, and_true]
  constructor
  · intro h
    have := congrArg UInt8.toNat h
    rw [ofNat_toNat (by omega)] at this
    exact this
  · intro h
    rw [h]
    rfl
theorem put_any (p : Nat) (s : ByteArray) (a c : Bool) (w : World) (hp : p < 65536) (hs : s.size ≤ 1048576) :
    Calls Try.prog 8 #[.int .u16 p, .string s, .agg #[.bool a, .bool c]] w fun e w' => e = .returned (.tuple #[.string (putA p s a c), .int .i64 (putE p)]) ∧ Below w.heap.size w w' := by
  unfold putA putE
  cases hm : may p with
  | false => exact put_no p s a c w hp hm
  | true =>
    rw [if_pos rfl, if_pos rfl]
    have ht := put_text p s a c hp
    have hz := zero_is p hp
    cases c with
    | false => exact put_f p s a w hp hs hm _ ht
    | true =>
      cases h0 : (p / 256 == 0) with
      | false => rw [h0] at ht hz; exact put_tf p s a w hp hs hm _ hz ht
      | true => rw [h0] at ht hz; exact put_tt p s a w hp hs hm _ hz ht
end Go.Proofs.Ytppkmfkjghnkeaa.Fld
