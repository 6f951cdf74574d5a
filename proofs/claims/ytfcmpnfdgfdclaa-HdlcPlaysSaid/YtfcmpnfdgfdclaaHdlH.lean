/- The document's receiver in memory; contract of its met. -/
import Derived.Test.YtfcmpnfdgfdclaaHdlG
namespace Go.Proofs.Ytfcmpnfdgfdclaa.Hdl
open Go.RowKit Go.Proofs.Ytfcmpnfdgfdclaa.Oct Go.Proofs.Ytfcmpnfdgfdclaa.Row Go.Proofs.Ytfcmpnfdgfdclaa.Esc Go.Proofs.Ytfcmpnfdgfdclaa.Fcs

def cellsD (r : St) : Array Value := #[.int .i64 r.most, .int .u32 r.accm, .bool r.begun, .string (bOf r.piece), .int .i64 r.c0, .int .i64 r.c1, .int .i64 r.c2, .int .i64 r.c3, .int .i64 r.c4]
/-- The document's receiver r lies in block g. -/
def Doc (w : World) (g : Nat) (r : St) : Prop := w.heap[g]? = some (.cells (cellsD r) 41 (0, 0))
theorem Doc.lt {w : World} {g : Nat} {r : St} (h : Doc w g r) : g < w.heap.size := (Array.getElem?_eq_some_iff.1 h).1
theorem Doc.below {w w' : World} {g : Nat} {r : St} (h : Doc w g r) (hb : Below w.heap.size w w') : Doc w' g r := (hb.block g h.lt).trans h
theorem Doc.stays {w w' : World} {g : Nat} {r : St} {S : Nat → Prop} (h : Doc w g r) (hm : Moves S w w') (hs : ¬ S g) : Doc w' g r := (hm.block g h.lt hs).trans h
theorem Doc.put {w : World} {g : Nat} {r r' : St} (h : Doc w g r) (i : Nat) (u : Value) (hc : (cellsD r).setIfInBounds i u = cellsD r') : Doc (w.setCell ⟨g, i, none⟩ u) g r' := by
  unfold Doc
  rw [cells_set h, hc]

def metA (r : St) : ByteArray := if kind r.most r.piece = 0 then bOf (infoOf r.piece) else bOf []
def metB (r : St) : Bool := decide (kind r.most r.piece = 0)
def MetP (g : Nat) (r : St) (w : World) (e : Ending) (w' : World) : Prop := e = .returned (.tuple #[.string (metA r), .bool (metB r)]) ∧ Doc w' g (r.bump (kind r.most r.piece)) ∧ Moves (fun k => k = g) w w'

theorem last_at (s : ByteArray) (h : 0 < s.size) : (s[s.size - 1].toNat == 125) = endsMark s := by
  unfold endsMark
  have hl := size_toList s
  have hg := getElem_toList s (s.size - 1) (by omega)
  have hq : s.toList.getLast? = some (s[s.size - 1]) := by
    rw [hg, List.getLast?_eq_getElem?, List.getElem?_eq_getElem (by omega)]
    congr 2
    omega
  rw [hq]
  generalize s[s.size - 1] = b
  by_cases e : b = 125
  · subst e; rfl
  · have : ¬ b.toNat = 125 := fun h => e (by rw [← UInt8.ofNat_toNat (x := b), h]; rfl)
    rw [beq_eq_false_iff_ne.2 this]
    symm
    rw [beq_eq_false_iff_ne]
    intro h
    exact e (Option.some.inj h)
/-- The five counts are stored. -/
theorem doc_five {w : World} {g : Nat} {r r' : St} (h : Doc w g r) (a0 a1 a2 a3 a4 : Value) (hc : #[.int .i64 r.most, .int .u32 r.accm, .bool r.begun, .string (bOf r.piece), a0, a1, a2, a3, a4] = cellsD r') :
    Doc (((((w.setCell ⟨g, 4, none⟩ a0).setCell ⟨g, 5, none⟩ a1).setCell ⟨g, 6, none⟩ a2).setCell ⟨g, 7, none⟩ a3).setCell ⟨g, 8, none⟩ a4) g r' ∧
    Moves (fun k => k = g) w (((((w.setCell ⟨g, 4, none⟩ a0).setCell ⟨g, 5, none⟩ a1).setCell ⟨g, 6, none⟩ a2).setCell ⟨g, 7, none⟩ a3).setCell ⟨g, 8, none⟩ a4) := by
  constructor
  · unfold Doc
    rw [cells_set (cells_set (cells_set (cells_set (cells_set h a0) a1) a2) a3) a4, ← hc]
    rfl
  · exact (((((Moves.refl (fun k => k = g) w).setCell ⟨g, 4, none⟩ (fun _ => rfl) _).setCell ⟨g, 5, none⟩ (fun _ => rfl) _).setCell ⟨g, 6, none⟩ (fun _ => rfl) _).setCell ⟨g, 7, none⟩ (fun _ => rfl) _).setCell ⟨g, 8, none⟩ (fun _ => rfl) _

set_option maxHeartbeats 4000000 in
set_option maxRecDepth 100000 in
theorem met_abort (g : Nat) (r : St) (w : World) (hD : Doc w g r) (hI : Inv r) (hN : Small r 1000000000) (hne : r.piece ≠ []) (hlen : r.piece.length ≤ 1048576) (hK : kind r.most r.piece = 1) :
    Calls Try.prog 34 #[.pointer (some ⟨g, 0, none⟩)] w (MetP g r w) := by
  have HD := Lib.hid hD
  have hlt := hD.lt
  have hmo := hI.2.2.2.1
  obtain ⟨hs0, hs1, hs2, hs3, hs4⟩ := hN
  have hc3 : w.cell? ⟨g, 3, none⟩ = some (.string (bOf r.piece)) := (cellR hD 3).1
  have hc4 : w.cell? ⟨g, 4, none⟩ = some (.int .i64 r.c0) := (cellR hD 4).1
  have hc5 : w.cell? ⟨g, 5, none⟩ = some (.int .i64 r.c1) := (cellR hD 5).1
  have hc6 : w.cell? ⟨g, 6, none⟩ = some (.int .i64 r.c2) := (cellR hD 6).1
  have hc7 : w.cell? ⟨g, 7, none⟩ = some (.int .i64 r.c3) := (cellR hD 7).1
  have hc8 : w.cell? ⟨g, 8, none⟩ = some (.int .i64 r.c4) := (cellR hD 8).1
  have hf4 := (cellR hD 4).2
  have hf5 := (cellR hD 5).2
  have hf6 := (cellR hD 6).2
  have hf7 := (cellR hD 7).2
  have hf8 := (cellR hD 8).2
  obtain ⟨P, hP⟩ : ∃ P, bOf r.piece = P := ⟨_, rfl⟩
  have hPs : P.size ≤ 1048576 := by rw [← hP, size_bOf]; exact hlen
  have hP0 : 0 < P.size := by rw [← hP, size_bOf]; exact List.length_pos_iff.2 hne
  have hpt := piece_tests r.most (p := r.piece) hI.1
  rw [hP] at hpt hc3
  have HA : Hid (metA r = bOf [] ∧ metB r = false) := by show _ ∧ _; unfold metA metB; rw [hK]; exact ⟨rfl, rfl⟩
  have HK := Lib.hid hK; clear hK
  have hx : ((P[P.size - 1].toNat : Int) == 125) = true := by
    have h1 := last_at P hP0
    rw [hpt.1, decide_eq_true HK.out] at h1
    have h2 : P[P.size - 1].toNat = 125 := by simpa using h1
    rw [h2]; rfl
  clear hpt hP hD hI hne hlen
  go_enter Try.func34, Try.ntmps34
  go_wp2
  go_ret2
  have h5 := doc_five HD.out (r' := r.bump 1) (.int .i64 r.c0) (.int .i64 ((r.c1 : Int) + 1)) (.int .i64 r.c2) (.int .i64 r.c3) (.int .i64 r.c4) rfl
  refine ⟨by rw [HA.out.1, HA.out.2]; rfl, ?_, h5.2.alloc _⟩
  rw [HK.out]
  exact h5.1.below ((Below.refl _ _).alloc (Nat.le_refl _) _)
set_option maxHeartbeats 4000000 in
set_option maxRecDepth 100000 in
theorem met_long (g : Nat) (r : St) (w : World) (hD : Doc w g r) (hI : Inv r) (hN : Small r 1000000000) (hne : r.piece ≠ []) (hlen : r.piece.length ≤ 1048576) (hK : kind r.most r.piece = 2) :
    Calls Try.prog 34 #[.pointer (some ⟨g, 0, none⟩)] w (MetP g r w) := by
  have HD := Lib.hid hD
  have hlt := hD.lt
  have hmo := hI.2.2.2.1
  obtain ⟨hs0, hs1, hs2, hs3, hs4⟩ := hN
  have hc3 : w.cell? ⟨g, 3, none⟩ = some (.string (bOf r.piece)) := (cellR hD 3).1
  have hc4 : w.cell? ⟨g, 4, none⟩ = some (.int .i64 r.c0) := (cellR hD 4).1
  have hc5 : w.cell? ⟨g, 5, none⟩ = some (.int .i64 r.c1) := (cellR hD 5).1
  have hc6 : w.cell? ⟨g, 6, none⟩ = some (.int .i64 r.c2) := (cellR hD 6).1
  have hc7 : w.cell? ⟨g, 7, none⟩ = some (.int .i64 r.c3) := (cellR hD 7).1
  have hc8 : w.cell? ⟨g, 8, none⟩ = some (.int .i64 r.c4) := (cellR hD 8).1
  obtain ⟨P, hP⟩ : ∃ P, bOf r.piece = P := ⟨_, rfl⟩
  have hPs : P.size ≤ 1048576 := by rw [← hP, size_bOf]; exact hlen
  have hP0 : 0 < P.size := by rw [← hP, size_bOf]; exact List.length_pos_iff.2 hne
  have hpt := piece_tests r.most (p := r.piece) hI.1
  rw [hP] at hpt hc3
  have HA : Hid (metA r = bOf [] ∧ metB r = false) := by show _ ∧ _; unfold metA metB; rw [hK]; exact ⟨rfl, rfl⟩
  have HK := Lib.hid hK; clear hK
  have hx : ((P[P.size - 1].toNat : Int) == 125) = false := by
    have h1 := last_at P hP0
    rw [hpt.1, decide_eq_false (by rw [HK.out]; omega)] at h1
    have h2 : ¬ P[P.size - 1].toNat = 125 := by simpa using h1
    rw [beq_eq_false_iff_ne]; omega
  obtain ⟨T, hT⟩ : ∃ T, getA P = T := ⟨_, rfl⟩
  rw [hT] at hpt
  have hTs : T.size ≤ 1048576 := by have := hpt.2.2.2.2.2; omega
  have HT := Lib.hid hT; clear hT
  have ht2 : decide ((r.most : Int) + 2 < (T.size : Int)) = true := by
    have h := of_decide_eq_true ((hpt.2.1 (by rw [HK.out]; omega)).trans (decide_eq_true (by rw [HK.out]; try omega)))
    exact decide_eq_true (by omega)
  clear hpt hP hD hI hne hlen
  go_enter Try.func34, Try.ntmps34
  go_wp2_with fail
  refine (rget_any P _ hPs).mono ?_
  rw [HT.out]
  rintro e w1 ⟨rfl, hb1⟩
  have hD1 : Doc w1 g r := HD.out.below (((Below.refl _ w).alloc (Nat.le_refl _) _).trans (hb1.mono (by simp)))
  have hB1 : w1.heap[w.heap.size]? = some (.cells #[.int .i64 r.c0, .int .i64 r.c1, .int .i64 r.c2, .int .i64 r.c3, .int .i64 r.c4] 32 (0, 0)) := (hb1.block _ (by simp)).trans (World.alloc_heap_new w _)
  have HM1 : Hid (Moves (fun k => k = g) w w1) := ((Moves.refl _ w).alloc _).trans (Moves.of_below (S := fun _ => False) hb1) (fun _ _ x => x.elim)
  have d0 : w1.cell? ⟨g, 0, none⟩ = some (.int .i64 r.most) := (cellR hD1 0).1
  clear hb1 hc3 hc4 hc5 hc6 hc7 hc8
  have HD1 := Lib.hid hD1
  have hz : w.heap.size < w1.heap.size := (Array.getElem?_eq_some_iff.1 hB1).1
  have d4 : w1.cell? ⟨g, 4, none⟩ = some (.int .i64 r.c0) := (cellR hD1 4).1
  have e4 := (cellR hD1 4).2
  have b0 : w1.cell? ⟨w.heap.size, 0, none⟩ = some (.int .i64 r.c0) := (cellR hB1 0).1
  have f0 := (cellR hB1 0).2
  have d5 : w1.cell? ⟨g, 5, none⟩ = some (.int .i64 r.c1) := (cellR hD1 5).1
  have e5 := (cellR hD1 5).2
  have b1 : w1.cell? ⟨w.heap.size, 1, none⟩ = some (.int .i64 r.c1) := (cellR hB1 1).1
  have f1 := (cellR hB1 1).2
  have d6 : w1.cell? ⟨g, 6, none⟩ = some (.int .i64 r.c2) := (cellR hD1 6).1
  have e6 := (cellR hD1 6).2
  have b2 : w1.cell? ⟨w.heap.size, 2, none⟩ = some (.int .i64 r.c2) := (cellR hB1 2).1
  have f2 := (cellR hB1 2).2
  have d7 : w1.cell? ⟨g, 7, none⟩ = some (.int .i64 r.c3) := (cellR hD1 7).1
  have e7 := (cellR hD1 7).2
  have b3 : w1.cell? ⟨w.heap.size, 3, none⟩ = some (.int .i64 r.c3) := (cellR hB1 3).1
  have f3 := (cellR hB1 3).2
  have d8 : w1.cell? ⟨g, 8, none⟩ = some (.int .i64 r.c4) := (cellR hD1 8).1
  have e8 := (cellR hD1 8).2
  have b4 : w1.cell? ⟨w.heap.size, 4, none⟩ = some (.int .i64 r.c4) := (cellR hB1 4).1
  have f4 := (cellR hB1 4).2
  clear hD1 hB1
  go_wp2
  go_ret2
  have hD2 : Doc (w1.setCell ⟨w.heap.size, 2, none⟩ (.int .i64 ((r.c2 : Int) + 1))) g r := HD1.out.stays (S := fun k => k = w.heap.size) ((Moves.refl (fun k => k = w.heap.size) _).setCell ⟨w.heap.size, 2, none⟩ (fun _ => rfl) _) (by omega)
  have hM2 : Moves (fun k => k = g) w (w1.setCell ⟨w.heap.size, 2, none⟩ (.int .i64 ((r.c2 : Int) + 1))) := HM1.out.setCell ⟨w.heap.size, 2, none⟩ (fun h => absurd h (Nat.lt_irrefl _)) _
  have h5 := doc_five hD2 (r' := r.bump 2) (.int .i64 r.c0) (.int .i64 r.c1) (.int .i64 ((r.c2 : Int) + 1)) (.int .i64 r.c3) (.int .i64 r.c4) rfl
  refine ⟨by rw [HA.out.1, HA.out.2]; rfl, ?_, hM2.trans h5.2 (fun _ _ h => h)⟩
  rw [HK.out]
  exact h5.1
set_option maxHeartbeats 4000000 in
set_option maxRecDepth 100000 in
theorem met_short (g : Nat) (r : St) (w : World) (hD : Doc w g r) (hI : Inv r) (hN : Small r 1000000000) (hne : r.piece ≠ []) (hlen : r.piece.length ≤ 1048576) (hK : kind r.most r.piece = 3) :
    Calls Try.prog 34 #[.pointer (some ⟨g, 0, none⟩)] w (MetP g r w) := by
  have HD := Lib.hid hD
  have hlt := hD.lt
  have hmo := hI.2.2.2.1
  obtain ⟨hs0, hs1, hs2, hs3, hs4⟩ := hN
  have hc3 : w.cell? ⟨g, 3, none⟩ = some (.string (bOf r.piece)) := (cellR hD 3).1
  have hc4 : w.cell? ⟨g, 4, none⟩ = some (.int .i64 r.c0) := (cellR hD 4).1
  have hc5 : w.cell? ⟨g, 5, none⟩ = some (.int .i64 r.c1) := (cellR hD 5).1
  have hc6 : w.cell? ⟨g, 6, none⟩ = some (.int .i64 r.c2) := (cellR hD 6).1
  have hc7 : w.cell? ⟨g, 7, none⟩ = some (.int .i64 r.c3) := (cellR hD 7).1
  have hc8 : w.cell? ⟨g, 8, none⟩ = some (.int .i64 r.c4) := (cellR hD 8).1
  obtain ⟨P, hP⟩ : ∃ P, bOf r.piece = P := ⟨_, rfl⟩
  have hPs : P.size ≤ 1048576 := by rw [← hP, size_bOf]; exact hlen
  have hP0 : 0 < P.size := by rw [← hP, size_bOf]; exact List.length_pos_iff.2 hne
  have hpt := piece_tests r.most (p := r.piece) hI.1
  rw [hP] at hpt hc3
  have HA : Hid (metA r = bOf [] ∧ metB r = false) := by show _ ∧ _; unfold metA metB; rw [hK]; exact ⟨rfl, rfl⟩
  have HK := Lib.hid hK; clear hK
  have hx : ((P[P.size - 1].toNat : Int) == 125) = false := by
    have h1 := last_at P hP0
    rw [hpt.1, decide_eq_false (by rw [HK.out]; omega)] at h1
    have h2 : ¬ P[P.size - 1].toNat = 125 := by simpa using h1
    rw [beq_eq_false_iff_ne]; omega
  obtain ⟨T, hT⟩ : ∃ T, getA P = T := ⟨_, rfl⟩
  rw [hT] at hpt
  have hTs : T.size ≤ 1048576 := by have := hpt.2.2.2.2.2; omega
  have HT := Lib.hid hT; clear hT
  have ht2 : decide ((r.most : Int) + 2 < (T.size : Int)) = false := by
    have h := of_decide_eq_false ((hpt.2.1 (by rw [HK.out]; omega)).trans (decide_eq_false (by rw [HK.out]; try omega)))
    exact decide_eq_false (by omega)
  have ht3 : decide ((T.size : Int) < 4) = true := by
    have h := of_decide_eq_true ((hpt.2.2.1 (by rw [HK.out]; omega) (by rw [HK.out]; omega)).trans (decide_eq_true (by rw [HK.out]; try omega)))
    exact decide_eq_true (by omega)
  clear hpt hP hD hI hne hlen
  go_enter Try.func34, Try.ntmps34
  go_wp2_with fail
  refine (rget_any P _ hPs).mono ?_
  rw [HT.out]
  rintro e w1 ⟨rfl, hb1⟩
  have hD1 : Doc w1 g r := HD.out.below (((Below.refl _ w).alloc (Nat.le_refl _) _).trans (hb1.mono (by simp)))
  have hB1 : w1.heap[w.heap.size]? = some (.cells #[.int .i64 r.c0, .int .i64 r.c1, .int .i64 r.c2, .int .i64 r.c3, .int .i64 r.c4] 32 (0, 0)) := (hb1.block _ (by simp)).trans (World.alloc_heap_new w _)
  have HM1 : Hid (Moves (fun k => k = g) w w1) := ((Moves.refl _ w).alloc _).trans (Moves.of_below (S := fun _ => False) hb1) (fun _ _ x => x.elim)
  have d0 : w1.cell? ⟨g, 0, none⟩ = some (.int .i64 r.most) := (cellR hD1 0).1
  clear hb1 hc3 hc4 hc5 hc6 hc7 hc8
  have HD1 := Lib.hid hD1
  have hz : w.heap.size < w1.heap.size := (Array.getElem?_eq_some_iff.1 hB1).1
  have d4 : w1.cell? ⟨g, 4, none⟩ = some (.int .i64 r.c0) := (cellR hD1 4).1
  have e4 := (cellR hD1 4).2
  have b0 : w1.cell? ⟨w.heap.size, 0, none⟩ = some (.int .i64 r.c0) := (cellR hB1 0).1
  have f0 := (cellR hB1 0).2
  have d5 : w1.cell? ⟨g, 5, none⟩ = some (.int .i64 r.c1) := (cellR hD1 5).1
  have e5 := (cellR hD1 5).2
  have b1 : w1.cell? ⟨w.heap.size, 1, none⟩ = some (.int .i64 r.c1) := (cellR hB1 1).1
  have f1 := (cellR hB1 1).2
  have d6 : w1.cell? ⟨g, 6, none⟩ = some (.int .i64 r.c2) := (cellR hD1 6).1
  have e6 := (cellR hD1 6).2
  have b2 : w1.cell? ⟨w.heap.size, 2, none⟩ = some (.int .i64 r.c2) := (cellR hB1 2).1
  have f2 := (cellR hB1 2).2
  have d7 : w1.cell? ⟨g, 7, none⟩ = some (.int .i64 r.c3) := (cellR hD1 7).1
  have e7 := (cellR hD1 7).2
  have b3 : w1.cell? ⟨w.heap.size, 3, none⟩ = some (.int .i64 r.c3) := (cellR hB1 3).1
  have f3 := (cellR hB1 3).2
  have d8 : w1.cell? ⟨g, 8, none⟩ = some (.int .i64 r.c4) := (cellR hD1 8).1
  have e8 := (cellR hD1 8).2
  have b4 : w1.cell? ⟨w.heap.size, 4, none⟩ = some (.int .i64 r.c4) := (cellR hB1 4).1
  have f4 := (cellR hB1 4).2
  clear hD1 hB1
  go_wp2
  go_ret2
  have hD2 : Doc (w1.setCell ⟨w.heap.size, 3, none⟩ (.int .i64 ((r.c3 : Int) + 1))) g r := HD1.out.stays (S := fun k => k = w.heap.size) ((Moves.refl (fun k => k = w.heap.size) _).setCell ⟨w.heap.size, 3, none⟩ (fun _ => rfl) _) (by omega)
  have hM2 : Moves (fun k => k = g) w (w1.setCell ⟨w.heap.size, 3, none⟩ (.int .i64 ((r.c3 : Int) + 1))) := HM1.out.setCell ⟨w.heap.size, 3, none⟩ (fun h => absurd h (Nat.lt_irrefl _)) _
  have h5 := doc_five hD2 (r' := r.bump 3) (.int .i64 r.c0) (.int .i64 r.c1) (.int .i64 r.c2) (.int .i64 ((r.c3 : Int) + 1)) (.int .i64 r.c4) rfl
  refine ⟨by rw [HA.out.1, HA.out.2]; rfl, ?_, hM2.trans h5.2 (fun _ _ h => h)⟩
  rw [HK.out]
  exact h5.1
set_option maxHeartbeats 4000000 in
set_option maxRecDepth 100000 in
theorem met_sum (g : Nat) (r : St) (w : World) (hD : Doc w g r) (hI : Inv r) (hN : Small r 1000000000) (hne : r.piece ≠ []) (hlen : r.piece.length ≤ 1048576) (hK : kind r.most r.piece = 4) :
    Calls Try.prog 34 #[.pointer (some ⟨g, 0, none⟩)] w (MetP g r w) := by
  have HD := Lib.hid hD
  have hlt := hD.lt
  have hmo := hI.2.2.2.1
  obtain ⟨hs0, hs1, hs2, hs3, hs4⟩ := hN
  have hc3 : w.cell? ⟨g, 3, none⟩ = some (.string (bOf r.piece)) := (cellR hD 3).1
  have hc4 : w.cell? ⟨g, 4, none⟩ = some (.int .i64 r.c0) := (cellR hD 4).1
  have hc5 : w.cell? ⟨g, 5, none⟩ = some (.int .i64 r.c1) := (cellR hD 5).1
  have hc6 : w.cell? ⟨g, 6, none⟩ = some (.int .i64 r.c2) := (cellR hD 6).1
  have hc7 : w.cell? ⟨g, 7, none⟩ = some (.int .i64 r.c3) := (cellR hD 7).1
  have hc8 : w.cell? ⟨g, 8, none⟩ = some (.int .i64 r.c4) := (cellR hD 8).1
  obtain ⟨P, hP⟩ : ∃ P, bOf r.piece = P := ⟨_, rfl⟩
  have hPs : P.size ≤ 1048576 := by rw [← hP, size_bOf]; exact hlen
  have hP0 : 0 < P.size := by rw [← hP, size_bOf]; exact List.length_pos_iff.2 hne
  have hpt := piece_tests r.most (p := r.piece) hI.1
  rw [hP] at hpt hc3
  have HA : Hid (metA r = bOf [] ∧ metB r = false) := by show _ ∧ _; unfold metA metB; rw [hK]; exact ⟨rfl, rfl⟩
  have HK := Lib.hid hK; clear hK
  have hx : ((P[P.size - 1].toNat : Int) == 125) = false := by
    have h1 := last_at P hP0
    rw [hpt.1, decide_eq_false (by rw [HK.out]; omega)] at h1
    have h2 : ¬ P[P.size - 1].toNat = 125 := by simpa using h1
    rw [beq_eq_false_iff_ne]; omega
  obtain ⟨T, hT⟩ : ∃ T, getA P = T := ⟨_, rfl⟩
  rw [hT] at hpt
  have hTs : T.size ≤ 1048576 := by have := hpt.2.2.2.2.2; omega
  have HT := Lib.hid hT; clear hT
  have ht2 : decide ((r.most : Int) + 2 < (T.size : Int)) = false := by
    have h := of_decide_eq_false ((hpt.2.1 (by rw [HK.out]; omega)).trans (decide_eq_false (by rw [HK.out]; try omega)))
    exact decide_eq_false (by omega)
  have ht3 : decide ((T.size : Int) < 4) = false := by
    have h := of_decide_eq_false ((hpt.2.2.1 (by rw [HK.out]; omega) (by rw [HK.out]; omega)).trans (decide_eq_false (by rw [HK.out]; try omega)))
    exact decide_eq_false (by omega)
  have Ht4 : Hid (good T.toList = false) := by
    have h := (hpt.2.2.2.1 (by rw [HK.out]; omega) (by rw [HK.out]; omega) (by rw [HK.out]; omega)).trans (decide_eq_true (by rw [HK.out]; try omega))
    show _ = _
    cases hg : good T.toList
    · rfl
    · rw [hg] at h; cases h
  have hT4 : 4 ≤ T.size := by have := of_decide_eq_false ht3; omega
  clear hpt hP hD hI hne hlen
  go_enter Try.func34, Try.ntmps34
  go_wp2_with fail
  refine (rget_any P _ hPs).mono ?_
  rw [HT.out]
  rintro e w1 ⟨rfl, hb1⟩
  have hD1 : Doc w1 g r := HD.out.below (((Below.refl _ w).alloc (Nat.le_refl _) _).trans (hb1.mono (by simp)))
  have hB1 : w1.heap[w.heap.size]? = some (.cells #[.int .i64 r.c0, .int .i64 r.c1, .int .i64 r.c2, .int .i64 r.c3, .int .i64 r.c4] 32 (0, 0)) := (hb1.block _ (by simp)).trans (World.alloc_heap_new w _)
  have HM1 : Hid (Moves (fun k => k = g) w w1) := ((Moves.refl _ w).alloc _).trans (Moves.of_below (S := fun _ => False) hb1) (fun _ _ x => x.elim)
  have hz1 := (Array.getElem?_eq_some_iff.1 hB1).1
  have HD1 := Lib.hid hD1
  have HB1 := Lib.hid hB1
  have d0 : w1.cell? ⟨g, 0, none⟩ = some (.int .i64 r.most) := (cellR hD1 0).1
  clear hb1 hc3 hc4 hc5 hc6 hc7 hc8 hD1 hB1
  go_wp2_with fail
  refine (rgood_any T _ hTs).mono ?_
  rw [Ht4.out]
  rintro e w2 ⟨rfl, hb2⟩
  have hD1 : Doc w2 g r := HD1.out.below hb2
  have hB1 := (hb2.block _ hz1).trans HB1.out
  have HM2 : Hid (Moves (fun k => k = g) w w2) := HM1.out.trans (Moves.of_below (S := fun _ => False) hb2) (fun _ _ x => x.elim)
  clear hb2 d0 HD1 HB1 HM1
  have HD1 := Lib.hid hD1
  have hz : w.heap.size < w2.heap.size := (Array.getElem?_eq_some_iff.1 hB1).1
  have d4 : w2.cell? ⟨g, 4, none⟩ = some (.int .i64 r.c0) := (cellR hD1 4).1
  have e4 := (cellR hD1 4).2
  have b0 : w2.cell? ⟨w.heap.size, 0, none⟩ = some (.int .i64 r.c0) := (cellR hB1 0).1
  have f0 := (cellR hB1 0).2
  have d5 : w2.cell? ⟨g, 5, none⟩ = some (.int .i64 r.c1) := (cellR hD1 5).1
  have e5 := (cellR hD1 5).2
  have b1 : w2.cell? ⟨w.heap.size, 1, none⟩ = some (.int .i64 r.c1) := (cellR hB1 1).1
  have f1 := (cellR hB1 1).2
  have d6 : w2.cell? ⟨g, 6, none⟩ = some (.int .i64 r.c2) := (cellR hD1 6).1
  have e6 := (cellR hD1 6).2
  have b2 : w2.cell? ⟨w.heap.size, 2, none⟩ = some (.int .i64 r.c2) := (cellR hB1 2).1
  have f2 := (cellR hB1 2).2
  have d7 : w2.cell? ⟨g, 7, none⟩ = some (.int .i64 r.c3) := (cellR hD1 7).1
  have e7 := (cellR hD1 7).2
  have b3 : w2.cell? ⟨w.heap.size, 3, none⟩ = some (.int .i64 r.c3) := (cellR hB1 3).1
  have f3 := (cellR hB1 3).2
  have d8 : w2.cell? ⟨g, 8, none⟩ = some (.int .i64 r.c4) := (cellR hD1 8).1
  have e8 := (cellR hD1 8).2
  have b4 : w2.cell? ⟨w.heap.size, 4, none⟩ = some (.int .i64 r.c4) := (cellR hB1 4).1
  have f4 := (cellR hB1 4).2
  clear hD1 hB1
  go_wp2
  go_ret2
  have hD2 : Doc (w2.setCell ⟨w.heap.size, 4, none⟩ (.int .i64 ((r.c4 : Int) + 1))) g r := HD1.out.stays (S := fun k => k = w.heap.size) ((Moves.refl (fun k => k = w.heap.size) _).setCell ⟨w.heap.size, 4, none⟩ (fun _ => rfl) _) (by omega)
  have hM2 : Moves (fun k => k = g) w (w2.setCell ⟨w.heap.size, 4, none⟩ (.int .i64 ((r.c4 : Int) + 1))) := HM2.out.setCell ⟨w.heap.size, 4, none⟩ (fun h => absurd h (Nat.lt_irrefl _)) _
  have h5 := doc_five hD2 (r' := r.bump 4) (.int .i64 r.c0) (.int .i64 r.c1) (.int .i64 r.c2) (.int .i64 r.c3) (.int .i64 ((r.c4 : Int) + 1)) rfl
  refine ⟨by rw [HA.out.1, HA.out.2]; rfl, ?_, hM2.trans h5.2 (fun _ _ h => h)⟩
  rw [HK.out]
  exact h5.1
set_option maxHeartbeats 4000000 in
set_option maxRecDepth 100000 in
theorem met_good (g : Nat) (r : St) (w : World) (hD : Doc w g r) (hI : Inv r) (hN : Small r 1000000000) (hne : r.piece ≠ []) (hlen : r.piece.length ≤ 1048576) (hK : kind r.most r.piece = 0) :
    Calls Try.prog 34 #[.pointer (some ⟨g, 0, none⟩)] w (MetP g r w) := by
  have HD := Lib.hid hD
  have hlt := hD.lt
  have hmo := hI.2.2.2.1
  obtain ⟨hs0, hs1, hs2, hs3, hs4⟩ := hN
  have hc3 : w.cell? ⟨g, 3, none⟩ = some (.string (bOf r.piece)) := (cellR hD 3).1
  have hc4 : w.cell? ⟨g, 4, none⟩ = some (.int .i64 r.c0) := (cellR hD 4).1
  have hc5 : w.cell? ⟨g, 5, none⟩ = some (.int .i64 r.c1) := (cellR hD 5).1
  have hc6 : w.cell? ⟨g, 6, none⟩ = some (.int .i64 r.c2) := (cellR hD 6).1
  have hc7 : w.cell? ⟨g, 7, none⟩ = some (.int .i64 r.c3) := (cellR hD 7).1
  have hc8 : w.cell? ⟨g, 8, none⟩ = some (.int .i64 r.c4) := (cellR hD 8).1
  obtain ⟨P, hP⟩ : ∃ P, bOf r.piece = P := ⟨_, rfl⟩
  have hPs : P.size ≤ 1048576 := by rw [← hP, size_bOf]; exact hlen
  have hP0 : 0 < P.size := by rw [← hP, size_bOf]; exact List.length_pos_iff.2 hne
  have hpt := piece_tests r.most (p := r.piece) hI.1
  rw [hP] at hpt hc3
  have HA : Hid (metA r = bOf (infoOf r.piece) ∧ metB r = true) := by show _ ∧ _; unfold metA metB; rw [hK]; exact ⟨rfl, rfl⟩
  have HK := Lib.hid hK; clear hK
  have hx : ((P[P.size - 1].toNat : Int) == 125) = false := by
    have h1 := last_at P hP0
    rw [hpt.1, decide_eq_false (by rw [HK.out]; omega)] at h1
    have h2 : ¬ P[P.size - 1].toNat = 125 := by simpa using h1
    rw [beq_eq_false_iff_ne]; omega
  obtain ⟨T, hT⟩ : ∃ T, getA P = T := ⟨_, rfl⟩
  rw [hT] at hpt
  have hTs : T.size ≤ 1048576 := by have := hpt.2.2.2.2.2; omega
  have HT := Lib.hid hT; clear hT
  have ht2 : decide ((r.most : Int) + 2 < (T.size : Int)) = false := by
    have h := of_decide_eq_false ((hpt.2.1 (by rw [HK.out]; omega)).trans (decide_eq_false (by rw [HK.out]; try omega)))
    exact decide_eq_false (by omega)
  have ht3 : decide ((T.size : Int) < 4) = false := by
    have h := of_decide_eq_false ((hpt.2.2.1 (by rw [HK.out]; omega) (by rw [HK.out]; omega)).trans (decide_eq_false (by rw [HK.out]; try omega)))
    exact decide_eq_false (by omega)
  have Ht4 : Hid (good T.toList = true) := by
    have h := (hpt.2.2.2.1 (by rw [HK.out]; omega) (by rw [HK.out]; omega) (by rw [HK.out]; omega)).trans (decide_eq_false (by rw [HK.out]; try omega))
    show _ = _
    cases hg : good T.toList
    · rw [hg] at h; cases h
    · rfl
  have HO : Hid (T.extract 0 (T.size - 2) = bOf (infoOf r.piece)) := by
    have h := hpt.2.2.2.2.1 HK.out
    unfold openA at h
    have h4 := of_decide_eq_false ht3
    rw [if_neg (by omega), if_pos Ht4.out] at h
    show _ = _
    rw [extract_front, h]
  have hT4 : 4 ≤ T.size := by have := of_decide_eq_false ht3; omega
  clear hpt hP hD hI hne hlen
  go_enter Try.func34, Try.ntmps34
  go_wp2_with fail
  refine (rget_any P _ hPs).mono ?_
  rw [HT.out]
  rintro e w1 ⟨rfl, hb1⟩
  have hD1 : Doc w1 g r := HD.out.below (((Below.refl _ w).alloc (Nat.le_refl _) _).trans (hb1.mono (by simp)))
  have hB1 : w1.heap[w.heap.size]? = some (.cells #[.int .i64 r.c0, .int .i64 r.c1, .int .i64 r.c2, .int .i64 r.c3, .int .i64 r.c4] 32 (0, 0)) := (hb1.block _ (by simp)).trans (World.alloc_heap_new w _)
  have HM1 : Hid (Moves (fun k => k = g) w w1) := ((Moves.refl _ w).alloc _).trans (Moves.of_below (S := fun _ => False) hb1) (fun _ _ x => x.elim)
  have hz1 := (Array.getElem?_eq_some_iff.1 hB1).1
  have HD1 := Lib.hid hD1
  have HB1 := Lib.hid hB1
  have d0 : w1.cell? ⟨g, 0, none⟩ = some (.int .i64 r.most) := (cellR hD1 0).1
  clear hb1 hc3 hc4 hc5 hc6 hc7 hc8 hD1 hB1
  go_wp2_with fail
  refine (rgood_any T _ hTs).mono ?_
  rw [Ht4.out]
  rintro e w2 ⟨rfl, hb2⟩
  have hD1 : Doc w2 g r := HD1.out.below hb2
  have hB1 := (hb2.block _ hz1).trans HB1.out
  have HM2 : Hid (Moves (fun k => k = g) w w2) := HM1.out.trans (Moves.of_below (S := fun _ => False) hb2) (fun _ _ x => x.elim)
  clear hb2 d0 HD1 HB1 HM1
  have HD1 := Lib.hid hD1
  have hz : w.heap.size < w2.heap.size := (Array.getElem?_eq_some_iff.1 hB1).1
  have d4 : w2.cell? ⟨g, 4, none⟩ = some (.int .i64 r.c0) := (cellR hD1 4).1
  have e4 := (cellR hD1 4).2
  have b0 : w2.cell? ⟨w.heap.size, 0, none⟩ = some (.int .i64 r.c0) := (cellR hB1 0).1
  have f0 := (cellR hB1 0).2
  have d5 : w2.cell? ⟨g, 5, none⟩ = some (.int .i64 r.c1) := (cellR hD1 5).1
  have e5 := (cellR hD1 5).2
  have b1 : w2.cell? ⟨w.heap.size, 1, none⟩ = some (.int .i64 r.c1) := (cellR hB1 1).1
  have f1 := (cellR hB1 1).2
  have d6 : w2.cell? ⟨g, 6, none⟩ = some (.int .i64 r.c2) := (cellR hD1 6).1
  have e6 := (cellR hD1 6).2
  have b2 : w2.cell? ⟨w.heap.size, 2, none⟩ = some (.int .i64 r.c2) := (cellR hB1 2).1
  have f2 := (cellR hB1 2).2
  have d7 : w2.cell? ⟨g, 7, none⟩ = some (.int .i64 r.c3) := (cellR hD1 7).1
  have e7 := (cellR hD1 7).2
  have b3 : w2.cell? ⟨w.heap.size, 3, none⟩ = some (.int .i64 r.c3) := (cellR hB1 3).1
  have f3 := (cellR hB1 3).2
  have d8 : w2.cell? ⟨g, 8, none⟩ = some (.int .i64 r.c4) := (cellR hD1 8).1
  have e8 := (cellR hD1 8).2
  have b4 : w2.cell? ⟨w.heap.size, 4, none⟩ = some (.int .i64 r.c4) := (cellR hB1 4).1
  have f4 := (cellR hB1 4).2
  clear hD1 hB1
  go_wp2
  go_ret2
  have hD2 : Doc (w2.setCell ⟨w.heap.size, 0, none⟩ (.int .i64 ((r.c0 : Int) + 1))) g r := HD1.out.stays (S := fun k => k = w.heap.size) ((Moves.refl (fun k => k = w.heap.size) _).setCell ⟨w.heap.size, 0, none⟩ (fun _ => rfl) _) (by omega)
  have hM2 : Moves (fun k => k = g) w (w2.setCell ⟨w.heap.size, 0, none⟩ (.int .i64 ((r.c0 : Int) + 1))) := HM2.out.setCell ⟨w.heap.size, 0, none⟩ (fun h => absurd h (Nat.lt_irrefl _)) _
  have h5 := doc_five hD2 (r' := r.bump 0) (.int .i64 ((r.c0 : Int) + 1)) (.int .i64 r.c1) (.int .i64 r.c2) (.int .i64 r.c3) (.int .i64 r.c4) rfl
  refine ⟨by rw [HA.out.1, HA.out.2, ← HO.out]; rfl, ?_, hM2.trans h5.2 (fun _ _ h => h)⟩
  rw [HK.out]
  exact h5.1
theorem met_any (g : Nat) (r : St) (w : World) (hD : Doc w g r) (hI : Inv r) (hN : Small r 1000000000) (hne : r.piece ≠ []) (hlen : r.piece.length ≤ 1048576) :
    Calls Try.prog 34 #[.pointer (some ⟨g, 0, none⟩)] w (MetP g r w) := by
  have h : kind r.most r.piece = 0 ∨ kind r.most r.piece = 1 ∨ kind r.most r.piece = 2 ∨ kind r.most r.piece = 3 ∨ kind r.most r.piece = 4 := by have := kind_le r.most r.piece; omega
  rcases h with h | h | h | h | h
  · exact met_good g r w hD hI hN hne hlen h
  · exact met_abort g r w hD hI hN hne hlen h
  · exact met_long g r w hD hI hN hne hlen h
  · exact met_short g r w hD hI hN hne hlen h
  · exact met_sum g r w hD hI hN hne hlen h
end Go.Proofs.Ytfcmpnfdgfdclaa.Hdl
