/- Contract of layer 5's alive: the published digests. -/
import Derived.Test.YtdpmndfoplndnaaDoorMd5M
import Derived.Deep.RegionHeld3
namespace Go.Proofs.YtdpmndfoplndnaaDoor.Md5
open Go.RowKit Go.Proofs.YtdpmndfoplndnaaDoor.Oct Go.Proofs.YtdpmndfoplndnaaDoor.Row Go.Proofs.YtdpmndfoplndnaaDoor.Mem

theorem one_strs {w : World} {b : Nat} {t : ByteArray} (hc : w.cell? ⟨b, 0, none⟩ = some (.string t)) (ht : t.size ≤ maxLen) : Strs w w.heap.size (some ⟨b, 0, none⟩) 1 [t] := by
  refine ⟨rfl, fun s hs => ?_, fun _ => ⟨_, rfl, World.block_lt_of_cell? w _ hc, fun j hj => ?_⟩⟩
  · rw [List.mem_singleton] at hs; subst hs; exact ht
  · obtain rfl : j = 0 := by simpa using hj
    rw [add_zero_at]
    exact hc
/-- The digest of one text. -/
theorem sum_one (b : Nat) (t : ByteArray) (w : World) (hc : w.cell? ⟨b, 0, none⟩ = some (.string t)) (ht : t.size ≤ 1000000) (hG : Globs w) :
    Calls Tryd.prog 7 #[.slice (some ⟨b, 0, none⟩) 1 1] w fun e w' => e = .returned (.string (bOf (md5 t.toList))) ∧ Below w.heap.size w w' := by
  have h := sum_any (some ⟨b, 0, none⟩) 1 1 [t] w (by unfold maxLen; omega) (one_strs hc (by unfold maxLen; omega)) hG (by rw [cat_one, ← size_toList]; exact ht)
  rw [cat_one] at h
  exact h
theorem asks_at (k : Nat) (h : k < 7) : (asks.map fun l => Value.string (bOf l)).toArray[k]? = some (.string (bOf (asks.getD k []))) := by
  rw [List.getElem?_toArray, List.getElem?_map, List.getD_eq_getElem?_getD, List.getElem?_eq_getElem (show k < asks.length from h)]
  rfl
theorem answers_at (k : Nat) (h : k < 7) : (answers.map fun l => Value.string (bOf l)).toArray[k]? = some (.string (bOf (answers.getD k []))) := by
  rw [List.getElem?_toArray, List.getElem?_map, List.getD_eq_getElem?_getD, List.getElem?_eq_getElem (show k < answers.length from h)]
  rfl
theorem known_at (k : Nat) (h : k < 7) : hex (md5 (asks.getD k [])) = answers.getD k [] := by
  rw [← known, List.getD_eq_getElem?_getD, List.getD_eq_getElem?_getD, List.getElem?_map, List.getElem?_eq_getElem (show k < asks.length from h)]
  rfl
theorem asks_small (k : Nat) : (asks.getD k []).length ≤ 80 := by
  by_cases h : k < 7
  · exact (show ∀ k, k < 7 → (asks.getD k []).length ≤ 80 by decide +kernel) k h
  · rw [List.getD_eq_getElem?_getD, List.getElem?_eq_none (by show 7 ≤ k; omega)]; simp
set_option maxHeartbeats 2000000 in
set_option maxRecDepth 100000 in
theorem alive_any (w : World) (hG : Globs w) : Calls Tryd.prog 6 #[] w fun e w' => e = .returned (.bool true) ∧ Below w.heap.size w w' := by
  have HG := Lib.hid hG; clear hG
  go_enter Tryd.func6, Tryd.ntmps6
  go_wp2
  obtain ⟨W, hW⟩ : ∃ W, (w.alloc (.cells #[.string ⟨#[]⟩, .string ⟨#[97]⟩, .string ⟨#[97, 98, 99]⟩, .string ⟨#[109, 101, 115, 115, 97, 103, 101, 32, 100, 105, 103, 101, 115, 116]⟩, .string ⟨#[97, 98, 99, 100, 101, 102, 103, 104, 105, 106, 107, 108, 109, 110, 111, 112, 113, 114, 115, 116, 117, 118, 119, 120, 121, 122]⟩, .string ⟨#[65, 66, 67, 68, 69, 70, 71, 72, 73, 74, 75, 76, 77, 78, 79, 80, 81, 82, 83, 84, 85, 86, 87, 88, 89, 90, 97, 98, 99, 100, 101, 102, 103, 104, 105, 106, 107, 108, 109, 110, 111, 112, 113, 114, 115, 116, 117, 118, 119, 120, 121, 122, 48, 49, 50, 51, 52, 53, 54, 55, 56, 57]⟩, .string ⟨#[49, 50, 51, 52, 53, 54, 55, 56, 57, 48, 49, 50, 51, 52, 53, 54, 55, 56, 57, 48, 49, 50, 51, 52, 53, 54, 55, 56, 57, 48, 49, 50, 51, 52, 53, 54, 55, 56, 57, 48, 49, 50, 51, 52, 53, 54, 55, 56, 57, 48, 49, 50, 51, 52, 53, 54, 55, 56, 57, 48, 49, 50, 51, 52, 53, 54, 55, 56, 57, 48, 49, 50, 51, 52, 53, 54, 55, 56, 57, 48]⟩] 9)).alloc (.cells #[.string ⟨#[100, 52, 49, 100, 56, 99, 100, 57, 56, 102, 48, 48, 98, 50, 48, 52, 101, 57, 56, 48, 48, 57, 57, 56, 101, 99, 102, 56, 52, 50, 55, 101]⟩, .string ⟨#[48, 99, 99, 49, 55, 53, 98, 57, 99, 48, 102, 49, 98, 54, 97, 56, 51, 49, 99, 51, 57, 57, 101, 50, 54, 57, 55, 55, 50, 54, 54, 49]⟩, .string ⟨#[57, 48, 48, 49, 53, 48, 57, 56, 51, 99, 100, 50, 52, 102, 98, 48, 100, 54, 57, 54, 51, 102, 55, 100, 50, 56, 101, 49, 55, 102, 55, 50]⟩, .string ⟨#[102, 57, 54, 98, 54, 57, 55, 100, 55, 99, 98, 55, 57, 51, 56, 100, 53, 50, 53, 97, 50, 102, 51, 49, 97, 97, 102, 49, 54, 49, 100, 48]⟩, .string ⟨#[99, 51, 102, 99, 100, 51, 100, 55, 54, 49, 57, 50, 101, 52, 48, 48, 55, 100, 102, 98, 52, 57, 54, 99, 99, 97, 54, 55, 101, 49, 51, 98]⟩, .string ⟨#[100, 49, 55, 52, 97, 98, 57, 56, 100, 50, 55, 55, 100, 57, 102, 53, 97, 53, 54, 49, 49, 99, 50, 99, 57, 102, 52, 49, 57, 100, 57, 102]⟩, .string ⟨#[53, 55, 101, 100, 102, 52, 97, 50, 50, 98, 101, 51, 99, 57, 53, 53, 97, 99, 52, 57, 100, 97, 50, 101, 50, 49, 48, 55, 98, 54, 55, 97]⟩] 9) = W := ⟨_, rfl⟩
  rw [hW]
  rw [show (#[.string ⟨#[]⟩, .string ⟨#[97]⟩, .string ⟨#[97, 98, 99]⟩, .string ⟨#[109, 101, 115, 115, 97, 103, 101, 32, 100, 105, 103, 101, 115, 116]⟩, .string ⟨#[97, 98, 99, 100, 101, 102, 103, 104, 105, 106, 107, 108, 109, 110, 111, 112, 113, 114, 115, 116, 117, 118, 119, 120, 121, 122]⟩, .string ⟨#[65, 66, 67, 68, 69, 70, 71, 72, 73, 74, 75, 76, 77, 78, 79, 80, 81, 82, 83, 84, 85, 86, 87, 88, 89, 90, 97, 98, 99, 100, 101, 102, 103, 104, 105, 106, 107, 108, 109, 110, 111, 112, 113, 114, 115, 116, 117, 118, 119, 120, 121, 122, 48, 49, 50, 51, 52, 53, 54, 55, 56, 57]⟩, .string ⟨#[49, 50, 51, 52, 53, 54, 55, 56, 57, 48, 49, 50, 51, 52, 53, 54, 55, 56, 57, 48, 49, 50, 51, 52, 53, 54, 55, 56, 57, 48, 49, 50, 51, 52, 53, 54, 55, 56, 57, 48, 49, 50, 51, 52, 53, 54, 55, 56, 57, 48, 49, 50, 51, 52, 53, 54, 55, 56, 57, 48, 49, 50, 51, 52, 53, 54, 55, 56, 57, 48, 49, 50, 51, 52, 53, 54, 55, 56, 57, 48]⟩] : Array Value) = (asks.map fun l => Value.string (bOf l)).toArray from rfl, show (#[.string ⟨#[100, 52, 49, 100, 56, 99, 100, 57, 56, 102, 48, 48, 98, 50, 48, 52, 101, 57, 56, 48, 48, 57, 57, 56, 101, 99, 102, 56, 52, 50, 55, 101]⟩, .string ⟨#[48, 99, 99, 49, 55, 53, 98, 57, 99, 48, 102, 49, 98, 54, 97, 56, 51, 49, 99, 51, 57, 57, 101, 50, 54, 57, 55, 55, 50, 54, 54, 49]⟩, .string ⟨#[57, 48, 48, 49, 53, 48, 57, 56, 51, 99, 100, 50, 52, 102, 98, 48, 100, 54, 57, 54, 51, 102, 55, 100, 50, 56, 101, 49, 55, 102, 55, 50]⟩, .string ⟨#[102, 57, 54, 98, 54, 57, 55, 100, 55, 99, 98, 55, 57, 51, 56, 100, 53, 50, 53, 97, 50, 102, 51, 49, 97, 97, 102, 49, 54, 49, 100, 48]⟩, .string ⟨#[99, 51, 102, 99, 100, 51, 100, 55, 54, 49, 57, 50, 101, 52, 48, 48, 55, 100, 102, 98, 52, 57, 54, 99, 99, 97, 54, 55, 101, 49, 51, 98]⟩, .string ⟨#[100, 49, 55, 52, 97, 98, 57, 56, 100, 50, 55, 55, 100, 57, 102, 53, 97, 53, 54, 49, 49, 99, 50, 99, 57, 102, 52, 49, 57, 100, 57, 102]⟩, .string ⟨#[53, 55, 101, 100, 102, 52, 97, 50, 50, 98, 101, 51, 99, 57, 53, 53, 97, 99, 52, 57, 100, 97, 50, 101, 50, 49, 48, 55, 98, 54, 55, 97]⟩] : Array Value) = (answers.map fun l => Value.string (bOf l)).toArray from rfl] at hW
  have HA : Hid (∀ k, k < 7 → W.cell? ⟨w.heap.size, k, none⟩ = some (.string (bOf (asks.getD k [])))) := fun k hk => by
    rw [← hW, cell_of_row _ _ _ _ _ _ (heap_alloc2_old w _ _)]
    exact asks_at k hk
  have HM : Hid (∀ k, k < 7 → W.cell? ⟨w.heap.size + 1, k, none⟩ = some (.string (bOf (answers.getD k [])))) := fun k hk => by
    rw [← hW, cell_of_row _ _ _ _ _ _ (heap_alloc2_new w _ _)]
    exact answers_at k hk
  have HB : Hid (Below w.heap.size w W) := by show Below _ _ _; rw [← hW]; exact ((Below.refl _ w).alloc (Nat.le_refl _) _).alloc (by simp) _
  have HS : Hid (W.heap.size = w.heap.size + 2) := by show _ = _; rw [← hW]; simp
  have HGW : Hid (Globs W) := HG.out.below HB.out
  clear hW
  go_loopw [3] (fun i wr => ∃ k : Nat, k ≤ 7 ∧ i = .int .i64 k ∧ Hid (Below W.heap.size W wr)) (fun i _ => 7 - (intOf i).toNat)
  case atStart => exact ⟨0, Nat.zero_le _, rfl, Below.refl _ _⟩
  case round =>
    obtain ⟨k, hk, rfl, Hb⟩ := hrel
    by_cases hlt : k < 7
    · have ha := (Hb.out.cell (p := ⟨w.heap.size, k, none⟩) (show w.heap.size < _ by rw [HS.out]; omega)).trans (HA.out k hlt)
      have hm := (Hb.out.cell (p := ⟨w.heap.size + 1, k, none⟩) (show w.heap.size + 1 < _ by rw [HS.out]; omega)).trans (HM.out k hlt)
      have hkn := known_at k hlt
      have hal := asks_small k
      have HGr : Hid (Globs wr) := HGW.out.below Hb.out
      generalize asks.getD k [] = a at *
      rw [← hkn] at hm
      clear hkn
      have hmz : (bOf (md5 a)).size ≤ 1048576 := by rw [size_bOf, md5_length]; omega
      have C1 : Hid (∀ W', W'.cell? ⟨wr.heap.size, 0, none⟩ = some (.string (bOf a)) → Globs W' → Calls Tryd.prog 7 #[.slice (some ⟨wr.heap.size, 0, none⟩) 1 1] W' fun e w' => e = .returned (.string (bOf (md5 a))) ∧ Below W'.heap.size W' w') := fun W' h1 h2 => by
        have h := sum_one wr.heap.size (bOf a) W' h1 (by rw [size_bOf]; omega) h2
        rw [toList_bOf] at h
        exact h
      have C2 : Hid (∀ W', Calls Tryd.prog 9 #[.string (bOf (md5 a))] W' fun e w' => e = .returned (.string (bOf (hex (md5 a)))) ∧ Below W'.heap.size W' w') := fun W' => by
        have h := hex_any (bOf (md5 a)) W' hmz
        rw [toList_bOf] at h
        exact h
      have k0 : (0 : Int) ≤ k := by omega
      have k1 : (k : Int) < 7 := by omega
      generalize bOf (hex (md5 a)) = H at *
      generalize bOf (md5 a) = D at *
      generalize bOf a = T at *
      go_wp2
      have a1 : ((wr.alloc (.cells #[.string T] 9)).drew).cell? ⟨wr.heap.size, 0, none⟩ = some (.string T) := (World.cell?_alloc_new wr _ _ 0)
      have hbA : Below wr.heap.size wr (wr.alloc (.cells #[.string T] 9)).drew := ((Below.refl _ wr).alloc (Nat.le_refl _) _).drew
      have a2 : Globs (wr.alloc (.cells #[.string T] 9)).drew := HGr.out.below hbA
      have s1 := (hbA.cell (p := ⟨w.heap.size, k, none⟩) (World.block_lt_of_cell? _ _ ha)).trans ha
      have s2 := (hbA.cell (p := ⟨w.heap.size + 1, k, none⟩) (World.block_lt_of_cell? _ _ hm)).trans hm
      have A1 := Lib.hid a1
      have A2 := Lib.hid a2
      clear a1 a2
      go_region_held3 (fun w' => w'.cell? ⟨w.heap.size, k, none⟩ = some (.string T) ∧ w'.cell? ⟨w.heap.size + 1, k, none⟩ = some (.string H))
        (first | assumption | (go_split_ands; refine ⟨?_, ?_⟩ <;> assumption))
        (first
          | (go_at_call 7; (refine (C1.out _ A1.out A2.out).mono ?_; clear C1; rintro e w1 ⟨rfl, hb1⟩; have hB1 := hbA.trans (hb1.mono hbA.size); have t1 := (hB1.cell (p := ⟨w.heap.size, k, none⟩) (World.block_lt_of_cell? _ _ ha)).trans ha; have t2 := (hB1.cell (p := ⟨w.heap.size + 1, k, none⟩) (World.block_lt_of_cell? _ _ hm)).trans hm))
          | (go_at_call 9; (refine (C2.out _).mono ?_; clear C2; rintro e w2 ⟨rfl, hb2⟩; have hB2 := hB1.trans (hb2.mono hB1.size); have u1 := (hB2.cell (p := ⟨w.heap.size, k, none⟩) (World.block_lt_of_cell? _ _ ha)).trans ha; have u2 := (hB2.cell (p := ⟨w.heap.size + 1, k, none⟩) (World.block_lt_of_cell? _ _ hm)).trans hm))
          | fail)
      have Hb3 : Hid (Below W.heap.size W w2) := Hb.out.trans (hB2.mono Hb.out.size)
      clear u1 u2 t1 t2 s1 s2 hb1 hb2 hB1 hB2 hbA
      go_wp2
      go_roundw
      case rel => exact ⟨k + 1, by omega, by go_num, Hb3.out⟩
      case measure => simp [intOf]; omega
    · obtain rfl : k = 7 := by omega
      have HE : Hid (bOf (hex (⟨#[0, 255]⟩ : ByteArray).toList) = bOf [48, 48, 102, 102]) := by
        show _ = _
        rw [show (⟨#[0, 255]⟩ : ByteArray) = bOf [0, 255] from rfl, toList_bOf]
        congr 1
      have h2 : ((bOf [48, 48, 102, 102]).toList == ([48, 48, 102, 102] : List UInt8)) = true := by rw [toList_bOf]; rfl
      have Hb3 : Hid (Below w.heap.size w wr) := HB.out.trans (Hb.out.mono HB.out.size)
      obtain ⟨Z, hZ⟩ : ∃ Z, bOf [48, 48, 102, 102] = Z := ⟨_, rfl⟩
      rw [hZ] at HE h2
      clear hZ
      go_wp2_with fail
      refine (hex_any ⟨#[0, 255]⟩ _ (by show 2 ≤ _; omega)).mono ?_
      rw [HE.out]
      rintro e w1 ⟨rfl, hb1⟩
      go_wp2
      go_ret
      exact ⟨rfl, Hb3.out.trans (hb1.mono Hb3.out.size)⟩
end Go.Proofs.YtdpmndfoplndnaaDoor.Md5
