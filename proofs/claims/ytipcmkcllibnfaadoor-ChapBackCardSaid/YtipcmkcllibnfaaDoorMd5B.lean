/- Contracts of the document's constants and block. -/
import Derived.Test.YtipcmkcllibnfaaDoorMd5A
import Derived.Deep.RegionHeld3
namespace Go.Proofs.YtipcmkcllibnfaaDoor.Md5
open Go.RowKit Go.Proofs.YtipcmkcllibnfaaDoor.Oct Go.Proofs.YtipcmkcllibnfaaDoor.Row Go.Proofs.YtipcmkcllibnfaaDoor.Mem

def constCells : Array Value := (consts.map fun n => Value.int .u32 (n : Nat)).toArray
theorem constCells_at (i : Nat) (h : i < 64) : constCells[i]? = some (.int .u32 (kk i)) := by
  unfold constCells kk
  rw [List.getElem?_toArray, List.getElem?_map, List.getD_eq_getElem?_getD, List.getElem?_eq_getElem (show i < consts.length from h)]
  rfl
set_option maxHeartbeats 1000000 in
set_option maxRecDepth 100000 in
theorem rconsts_any (w : World) :
    Calls Tryd.prog 51 #[] w fun e w' => e = .returned (.slice (some ⟨w.heap.size, 0, none⟩) 64 64) ∧ w' = w.alloc (.cells constCells 61 (0, 0)) := by
  go_enter Tryd.func51, Tryd.ntmps51
  go_wp2
  go_ret
  exact ⟨rfl, rfl⟩

theorem getD_get (s : ByteArray) (i : Nat) (h : i < s.size) : (s.toList.getD i 0) = s[i] := by
  rw [getElem_toList, List.getD_eq_getElem?_getD, List.getElem?_eq_getElem (by rw [← size_toList]; exact h)]; rfl

theorem results_tmp4 {fn : Func} {t u v x : Tmp} (h : fn.results = #[.tmp t, .tmp u, .tmp v, .tmp x]) (tmps : Array Value) (P : Program) (w : World) :
    (results fn tmps).run P w = .ok (.tuple #[tmps.getD t undef, tmps.getD u undef, tmps.getD v undef, tmps.getD x undef]) w := by
  simp [results, h]
/-- What a block begins and ends with. -/
def BlockP (s : W4) (l : List UInt8) (w : World) (e : Ending) (w' : World) : Prop :=
  e = .returned (.tuple #[.int .u32 (blk s l).a, .int .u32 (blk s l).b, .int .u32 (blk s l).c, .int .u32 (blk s l).d]) ∧ Below w.heap.size w w'
set_option maxHeartbeats 2000000 in
set_option maxRecDepth 100000 in
theorem rblock_any (u : W4) (s : ByteArray) (w : World) (hu : Ok4 u) (hs : s.size = 64) :
    Calls Tryd.prog 45 #[.int .u32 u.a, .int .u32 u.b, .int .u32 u.c, .int .u32 u.d, .string s] w (BlockP u s.toList w) := by
  have Hu := Lib.hid hu; clear hu
  go_enter Tryd.func45, Tryd.ntmps45
  go_wp2_with fail
  refine (rconsts_any _).mono ?_
  rintro e w1 ⟨rfl, rfl⟩
  obtain ⟨W, hW⟩ : ∃ W, w.alloc (.cells constCells 61 (0, 0)) = W := ⟨_, rfl⟩
  have HB : Hid (Below w.heap.size w W) := by show Below _ _ _; rw [← hW]; exact (Below.refl _ _).alloc (Nat.le_refl _) _
  have HC : Hid (∀ i, i < 64 → W.cell? ⟨w.heap.size, i, none⟩ = some (.int .u32 (kk i))) := by
    intro i hi
    rw [← hW, cell_of_row _ _ _ _ _ _ (World.alloc_heap_new w _)]
    exact constCells_at i hi
  have HS : Hid (W.heap.size = w.heap.size + 1) := by show _ = _; rw [← hW]; simp
  rw [hW]
  clear hW
  go_wp2
  go_loopw [15, 16, 17, 18, 19] (fun p q r t i wr => ∃ k : Nat, k ≤ 64 ∧ i = .int .i64 k ∧ p = .int .u32 (run (wordAt s.toList) u k).a ∧ q = .int .u32 (run (wordAt s.toList) u k).b ∧ r = .int .u32 (run (wordAt s.toList) u k).c ∧ t = .int .u32 (run (wordAt s.toList) u k).d ∧ Below W.heap.size W wr) (fun _ _ _ _ i _ => 64 - (intOf i).toNat)
  case atStart => exact ⟨0, Nat.zero_le _, rfl, rfl, rfl, rfl, rfl, Below.refl _ _⟩
  case round =>
    obtain ⟨k, hk, rfl, rfl, rfl, rfl, rfl, hb⟩ := hrel
    by_cases hlt : k < 64
    · have hR : run (wordAt s.toList) u (k + 1) = stp (wordAt s.toList) (run (wordAt s.toList) u k) k := rfl
      have HO := Lib.hid (run_ok (x := wordAt s.toList) Hu.out k)
      generalize run (wordAt s.toList) u k = v at *
      obtain ⟨p, q, r, t⟩ := v
      unfold stp at hR
      simp only at hR
      have HP := Lib.hid (place_lt k hlt)
      have Hb := Lib.hid hb; clear hb
      have hck := (Hb.out.cell (p := ⟨w.heap.size, k, none⟩) (by rw [HS.out]; simp)).trans (HC.out k hlt)
      obtain ⟨x, hx⟩ : ∃ x, wordAt s.toList (place k) = x := ⟨_, rfl⟩
      rw [hx] at hR
      have HR := Lib.hid hR; clear hR
      unfold wordAt at hx
      have Hpl := Lib.hid (place_any k)
      generalize place k = z at *
      have hz : z ≤ 15 := by have := HP.out; omega
      have Hx := Lib.hid hx; clear hx
      go_wp2_with fail
      refine (Hpl.out _ hlt).mono ?_
      rintro e w2 ⟨rfl, rfl⟩
      have hz2 : (z : Int) ≤ 15 := by omega
      go_wp2_with fail
      rw [show (4 * (z : Int)) = ((4 * z : Nat) : Int) by omega]
      have hm : 4 * z ≤ 60 := by omega
      clear hz HP
      generalize 4 * z = m at *
      have e0 : (0 : Int) ≤ m := by omega
      have e1 : (0 : Int) ≤ (m : Int) + 1 := by omega
      have e2 : (0 : Int) ≤ (m : Int) + 2 := by omega
      have e3 : (0 : Int) ≤ (m : Int) + 3 := by omega
      have d1 : ((m : Int) + 1).toNat = m + 1 := by omega
      have d2 : ((m : Int) + 2).toNat = m + 2 := by omega
      have d3 : ((m : Int) + 3).toNat = m + 3 := by omega
      have m0 : m < s.size := by omega
      have m1 : m + 1 < s.size := by omega
      have m2 : m + 2 < s.size := by omega
      have m3 : m + 3 < s.size := by omega
      have f1 : (m : Int) ≤ 60 := by omega
      have p1 : (m : Int) + 1 < (s.size : Int) := by omega
      have p2 : (m : Int) + 2 < (s.size : Int) := by omega
      have p3 : (m : Int) + 3 < (s.size : Int) := by omega
      have g1 : IntKind.i64.wrap ((m : Int) + 1) = (m : Int) + 1 := IntWalk.i64_in _ (by omega)
      have g2 : IntKind.i64.wrap ((m : Int) + 2) = (m : Int) + 2 := IntWalk.i64_in _ (by omega)
      have g3 : IntKind.i64.wrap ((m : Int) + 3) = (m : Int) + 3 := IntWalk.i64_in _ (by omega)
      have Hx2 : Hid (s[m].toNat + s[m + 1].toNat * 256 + s[m + 2].toNat * 65536 + s[m + 3].toNat * 16777216 = x) := by
        have hx := Hx.out
        rw [getD_get s _ m0, getD_get s _ m1, getD_get s _ m2, getD_get s _ m3] at hx
        exact hx
      clear Hx
      have Hs := Lib.hid hs; clear hs
      go_wp2
      go_quiet (fail)
      go_wp2
      have h := Hx2.out
      have y0b := s[m].toNat_lt
      have y1b := s[m + 1].toNat_lt
      have y2b := s[m + 2].toNat_lt
      have y3b := s[m + 3].toNat_lt
      clear Hx2
      generalize s[m].toNat = y0 at *
      generalize s[m + 1].toNat = y1 at *
      generalize s[m + 2].toNat = y2 at *
      generalize s[m + 3].toNat = y3 at *
      have hX : (((y0 : Int) + (y1 : Int) % 4294967296 * 256 + (y2 : Int) % 4294967296 * 65536) % 4294967296 + (y3 : Int) % 4294967296 * 16777216 % 4294967296) % 4294967296 = (x : Int) := by omega
      rw [hX]
      clear hX h y0b y1b y2b y3b e0 e1 e2 e3 d1 d2 d3 f1 g1 g2 g3 p1 p2 p3 m0 m1 m2 m3 Hpl
      have hq16 : (k : Int) / 16 = ((k / 16 : Nat) : Int) := by omega
      have C1 : Hid (∀ W', Calls Tryd.prog 54 #[.int .i64 (IntKind.i64.wrap ((k : Int) / 16)), .int .u32 q, .int .u32 r, .int .u32 t] W' fun e w' => e = .returned (.int .u32 (mixf (k / 16) q r t)) ∧ W' = w') := fun W' => by
        rw [IntWalk.i64_in _ (by omega), hq16]
        exact rmix_any (k / 16) q r t W' (by omega) (by have := HO.out.2.1; simp only at this; omega) (by have := HO.out.2.2.1; simp only at this; omega) (by have := HO.out.2.2.2; simp only at this; omega)
      have C2 : Hid (∀ W', Calls Tryd.prog 55 #[.int .i64 k] W' fun e w' => e = .returned (.int .i64 (by_ k)) ∧ Below W'.heap.size W' w') := fun W' => rby_any k W' hlt
      have HF : Hid (mixf (k / 16) q r t < 4294967296) := mixf_lt _ _ _ _ HO.out.2.1 HO.out.2.2.1 HO.out.2.2.2
      have HBY := Lib.hid (by_in k)
      generalize mixf (k / 16) q r t = f at *
      generalize by_ k = b at *
      have HKL := Lib.hid (kk_lt k)
      generalize kk k = c at *
      have C3 : Hid (∀ W', Calls Tryd.prog 53 #[.int .u32 (IntKind.u32.wrap (IntKind.u32.wrap (IntKind.u32.wrap ((p : Int) + f) + x) + c)), .int .i64 b] W' fun e w' => e = .returned (.int .u32 (rotl ((p + f + x + c) % 4294967296) b)) ∧ W' = w') := fun W' => by
        rw [show IntKind.u32.wrap (IntKind.u32.wrap (IntKind.u32.wrap ((p : Int) + f) + x) + c) = (((p + f + x + c) % 4294967296 : Nat) : Int) by simp only [IntKind.wrap_u32']; omega]
        exact turned_any _ b W' (by omega) HBY.out.1 HBY.out.2
      have hBd := Hb.out.drewN' nq
      have hckd : (wr.drewN nq).cell? ⟨w.heap.size, k, none⟩ = some (.int .u32 c) := hck
      have hh0 : (0 : Int) ≤ k := by omega
      have hh1 : (k : Int) < 64 := by omega
      clear hq16 hck
      generalize wr.drewN nq = wq at *
      have hB1 := hBd.drew
      have hc1 : wq.drew.cell? ⟨w.heap.size, k, none⟩ = some (.int .u32 c) := hckd
      go_region_held3 (fun w' => Below W.heap.size W w' ∧ w'.cell? ⟨w.heap.size, k, none⟩ = some (.int .u32 c))
        (first | assumption | (go_split_ands; refine ⟨?_, ?_⟩ <;> assumption))
        (first
          | (go_at_call 54; (refine (C1.out _).mono ?_; clear C1; rintro e w1 ⟨rfl, rfl⟩))
          | (go_at_call 55; (refine (C2.out _).mono ?_; clear C2; rintro e w2 ⟨rfl, hb2⟩; have hB2 := hB1.trans (hb2.mono hB1.size); have hc2 := (hb2.cell (p := ⟨w.heap.size, k, none⟩) (World.block_lt_of_cell? _ _ hc1)).trans hc1))
          | (go_at_call 53; (refine (C3.out _).mono ?_; clear C3; rintro e w3 ⟨rfl, rfl⟩))
          | fail)
      have hE : IntKind.u32.wrap ((q : Int) + ↑(rotl ((p + f + x + c) % 4294967296) b)) = (((q + rotl ((p + f + x + c) % 4294967296) b) % 4294967296 : Nat) : Int) := by
        rw [IntKind.wrap_u32']; omega
      rw [hE]
      clear hE hb2 hc1 hB1 hckd hBd
      go_wp2
      go_roundw
      case rel => exact ⟨k + 1, by omega, by go_num, by rw [HR.out], by rw [HR.out], by rw [HR.out], by rw [HR.out], hB2⟩
      case measure => simp [intOf]; omega
    · obtain rfl : k = 64 := by omega
      have HR : Hid (blk u s.toList = add4 u (run (wordAt s.toList) u 64)) := rfl
      generalize run (wordAt s.toList) u 64 = v at *
      have HD : Hid (Below w.heap.size w wr) := HB.out.trans (hb.mono HB.out.size)
      clear hb
      go_wp2
      have hE : ∀ x y : Nat, ((x : Int) + y) % 4294967296 = (((x + y) % 4294967296 : Nat) : Int) := fun x y => by omega
      rw [hE, hE, hE, hE]
      refine bodyPost_ret (results_tmp4 rfl _ _ _) rfl ⟨?_, HD.out⟩
      rw [HR.out]
      rfl
end Go.Proofs.YtipcmkcllibnfaaDoor.Md5
