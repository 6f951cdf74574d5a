/- Put together: Md5G, Md5H. -/
import Derived.Test.YtpfbknbloeilmaaDoorGMd5E

/- Contract of package md5's step. -/
namespace Go.Proofs.YtpfbknbloeilmaaDoor.Md5
open Go.RowKit Go.Proofs.YtpfbknbloeilmaaDoor.Oct Go.Proofs.YtpfbknbloeilmaaDoor.Row Go.Proofs.YtpfbknbloeilmaaDoor.Mem

def StepP (g m : Nat) (s : W4) (buf : List UInt8) (w : World) (e : Ending) (w' : World) : Prop := e = .returned (.tuple #[]) ∧ Raw w' g s buf m ∧ Moves (fun k => k = g) w w'
set_option maxHeartbeats 1000000 in
set_option maxRecDepth 100000 in
theorem step_any (g m p n : Nat) (s : W4) (buf : List UInt8) (w : World) (hH : Raw w g s buf m) (hs : Ok4 s) (h1 : 1 ≤ n) (h2 : n ≤ 31) :
    Calls Tryd.prog 78 #[.pointer (some ⟨g, 0, none⟩), .int .u32 p, .int .i64 n] w (StepP g m ⟨s.d, (s.b + rotl ((s.a + p) % 4294967296) n) % 4294967296, s.b, s.c⟩ buf w) := by
  have HH := Lib.hid hH
  have hw0 := hH.word.1
  have hw1 := hH.word.2.1
  have hw2 := hH.word.2.2.1
  have hw3 := hH.word.2.2.2
  have hf0 := hH.frozen 0
  have hf1 := hH.frozen 1
  have hf2 := hH.frozen 2
  have hf3 := hH.frozen 3
  obtain ⟨a, b, c, d⟩ := s
  simp only at hw0 hw1 hw2 hw3 ⊢
  have CR : Hid (∀ W, Calls Tryd.prog 94 #[.int .u32 (IntKind.u32.wrap ((a : Int) + p)), .int .i64 n] W fun e w' => e = .returned (.int .u32 (rotl ((a + p) % 4294967296) n)) ∧ w' = W) := fun W => by
    rw [show IntKind.u32.wrap ((a : Int) + p) = (((a + p) % 4294967296 : Nat) : Int) by rw [IntKind.wrap_u32']; omega]
    exact (rot_any _ n W (by omega) h1 h2).mono fun e w' h => ⟨h.1, h.2.symm⟩
  generalize hq : rotl ((a + p) % 4294967296) n = q at *
  clear hH hs h1 h2 hq
  go_enter Tryd.func78, Tryd.ntmps78
  go_wp2
  go_quiet ((go_at_call 94; exact Calls.quiet_of_same (CR.out _)))
  go_wp2
  rw [show ((b : Int) + q) % 4294967296 = (((b + q) % 4294967296 : Nat) : Int) by omega]
  generalize (b + q) % 4294967296 = r at *
  go_region
  go_wp2
  go_end0
  have h0 : Raw (w.drewN (nq + 1)) g ⟨a, b, c, d⟩ buf m := HH.out
  have h1 := h0.putWord (s' := ⟨d, b, c, d⟩) 0 (.int .u32 d) (by omega) rfl
  have h2 := h1.putWord (s' := ⟨d, r, c, d⟩) 1 (.int .u32 r) (by omega) rfl
  have h3 := h2.putWord (s' := ⟨d, r, b, d⟩) 2 (.int .u32 b) (by omega) rfl
  have h4 := h3.putWord (s' := ⟨d, r, b, c⟩) 3 (.int .u32 c) (by omega) rfl
  exact ⟨rfl, h4, (((((Moves.refl (fun k => k = g) w).drewN (nq + 1)).setCell ⟨g, 0, none⟩ (fun _ => rfl) _).setCell ⟨g, 1, none⟩ (fun _ => rfl) _).setCell ⟨g, 2, none⟩ (fun _ => rfl) _).setCell ⟨g, 3, none⟩ (fun _ => rfl) _⟩
end Go.Proofs.YtpfbknbloeilmaaDoor.Md5

/- Contract of package md5's mix: a block. -/
namespace Go.Proofs.YtpfbknbloeilmaaDoor.Md5
open Go.RowKit Go.Proofs.YtpfbknbloeilmaaDoor.Oct Go.Proofs.YtpfbknbloeilmaaDoor.Row Go.Proofs.YtpfbknbloeilmaaDoor.Mem

theorem moves_drewN (W w' : World) (h : ∃ k, w' = W.drewN k) : Moves (fun _ => False) W w' := by
  obtain ⟨k, rfl⟩ := h
  exact (Moves.refl _ W).drewN k
/-- What the last loop of mix does: the first k words are added. -/
def addk (s e : W4) (k : Nat) : W4 := ⟨if 0 < k then (e.a + s.a) % 4294967296 else e.a, if 1 < k then (e.b + s.b) % 4294967296 else e.b, if 2 < k then (e.c + s.c) % 4294967296 else e.c, if 3 < k then (e.d + s.d) % 4294967296 else e.d⟩
theorem addk_four (s e : W4) : addk s e 4 = add4 s e := by
  unfold addk add4
  simp [Nat.add_comm]
set_option maxHeartbeats 4000000 in
set_option maxRecDepth 100000 in
theorem mix_any (g m : Nat) (s : W4) (buf l : List UInt8) (w : World) (hH : Raw w g s buf m) (hs : Ok4 s) (hG : Globs w) (hl : l.length = 64) :
    Calls Tryd.prog 56 #[.pointer (some ⟨g, 0, none⟩), .agg (bytesV l).toArray] w (StepP g m (blk s l) buf w) := by
  have HS := Lib.hid (fun W => split_any l W hl)
  have Hl := Lib.hid hl; clear hl
  have HG := Lib.hid hG; clear hG
  have HO := Lib.hid hs; clear hs
  have HH := Lib.hid hH
  have hlt := hH.lt
  have hw0 := hH.word.1
  have hw1 := hH.word.2.1
  have hw2 := hH.word.2.2.1
  have hw3 := hH.word.2.2.2
  have HZ : Hid ((Tryd.prog.info? 102).map (·.size) = some (bytesV l).toArray.size) := by show _ = _; rw [List.size_toArray, bytesV_length, Hl.out]; exact sizeB
  clear hH
  obtain ⟨cs, hcs⟩ : ∃ cs, (bytesV l).toArray = cs := ⟨_, rfl⟩
  rw [hcs] at HS HZ ⊢
  have Hcs := Lib.hid hcs; clear hcs
  go_enter Tryd.func56, Tryd.ntmps56
  go_wp2_with (refine wpList_load_row rfl 102 _ rfl w.heap.size rfl 102 cs (0, 0) _ (heap_alloc2_old w _ _) Tryd.underlying102 rfl HZ.out ?_)
  obtain ⟨W, hW⟩ : ∃ W, (w.alloc (.cells cs 102)).alloc (.cells #[.int .u32 s.a, .int .u32 s.b, .int .u32 s.c, .int .u32 s.d] 100) = W := ⟨_, rfl⟩
  have HB : Hid (Below w.heap.size w W) := by show Below _ _ _; rw [← hW]; exact ((Below.refl _ w).alloc (Nat.le_refl _) _).alloc (by simp) _
  have HF : Hid (W.heap[w.heap.size + 1]? = some (.cells #[.int .u32 s.a, .int .u32 s.b, .int .u32 s.c, .int .u32 s.d] 100 (0, 0))) := by show _ = _; rw [← hW]; exact heap_alloc2_new w _ _
  have HWs : Hid (W.heap.size = w.heap.size + 2) := by show _ = _; rw [← hW]; simp
  rw [hW]
  clear hW hw0 hw1 hw2 hw3
  refine (HS.out _).mono ?_
  clear HS
  rintro e w2 ⟨rfl, hb2⟩
  have HB2 : Hid (Below w.heap.size w w2) := HB.out.trans (hb2.mono HB.out.size)
  have HF2 : Hid (w2.heap[w.heap.size + 1]? = some (.cells #[.int .u32 s.a, .int .u32 s.b, .int .u32 s.c, .int .u32 s.d] 100 (0, 0))) := (hb2.block _ (by rw [HWs.out]; omega)).trans HF.out
  have HS2 : Hid (w.heap.size + 2 ≤ w2.heap.size) := by show _ ≤ _; rw [← HWs.out]; exact hb2.size
  clear hb2 HF HB HWs
  go_wp2_with fail
  refine (rounds_any g (wordAt l) _).mono ?_
  rintro e w3 ⟨rfl, hR3, hb3⟩
  obtain ⟨n, hn⟩ : ∃ n, w2.heap.size = n := ⟨_, rfl⟩
  rw [hn] at hR3 hb3 HS2 ⊢
  have HB3 : Hid (Below w.heap.size w w3) := HB2.out.trans (hb3.mono (by have := HS2.out; omega))
  have HF3 : Hid (w3.heap[w.heap.size + 1]? = some (.cells #[.int .u32 s.a, .int .u32 s.b, .int .u32 s.c, .int .u32 s.d] 100 (0, 0))) := (hb3.block _ (by have := HS2.out; omega)).trans HF2.out
  have HR3 := Lib.hid hR3
  clear hR3 hb3 HF2 HB2
  go_wp2
  go_loopw [17] (fun i wr => ∃ k : Nat, k ≤ 64 ∧ i = .int .i64 k ∧ Hid (Raw wr g (run (wordAt l) s k) buf m) ∧ Hid (Moves (fun k => k = g) w3 wr)) (fun i _ => 64 - (intOf i).toNat)
  case atStart => exact ⟨0, Nat.zero_le _, rfl, HH.out.below HB3.out, Moves.refl _ _⟩
  case round =>
    obtain ⟨k, hk, rfl, HRk, HMk⟩ := hrel
    by_cases hlt : k < 64
    · have HX0 : Hid (run (wordAt l) s (k + 1) = stp (wordAt l) (run (wordAt l) s k) k) := rfl
      have HOk := Lib.hid (run_ok (x := wordAt l) HO.out k)
      generalize run (wordAt l) s k = v at *
      have HGk : Hid (Globs wr) := by
        have h := HH.out.apart HG.out
        exact (HG.out.below HB3.out).moves HMk.out (fun e => h.1 e.symm) (fun e => h.2 e.symm)
      have HRn : Hid (RoundsIn wr n g (wordAt l)) := HR3.out.kept HMk.out (fun j hj => by have := HS2.out; omega)
      have hsin := HGk.out.1 k hlt
      have htur := HGk.out.2 (4 * (k / 16) + k % 4) (by omega)
      have hfn0 : (k / 16 = 0 ∨ k / 16 = 1 ∨ k / 16 = 2 ∨ k / 16 = 3) := by omega
      have j0 : (0 : Int) ≤ k := by omega
      have j1 : (k : Int) < 64 := by omega
      have HBY := Lib.hid (tt_in (4 * (k / 16) + k % 4))
      have HX : Hid (run (wordAt l) s (k + 1) = ⟨v.d, (v.b + rotl ((v.a + mixf (k / 16) v.b v.c v.d + wordAt l (place k) + kk k) % 4294967296) (tt (4 * (k / 16) + k % 4))) % 4294967296, v.b, v.c⟩) := HX0.out
      clear HX0
      have HKL := Lib.hid (kk_lt k)
      generalize tt (4 * (k / 16) + k % 4) = b at *
      generalize kk k = c at *
      obtain ⟨r, hr⟩ : ∃ r, k % 4 = r := ⟨_, rfl⟩
      rw [hr] at htur
      have r0 : (k : Int).tmod 4 = (r : Int) := by rw [Int.tmod_eq_emod_of_nonneg (by omega)]; omega
      have r1 : (0 : Int) ≤ r := by omega
      have r2 : (r : Int) ≤ 3 := by omega
      have r3 : (r : Int) < 4 := by omega
      have r4 : IntKind.i64.wrap (r : Int) = (r : Int) := IntWalk.i64_in _ (by omega)
      have hne : ¬ (n + 2 = g) := by have := HS2.out; omega
      have hgg := HH.out.apart HG.out
      have hg0 : ¬ ((0 : Nat) = g) := fun e => hgg.1 e.symm
      have hg1 : ¬ ((1 : Nat) = g) := fun e => hgg.2 e.symm
      clear hr hgg
      rcases hfn0 with h | h | h | h
      · have hq : (k : Int) / 16 = 0 := by omega
        have hfn : wr.cell? ⟨n + 2, 0, none⟩ = some (.func (.func 90) #[] #[.pointer (some ⟨n, 0, none⟩), .pointer (some ⟨n + 1, 0, none⟩)]) := by rw [cell_of_row _ _ _ _ _ _ HRn.out.2.2]; rfl
        have htu : wr.cell? ⟨1, r, none⟩ = some (.int .i64 b) := by have e := htur; rw [h] at e; first | exact e | (rw [← e]; congr 1; simp)
        have C1 := Lib.hid (fun W h1 h2 => (clo1_any k n g m v buf (wordAt l) W (by omega) (by omega) h1 h2 HOk.out).mono fun e w' h => And.intro h.1 (moves_drewN W w' h.2))
        have HX2 : Hid (run (wordAt l) s (k + 1) = ⟨v.d, (v.b + rotl ((v.a + (mixf 0 v.b v.c v.d + wordAt l (place k)) % 4294967296 + c) % 4294967296) b) % 4294967296, v.b, v.c⟩) := by
          show _ = _
          rw [HX.out, h]
          congr 4
          omega
        generalize (mixf 0 v.b v.c v.d + wordAt l (place k)) % 4294967296 = f at *
        have C2 : Hid (∀ W, Raw W g v buf m → Calls Tryd.prog 78 #[.pointer (some ⟨g, 0, none⟩), .int .u32 (IntKind.u32.wrap ((f : Int) + c)), .int .i64 b] W (StepP g m ⟨v.d, (v.b + rotl ((v.a + f + c) % 4294967296) b) % 4294967296, v.b, v.c⟩ buf W)) := fun W hw => by
          rw [show IntKind.u32.wrap ((f : Int) + c) = (((f + c) % 4294967296 : Nat) : Int) by rw [IntKind.wrap_u32']; omega]
          have e : (v.a + f + c) % 4294967296 = (v.a + (f + c) % 4294967296) % 4294967296 := by omega
          rw [e]
          exact step_any g m _ b v buf W hw HOk.out HBY.out.1 HBY.out.2
        clear HX h htur
        go_wp2
        have a1 : wr.drew.cell? ⟨n + 2, 0, none⟩ = some (.func (.func 90) #[] #[.pointer (some ⟨n, 0, none⟩), .pointer (some ⟨n + 1, 0, none⟩)]) := hfn
        have a2 : wr.drew.cell? ⟨0, k, none⟩ = some (.int .u32 c) := hsin
        have a3 : wr.drew.cell? ⟨1, r, none⟩ = some (.int .i64 b) := htu
        have a4 : Hid (RoundsIn wr.drew n g (wordAt l)) := HRn.out
        have a5 : Hid (Raw wr.drew g v buf m) := HRk.out
        go_region_held3 (fun w' => w'.cell? ⟨n + 2, 0, none⟩ = some (.func (.func 90) #[] #[.pointer (some ⟨n, 0, none⟩), .pointer (some ⟨n + 1, 0, none⟩)]) ∧ w'.cell? ⟨0, k, none⟩ = some (.int .u32 c) ∧ w'.cell? ⟨1, r, none⟩ = some (.int .i64 b))
          (first | assumption | (go_split_ands; refine ⟨?_, ?_, ?_⟩ <;> assumption))
          (first
            | (go_at_call 90; (refine (C1.out _ a4.out a5.out).mono ?_; clear C1; rintro e w1 ⟨rfl, hm1⟩; have b1 := (hm1.cell (p := ⟨n + 2, 0, none⟩) (World.block_lt_of_cell? _ _ a1) (fun x => x)).trans a1; have b2 := (hm1.cell (p := ⟨0, k, none⟩) (World.block_lt_of_cell? _ _ a2) (fun x => x)).trans a2; have b3 := (hm1.cell (p := ⟨1, r, none⟩) (World.block_lt_of_cell? _ _ a3) (fun x => x)).trans a3))
            | (go_at_call 78; (refine (C2.out _ (a5.out.moves hm1 (fun x => x))).mono ?_; clear C2; rintro e w5 ⟨rfl, hraw, hmv⟩; have c1 := (hmv.cell (p := ⟨n + 2, 0, none⟩) (World.block_lt_of_cell? _ _ b1) hne).trans b1; have c2 := (hmv.cell (p := ⟨0, k, none⟩) (World.block_lt_of_cell? _ _ b2) hg0).trans b2; have c3 := (hmv.cell (p := ⟨1, r, none⟩) (World.block_lt_of_cell? _ _ b3) hg1).trans b3))
            | fail)
        clear a1 a2 a3 b1 b2 b3 c1 c2 c3 hfn hsin htu
        have HRw := Lib.hid hraw; clear hraw
        have HMw : Hid (Moves (fun k => k = g) w3 w5) := (HMk.out.drew.trans hm1 (fun _ _ h => h.elim)).trans hmv (fun _ _ h => h)
        clear hmv hm1
        go_wp2
        go_roundw
        case rel => exact ⟨k + 1, by omega, by go_num, by rw [HX2.out]; exact HRw.out, HMw.out⟩
        case measure => simp [intOf]; omega
      · have hq : (k : Int) / 16 = 1 := by omega
        have hfn : wr.cell? ⟨n + 2, 1, none⟩ = some (.func (.func 91) #[] #[.pointer (some ⟨n, 0, none⟩), .pointer (some ⟨n + 1, 0, none⟩)]) := by rw [cell_of_row _ _ _ _ _ _ HRn.out.2.2]; rfl
        have htu : wr.cell? ⟨1, 4 + r, none⟩ = some (.int .i64 b) := by have e := htur; rw [h] at e; first | exact e | (rw [← e]; congr 1; simp)
        have C1 := Lib.hid (fun W h1 h2 => (clo2_any k n g m v buf (wordAt l) W (by omega) (by omega) h1 h2 HOk.out).mono fun e w' h => And.intro h.1 (moves_drewN W w' h.2))
        have HX2 : Hid (run (wordAt l) s (k + 1) = ⟨v.d, (v.b + rotl ((v.a + (mixf 1 v.b v.c v.d + wordAt l (place k)) % 4294967296 + c) % 4294967296) b) % 4294967296, v.b, v.c⟩) := by
          show _ = _
          rw [HX.out, h]
          congr 4
          omega
        generalize (mixf 1 v.b v.c v.d + wordAt l (place k)) % 4294967296 = f at *
        have C2 : Hid (∀ W, Raw W g v buf m → Calls Tryd.prog 78 #[.pointer (some ⟨g, 0, none⟩), .int .u32 (IntKind.u32.wrap ((f : Int) + c)), .int .i64 b] W (StepP g m ⟨v.d, (v.b + rotl ((v.a + f + c) % 4294967296) b) % 4294967296, v.b, v.c⟩ buf W)) := fun W hw => by
          rw [show IntKind.u32.wrap ((f : Int) + c) = (((f + c) % 4294967296 : Nat) : Int) by rw [IntKind.wrap_u32']; omega]
          have e : (v.a + f + c) % 4294967296 = (v.a + (f + c) % 4294967296) % 4294967296 := by omega
          rw [e]
          exact step_any g m _ b v buf W hw HOk.out HBY.out.1 HBY.out.2
        clear HX h htur
        go_wp2
        have a1 : wr.drew.cell? ⟨n + 2, 1, none⟩ = some (.func (.func 91) #[] #[.pointer (some ⟨n, 0, none⟩), .pointer (some ⟨n + 1, 0, none⟩)]) := hfn
        have a2 : wr.drew.cell? ⟨0, k, none⟩ = some (.int .u32 c) := hsin
        have a3 : wr.drew.cell? ⟨1, 4 + r, none⟩ = some (.int .i64 b) := htu
        have a4 : Hid (RoundsIn wr.drew n g (wordAt l)) := HRn.out
        have a5 : Hid (Raw wr.drew g v buf m) := HRk.out
        go_region_held3 (fun w' => w'.cell? ⟨n + 2, 1, none⟩ = some (.func (.func 91) #[] #[.pointer (some ⟨n, 0, none⟩), .pointer (some ⟨n + 1, 0, none⟩)]) ∧ w'.cell? ⟨0, k, none⟩ = some (.int .u32 c) ∧ w'.cell? ⟨1, 4 + r, none⟩ = some (.int .i64 b))
          (first | assumption | (go_split_ands; refine ⟨?_, ?_, ?_⟩ <;> assumption))
          (first
            | (go_at_call 91; (refine (C1.out _ a4.out a5.out).mono ?_; clear C1; rintro e w1 ⟨rfl, hm1⟩; have b1 := (hm1.cell (p := ⟨n + 2, 1, none⟩) (World.block_lt_of_cell? _ _ a1) (fun x => x)).trans a1; have b2 := (hm1.cell (p := ⟨0, k, none⟩) (World.block_lt_of_cell? _ _ a2) (fun x => x)).trans a2; have b3 := (hm1.cell (p := ⟨1, 4 + r, none⟩) (World.block_lt_of_cell? _ _ a3) (fun x => x)).trans a3))
            | (go_at_call 78; (refine (C2.out _ (a5.out.moves hm1 (fun x => x))).mono ?_; clear C2; rintro e w5 ⟨rfl, hraw, hmv⟩; have c1 := (hmv.cell (p := ⟨n + 2, 1, none⟩) (World.block_lt_of_cell? _ _ b1) hne).trans b1; have c2 := (hmv.cell (p := ⟨0, k, none⟩) (World.block_lt_of_cell? _ _ b2) hg0).trans b2; have c3 := (hmv.cell (p := ⟨1, 4 + r, none⟩) (World.block_lt_of_cell? _ _ b3) hg1).trans b3))
            | fail)
        clear a1 a2 a3 b1 b2 b3 c1 c2 c3 hfn hsin htu
        have HRw := Lib.hid hraw; clear hraw
        have HMw : Hid (Moves (fun k => k = g) w3 w5) := (HMk.out.drew.trans hm1 (fun _ _ h => h.elim)).trans hmv (fun _ _ h => h)
        clear hmv hm1
        go_wp2
        go_roundw
        case rel => exact ⟨k + 1, by omega, by go_num, by rw [HX2.out]; exact HRw.out, HMw.out⟩
        case measure => simp [intOf]; omega
      · have hq : (k : Int) / 16 = 2 := by omega
        have hfn : wr.cell? ⟨n + 2, 2, none⟩ = some (.func (.func 92) #[] #[.pointer (some ⟨n, 0, none⟩), .pointer (some ⟨n + 1, 0, none⟩)]) := by rw [cell_of_row _ _ _ _ _ _ HRn.out.2.2]; rfl
        have htu : wr.cell? ⟨1, 8 + r, none⟩ = some (.int .i64 b) := by have e := htur; rw [h] at e; first | exact e | (rw [← e]; congr 1; simp)
        have C1 := Lib.hid (fun W h1 h2 => (clo3_any k n g m v buf (wordAt l) W (by omega) (by omega) h1 h2 HOk.out).mono fun e w' h => And.intro h.1 (moves_drewN W w' h.2))
        have HX2 : Hid (run (wordAt l) s (k + 1) = ⟨v.d, (v.b + rotl ((v.a + (mixf 2 v.b v.c v.d + wordAt l (place k)) % 4294967296 + c) % 4294967296) b) % 4294967296, v.b, v.c⟩) := by
          show _ = _
          rw [HX.out, h]
          congr 4
          omega
        generalize (mixf 2 v.b v.c v.d + wordAt l (place k)) % 4294967296 = f at *
        have C2 : Hid (∀ W, Raw W g v buf m → Calls Tryd.prog 78 #[.pointer (some ⟨g, 0, none⟩), .int .u32 (IntKind.u32.wrap ((f : Int) + c)), .int .i64 b] W (StepP g m ⟨v.d, (v.b + rotl ((v.a + f + c) % 4294967296) b) % 4294967296, v.b, v.c⟩ buf W)) := fun W hw => by
          rw [show IntKind.u32.wrap ((f : Int) + c) = (((f + c) % 4294967296 : Nat) : Int) by rw [IntKind.wrap_u32']; omega]
          have e : (v.a + f + c) % 4294967296 = (v.a + (f + c) % 4294967296) % 4294967296 := by omega
          rw [e]
          exact step_any g m _ b v buf W hw HOk.out HBY.out.1 HBY.out.2
        clear HX h htur
        go_wp2
        have a1 : wr.drew.cell? ⟨n + 2, 2, none⟩ = some (.func (.func 92) #[] #[.pointer (some ⟨n, 0, none⟩), .pointer (some ⟨n + 1, 0, none⟩)]) := hfn
        have a2 : wr.drew.cell? ⟨0, k, none⟩ = some (.int .u32 c) := hsin
        have a3 : wr.drew.cell? ⟨1, 8 + r, none⟩ = some (.int .i64 b) := htu
        have a4 : Hid (RoundsIn wr.drew n g (wordAt l)) := HRn.out
        have a5 : Hid (Raw wr.drew g v buf m) := HRk.out
        go_region_held3 (fun w' => w'.cell? ⟨n + 2, 2, none⟩ = some (.func (.func 92) #[] #[.pointer (some ⟨n, 0, none⟩), .pointer (some ⟨n + 1, 0, none⟩)]) ∧ w'.cell? ⟨0, k, none⟩ = some (.int .u32 c) ∧ w'.cell? ⟨1, 8 + r, none⟩ = some (.int .i64 b))
          (first | assumption | (go_split_ands; refine ⟨?_, ?_, ?_⟩ <;> assumption))
          (first
            | (go_at_call 92; (refine (C1.out _ a4.out a5.out).mono ?_; clear C1; rintro e w1 ⟨rfl, hm1⟩; have b1 := (hm1.cell (p := ⟨n + 2, 2, none⟩) (World.block_lt_of_cell? _ _ a1) (fun x => x)).trans a1; have b2 := (hm1.cell (p := ⟨0, k, none⟩) (World.block_lt_of_cell? _ _ a2) (fun x => x)).trans a2; have b3 := (hm1.cell (p := ⟨1, 8 + r, none⟩) (World.block_lt_of_cell? _ _ a3) (fun x => x)).trans a3))
            | (go_at_call 78; (refine (C2.out _ (a5.out.moves hm1 (fun x => x))).mono ?_; clear C2; rintro e w5 ⟨rfl, hraw, hmv⟩; have c1 := (hmv.cell (p := ⟨n + 2, 2, none⟩) (World.block_lt_of_cell? _ _ b1) hne).trans b1; have c2 := (hmv.cell (p := ⟨0, k, none⟩) (World.block_lt_of_cell? _ _ b2) hg0).trans b2; have c3 := (hmv.cell (p := ⟨1, 8 + r, none⟩) (World.block_lt_of_cell? _ _ b3) hg1).trans b3))
            | fail)
        clear a1 a2 a3 b1 b2 b3 c1 c2 c3 hfn hsin htu
        have HRw := Lib.hid hraw; clear hraw
        have HMw : Hid (Moves (fun k => k = g) w3 w5) := (HMk.out.drew.trans hm1 (fun _ _ h => h.elim)).trans hmv (fun _ _ h => h)
        clear hmv hm1
        go_wp2
        go_roundw
        case rel => exact ⟨k + 1, by omega, by go_num, by rw [HX2.out]; exact HRw.out, HMw.out⟩
        case measure => simp [intOf]; omega
      · have hq : (k : Int) / 16 = 3 := by omega
        have hfn : wr.cell? ⟨n + 2, 3, none⟩ = some (.func (.func 93) #[] #[.pointer (some ⟨n, 0, none⟩), .pointer (some ⟨n + 1, 0, none⟩)]) := by rw [cell_of_row _ _ _ _ _ _ HRn.out.2.2]; rfl
        have htu : wr.cell? ⟨1, 12 + r, none⟩ = some (.int .i64 b) := by have e := htur; rw [h] at e; first | exact e | (rw [← e]; congr 1; simp)
        have C1 := Lib.hid (fun W h1 h2 => (clo4_any k n g m v buf (wordAt l) W (by omega) (by omega) h1 h2 HOk.out).mono fun e w' h => And.intro h.1 (moves_drewN W w' h.2))
        have HX2 : Hid (run (wordAt l) s (k + 1) = ⟨v.d, (v.b + rotl ((v.a + (mixf 3 v.b v.c v.d + wordAt l (place k)) % 4294967296 + c) % 4294967296) b) % 4294967296, v.b, v.c⟩) := by
          show _ = _
          rw [HX.out, h]
          congr 4
          omega
        generalize (mixf 3 v.b v.c v.d + wordAt l (place k)) % 4294967296 = f at *
        have C2 : Hid (∀ W, Raw W g v buf m → Calls Tryd.prog 78 #[.pointer (some ⟨g, 0, none⟩), .int .u32 (IntKind.u32.wrap ((f : Int) + c)), .int .i64 b] W (StepP g m ⟨v.d, (v.b + rotl ((v.a + f + c) % 4294967296) b) % 4294967296, v.b, v.c⟩ buf W)) := fun W hw => by
          rw [show IntKind.u32.wrap ((f : Int) + c) = (((f + c) % 4294967296 : Nat) : Int) by rw [IntKind.wrap_u32']; omega]
          have e : (v.a + f + c) % 4294967296 = (v.a + (f + c) % 4294967296) % 4294967296 := by omega
          rw [e]
          exact step_any g m _ b v buf W hw HOk.out HBY.out.1 HBY.out.2
        clear HX h htur
        go_wp2
        have a1 : wr.drew.cell? ⟨n + 2, 3, none⟩ = some (.func (.func 93) #[] #[.pointer (some ⟨n, 0, none⟩), .pointer (some ⟨n + 1, 0, none⟩)]) := hfn
        have a2 : wr.drew.cell? ⟨0, k, none⟩ = some (.int .u32 c) := hsin
        have a3 : wr.drew.cell? ⟨1, 12 + r, none⟩ = some (.int .i64 b) := htu
        have a4 : Hid (RoundsIn wr.drew n g (wordAt l)) := HRn.out
        have a5 : Hid (Raw wr.drew g v buf m) := HRk.out
        go_region_held3 (fun w' => w'.cell? ⟨n + 2, 3, none⟩ = some (.func (.func 93) #[] #[.pointer (some ⟨n, 0, none⟩), .pointer (some ⟨n + 1, 0, none⟩)]) ∧ w'.cell? ⟨0, k, none⟩ = some (.int .u32 c) ∧ w'.cell? ⟨1, 12 + r, none⟩ = some (.int .i64 b))
          (first | assumption | (go_split_ands; refine ⟨?_, ?_, ?_⟩ <;> assumption))
          (first
            | (go_at_call 93; (refine (C1.out _ a4.out a5.out).mono ?_; clear C1; rintro e w1 ⟨rfl, hm1⟩; have b1 := (hm1.cell (p := ⟨n + 2, 3, none⟩) (World.block_lt_of_cell? _ _ a1) (fun x => x)).trans a1; have b2 := (hm1.cell (p := ⟨0, k, none⟩) (World.block_lt_of_cell? _ _ a2) (fun x => x)).trans a2; have b3 := (hm1.cell (p := ⟨1, 12 + r, none⟩) (World.block_lt_of_cell? _ _ a3) (fun x => x)).trans a3))
            | (go_at_call 78; (refine (C2.out _ (a5.out.moves hm1 (fun x => x))).mono ?_; clear C2; rintro e w5 ⟨rfl, hraw, hmv⟩; have c1 := (hmv.cell (p := ⟨n + 2, 3, none⟩) (World.block_lt_of_cell? _ _ b1) hne).trans b1; have c2 := (hmv.cell (p := ⟨0, k, none⟩) (World.block_lt_of_cell? _ _ b2) hg0).trans b2; have c3 := (hmv.cell (p := ⟨1, 12 + r, none⟩) (World.block_lt_of_cell? _ _ b3) hg1).trans b3))
            | fail)
        clear a1 a2 a3 b1 b2 b3 c1 c2 c3 hfn hsin htu
        have HRw := Lib.hid hraw; clear hraw
        have HMw : Hid (Moves (fun k => k = g) w3 w5) := (HMk.out.drew.trans hm1 (fun _ _ h => h.elim)).trans hmv (fun _ _ h => h)
        clear hmv hm1
        go_wp2
        go_roundw
        case rel => exact ⟨k + 1, by omega, by go_num, by rw [HX2.out]; exact HRw.out, HMw.out⟩
        case measure => simp [intOf]; omega
    · obtain rfl : k = 64 := by omega
      obtain ⟨e, he⟩ : ∃ e, run (wordAt l) s 64 = e := ⟨_, rfl⟩
      have HE : Hid (blk s l = add4 s e) := by show _ = _; rw [← he]; rfl
      rw [he] at HRk
      clear he
      have HFr : Hid (wr.heap[w.heap.size + 1]? = some (.cells #[.int .u32 s.a, .int .u32 s.b, .int .u32 s.c, .int .u32 s.d] 100 (0, 0))) := (HMk.out.block _ (Array.getElem?_eq_some_iff.1 HF3.out).1 (fun h => by have := HH.out.lt; omega)).trans HF3.out
      have hb0 : wr.cell? ⟨w.heap.size + 1, 0, none⟩ = some (.int .u32 s.a) := by rw [cell_of_row _ _ _ _ _ _ HFr.out]; rfl
      have hb1 : wr.cell? ⟨w.heap.size + 1, 1, none⟩ = some (.int .u32 s.b) := by rw [cell_of_row _ _ _ _ _ _ HFr.out]; rfl
      have hb2 : wr.cell? ⟨w.heap.size + 1, 2, none⟩ = some (.int .u32 s.c) := by rw [cell_of_row _ _ _ _ _ _ HFr.out]; rfl
      have hb3 : wr.cell? ⟨w.heap.size + 1, 3, none⟩ = some (.int .u32 s.d) := by rw [cell_of_row _ _ _ _ _ _ HFr.out]; rfl
      have HM0 : Hid (Moves (fun k => k = g) w wr) := (Moves.of_below (S := fun k => k = g) HB3.out).trans HMk.out (fun _ _ h => h)
      go_wp2
      clear hb0 hb1 hb2 hb3
      go_loopw [42] (fun i wr2 => ∃ j : Nat, j ≤ 4 ∧ i = .int .i64 j ∧ Hid (Raw wr2 g (addk s e j) buf m) ∧ Hid (Moves (fun k => k = g) w wr2)) (fun i _ => 4 - (intOf i).toNat)
      case atStart => exact ⟨0, Nat.zero_le _, rfl, HRk.out, HM0.out⟩
      case round =>
        obtain ⟨j, hj, rfl, HRj, HMj⟩ := hrel
        rcases (show j = 0 ∨ j = 1 ∨ j = 2 ∨ j = 3 ∨ j = 4 by omega) with rfl | rfl | rfl | rfl | rfl
        · have hix : (Instr.index 100 (.agg #[.int .u32 s.a, .int .u32 s.b, .int .u32 s.c, .int .u32 s.d]) (.int .i64 0)).run Tryd.prog wr = .ok (.int .u32 s.a) wr := run_index_arr (P := Tryd.prog) wr 100 42 4 .u32 #[.int .u32 s.a, .int .u32 s.b, .int .u32 s.c, .int .u32 s.d] 0 (.int .u32 s.a) Tryd.underlying100 Tryd.underlying42 (by kernel_rfl) (by omega) rfl
          have hr : Raw wr g ⟨e.a, e.b, e.c, e.d⟩ buf m := HRj.out
          have hw := hr.word.1
          have hf := hr.frozen 0
          have HX : Hid (((e.a : Int) + s.a) % 4294967296 = (((e.a + s.a) % 4294967296 : Nat) : Int)) := by show _ = _; omega
          have HP : Hid (Raw (wr.setCell ⟨g, 0, none⟩ (.int .u32 (((e.a : Int) + s.a) % 4294967296))) g ⟨(e.a + s.a) % 4294967296, e.b, e.c, e.d⟩ buf m) := by rw [HX.out]; exact hr.putWord 0 _ (by omega) rfl
          clear hr
          simp only at hw
          go_wp2
          go_region
          go_wp2
          go_roundw
          case rel => exact ⟨1, by omega, by go_num, HP.out, (HMj.out.setCell ⟨g, 0, none⟩ (fun _ => rfl) _).drew⟩
          case measure => simp [intOf]
        · have hix : (Instr.index 100 (.agg #[.int .u32 s.a, .int .u32 s.b, .int .u32 s.c, .int .u32 s.d]) (.int .i64 1)).run Tryd.prog wr = .ok (.int .u32 s.b) wr := run_index_arr (P := Tryd.prog) wr 100 42 4 .u32 #[.int .u32 s.a, .int .u32 s.b, .int .u32 s.c, .int .u32 s.d] 1 (.int .u32 s.b) Tryd.underlying100 Tryd.underlying42 (by kernel_rfl) (by omega) rfl
          have hr : Raw wr g ⟨(e.a + s.a) % 4294967296, e.b, e.c, e.d⟩ buf m := HRj.out
          have hw := hr.word.2.1
          have hf := hr.frozen 1
          have HX : Hid (((e.b : Int) + s.b) % 4294967296 = (((e.b + s.b) % 4294967296 : Nat) : Int)) := by show _ = _; omega
          have HP : Hid (Raw (wr.setCell ⟨g, 1, none⟩ (.int .u32 (((e.b : Int) + s.b) % 4294967296))) g ⟨(e.a + s.a) % 4294967296, (e.b + s.b) % 4294967296, e.c, e.d⟩ buf m) := by rw [HX.out]; exact hr.putWord 1 _ (by omega) rfl
          clear hr
          simp only at hw
          go_wp2
          go_region
          go_wp2
          go_roundw
          case rel => exact ⟨2, by omega, by go_num, HP.out, (HMj.out.setCell ⟨g, 1, none⟩ (fun _ => rfl) _).drew⟩
          case measure => simp [intOf]
        · have hix : (Instr.index 100 (.agg #[.int .u32 s.a, .int .u32 s.b, .int .u32 s.c, .int .u32 s.d]) (.int .i64 2)).run Tryd.prog wr = .ok (.int .u32 s.c) wr := run_index_arr (P := Tryd.prog) wr 100 42 4 .u32 #[.int .u32 s.a, .int .u32 s.b, .int .u32 s.c, .int .u32 s.d] 2 (.int .u32 s.c) Tryd.underlying100 Tryd.underlying42 (by kernel_rfl) (by omega) rfl
          have hr : Raw wr g ⟨(e.a + s.a) % 4294967296, (e.b + s.b) % 4294967296, e.c, e.d⟩ buf m := HRj.out
          have hw := hr.word.2.2.1
          have hf := hr.frozen 2
          have HX : Hid (((e.c : Int) + s.c) % 4294967296 = (((e.c + s.c) % 4294967296 : Nat) : Int)) := by show _ = _; omega
          have HP : Hid (Raw (wr.setCell ⟨g, 2, none⟩ (.int .u32 (((e.c : Int) + s.c) % 4294967296))) g ⟨(e.a + s.a) % 4294967296, (e.b + s.b) % 4294967296, (e.c + s.c) % 4294967296, e.d⟩ buf m) := by rw [HX.out]; exact hr.putWord 2 _ (by omega) rfl
          clear hr
          simp only at hw
          go_wp2
          go_region
          go_wp2
          go_roundw
          case rel => exact ⟨3, by omega, by go_num, HP.out, (HMj.out.setCell ⟨g, 2, none⟩ (fun _ => rfl) _).drew⟩
          case measure => simp [intOf]
        · have hix : (Instr.index 100 (.agg #[.int .u32 s.a, .int .u32 s.b, .int .u32 s.c, .int .u32 s.d]) (.int .i64 3)).run Tryd.prog wr = .ok (.int .u32 s.d) wr := run_index_arr (P := Tryd.prog) wr 100 42 4 .u32 #[.int .u32 s.a, .int .u32 s.b, .int .u32 s.c, .int .u32 s.d] 3 (.int .u32 s.d) Tryd.underlying100 Tryd.underlying42 (by kernel_rfl) (by omega) rfl
          have hr : Raw wr g ⟨(e.a + s.a) % 4294967296, (e.b + s.b) % 4294967296, (e.c + s.c) % 4294967296, e.d⟩ buf m := HRj.out
          have hw := hr.word.2.2.2
          have hf := hr.frozen 3
          have HX : Hid (((e.d : Int) + s.d) % 4294967296 = (((e.d + s.d) % 4294967296 : Nat) : Int)) := by show _ = _; omega
          have HP : Hid (Raw (wr.setCell ⟨g, 3, none⟩ (.int .u32 (((e.d : Int) + s.d) % 4294967296))) g ⟨(e.a + s.a) % 4294967296, (e.b + s.b) % 4294967296, (e.c + s.c) % 4294967296, (e.d + s.d) % 4294967296⟩ buf m) := by rw [HX.out]; exact hr.putWord 3 _ (by omega) rfl
          clear hr
          simp only at hw
          go_wp2
          go_region
          go_wp2
          go_roundw
          case rel => exact ⟨4, by omega, by go_num, HP.out, (HMj.out.setCell ⟨g, 3, none⟩ (fun _ => rfl) _).drew⟩
          case measure => simp [intOf]
        · go_wp2
          go_end0
          exact ⟨rfl, by rw [HE.out, ← addk_four]; exact HRj.out, HMj.out⟩
end Go.Proofs.YtpfbknbloeilmaaDoor.Md5
