/- Contracts of ipcpopt's read and Good. -/
import Derived.Test.YtikcgcgbcolndaaGreatIpcA
namespace Go.Proofs.YtikcgcgbcolndaaGreat.Ipc
open Go.RowKit Go.Proofs.YtikcgcgbcolndaaGreat.Oct Go.Proofs.YtikcgcgbcolndaaGreat.Row Go.Proofs.YtikcgcgbcolndaaGreat.Mem Go.Proofs.YtikcgcgbcolndaaGreat.Opt

/-- What stands while the three are gone over. -/
def Rnd (w wr : World) (o : Opt) (k : Nat) : Prop := At wr w.heap.size o ∧ Blk wr (w.heap.size + 1) [.int .u8 0, .nilFunc, .nilFunc] 161 ∧ (∀ j, j < k → kd j ≠ o.1) ∧ Below w.heap.size w wr
theorem Rnd.callee {w wr W' : World} {o : Opt} {k : Nat} (h : Rnd w wr o k) (hb : Below wr.heap.size wr W') : Rnd w W' o k := ⟨h.1.callee hb, Blk.callee h.2.1 hb, h.2.2.1, h.2.2.2.trans (hb.mono h.2.2.2.size)⟩
/-- None of the three: no meaning. -/
def mZ : List Value := [.int .u8 0, .nilFunc, .nilFunc]
/-- What read answers. -/
def ReadQ (o : Opt) (w : World) (e : Ending) (w' : World) : Prop :=
  ∃ (M : List Value) (A : Nat), e = .returned (.tuple #[.agg M.toArray, .int .u32 A, .bool (good o)]) ∧ ((∃ k, k < 3 ∧ kd k = o.1 ∧ M = mV k ∧ (good o = true → A = val o.2.toList)) ∨ (M = mZ ∧ good o = false)) ∧ Below w.heap.size w w'
theorem kd_known (k : Nat) (hk : k < 3) : known (kd k) = true := by
  rcases (show k = 0 ∨ k = 1 ∨ k = 2 by omega) with rfl | rfl | rfl <;> rfl
theorem known_kd {t : UInt8} (h : known t = true) : ∃ k, k < 3 ∧ kd k = t := by
  rcases known_cases h with rfl | rfl | rfl
  · exact ⟨0, by omega, rfl⟩
  · exact ⟨1, by omega, rfl⟩
  · exact ⟨2, by omega, rfl⟩
theorem three_set {W : World} {g : Nat} {a b c : Value} {t : TypeId} (h : Blk W g [a, b, c] t) (x y z : Value) : Blk (((W.setCell ⟨g, 0, none⟩ x).setCell ⟨g, 1, none⟩ y).setCell ⟨g, 2, none⟩ z) g [x, y, z] t := ((Blk.set h 0 x).set 1 y).set 2 z
theorem three_below {w W : World} {g n : Nat} (h : Below n w W) (hg : n ≤ g) (x y z : Value) : Below n w (((W.setCell ⟨g, 0, none⟩ x).setCell ⟨g, 1, none⟩ y).setCell ⟨g, 2, none⟩ z) := ((h.setCell (p := ⟨g, 0, none⟩) hg x).setCell (p := ⟨g, 1, none⟩) hg y).setCell (p := ⟨g, 2, none⟩) hg z
set_option maxHeartbeats 4000000 in
set_option maxRecDepth 100000 in
theorem read_opt (t : UInt8) (d : ByteArray) (w : World) (hd : d.size ≤ maxLen) : Calls Tryz.prog 244 #[.agg #[.int .u8 t.toNat, .string d]] w (ReadQ (t, d) w) := by
  have HC := Lib.hid meanings_any
  obtain ⟨W, hW, HW⟩ : ∃ W, (w.alloc (.cells #[.int .u8 t.toNat, .string d] 110)).alloc (.cells #[.int .u8 0, .nilFunc, .nilFunc] 161) = W ∧ Hid (Rnd w W (t, d) 0) := by
    refine ⟨_, rfl, (at_new w t d).alloc _, ?_, fun j h => by omega, ((Below.refl w.heap.size w).alloc (Nat.le_refl _) _).alloc (by simp) _⟩
    have := blk_new (w.alloc (.cells #[.int .u8 t.toNat, .string d] 110)) [.int .u8 0, .nilFunc, .nilFunc] 161
    rw [show (w.alloc (.cells #[.int .u8 t.toNat, .string d] 110)).heap.size = w.heap.size + 1 by simp] at this
    exact this
  have C1 : Hid (∀ W, Calls Tryz.prog 194 #[.string d] W fun e w' => e = .returned (.tuple #[.int .u32 (getN 4 d), .int .i64 (getE 4 d)]) ∧ ∃ k, w' = W.drewN k) := fun W => get32_any d W hd
  have HGG : Hid (good (t, d) = (known t && (getE 4 d == 0)) ∧ (d.size = 4 → getN 4 d = val d.toList)) := by
    refine ⟨?_, fun h => by unfold getN; rw [if_neg (by omega), if_neg (by omega)]⟩
    unfold good
    congr 1
    unfold getE
    by_cases h1 : d.size < 4
    · rw [if_pos h1]; simp; omega
    · rw [if_neg h1]
      by_cases h2 : 4 < d.size
      · rw [if_pos h2]; simp; omega
      · rw [if_neg h2]; simp; omega
  generalize getE 4 d = E at *
  generalize getN 4 d = A at *
  go_enter Tryz.func244, Tryz.ntmps244
  go_wp2_with fail
  refine (HC.out _).mono ?_
  rintro e w1 ⟨rfl, hb1⟩
  have HR1 := Lib.hid (HW.out.callee hb1)
  clear hb1 hW HW HC
  go_wp2
  go_loopw [10] (fun i wr => ∃ k : Nat, k ≤ 3 ∧ i = .int .i64 k ∧ Hid (Rnd w wr (t, d) k)) (fun i _ => 3 - (intOf i).toNat)
  case atStart => exact ⟨0, Nat.zero_le _, rfl, HR1⟩
  case round =>
    obtain ⟨k, hk, rfl, HR⟩ := hrel
    by_cases hlt : k < 3
    · have hl1 : (k : Int) < 3 := by omega
      have hix : ∀ W, (Instr.index 162 msV (.int .i64 (k : Nat))).run Tryz.prog W = .ok (.agg #[.int .u8 (kd k).toNat, .func (.func (fS k)) #[] #[], .func (.func (fW k)) #[] #[]]) W := fun W => index_ms k hlt W
      have HM : Hid (mV k = [.int .u8 (kd k).toNat, .func (.func (fS k)) #[] #[], .func (.func (fW k)) #[] #[]]) := rfl
      have HK := Lib.hid (kd_known k hlt)
      obtain ⟨V1, hV1, HV1⟩ : ∃ V1, wr.alloc (.cells #[.int .u8 (kd k).toNat, .func (.func (fS k)) #[] #[], .func (.func (fW k)) #[] #[]] 161) = V1 ∧ Hid (Blk V1 wr.heap.size [.int .u8 (kd k).toNat, .func (.func (fS k)) #[] #[], .func (.func (fW k)) #[] #[]] 161 ∧ Below wr.heap.size wr V1) := ⟨_, rfl, blk_new _ _ _, (Below.refl _ _).alloc (Nat.le_refl _) _⟩
      have HS1 := Lib.hid (HR.out.callee HV1.out.2)
      have m0 : V1.cell? ⟨wr.heap.size, 0, none⟩ = some (.int .u8 (kd k).toNat) := Blk.at_ HV1.out.1 0
      have m1 : V1.cell? ⟨wr.heap.size, 1, none⟩ = some (.func (.func (fS k)) #[] #[]) := Blk.at_ HV1.out.1 1
      have m2 : V1.cell? ⟨wr.heap.size, 2, none⟩ = some (.func (.func (fW k)) #[] #[]) := Blk.at_ HV1.out.1 2
      have o0 : V1.cell? ⟨w.heap.size, 0, none⟩ = some (.int .u8 t.toNat) := HS1.out.1.c0
      have o1 : V1.cell? ⟨w.heap.size, 1, none⟩ = some (.string d) := HS1.out.1.c1
      generalize fS k = S at *
      generalize fW k = R at *
      by_cases ht : kd k = t
      · have ht2 : (((kd k).toNat : Int) == (t.toNat : Int)) = true := by rw [ht]; simp
        have HT := Lib.hid ht
        clear ht
        go_wp2_with fail
        refine (C1.out _).mono ?_
        rintro e w2 ⟨rfl, q, hw2⟩
        have hb2 : Below V1.heap.size V1 w2 := by rw [hw2]; exact (Below.refl _ _).drewN' q
        have HS2 := Lib.hid (HS1.out.callee hb2)
        have HM2 := Lib.hid (Blk.callee HV1.out.1 hb2)
        clear hw2 hb2 hV1 m0 m1 m2 o0 o1 HS1 HV1
        have m0 : w2.cell? ⟨wr.heap.size, 0, none⟩ = some (.int .u8 (kd k).toNat) := Blk.at_ HM2.out 0
        have m1 : w2.cell? ⟨wr.heap.size, 1, none⟩ = some (.func (.func S) #[] #[]) := Blk.at_ HM2.out 1
        have m2 : w2.cell? ⟨wr.heap.size, 2, none⟩ = some (.func (.func R) #[] #[]) := Blk.at_ HM2.out 2
        have r0 : w2.cell? ⟨w.heap.size + 1, 0, none⟩ = some (.int .u8 0) := Blk.at_ HS2.out.2.1 0
        have r1 : w2.cell? ⟨w.heap.size + 1, 1, none⟩ = some .nilFunc := Blk.at_ HS2.out.2.1 1
        have r2 : w2.cell? ⟨w.heap.size + 1, 2, none⟩ = some .nilFunc := Blk.at_ HS2.out.2.1 2
        have f0 : w2.frozen? ⟨w.heap.size + 1, 0, none⟩ = false := Blk.frozen HS2.out.2.1 0
        have f1 : w2.frozen? ⟨w.heap.size + 1, 1, none⟩ = false := Blk.frozen HS2.out.2.1 1
        have f2 : w2.frozen? ⟨w.heap.size + 1, 2, none⟩ = false := Blk.frozen HS2.out.2.1 2
        go_wp2
        have HR := three_set HS2.out.2.1 (.int .u8 (kd k).toNat) (.func (.func S) #[] #[]) (.func (.func R) #[] #[])
        have HBe := three_below (g := w.heap.size + 1) HS2.out.2.2.2 (Nat.le_succ _) (.int .u8 (kd k).toNat) (.func (.func S) #[] #[]) (.func (.func R) #[] #[])
        (try simp only [Exit.inBlock, Exit.then])
        refine bodyPost_ret (results_row2 rfl _ _ (w.heap.size + 1) _ _ _ rfl HR Tryz.underlying161 rfl (by kernel_rfl)) rfl ?_
        have hgd : good (t, d) = (E == 0) := by
          have hk := HK.out
          rw [HT.out] at hk
          rw [HGG.out.1, hk]
          rfl
        refine ⟨[.int .u8 (kd k).toNat, .func (.func S) #[] #[], .func (.func R) #[] #[]], A, ?_, .inl ⟨k, hlt, HT.out, HM.out.symm, fun hg => HGG.out.2 (good_size hg)⟩, HBe⟩
        rw [hgd]
        rfl
      · have ht2 : (((kd k).toNat : Int) == (t.toNat : Int)) = false := by rw [beq_eq_false_iff_ne]; intro e; exact ht (UInt8.toNat_inj.1 (by omega))
        have HT := Lib.hid ht
        clear ht
        have HS3 : Hid (Rnd w V1 (t, d) (k + 1)) := ⟨HS1.out.1, HS1.out.2.1, fun j hj => by
          rcases Nat.lt_succ_iff_lt_or_eq.1 hj with h | rfl
          · exact HS1.out.2.2.1 j h
          · exact HT.out, HS1.out.2.2.2⟩
        go_wp2
        go_roundw
        case rel => exact ⟨k + 1, by omega, by go_num, HS3⟩
        case measure => simp [intOf]; omega
    · have hl1 : ¬ (k : Int) < 3 := by omega
      have HN : Hid (good (t, d) = false) := by
        show _ = _
        rw [Bool.eq_false_iff]
        intro h
        obtain ⟨j, hj, e⟩ := known_kd (good_known h)
        exact HR.out.2.2.1 j (by omega) e
      have r0 : wr.cell? ⟨w.heap.size + 1, 0, none⟩ = some (.int .u8 0) := Blk.at_ HR.out.2.1 0
      have r1 : wr.cell? ⟨w.heap.size + 1, 1, none⟩ = some .nilFunc := Blk.at_ HR.out.2.1 1
      have r2 : wr.cell? ⟨w.heap.size + 1, 2, none⟩ = some .nilFunc := Blk.at_ HR.out.2.1 2
      have f0 : wr.frozen? ⟨w.heap.size + 1, 0, none⟩ = false := Blk.frozen HR.out.2.1 0
      have f1 : wr.frozen? ⟨w.heap.size + 1, 1, none⟩ = false := Blk.frozen HR.out.2.1 1
      have f2 : wr.frozen? ⟨w.heap.size + 1, 2, none⟩ = false := Blk.frozen HR.out.2.1 2
      go_wp2
      have HR2 := three_set HR.out.2.1 (.int .u8 0) .nilFunc .nilFunc
      have HBe := three_below (g := w.heap.size + 1) HR.out.2.2.2 (Nat.le_succ _) (.int .u8 0) .nilFunc .nilFunc
      (try simp only [Exit.inBlock, Exit.then])
      refine bodyPost_ret (results_row2 rfl _ _ (w.heap.size + 1) _ _ _ rfl HR2 Tryz.underlying161 rfl (by kernel_rfl)) rfl ?_
      refine ⟨mZ, 0, ?_, .inr ⟨rfl, HN.out⟩, HBe⟩
      rw [HN.out]
      rfl
set_option maxHeartbeats 1000000 in
set_option maxRecDepth 100000 in
theorem good_any (t : UInt8) (d : ByteArray) (w : World) (hd : d.size ≤ maxLen) : Calls Tryz.prog 254 #[.agg #[.int .u8 t.toNat, .string d]] w fun e w' => e = .returned (.bool (good (t, d))) ∧ Below w.heap.size w w' := by
  have C := Lib.hid (fun W => read_opt t d W hd)
  obtain ⟨W, hW, HW⟩ : ∃ W, w.alloc (.cells #[.int .u8 t.toNat, .string d] 110) = W ∧ Hid (At W w.heap.size (t, d) ∧ Below w.heap.size w W) := ⟨_, rfl, at_new w t d, (Below.refl _ _).alloc (Nat.le_refl _) _⟩
  have o0 : W.cell? ⟨w.heap.size, 0, none⟩ = some (.int .u8 t.toNat) := HW.out.1.c0
  have o1 : W.cell? ⟨w.heap.size, 1, none⟩ = some (.string d) := HW.out.1.c1
  go_enter Tryz.func254, Tryz.ntmps254
  go_wp2_with fail
  refine (C.out _).mono ?_
  rintro e w1 ⟨M, A, rfl, hM, hb1⟩
  have HB := Lib.hid (HW.out.2.trans (hb1.mono HW.out.2.size))
  clear hb1 C hW HW o0 o1
  rcases hM with ⟨k, hk, -, rfl, -⟩ | ⟨rfl, -⟩
  · unfold mV
    generalize fS k = S at *
    generalize fW k = R at *
    have HB2 := Lib.hid (HB.out.alloc HB.out.size (.cells #[.int .u8 (kd k).toNat, .func (.func S) #[] #[], .func (.func R) #[] #[]] 161))
    go_wp2
    go_ret
    exact ⟨rfl, HB2.out⟩
  · unfold mZ
    have HB2 := Lib.hid (HB.out.alloc HB.out.size (.cells #[.int .u8 0, .nilFunc, .nilFunc] 161))
    go_wp2
    go_ret
    exact ⟨rfl, HB2.out⟩
end Go.Proofs.YtikcgcgbcolndaaGreat.Ipc
