/- Put together: IpcB, IpcC. -/
import Derived.Test.YthoangihndplkaaGIpcA
import Derived.OwnWalk
import Derived.Maps.AppendAt

/- Contracts of ipcpopt's read and Good. -/
namespace Go.Proofs.Ythoangihndplkaa.Ipc
open Go.RowKit Go.Proofs.Ythoangihndplkaa.Oct Go.Proofs.Ythoangihndplkaa.Row Go.Proofs.Ythoangihndplkaa.Mem Go.Proofs.Ythoangihndplkaa.Opt

/-- What stands while the three are gone over. -/
def Rnd (w wr : World) (o : Opt) (k : Nat) : Prop := At wr w.heap.size o ∧ Blk wr (w.heap.size + 1) [.int .u8 0, .nilFunc, .nilFunc] 90 ∧ (∀ j, j < k → kd j ≠ o.1) ∧ Below w.heap.size w wr
theorem Rnd.callee {w wr W' : World} {o : Opt} {k : Nat} (h : Rnd w wr o k) (hb : Below wr.heap.size wr W') : Rnd w W' o k := ⟨h.1.callee hb, Blk.callee h.2.1 hb, h.2.2.1, h.2.2.2.trans (hb.mono h.2.2.2.size)⟩
/-- None of the three: no meaning. -/
def mZ : List Value := [.int .u8 0, .nilFunc, .nilFunc]
/-- What read answers. -/
def ReadQ (o : Opt) (w : World) (e : Ending) (w' : World) : Prop :=
  ∃ (M : List Value) (A : Nat), e = .returned (.tuple #[.agg M.toArray, .int .u32 A, .bool (good o)]) ∧ ((∃ k, k < 3 ∧ kd k = o.1 ∧ M = mV k ∧ (good o = true → A = val o.2.toList)) ∨ (M = mZ ∧ good o = false)) ∧ Below w.heap.size w w'
theorem kd_known (k : Nat) (hk : k < 3) : known (kd k) = true := by
  rcases (show k = 0 ∨ k = 1 ∨ k = 2 by omega) with rfl | rfl | rfl <;> rfl
theorem known_kd {t : UInt8} (h : known t = true) : ∃ k, k < 3 ∧ kd k = t := by
  rcases known_cases h with rfl | rfl | rfl
  · exact ⟨0, by omega, rfl⟩
  · exact ⟨1, by omega, rfl⟩
  · exact ⟨2, by omega, rfl⟩
theorem three_set {W : World} {g : Nat} {a b c : Value} {t : TypeId} (h : Blk W g [a, b, c] t) (x y z : Value) : Blk (((W.setCell ⟨g, 0, none⟩ x).setCell ⟨g, 1, none⟩ y).setCell ⟨g, 2, none⟩ z) g [x, y, z] t := ((Blk.set h 0 x).set 1 y).set 2 z
theorem three_below {w W : World} {g n : Nat} (h : Below n w W) (hg : n ≤ g) (x y z : Value) : Below n w (((W.setCell ⟨g, 0, none⟩ x).setCell ⟨g, 1, none⟩ y).setCell ⟨g, 2, none⟩ z) := ((h.setCell (p := ⟨g, 0, none⟩) hg x).setCell (p := ⟨g, 1, none⟩) hg y).setCell (p := ⟨g, 2, none⟩) hg z
set_option maxHeartbeats 4000000 in
set_option maxRecDepth 100000 in
theorem read_opt (t : UInt8) (d : ByteArray) (w : World) (hd : d.size ≤ maxLen) : Calls Try.prog 48 #[.agg #[.int .u8 t.toNat, .string d]] w (ReadQ (t, d) w) := by
  have HC := Lib.hid meanings_any
  obtain ⟨W, hW, HW⟩ : ∃ W, (w.alloc (.cells #[.int .u8 t.toNat, .string d] 48)).alloc (.cells #[.int .u8 0, .nilFunc, .nilFunc] 90) = W ∧ Hid (Rnd w W (t, d) 0) := by
    refine ⟨_, rfl, (at_new w t d).alloc _, ?_, fun j h => by omega, ((Below.refl w.heap.size w).alloc (Nat.le_refl _) _).alloc (by simp) _⟩
    have := blk_new (w.alloc (.cells #[.int .u8 t.toNat, .string d] 48)) [.int .u8 0, .nilFunc, .nilFunc] 90
    rw [show (w.alloc (.cells #[.int .u8 t.toNat, .string d] 48)).heap.size = w.heap.size + 1 by simp] at this
    exact this
  have C1 : Hid (∀ W, Calls Try.prog 70 #[.string d] W fun e w' => e = .returned (.tuple #[.int .u32 (getN 4 d), .int .i64 (getE 4 d)]) ∧ ∃ k, w' = W.drewN k) := fun W => get32_any d W hd
  have HGG : Hid (good (t, d) = (known t && (getE 4 d == 0)) ∧ (d.size = 4 → getN 4 d = val d.toList)) := by
    refine ⟨?_, fun h => by unfold getN; rw [if_neg (by omega), if_neg (by omega)]⟩
    unfold good
    congr 1
    unfold getE
    by_cases h1 : d.size < 4
    · rw [if_pos h1]; simp; omega
    · rw [if_neg h1]
      by_cases h2 : 4 < d.size
      · rw [if_pos h2]; simp; omega
      · rw [if_neg h2]; simp; omega
  generalize getE 4 d = E at *
  generalize getN 4 d = A at *
  go_enter Try.func48, Try.ntmps48
  go_wp2_with fail
  refine (HC.out _).mono ?_
  rintro e w1 ⟨rfl, hb1⟩
  have HR1 := Lib.hid (HW.out.callee hb1)
  clear hb1 hW HW HC
  go_wp2
  go_loopw [10] (fun i wr => ∃ k : Nat, k ≤ 3 ∧ i = .int .i64 k ∧ Hid (Rnd w wr (t, d) k)) (fun i _ => 3 - (intOf i).toNat)
  case atStart => exact ⟨0, Nat.zero_le _, rfl, HR1⟩
  case round =>
    obtain ⟨k, hk, rfl, HR⟩ := hrel
    by_cases hlt : k < 3
    · have hl1 : (k : Int) < 3 := by omega
      have hix : ∀ W, (Instr.index 107 msV (.int .i64 (k : Nat))).run Try.prog W = .ok (.agg #[.int .u8 (kd k).toNat, .func (.func (fS k)) #[] #[], .func (.func (fW k)) #[] #[]]) W := fun W => index_ms k hlt W
      have HM : Hid (mV k = [.int .u8 (kd k).toNat, .func (.func (fS k)) #[] #[], .func (.func (fW k)) #[] #[]]) := rfl
      have HK := Lib.hid (kd_known k hlt)
      obtain ⟨V1, hV1, HV1⟩ : ∃ V1, wr.alloc (.cells #[.int .u8 (kd k).toNat, .func (.func (fS k)) #[] #[], .func (.func (fW k)) #[] #[]] 90) = V1 ∧ Hid (Blk V1 wr.heap.size [.int .u8 (kd k).toNat, .func (.func (fS k)) #[] #[], .func (.func (fW k)) #[] #[]] 90 ∧ Below wr.heap.size wr V1) := ⟨_, rfl, blk_new _ _ _, (Below.refl _ _).alloc (Nat.le_refl _) _⟩
      have HS1 := Lib.hid (HR.out.callee HV1.out.2)
      have m0 : V1.cell? ⟨wr.heap.size, 0, none⟩ = some (.int .u8 (kd k).toNat) := Blk.at_ HV1.out.1 0
      have m1 : V1.cell? ⟨wr.heap.size, 1, none⟩ = some (.func (.func (fS k)) #[] #[]) := Blk.at_ HV1.out.1 1
      have m2 : V1.cell? ⟨wr.heap.size, 2, none⟩ = some (.func (.func (fW k)) #[] #[]) := Blk.at_ HV1.out.1 2
      have o0 : V1.cell? ⟨w.heap.size, 0, none⟩ = some (.int .u8 t.toNat) := HS1.out.1.c0
      have o1 : V1.cell? ⟨w.heap.size, 1, none⟩ = some (.string d) := HS1.out.1.c1
      generalize fS k = S at *
      generalize fW k = R at *
      by_cases ht : kd k = t
      · have ht2 : (((kd k).toNat : Int) == (t.toNat : Int)) = true := by rw [ht]; simp
        have HT := Lib.hid ht
        clear ht
        go_wp2_with fail
        refine (C1.out _).mono ?_
        rintro e w2 ⟨rfl, q, hw2⟩
        have hb2 : Below V1.heap.size V1 w2 := by rw [hw2]; exact (Below.refl _ _).drewN' q
        have HS2 := Lib.hid (HS1.out.callee hb2)
        have HM2 := Lib.hid (Blk.callee HV1.out.1 hb2)
        clear hw2 hb2 hV1 m0 m1 m2 o0 o1 HS1 HV1
        have m0 : w2.cell? ⟨wr.heap.size, 0, none⟩ = some (.int .u8 (kd k).toNat) := Blk.at_ HM2.out 0
        have m1 : w2.cell? ⟨wr.heap.size, 1, none⟩ = some (.func (.func S) #[] #[]) := Blk.at_ HM2.out 1
        have m2 : w2.cell? ⟨wr.heap.size, 2, none⟩ = some (.func (.func R) #[] #[]) := Blk.at_ HM2.out 2
        have r0 : w2.cell? ⟨w.heap.size + 1, 0, none⟩ = some (.int .u8 0) := Blk.at_ HS2.out.2.1 0
        have r1 : w2.cell? ⟨w.heap.size + 1, 1, none⟩ = some .nilFunc := Blk.at_ HS2.out.2.1 1
        have r2 : w2.cell? ⟨w.heap.size + 1, 2, none⟩ = some .nilFunc := Blk.at_ HS2.out.2.1 2
        have f0 : w2.frozen? ⟨w.heap.size + 1, 0, none⟩ = false := Blk.frozen HS2.out.2.1 0
        have f1 : w2.frozen? ⟨w.heap.size + 1, 1, none⟩ = false := Blk.frozen HS2.out.2.1 1
        have f2 : w2.frozen? ⟨w.heap.size + 1, 2, none⟩ = false := Blk.frozen HS2.out.2.1 2
        go_wp2
        have HR := three_set HS2.out.2.1 (.int .u8 (kd k).toNat) (.func (.func S) #[] #[]) (.func (.func R) #[] #[])
        have HBe := three_below (g := w.heap.size + 1) HS2.out.2.2.2 (Nat.le_succ _) (.int .u8 (kd k).toNat) (.func (.func S) #[] #[]) (.func (.func R) #[] #[])
        (try simp only [Exit.inBlock, Exit.then])
        refine bodyPost_ret (results_row2 rfl _ _ (w.heap.size + 1) _ _ _ rfl HR Try.underlying90 rfl (by kernel_rfl)) rfl ?_
        have hgd : good (t, d) = (E == 0) := by
          have hk := HK.out
          rw [HT.out] at hk
          rw [HGG.out.1, hk]
          rfl
        refine ⟨[.int .u8 (kd k).toNat, .func (.func S) #[] #[], .func (.func R) #[] #[]], A, ?_, .inl ⟨k, hlt, HT.out, HM.out.symm, fun hg => HGG.out.2 (good_size hg)⟩, HBe⟩
        rw [hgd]
        rfl
      · have ht2 : (((kd k).toNat : Int) == (t.toNat : Int)) = false := by rw [beq_eq_false_iff_ne]; intro e; exact ht (UInt8.toNat_inj.1 (by omega))
        have HT := Lib.hid ht
        clear ht
        have HS3 : Hid (Rnd w V1 (t, d) (k + 1)) := ⟨HS1.out.1, HS1.out.2.1, fun j hj => by
          rcases Nat.lt_succ_iff_lt_or_eq.1 hj with h | rfl
          · exact HS1.out.2.2.1 j h
          · exact HT.out, HS1.out.2.2.2⟩
        go_wp2
        go_roundw
        case rel => exact ⟨k + 1, by omega, by go_num, HS3⟩
        case measure => simp [intOf]; omega
    · have hl1 : ¬ (k : Int) < 3 := by omega
      have HN : Hid (good (t, d) = false) := by
        show _ = _
        rw [Bool.eq_false_iff]
        intro h
        obtain ⟨j, hj, e⟩ := known_kd (good_known h)
        exact HR.out.2.2.1 j (by omega) e
      have r0 : wr.cell? ⟨w.heap.size + 1, 0, none⟩ = some (.int .u8 0) := Blk.at_ HR.out.2.1 0
      have r1 : wr.cell? ⟨w.heap.size + 1, 1, none⟩ = some .nilFunc := Blk.at_ HR.out.2.1 1
      have r2 : wr.cell? ⟨w.heap.size + 1, 2, none⟩ = some .nilFunc := Blk.at_ HR.out.2.1 2
      have f0 : wr.frozen? ⟨w.heap.size + 1, 0, none⟩ = false := Blk.frozen HR.out.2.1 0
      have f1 : wr.frozen? ⟨w.heap.size + 1, 1, none⟩ = false := Blk.frozen HR.out.2.1 1
      have f2 : wr.frozen? ⟨w.heap.size + 1, 2, none⟩ = false := Blk.frozen HR.out.2.1 2
      go_wp2
      have HR2 := three_set HR.out.2.1 (.int .u8 0) .nilFunc .nilFunc
      have HBe := three_below (g := w.heap.size + 1) HR.out.2.2.2 (Nat.le_succ _) (.int .u8 0) .nilFunc .nilFunc
      (try simp only [Exit.inBlock, Exit.then])
      refine bodyPost_ret (results_row2 rfl _ _ (w.heap.size + 1) _ _ _ rfl HR2 Try.underlying90 rfl (by kernel_rfl)) rfl ?_
      refine ⟨mZ, 0, ?_, .inr ⟨rfl, HN.out⟩, HBe⟩
      rw [HN.out]
      rfl
set_option maxHeartbeats 1000000 in
set_option maxRecDepth 100000 in
theorem good_any (t : UInt8) (d : ByteArray) (w : World) (hd : d.size ≤ maxLen) : Calls Try.prog 66 #[.agg #[.int .u8 t.toNat, .string d]] w fun e w' => e = .returned (.bool (good (t, d))) ∧ Below w.heap.size w w' := by
  have C := Lib.hid (fun W => read_opt t d W hd)
  obtain ⟨W, hW, HW⟩ : ∃ W, w.alloc (.cells #[.int .u8 t.toNat, .string d] 48) = W ∧ Hid (At W w.heap.size (t, d) ∧ Below w.heap.size w W) := ⟨_, rfl, at_new w t d, (Below.refl _ _).alloc (Nat.le_refl _) _⟩
  have o0 : W.cell? ⟨w.heap.size, 0, none⟩ = some (.int .u8 t.toNat) := HW.out.1.c0
  have o1 : W.cell? ⟨w.heap.size, 1, none⟩ = some (.string d) := HW.out.1.c1
  go_enter Try.func66, Try.ntmps66
  go_wp2_with fail
  refine (C.out _).mono ?_
  rintro e w1 ⟨M, A, rfl, hM, hb1⟩
  have HB := Lib.hid (HW.out.2.trans (hb1.mono HW.out.2.size))
  clear hb1 C hW HW o0 o1
  rcases hM with ⟨k, hk, -, rfl, -⟩ | ⟨rfl, -⟩
  · unfold mV
    generalize fS k = S at *
    generalize fW k = R at *
    have HB2 := Lib.hid (HB.out.alloc HB.out.size (.cells #[.int .u8 (kd k).toNat, .func (.func S) #[] #[], .func (.func R) #[] #[]] 90))
    go_wp2
    go_ret
    exact ⟨rfl, HB2.out⟩
  · unfold mZ
    have HB2 := Lib.hid (HB.out.alloc HB.out.size (.cells #[.int .u8 0, .nilFunc, .nilFunc] 90))
    go_wp2
    go_ret
    exact ⟨rfl, HB2.out⟩
end Go.Proofs.Ythoangihndplkaa.Ipc

/- Contract of ipcpopt's Put. -/
namespace Go.Proofs.Ythoangihndplkaa.Ipc
open Go.RowKit Go.Proofs.Ythoangihndplkaa.Oct Go.Proofs.Ythoangihndplkaa.Row Go.Proofs.Ythoangihndplkaa.Mem Go.Proofs.Ythoangihndplkaa.Opt

/-- What the first k of the three are put as. -/
def gat (x : Ipc) (k : Nat) : List Opt := (six.take k).filterMap fun t => if has t x then some (t, dat t x) else none
theorem gat_three (x : Ipc) : gat x 3 = put x := rfl
theorem gat_next (x : Ipc) (k : Nat) (hk : k < 3) : gat x (k + 1) = gat x k ++ (if has (kd k) x then [(kd k, dat (kd k) x)] else []) := by
  have h : six.take (k + 1) = six.take k ++ [kd k] := by
    rcases (show k = 0 ∨ k = 1 ∨ k = 2 by omega) with rfl | rfl | rfl <;> rfl
  unfold gat
  rw [h, List.filterMap_append]
  congr 1
  rw [List.filterMap_cons]
  cases has (kd k) x <;> simp
theorem gat_yes {x : Ipc} {k : Nat} (hk : k < 3) (h : has (kd k) x = true) : gat x (k + 1) = gat x k ++ [(kd k, dat (kd k) x)] := by rw [gat_next x k hk, h]; rfl
theorem gat_no {x : Ipc} {k : Nat} (hk : k < 3) (h : has (kd k) x = false) : gat x (k + 1) = gat x k := by rw [gat_next x k hk, h]; exact List.append_nil _
theorem gat_size (x : Ipc) (k : Nat) : ∀ o ∈ gat x k, o.2.size ≤ 140737488351232 := by
  intro o ho
  obtain ⟨t, _, h⟩ := List.mem_filterMap.1 ho
  split at h
  · cases h
    show (bOf (numS _ 4)).size ≤ _
    rw [size_bOf, numS_length]
    omega
  · cases h
theorem gat_len (x : Ipc) (k : Nat) : (gat x k).length ≤ k := Nat.le_trans (List.length_filterMap_le _ _) (by rw [List.length_take]; exact Nat.min_le_left _ _)
/-- What Put answers. -/
def pL (x : Ipc) : List Opt := if may x then put x else []
def pE (x : Ipc) : Nat := if may x then 0 else 2
theorem pL_yes {x : Ipc} (h : may x = true) : pL x = put x ∧ pE x = 0 := by unfold pL pE; rw [h]; exact ⟨rfl, rfl⟩
theorem pL_no {x : Ipc} (h : may x = false) : pL x = [] ∧ pE x = 2 := by unfold pL pE; rw [h]; exact ⟨rfl, rfl⟩
theorem may_kd {x : Ipc} : may x = true ↔ ∀ k, k < 3 → has (kd k) x = false → adr (kd k) x = 0 := by
  rw [may_iff]
  constructor
  · rintro ⟨h1, h2, h3⟩ k hk
    rcases (show k = 0 ∨ k = 1 ∨ k = 2 by omega) with rfl | rfl | rfl
    · exact h1
    · exact h2
    · exact h3
  · intro h
    exact ⟨h 0 (by omega), h 1 (by omega), h 2 (by omega)⟩
def PutQ (x : Ipc) (w : World) (e : Ending) (w' : World) : Prop := ∃ A c, e = .returned (.tuple #[.slice A (pL x).length c, .int .i64 (pE x)]) ∧ (A = none → c = 0) ∧ Opts w' w'.heap.size A (pL x).length (pL x) ∧ Below w.heap.size w w'
/-- .. with the row's room. -/
def PutR (x : Ipc) (w : World) (e : Ending) (w' : World) : Prop := ∃ A c, e = .returned (.tuple #[.slice A (pL x).length c, .int .i64 (pE x)]) ∧ (A = none → c = 0) ∧ Opts w' w'.heap.size A (pL x).length (pL x) ∧ Below w.heap.size w w' ∧ (pL x).length ≤ c
/-- What stands ahead of the k-th. -/
def Pts (w wr : World) (x : Ipc) (k n : Nat) (A : Option Addr) (c : Nat) : Prop := LAt wr w.heap.size x ∧ wr.ownsRow (w.heap.size + 1) 48 2 (.slice A n c) n (optsV (gat x k)) ∧ n = (gat x k).length ∧ (∀ j, j < k → has (kd j) x = false → adr (kd j) x = 0) ∧ Below w.heap.size w wr
theorem Pts.callee {w wr W' : World} {x : Ipc} {k n : Nat} {A : Option Addr} {c : Nat} (h : Pts w wr x k n A c) (hb : Below wr.heap.size wr W') : Pts w W' x k n A c :=
  ⟨h.1.callee hb, (Moves.of_below (S := fun _ => False) hb).row h.2.1 (fun _ _ x => x), h.2.2.1, h.2.2.2.1, h.2.2.2.2.trans (hb.mono h.2.2.2.2.size)⟩
theorem Pts.skip {w wr : World} {x : Ipc} {k n : Nat} {A : Option Addr} {c : Nat} (h : Pts w wr x k n A c) (hk : k < 3) (hh : has (kd k) x = false) (ha : adr (kd k) x = 0) : Pts w wr x (k + 1) n A c := by
  obtain ⟨h1, h2, h3, h4, h5⟩ := h
  refine ⟨h1, by rw [gat_no hk hh]; exact h2, by rw [gat_no hk hh]; exact h3, fun j hj hf => ?_, h5⟩
  rcases Nat.lt_succ_iff_lt_or_eq.1 hj with hj | rfl
  · exact h4 j hj hf
  · exact ha
theorem own_nil {w : World} {base n c : Nat} {e : TypeId} {A : Option Addr} {xs : List Value} (h : w.ownsRow base e 2 (.slice A n c) n xs) : A = none → c = 0 := by
  rintro rfl
  rcases h.2 with ⟨e', _⟩ | ⟨g, cap, cur, e', _⟩
  · cases e'; rfl
  · cases e'
set_option maxHeartbeats 4000000 in
set_option maxRecDepth 100000 in
theorem own_room {w : World} {base n c : Nat} {e : TypeId} {A : Option Addr} {xs : List Value} (h : w.ownsRow base e 2 (.slice A n c) n xs) : n ≤ c := by
  rcases h.2 with ⟨_, h2⟩ | ⟨g, cap, cur, e', _, _, h2, _⟩
  · rw [h2]; exact Nat.zero_le _
  · rw [(Value.slice.inj e').2.2]; exact h2
set_option maxHeartbeats 4000000 in
set_option maxRecDepth 100000 in
theorem put_room (x : Ipc) (w : World) : Calls Try.prog 49 #[.agg (lv x).toArray] w (PutR x w) := by
  show Calls Try.prog 49 #[.agg #[Value.bool x.ha, .int .u32 x.addr.toNat, .bool x.h1, .int .u32 x.dns1.toNat, .bool x.h2, .int .u32 x.dns2.toNat]] w (PutR x w)
  obtain ⟨i0, hi, hz0, hz1, hz2⟩ := info_parts Try.info48
  have HC := Lib.hid meanings_any
  obtain ⟨W, hW, HW⟩ := boxL w x
  have HP : Hid (Pts w W x 0 0 none 0) := ⟨HW.out.1, World.ownsRow_nil _ _ _ _, rfl, fun j h => by omega, HW.out.2.1⟩
  clear HW
  go_enter Try.func49, Try.ntmps49
  go_wp2_with fail
  refine (HC.out _).mono ?_
  rintro e w1 ⟨rfl, hb1⟩
  have HP1 := Lib.hid (HP.out.callee hb1)
  clear hb1 hW HP HC
  go_wp2
  go_loopw [4, 10] (fun v i wr => ∃ (k n : Nat) (A : Option Addr) (c : Nat), k ≤ 3 ∧ n ≤ 3 ∧ i = .int .i64 k ∧ v = .slice A n c ∧ Hid (Pts w wr x k n A c)) (fun _ i _ => 3 - (intOf i).toNat)
  case atStart => exact ⟨0, 0, none, 0, Nat.zero_le _, Nat.zero_le _, rfl, rfl, HP1⟩
  case round =>
    obtain ⟨k, n, A, c, hk, hn3, rfl, rfl, HR⟩ := hrel
    by_cases hlt : k < 3
    · have hl1 : (k : Int) < 3 := by omega
      have hix : ∀ W, (Instr.index 107 msV (.int .i64 (k : Nat))).run Try.prog W = .ok (.agg #[.int .u8 (kd k).toNat, .func (.func (fS k)) #[] #[], .func (.func (fW k)) #[] #[]]) W := fun W => index_ms k hlt W
      have C1 : Hid (∀ W, Calls Try.prog (fS k) #[.agg #[Value.bool x.ha, .int .u32 x.addr.toNat, .bool x.h1, .int .u32 x.dns1.toNat, .bool x.h2, .int .u32 x.dns2.toNat]] W (SaidQ (kd k) x W)) := fun W => said_any k hlt x W
      have hen := said_enters k hlt
      have C2 : Hid (∀ W, Calls Try.prog 71 #[.int .u32 (adr (kd k) x).toNat] W fun e w' => e = .returned (.string (dat (kd k) x)) ∧ Below W.heap.size W w') := fun W => put32_any _ W (by have := (adr (kd k) x).toNat_lt; omega)
      obtain ⟨V1, hV1, HV1⟩ : ∃ V1, wr.alloc (.cells #[.int .u8 (kd k).toNat, .func (.func (fS k)) #[] #[], .func (.func (fW k)) #[] #[]] 90) = V1 ∧ Hid (Blk V1 wr.heap.size [.int .u8 (kd k).toNat, .func (.func (fS k)) #[] #[], .func (.func (fW k)) #[] #[]] 90 ∧ Below wr.heap.size wr V1) := ⟨_, rfl, blk_new _ _ _, (Below.refl _ _).alloc (Nat.le_refl _) _⟩
      have HS1 := Lib.hid (HR.out.callee HV1.out.2)
      have m0 : V1.cell? ⟨wr.heap.size, 0, none⟩ = some (.int .u8 (kd k).toNat) := Blk.at_ HV1.out.1 0
      have m1 : V1.cell? ⟨wr.heap.size, 1, none⟩ = some (.func (.func (fS k)) #[] #[]) := Blk.at_ HV1.out.1 1
      have x0 : V1.cell? ⟨w.heap.size, 0, none⟩ = some (Value.bool x.ha) := HS1.out.1.c 0
      have x1 : V1.cell? ⟨w.heap.size, 1, none⟩ = some (.int .u32 x.addr.toNat) := HS1.out.1.c 1
      have x2 : V1.cell? ⟨w.heap.size, 2, none⟩ = some (.bool x.h1) := HS1.out.1.c 2
      have x3 : V1.cell? ⟨w.heap.size, 3, none⟩ = some (.int .u32 x.dns1.toNat) := HS1.out.1.c 3
      have x4 : V1.cell? ⟨w.heap.size, 4, none⟩ = some (.bool x.h2) := HS1.out.1.c 4
      have x5 : V1.cell? ⟨w.heap.size, 5, none⟩ = some (.int .u32 x.dns2.toNat) := HS1.out.1.c 5
      unfold SaidQ at C1
      have HY : Hid (has (kd k) x = true → gat x (k + 1) = gat x k ++ [(kd k, dat (kd k) x)]) := gat_yes hlt
      have HZ : Hid (has (kd k) x = false → adr (kd k) x = 0 → ∀ W n A c, Pts w W x k n A c → Pts w W x (k + 1) n A c) := fun h1 h2 W n A c h => h.skip hlt h1 h2
      have HF : Hid (has (kd k) x = false → adr (kd k) x ≠ 0 → may x = false) := fun h1 h2 => by
        rw [Bool.eq_false_iff]
        intro h
        exact h2 (may_kd.1 h k hlt h1)
      have HD : Hid ((dat (kd k) x).size = 4) := by show (bOf _).size = 4; rw [size_bOf, numS_length]
      generalize fS k = S at *
      generalize fW k = R at *
      go_wp2_with fail
      refine (C1.out _).mono ?_
      rintro e w2 ⟨rfl, hb2⟩
      have HS2 := Lib.hid (HS1.out.callee hb2)
      have HM2 := Lib.hid (Blk.callee HV1.out.1 hb2)
      clear hb2 hV1 HV1 HS1 HR C1 hen hix m0 m1 x0 x1 x2 x3 x4 x5
      obtain ⟨b, Hb⟩ : ∃ b, Hid (b = has (kd k) x) := ⟨_, rfl⟩
      rw [← Hb.out] at HY HZ HF
      rw [← Hb.out]
      cases b
      · have HZ2 := Lib.hid (HZ.out rfl)
        have HF2 := Lib.hid (HF.out rfl)
        clear HY HZ HF C2 HD HM2
        by_cases ha : adr (kd k) x = 0
        · have HS3 := Lib.hid (HZ2.out ha _ _ _ _ HS2.out)
          have ht : (((adr (kd k) x).toNat : Int) != 0) = false := by rw [ha]; rfl
          clear HZ2 HF2 ha
          generalize adr (kd k) x = a at *
          go_wp2
          go_roundw
          case rel => exact ⟨k + 1, n, A, c, by omega, hn3, by go_num, rfl, HS3⟩
          case measure => simp [intOf]; omega
        · have HM := Lib.hid (HF2.out ha)
          have ht : (((adr (kd k) x).toNat : Int) != 0) = true := by
            rw [bne_iff_ne]
            intro e
            exact ha (UInt32.toNat_inj.1 (by show _ = 0; omega))
          clear HZ2 HF2 ha
          generalize adr (kd k) x = a at *
          go_wp2
          go_ret2
          refine ⟨none, 0, ?_, fun _ => rfl, ?_, HS2.out.2.2.2.2, by rw [(pL_no HM.out).1]; exact Nat.le_refl _⟩
          · rw [(pL_no HM.out).1, (pL_no HM.out).2]; rfl
          · rw [(pL_no HM.out).1]; exact opts_nil _ _
      · have HY2 := Lib.hid (HY.out rfl)
        clear HZ HF HY
        have m0 : w2.cell? ⟨wr.heap.size, 0, none⟩ = some (.int .u8 (kd k).toNat) := Blk.at_ HM2.out 0
        generalize hs : dat (kd k) x = s at *
        clear hs
        generalize adr (kd k) x = a at *
        go_wp2
        have m0d : w2.drew.cell? ⟨wr.heap.size, 0, none⟩ = some (.int .u8 (kd k).toNat) := m0
        have HSd : Hid (Pts w w2.drew x k n A c) := HS2.out.callee (Below.refl _ w2).drew
        have HMd : Hid (Blk w2.drew wr.heap.size [.int .u8 (kd k).toNat, .func (.func S) #[] #[], .func (.func R) #[] #[]] 90) := HM2.out
        go_region_held3 (fun w' => w'.cell? ⟨wr.heap.size, 0, none⟩ = some (.int .u8 (kd k).toNat))
          (first | assumption)
          (first
            | (go_at_call 71; (refine (C2.out _).mono ?_; clear C2; rintro e w6 ⟨rfl, hb6⟩; have y1 := (hb6.cell (p := ⟨wr.heap.size, 0, none⟩) (World.block_lt_of_cell? _ _ m0d)).trans m0d; have HS6 := Lib.hid (HSd.out.callee hb6); have HO6 := Lib.hid HS6.out.2.1; have HM6 := Lib.hid (Blk.alloc (Blk.callee HMd.out hb6) (.cells #[.int .u8 (kd k).toNat, .string s] 48)); have HSz6 := HS6.out.2.2.2.2.size; have y2 : (w6.alloc (.cells #[.int .u8 (kd k).toNat, .string s] 48)).cell? ⟨wr.heap.size, 0, none⟩ = some (.int .u8 (kd k).toNat) := ((Below.refl _ w6).alloc (Nat.le_refl _) _ |>.cell (p := ⟨wr.heap.size, 0, none⟩) (World.block_lt_of_cell? _ _ y1)).trans y1))
            | (refine step_append_any (w6.alloc (.cells #[.int .u8 (kd k).toNat, .string s] 48)) (by rfl) _ _ _ (by rfl) (w.heap.size + 1) 48 i0 _ 2 24 Try.underlying29 hi hz0 hz1 hz2 rfl (by decide) (.slice A n c) n (optsV (gat x k)) (by rfl) (HO6.out.alloc _) ⟨w6.heap.size, 0, none⟩ 1 1 (optsV [(kd k, s)]) (by rfl) (by rfl) (by rw [optsV_one]; exact cells_new _ _ _) (optsV_ones _) (by unfold maxLen; omega) (by omega) (by simp; omega) ?_; intro v7 w7 hown7 hgr7 _; have HM7 : Blk w7 wr.heap.size [.int .u8 (kd k).toNat, .func (.func S) #[] #[], .func (.func R) #[] #[]] 90 := Blk.moves HM6.out (Moves.of_grown hgr7 (fun k e _ => e)) (fun e => cells_not_row HM6.out (by decide) (HO6.out.alloc _) e); have y3 : w7.cell? ⟨wr.heap.size, 0, none⟩ = some (.int .u8 (kd k).toNat) := Blk.at_ HM7 0; clear HM7)
            | fail)
        have HS7 : Hid (∃ A' c', v7 = .slice A' (n + 1) c' ∧ Pts w w7 x (k + 1) (n + 1) A' c') := by
          obtain ⟨g', cap', rfl⟩ := ownsRow_succ hown7
          have hx := HS6.out.callee ((Below.refl _ w6).alloc (Nat.le_refl _) (.cells #[.int .u8 (kd k).toNat, .string s] 48))
          refine ⟨_, cap', rfl, Blk.moves hx.1 (Moves.of_grown hgr7 (fun k e _ => e)) (fun e => cells_not_row hx.1 (by decide) hx.2.1 e), ?_, ?_, fun j hj hf => ?_, hx.2.2.2.2.grown hgr7 hx.2.2.2.2.size (fun q hq => by have := (hx.2.1.lt q hq).1; omega)⟩
          · rw [HY2.out, optsV_append]; exact hown7
          · rw [HY2.out, List.length_append, ← hx.2.2.1]; rfl
          · rcases Nat.lt_succ_iff_lt_or_eq.1 hj with hj | rfl
            · exact hx.2.2.2.1 j hj hf
            · rw [← Hb.out] at hf; cases hf
        have hn2 : n ≤ 2 := by
          have := gat_len x k
          rw [← HS2.out.2.2.1] at this
          omega
        clear hown7 hgr7 y1 y2 y3
        obtain ⟨A', c', rfl, hs7⟩ := HS7.out
        have HS8 := Lib.hid hs7
        clear HS7 hs7
        go_wp2
        go_roundw
        case rel => exact ⟨k + 1, n + 1, A', c', by omega, by omega, by go_num, rfl, HS8⟩
        case measure => simp [intOf]; omega
    · have hl1 : ¬ (k : Int) < 3 := by omega
      have HK : Hid (k = 3) := by show k = 3; omega
      go_wp2
      go_ret2
      obtain ⟨h1, h2, h3, h4, h5⟩ := HR.out
      have hm : may x = true := may_kd.2 fun j hj hf => h4 j (by omega) hf
      rw [HK.out, gat_three] at h2 h3
      refine ⟨A, c, ?_, own_nil h2, ?_, h5, by rw [(pL_yes hm).1, ← h3]; exact own_room h2⟩
      · rw [(pL_yes hm).1, (pL_yes hm).2, ← h3]; rfl
      · rw [(pL_yes hm).1, ← h3]
        obtain ⟨A', c', e', ho⟩ := opts_own h2 (fun o ho => gat_size x 3 o ho)
        cases e'
        exact ho
theorem put_any (x : Ipc) (w : World) : Calls Try.prog 49 #[.agg (lv x).toArray] w (PutQ x w) :=
  (put_room x w).mono fun _ _ ⟨A, c, h1, h2, h3, h4, _⟩ => ⟨A, c, h1, h2, h3, h4⟩
end Go.Proofs.Ythoangihndplkaa.Ipc
