/- Contracts of the document's Good, num and value. -/
import Derived.Test.YtbkcdpfelkbhaaaIpcC
import Derived.Laws.BitsAllLaws
namespace Go.Proofs.Ytbkcdpfelkbhaaa.Ipc
open Go.RowKit Go.Proofs.Ytbkcdpfelkbhaaa.Oct Go.Proofs.Ytbkcdpfelkbhaaa.Row Go.Proofs.Ytbkcdpfelkbhaaa.Mem Go.Proofs.Ytbkcdpfelkbhaaa.Opt

theorem u8_is {a : UInt8} {n : Nat} (h : a.toNat = n) : ((a.toNat : Int) == (n : Int)) = true := by rw [h]; simp
theorem u8_not {a : UInt8} {n : Nat} (h : ¬ a.toNat = n) : ((a.toNat : Int) == (n : Int)) = false := by rw [beq_eq_false_iff_ne]; omega
theorem u8_isnt {a : UInt8} {n : Nat} (hn : n < 256) (h : ¬ a = UInt8.ofNat n) : ¬ a.toNat = n := fun e => h (UInt8.toNat_inj.1 (by rw [UInt8.toNat_ofNat']; omega))
set_option maxHeartbeats 2000000 in
theorem rgood_w (t : UInt8) (d : ByteArray) (w : World) : Calls Try.prog 76 #[.agg #[.int .u8 t.toNat, .string d]] w fun e w' => e = .returned (.bool (good (t, d))) ∧ w' = w.alloc (.cells #[.int .u8 t.toNat, .string d] 48) := by
  obtain ⟨W, hW, HW⟩ : ∃ W, w.alloc (.cells #[.int .u8 t.toNat, .string d] 48) = W ∧ Hid (At W w.heap.size (t, d) ∧ W = w.alloc (.cells #[.int .u8 t.toNat, .string d] 48)) := ⟨_, rfl, at_new w t d, rfl⟩
  have HB := Lib.hid HW.out.2
  have c0 : W.cell? ⟨w.heap.size, 0, none⟩ = some (.int .u8 t.toNat) := HW.out.1.c0
  have c1 : W.cell? ⟨w.heap.size, 1, none⟩ = some (.string d) := HW.out.1.c1
  have HG : Hid (good (t, d) = (known t && ((d.size : Int) == 4))) := by
    show _ = _
    unfold good
    congr 1
    by_cases h : d.size = 4
    · rw [h]; rfl
    · have h2 : ((d.size : Int) == 4) = false := by rw [beq_eq_false_iff_ne]; omega
      rw [h2]
      exact decide_eq_false h
  clear HW
  cases hk : known t
  · have HK := Lib.hid hk
    have q3 : ((t.toNat : Int) == 3) = false := u8_not (n := 3) (u8_isnt (by omega) (fun e => by rw [e] at hk; cases hk))
    have q129 : ((t.toNat : Int) == 129) = false := u8_not (n := 129) (u8_isnt (by omega) (fun e => by rw [e] at hk; cases hk))
    have q131 : ((t.toNat : Int) == 131) = false := u8_not (n := 131) (u8_isnt (by omega) (fun e => by rw [e] at hk; cases hk))
    clear hk
    go_enter Try.func76, Try.ntmps76
    go_wp2
    go_ret
    exact ⟨by rw [HG.out, HK.out] <;> rfl, HB.out⟩
  · have HK := Lib.hid hk
    rcases known_cases hk with e | e | e
    · clear hk
      have q3 : ((t.toNat : Int) == 3) = true := u8_is (n := 3) (by rw [e]; rfl)
      have q129 : ((t.toNat : Int) == 129) = false := u8_not (n := 129) (by rw [e]; decide)
      have q131 : ((t.toNat : Int) == 131) = false := u8_not (n := 131) (by rw [e]; decide)
      clear e
      go_enter Try.func76, Try.ntmps76
      go_wp2
      go_ret
      exact ⟨by rw [HG.out, HK.out] <;> rfl, HB.out⟩
    · clear hk
      have q3 : ((t.toNat : Int) == 3) = false := u8_not (n := 3) (by rw [e]; decide)
      have q129 : ((t.toNat : Int) == 129) = true := u8_is (n := 129) (by rw [e]; rfl)
      have q131 : ((t.toNat : Int) == 131) = false := u8_not (n := 131) (by rw [e]; decide)
      clear e
      go_enter Try.func76, Try.ntmps76
      go_wp2
      go_ret
      exact ⟨by rw [HG.out, HK.out] <;> rfl, HB.out⟩
    · clear hk
      have q3 : ((t.toNat : Int) == 3) = false := u8_not (n := 3) (by rw [e]; decide)
      have q129 : ((t.toNat : Int) == 129) = false := u8_not (n := 129) (by rw [e]; decide)
      have q131 : ((t.toNat : Int) == 131) = true := u8_is (n := 131) (by rw [e]; rfl)
      clear e
      go_enter Try.func76, Try.ntmps76
      go_wp2
      go_ret
      exact ⟨by rw [HG.out, HK.out] <;> rfl, HB.out⟩
theorem rgood_any (t : UInt8) (d : ByteArray) (w : World) : Calls Try.prog 76 #[.agg #[.int .u8 t.toNat, .string d]] w fun e w' => e = .returned (.bool (good (t, d))) ∧ Below w.heap.size w w' :=
  (rgood_w t d w).mono fun _ _ ⟨he, hw⟩ => ⟨he, by rw [hw]; exact (Below.refl _ _).alloc (Nat.le_refl _) _⟩
theorem z32 (v : UInt32) : (v == 0) = ((v.toNat : Int) == 0) := by
  rw [Bool.eq_iff_iff, beq_iff_eq, beq_iff_eq]
  constructor
  · rintro rfl; rfl
  · intro h; exact UInt32.toNat_inj.1 (by show v.toNat = 0; omega)
set_option maxHeartbeats 400000 in
theorem rnum_any (v : Nat) (w : World) (h2 : v < 4294967296) :
    Calls Try.prog 69 #[.int .u32 v] w fun e w' => e = .returned (.string (bOf (numS v 4))) ∧ Below w.heap.size w w' := by
  have hv : bOf (numS v 4) = strOfNums [(v : Int) / 16777216, (v : Int) / 65536 % 256, (v : Int) / 256 % 256, (v : Int) % 256] := by
    rw [nums_bOf, numS_four]
    congr 1
    simp only [List.map_cons, List.map_nil]
    congr 1
    · congr 1; omega
  have H := Lib.hid hv; clear hv
  have hcv := conv_new (P := Try.prog) w 85 9 5 5 (by kernel_rfl) (by kernel_rfl) (by kernel_rfl) [(v : Int) / 16777216, (v : Int) / 65536 % 256, (v : Int) / 256 % 256, (v : Int) % 256] 4
  simp only [List.length_cons, List.length_nil, List.map_cons, List.map_nil] at hcv
  have h1 : (0 : Int) ≤ v := by omega
  have h3 : (v : Int) < 4294967296 := by omega
  rw [H.out]
  go_enter Try.func69, Try.ntmps69
  go_wp2
  go_ret
  exact ⟨rfl, (Below.refl _ _).alloc (Nat.le_refl _) _⟩
set_option maxHeartbeats 1000000 in
theorem rvalue_any (s : ByteArray) (w : World) (h : s.size = 4) : Calls Try.prog 78 #[.string s] w fun e w' => e = .returned (.int .u32 (val s.toList)) ∧ ∃ k, w' = w.drewN k := by
  have h0 : 0 < s.size := by omega
  have h1 : (1 : Int) < s.size := by omega
  have h2 : (2 : Int) < s.size := by omega
  have h3 : (3 : Int) < s.size := by omega
  have h5 : s.size < 5 := by omega
  have Hh := Lib.hid h; clear h
  go_enter Try.func78, Try.ntmps78
  go_wp2
  go_quiet (fail)
  go_wp2
  go_ret
  refine ⟨?_, nq, rfl⟩
  rw [or32, val_four s Hh.out]
  rfl
end Go.Proofs.Ytbkcdpfelkbhaaa.Ipc
