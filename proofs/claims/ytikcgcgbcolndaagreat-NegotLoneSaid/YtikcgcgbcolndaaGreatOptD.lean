/- Contract of the document's Put. -/
import Derived.Test.YtikcgcgbcolndaaGreatOptDp
import Derived.Deep.RegionHeld3
import Derived.BigRegion
namespace Go.Proofs.YtikcgcgbcolndaaGreat.Opt
open Go.RowKit Go.Proofs.YtikcgcgbcolndaaGreat.Oct Go.Proofs.YtikcgcgbcolndaaGreat.Row Go.Proofs.YtikcgcgbcolndaaGreat.Mem

/-- 'string([]byte{a, b})'. -/
theorem conv_two {P : Program} (w : World) (src dst e t : TypeId) (hs : P.underlying src = some (.slice e)) (he : P.underlying e = some (.int .u8)) (hd : P.underlying dst = some .string) (a b : UInt8) (g : Nat) (hg : g = w.heap.size) (n c : Nat) (hn : n = 2) :
    (convert src dst (.slice (some ⟨g, 0, none⟩) n c)).run P (w.alloc (.cells #[.int .u8 a.toNat, .int .u8 b.toNat] t)).drew = .ok (.string (bOf [a, b])) (w.alloc (.cells #[.int .u8 a.toNat, .int .u8 b.toNat] t)).drew := by
  subst hg hn
  exact conv_blk hs he hd (blk_new w (bytesV [a, b]) t).drew (by simp)
set_option maxHeartbeats 2000000 in
set_option maxRecDepth 100000 in
theorem rput_any (l : List Opt) (B : Nat) (A : Option Addr) (n c : Nat) (w : World) (hl : Opts w B A n l) (hn : n ≤ maxLen) (hBw : B ≤ w.heap.size) :
    Calls Tryz.prog 28 #[.slice A n c] w fun e w' => e = .returned (.tuple #[.string (bOf (pA l)), .int .i64 (pE l)]) ∧ Below w.heap.size w w' := by
  have Hn := Lib.hid hl.1
  have Hl := Lib.hid hl; clear hl
  have HB0 := Lib.hid (Below.refl w.heap.size w)
  unfold maxLen at hn
  by_cases h64 : 64 < n
  · have HF := Lib.hid (put_full (l := l) (by rw [Hn.out]; exact h64))
    have hx : (64 : Int) < n := by omega
    go_enter Tryz.func28, Tryz.ntmps28
    go_wp2
    go_ret2
    rw [HF.out.1, HF.out.2]
    exact ⟨rfl, HB0.out⟩
  · have hx : ¬ (64 : Int) < n := by omega
    go_enter Tryz.func28, Tryz.ntmps28
    go_wp2
    go_loopw [4, 5] (fun v i wr => ∃ (k : Nat) (s : ByteArray), k ≤ n ∧ i = .int .i64 k ∧ v = .string s ∧ s.size ≤ 255 * k ∧ Hid (big (l.take k) = false ∧ s = bOf (enc (l.take k)) ∧ s.size = wt (l.take k)) ∧ Below w.heap.size w wr)
      (fun _ i _ => n - (intOf i).toNat)
    case atStart => exact ⟨0, ⟨#[]⟩, Nat.zero_le _, rfl, rfl, by decide, ⟨rfl, rfl, rfl⟩, Below.refl _ _⟩
    case round =>
      obtain ⟨k, s, hk, rfl, rfl, hsz, HS, hb⟩ := hrel
      have hsz0 := hb.size
      by_cases hlt : k < n
      · obtain ⟨ad, o, rfl, hB, ho, hS1, hc0, hc1⟩ := (Hl.out.below (hb.mono hBw)).at_ hlt
        have hst := put_step ho HS.out.1
        by_cases h253 : 253 < o.2.size
        · have HF := Lib.hid (put_big (l := l) (by rw [Hn.out]; omega) (hst.1 h253))
          have hx2 : (253 : Int) < (o.2.size : Int) := by omega
          clear hst ho
          go_wp2
          go_ret2
          rw [HF.out.1, HF.out.2]
          exact ⟨rfl, hb⟩
        · have HT := Lib.hid (hst.2 (by omega))
          have hx2 : ¬ (253 : Int) < (o.2.size : Int) := by omega
          clear hst ho
          have hB2 : (ad.add (k * 2)).block < wr.heap.size := by rw [Oct.block_add]; omega
          have hu : (2 + (o.2.size : Int)) = ((UInt8.ofNat (2 + o.2.size)).toNat : Int) := by rw [UInt8.toNat_ofNat']; omega
          have hcv := conv_two (P := Tryz.prog) wr 26 9 5 5 Tryz.underlying26 Tryz.underlying5 Tryz.underlying9 o.1 (UInt8.ofNat (2 + o.2.size)) wr.heap.size rfl 2 2 rfl
          rw [← hu] at hcv
          have Hu := Lib.hid hu; clear hu
          have HZ : Hid (((bOf [o.1, UInt8.ofNat (2 + o.2.size)]).size : Int) = 2) := by show _ = _; rw [size_bOf]; rfl
          obtain ⟨q, hq⟩ : ∃ q, bOf [o.1, UInt8.ofNat (2 + o.2.size)] = q := ⟨_, rfl⟩
          rw [hq] at hcv HT HZ
          clear hq
          have hqz := HZ.out
          have HBn := Lib.hid (hb.alloc hb.size (.cells #[.int .u8 o.1.toNat, .int .u8 (2 + (o.2.size : Int))] 5)).drew
          go_wp2
          go_region
          go_wp2
          go_roundw
          case rel => exact ⟨k + 1, s ++ q ++ o.2, by omega, by go_num, rfl, by rw [ByteArray.size_append, ByteArray.size_append]; omega, ⟨HT.out.1, by rw [HS.out.2.1]; exact HT.out.2.1, by rw [ByteArray.size_append, ByteArray.size_append, HT.out.2.2, HS.out.2.2]; omega⟩, HBn.out⟩
          case measure => simp [intOf]; omega
      · obtain rfl : k = n := by omega
        have HS2 : Hid (big l = false ∧ s = bOf (enc l) ∧ s.size = wt l) := by
          have h := HS.out
          rw [List.take_of_length_le (by rw [Hn.out]; exact Nat.le_refl _)] at h
          exact h
        by_cases hw : 1496 < s.size
        · have HF := Lib.hid (put_long (l := l) (by rw [Hn.out]; omega) HS2.out.1 (by rw [← HS2.out.2.2]; exact hw))
          have hx3 : (1496 : Int) < (s.size : Int) := by omega
          go_wp2
          go_ret2
          rw [HF.out.1, HF.out.2]
          exact ⟨rfl, hb⟩
        · have HF := Lib.hid (put_ok (l := l) (by rw [Hn.out]; omega) HS2.out.1 (by rw [← HS2.out.2.2]; omega))
          have hx3 : ¬ (1496 : Int) < (s.size : Int) := by omega
          go_wp2
          go_ret2
          rw [HF.out.1, HF.out.2, ← HS2.out.2.1]
          exact ⟨rfl, hb⟩
end Go.Proofs.YtikcgcgbcolndaaGreat.Opt
