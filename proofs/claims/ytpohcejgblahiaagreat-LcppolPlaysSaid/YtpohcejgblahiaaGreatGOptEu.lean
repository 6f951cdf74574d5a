/- Put together: OptEu, LcoN. -/
import Derived.Test.YtpohcejgblahiaaGreatOptAt
import Derived.Test.YtpohcejgblahiaaGreatRow
import Derived.OwnWalk
import Derived.Maps.AppendAt
import Derived.Deep.RegionHeld3
import Derived.BigRegion
import Derived.Lib.AppendStr
import Derived.Test.YtpohcejgblahiaaGreatGOpts
import Derived.Test.YtpohcejgblahiaaGreatBytes

/- A byte's zero value; a text's cells. -/
namespace Go.Proofs.YtpohcejgblahiaaGreat.Opt
open Go.RowKit Go.Proofs.YtpohcejgblahiaaGreat.Oct Go.Proofs.YtpohcejgblahiaaGreat.Row Go.Proofs.YtpohcejgblahiaaGreat.Mem

set_option maxRecDepth 100000 in
theorem Tryz.info5 : (Tryz.prog.info? 5).map (fun i => (i.zero, i.size, i.bytes)) = some (some (.int .u8 0), 1, 1) := by kernel_rfl
theorem strCells_bytesV (s : ByteArray) : Lib.strCells s = bytesV s.toList := by rw [ByteArray.toList_eq]; rfl
end Go.Proofs.YtpohcejgblahiaaGreat.Opt

/- Contract of the document's num (layer 9). -/
namespace Go.Proofs.YtpohcejgblahiaaGreat.Lco
open Go.RowKit Go.Proofs.YtpohcejgblahiaaGreat.Oct Go.Proofs.YtpohcejgblahiaaGreat.Row Go.Proofs.YtpohcejgblahiaaGreat.Mem Go.Proofs.YtpohcejgblahiaaGreat.Opt

theorem num_step (v p j : Nat) : (List.replicate (p + 1) (0 : UInt8) ++ numS v j).set p (UInt8.ofNat (v / 256 ^ j % 256)) = List.replicate p 0 ++ numS v (j + 1) := by
  rw [List.set_append_left _ _ (by simp), List.replicate_succ', List.set_append_right _ _ (by simp)]
  simp [numS]
set_option maxHeartbeats 1000000 in
set_option maxRecDepth 100000 in
theorem rnum_any (v n : Nat) (w : World) (hv : v < 18446744073709551616) (hn : n ≤ 8) :
    Calls Tryz.prog 114 #[.int .u64 v, .int .i64 n] w fun e w' => e = .returned (.string (bOf (numS v n))) ∧ Below w.heap.size w w' := by
  have Hv := Lib.hid hv; clear hv
  obtain ⟨i0, hi, hz0, hz1, hz2⟩ := info_parts Tryz.info5
  go_enter Tryz.func114, Tryz.ntmps114
  go_wp2_with (refine wpList_make_full w rfl _ _ 137 rfl w.heap.size 5 i0 (.int .u8 0) 1 Tryz.underlying137 hi hz0 hz1 .i64 .i64 n n n rfl rfl rfl rfl (by rw [hz2]; omega) (by unfold maxLen; omega) (Nat.le_refl _) ?_; intro w1 hown1 hgr1; have Hown1 := Lib.hid hown1; clear hown1; have Hgr1 := Lib.hid hgr1; clear hgr1)
  have HT : Hid (Bytes w1 w.heap.size (List.replicate n 0)) := bytes_zero (z := .int .u8 0) rfl Hown1.out
  have HB : Hid (Below w.heap.size w w1) := (Below.refl w.heap.size w).grown Hgr1.out (Nat.le_refl _) (fun _ e => by cases e)
  clear Hown1 Hgr1 hi hz0 hz1 hz2
  have HT0 := HT; clear HT
  have HB0 := HB; clear HB
  go_loopw [0, 6] (fun u i wr => ∃ p j : Nat, p + j = n ∧ i = .int .i64 ((p : Int) - 1) ∧ u = .int .u64 ((v / 256 ^ j : Nat) : Int) ∧ Hid (Bytes wr w.heap.size (List.replicate p 0 ++ numS v j)) ∧ Hid (Below w.heap.size w wr)) (fun _ i _ => (intOf i + 1).toNat)
  case atStart => exact ⟨n, 0, by omega, rfl, by simp, by rw [show numS v 0 = [] from rfl, List.append_nil]; exact HT0, HB0⟩
  case round =>
    obtain ⟨p, j, hpj, rfl, rfl, HT, HB⟩ := hrel
    rcases p with _ | p
    · have hm1 : (((0 : Nat) : Int) - 1) = -1 := rfl
      rw [hm1]
      clear hm1
      obtain rfl : j = n := by omega
      have HL : Hid ((numS v j).length = j) := numS_length v j
      have HT' : Hid (Bytes wr w.heap.size (numS v j)) := HT.out
      have hcv : (convert 137 9 (.slice (some ⟨w.heap.size, 0, none⟩) j j)).run Tryz.prog wr = .ok (.string (bOf (numS v j))) wr := conv_bytes Tryz.underlying137 Tryz.underlying5 Tryz.underlying9 HT'.out HL.out
      go_wp2
      go_ret
      exact ⟨rfl, HB.out⟩
    · have hm1 : (((p + 1 : Nat) : Int) - 1) = (p : Int) := by omega
      rw [hm1]
      have Hq : Hid (v / 256 ^ j < 18446744073709551616) := Nat.lt_of_le_of_lt (Nat.div_le_self _ _) Hv.out
      have HS := Lib.hid (num_step v p j)
      have HQ : Hid (v / 256 ^ (j + 1) = v / 256 ^ j / 256) := by show _ = _; rw [Nat.pow_succ, Nat.div_div_eq_div_mul]
      obtain ⟨x, hx, hf, _⟩ := HT.out.at_ p (by rw [List.length_append, List.length_replicate]; omega)
      have hpn : (p : Int) < (n : Int) := by omega
      clear hm1
      generalize v / 256 ^ j = q at *
      have hq1 : (0 : Int) ≤ (q : Int) := Int.natCast_nonneg q
      have HX : Hid (Value.int .u8 ((q : Int) % 256) = .int .u8 ((UInt8.ofNat (q % 256)).toNat : Int)) := by show _ = _; rw [UInt8.toNat_ofNat']; congr 1; omega
      have HT2 : Hid (Bytes (wr.setCell ⟨w.heap.size, p, none⟩ (.int .u8 ((q : Int) % 256))) w.heap.size (List.replicate p 0 ++ numS v (j + 1))) := by rw [HX.out, ← HS.out]; exact HT.out.set p _
      go_wp2
      go_roundw
      case rel => exact ⟨p, j + 1, by omega, by go_num, by rw [HQ.out]; congr 1, HT2, HB.out.setCell (p := ⟨w.heap.size, p, none⟩) (Nat.le_refl _) _⟩
      case measure => simp [intOf]
end Go.Proofs.YtpohcejgblahiaaGreat.Lco
