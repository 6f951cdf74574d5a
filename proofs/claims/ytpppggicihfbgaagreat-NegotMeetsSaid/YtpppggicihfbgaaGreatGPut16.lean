/- Put together: Put16, PktB. -/
import Derived.Test.YtpppggicihfbgaaGreatGConvNew
import Derived.Test.YtpppggicihfbgaaGreatProg
import Derived.Test.YtpppggicihfbgaaGreatGPure
import Derived.Test.YtpppggicihfbgaaGreatGRow
import Derived.Deep.RegionHeld3
import Derived.OrdersHeld

/- Contract of package octet's Put16. -/
namespace Go.Proofs.YtpppggicihfbgaaGreat.Oct
open Go.RowKit
set_option maxHeartbeats 400000 in
set_option maxRecDepth 100000 in
theorem put16_any (v : Nat) (w : World) (h2 : v < 65536) :
    Calls Tryz.prog 92 #[.int .u16 v] w fun e w' => e = .returned (.string (bOf (numS v 2))) ∧ Below w.heap.size w w' := by
  have hv : bOf (numS v 2) = strOfNums [(v : Int) / 256, (v : Int) % 256] := by
    rw [nums_bOf, numS_two]
    congr 1
    simp only [List.map_cons, List.map_nil]
    congr 1
    · congr 1; omega
  have H := Lib.hid hv; clear hv
  have hcv := conv_new (P := Tryz.prog) w 26 9 5 202 (by kernel_rfl) (by kernel_rfl) (by kernel_rfl) [(v : Int) / 256, (v : Int) % 256] 2
  simp only [List.length_cons, List.length_nil, List.map_cons, List.map_nil] at hcv
  have h1 : (0 : Int) ≤ v := by omega
  have h3 : (v : Int) < 65536 := by omega
  rw [H.out]
  go_enter Tryz.func92, Tryz.ntmps92
  go_wp2
  go_ret
  exact ⟨rfl, (Below.refl _ _).alloc (Nat.le_refl _) _⟩

end Go.Proofs.YtpppggicihfbgaaGreat.Oct

/- Contract of package packet's Put. -/
namespace Go.Proofs.YtpppggicihfbgaaGreat.Pkt
open List (getElem_toArray getElem_cons_succ getElem_cons_zero setIfInBounds_toArray set_cons_zero set_cons_succ)
open Go.RowKit Go.Proofs.YtpppggicihfbgaaGreat.Oct Go.Proofs.YtpppggicihfbgaaGreat.Row Go.Proofs.YtpppggicihfbgaaGreat.Mem
set_option linter.unusedSimpArgs false

def pktV (c i : UInt8) (s : ByteArray) : List Value := [.int .u8 c.toNat, .int .u8 i.toNat, .string s]

set_option maxHeartbeats 400000 in
set_option maxRecDepth 100000 in
theorem put_long (c i : UInt8) (s : ByteArray) (w : World) (hl : 1496 < s.size) :
    Calls Tryz.prog 87 #[.agg #[.int .u8 c.toNat, .int .u8 i.toNat, .string s]] w fun e w' => e = .returned (.tuple #[.string (bOf []), .int .i64 5]) ∧ Below w.heap.size w w' := by
  have hb := (Below.refl w.heap.size w).alloc (Nat.le_refl _) (.cells #[.int .u8 c.toNat, .int .u8 i.toNat, .string s] 56)
  have HB := Lib.hid hb; clear hb
  have h1 : (1496 : Int) < s.size := by omega
  go_enter Tryz.func87, Tryz.ntmps87
  go_wp2
  go_ret2
  exact ⟨rfl, HB.out⟩

theorem kept_new (w : World) (c i : UInt8) (s : ByteArray) : Blk ((w.alloc (.cells #[.int .u8 c.toNat, .int .u8 i.toNat, .string s] 56)).alloc (.cells #[.int .u8 c.toNat, .int .u8 i.toNat, .int .u8 0, .int .u8 0] 189)) w.heap.size (pktV c i s) 56 ∧ Blk ((w.alloc (.cells #[.int .u8 c.toNat, .int .u8 i.toNat, .string s] 56)).alloc (.cells #[.int .u8 c.toNat, .int .u8 i.toNat, .int .u8 0, .int .u8 0] 189)) (w.heap.size + 1) (bytesV [c, i, 0, 0]) 189 ∧ Below w.heap.size w ((w.alloc (.cells #[.int .u8 c.toNat, .int .u8 i.toNat, .string s] 56)).alloc (.cells #[.int .u8 c.toNat, .int .u8 i.toNat, .int .u8 0, .int .u8 0] 189)) := by
  have h1 := blk_new w (pktV c i s) 56
  have h2 := blk_new (w.alloc (.cells (pktV c i s).toArray 56)) (bytesV [c, i, 0, 0]) 189
  have h3 := h1.alloc (.cells (bytesV [c, i, 0, 0]).toArray 189)
  rw [World.size_alloc] at h2
  exact ⟨h3, h2, ((Below.refl w.heap.size w).alloc (Nat.le_refl _) _).alloc (by rw [World.size_alloc]; exact Nat.le_succ _) _⟩

set_option maxHeartbeats 2000000 in
set_option maxRecDepth 100000 in
theorem put_ok (c i : UInt8) (s : ByteArray) (w : World) (hl : s.size ≤ 1496) :
    Calls Tryz.prog 87 #[.agg #[.int .u8 c.toNat, .int .u8 i.toNat, .string s]] w fun e w' => e = .returned (.tuple #[.string (bOf (enc c i s.toList)), .int .i64 0]) ∧ Below w.heap.size w w' := by
  have P := Lib.hid (fun w => put16_any (4 + s.size) w (by omega))
  have HE : Hid (bOf (c :: i :: numS (4 + s.size) 2) ++ s = bOf (enc c i s.toList)) := by
    show _ = _
    rw [append_bOf, toList_bOf, enc, ← size_toList]; rfl
  have HB := Lib.hid (kept_new w c i s)
  rw [numS_two] at P HE
  generalize UInt8.ofNat ((4 + s.size) / 256 % 256) = x at *
  generalize UInt8.ofNat ((4 + s.size) % 256) = y at *
  have h1 : (s.size : Int) ≤ 1496 := by omega
  have HW : Hid (IntKind.u16.wrap (IntKind.i64.wrap (4 + (s.size : Int))) = ((4 + s.size : Nat) : Int)) := by show _ = _; simp only [IntKind.wrap_u16, IntKind.wrap_i64]; omega
  go_enter Tryz.func87, Tryz.ntmps87
  go_wp2_with fail
  generalize hW : ((w.alloc (.cells #[.int .u8 c.toNat, .int .u8 i.toNat, .string s] 56)).alloc (.cells #[.int .u8 c.toNat, .int .u8 i.toNat, .int .u8 0, .int .u8 0] 189)) = W at *
  clear hW
  have HB0 : Hid (w.heap.size ≤ W.drew.heap.size) := HB.out.2.2.size
  generalize hg : w.heap.size = g at *
  have HG := Lib.hid hg
  clear hg
  obtain ⟨hp, hh, hb⟩ := HB.out
  have HB := Lib.hid hb
  have kp : W.drew.cell? ⟨g, 2, none⟩ = some (.string s) := hp.at_ 2
  have Hh := Lib.hid hh
  clear hh hb
  refine wp_region_held_drew (S := fun w' => w'.cell? ⟨g, 2, none⟩ = some (.string s)) (by kernel_rfl) kp (fun hHeld => ?_)
  refine wpAnyH_take (i := 0) (v := ?vv0_1) rfl (by kernel_rfl) (by kernel_rfl) (by kernel_rfl) (fun _ _ _ h => h) (Or.inl ⟨by rfl, ?yy0_1⟩) (by assumption) ?rr0_1
  case yy0_1 => (intro w hSw; (try dsimp only at hSw); (try simp only [getElem_toArray, getElem_cons_succ, getElem_cons_zero, Act.put, setIfInBounds_toArray, set_cons_zero, set_cons_succ]); go_simp; (try (with_reducible rfl)))
  try simp only [getElem_toArray, getElem_cons_succ, getElem_cons_zero, Act.put, setIfInBounds_toArray, set_cons_zero, set_cons_succ]
  refine wpAnyH_take (i := 1) (v := ?vv1_2) rfl (by kernel_rfl) (by kernel_rfl) (by kernel_rfl) (fun _ _ _ h => h) (Or.inl ⟨by rfl, ?yy1_2⟩) (by assumption) ?rr1_2
  case yy1_2 => (intro w hSw; (try dsimp only at hSw); (try simp only [getElem_toArray, getElem_cons_succ, getElem_cons_zero, Act.put, setIfInBounds_toArray, set_cons_zero, set_cons_succ]); go_simp; (try (with_reducible rfl)))
  try simp only [getElem_toArray, getElem_cons_succ, getElem_cons_zero, Act.put, setIfInBounds_toArray, set_cons_zero, set_cons_succ]
  refine wpAnyH_take (i := 2) (v := ?vv2_3) rfl (by kernel_rfl) (by kernel_rfl) (by kernel_rfl) (fun _ _ _ h => h) (Or.inl ⟨by rfl, ?yy2_3⟩) (by assumption) ?rr2_3
  case yy2_3 => (intro w hSw; (try dsimp only at hSw); (try simp only [getElem_toArray, getElem_cons_succ, getElem_cons_zero, Act.put, setIfInBounds_toArray, set_cons_zero, set_cons_succ]); go_simp; (try (with_reducible rfl)))
  try simp only [getElem_toArray, getElem_cons_succ, getElem_cons_zero, Act.put, setIfInBounds_toArray, set_cons_zero, set_cons_succ]
  refine wpAnyH_take (i := 3) (v := ?vv3_4) rfl (by kernel_rfl) (by kernel_rfl) (by kernel_rfl) (fun _ _ _ h => h) (Or.inl ⟨by rfl, ?yy3_4⟩) (by assumption) ?rr3_4
  case yy3_4 => (intro w hSw; (try dsimp only at hSw); (try simp only [getElem_toArray, getElem_cons_succ, getElem_cons_zero, Act.put, setIfInBounds_toArray, set_cons_zero, set_cons_succ]); go_simp; (try (with_reducible rfl)))
  try simp only [getElem_toArray, getElem_cons_succ, getElem_cons_zero, Act.put, setIfInBounds_toArray, set_cons_zero, set_cons_succ]
  refine wpAnyH_take (i := 4) (v := ?vv4_5) rfl (by kernel_rfl) (by kernel_rfl) (by kernel_rfl) (fun _ _ _ h => h) (Or.inl ⟨by rfl, ?yy4_5⟩) (by assumption) ?rr4_5
  case yy4_5 => (intro w hSw; (try dsimp only at hSw); (try simp only [getElem_toArray, getElem_cons_succ, getElem_cons_zero, Act.put, setIfInBounds_toArray, set_cons_zero, set_cons_succ]); go_simp; (try (with_reducible rfl)))
  try simp only [getElem_toArray, getElem_cons_succ, getElem_cons_zero, Act.put, setIfInBounds_toArray, set_cons_zero, set_cons_succ]
  refine wpAnyH_take (i := 5) (v := ?vv5_6) rfl (by kernel_rfl) (by kernel_rfl) (by kernel_rfl) (fun _ _ _ h => h) (Or.inl ⟨by rfl, ?yy5_6⟩) (by assumption) ?rr5_6
  case yy5_6 => (intro w hSw; (try dsimp only at hSw); (try simp only [getElem_toArray, getElem_cons_succ, getElem_cons_zero, Act.put, setIfInBounds_toArray, set_cons_zero, set_cons_succ]); go_simp; (try (with_reducible rfl)))
  try simp only [getElem_toArray, getElem_cons_succ, getElem_cons_zero, Act.put, setIfInBounds_toArray, set_cons_zero, set_cons_succ]
  refine wpAnyH_ready (rs := [6]) (by kernel_rfl) (by simp) ?_
  refine AllReadyH.cons (o := _) rfl (fun K hK => ?_) AllReadyH.nil
  try simp only [getElem_toArray, getElem_cons_succ, getElem_cons_zero, Act.put, setIfInBounds_toArray, set_cons_zero, set_cons_succ]
  go_simp
  rw [HW.out]
  refine (P.out _).mono ?_
  rintro e w1 ⟨rfl, hb1⟩
  have kp1 := (hb1.cell (p := ⟨g, 2, none⟩) (World.block_lt_of_cell? _ _ kp)).trans kp
  have hh1 := Hh.out.drew.callee hb1
  have hp1 := hp.drew.callee hb1
  have hcp := copy_string (P := Tryz.prog) w1 26 9 3 5 (g + 1) 2 2 2 (bOf [x, y]) (bytesV [c, i, 0, 0]).toArray 189 Tryz.underlying26 (by kernel_rfl) hh1 (by rw [size_bOf]; exact Nat.le_refl 4)
  have hz : Nat.min (bOf [x, y]).size 2 = 2 := by rw [size_bOf]; rfl
  rw [hz, toList_bOf] at hcp
  simp only [bytesV, List.map_cons, List.map_nil, List.take_succ_cons, List.take_zero, List.drop_succ_cons, List.drop_zero, List.cons_append, List.nil_append, List.drop_nil, List.append_nil] at hcp
  refine hK.out _ _ kp1 (fun hHeld => ?_)
  clear hK K
  try simp only [getElem_toArray, getElem_cons_succ, getElem_cons_zero, Act.put, setIfInBounds_toArray, set_cons_zero, set_cons_succ]
  have hh3 := hh1.setRow (bytesV [c, i, x, y])
  have hh2 := hh1.setRow (bytesV [c, i, x, y])
  have hm2 := moves_row w1 (g + 1) (bytesV [c, i, x, y]).toArray
  have hp2 := hp1.moves hm2 (by omega)
  have HM := Lib.hid hm2
  clear hm2
  simp only [bytesV, List.map_cons, List.map_nil] at hh2 hp2
  have kp2 : (w1.setRow (g + 1) #[.int .u8 c.toNat, .int .u8 i.toNat, .int .u8 x.toNat, .int .u8 y.toNat]).cell? ⟨g, 2, none⟩ = some (.string s) := hp2.at_ 2
  refine wpAnyH_ready (rs := [7]) (by kernel_rfl) (by simp) ?_
  refine AllReadyH.cons (o := _) rfl (fun K hK => ?_) AllReadyH.nil
  try simp only [getElem_toArray, getElem_cons_succ, getElem_cons_zero, Act.put, setIfInBounds_toArray, set_cons_zero, set_cons_succ]
  go_simp
  refine hK.out _ _ kp2 (fun hHeld => ?_)
  clear hK K
  try simp only [getElem_toArray, getElem_cons_succ, getElem_cons_zero, Act.put, setIfInBounds_toArray, set_cons_zero, set_cons_succ]
  refine wpAnyH_done (by kernel_rfl) ?_ _
  have HBB := Lib.hid (HB.out.drew.trans (((hb1.mono HB0.out).trans (HM.out.below (n := g) (Nat.le_trans HB0.out hb1.size) (fun k hk => by subst hk; exact Nat.le_succ _)))))
  have hcv := conv_blk (P := Tryz.prog) (o := 0) (n := 4) (c := 4) Tryz.underlying26 Tryz.underlying5 Tryz.underlying9 hh3.drew (Nat.le_refl _)
  rw [List.drop_zero, show List.take 4 [c, i, x, y] = [c, i, x, y] from rfl] at hcv
  have hqz : ((bOf [c, i, x, y]).size : Int) = 4 := by rw [size_bOf]; rfl
  clear hHeld hh1 hp1 hcp hh2 hp2 hb1 kp1 kp hp hz
  clear hh3 HM
  simp only [bytesV, List.map_cons, List.map_nil] at HBB hcv
  generalize w1.setRow (g + 1) #[.int .u8 c.toNat, .int .u8 i.toNat, .int .u8 x.toNat, .int .u8 y.toNat] = W2 at *
  generalize bOf [c, i, x, y] = q at *
  go_wp2
  go_region
  rw [HE.out]
  go_wp2
  go_ret2
  exact ⟨rfl, by rw [HG.out]; exact HBB.out.drew⟩

theorem put_any (c i : UInt8) (s : ByteArray) (w : World) :
    Calls Tryz.prog 87 #[.agg #[.int .u8 c.toNat, .int .u8 i.toNat, .string s]] w fun e w' => e = .returned (.tuple #[.string (bOf (pA c i s.toList)), .int .i64 (pE s.toList)]) ∧ Below w.heap.size w w' := by
  unfold pA pE
  rw [← size_toList]
  by_cases h : 1496 < s.size
  · rw [if_pos h, if_pos h]; exact put_long c i s w h
  · rw [if_neg h, if_neg h]; exact put_ok c i s w (by omega)
end Go.Proofs.YtpppggicihfbgaaGreat.Pkt
