/- Sides are made. -/
import Derived.Test.YtikcgcgbcolndaaGreatNegIp
import Derived.Test.YtikcgcgbcolndaaGreatIppN
namespace Go.Proofs.YtikcgcgbcolndaaGreat.Neg
open Go.RowKit Go.Proofs.YtikcgcgbcolndaaGreat.Oct Go.Proofs.YtikcgcgbcolndaaGreat.Row Go.Proofs.YtikcgcgbcolndaaGreat.Mem Go.Proofs.YtikcgcgbcolndaaGreat.Opt Go.Proofs.YtikcgcgbcolndaaGreat.Fsm
open Go.Proofs.YtikcgcgbcolndaaGreat.Aut (Au Aut Inv)

def newSd (K : Kd) (r mc mt : Nat) (p : K.α) : Sd K := ⟨⟨r, mc, mt, 0, 0, 0⟩, p, 1500, 0, false, 0⟩
def MadeQ (K : Kd) (q : Nat) (s : Sd K) (w : World) (e : Ending) (w' : World) : Prop :=
  ∃ g a, e = .returned (.tuple #[.pointer (some ⟨g, 0, none⟩), .int .i64 0]) ∧ w.heap.size ≤ g ∧ w.heap.size ≤ a ∧ SAt K w' g a q s ∧ Below w.heap.size w w'
theorem boxA (w : World) (a b d : Int) : ∃ W, w.alloc (.cells #[.int .i64 a, .int .i64 b, .int .i64 d] 34) = W ∧ Hid (Blk W w.heap.size [.int .i64 a, .int .i64 b, .int .i64 d] 34 ∧ Below w.heap.size w W) :=
  ⟨_, rfl, blk_new w [.int .i64 a, .int .i64 b, .int .i64 d] _, (Below.refl w.heap.size w).alloc (Nat.le_refl _) _⟩
set_option maxHeartbeats 2000000 in
set_option maxRecDepth 100000 in
theorem made_ok (K : Kd) (q r mc mt : Nat) (p : K.α) (w : World) (hp : K.At w q p) (h : Aut.may r mc mt = true) :
    Calls Tryz.prog 33 #[.agg #[.int .i64 r, .int .i64 mc, .int .i64 mt], .int .u16 K.proto, .iface K.ty (.agg #[.pointer (some ⟨q, 0, none⟩)])] w (MadeQ K q (newSd K r mc mt p) w) := by
  obtain ⟨W, hW, HW⟩ := boxA w r mc mt
  have HB := Lib.hid HW.out.2
  have HP := Lib.hid (K.callee hp HW.out.2)
  have HN := Lib.hid (Aut.new_ok r mc mt W h)
  have c0 : W.cell? ⟨w.heap.size, 0, none⟩ = some (.int .i64 r) := HW.out.1.at_ 0
  have c1 : W.cell? ⟨w.heap.size, 1, none⟩ = some (.int .i64 mc) := HW.out.1.at_ 1
  have c2 : W.cell? ⟨w.heap.size, 2, none⟩ = some (.int .i64 mt) := HW.out.1.at_ 2
  clear hp h HW
  go_enter Tryz.func33, Tryz.ntmps33
  go_wp2_with fail
  refine HN.out.mono ?_
  rintro e w1 ⟨a, rfl, hga, hau, hb1⟩
  have HA := Lib.hid hau
  have HP1 := Lib.hid (K.callee HP.out hb1)
  have HB1 := Lib.hid (HB.out.trans (hb1.mono HB.out.size))
  have hwa : Hid (w.heap.size ≤ a) := Nat.le_trans HB.out.size hga
  have hqa : Hid (a ≠ q) := by have := K.lt HP.out; show a ≠ q; omega
  clear hga hau hb1 hW c0 c1 c2
  obtain ⟨V, hV⟩ : ∃ V, w1.alloc (.cells #[.pointer (some ⟨a, 0, none⟩), .int .u16 K.proto, .iface K.ty (.agg #[.pointer (some ⟨q, 0, none⟩)]), .int .i64 1500, .int .u8 0, .bool false, .int .u8 0] 91) = V := ⟨_, rfl⟩
  have HS : Hid (SAt K V w1.heap.size a q (newSd K r mc mt p) ∧ Below w.heap.size w V) := by
    rw [← hV]
    have hb := (Below.refl w1.heap.size w1).alloc (Nat.le_refl _) (.cells #[.pointer (some ⟨a, 0, none⟩), .int .u16 K.proto, .iface K.ty (.agg #[.pointer (some ⟨q, 0, none⟩)]), .int .i64 1500, .int .u8 0, .bool false, .int .u8 0] 91)
    exact ⟨⟨blk_new w1 (sv K a q (newSd K r mc mt p)) _, HA.out.callee hb, K.callee HP1.out hb, Nat.ne_of_lt HA.out.lt, Nat.ne_of_lt (K.lt HP1.out), hqa.out⟩, HB1.out.trans (hb.mono HB1.out.size)⟩
  have hw1 : Hid (w.heap.size ≤ w1.heap.size) := HB1.out.size
  clear HA HP1 HB1
  go_wp2
  go_ret2
  exact ⟨w1.heap.size, a, rfl, hw1.out, hwa.out, HS.out.1, HS.out.2⟩
set_option maxHeartbeats 2000000 in
set_option maxRecDepth 100000 in
theorem made_no (K : Kd) (v : Value) (a b d : Int) (w : World) (h : Aut.may a b d = false) :
    Calls Tryz.prog 33 #[.agg #[.int .i64 a, .int .i64 b, .int .i64 d], .int .u16 K.proto, v] w fun e w' => e = .returned (.tuple #[.pointer none, .int .i64 2]) ∧ Below w.heap.size w w' := by
  obtain ⟨W, hW, HW⟩ := boxA w a b d
  have HB := Lib.hid HW.out.2
  have HN := Lib.hid (Aut.new_no a b d W h)
  have c0 : W.cell? ⟨w.heap.size, 0, none⟩ = some (.int .i64 a) := HW.out.1.at_ 0
  have c1 : W.cell? ⟨w.heap.size, 1, none⟩ = some (.int .i64 b) := HW.out.1.at_ 1
  have c2 : W.cell? ⟨w.heap.size, 2, none⟩ = some (.int .i64 d) := HW.out.1.at_ 2
  clear h HW
  go_enter Tryz.func33, Tryz.ntmps33
  go_wp2_with fail
  refine HN.out.mono ?_
  rintro e w1 ⟨rfl, hb1⟩
  have HB1 := Lib.hid (HB.out.trans (hb1.mono HB.out.size))
  clear hb1 hW c0 c1 c2
  go_wp2
  go_ret2
  exact ⟨rfl, HB1.out⟩

/-! ### IPCP -/
theorem boxAC (w : World) (a b d : Int) (c : Ipp.Conf) : ∃ W, (w.alloc (.cells #[.int .i64 a, .int .i64 b, .int .i64 d] 34)).alloc (.cells #[Value.int .u32 c.addr.toNat, .int .u32 c.peer.toNat, .int .u32 c.dns1.toNat, .int .u32 c.dns2.toNat, .bool c.want, .int .i64 c.mn] 48) = W ∧
    Hid (Blk W w.heap.size [.int .i64 a, .int .i64 b, .int .i64 d] 34 ∧ Ipp.CAt W (w.heap.size + 1) c ∧ Below w.heap.size w W) := by
  refine ⟨_, rfl, (blk_new w [.int .i64 a, .int .i64 b, .int .i64 d] _).alloc _, ?_, ((Below.refl w.heap.size w).alloc (Nat.le_refl _) _).alloc (by rw [World.size_alloc]; exact Nat.le_succ _) _⟩
  have := Ipp.cat_new (w.alloc (.cells #[.int .i64 a, .int .i64 b, .int .i64 d] 34)) c
  rw [World.size_alloc] at this
  exact this
def NewQ (K : Kd) (s : Sd K) (w : World) (e : Ending) (w' : World) : Prop :=
  ∃ g a q, e = .returned (.tuple #[.pointer (some ⟨g, 0, none⟩), .int .i64 0]) ∧ w.heap.size ≤ g ∧ w.heap.size ≤ a ∧ w.heap.size ≤ q ∧ SAt K w' g a q s ∧ Below w.heap.size w w'
set_option maxHeartbeats 2000000 in
set_option maxRecDepth 100000 in
theorem ipcp_ok (r mc mt : Nat) (c : Ipp.Conf) (w : World) (h : Aut.may r mc mt = true) (hc : Ipp.mayC c = true) :
    Calls Tryz.prog 18 #[.agg #[.int .i64 r, .int .i64 mc, .int .i64 mt], .agg #[Value.int .u32 c.addr.toNat, .int .u32 c.peer.toNat, .int .u32 c.dns1.toNat, .int .u32 c.dns2.toNat, .bool c.want, .int .i64 c.mn]] w (NewQ ipK (newSd ipK r mc mt (Ipp.newP c)) w) := by
  obtain ⟨W, hW, HW⟩ := boxAC w r mc mt c
  have HB := Lib.hid HW.out.2.2
  have HA := Lib.hid HW.out.1
  have HN := Lib.hid (Ipp.new_ok c W hc)
  obtain ⟨c0, c1, c2, c3, c4, c5⟩ := HW.out.2.1.all
  have HM : Hid (∀ q w, Ipp.PAt w q (Ipp.newP c) → Calls Tryz.prog 33 #[.agg #[.int .i64 r, .int .i64 mc, .int .i64 mt], .int .u16 32801, .iface 97 (.agg #[.pointer (some ⟨q, 0, none⟩)])] w (MadeQ ipK q (newSd ipK r mc mt (Ipp.newP c)) w)) := fun q w hp => made_ok ipK q r mc mt (Ipp.newP c) w hp h
  clear h hc HW
  go_enter Tryz.func18, Tryz.ntmps18
  go_wp2_with fail
  refine HN.out.mono ?_
  rintro e w1 ⟨q, rfl, hgq, hp, hb1⟩
  have HP := Lib.hid hp
  have HB1 := Lib.hid (HB.out.trans (hb1.mono HB.out.size))
  have hwq : Hid (w.heap.size ≤ q) := Nat.le_trans HB.out.size hgq
  have HA1 := Lib.hid (HA.out.callee hb1)
  clear hgq hp hb1 hW c0 c1 c2 c3 c4 c5 HA
  have c0 : w1.cell? ⟨w.heap.size, 0, none⟩ = some (.int .i64 r) := HA1.out.at_ 0
  have c1 : w1.cell? ⟨w.heap.size, 1, none⟩ = some (.int .i64 mc) := HA1.out.at_ 1
  have c2 : w1.cell? ⟨w.heap.size, 2, none⟩ = some (.int .i64 mt) := HA1.out.at_ 2
  go_wp2_with fail
  refine (HM.out _ _ HP.out).mono ?_
  rintro e w2 ⟨g, a, rfl, hg, ha, hs, hb2⟩
  have HS := Lib.hid hs
  have HB2 := Lib.hid (HB1.out.trans (hb2.mono HB1.out.size))
  have hw2 : Hid (w.heap.size ≤ g ∧ w.heap.size ≤ a) := ⟨Nat.le_trans HB1.out.size hg, Nat.le_trans HB1.out.size ha⟩
  clear hg ha hs hb2
  go_wp2
  go_ret2
  exact ⟨g, a, q, rfl, hw2.out.1, hw2.out.2, hwq.out, HS.out, HB2.out⟩
def NoQ (w : World) (e : Ending) (w' : World) : Prop := e = .returned (.tuple #[.pointer none, .int .i64 2]) ∧ Below w.heap.size w w'
set_option maxHeartbeats 2000000 in
set_option maxRecDepth 100000 in
theorem ipcp_no (x y z : Int) (c : Ipp.Conf) (w : World) (h : (Aut.may x y z && Ipp.mayC c) = false) :
    Calls Tryz.prog 18 #[.agg #[.int .i64 x, .int .i64 y, .int .i64 z], .agg #[Value.int .u32 c.addr.toNat, .int .u32 c.peer.toNat, .int .u32 c.dns1.toNat, .int .u32 c.dns2.toNat, .bool c.want, .int .i64 c.mn]] w (NoQ w) := by
  obtain ⟨W, hW, HW⟩ := boxAC w x y z c
  have HB := Lib.hid HW.out.2.2
  have HA := Lib.hid HW.out.1
  obtain ⟨c0, c1, c2, c3, c4, c5⟩ := HW.out.2.1.all
  cases hc : Ipp.mayC c
  · have HN := Lib.hid (Ipp.new_no c W hc)
    clear h hc HW HA
    go_enter Tryz.func18, Tryz.ntmps18
    go_wp2_with fail
    refine HN.out.mono ?_
    rintro e w1 ⟨rfl, hb1⟩
    have HB1 := Lib.hid (HB.out.trans (hb1.mono HB.out.size))
    clear hb1 hW c0 c1 c2 c3 c4 c5
    go_wp2
    go_ret2
    exact ⟨rfl, HB1.out⟩
  · have h' : Aut.may x y z = false := by rw [hc, Bool.and_true] at h; exact h
    have HN := Lib.hid (Ipp.new_ok c W hc)
    have HM : Hid (∀ v w, Calls Tryz.prog 33 #[.agg #[.int .i64 x, .int .i64 y, .int .i64 z], .int .u16 32801, v] w fun e w' => e = .returned (.tuple #[.pointer none, .int .i64 2]) ∧ Below w.heap.size w w') := fun v w => made_no ipK v x y z w h'
    clear h h' hc HW
    go_enter Tryz.func18, Tryz.ntmps18
    go_wp2_with fail
    refine HN.out.mono ?_
    rintro e w1 ⟨q, rfl, hgq, hp, hb1⟩
    have HB1 := Lib.hid (HB.out.trans (hb1.mono HB.out.size))
    have HA1 := Lib.hid (HA.out.callee hb1)
    clear hgq hp hb1 hW c0 c1 c2 c3 c4 c5 HA
    have c0 : w1.cell? ⟨w.heap.size, 0, none⟩ = some (.int .i64 x) := HA1.out.at_ 0
    have c1 : w1.cell? ⟨w.heap.size, 1, none⟩ = some (.int .i64 y) := HA1.out.at_ 1
    have c2 : w1.cell? ⟨w.heap.size, 2, none⟩ = some (.int .i64 z) := HA1.out.at_ 2
    go_wp2_with fail
    refine (HM.out _ _).mono ?_
    rintro e w2 ⟨rfl, hb2⟩
    have HB2 := Lib.hid (HB1.out.trans (hb2.mono HB1.out.size))
    clear hb2
    go_wp2
    go_ret2
    exact ⟨rfl, HB2.out⟩
end Go.Proofs.YtikcgcgbcolndaaGreat.Neg
