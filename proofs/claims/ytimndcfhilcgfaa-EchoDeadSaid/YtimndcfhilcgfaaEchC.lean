/- The closure that sends; what a packet of each code does. -/
import Derived.Test.YtimndcfhilcgfaaEchB
import Derived.Test.YtimndcfhilcgfaaPut32
import Derived.Deep.RegionHeld3
import Derived.Test.YtimndcfhilcgfaaHeldX
import Derived.Laws.EntriesVeiled
namespace Go.Proofs.Ytimndcfhilcgfaa.Ech
open Go.RowKit Go.Proofs.Ytimndcfhilcgfaa.Oct Go.Proofs.Ytimndcfhilcgfaa.Row Go.Proofs.Ytimndcfhilcgfaa.Mem

/-- A row of packets of the call's own. -/
def RowP (w : World) (base : Nat) (A : Option Addr) (c : Nat) (l : List Pk) : Prop := w.ownsRow base 35 3 (.slice A l.length c) l.length (pksV l)
/-- What the closure sends from: its row's variable, the echo's. -/
def Out (w : World) (ob : Nat) (A : Option Addr) (l : List Pk) (c : Nat) : Prop := Blk w ob [.slice A l.length c] 29
def Eb (w : World) (eb g : Nat) : Prop := Blk w eb [ptr g] 28
def SendQ (ob : Nat) (p : Pk) (w : World) (e : Ending) (w' : World) : Prop :=
  e = .returned (.tuple #[]) ∧ ∃ A c, Out w' ob A [p] c ∧ RowP w' w.heap.size A c [p] ∧ Moves (fun k => k = ob) w w'
set_option maxRecDepth 100000 in
theorem infoP : (Try.prog.info? 35).map (fun i => (i.zero, i.size, i.bytes)) = some (some (.agg #[.int .u8 0, .int .u8 0, .string ⟨#[]⟩]), 3, 24) := by kernel_rfl
set_option maxHeartbeats 4000000 in
set_option maxRecDepth 100000 in
theorem send_any (g ob eb : Nat) (x : Ec) (c i : UInt8) (s : ByteArray) (w : World) (h : EAt w g x) (hg : x.mg < 4294967296) (ho : Out w ob none [] 0) (he : Eb w eb g) (hs : s.size ≤ 140737488351232) :
    Calls Try.prog 28 #[.int .u8 c.toNat, .int .u8 i.toNat, .string s, ptr ob, ptr eb] w (SendQ ob ⟨c, i, own x ++ s⟩ w) := by
  obtain ⟨i0, hi, hz0, hz1, hz2⟩ := info_parts infoP
  have C1 := Lib.hid (fun W => put32_any x.mg W hg)
  have HZ := Lib.hid (size_own x)
  unfold own at HZ ⊢
  generalize hY : bOf (numS x.mg 4) = Y at *
  clear hY
  have HY4 : (Y.size : Int) ≤ 4 := by have := HZ.out; omega
  have hs1 : ¬ 9223372036854775807 < Y.size + s.size := by have := HZ.out; omega
  have b0 : w.drew.cell? ⟨eb, 0, none⟩ = some (ptr g) := Blk.at_ he 0
  have b1 : w.drew.cell? ⟨g, 4, none⟩ = some (.int .u32 x.mg) := h.c 4
  have b2 : w.drew.cell? ⟨ob, 0, none⟩ = some (.slice none 0 0) := Blk.at_ ho 0
  have l0 : eb < w.heap.size := Blk.lt he
  have l1 : g < w.heap.size := h.lt
  have l2 : ob < w.heap.size := Blk.lt ho
  have HO := Lib.hid ho
  clear h ho he hg
  unfold ptr at *
  go_enter Try.func28, Try.ntmps28
  go_wp2
  -- the region, by gen/ech_c.py
  refine wp_region_x (S := fun w' => w'.cell? ⟨eb, 0, none⟩ = some (.pointer (some ⟨g, 0, none⟩)) ∧ w'.cell? ⟨g, 4, none⟩ = some (.int .u32 x.mg) ∧ w'.cell? ⟨ob, 0, none⟩ = some (.slice none 0 0)) 13 (by kernel_rfl) ⟨b0, b1, b2⟩ (fun hHeld hSh => ?_)
  refine wpAnyX_take (i := 0) (n := 40) (v := ?vv0_1) rfl (by kernel_rfl) (by kernel_rfl) (by kernel_rfl) (fun _ _ _ h => h) (by kernel_rfl) hSh (Or.inl ⟨by rfl, ?yy0_1⟩) (by assumption) ?rr0_1
  case yy0_1 => (intro w hSw; (try dsimp only at hSw); (try simp only [List.getElem_toArray, List.getElem_cons_succ, List.getElem_cons_zero, Act.put, List.setIfInBounds_toArray, List.set_cons_zero, List.set_cons_succ]); go_simp; (try (with_reducible rfl)))
  clear hSh; intro hSh
  try simp only [List.getElem_toArray, List.getElem_cons_succ, List.getElem_cons_zero, Act.put, List.setIfInBounds_toArray, List.set_cons_zero, List.set_cons_succ]
  refine wpAnyX_take (i := 1) (n := 40) (v := ?vv1_2) rfl (by kernel_rfl) (by kernel_rfl) (by kernel_rfl) (fun _ _ _ h => h) (by kernel_rfl) hSh (Or.inl ⟨by rfl, ?yy1_2⟩) (by assumption) ?rr1_2
  case yy1_2 => (intro w hSw; (try dsimp only at hSw); (try simp only [List.getElem_toArray, List.getElem_cons_succ, List.getElem_cons_zero, Act.put, List.setIfInBounds_toArray, List.set_cons_zero, List.set_cons_succ]); go_simp; (try (with_reducible rfl)))
  clear hSh; intro hSh
  try simp only [List.getElem_toArray, List.getElem_cons_succ, List.getElem_cons_zero, Act.put, List.setIfInBounds_toArray, List.set_cons_zero, List.set_cons_succ]
  refine wpAnyX_take (i := 2) (n := 40) (v := ?vv2_3) rfl (by kernel_rfl) (by kernel_rfl) (by kernel_rfl) (fun _ _ _ h => h) (by kernel_rfl) hSh (Or.inl ⟨by rfl, ?yy2_3⟩) (by assumption) ?rr2_3
  case yy2_3 => (intro w hSw; (try dsimp only at hSw); (try simp only [List.getElem_toArray, List.getElem_cons_succ, List.getElem_cons_zero, Act.put, List.setIfInBounds_toArray, List.set_cons_zero, List.set_cons_succ]); go_simp; (try (with_reducible rfl)))
  clear hSh; intro hSh
  try simp only [List.getElem_toArray, List.getElem_cons_succ, List.getElem_cons_zero, Act.put, List.setIfInBounds_toArray, List.set_cons_zero, List.set_cons_succ]
  refine wpAnyX_take (i := 3) (n := 40) (v := ?vv3_4) rfl (by kernel_rfl) (by kernel_rfl) (by kernel_rfl) (fun _ _ _ h => h) (by kernel_rfl) hSh (Or.inl ⟨by rfl, ?yy3_4⟩) (by assumption) ?rr3_4
  case yy3_4 => (intro w hSw; (try dsimp only at hSw); (try simp only [List.getElem_toArray, List.getElem_cons_succ, List.getElem_cons_zero, Act.put, List.setIfInBounds_toArray, List.set_cons_zero, List.set_cons_succ]); go_simp; (try (with_reducible rfl)))
  clear hSh; intro hSh
  try simp only [List.getElem_toArray, List.getElem_cons_succ, List.getElem_cons_zero, Act.put, List.setIfInBounds_toArray, List.set_cons_zero, List.set_cons_succ]
  refine wpAnyX_take (i := 4) (n := 40) (v := ?vv4_5) rfl (by kernel_rfl) (by kernel_rfl) (by kernel_rfl) (fun _ _ _ h => h) (by kernel_rfl) hSh (Or.inl ⟨by rfl, ?yy4_5⟩) (by assumption) ?rr4_5
  case yy4_5 => (intro w hSw; (try dsimp only at hSw); (try simp only [List.getElem_toArray, List.getElem_cons_succ, List.getElem_cons_zero, Act.put, List.setIfInBounds_toArray, List.set_cons_zero, List.set_cons_succ]); go_simp; (try (with_reducible rfl)))
  clear hSh; intro hSh
  try simp only [List.getElem_toArray, List.getElem_cons_succ, List.getElem_cons_zero, Act.put, List.setIfInBounds_toArray, List.set_cons_zero, List.set_cons_succ]
  refine wpAnyX_take (i := 5) (n := 40) (v := ?vv5_6) rfl (by kernel_rfl) (by kernel_rfl) (by kernel_rfl) (fun _ _ _ h => h) (by kernel_rfl) hSh (Or.inl ⟨by rfl, ?yy5_6⟩) (by assumption) ?rr5_6
  case yy5_6 => (intro w hSw; (try dsimp only at hSw); (try simp only [List.getElem_toArray, List.getElem_cons_succ, List.getElem_cons_zero, Act.put, List.setIfInBounds_toArray, List.set_cons_zero, List.set_cons_succ]); go_simp; (try (with_reducible rfl)))
  clear hSh; intro hSh
  try simp only [List.getElem_toArray, List.getElem_cons_succ, List.getElem_cons_zero, Act.put, List.setIfInBounds_toArray, List.set_cons_zero, List.set_cons_succ]
  refine wpAnyX_take (i := 6) (n := 40) (v := ?vv6_7) rfl (by kernel_rfl) (by kernel_rfl) (by kernel_rfl) (fun _ _ _ h => h) (by kernel_rfl) hSh (Or.inl ⟨by rfl, ?yy6_7⟩) (by assumption) ?rr6_7
  case yy6_7 => (intro w hSw; (try dsimp only at hSw); (try simp only [List.getElem_toArray, List.getElem_cons_succ, List.getElem_cons_zero, Act.put, List.setIfInBounds_toArray, List.set_cons_zero, List.set_cons_succ]); go_simp; (try (with_reducible rfl)))
  clear hSh; intro hSh
  try simp only [List.getElem_toArray, List.getElem_cons_succ, List.getElem_cons_zero, Act.put, List.setIfInBounds_toArray, List.set_cons_zero, List.set_cons_succ]
  refine wpAnyX_take (i := 8) (n := 40) (v := ?vv8_8) rfl (by kernel_rfl) (by kernel_rfl) (by kernel_rfl) (fun _ _ _ h => h) (by kernel_rfl) hSh (Or.inl ⟨by rfl, ?yy8_8⟩) (by assumption) ?rr8_8
  case yy8_8 => (intro w hSw; (try dsimp only at hSw); (try simp only [List.getElem_toArray, List.getElem_cons_succ, List.getElem_cons_zero, Act.put, List.setIfInBounds_toArray, List.set_cons_zero, List.set_cons_succ]); go_simp; (try (with_reducible rfl)))
  clear hSh; intro hSh
  try simp only [List.getElem_toArray, List.getElem_cons_succ, List.getElem_cons_zero, Act.put, List.setIfInBounds_toArray, List.set_cons_zero, List.set_cons_succ]
  refine wpAnyX_one (i := 7) (by kernel_rfl) rfl hSh (fun K hK => ?_)
  try simp only [List.getElem_toArray, List.getElem_cons_succ, List.getElem_cons_zero, Act.put, List.setIfInBounds_toArray, List.set_cons_zero, List.set_cons_succ]
  go_simp
  refine (C1.out _).mono ?_
  clear C1
  rintro e w1 ⟨rfl, hb0⟩
  have hb1 : Below w.heap.size w w1 := ⟨hb0.os, hb0.tape, hb0.output, hb0.size, hb0.block⟩
  clear hb0
  have k0 := (hb1.cell (p := ⟨eb, 0, none⟩) l0).trans b0
  have k1 := (hb1.cell (p := ⟨g, 4, none⟩) l1).trans b1
  have k2 := (hb1.cell (p := ⟨ob, 0, none⟩) l2).trans b2
  have m0 : eb < w1.heap.size := Nat.lt_of_lt_of_le l0 hb1.size
  have m1 : g < w1.heap.size := Nat.lt_of_lt_of_le l1 hb1.size
  have m2 : ob < w1.heap.size := Nat.lt_of_lt_of_le l2 hb1.size
  clear hSh
  refine hK.out _ _ (.inr ⟨k0, k1, k2⟩) (fun hHeld hSh => ?_)
  replace hHeld := hHeld.resolve_left (by decide)
  clear hK K
  try simp only [List.getElem_toArray, List.getElem_cons_succ, List.getElem_cons_zero, Act.put, List.setIfInBounds_toArray, List.set_cons_zero, List.set_cons_succ]
  refine wpAnyX_take (i := 9) (n := 40) (v := ?vv9_9) rfl (by kernel_rfl) (by kernel_rfl) (by kernel_rfl) (fun _ _ _ h => h) (by kernel_rfl) hSh (Or.inl ⟨by rfl, ?yy9_9⟩) (by assumption) ?rr9_9
  case yy9_9 => (intro w hSw; (try dsimp only at hSw); (try simp only [List.getElem_toArray, List.getElem_cons_succ, List.getElem_cons_zero, Act.put, List.setIfInBounds_toArray, List.set_cons_zero, List.set_cons_succ]); go_simp; (try (with_reducible rfl)))
  clear hSh; intro hSh
  try simp only [List.getElem_toArray, List.getElem_cons_succ, List.getElem_cons_zero, Act.put, List.setIfInBounds_toArray, List.set_cons_zero, List.set_cons_succ]
  refine wpAnyX_take (i := 10) (n := 40) (v := ?vv10_10) rfl (by kernel_rfl) (by kernel_rfl) (by kernel_rfl) (fun _ _ _ h => h) (by kernel_rfl) hSh (Or.inl ⟨by rfl, ?yy10_10⟩) (by assumption) ?rr10_10
  case yy10_10 => (intro w hSw; (try dsimp only at hSw); (try simp only [List.getElem_toArray, List.getElem_cons_succ, List.getElem_cons_zero, Act.put, List.setIfInBounds_toArray, List.set_cons_zero, List.set_cons_succ]); go_simp; (try (with_reducible rfl)))
  clear hSh; intro hSh
  try simp only [List.getElem_toArray, List.getElem_cons_succ, List.getElem_cons_zero, Act.put, List.setIfInBounds_toArray, List.set_cons_zero, List.set_cons_succ]
  have hA := (Below.refl w1.heap.size w1).alloc (Nat.le_refl _) (.cells #[.int .u8 c.toNat, .int .u8 i.toNat, .string (Y ++ s)] 35)
  have n0 := (hA.cell (p := ⟨eb, 0, none⟩) m0).trans k0
  have n1 := (hA.cell (p := ⟨g, 4, none⟩) m1).trans k1
  have n2 := (hA.cell (p := ⟨ob, 0, none⟩) m2).trans k2
  refine wpAnyX_one (i := 11) (by kernel_rfl) rfl hSh (fun K hK => ?_)
  try simp only [List.getElem_toArray, List.getElem_cons_succ, List.getElem_cons_zero, Act.put, List.setIfInBounds_toArray, List.set_cons_zero, List.set_cons_succ]
  go_simp
  clear hSh
  refine hK.out _ _ (.inr ⟨n0, n1, n2⟩) (fun hHeld hSh => ?_)
  replace hHeld := hHeld.resolve_left (by decide)
  clear hK K
  try simp only [List.getElem_toArray, List.getElem_cons_succ, List.getElem_cons_zero, Act.put, List.setIfInBounds_toArray, List.set_cons_zero, List.set_cons_succ]
  refine wpAnyX_one (i := 12) (by kernel_rfl) rfl hSh (fun K hK => ?_)
  refine step_append_any (w1.alloc (.cells #[.int .u8 c.toNat, .int .u8 i.toNat, .string (Y ++ s)] 35)) (by rfl) _ _ 29 (by rfl) w1.heap.size 35 i0 _ 3 24 Try.underlying29 hi hz0 hz1 hz2 rfl (by decide) (.slice none 0 0) 0 [] (by rfl) (World.ownsRow_nil _ _ _ _) ⟨w1.heap.size, 0, none⟩ 1 1 (pksV [⟨c, i, Y ++ s⟩]) (by rfl) (by rfl) (by rw [pksV_one]; exact cells_new _ _ _) (pksV_ones _) (by unfold maxLen; omega) (by omega) (by rw [World.size_alloc]; omega) ?_
  intro v2 w2 hown2 hgr2 _
  obtain ⟨R1, rc1, hv2⟩ := own_slice hown2
  subst hv2
  have q0 := hgr2.cell n0 (by intro e; cases e)
  have q1 := hgr2.cell n1 (by intro e; cases e)
  have q2 := hgr2.cell n2 (by intro e; cases e)
  have HO2 : Hid (Blk w2 ob [.slice none 0 0] 29) := (hgr2.block ob (by rw [World.size_alloc]; omega) (by intro e; cases e)).trans ((Blk.callee HO.out hb1).alloc _)
  have f2 := HO2.out.frozen 0
  have HM2 := Lib.hid ((Moves.of_below (S := fun k => k = ob) hb1).trans (((Moves.refl (fun k => k = ob) w1).alloc (.cells #[.int .u8 c.toNat, .int .u8 i.toNat, .string (Y ++ s)] 35)).trans (Moves.of_grown hgr2 (fun k e _ => by cases e)) (fun _ _ e => e)) (fun _ _ e => e))
  have HW2 := Lib.hid hown2
  clear hown2 hgr2 hA
  clear hSh
  refine hK.out _ _ (.inr ⟨q0, q1, q2⟩) (fun hHeld hSh => ?_)
  replace hHeld := hHeld.resolve_left (by decide)
  clear hK K
  try simp only [List.getElem_toArray, List.getElem_cons_succ, List.getElem_cons_zero, Act.put, List.setIfInBounds_toArray, List.set_cons_zero, List.set_cons_succ]
  refine wpAnyX_one (i := 13) (by kernel_rfl) rfl hSh (fun K hK => ?_)
  try simp only [List.getElem_toArray, List.getElem_cons_succ, List.getElem_cons_zero, Act.put, List.setIfInBounds_toArray, List.set_cons_zero, List.set_cons_succ]
  go_simp
  clear hSh
  refine hK.out _ _ (.inl rfl) (fun hHeld hSh => ?_)
  clear hK K
  try simp only [List.getElem_toArray, List.getElem_cons_succ, List.getElem_cons_zero, Act.put, List.setIfInBounds_toArray, List.set_cons_zero, List.set_cons_succ]
  refine wpAnyX_done (by kernel_rfl) ?_ _
  -- behind the region
  go_wp2
  go_end0
  refine ⟨rfl, R1, rc1, HO2.out.set 0 _, ?_, HM2.out.setCell ⟨ob, 0, none⟩ (fun _ => rfl) _⟩
  have hr : w2.ownsRow w1.heap.size 35 3 (.slice R1 1 rc1) 1 (pksV [⟨c, i, Y ++ s⟩]) := by simpa using HW2.out
  exact own_mono ((set1_moves w2 ob 0 _).row hr (fun k hk e => by subst e; exact cells_not_row HO2.out (by decide) hr hk)) hb1.size
end Go.Proofs.Ytimndcfhilcgfaa.Ech
