/- The contracts of Get, Same, Long by rows. -/
import Derived.Test.YtikcgcgbcolndaaGreatLcoK
import Derived.Test.YtikcgcgbcolndaaGreatG18
import Derived.Test.YtikcgcgbcolndaaGreatG6
import Derived.Test.YtikcgcgbcolndaaGreatG16
namespace Go.Proofs.YtikcgcgbcolndaaGreat.Lco
open Go.RowKit Go.Proofs.YtikcgcgbcolndaaGreat.Oct Go.Proofs.YtikcgcgbcolndaaGreat.Row Go.Proofs.YtikcgcgbcolndaaGreat.Mem Go.Proofs.YtikcgcgbcolndaaGreat.Opt

theorem get_row (l : List Opt) (A : Option Addr) (n c : Nat) (w : World) (hl : Opts w w.heap.size A n l) (hn : n ≤ 1000) : Calls Tryz.prog 153 #[.slice A n c] w (GetQ l w) := get_any l _ A n c w hl hn (Nat.le_refl _)
theorem getQ_some {l : List Opt} {x : Lcp} {odd : List Opt} (h : st l = some (x, odd)) {w : World} {e : Ending} {w' : World} (hq : GetQ l w e w') : ∃ A c, e = .returned (.tuple #[.agg (lv x).toArray, .slice A odd.length c, .int .i64 0]) ∧ Opts w' w'.heap.size A odd.length odd ∧ Below w.heap.size w w' := by
  unfold GetQ at hq
  rw [(get_some h).1, (get_some h).2.1, (get_some h).2.2] at hq
  exact hq
theorem one_opt (w : World) (o : Opt) (hz : o.2.size ≤ 140737488351232) : Opts (w.alloc (.cells #[.int .u8 o.1.toNat, .string o.2] 110)) (w.alloc (.cells #[.int .u8 o.1.toNat, .string o.2] 110)).heap.size (some ⟨w.heap.size, 0, none⟩) 1 [o] := by
  refine ⟨rfl, fun p hp => by rw [List.mem_singleton] at hp; rw [hp]; exact hz, fun _ => ⟨_, rfl, by simp, fun j hj => ?_⟩⟩
  obtain rfl : j = 0 := by simp at hj; omega
  have h := at_new w o.1 o.2
  exact ⟨h.c0, h.c1⟩
/-- What Get has answered. -/
def GetC (y : Lcp) (odd : List Opt) (E : Nat) (w : World) (e : Ending) (w' : World) : Prop := ∃ A c, e = .returned (.tuple #[.agg #[Value.bool y.hm, .int .u16 y.mru.toNat, .bool y.ha, .int .u32 y.accm.toNat, .int .u8 y.auth.toNat, .bool y.hg, .int .u32 y.magic.toNat, .bool y.pfc, .bool y.acfc], .slice A odd.length c, .int .i64 E]) ∧ Opts w' w'.heap.size A odd.length odd ∧ Below w.heap.size w w'
theorem get_c (l : List Opt) (A : Option Addr) (n c : Nat) (w : World) (hl : Opts w w.heap.size A n l) (hn : n ≤ 1000) : Calls Tryz.prog 153 #[.slice A n c] w (GetC (gL l) (gO l) (gE l) w) := get_row l A n c w hl hn
theorem gO_len (l : List Opt) : (gO l).length ≤ l.length := by
  unfold gO
  cases h : st l with
  | none => exact Nat.zero_le _
  | some p =>
    obtain ⟨x, o⟩ := p
    obtain ⟨_, rfl, _⟩ := st_some h
    exact List.length_filter_le _ _
end Go.Proofs.YtikcgcgbcolndaaGreat.Lco
