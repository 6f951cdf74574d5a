/- A packet that is returned, in a block of its own; a new row of texts. Of no function. -/
import Derived.Test.YtpfbknbloeilmaaDoorBlk
namespace Go.Proofs.YtpfbknbloeilmaaDoor.Mem
open Go.RowKit Go.Proofs.YtpfbknbloeilmaaDoor.Oct Go.Proofs.YtpfbknbloeilmaaDoor.Row

/-- A named result that is a struct in a block of its own, and one more. -/
theorem results_row1 {P : Program} {fn : Func} {p t : Tmp} {ty : TypeId} (h : fn.results = #[.cell p ty, .tmp t]) (tmps : Array Value) (w : World) (g : Nat) (cs : List Value) (tb : TypeId) (d : TypeDesc)
    (hp : tmps.getD p undef = .pointer (some ⟨g, 0, none⟩)) (hg : Blk w g cs tb) (hu : P.underlying ty = some d) (hd : (match d with | .struct _ | .array _ _ => true | _ => false) = true) (hi : (P.info? ty).map (·.size) = some cs.toArray.size) :
    (results fn tmps).run P w = .ok (.tuple #[.agg cs.toArray, tmps.getD t undef]) w := by
  have hp' : tmps[p]?.getD undef = .pointer (some ⟨g, 0, none⟩) := by simpa using hp
  simp only [List.size_toArray] at hi
  simp [results, h, hp', asAddr, run_loadVar_row w g tb ty cs.toArray (0, 0) d hg hu hd (by simpa using hi)]

/-- The block of a packet that will be returned, which nothing was stored into. -/
def Res (w W : World) (g : Nat) : Prop := Blk W g [.int .u8 0, .int .u8 0, .string ⟨#[]⟩] 46 ∧ Below w.heap.size w W ∧ w.heap.size ≤ g
theorem res_one (w : World) : ∃ W, w.alloc (.cells #[.int .u8 0, .int .u8 0, .string ⟨#[]⟩] 46) = W ∧ Hid (Res w W w.heap.size) :=
  ⟨_, rfl, blk_new w [.int .u8 0, .int .u8 0, .string ⟨#[]⟩] 46, (Below.refl w.heap.size w).alloc (Nat.le_refl _) _, Nat.le_refl _⟩
theorem res_two (w : World) (c i : UInt8) (s : ByteArray) : ∃ W, (w.alloc (.cells #[.int .u8 c.toNat, .int .u8 i.toNat, .string s] 46)).alloc (.cells #[.int .u8 0, .int .u8 0, .string ⟨#[]⟩] 46) = W ∧ Hid (Res w W (w.heap.size + 1) ∧ Blk W w.heap.size [.int .u8 c.toNat, .int .u8 i.toNat, .string s] 46) := by
  refine ⟨_, rfl, ⟨?_, ((Below.refl w.heap.size w).alloc (Nat.le_refl _) _).alloc (by rw [World.size_alloc]; exact Nat.le_succ _) _, Nat.le_succ _⟩, ?_⟩
  · have := blk_new (w.alloc (.cells #[.int .u8 c.toNat, .int .u8 i.toNat, .string s] 46)) [.int .u8 0, .int .u8 0, .string ⟨#[]⟩] 46
    rw [World.size_alloc] at this
    exact this
  · exact (blk_new w [.int .u8 c.toNat, .int .u8 i.toNat, .string s] 46).alloc _
theorem Res.lt {w W : World} {g : Nat} (h : Res w W g) : g < W.heap.size := h.1.lt
theorem Res.size {w W : World} {g : Nat} (h : Res w W g) : w.heap.size ≤ W.heap.size := h.2.1.size
theorem Res.callee {w W W' : World} {g : Nat} (h : Res w W g) (hb : Below W.heap.size W W') : Res w W' g := ⟨h.1.callee hb, h.2.1.trans (hb.mono h.size), h.2.2⟩
theorem Res.alloc {w W : World} {g : Nat} (h : Res w W g) (o : Obj) : Res w (W.alloc o) g := ⟨h.1.alloc o, h.2.1.alloc h.size o, h.2.2⟩
theorem Res.put {w W : World} {g : Nat} (h : Res w W g) (a b : Int) (s : ByteArray) :
    Blk (((W.setCell ⟨g, 0, none⟩ (.int .u8 a)).setCell ⟨g, 1, none⟩ (.int .u8 b)).setCell ⟨g, 2, none⟩ (.string s)) g [.int .u8 a, .int .u8 b, .string s] 46 ∧
    Below w.heap.size w (((W.setCell ⟨g, 0, none⟩ (.int .u8 a)).setCell ⟨g, 1, none⟩ (.int .u8 b)).setCell ⟨g, 2, none⟩ (.string s)) :=
  ⟨((h.1.set 0 (.int .u8 a)).set 1 (.int .u8 b)).set 2 (.string s), ((h.2.1.setCell (p := ⟨g, 0, none⟩) h.2.2 _).setCell (p := ⟨g, 1, none⟩) h.2.2 _).setCell (p := ⟨g, 2, none⟩) h.2.2 _⟩
theorem Res.c0 {w W : World} {g : Nat} (h : Res w W g) : W.cell? ⟨g, 0, none⟩ = some (.int .u8 0) := h.1.at_ 0
theorem Res.c1 {w W : World} {g : Nat} (h : Res w W g) : W.cell? ⟨g, 1, none⟩ = some (.int .u8 0) := h.1.at_ 1
theorem Res.c2 {w W : World} {g : Nat} (h : Res w W g) : W.cell? ⟨g, 2, none⟩ = some (.string ⟨#[]⟩) := h.1.at_ 2
theorem Res.f {w W : World} {g : Nat} (h : Res w W g) (i : Nat) : W.frozen? ⟨g, i, none⟩ = false := h.1.frozen i

theorem strs_one_new (w : World) (s : ByteArray) (t : TypeId) (hz : s.size ≤ maxLen) : Strs (w.alloc (.cells #[.string s] t)) (w.alloc (.cells #[.string s] t)).heap.size (some ⟨w.heap.size, 0, none⟩) 1 [s] := by
  refine ⟨rfl, by simpa using hz, fun _ => ⟨_, rfl, by show w.heap.size < _; rw [World.size_alloc]; exact Nat.lt_succ_self _, fun j hj => ?_⟩⟩
  exact cells_new w #[.string s] t j _ (by match j, hj with | 0, _ => rfl)
theorem strs_two_new (w : World) (s u : ByteArray) (t : TypeId) (hs : s.size ≤ maxLen) (hu : u.size ≤ maxLen) : Strs (w.alloc (.cells #[.string s, .string u] t)) (w.alloc (.cells #[.string s, .string u] t)).heap.size (some ⟨w.heap.size, 0, none⟩) 2 [s, u] := by
  refine ⟨rfl, by simp [hs, hu], fun _ => ⟨_, rfl, by show w.heap.size < _; rw [World.size_alloc]; exact Nat.lt_succ_self _, fun j hj => ?_⟩⟩
  exact cells_new w #[.string s, .string u] t j _ (by match j, hj with | 0, _ => rfl | 1, _ => rfl)
end Go.Proofs.YtpfbknbloeilmaaDoor.Mem
