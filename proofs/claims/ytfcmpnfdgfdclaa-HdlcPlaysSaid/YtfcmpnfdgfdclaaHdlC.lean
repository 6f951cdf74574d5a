/- Contracts of package hdlc's Inside, Heard, and of what is asked of a piece. -/
import Derived.Test.YtfcmpnfdgfdclaaHdlB
import Derived.Test.YtfcmpnfdgfdclaaFcsF
import Derived.BigRegion
import Derived.StillTailTactics
namespace Go.Proofs.Ytfcmpnfdgfdclaa.Hdl
open Go.RowKit Go.Proofs.Ytfcmpnfdgfdclaa.Oct Go.Proofs.Ytfcmpnfdgfdclaa.Row Go.Proofs.Ytfcmpnfdgfdclaa.Esc Go.Proofs.Ytfcmpnfdgfdclaa.Fcs

set_option maxHeartbeats 400000 in
theorem inside_nil (w : World) : Calls Try.prog 12 #[.pointer none] w fun e w' => e = .returned (.bool false) ∧ w = w' := by
  go_enter Try.func12, Try.ntmps12
  go_wp2
  go_ret
  exact ⟨rfl, rfl⟩
def inside (r : St) : Bool := !r.piece.isEmpty
set_option maxHeartbeats 400000 in
theorem inside_any (n₀ g : Nat) (r : St) (v : Value) (w : World) (hR : Recv w n₀ g r v) :
    Calls Try.prog 12 #[.pointer (some ⟨g, 0, none⟩)] w fun e w' => e = .returned (.bool (inside r)) ∧ w = w' := by
  have hc8 : w.cell? ⟨g, 8, none⟩ = some v := (cellR hR.2.1 8).1
  obtain ⟨A, c, rfl⟩ := own_slice hR.2.2
  have hl := cutp_length r.piece
  clear hR
  generalize (cutp r.piece).length = q at *
  by_cases h : r.piece = []
  · have H : Hid (inside r = false) := by show _ = _; unfold inside; rw [h]; rfl
    rw [h] at hl
    obtain rfl : q = 0 := by simpa using hl
    clear h hl
    rw [H.out]
    go_enter Try.func12, Try.ntmps12
    go_wp2
    go_ret
    exact ⟨rfl, rfl⟩
  · have H : Hid (inside r = true) := by show _ = _; unfold inside; cases hp : r.piece; exact absurd hp h; rfl
    have h0 : 0 < r.piece.length := List.length_pos_iff.2 h
    have hq : 0 < q := by omega
    clear h hl h0
    rw [H.out]
    go_enter Try.func12, Try.ntmps12
    go_wp2
    go_ret
    exact ⟨rfl, rfl⟩

def heardV (r : St) : Value := .agg #[.int .i64 r.c0, .int .i64 r.c1, .int .i64 r.c2, .int .i64 r.c3, .int .i64 r.c4]
set_option maxHeartbeats 400000 in
set_option maxRecDepth 100000 in
theorem heard_nil (w : World) : Calls Try.prog 11 #[.pointer none] w fun e w' => e = .returned (.agg #[.int .i64 0, .int .i64 0, .int .i64 0, .int .i64 0, .int .i64 0]) ∧ Below w.heap.size w w' := by
  go_enter Try.func11, Try.ntmps11
  go_wp2
  exact bodyPost_ret (v := .agg #[.int .i64 0, .int .i64 0, .int .i64 0, .int .i64 0, .int .i64 0]) (by simp [results, Try.results11, go_sem]) rfl ⟨rfl, (Below.refl _ _).alloc (Nat.le_refl _) _⟩
set_option maxHeartbeats 1000000 in
set_option maxRecDepth 100000 in
theorem heard_any (n₀ g : Nat) (r : St) (v : Value) (w : World) (hR : Recv w n₀ g r v) :
    Calls Try.prog 11 #[.pointer (some ⟨g, 0, none⟩)] w fun e w' => e = .returned (heardV r) ∧ Below w.heap.size w w' := by
  have hlt := hR.lt
  have hc0 : w.cell? ⟨g, 0, none⟩ = some (.int .i64 r.c0) := (cellR hR.2.1 0).1
  have hc1 : w.cell? ⟨g, 1, none⟩ = some (.int .i64 r.c1) := (cellR hR.2.1 1).1
  have hc2 : w.cell? ⟨g, 2, none⟩ = some (.int .i64 r.c2) := (cellR hR.2.1 2).1
  have hc3 : w.cell? ⟨g, 3, none⟩ = some (.int .i64 r.c3) := (cellR hR.2.1 3).1
  have hc4 : w.cell? ⟨g, 4, none⟩ = some (.int .i64 r.c4) := (cellR hR.2.1 4).1
  clear hR
  unfold heardV
  generalize r.c0 = k0 at *
  generalize r.c1 = k1 at *
  generalize r.c2 = k2 at *
  generalize r.c3 = k3 at *
  generalize r.c4 = k4 at *
  go_enter Try.func11, Try.ntmps11
  go_wp2
  go_region
  go_wp2
  exact bodyPost_ret (v := .agg #[.int .i64 k0, .int .i64 k1, .int .i64 k2, .int .i64 k3, .int .i64 k4]) (by simp [results, Try.results11, go_sem]) rfl ⟨rfl, ((Below.refl _ _).alloc (Nat.le_refl _) _).drew⟩

/-- Whether a text ends in a mark. -/
def endsMark (s : ByteArray) : Bool := s.toList.getLast? == some 125
theorem last_ext (s : ByteArray) (h : ¬ s.size = 0) : ((s.extract (s.size - 1) s.size).toList == [125]) = endsMark s := by
  unfold endsMark
  rw [toList_extract]
  have hl := size_toList s
  generalize s.toList = l at *
  rcases List.eq_nil_or_concat l with rfl | ⟨i, b, rfl⟩
  · exact absurd (by simpa using hl) h
  · rw [List.concat_eq_append] at *
    have h1 : s.size = i.length + 1 := by rw [hl]; simp
    have h2 : s.size - 1 = i.length := by omega
    have h3 : s.size - i.length = 1 := by omega
    rw [h2, List.drop_left, List.getLast?_append, h3]
    by_cases e : b = 125 <;> simp [e]
set_option maxHeartbeats 400000 in
theorem suffix_lite (s : ByteArray) (w : World) (hs : s.size ≤ 1048576) :
    Calls Try.prog 51 #[.string s, .string ⟨#[125]⟩] w fun e w' => e = .returned (.bool (endsMark s)) ∧ w = w' := by
  by_cases h : s.size = 0
  · have H : Hid (endsMark s = false) := by
      show _ = _
      unfold endsMark
      rw [show s.toList = [] from List.eq_nil_of_length_eq_zero (by rw [← size_toList]; exact h)]
      rfl
    rw [H.out]
    have hd : decide (1 ≤ (s.size : Int)) = false := decide_eq_false (by omega)
    have Hh := Lib.hid h; clear h
    go_enter Try.func51, Try.ntmps51
    go_wp2
    go_ret
    exact ⟨rfl, rfl⟩
  · have H := Lib.hid (last_ext s h)
    have h1 : 1 ≤ s.size := by omega
    clear h
    go_enter Try.func51, Try.ntmps51
    go_wp2
    go_ret
    rw [← H.out]
    exact ⟨rfl, rfl⟩
set_option maxHeartbeats 400000 in
theorem suffix_any (s : ByteArray) (w : World) (hs : s.size ≤ 1048576) :
    Calls Try.prog 38 #[.string s, .string ⟨#[125]⟩] w fun e w' => e = .returned (.bool (endsMark s)) ∧ w = w' := by
  have Hs := Lib.hid hs; clear hs
  go_enter Try.func38, Try.ntmps38
  go_wp2_with fail
  refine (suffix_lite s _ Hs.out).mono ?_
  rintro e w' ⟨rfl, rfl⟩
  go_wp2
  go_ret
  exact ⟨rfl, rfl⟩
end Go.Proofs.Ytfcmpnfdgfdclaa.Hdl
