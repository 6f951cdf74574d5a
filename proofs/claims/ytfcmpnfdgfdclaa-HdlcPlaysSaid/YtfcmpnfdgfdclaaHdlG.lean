/- Contracts of package hdlc's Copy, and of slices.Clone. -/
import Derived.Test.YtfcmpnfdgfdclaaHdlF
import Derived.Lib.SliceRun
namespace Go.Proofs.Ytfcmpnfdgfdclaa.Hdl
open Go.RowKit Go.Proofs.Ytfcmpnfdgfdclaa.Oct Go.Proofs.Ytfcmpnfdgfdclaa.Row Go.Proofs.Ytfcmpnfdgfdclaa.Esc Go.Proofs.Ytfcmpnfdgfdclaa.Fcs

def CloneP (l : List UInt8) (w : World) (e : Ending) (w' : World) : Prop := ∃ v', e = .returned v' ∧ w'.ownsRow w.heap.size 5 1 v' l.length (bytesV l) ∧ Below w.heap.size w w'
set_option maxHeartbeats 1000000 in
set_option maxRecDepth 100000 in
theorem clone_any (n₀ : Nat) (v : Value) (l : List UInt8) (w : World) (hO : w.ownsRow n₀ 5 1 v l.length (bytesV l)) (hl : l.length ≤ 1048576) :
    Calls Try.prog 29 #[v] w (CloneP l w) := by
  obtain ⟨i0, hi, hz0, hz1, hz2⟩ := info_parts Try.info5
  rcases hO.2 with ⟨rfl, h0⟩ | ⟨gg, cap, cur, rfl, hb, hgg, h1, h2, h3, h4⟩
  · obtain rfl := List.eq_nil_of_length_eq_zero h0
    clear hO h0
    have hq : (binOp .eql 46 (.slice none 0 0) (.slice none 0 0)).run Try.prog w = .ok (.bool true) w := Lib.run_eql_slice_nil w 46 5 none 0 0 0 0 Try.underlying46
    go_enter Try.func29, Try.ntmps29
    go_wp2
    go_ret
    exact ⟨_, rfl, World.ownsRow_nil _ _ _ _, Below.refl _ _⟩
  · have HO := Lib.hid hO; clear hO
    have Hgg := Lib.hid hgg; clear hgg
    have H3 := Lib.hid h3; clear h3
    have H4 := Lib.hid h4; clear h4
    have hlt := (Array.getElem?_eq_some_iff.1 Hgg.out).1
    have HN : Hid ((w.alloc (.cells #[] 5)).ownsRow w.heap.size 5 1 (.slice (some ⟨w.heap.size, 0, none⟩) 0 0) 0 []) := World.ownsRow_made w #[] 0 (Nat.le_refl _) (Nat.zero_le _) rfl
    have HS : Hid (∀ j u, (bytesV l)[j]? = some u → (w.alloc (.cells #[] 5)).cell? ((⟨gg, 0, none⟩ : Addr).add j) = some u) := by
      intro j u hu
      rw [show ((⟨gg, 0, none⟩ : Addr).add j) = ⟨gg, j, none⟩ by rw [add_zero_at]; simp]
      rw [World.cell?_alloc_past _ _ _ hlt, HO.out.cellAt j (by have := (List.getElem?_eq_some_iff.1 hu).1; rw [bytesV_length] at this; omega)]
      exact hu
    have hq : (binOp .eql 46 (.slice (some ⟨gg, 0, none⟩) l.length cap) (.slice none 0 0)).run Try.prog w = .ok (.bool false) w := Lib.run_eql_slice_nil w 46 5 _ _ _ 0 0 Try.underlying46
    go_enter Try.func29, Try.ntmps29
    go_wp2_with (at_builtin; refine wpList_append_own_at _ rfl _ _ 46 rfl w.heap.size 5 i0 (.int .u8 0) 1 1 Try.underlying46 hi hz0 hz1 hz2 rfl (by decide) (.slice (some ⟨w.heap.size, 0, none⟩) 0 0) 0 [] rfl HN.out ⟨gg, 0, none⟩ l.length cap (bytesV l) rfl (by rw [bytesV_length, Nat.mul_one]) HS.out (bytesV_one _) (by unfold maxLen; omega) (by omega) (by simp) ?_; intro v2 w2 hown2 hgr2 _ hor2; have Hown2 := Lib.hid hown2; clear hown2; have Hgr2 := Lib.hid hgr2; clear hgr2)
    go_ret
    refine ⟨v2, rfl, ?_, ((Below.refl _ w).alloc (Nat.le_refl _) _).grown Hgr2.out (by simp) (fun k hk => by cases hk; exact Nat.le_refl _)⟩
    have := Hown2.out
    rw [Nat.zero_add, List.nil_append] at this
    exact this

def CopyP (r : St) (w : World) (e : Ending) (w' : World) : Prop := e = .returned (.pointer (some ⟨w.heap.size, 0, none⟩)) ∧ ∃ v', Recv w' w.heap.size w.heap.size r v' ∧ Below w.heap.size w w'
set_option maxHeartbeats 400000 in
theorem copy_nil (w : World) : Calls Try.prog 13 #[.pointer none] w fun e w' => e = .returned (.pointer none) ∧ w = w' := by
  go_enter Try.func13, Try.ntmps13
  go_wp2
  go_ret
  exact ⟨rfl, rfl⟩
set_option maxHeartbeats 1000000 in
set_option maxRecDepth 100000 in
theorem copy_any (n₀ g : Nat) (r : St) (v : Value) (w : World) (hR : Recv w n₀ g r v) :
    Calls Try.prog 13 #[.pointer (some ⟨g, 0, none⟩)] w (CopyP r w) := by
  have HR := Lib.hid hR
  have hlt := hR.lt
  have hc0 : w.cell? ⟨g, 0, none⟩ = some (.int .i64 r.c0) := (cellR hR.2.1 0).1
  have hc1 : w.cell? ⟨g, 1, none⟩ = some (.int .i64 r.c1) := (cellR hR.2.1 1).1
  have hc2 : w.cell? ⟨g, 2, none⟩ = some (.int .i64 r.c2) := (cellR hR.2.1 2).1
  have hc3 : w.cell? ⟨g, 3, none⟩ = some (.int .i64 r.c3) := (cellR hR.2.1 3).1
  have hc4 : w.cell? ⟨g, 4, none⟩ = some (.int .i64 r.c4) := (cellR hR.2.1 4).1
  have hc5 : w.cell? ⟨g, 5, none⟩ = some (.int .i64 r.most) := (cellR hR.2.1 5).1
  have hc6 : w.cell? ⟨g, 6, none⟩ = some (.int .u32 r.accm) := (cellR hR.2.1 6).1
  have hc7 : w.cell? ⟨g, 7, none⟩ = some (.bool r.begun) := (cellR hR.2.1 7).1
  have hc8 : w.cell? ⟨g, 8, none⟩ = some v := (cellR hR.2.1 8).1
  obtain ⟨A, c, rfl⟩ := own_slice hR.2.2
  have hq : (cutp r.piece).length ≤ 3021 := by rw [cutp_length]; omega
  clear hR
  go_enter Try.func13, Try.ntmps13
  go_wp2_with fail
  refine (clone_any n₀ (.slice A (cutp r.piece).length c) (cutp r.piece) _ (HR.out.2.2.alloc _) (by omega)).mono ?_
  rintro e w1 ⟨v1, rfl, hO1, hb1⟩
  have HO1 := Lib.hid hO1; clear hO1
  obtain ⟨A1, c1, rfl⟩ := own_slice HO1.out
  have hg1 : w1.heap[w.heap.size]? = some (.cells (cellsR r (.slice A (cutp r.piece).length c)) 66 (0, 0)) := (hb1.block _ (by simp)).trans (World.alloc_heap_new w _)
  have hb2 : Below w.heap.size w w1 := ((Below.refl _ w).alloc (Nat.le_refl _) _).trans (hb1.mono (by simp))
  have Hb2 := Lib.hid hb2; clear hb2 hb1
  have Hg1 := Lib.hid hg1
  have hc81 : w1.cell? ⟨w.heap.size, 8, none⟩ = some (.slice A (cutp r.piece).length c) := (cellR hg1 8).1
  have hf81 := (cellR hg1 8).2
  clear hg1
  go_wp2
  go_ret
  refine ⟨rfl, .slice A1 (cutp r.piece).length c1, recv_turn (Nat.le_refl _) Hg1.out rfl ?_, Hb2.out.setCell (p := ⟨w.heap.size, 8, none⟩) (Nat.le_refl _) _⟩
  have h := HO1.out
  exact ⟨h.1, by
    rcases h.2 with h | ⟨gg, cap, cur, h, hb, rest⟩
    · exact .inl h
    · exact .inr ⟨gg, cap, cur, h, by simp at hb; omega, rest⟩⟩
end Go.Proofs.Ytfcmpnfdgfdclaa.Hdl
