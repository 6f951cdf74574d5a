/- Contract of package reject's fill: texts are put together as far as there is space. -/
import Derived.Test.YtikcgcgbcolndaaGreatRejA
import Derived.Test.YtikcgcgbcolndaaGreatBldW
namespace Go.Proofs.YtikcgcgbcolndaaGreat.Rej
open Go.RowKit Go.Proofs.YtikcgcgbcolndaaGreat.Oct Go.Proofs.YtikcgcgbcolndaaGreat.Row Go.Proofs.YtikcgcgbcolndaaGreat.Mem Go.Proofs.YtikcgcgbcolndaaGreat.Pkt Go.Proofs.YtikcgcgbcolndaaGreat.Bld

/-- What is there ahead of the k-th text: the space that is left, the builder, and the texts. -/
def Fill (w wr : World) (g m k : Nat) (A : Option Addr) (n : Nat) (l : List ByteArray) : Prop :=
  Boxed wr g 3 (.int .i64 (sp m - ((cat (l.take k)).take (sp m)).length : Nat)) ∧ Bld wr (g + 1) (g + 1) ((cat (l.take k)).take (sp m)) ∧ Below g w wr ∧ Strs wr g A n l
theorem int_not_row {w : World} {g : Nat} {v : Value} (h : Boxed w g 3 v) : ∀ k, k = g → ∀ c fz, w.heap[k]? ≠ some (.cells c 5 fz) := by
  rintro k rfl c fz e
  have h' : w.heap[k]? = some (.cells #[v] 3 (0, 0)) := h
  rw [h'] at e
  simp at e
theorem fill_new (w : World) (m : Nat) (A : Option Addr) (n : Nat) (l : List ByteArray) (hl : Strs w w.heap.size A n l) :
    Fill w ((w.alloc (.cells #[.int .i64 (sp m : Nat)] 3)).alloc (.cells #[.pointer none, .slice none 0 0] 218)) w.heap.size m 0 A n l := by
  have h1 := (blk_new w [.int .i64 (sp m : Nat)] 3).alloc (.cells #[.pointer none, .slice none 0 0] 218)
  have h2 := bld_new (w.alloc (.cells #[.int .i64 (sp m : Nat)] 3)) (w.heap.size + 1) (by rw [World.size_alloc]; exact Nat.le_refl _)
  rw [World.size_alloc] at h2
  have hb : Below w.heap.size w ((w.alloc (.cells #[.int .i64 (sp m : Nat)] 3)).alloc (.cells #[.pointer none, .slice none 0 0] 218)) :=
    ((Below.refl w.heap.size w).alloc (Nat.le_refl _) _).alloc (by rw [World.size_alloc]; exact Nat.le_succ _) _
  have h0 : (cat (l.take 0)).take (sp m) = [] := by rw [List.take_zero, cat_nil, List.take_nil]
  unfold Fill
  rw [h0]
  exact ⟨h1, h2, hb, hl.below hb⟩

set_option maxHeartbeats 2000000 in
set_option maxRecDepth 100000 in
theorem fill_any (m : Nat) (A : Option Addr) (n c : Nat) (l : List ByteArray) (w : World) (hm0 : 64 ≤ m) (hm1 : m ≤ 65535) (hn : n ≤ maxLen) (hl : Strs w w.heap.size A n l) :
    Calls Tryz.prog 114 #[.int .i64 m, .slice A n c] w fun e w' => e = .returned (.string (bOf ((cat l).take (sp m)))) ∧ Below w.heap.size w w' := by
  have HN := Lib.hid (fill_new w m A n l hl)
  have Hl := Lib.hid hl.1
  clear hl
  have hmin : (min ((m : Int) - 4) 1496) = ((sp m : Nat) : Int) := by unfold sp; omega
  unfold maxLen at hn
  go_enter Tryz.func114, Tryz.ntmps114
  go_wp2
  generalize hg : w.heap.size = g at *
  have HG := Lib.hid hg
  clear hg
  go_loopw [16] (fun i wr => ∃ k : Nat, k ≤ n ∧ i = .int .i64 k ∧ Hid (Fill w wr g m k A n l)) (fun i _ => n - (intOf i).toNat)
  case atStart => exact ⟨0, Nat.zero_le _, rfl, HN⟩
  case round =>
    obtain ⟨k, hk, rfl, HF⟩ := hrel
    by_cases hlt : k < n
    · obtain ⟨ad, t, rfl, hB, ht, htl, hc⟩ := HF.out.2.2.2.at_ hlt
      have HC := Lib.hid (fun w => cut_any g (sp m - ((cat (l.take k)).take (sp m)).length) t w (by have := sp_le m; omega) htl)
      have HW := Lib.hid (fun w => write_any (g + 1) (g + 1) ((cat (l.take k)).take (sp m)) (bOf (t.toList.take (sp m - ((cat (l.take k)).take (sp m)).length))) w)
      have HX : Hid ((cat (l.take k)).take (sp m) ++ (bOf (t.toList.take (sp m - ((cat (l.take k)).take (sp m)).length))).toList = (cat (l.take (k + 1))).take (sp m)) := by
        show _ = _
        rw [toList_bOf, take_more, cat_more ht]
      have HZ : Hid (sp m - ((cat (l.take k)).take (sp m)).length - (t.toList.take (sp m - ((cat (l.take k)).take (sp m)).length)).length = sp m - ((cat (l.take (k + 1))).take (sp m)).length) := by
        show _ = _
        rw [← HX.out, toList_bOf, List.length_append]; omega
      have hz1 : ((cat (l.take k)).take (sp m)).length + (bOf (t.toList.take (sp m - ((cat (l.take k)).take (sp m)).length))).size ≤ 140737488355328 := by
        have h1 := List.length_take_le (sp m) (cat (l.take k))
        have h2 := List.length_take_le (sp m - ((cat (l.take k)).take (sp m)).length) t.toList
        have := sp_le m
        rw [size_bOf]; omega
      have Hz := Lib.hid hz1
      clear hz1 ht
      generalize bOf (t.toList.take (sp m - ((cat (l.take k)).take (sp m)).length)) = Y at *
      go_wp2_with fail
      refine (HC.out _ HF.out.1).mono ?_
      rintro e w1 ⟨rfl, hx1, hx2, hx3⟩
      have HD : Hid (Bld w1 (g + 1) (g + 1) ((cat (l.take k)).take (sp m))) := HF.out.2.1.kept hx2 (by omega) (int_not_row HF.out.1)
      have HG1 : Hid (Below g wr w1) := hx2.below (Nat.le_of_lt HF.out.1.lt) (fun k hk => by omega)
      have HB1 := Lib.hid hx1
      clear hx1 hx2 hx3
      go_wp2_with fail
      refine (HW.out _ HD.out Hz.out).mono ?_
      rintro e w2 ⟨rfl, hy1, hy2⟩
      have HF2 : Hid (Fill w w2 g m (k + 1) (some ad) n l) := by
        have hb := HG1.out.trans (hy2.mono (Nat.le_succ g))
        refine ⟨?_, ?_, HF.out.2.2.1.trans hb, HF.out.2.2.2.below hb⟩
        · rw [← HZ.out]; exact Blk.below (cs := [_]) HB1.out hy2 (Nat.lt_succ_self g)
        · rw [← HX.out]; exact hy1
      clear HX HZ HB1 HG1 HD HC HW Hz hy1 hy2
      go_wp2
      go_roundw
      case rel => exact ⟨k + 1, by omega, by go_num, HF2⟩
      case measure => simp [intOf]; omega
    · obtain rfl : k = n := by omega
      have HS := Lib.hid (string_any _ _ _ wr HF.out.2.1)
      rw [show l.take k = l from List.take_of_length_le (by rw [Hl.out]; exact Nat.le_refl _)] at HS
      go_wp2_with fail
      refine HS.out.mono ?_
      rintro e w1 ⟨rfl, hb⟩
      go_wp2
      go_ret
      exact ⟨rfl, by rw [HG.out]; exact HF.out.2.2.1.trans (hb.mono (Nat.le_succ _))⟩
end Go.Proofs.YtikcgcgbcolndaaGreat.Rej
