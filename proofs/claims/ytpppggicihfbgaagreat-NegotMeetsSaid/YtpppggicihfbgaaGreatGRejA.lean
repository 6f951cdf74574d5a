/- Put together: RejA, BldW, RejB. -/
import Derived.Test.YtpppggicihfbgaaGreatGPure
import Derived.Test.YtpppggicihfbgaaGreatPktT
import Derived.Test.YtpppggicihfbgaaGreatShelf
import Derived.Test.YtpppggicihfbgaaGreatGRow
import Derived.Shelf.Strings.BuilderF
import Derived.WalkKit
import Derived.BigCall
import Derived.Laws.Externs

/- Contracts of package reject's isMru, and of the closure that cuts. -/
namespace Go.Proofs.YtpppggicihfbgaaGreat.Rej
open Go.RowKit Go.Proofs.YtpppggicihfbgaaGreat.Oct Go.Proofs.YtpppggicihfbgaaGreat.Row Go.Proofs.YtpppggicihfbgaaGreat.Mem Go.Proofs.YtpppggicihfbgaaGreat.Pkt

def may (m : Int) : Bool := decide (64 ≤ m) && decide (m ≤ 65535)
set_option maxHeartbeats 400000 in
set_option maxRecDepth 100000 in
theorem mru_any (m : Int) (w : World) :
    Calls Tryz.prog 86 #[.int .i64 m] w fun e w' => e = .returned (.bool (may m)) ∧ w = w' := by
  unfold may
  go_enter Tryz.func86, Tryz.ntmps86
  go_wp2
  all_goals (go_ret; exact ⟨by first | (simp_all; done) | (simp_all; omega), rfl⟩)
theorem tA_nat (s : ByteArray) (k : Nat) : tA s k = bOf (s.toList.take k) ∧ tE k = 0 := by
  unfold tA tE
  rw [if_neg (by omega), if_neg (by omega)]
  exact ⟨rfl, rfl⟩
set_option maxHeartbeats 1000000 in
set_option maxRecDepth 100000 in
theorem cut_any (g k : Nat) (s : ByteArray) (w : World) (hk : k ≤ 65535) (hs : s.size ≤ maxLen) (hb : Boxed w g 3 (.int .i64 k)) :
    Calls Tryz.prog 93 #[.string s, .pointer (some ⟨g, 0, none⟩)] w fun e w' => e = .returned (.string (bOf (s.toList.take k))) ∧ Boxed w' g 3 (.int .i64 (k - (s.toList.take k).length : Nat)) ∧ Moves (fun j => j = g) w w' ∧ w'.heap.size = w.heap.size := by
  have T := Lib.hid (fun w => trim_any s k w hs)
  rw [(tA_nat s k).1, (tA_nat s k).2] at T
  have hz : (bOf (s.toList.take k)).size = (s.toList.take k).length := size_bOf _
  have hle : (s.toList.take k).length ≤ k := List.length_take_le _ _
  have c0 := hb.cell
  have f0 := hb.frozen
  have HB := Lib.hid hb
  clear hb
  generalize (s.toList.take k).length = j at *
  generalize bOf (s.toList.take k) = q at *
  go_enter Tryz.func93, Tryz.ntmps93
  go_wp2_with fail
  refine (T.out _).mono ?_
  rintro e w1 ⟨rfl, rfl⟩
  go_wp2
  go_ret
  have hv : (k : Int) - (j : Int) = ((k - j : Nat) : Int) := by omega
  rw [hv]
  exact ⟨rfl, Blk.set (cs := [_]) HB.out 0 (.int .i64 (k - j : Nat)), (Moves.refl (fun j => j = g) w).setCell ⟨g, 0, none⟩ (fun _ => rfl) _, by simp [World.setCell]⟩
end Go.Proofs.YtpppggicihfbgaaGreat.Rej

/- A strings.Builder of the call's own: its check, and what WriteString leaves, where the library's check is cut off at a copied builder. -/
namespace Go.Proofs.YtpppggicihfbgaaGreat.Bld
open Go.RowKit Go.Proofs.YtpppggicihfbgaaGreat.Oct Go.Proofs.YtpppggicihfbgaaGreat.Row Go.Proofs.YtpppggicihfbgaaGreat.Mem

def Bld (w : World) (B b : Nat) (l : List UInt8) : Prop := Lib.IsBuilderF 196 5 B b (Lib.byteCells l) w
theorem bld_new (w : World) (B : Nat) (hB : B ≤ w.heap.size) : Bld (w.alloc (.cells #[.pointer none, .slice none 0 0] 196)) B w.heap.size [] :=
  Or.inl ⟨hB, .slice none 0 0, World.alloc_heap_new w _, World.ownsRowF_of (World.ownsRow_nil _ _ _ _), by simp [Value.ownBlock]⟩
theorem Bld.kept {w w' : World} {B b : Nat} {l : List UInt8} (h : Bld w B b l) {S : Nat → Prop} (hm : Moves S w w') (hb : ¬ S b) (hr : ∀ k, S k → ∀ c fz, w.heap[k]? ≠ some (.cells c 5 fz)) : Bld w' B b l := by
  have one : ∀ p, Lib.BuilderAtF 196 5 B b p (Lib.byteCells l) w → Lib.BuilderAtF 196 5 B b p (Lib.byteCells l) w' := by
    intro p hp
    have hlt := hp.lt
    obtain ⟨hB, v, hbk, hown, hne⟩ := hp
    refine ⟨hB, v, (hm.block b hlt hb).trans hbk, ⟨hown.1, ?_⟩, hne⟩
    rcases hown.2 with hn | ⟨g, cap, cur, fz, rfl, hBg, hg, rest⟩
    · exact .inl hn
    · exact .inr ⟨g, cap, cur, fz, rfl, hBg, (hm.block g (Array.getElem?_eq_some_iff.1 hg).1 (fun hs => hr g hs _ _ hg)).trans hg, rest⟩
  exact h.elim (fun x => .inl (one _ x)) (fun x => .inr (one _ x))
theorem Bld.lt {w : World} {B b : Nat} {l : List UInt8} (h : Bld w B b l) : b < w.heap.size := h.elim (fun x => x.lt) (fun x => x.lt)
theorem Bld.le {w : World} {B b : Nat} {l : List UInt8} (h : Bld w B b l) : B ≤ b := h.elim (fun x => x.1) (fun x => x.1)
theorem Bld.drewN {w : World} {B b : Nat} {l : List UInt8} (h : Bld w B b l) (k : Nat) : Bld (w.drewN k) B b l := h

set_option maxRecDepth 100000 in
theorem builder_size : ∃ j, Tryz.prog.info? 196 = some j ∧ j.size = 2 := Option.map_eq_some_iff.1 (show (Tryz.prog.info? 196).map (·.size) = some 2 by kernel_rfl)
set_option maxRecDepth 100000 in
theorem byte_info : ∃ i, Tryz.prog.info? 5 = some i ∧ i.zero = some (.int .u8 0) ∧ i.size = 1 ∧ i.bytes = 1 := by
  obtain ⟨i, hi, he⟩ := Option.map_eq_some_iff.1 (show (Tryz.prog.info? 5).map (fun i => (i.zero, i.size, i.bytes)) = some (some (.int .u8 0), 1, 1) by kernel_rfl)
  simp only [Prod.mk.injEq] at he
  exact ⟨i, hi, he⟩

set_option maxHeartbeats 1000000 in
set_option maxRecDepth 100000 in
theorem check_used (b : Nat) (w : World) (h0 : w.cell? ⟨b, 0, none⟩ = some (.pointer (some ⟨b, 0, none⟩))) :
    Calls Tryz.prog 97 #[.pointer (some ⟨b, 0, none⟩)] w fun e w' => e = .returned (.tuple #[]) ∧ w = w' := by
  obtain ⟨j, hj, _⟩ := builder_size
  go_enter Tryz.func97, Tryz.ntmps97
  go_wp2
  rw [Lib.run_neq_ptr_same w _ Tryz.underlying194 hj]
  go_wp2
  go_end0
  exact ⟨rfl, rfl⟩

set_option maxHeartbeats 1000000 in
set_option maxRecDepth 100000 in
theorem check_fresh (b : Nat) (w : World) (h0 : w.cell? ⟨b, 0, none⟩ = some (.pointer none)) (hsh : w.shape? b = some (196, 2)) (hfz : w.frozen? ⟨b, 0, none⟩ = false) :
    Calls Tryz.prog 97 #[.pointer (some ⟨b, 0, none⟩)] w fun e w' => e = .returned (.tuple #[]) ∧ w.setCell ⟨b, 0, none⟩ (.pointer (some ⟨b, 0, none⟩)) = w' := by
  obtain ⟨j, hj, hjs⟩ := builder_size
  go_enter Tryz.func97, Tryz.ntmps97
  go_wp2
  rw [Lib.run_to_unsafe w ⟨b, 0, none⟩ Tryz.underlying194 Tryz.underlying204 hj (by rw [hjs]; decide) hsh (Nat.zero_lt_succ 1)]
  go_wp2
  rw [run_callFunc_extern Tryz.func98 (by kernel_rfl) (by kernel_rfl) (by kernel_rfl) (e := Extern.AbiNoEscape.same) (by kernel_rfl), Lib.run_noEscape]
  go_wp2
  rw [Lib.run_from_unsafe w ⟨b, 0, none⟩ Tryz.underlying204 Tryz.underlying194 hj hsh (by kernel_rfl)]
  go_wp2
  go_end0
  exact ⟨rfl, rfl⟩

theorem check_any (B b : Nat) (l : List UInt8) (w : World) (h : Bld w B b l) :
    Calls Tryz.prog 97 #[.pointer (some ⟨b, 0, none⟩)] w fun e w' => e = .returned (.tuple #[]) ∧ Lib.BuilderAtF 196 5 B b (.pointer (some ⟨b, 0, none⟩)) (Lib.byteCells l) w' ∧ Below B w w' ∧ w'.heap.size = w.heap.size := by
  rcases h with h | h
  · refine (check_fresh b w h.cell0 h.shape h.frozen0).mono ?_
    rintro e w' ⟨rfl, rfl⟩
    exact ⟨rfl, h.used _, (Below.refl B w).setCell (p := ⟨b, 0, none⟩) h.1 _, by simp [World.setCell]⟩
  · refine (check_used b w h.cell0).mono ?_
    rintro e w' ⟨rfl, rfl⟩
    exact ⟨rfl, h, Below.refl B _, rfl⟩

set_option maxHeartbeats 2000000 in
set_option maxRecDepth 100000 in
theorem write_any (B b : Nat) (l : List UInt8) (s : ByteArray) (w : World) (h : Bld w B b l) (hz : l.length + s.size ≤ 140737488355328) :
    Calls Tryz.prog 95 #[.pointer (some ⟨b, 0, none⟩), .string s] w fun e w' => e = .returned (.tuple #[.int .i64 s.size, .nilIface]) ∧ Bld w' B b (l ++ s.toList) ∧ Below B w w' := by
  obtain ⟨i, hi, hz0, hz1, hz2⟩ := byte_info
  have HC := Lib.hid (check_any B b l w h)
  have hBw := Nat.le_trans h.le (Nat.le_of_lt h.lt)
  have hne : 196 ≠ 5 := by decide
  clear h
  go_enter Tryz.func95, Tryz.ntmps95
  go_wp2_with fail
  refine HC.out.mono ?_
  rintro e w1 ⟨rfl, h1, hb1, hsz⟩
  have hlt := h1.lt
  obtain ⟨hB, v, hbk, hown, hv⟩ := h1
  have c1 : w1.cell? ⟨b, 1, none⟩ = some v := by rw [Lib.cell_of_heap hbk]; rfl
  rw [Lib.byteCells_length] at hown
  go_wp2_with (at_builtin; refine Lib.wpList_append_own_stringF _ (by rfl) _ _ 26 9 (by rfl) B 5 i Tryz.underlying26 Tryz.underlying9 hi hz0 hz1 hz2 v l.length _ (by rfl) hown s (by rfl) (by unfold maxLen; omega) hz (by rw [hsz]; exact hBw) ?_)
  intro v' w2 hown' hgrow _
  have hb2 : w2.heap[b]? = some (.cells #[.pointer (some ⟨b, 0, none⟩), v] 196 (0, 0)) := (hgrow.block b hlt (fun e => hv e.symm)).trans hbk
  have f1 : w2.frozen? ⟨b, 1, none⟩ = false := Lib.frozen_of_heap hb2 1
  have d1 : w2.cell? ⟨b, 1, none⟩ = some v := by rw [Lib.cell_of_heap hb2]; rfl
  have hE := Lib.BuilderAtF.put (T := 196) (e := 5) (bs' := Lib.byteCells (l ++ s.toList)) (v' := v') hB hb2 (by
    rw [Lib.byteCells_length, Lib.byteCells_append, List.length_append, ← size_toList]
    rw [Lib.strCells_eq, ← ByteArray.toList_eq] at hown'
    exact hown') hne
  have HE := Lib.hid hE
  have HB : Hid (Below B w (w2.setCell ⟨b, 1, none⟩ v')) := (hb1.grown hgrow (by rw [hsz]; exact hBw) (fun k hk => (hown.lt k hk).1)).setCell (p := ⟨b, 1, none⟩) hB _
  obtain ⟨ao, n', cap, rfl⟩ : ∃ ao n' cap, v' = .slice ao n' cap := by
    rcases hown'.2 with ⟨hx, _⟩ | ⟨g, cap, cur, fz, hx, _⟩
    · exact ⟨_, _, _, hx⟩
    · exact ⟨_, _, _, hx⟩
  clear hE
  go_wp2
  go_ret2
  exact ⟨rfl, Or.inr HE.out, HB.out⟩

theorem string_any (B b : Nat) (l : List UInt8) (w : World) (h : Bld w B b l) :
    Calls Tryz.prog 96 #[.pointer (some ⟨b, 0, none⟩)] w fun e w' => e = .returned (.string (bOf l)) ∧ Below B w w' :=
  (Tryz.Builder_String_any_f B b l w h (Nat.le_trans h.le (Nat.le_of_lt h.lt))).mono fun _ _ ⟨he, _, hb⟩ => ⟨he, hb⟩
end Go.Proofs.YtpppggicihfbgaaGreat.Bld

/- Contract of package reject's fill: texts are put together as far as there is space. -/
namespace Go.Proofs.YtpppggicihfbgaaGreat.Rej
open Go.RowKit Go.Proofs.YtpppggicihfbgaaGreat.Oct Go.Proofs.YtpppggicihfbgaaGreat.Row Go.Proofs.YtpppggicihfbgaaGreat.Mem Go.Proofs.YtpppggicihfbgaaGreat.Pkt Go.Proofs.YtpppggicihfbgaaGreat.Bld

def Fill (w wr : World) (g m k : Nat) (A : Option Addr) (n : Nat) (l : List ByteArray) : Prop :=
  Boxed wr g 3 (.int .i64 (sp m - ((cat (l.take k)).take (sp m)).length : Nat)) ∧ Bld wr (g + 1) (g + 1) ((cat (l.take k)).take (sp m)) ∧ Below g w wr ∧ Strs wr g A n l
theorem int_not_row {w : World} {g : Nat} {v : Value} (h : Boxed w g 3 v) : ∀ k, k = g → ∀ c fz, w.heap[k]? ≠ some (.cells c 5 fz) := by
  rintro k rfl c fz e
  have h' : w.heap[k]? = some (.cells #[v] 3 (0, 0)) := h
  rw [h'] at e
  simp at e
theorem fill_new (w : World) (m : Nat) (A : Option Addr) (n : Nat) (l : List ByteArray) (hl : Strs w w.heap.size A n l) :
    Fill w ((w.alloc (.cells #[.int .i64 (sp m : Nat)] 3)).alloc (.cells #[.pointer none, .slice none 0 0] 196)) w.heap.size m 0 A n l := by
  have h1 := (blk_new w [.int .i64 (sp m : Nat)] 3).alloc (.cells #[.pointer none, .slice none 0 0] 196)
  have h2 := bld_new (w.alloc (.cells #[.int .i64 (sp m : Nat)] 3)) (w.heap.size + 1) (by rw [World.size_alloc]; exact Nat.le_refl _)
  rw [World.size_alloc] at h2
  have hb : Below w.heap.size w ((w.alloc (.cells #[.int .i64 (sp m : Nat)] 3)).alloc (.cells #[.pointer none, .slice none 0 0] 196)) :=
    ((Below.refl w.heap.size w).alloc (Nat.le_refl _) _).alloc (by rw [World.size_alloc]; exact Nat.le_succ _) _
  have h0 : (cat (l.take 0)).take (sp m) = [] := by rw [List.take_zero, cat_nil, List.take_nil]
  unfold Fill
  rw [h0]
  exact ⟨h1, h2, hb, hl.below hb⟩

set_option maxHeartbeats 2000000 in
set_option maxRecDepth 100000 in
theorem fill_any (m : Nat) (A : Option Addr) (n c : Nat) (l : List ByteArray) (w : World) (hm0 : 64 ≤ m) (hm1 : m ≤ 65535) (hn : n ≤ maxLen) (hl : Strs w w.heap.size A n l) :
    Calls Tryz.prog 88 #[.int .i64 m, .slice A n c] w fun e w' => e = .returned (.string (bOf ((cat l).take (sp m)))) ∧ Below w.heap.size w w' := by
  have HN := Lib.hid (fill_new w m A n l hl)
  have Hl := Lib.hid hl.1
  clear hl
  have hmin : (min ((m : Int) - 4) 1496) = ((sp m : Nat) : Int) := by unfold sp; omega
  unfold maxLen at hn
  go_enter Tryz.func88, Tryz.ntmps88
  go_wp2
  generalize hg : w.heap.size = g at *
  have HG := Lib.hid hg
  clear hg
  go_loopw [16] (fun i wr => ∃ k : Nat, k ≤ n ∧ i = .int .i64 k ∧ Hid (Fill w wr g m k A n l)) (fun i _ => n - (intOf i).toNat)
  case atStart => exact ⟨0, Nat.zero_le _, rfl, HN⟩
  case round =>
    obtain ⟨k, hk, rfl, HF⟩ := hrel
    by_cases hlt : k < n
    · obtain ⟨ad, t, rfl, hB, ht, htl, hc⟩ := HF.out.2.2.2.at_ hlt
      have HC := Lib.hid (fun w => cut_any g (sp m - ((cat (l.take k)).take (sp m)).length) t w (by have := sp_le m; omega) htl)
      have HW := Lib.hid (fun w => write_any (g + 1) (g + 1) ((cat (l.take k)).take (sp m)) (bOf (t.toList.take (sp m - ((cat (l.take k)).take (sp m)).length))) w)
      have HX : Hid ((cat (l.take k)).take (sp m) ++ (bOf (t.toList.take (sp m - ((cat (l.take k)).take (sp m)).length))).toList = (cat (l.take (k + 1))).take (sp m)) := by
        show _ = _
        rw [toList_bOf, take_more, cat_more ht]
      have HZ : Hid (sp m - ((cat (l.take k)).take (sp m)).length - (t.toList.take (sp m - ((cat (l.take k)).take (sp m)).length)).length = sp m - ((cat (l.take (k + 1))).take (sp m)).length) := by
        show _ = _
        rw [← HX.out, toList_bOf, List.length_append]; omega
      have hz1 : ((cat (l.take k)).take (sp m)).length + (bOf (t.toList.take (sp m - ((cat (l.take k)).take (sp m)).length))).size ≤ 140737488355328 := by
        have h1 := List.length_take_le (sp m) (cat (l.take k))
        have h2 := List.length_take_le (sp m - ((cat (l.take k)).take (sp m)).length) t.toList
        have := sp_le m
        rw [size_bOf]; omega
      have Hz := Lib.hid hz1
      clear hz1 ht
      generalize bOf (t.toList.take (sp m - ((cat (l.take k)).take (sp m)).length)) = Y at *
      go_wp2_with fail
      refine (HC.out _ HF.out.1).mono ?_
      rintro e w1 ⟨rfl, hx1, hx2, hx3⟩
      have HD : Hid (Bld w1 (g + 1) (g + 1) ((cat (l.take k)).take (sp m))) := HF.out.2.1.kept hx2 (by omega) (int_not_row HF.out.1)
      have HG1 : Hid (Below g wr w1) := hx2.below (Nat.le_of_lt HF.out.1.lt) (fun k hk => by omega)
      have HB1 := Lib.hid hx1
      clear hx1 hx2 hx3
      go_wp2_with fail
      refine (HW.out _ HD.out Hz.out).mono ?_
      rintro e w2 ⟨rfl, hy1, hy2⟩
      have HF2 : Hid (Fill w w2 g m (k + 1) (some ad) n l) := by
        have hb := HG1.out.trans (hy2.mono (Nat.le_succ g))
        refine ⟨?_, ?_, HF.out.2.2.1.trans hb, HF.out.2.2.2.below hb⟩
        · rw [← HZ.out]; exact Blk.below (cs := [_]) HB1.out hy2 (Nat.lt_succ_self g)
        · rw [← HX.out]; exact hy1
      clear HX HZ HB1 HG1 HD HC HW Hz hy1 hy2
      go_wp2
      go_roundw
      case rel => exact ⟨k + 1, by omega, by go_num, HF2⟩
      case measure => simp [intOf]; omega
    · obtain rfl : k = n := by omega
      have HS := Lib.hid (string_any _ _ _ wr HF.out.2.1)
      rw [show l.take k = l from List.take_of_length_le (by rw [Hl.out]; exact Nat.le_refl _)] at HS
      go_wp2_with fail
      refine HS.out.mono ?_
      rintro e w1 ⟨rfl, hb⟩
      go_wp2
      go_ret
      exact ⟨rfl, by rw [HG.out]; exact HF.out.2.2.1.trans (hb.mono (Nat.le_succ _))⟩
end Go.Proofs.YtpppggicihfbgaaGreat.Rej
