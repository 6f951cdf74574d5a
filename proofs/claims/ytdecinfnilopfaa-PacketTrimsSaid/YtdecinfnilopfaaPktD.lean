/- Contract of package packet's Get. -/
import Derived.Test.YtdecinfnilopfaaPktB
import Derived.Deep.CutRange
namespace Go.Proofs.Ytdecinfnilopfaa.Pkt
open Go.RowKit Go.Proofs.Ytdecinfnilopfaa.Oct Go.Proofs.Ytdecinfnilopfaa.Row Go.Proofs.Ytdecinfnilopfaa.Mem

/-- The head that is copied of bytes. -/
theorem head_of : ∀ l : List UInt8, ∃ a b x y, bytesV (l.take (Nat.min l.length 4)) ++ (bytesV [0, 0, 0, 0]).drop (Nat.min l.length 4) = bytesV [a, b, x, y] ∧ (4 ≤ l.length → l.take 4 = [a, b, x, y])
  | [] => ⟨0, 0, 0, 0, rfl, fun h => by simp at h⟩
  | [a] => ⟨a, 0, 0, 0, rfl, fun h => by simp at h⟩
  | [a, b] => ⟨a, b, 0, 0, rfl, fun h => by simp at h⟩
  | [a, b, c] => ⟨a, b, c, 0, rfl, fun h => by simp at h⟩
  | a :: b :: x :: y :: r => ⟨a, b, x, y, by
      have : Nat.min (a :: b :: x :: y :: r).length 4 = 4 := Nat.min_eq_right (by simp)
      rw [this]; rfl, fun _ => rfl⟩
theorem wrong_is (l : List UInt8) (a b x y : UInt8) (h : 4 ≤ l.length → l.take 4 = [a, b, x, y]) : wE (Nat.min l.length 4) (val [x, y]) l.length = gE l := by
  unfold wE gE
  by_cases h4 : l.length < 4
  · rw [if_pos (Nat.lt_of_le_of_lt (Nat.min_le_left _ _) h4), if_pos h4]
  · have hn : plen l = val [x, y] := by
      have h' := h (by omega)
      unfold plen
      rw [show (l.drop 2).take 2 = (l.take 4).drop 2 by rw [List.drop_take], h']
      rfl
    have hm : Nat.min l.length 4 = 4 := Nat.min_eq_right (by omega)
    rw [hm, if_neg (by omega), if_neg h4, hn]

theorem got_of {l : List UInt8} {a b x y : UInt8} (h : 4 ≤ l.length → l.take 4 = [a, b, x, y]) (he : gE l = 0) : plen l = val [x, y] ∧ gC l = a ∧ gI l = b := by
  have h4 := (gE_ok he).1
  have h' := h h4
  match l, h4, h', he with
  | a' :: b' :: x' :: y' :: r, _, h', he =>
    simp only [List.take_succ_cons, List.take_zero, List.cons.injEq, and_true] at h'
    obtain ⟨rfl, rfl, rfl, rfl⟩ := h'
    refine ⟨rfl, ?_, ?_⟩
    · unfold gC; rw [if_pos he]; rfl
    · unfold gI; rw [if_pos he]; rfl
/-- What Get lays in memory: the bytes, the packet that it returns, a head; behind the copy: the head's bytes, and how many were copied. -/
def Laid0 (w X : World) (g : Nat) (s : ByteArray) : Prop := Blk X g [.string s] 9 ∧ Blk X (g + 1) [.int .u8 0, .int .u8 0, .string ⟨#[]⟩] 23 ∧ Blk X (g + 1 + 1) (bytesV [0, 0, 0, 0]) 38 ∧ Below g w X ∧ X.heap.size = g + 1 + 1 + 1
def Laid (w X : World) (g : Nat) (s : ByteArray) (H : List UInt8) (k : Nat) : Prop := Blk X g [.string s] 9 ∧ Blk X (g + 1) [.int .u8 0, .int .u8 0, .string ⟨#[]⟩] 23 ∧ Blk X (g + 1 + 1) (bytesV H) 38 ∧ Blk X (g + 1 + 1 + 1) [.int .i64 k] 3 ∧ Below g w X ∧ X.heap.size = g + 1 + 1 + 1 + 1
theorem laid_new (w : World) (s : ByteArray) : ∃ W, ((w.alloc (.cells #[.string s] 9)).alloc (.cells #[.int .u8 0, .int .u8 0, .string ⟨#[]⟩] 23)).alloc (.cells #[.int .u8 0, .int .u8 0, .int .u8 0, .int .u8 0] 38) = W ∧ Hid (Laid0 w W w.heap.size s) := by
  refine ⟨_, rfl, ?_⟩
  have h1 := blk_new w [.string s] 9
  have h2 := blk_new (w.alloc (.cells #[.string s] 9)) [.int .u8 0, .int .u8 0, .string ⟨#[]⟩] 23
  have h3 := blk_new ((w.alloc (.cells #[.string s] 9)).alloc (.cells #[.int .u8 0, .int .u8 0, .string ⟨#[]⟩] 23)) (bytesV [0, 0, 0, 0]) 38
  have h1' := (h1.alloc (.cells #[.int .u8 0, .int .u8 0, .string ⟨#[]⟩] 23)).alloc (.cells #[.int .u8 0, .int .u8 0, .int .u8 0, .int .u8 0] 38)
  have h2' := h2.alloc (.cells #[.int .u8 0, .int .u8 0, .int .u8 0, .int .u8 0] 38)
  rw [World.size_alloc] at h2'
  rw [World.size_alloc, World.size_alloc] at h3
  exact ⟨h1', h2', h3, (((Below.refl w.heap.size w).alloc (Nat.le_refl _) _).alloc (by rw [World.size_alloc]; exact Nat.le_succ _) _).alloc (by rw [World.size_alloc, World.size_alloc]; omega) _, by rw [World.size_alloc, World.size_alloc, World.size_alloc]⟩
theorem laid_row {w W : World} {g : Nat} {s : ByteArray} {cur H : List UInt8} (h : Blk W g [.string s] 9 ∧ Blk W (g + 1) [.int .u8 0, .int .u8 0, .string ⟨#[]⟩] 23 ∧ Blk W (g + 1 + 1) (bytesV cur) 38 ∧ Below g w W) :
    Blk (W.drew.setRow (g + 1 + 1) (bytesV H).toArray) g [.string s] 9 ∧ Blk (W.drew.setRow (g + 1 + 1) (bytesV H).toArray) (g + 1) [.int .u8 0, .int .u8 0, .string ⟨#[]⟩] 23 ∧ Blk (W.drew.setRow (g + 1 + 1) (bytesV H).toArray) (g + 1 + 1) (bytesV H) 38 ∧ Below g w (W.drew.setRow (g + 1 + 1) (bytesV H).toArray) ∧ (W.drew.setRow (g + 1 + 1) (bytesV H).toArray).heap.size = W.heap.size := by
  obtain ⟨h1, h2, h3, hb⟩ := h
  have hr := moves_row W.drew (g + 1 + 1) (bytesV H).toArray
  exact ⟨h1.drew.moves hr (by omega), h2.drew.moves hr (by omega), h3.drew.setRow (bytesV H), hb.drew.trans (hr.below (Nat.le_of_lt h1.lt) (fun k hk => by subst hk; omega)), by simp [World.setRow]⟩
/-- The count's variable first, or the copy first. -/
theorem laid_a {w W : World} {g : Nat} {s : ByteArray} (h : Laid0 w W g s) (H : List UInt8) (k : Nat) :
    Laid w (((W.alloc (.cells #[.int .i64 0] 3)).drew.setRow (g + 1 + 1) (bytesV H).toArray).setCell ⟨W.heap.size, 0, none⟩ (.int .i64 k)) g s H k := by
  obtain ⟨h1, h2, h3, hb, hz⟩ := h
  have h0 := blk_new W [.int .i64 0] 3
  have hh := laid_row (H := H) ⟨h1.alloc (.cells #[.int .i64 0] 3), h2.alloc (.cells #[.int .i64 0] 3), h3.alloc (.cells #[.int .i64 0] 3), hb.alloc (by rw [hz]; omega) (.cells #[.int .i64 0] 3)⟩
  have h0' := (h0.drew.moves (moves_row _ (g + 1 + 1) (bytesV H).toArray) (by rw [hz]; omega)).set 0 (.int .i64 k)
  rw [hz] at h0' ⊢
  have hm := (Moves.refl (fun j => j = g + 1 + 1 + 1) ((W.alloc (.cells #[.int .i64 0] 3)).drew.setRow (g + 1 + 1) (bytesV H).toArray)).setCell ⟨g + 1 + 1 + 1, 0, none⟩ (fun _ => rfl) (.int .i64 k)
  exact ⟨hh.1.moves hm (by omega), hh.2.1.moves hm (by omega), hh.2.2.1.moves hm (by omega), h0', hh.2.2.2.1.setCell (p := ⟨g + 1 + 1 + 1, 0, none⟩) (by show g ≤ g + 1 + 1 + 1; omega) _, by
    have : (((W.alloc (.cells #[.int .i64 0] 3)).drew.setRow (g + 1 + 1) (bytesV H).toArray).setCell ⟨g + 1 + 1 + 1, 0, none⟩ (.int .i64 k)).heap.size = ((W.alloc (.cells #[.int .i64 0] 3)).drew.setRow (g + 1 + 1) (bytesV H).toArray).heap.size := by simp [World.setCell]
    rw [this, hh.2.2.2.2, World.size_alloc, hz]⟩
theorem laid_b {w W : World} {g : Nat} {s : ByteArray} (h : Laid0 w W g s) (H : List UInt8) (k : Nat) :
    Laid w ((W.drew.setRow (g + 1 + 1) (bytesV H).toArray).alloc (.cells #[.int .i64 k] 3)) g s H k := by
  obtain ⟨h1, h2, h3, hb, hz⟩ := h
  have hh := laid_row (H := H) ⟨h1, h2, h3, hb⟩
  have h0 := blk_new (W.drew.setRow (g + 1 + 1) (bytesV H).toArray) [.int .i64 k] 3
  rw [hh.2.2.2.2, hz] at h0
  exact ⟨hh.1.alloc _, hh.2.1.alloc _, hh.2.2.1.alloc _, h0, hh.2.2.2.1.alloc (by rw [hh.2.2.2.2, hz]; omega) _, by rw [World.size_alloc, hh.2.2.2.2, hz]⟩

set_option maxHeartbeats 2000000 in
set_option maxRecDepth 100000 in
theorem get_any (s : ByteArray) (w : World) (hs : s.size ≤ 1048576) :
    Calls Try.prog 10 #[.string s] w fun e w' => e = .returned (.tuple #[.agg #[.int .u8 (gC s.toList).toNat, .int .u8 (gI s.toList).toNat, .string (bOf (gD s.toList))], .int .i64 (gN s.toList), .int .i64 (gE s.toList)]) ∧ Below w.heap.size w w' := by
  obtain ⟨W, hW, HW⟩ := laid_new w s
  obtain ⟨a, b, x, y, hhd, hal⟩ := head_of s.toList
  have Hwr := Lib.hid (wrong_is s.toList a b x y hal)
  rw [← size_toList] at hhd Hwr hal
  have hm4 : Nat.min s.size 4 ≤ 4 := Nat.min_le_right _ _
  obtain ⟨V, hV⟩ : ∃ V, W.alloc (.cells #[.int .i64 0] 3) = V := ⟨_, rfl⟩
  have hsv : V.cell? ⟨w.heap.size, 0, none⟩ = some (.string s) := by rw [← hV]; exact (HW.out.1.alloc _).at_ 0
  have hsw : W.cell? ⟨w.heap.size, 0, none⟩ = some (.string s) := HW.out.1.at_ 0
  have hcw := copy_string (P := Try.prog) W.drew 39 9 3 5 (w.heap.size + 1 + 1) 0 4 4 s (bytesV [0, 0, 0, 0]).toArray 38 Try.underlying39 (by kernel_rfl) HW.out.2.2.1.drew (by rw [Nat.zero_add]; exact hm4)
  have hcv := copy_string (P := Try.prog) V.drew 39 9 3 5 (w.heap.size + 1 + 1) 0 4 4 s (bytesV [0, 0, 0, 0]).toArray 38 Try.underlying39 (by kernel_rfl) (by rw [← hV]; exact (HW.out.2.2.1.alloc _).drew) (by rw [Nat.zero_add]; exact hm4)
  rw [List.take_zero, List.nil_append, Nat.zero_add, hhd] at hcw hcv
  have HA : Hid (Laid w ((V.drew.setRow (w.heap.size + 1 + 1) (bytesV [a, b, x, y]).toArray).setCell ⟨W.heap.size, 0, none⟩ (.int .i64 (Nat.min s.size 4 : Nat))) w.heap.size s [a, b, x, y] (Nat.min s.size 4)) := by rw [← hV]; exact laid_a HW.out _ _
  have HB := Lib.hid (laid_b HW.out [a, b, x, y] (Nat.min s.size 4))
  have hvz := Lib.hid (show W.heap.size = w.heap.size + 1 + 1 + 1 from HW.out.2.2.2.2)
  have hvr := Lib.hid (laid_row (H := [a, b, x, y]) ⟨HW.out.1, HW.out.2.1, HW.out.2.2.1, HW.out.2.2.2.1⟩).2.2.2.2
  have hb0 : Blk (V.drew.setRow (w.heap.size + 1 + 1) (bytesV [a, b, x, y]).toArray) W.heap.size [.int .i64 0] 3 := by
    rw [← hV]
    exact (blk_new W [.int .i64 0] 3).drew.moves (moves_row _ (w.heap.size + 1 + 1) (bytesV [a, b, x, y]).toArray) (by rw [hvz.out]; omega)
  have hc0 := hb0.at_ 0
  have hf0 := hb0.frozen 0
  have Hal := Lib.hid hal
  clear hhd hal HW hb0
  go_enter Try.func10, Try.ntmps10
  go_wp2
  clear hW
  generalize hg : w.heap.size = g at *
  have HG := Lib.hid hg
  clear hg
  go_cut [6] from 10 to 12 (fun s6 wx => s6 = .pointer (some ⟨g + 1 + 1 + 1, 0, none⟩) ∧ Hid (Laid w wx g s [a, b, x, y] (Nat.min s.size 4)))
  case first =>
    go_region
    all_goals (go_wp2; go_meet; first | exact ⟨by rw [hvz.out], HA⟩ | exact ⟨by rw [hvr.out, hvz.out], HB⟩ | exact ⟨by rw [hvz.out], HB⟩)
  case rest =>
    obtain ⟨rfl, HL⟩ := hcut
    clear hsv hsw hcw hcv HA HB hvz hvr hc0 hf0 hV
    obtain ⟨w5, rfl⟩ : ∃ x, x = wc := ⟨_, rfl⟩
    have l0 : w5.cell? ⟨g + 1 + 1, 0, none⟩ = some (.int .u8 a.toNat) := HL.out.2.2.1.at_ 0
    have l1 : w5.cell? ⟨g + 1 + 1, 1, none⟩ = some (.int .u8 b.toNat) := HL.out.2.2.1.at_ 1
    have l2 : w5.cell? ⟨g + 1 + 1, 2, none⟩ = some (.int .u8 x.toNat) := HL.out.2.2.1.at_ 2
    have l3 : w5.cell? ⟨g + 1 + 1, 3, none⟩ = some (.int .u8 y.toNat) := HL.out.2.2.1.at_ 3
    go_wp2_with fail
    refine (length_any a b x y _).mono ?_
    rintro e w6 ⟨rfl, hb6⟩
    obtain ⟨n, hn⟩ : ∃ n, val [x, y] = n := ⟨_, rfl⟩
    rw [hn] at Hwr ⊢
    have Hn := Lib.hid hn
    have hn0 : n < 65536 := by rw [← hn]; exact Nat.lt_of_lt_of_le (val_lt [x, y]) (by simp)
    clear hn
    obtain ⟨W7, hW7⟩ : ∃ W7, w6.alloc (.cells #[.int .i64 n] 3) = W7 := ⟨_, rfl⟩
    have HB7 : Hid (Below w5.heap.size w5 W7) := by rw [← hW7]; exact hb6.alloc hb6.size _
    have B0 : Boxed W7 w6.heap.size 3 (.int .i64 n) := by rw [← hW7]; exact blk_new w6 [.int .i64 n] _
    have B1 : Boxed W7 (g + 1 + 1 + 1) 3 (.int .i64 (Nat.min s.size 4 : Nat)) := HL.out.2.2.2.1.callee HB7.out
    have B2 : Boxed W7 g 9 (.string s) := HL.out.1.callee HB7.out
    have B3 : Blk W7 (g + 1) [.int .u8 0, .int .u8 0, .string ⟨#[]⟩] 23 := HL.out.2.1.callee HB7.out
    have B4 : Blk W7 (g + 1 + 1) (bytesV [a, b, x, y]) 38 := HL.out.2.2.1.callee HB7.out
    have HB8 : Hid (Below g w W7) := HL.out.2.2.2.2.1.trans (HB7.out.mono (by rw [HL.out.2.2.2.2.2]; omega))
    have HWr := Lib.hid (fun w => wrong_any (g + 1 + 1 + 1) w6.heap.size g (Nat.min s.size 4) n s w)
    rw [Hwr.out] at HWr
    have HWr7 := Lib.hid (HWr.out W7 B1 B0 B2)
    have c0 := B0.cell
    have c2 := B2.cell
    have c30 : W7.cell? ⟨g + 1, 0, none⟩ = some (.int .u8 0) := B3.at_ 0
    have c31 : W7.cell? ⟨g + 1, 1, none⟩ = some (.int .u8 0) := B3.at_ 1
    have c32 : W7.cell? ⟨g + 1, 2, none⟩ = some (.string ⟨#[]⟩) := B3.at_ 2
    have f30 := B3.frozen 0
    have f31 := B3.frozen 1
    have f32 := B3.frozen 2
    have c40 : W7.cell? ⟨g + 1 + 1, 0, none⟩ = some (.int .u8 a.toNat) := B4.at_ 0
    have c41 : W7.cell? ⟨g + 1 + 1, 1, none⟩ = some (.int .u8 b.toNat) := B4.at_ 1
    have HB3 := Lib.hid B3
    have hm0 : g + 1 + 1 + 1 + 1 ≤ w6.heap.size := by rw [← HL.out.2.2.2.2.2]; exact hb6.size
    have hm1 : ¬ w6.heap.size = g + 1 := by omega
    have hm2 : ¬ g + 1 = w6.heap.size := by omega
    clear HWr B0 B1 B2 B3 B4 l0 l1 l2 l3 hb6 HB7
    by_cases he : gE s.toList = 0
    · have hg0 := got_of (by rw [← size_toList]; exact Hal.out) he
      have hok := gE_ok he
      rw [he] at HWr7
      rw [hg0.1, ← size_toList] at hok
      rw [Hn.out] at hok
      have HD : Hid (s.extract 4 n = bOf (gD s.toList)) := by
        show _ = _
        rw [extract_bOf, gD, if_pos he, hg0.1, Hn.out, List.drop_take]
      have HN : Hid (((s.size : Int) - n) = ((gN s.toList : Nat) : Int)) := by
        show _ = _
        rw [gN, if_pos he, hg0.1, Hn.out, ← size_toList]; omega
      have hE0 := Lib.hid he
      have HCI := Lib.hid hg0.2
      clear he hg0
      go_wp2_with fail
      refine HWr7.out.mono ?_
      rintro e w8 ⟨rfl, rfl⟩
      clear hW7
      generalize w6.heap.size = m at *
      have hk1 : (4 : Int) ≤ n := by omega
      have hk2 : (n : Int) ≤ s.size := by omega
      clear hok
      go_wp2
      go_region
      go_wp2
      have HR := ((HB3.out.set 0 (.int .u8 a.toNat)).set 1 (.int .u8 b.toNat)).set 2 (.string (s.extract 4 n))
      have HBe := ((HB8.out.setCell (p := ⟨g + 1, 0, none⟩) (Nat.le_succ _) (.int .u8 a.toNat)).setCell (p := ⟨g + 1, 1, none⟩) (Nat.le_succ _) (.int .u8 b.toNat)).setCell (p := ⟨g + 1, 2, none⟩) (Nat.le_succ _) (.string (s.extract 4 n))
      rw [HD.out] at HR HBe ⊢
      (try simp only [Exit.inBlock, Exit.then])
      refine bodyPost_ret (results_row2 rfl _ _ (g + 1) _ _ _ rfl HR.drew Try.underlying23 rfl (by kernel_rfl)) rfl ?_
      rw [HCI.out.1, HCI.out.2, hE0.out, ← HN.out]
      exact ⟨rfl, by rw [HG.out]; exact HBe.drew⟩
    · have hn2 := Lib.hid (g_none he)
      have he2 : (((gE s.toList : Nat) : Int) != 0) = true := by simp; exact he
      clear he
      obtain ⟨e, hge⟩ : ∃ e, gE s.toList = e := ⟨_, rfl⟩
      rw [hge] at HWr7 he2
      have Hgel := Lib.hid hge
      clear hge
      go_wp2_with fail
      refine HWr7.out.mono ?_
      rintro e w8 ⟨rfl, rfl⟩
      clear hW7
      generalize w6.heap.size = m at *
      go_wp2
      have HR := ((HB3.out.set 0 (.int .u8 0)).set 1 (.int .u8 0)).set 2 (.string ⟨#[]⟩)
      have HBe := ((HB8.out.setCell (p := ⟨g + 1, 0, none⟩) (Nat.le_succ _) (.int .u8 0)).setCell (p := ⟨g + 1, 1, none⟩) (Nat.le_succ _) (.int .u8 0)).setCell (p := ⟨g + 1, 2, none⟩) (Nat.le_succ _) (.string ⟨#[]⟩)
      (try simp only [Exit.inBlock, Exit.then])
      refine bodyPost_ret (results_row2 rfl _ _ (g + 1) _ _ _ rfl HR Try.underlying23 rfl (by kernel_rfl)) rfl ?_
      rw [hn2.out.1, hn2.out.2.1, hn2.out.2.2.1, hn2.out.2.2.2, Hgel.out]
      exact ⟨rfl, by rw [HG.out]; exact HBe⟩
end Go.Proofs.Ytdecinfnilopfaa.Pkt
