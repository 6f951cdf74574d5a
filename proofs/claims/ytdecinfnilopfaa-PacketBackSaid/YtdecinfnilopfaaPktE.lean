/- Contract of the document's Get. -/
import Derived.Test.YtdecinfnilopfaaPktD
namespace Go.Proofs.Ytdecinfnilopfaa.Pkt
open Go.RowKit Go.Proofs.Ytdecinfnilopfaa.Oct Go.Proofs.Ytdecinfnilopfaa.Row Go.Proofs.Ytdecinfnilopfaa.Mem
set_option linter.unusedVariables false

theorem plen_four (a b x y : UInt8) (r : List UInt8) : plen (a :: b :: x :: y :: r) = 256 * x.toNat + y.toNat := by
  simp [plen, val]; omega
theorem res_new (w : World) : ∃ W, w.alloc (.cells #[.int .u8 0, .int .u8 0, .string ⟨#[]⟩] 23) = W ∧ Hid (Blk W w.heap.size [.int .u8 0, .int .u8 0, .string ⟨#[]⟩] 23 ∧ Below w.heap.size w W) :=
  ⟨_, rfl, blk_new w [.int .u8 0, .int .u8 0, .string ⟨#[]⟩] 23, (Below.refl w.heap.size w).alloc (Nat.le_refl _) _⟩

set_option maxHeartbeats 2000000 in
set_option maxRecDepth 100000 in
theorem rget_short (s : ByteArray) (w : World) (h4 : s.size < 4) :
    Calls Try.prog 11 #[.string s] w fun e w' => e = .returned (.tuple #[.agg #[.int .u8 0, .int .u8 0, .string (bOf [])], .int .i64 0, .int .i64 6]) ∧ Below w.heap.size w w' := by
  obtain ⟨W, hW, HW⟩ := res_new w
  obtain ⟨g, hg⟩ : ∃ g, w.heap.size = g := ⟨_, rfl⟩
  have HG := Lib.hid hg
  rw [hg] at HW
  have c30 : W.cell? ⟨g, 0, none⟩ = some (.int .u8 0) := HW.out.1.at_ 0
  have c31 : W.cell? ⟨g, 1, none⟩ = some (.int .u8 0) := HW.out.1.at_ 1
  have c32 : W.cell? ⟨g, 2, none⟩ = some (.string ⟨#[]⟩) := HW.out.1.at_ 2
  have f30 := HW.out.1.frozen 0
  have f31 := HW.out.1.frozen 1
  have f32 := HW.out.1.frozen 2
  have k1 : (s.size : Int) < 4 := by omega
  go_enter Try.func11, Try.ntmps11
  go_wp2
  have HR := (((HW.out.1).set 0 (.int .u8 0)).set 1 (.int .u8 0)).set 2 (.string ⟨#[]⟩)
  have HBe := (((HW.out.2).setCell (p := ⟨g, 0, none⟩) (Nat.le_refl _) (.int .u8 0)).setCell (p := ⟨g, 1, none⟩) (Nat.le_refl _) (.int .u8 0)).setCell (p := ⟨g, 2, none⟩) (Nat.le_refl _) (.string ⟨#[]⟩)
  (try simp only [Exit.inBlock, Exit.then])
  refine bodyPost_ret (results_row2 rfl _ _ g _ _ _ rfl HR Try.underlying23 rfl (by kernel_rfl)) rfl ?_
  exact ⟨rfl, by rw [HG.out]; exact HBe⟩

set_option maxHeartbeats 2000000 in
set_option maxRecDepth 100000 in
theorem rget_form (s : ByteArray) (a b x y : UInt8) (w : World) (hs : s.size ≤ 1048576) (z4 : 4 ≤ s.size) (i0 : s[0]'(by omega) = a) (i1 : s[1]'(by omega) = b) (i2 : s[2]'(by omega) = x) (i3 : s[3]'(by omega) = y) (h1 : 256 * x.toNat + y.toNat < 4) :
    Calls Try.prog 11 #[.string s] w fun e w' => e = .returned (.tuple #[.agg #[.int .u8 0, .int .u8 0, .string (bOf [])], .int .i64 0, .int .i64 7]) ∧ Below w.heap.size w w' := by
  obtain ⟨W, hW, HW⟩ := res_new w
  obtain ⟨g, hg⟩ : ∃ g, w.heap.size = g := ⟨_, rfl⟩
  have HG := Lib.hid hg
  rw [hg] at HW
  have c30 : W.cell? ⟨g, 0, none⟩ = some (.int .u8 0) := HW.out.1.at_ 0
  have c31 : W.cell? ⟨g, 1, none⟩ = some (.int .u8 0) := HW.out.1.at_ 1
  have c32 : W.cell? ⟨g, 2, none⟩ = some (.string ⟨#[]⟩) := HW.out.1.at_ 2
  have f30 := HW.out.1.frozen 0
  have f31 := HW.out.1.frozen 1
  have f32 := HW.out.1.frozen 2
  have Hx := x.toNat_lt
  have Hy := y.toNat_lt
  have k2 : (256 * (x.toNat : Int) + y.toNat) < 4 := by omega
  have hx1 : (0 : Int) ≤ x.toNat := by omega
  have hx2 : (x.toNat : Int) ≤ 255 := by omega
  have hy1 : (0 : Int) ≤ y.toNat := by omega
  have hy2 : (y.toNat : Int) ≤ 255 := by omega
  have z1 : (4 : Int) ≤ s.size := by omega
  go_enter Try.func11, Try.ntmps11
  go_wp2
  go_quiet (fail)
  go_wp2
  have HR := (((HW.out.1.drewN nq).set 0 (.int .u8 0)).set 1 (.int .u8 0)).set 2 (.string ⟨#[]⟩)
  have HBe := (((HW.out.2.drewN' nq).setCell (p := ⟨g, 0, none⟩) (Nat.le_refl _) (.int .u8 0)).setCell (p := ⟨g, 1, none⟩) (Nat.le_refl _) (.int .u8 0)).setCell (p := ⟨g, 2, none⟩) (Nat.le_refl _) (.string ⟨#[]⟩)
  (try simp only [Exit.inBlock, Exit.then])
  refine bodyPost_ret (results_row2 rfl _ _ g _ _ _ rfl HR Try.underlying23 rfl (by kernel_rfl)) rfl ?_
  exact ⟨rfl, by rw [HG.out]; exact HBe⟩

set_option maxHeartbeats 2000000 in
set_option maxRecDepth 100000 in
theorem rget_end (s : ByteArray) (a b x y : UInt8) (w : World) (hs : s.size ≤ 1048576) (z4 : 4 ≤ s.size) (i0 : s[0]'(by omega) = a) (i1 : s[1]'(by omega) = b) (i2 : s[2]'(by omega) = x) (i3 : s[3]'(by omega) = y) (h1 : ¬ 256 * x.toNat + y.toNat < 4) (h2 : s.size < 256 * x.toNat + y.toNat) :
    Calls Try.prog 11 #[.string s] w fun e w' => e = .returned (.tuple #[.agg #[.int .u8 0, .int .u8 0, .string (bOf [])], .int .i64 0, .int .i64 6]) ∧ Below w.heap.size w w' := by
  obtain ⟨W, hW, HW⟩ := res_new w
  obtain ⟨g, hg⟩ : ∃ g, w.heap.size = g := ⟨_, rfl⟩
  have HG := Lib.hid hg
  rw [hg] at HW
  have c30 : W.cell? ⟨g, 0, none⟩ = some (.int .u8 0) := HW.out.1.at_ 0
  have c31 : W.cell? ⟨g, 1, none⟩ = some (.int .u8 0) := HW.out.1.at_ 1
  have c32 : W.cell? ⟨g, 2, none⟩ = some (.string ⟨#[]⟩) := HW.out.1.at_ 2
  have f30 := HW.out.1.frozen 0
  have f31 := HW.out.1.frozen 1
  have f32 := HW.out.1.frozen 2
  have Hx := x.toNat_lt
  have Hy := y.toNat_lt
  have k2 : ¬ (256 * (x.toNat : Int) + y.toNat) < 4 := by omega
  have k3 : (s.size : Int) < 256 * (x.toNat : Int) + y.toNat := by omega
  have hx1 : (0 : Int) ≤ x.toNat := by omega
  have hx2 : (x.toNat : Int) ≤ 255 := by omega
  have hy1 : (0 : Int) ≤ y.toNat := by omega
  have hy2 : (y.toNat : Int) ≤ 255 := by omega
  have z1 : (4 : Int) ≤ s.size := by omega
  go_enter Try.func11, Try.ntmps11
  go_wp2
  go_quiet (fail)
  go_wp2
  have HR := (((HW.out.1.drewN nq).set 0 (.int .u8 0)).set 1 (.int .u8 0)).set 2 (.string ⟨#[]⟩)
  have HBe := (((HW.out.2.drewN' nq).setCell (p := ⟨g, 0, none⟩) (Nat.le_refl _) (.int .u8 0)).setCell (p := ⟨g, 1, none⟩) (Nat.le_refl _) (.int .u8 0)).setCell (p := ⟨g, 2, none⟩) (Nat.le_refl _) (.string ⟨#[]⟩)
  (try simp only [Exit.inBlock, Exit.then])
  refine bodyPost_ret (results_row2 rfl _ _ g _ _ _ rfl HR Try.underlying23 rfl (by kernel_rfl)) rfl ?_
  exact ⟨rfl, by rw [HG.out]; exact HBe⟩

set_option maxHeartbeats 2000000 in
set_option maxRecDepth 100000 in
theorem rget_long (s : ByteArray) (a b x y : UInt8) (w : World) (hs : s.size ≤ 1048576) (z4 : 4 ≤ s.size) (i0 : s[0]'(by omega) = a) (i1 : s[1]'(by omega) = b) (i2 : s[2]'(by omega) = x) (i3 : s[3]'(by omega) = y) (h1 : ¬ 256 * x.toNat + y.toNat < 4) (h2 : ¬ s.size < 256 * x.toNat + y.toNat) (h3 : 1500 < 256 * x.toNat + y.toNat) :
    Calls Try.prog 11 #[.string s] w fun e w' => e = .returned (.tuple #[.agg #[.int .u8 0, .int .u8 0, .string (bOf [])], .int .i64 0, .int .i64 5]) ∧ Below w.heap.size w w' := by
  obtain ⟨W, hW, HW⟩ := res_new w
  obtain ⟨g, hg⟩ : ∃ g, w.heap.size = g := ⟨_, rfl⟩
  have HG := Lib.hid hg
  rw [hg] at HW
  have c30 : W.cell? ⟨g, 0, none⟩ = some (.int .u8 0) := HW.out.1.at_ 0
  have c31 : W.cell? ⟨g, 1, none⟩ = some (.int .u8 0) := HW.out.1.at_ 1
  have c32 : W.cell? ⟨g, 2, none⟩ = some (.string ⟨#[]⟩) := HW.out.1.at_ 2
  have f30 := HW.out.1.frozen 0
  have f31 := HW.out.1.frozen 1
  have f32 := HW.out.1.frozen 2
  have Hx := x.toNat_lt
  have Hy := y.toNat_lt
  have k2 : ¬ (256 * (x.toNat : Int) + y.toNat) < 4 := by omega
  have k3 : ¬ (s.size : Int) < 256 * (x.toNat : Int) + y.toNat := by omega
  have k4 : (1500 : Int) < 256 * (x.toNat : Int) + y.toNat := by omega
  have hx1 : (0 : Int) ≤ x.toNat := by omega
  have hx2 : (x.toNat : Int) ≤ 255 := by omega
  have hy1 : (0 : Int) ≤ y.toNat := by omega
  have hy2 : (y.toNat : Int) ≤ 255 := by omega
  have z1 : (4 : Int) ≤ s.size := by omega
  go_enter Try.func11, Try.ntmps11
  go_wp2
  go_quiet (fail)
  go_wp2
  have HR := (((HW.out.1.drewN nq).set 0 (.int .u8 0)).set 1 (.int .u8 0)).set 2 (.string ⟨#[]⟩)
  have HBe := (((HW.out.2.drewN' nq).setCell (p := ⟨g, 0, none⟩) (Nat.le_refl _) (.int .u8 0)).setCell (p := ⟨g, 1, none⟩) (Nat.le_refl _) (.int .u8 0)).setCell (p := ⟨g, 2, none⟩) (Nat.le_refl _) (.string ⟨#[]⟩)
  (try simp only [Exit.inBlock, Exit.then])
  refine bodyPost_ret (results_row2 rfl _ _ g _ _ _ rfl HR Try.underlying23 rfl (by kernel_rfl)) rfl ?_
  exact ⟨rfl, by rw [HG.out]; exact HBe⟩

set_option maxHeartbeats 2000000 in
set_option maxRecDepth 100000 in
theorem rget_ok (s : ByteArray) (a b x y : UInt8) (w : World) (hs : s.size ≤ 1048576) (z4 : 4 ≤ s.size) (i0 : s[0]'(by omega) = a) (i1 : s[1]'(by omega) = b) (i2 : s[2]'(by omega) = x) (i3 : s[3]'(by omega) = y) (h1 : ¬ 256 * x.toNat + y.toNat < 4) (h2 : ¬ s.size < 256 * x.toNat + y.toNat) (h3 : ¬ 1500 < 256 * x.toNat + y.toNat) :
    Calls Try.prog 11 #[.string s] w fun e w' => e = .returned (.tuple #[.agg #[.int .u8 a.toNat, .int .u8 b.toNat, .string (s.extract 4 (256 * x.toNat + y.toNat))], .int .i64 ((s.size : Int) - ((256 * x.toNat + y.toNat : Nat) : Int)), .int .i64 0]) ∧ Below w.heap.size w w' := by
  obtain ⟨W, hW, HW⟩ := res_new w
  obtain ⟨g, hg⟩ : ∃ g, w.heap.size = g := ⟨_, rfl⟩
  have HG := Lib.hid hg
  rw [hg] at HW
  have c30 : W.cell? ⟨g, 0, none⟩ = some (.int .u8 0) := HW.out.1.at_ 0
  have c31 : W.cell? ⟨g, 1, none⟩ = some (.int .u8 0) := HW.out.1.at_ 1
  have c32 : W.cell? ⟨g, 2, none⟩ = some (.string ⟨#[]⟩) := HW.out.1.at_ 2
  have f30 := HW.out.1.frozen 0
  have f31 := HW.out.1.frozen 1
  have f32 := HW.out.1.frozen 2
  have Hx := x.toNat_lt
  have Hy := y.toNat_lt
  have k2 : ¬ (256 * (x.toNat : Int) + y.toNat) < 4 := by omega
  have k3 : ¬ (s.size : Int) < 256 * (x.toNat : Int) + y.toNat := by omega
  have k4 : ¬ (1500 : Int) < 256 * (x.toNat : Int) + y.toNat := by omega
  have hx1 : (0 : Int) ≤ x.toNat := by omega
  have hx2 : (x.toNat : Int) ≤ 255 := by omega
  have hy1 : (0 : Int) ≤ y.toNat := by omega
  have hy2 : (y.toNat : Int) ≤ 255 := by omega
  have z1 : (4 : Int) ≤ s.size := by omega
  go_enter Try.func11, Try.ntmps11
  go_wp2
  go_quiet (fail)
  go_wp2
  have e0 : (256 * (x.toNat : Int) + y.toNat) = ((256 * x.toNat + y.toNat : Nat) : Int) := by omega
  rw [e0] at k2 k3 k4
  simp only [e0]
  clear e0 hW hx1 hx2 hy1 hy2 Hx Hy i2 i3
  have HW2 : Hid (Blk (W.drewN nq) g [.int .u8 0, .int .u8 0, .string ⟨#[]⟩] 23 ∧ Below g w (W.drewN nq)) := ⟨HW.out.1.drewN nq, HW.out.2.drewN' nq⟩
  have c30 : (W.drewN nq).cell? ⟨g, 0, none⟩ = some (.int .u8 0) := HW2.out.1.at_ 0
  have c31 : (W.drewN nq).cell? ⟨g, 1, none⟩ = some (.int .u8 0) := HW2.out.1.at_ 1
  have c32 : (W.drewN nq).cell? ⟨g, 2, none⟩ = some (.string ⟨#[]⟩) := HW2.out.1.at_ 2
  have f30 := HW2.out.1.frozen 0
  have f31 := HW2.out.1.frozen 1
  have f32 := HW2.out.1.frozen 2
  clear HW
  generalize W.drewN nq = W2 at *
  generalize hn : 256 * x.toNat + y.toNat = n at *
  have HN := Lib.hid hn
  clear hn
  have HW := HW2
  clear HW2
  go_region
  go_wp2
  have HR := (((HW.out.1).set 0 (.int .u8 a.toNat)).set 1 (.int .u8 b.toNat)).set 2 (.string (s.extract 4 n))
  have HBe := (((HW.out.2).setCell (p := ⟨g, 0, none⟩) (Nat.le_refl _) (.int .u8 a.toNat)).setCell (p := ⟨g, 1, none⟩) (Nat.le_refl _) (.int .u8 b.toNat)).setCell (p := ⟨g, 2, none⟩) (Nat.le_refl _) (.string (s.extract 4 n))
  (try simp only [Exit.inBlock, Exit.then])
  refine bodyPost_ret (results_row2 rfl _ _ g _ _ _ rfl HR.drew Try.underlying23 rfl (by kernel_rfl)) rfl ?_
  rw [HN.out]
  exact ⟨rfl, by rw [HG.out]; exact HBe.drew⟩

theorem rget_any (s : ByteArray) (w : World) (hs : s.size ≤ 1048576) :
    Calls Try.prog 11 #[.string s] w fun e w' => e = .returned (.tuple #[.agg #[.int .u8 (gC s.toList).toNat, .int .u8 (gI s.toList).toNat, .string (bOf (gD s.toList))], .int .i64 (gN s.toList), .int .i64 (gE s.toList)]) ∧ Below w.heap.size w w' := by
  by_cases h4 : s.size < 4
  · have he : gE s.toList = 6 := by unfold gE; rw [← size_toList, if_pos h4]
    have hn := g_none (s := s.toList) (by rw [he]; decide)
    rw [he, hn.1, hn.2.1, hn.2.2.1, hn.2.2.2]
    exact rget_short s w h4
  · obtain ⟨l, rfl⟩ : ∃ l, s = bOf l := ⟨s.toList, (bOf_toList s).symm⟩
    rw [size_bOf] at h4
    match l, h4, hs with
    | a :: b :: x :: y :: r, h4, hs =>
      have hp := plen_four a b x y r
      have z4 : 4 ≤ (bOf (a :: b :: x :: y :: r)).size := by rw [size_bOf]; omega
      have hlen : (a :: b :: x :: y :: r).length = (bOf (a :: b :: x :: y :: r)).size := (size_bOf _).symm
      have hE : gE (a :: b :: x :: y :: r) = if 256 * x.toNat + y.toNat < 4 then 7 else if (bOf (a :: b :: x :: y :: r)).size < 256 * x.toNat + y.toNat then 6 else if 1500 < 256 * x.toNat + y.toNat then 5 else 0 := by
        unfold gE
        rw [if_neg h4, hp, hlen]
      rw [toList_bOf]
      by_cases h1 : 256 * x.toNat + y.toNat < 4
      · rw [if_pos h1] at hE
        have hn := g_none (s := a :: b :: x :: y :: r) (by rw [hE]; decide)
        rw [hE, hn.1, hn.2.1, hn.2.2.1, hn.2.2.2]
        exact rget_form (bOf (a :: b :: x :: y :: r)) a b x y w hs z4 rfl rfl rfl rfl h1
      · rw [if_neg h1] at hE
        by_cases h2 : (bOf (a :: b :: x :: y :: r)).size < 256 * x.toNat + y.toNat
        · rw [if_pos h2] at hE
          have hn := g_none (s := a :: b :: x :: y :: r) (by rw [hE]; decide)
          rw [hE, hn.1, hn.2.1, hn.2.2.1, hn.2.2.2]
          exact rget_end (bOf (a :: b :: x :: y :: r)) a b x y w hs z4 rfl rfl rfl rfl h1 h2
        · rw [if_neg h2] at hE
          by_cases h3 : 1500 < 256 * x.toNat + y.toNat
          · rw [if_pos h3] at hE
            have hn := g_none (s := a :: b :: x :: y :: r) (by rw [hE]; decide)
            rw [hE, hn.1, hn.2.1, hn.2.2.1, hn.2.2.2]
            exact rget_long (bOf (a :: b :: x :: y :: r)) a b x y w hs z4 rfl rfl rfl rfl h1 h2 h3
          · rw [if_neg h3] at hE
            have h := rget_ok (bOf (a :: b :: x :: y :: r)) a b x y w hs z4 rfl rfl rfl rfl h1 h2 h3
            have hC : gC (a :: b :: x :: y :: r) = a := by unfold gC; rw [if_pos hE]; rfl
            have hI : gI (a :: b :: x :: y :: r) = b := by unfold gI; rw [if_pos hE]; rfl
            have hD : (bOf (a :: b :: x :: y :: r)).extract 4 (256 * x.toNat + y.toNat) = bOf (gD (a :: b :: x :: y :: r)) := by
              rw [extract_bOf, toList_bOf, gD, if_pos hE, hp, List.drop_take]
            have hN : ((bOf (a :: b :: x :: y :: r)).size : Int) - ((256 * x.toNat + y.toNat : Nat) : Int) = ((gN (a :: b :: x :: y :: r) : Nat) : Int) := by
              rw [gN, if_pos hE, hp, hlen]; omega
            rw [hD, hN] at h
            rw [hC, hI, hE]
            exact h
    | [], h4, _ | [_], h4, _ | [_, _], h4, _ | [_, _, _], h4, _ => simp at h4
end Go.Proofs.Ytdecinfnilopfaa.Pkt
