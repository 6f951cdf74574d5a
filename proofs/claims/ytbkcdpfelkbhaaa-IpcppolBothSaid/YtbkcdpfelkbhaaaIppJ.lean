/- Contract of evaluate. -/
import Derived.Test.YtbkcdpfelkbhaaaIppH
import Derived.Test.YtbkcdpfelkbhaaaIppI
import Derived.Test.YtbkcdpfelkbhaaaG1
import Derived.Deep.LoopGhost
import Derived.Deep.CutRange
import Derived.Deep.RegionHeld3
import Derived.OrdersHeld
set_option linter.unusedSimpArgs false
set_option linter.unusedVariables false
namespace Go.Proofs.Ytbkcdpfelkbhaaa.Ipp
open Go.RowKit Go.Proofs.Ytbkcdpfelkbhaaa.Oct Go.Proofs.Ytbkcdpfelkbhaaa.Row Go.Proofs.Ytbkcdpfelkbhaaa.Mem Go.Proofs.Ytbkcdpfelkbhaaa.Opt Go.Proofs.Ytbkcdpfelkbhaaa.Ipc

theorem boxO (w : World) (o : Opt) : ∃ W, w.alloc (.cells #[.int .u8 o.1.toNat, .string o.2] 48) = W ∧ Hid (At W w.heap.size o ∧ Below w.heap.size w W ∧ W.heap.size = w.heap.size + 1) :=
  ⟨_, rfl, at_new w o.1 o.2, (Below.refl w.heap.size w).alloc (Nat.le_refl _) _, by simp⟩
theorem say_any (t : UInt8) {W : World} {m : Nat} (h : Sy W m) : ∃ a b c, (Instr.lookup 77 (.map (some m)) (.int .u8 t.toNat) false).run Try.prog W = .ok (.agg #[a, b, c]) W ∧ (known t = true → Value.agg #[a, b, c] = trip t) := by
  cases hk : known t
  · exact ⟨_, _, _, say_none hk h, fun e => by cases e⟩
  · exact ⟨_, _, _, say_look hk h, fun _ => rfl⟩
set_option maxHeartbeats 8000000 in
set_option maxRecDepth 100000 in
theorem evaluate_any (g : Nat) (p : Po) (l : List Opt) (A : Option Addr) (n c : Nat) (w : World) (h : PAt w g p) (hl : Opts w w.heap.size A n l) (hn : n ≤ 1000) :
    Calls Try.prog 29 #[.pointer (some ⟨g, 0, none⟩), .slice A n c] w (EvQ p l n w) := by
  obtain ⟨i1, hi, hz0, hz1, hz2⟩ := info_parts Try.info67
  have Hn := Lib.hid hl.1
  have Hl := Lib.hid hl; clear hl
  have HP := Lib.hid h; clear h
  have hz := zero_tabB
  go_enter Try.func29, Try.ntmps29
  go_wp2_with fail
  refine (sayings_any w).mono ?_
  rintro e w1 ⟨m, rfl, hm1, hs1, hb1⟩
  have HB1 := Lib.hid hb1
  have HP1 := Lib.hid (HP.out.callee hb1)
  have HS1 := Lib.hid hs1
  have HT1 : Hid (TabB (w1.alloc (.cells (arrB fun _ => false) 96)) w1.heap.size (sn [])) := World.alloc_heap_new w1 _
  have HE1 := Lib.hid hb1.size
  clear hb1 hs1 HP
  have HE2 : Hid (w.heap.size ≤ (w1.alloc (.cells (arrB fun _ => false) 96)).heap.size) := by show _ ≤ _; rw [World.size_alloc]; exact Nat.le_succ_of_le HE1.out
  go_wp2_with (at_make; refine wpList_make_own _ rfl _ _ 63 rfl w.heap.size 67 i1 _ 5 Try.underlying63 hi hz0 hz1 .i64 .i64 _ n rfl rfl rfl (by rw [hz2]; omega) (by unfold maxLen; omega) HE2.out ?_; intro w2 hown2 hgr2; have Hown2 := Lib.hid hown2; have Hgr2 := Lib.hid hgr2; clear hown2 hgr2)
  have HG2 : Hid (Below (w1.alloc (.cells (arrB fun _ => false) 96)).heap.size (w1.alloc (.cells (arrB fun _ => false) 96)) w2) := (Below.refl _ _).grown Hgr2.out (Nat.le_refl _) (fun q e => by cases e)
  have HF2 : Hid (Below w1.heap.size w1 w2) := ((Below.refl _ _).alloc (Nat.le_refl _) _).trans (HG2.out.mono (by rw [World.size_alloc]; exact Nat.le_succ _))
  have H0 : Hid (∃ v, v = .slice (some ⟨(w1.alloc (.cells (arrB fun _ => false) 96)).heap.size, 0, none⟩) 0 n ∧ Ev w w2 g p m w1.heap.size v l 0) :=
    ⟨_, rfl, HP1.out.callee HF2.out, HS1.out.callee HF2.out, HT1.out.callee HG2.out, Hown2.out, HB1.out.trans (HF2.out.mono HB1.out.size), HE1.out⟩
  clear HP1 HS1 HT1 Hown2 Hgr2 HG2 HF2 HB1 hz HE2
  rw [World.size_alloc] at H0
  generalize w1.heap.size = ge at *
  go_loopg [7, 18] n (fun gk v i wr => ∃ k : Nat, k ≤ n ∧ gk = n - k ∧ i = .int .i64 k ∧ Hid (Ev w wr g p m ge v l k))
  case atStart => obtain ⟨v, rfl, hv⟩ := H0.out; exact ⟨0, Nat.zero_le _, rfl, rfl, hv⟩
  case round =>
    obtain ⟨k, hk, hgk, rfl, HE⟩ := hrel
    have Hgk := Lib.hid hgk; clear hgk
    by_cases hlt : k < n
    · obtain ⟨ad, o, rfl, hB, ho, hS1, hc0, hc1⟩ := (Hl.out.below HE.out.hb).at_ hlt
      have Hvs := Lib.hid (vs_snoc p l k o ho)
      have Hsn := Lib.hid (sn_next l k o ho)
      have HSz := Lib.hid hS1
      clear ho hS1
      obtain ⟨W, hW, HW⟩ := boxO wr o
      have HEW := Lib.hid (HE.out.callee HW.out.2.1)
      have HOW := Lib.hid HW.out.1
      obtain ⟨a, b, cc, hlk, htr⟩ := say_any o.1 HEW.out.hm
      have HI := Lib.hid (improved_any g p o a b cc W HEW.out.hp htr HSz.out)
      have a0 := HOW.out.c0
      have a1 := HOW.out.c1
      clear htr HW
      go_wp2_with fail
      refine HI.out.mono ?_
      rintro e w5 ⟨rfl, hb5⟩
      generalize wr.heap.size = bo at *
      have HE5 := Lib.hid (HEW.out.callee hb5)
      have HO5 := Lib.hid (HOW.out.callee hb5)
      clear hb5 hW hlk HI HEW HOW HE a0 a1 hc0 hc1
      have Hver : Hid (ver p (l.take k) o = ⟨o, seen (l.take k) o.1 || !ok p o, imp p o⟩) := rfl
      generalize imp p o = r at *
      generalize ok p o = q at *
      have hq : o.1.toNat < 256 := o.1.toNat_lt
      have q0 : (0 : Int) ≤ (o.1.toNat : Int) := Int.natCast_nonneg _
      have q1 : (o.1.toNat : Int) < 256 := by omega
      obtain ⟨Y, hY, HY⟩ := boxO w5 r
      have HE : Hid (Ev w Y.drew g p m ge u7 l k) := (HE5.out.callee HY.out.2.1).callee (Below.refl _ Y).drew
      have HO : Hid (At Y.drew bo o) := (HO5.out.callee HY.out.2.1).callee (Below.refl _ Y).drew
      have HR : Hid (At Y.drew w5.heap.size r) := HY.out.1.callee (Below.refl _ Y).drew
      have d0 := HO.out.c0
      have d1 := HO.out.c1
      have d3 := HR.out.c0
      have d4 := HR.out.c1
      clear HE5 HO5
      cases hs : seen (l.take k) o.1
      · have Hs0 : Hid (sn (l.take k) o.1.toNat = false) := by show _ = _; rw [sn_at]; exact hs
        have d2 := HE.out.ht.cell o.1.toNat hq
        rw [Hs0.out] at d2
        rw [hs] at Hver
        simp only [Bool.false_or] at Hver
        clear hs HY
        go_wp2_with fail
        clear hY
        refine wp_region_held_drew (S := (fun w' => w'.cell? ⟨bo, 0, none⟩ = some (.int .u8 o.1.toNat) ∧ w'.cell? ⟨bo, 1, none⟩ = some (.string o.2) ∧ w'.cell? ⟨ge, o.1.toNat, none⟩ = some (.bool false) ∧ w'.cell? ⟨w5.heap.size, 0, none⟩ = some (.int .u8 r.1.toNat) ∧ w'.cell? ⟨w5.heap.size, 1, none⟩ = some (.string r.2))) (by kernel_rfl) ⟨d0, d1, d2, d3, d4⟩ (fun hHeld => ?_)
        generalize Y.drew = U at *
        refine wpAnyH_take (i := 0) (v := ?vv0_1) rfl (by kernel_rfl) (by kernel_rfl) (by kernel_rfl) (fun _ _ _ h => h) (Or.inl ⟨by rfl, ?yy0_1⟩) (by assumption) ?rr0_1
        case yy0_1 => (intro w hSw; (try dsimp only at hSw); obtain ⟨hS1', hS2', hS3', hS4', hS5'⟩ := hSw; (try simp only [List.getElem_toArray, List.getElem_cons_succ, List.getElem_cons_zero, Act.put, List.setIfInBounds_toArray, List.set_cons_zero, List.set_cons_succ]); go_simp; (try (with_reducible rfl)))
        try simp only [List.getElem_toArray, List.getElem_cons_succ, List.getElem_cons_zero, Act.put, List.setIfInBounds_toArray, List.set_cons_zero, List.set_cons_succ]
        refine wpAnyH_take (i := 1) (v := ?vv1_2) rfl (by kernel_rfl) (by kernel_rfl) (by kernel_rfl) (fun _ _ _ h => h) (Or.inl ⟨by rfl, ?yy1_2⟩) (by assumption) ?rr1_2
        case yy1_2 => (intro w hSw; (try dsimp only at hSw); obtain ⟨hS1', hS2', hS3', hS4', hS5'⟩ := hSw; (try simp only [List.getElem_toArray, List.getElem_cons_succ, List.getElem_cons_zero, Act.put, List.setIfInBounds_toArray, List.set_cons_zero, List.set_cons_succ]); go_simp; (try (with_reducible rfl)))
        try simp only [List.getElem_toArray, List.getElem_cons_succ, List.getElem_cons_zero, Act.put, List.setIfInBounds_toArray, List.set_cons_zero, List.set_cons_succ]
        refine wpAnyH_take (i := 2) (v := ?vv2_3) rfl (by kernel_rfl) (by kernel_rfl) (by kernel_rfl) (fun _ _ _ h => h) (Or.inl ⟨by rfl, ?yy2_3⟩) (by assumption) ?rr2_3
        case yy2_3 => (intro w hSw; (try dsimp only at hSw); obtain ⟨hS1', hS2', hS3', hS4', hS5'⟩ := hSw; (try simp only [List.getElem_toArray, List.getElem_cons_succ, List.getElem_cons_zero, Act.put, List.setIfInBounds_toArray, List.set_cons_zero, List.set_cons_succ]); go_simp; (try (with_reducible rfl)))
        try simp only [List.getElem_toArray, List.getElem_cons_succ, List.getElem_cons_zero, Act.put, List.setIfInBounds_toArray, List.set_cons_zero, List.set_cons_succ]
        refine wpAnyH_take (i := 3) (v := ?vv3_4) rfl (by kernel_rfl) (by kernel_rfl) (by kernel_rfl) (fun _ _ _ h => h) (Or.inl ⟨by rfl, ?yy3_4⟩) (by assumption) ?rr3_4
        case yy3_4 => (intro w hSw; (try dsimp only at hSw); obtain ⟨hS1', hS2', hS3', hS4', hS5'⟩ := hSw; (try simp only [List.getElem_toArray, List.getElem_cons_succ, List.getElem_cons_zero, Act.put, List.setIfInBounds_toArray, List.set_cons_zero, List.set_cons_succ]); go_simp; (try (with_reducible rfl)))
        try simp only [List.getElem_toArray, List.getElem_cons_succ, List.getElem_cons_zero, Act.put, List.setIfInBounds_toArray, List.set_cons_zero, List.set_cons_succ]
        refine wpAnyH_take (i := 4) (v := ?vv4_5) rfl (by kernel_rfl) (by kernel_rfl) (by kernel_rfl) (fun _ _ _ h => h) (Or.inl ⟨by rfl, ?yy4_5⟩) (by assumption) ?rr4_5
        case yy4_5 => (intro w hSw; (try dsimp only at hSw); obtain ⟨hS1', hS2', hS3', hS4', hS5'⟩ := hSw; (try simp only [List.getElem_toArray, List.getElem_cons_succ, List.getElem_cons_zero, Act.put, List.setIfInBounds_toArray, List.set_cons_zero, List.set_cons_succ]); go_simp; (try (with_reducible rfl)))
        try simp only [List.getElem_toArray, List.getElem_cons_succ, List.getElem_cons_zero, Act.put, List.setIfInBounds_toArray, List.set_cons_zero, List.set_cons_succ]
        refine wpAnyH_take (i := 5) (v := ?vv5_6) rfl (by kernel_rfl) (by kernel_rfl) (by kernel_rfl) (fun _ _ _ h => h) (Or.inl ⟨by rfl, ?yy5_6⟩) (by assumption) ?rr5_6
        case yy5_6 => (intro w hSw; (try dsimp only at hSw); obtain ⟨hS1', hS2', hS3', hS4', hS5'⟩ := hSw; (try simp only [List.getElem_toArray, List.getElem_cons_succ, List.getElem_cons_zero, Act.put, List.setIfInBounds_toArray, List.set_cons_zero, List.set_cons_succ]); go_simp; (try (with_reducible rfl)))
        try simp only [List.getElem_toArray, List.getElem_cons_succ, List.getElem_cons_zero, Act.put, List.setIfInBounds_toArray, List.set_cons_zero, List.set_cons_succ]
        refine wpAnyH_take (i := 6) (v := ?vv6_7) rfl (by kernel_rfl) (by kernel_rfl) (by kernel_rfl) (fun _ _ _ h => h) (Or.inl ⟨by rfl, ?yy6_7⟩) (by assumption) ?rr6_7
        case yy6_7 => (intro w hSw; (try dsimp only at hSw); obtain ⟨hS1', hS2', hS3', hS4', hS5'⟩ := hSw; (try simp only [List.getElem_toArray, List.getElem_cons_succ, List.getElem_cons_zero, Act.put, List.setIfInBounds_toArray, List.set_cons_zero, List.set_cons_succ]); go_simp; (try (with_reducible rfl)))
        try simp only [List.getElem_toArray, List.getElem_cons_succ, List.getElem_cons_zero, Act.put, List.setIfInBounds_toArray, List.set_cons_zero, List.set_cons_succ]
        refine wpAnyH_take (i := 7) (v := ?vv7_8) rfl (by kernel_rfl) (by kernel_rfl) (by kernel_rfl) (fun _ _ _ h => h) (Or.inl ⟨by rfl, ?yy7_8⟩) (by assumption) ?rr7_8
        case yy7_8 => (intro w hSw; (try dsimp only at hSw); obtain ⟨hS1', hS2', hS3', hS4', hS5'⟩ := hSw; (try simp only [List.getElem_toArray, List.getElem_cons_succ, List.getElem_cons_zero, Act.put, List.setIfInBounds_toArray, List.set_cons_zero, List.set_cons_succ]); go_simp; (try (with_reducible rfl)))
        try simp only [List.getElem_toArray, List.getElem_cons_succ, List.getElem_cons_zero, Act.put, List.setIfInBounds_toArray, List.set_cons_zero, List.set_cons_succ]
        refine wpAnyH_take (i := 8) (v := ?vv8_9) rfl (by kernel_rfl) (by kernel_rfl) (by kernel_rfl) (fun _ _ _ h => h) (Or.inl ⟨by rfl, ?yy8_9⟩) (by assumption) ?rr8_9
        case yy8_9 => (intro w hSw; (try dsimp only at hSw); obtain ⟨hS1', hS2', hS3', hS4', hS5'⟩ := hSw; (try simp only [List.getElem_toArray, List.getElem_cons_succ, List.getElem_cons_zero, Act.put, List.setIfInBounds_toArray, List.set_cons_zero, List.set_cons_succ]); go_simp; (try (with_reducible rfl)))
        try simp only [List.getElem_toArray, List.getElem_cons_succ, List.getElem_cons_zero, Act.put, List.setIfInBounds_toArray, List.set_cons_zero, List.set_cons_succ]
        refine wpAnyH_take (i := 9) (v := ?vv9_10) rfl (by kernel_rfl) (by kernel_rfl) (by kernel_rfl) (fun _ _ _ h => h) (Or.inl ⟨by rfl, ?yy9_10⟩) (by assumption) ?rr9_10
        case yy9_10 => (intro w hSw; (try dsimp only at hSw); obtain ⟨hS1', hS2', hS3', hS4', hS5'⟩ := hSw; (try simp only [List.getElem_toArray, List.getElem_cons_succ, List.getElem_cons_zero, Act.put, List.setIfInBounds_toArray, List.set_cons_zero, List.set_cons_succ]); go_simp; (try (with_reducible rfl)))
        try simp only [List.getElem_toArray, List.getElem_cons_succ, List.getElem_cons_zero, Act.put, List.setIfInBounds_toArray, List.set_cons_zero, List.set_cons_succ]
        refine wpAnyH_take (i := 10) (v := ?vv10_11) rfl (by kernel_rfl) (by kernel_rfl) (by kernel_rfl) (fun _ _ _ h => h) (Or.inl ⟨by rfl, ?yy10_11⟩) (by assumption) ?rr10_11
        case yy10_11 => (intro w hSw; (try dsimp only at hSw); obtain ⟨hS1', hS2', hS3', hS4', hS5'⟩ := hSw; (try simp only [List.getElem_toArray, List.getElem_cons_succ, List.getElem_cons_zero, Act.put, List.setIfInBounds_toArray, List.set_cons_zero, List.set_cons_succ]); go_simp; (try (with_reducible rfl)))
        try simp only [List.getElem_toArray, List.getElem_cons_succ, List.getElem_cons_zero, Act.put, List.setIfInBounds_toArray, List.set_cons_zero, List.set_cons_succ]
        refine wpAnyH_take (i := 11) (v := ?vv11_12) rfl (by kernel_rfl) (by kernel_rfl) (by kernel_rfl) (fun _ _ _ h => h) (Or.inl ⟨by rfl, ?yy11_12⟩) (by assumption) ?rr11_12
        case yy11_12 => (intro w hSw; (try dsimp only at hSw); obtain ⟨hS1', hS2', hS3', hS4', hS5'⟩ := hSw; (try simp only [List.getElem_toArray, List.getElem_cons_succ, List.getElem_cons_zero, Act.put, List.setIfInBounds_toArray, List.set_cons_zero, List.set_cons_succ]); go_simp; (try (with_reducible rfl)))
        try simp only [List.getElem_toArray, List.getElem_cons_succ, List.getElem_cons_zero, Act.put, List.setIfInBounds_toArray, List.set_cons_zero, List.set_cons_succ]
        refine wpAnyH_ready (rs := [12]) (by kernel_rfl) (by simp) ?_
        refine AllReadyH.cons (o := _) rfl (fun K hK => ?_) AllReadyH.nil
        try simp only [List.getElem_toArray, List.getElem_cons_succ, List.getElem_cons_zero, Act.put, List.setIfInBounds_toArray, List.set_cons_zero, List.set_cons_succ]
        go_simp
        have HA3 := Lib.hid (HO.out.alloc (.cells #[.int .u8 o.1.toNat, .string o.2, .bool (!q), .int .u8 r.1.toNat, .string r.2] 67))
        have HB3 := Lib.hid (HE.out.alloc (.cells #[.int .u8 o.1.toNat, .string o.2, .bool (!q), .int .u8 r.1.toNat, .string r.2] 67))
        have HC3 := Lib.hid (HR.out.alloc (.cells #[.int .u8 o.1.toNat, .string o.2, .bool (!q), .int .u8 r.1.toNat, .string r.2] 67))
        have e0 := HA3.out.c0
        have e1 := HA3.out.c1
        have e2 := HB3.out.ht.cell o.1.toNat hq
        rw [Hs0.out] at e2
        have e3 := HC3.out.c0
        have e4 := HC3.out.c1
        refine hK.out _ _ ⟨e0, e1, e2, e3, e4⟩ (fun hHeld => ?_)
        clear hK K
        try simp only [List.getElem_toArray, List.getElem_cons_succ, List.getElem_cons_zero, Act.put, List.setIfInBounds_toArray, List.set_cons_zero, List.set_cons_succ]
        refine wpAnyH_ready (rs := [13]) (by kernel_rfl) (by simp) ?_
        refine AllReadyH.cons (o := _) rfl (fun K hK => ?_) AllReadyH.nil
        refine step_append_any (U.alloc (.cells #[.int .u8 o.1.toNat, .string o.2, .bool (!q), .int .u8 r.1.toNat, .string r.2] 67)) (by rfl) _ _ _ (by rfl) w.heap.size 67 i1 _ 5 56 Try.underlying63 hi hz0 hz1 hz2 rfl (by decide) u7 k (versV (vs p (l.take k))) (by rfl) HB3.out.hr ⟨U.heap.size, 0, none⟩ 1 1 (verV ⟨o, (!q), r⟩) (by rfl) (by rfl) (cells_new _ (verV ⟨o, (!q), r⟩).toArray _) (verV_ones _) (by unfold maxLen; omega) (by omega) HB3.out.hb.size ?_
        intro v1 w9 hown1 hgr1 _
        have HN : Hid (Ew w w9 g p m ge v1 l k) := HE.out.grown hgr1 hown1 (by rw [Hvs.out, Hver.out])
        have HO9 : Hid (At w9 bo o) := Blk.moves HA3.out (Moves.of_grown hgr1 (fun k e _ => e)) (cells_not_row HA3.out (by decide) HB3.out.hr)
        have HR9 : Hid (At w9 w5.heap.size r) := Blk.moves HC3.out (Moves.of_grown hgr1 (fun k e _ => e)) (cells_not_row HC3.out (by decide) HB3.out.hr)
        have y0 := HO9.out.c0
        have y1 := HO9.out.c1
        have y2 := HN.out.ht.cell o.1.toNat hq
        rw [Hs0.out] at y2
        have y3 := HR9.out.c0
        have y4 := HR9.out.c1
        clear hown1 hgr1
        refine hK.out _ _ ⟨y0, y1, y2, y3, y4⟩ (fun hHeld => ?_)
        clear hK K
        try simp only [List.getElem_toArray, List.getElem_cons_succ, List.getElem_cons_zero, Act.put, List.setIfInBounds_toArray, List.set_cons_zero, List.set_cons_succ]
        refine wpAnyH_take (i := 14) (v := ?vv14_13) rfl (by kernel_rfl) (by kernel_rfl) (by kernel_rfl) (fun _ _ _ h => h) (Or.inl ⟨by rfl, ?yy14_13⟩) (by assumption) ?rr14_13
        case yy14_13 => (intro w hSw; (try dsimp only at hSw); obtain ⟨hS1', hS2', hS3', hS4', hS5'⟩ := hSw; (try simp only [List.getElem_toArray, List.getElem_cons_succ, List.getElem_cons_zero, Act.put, List.setIfInBounds_toArray, List.set_cons_zero, List.set_cons_succ]); go_simp; (try (with_reducible rfl)))
        try simp only [List.getElem_toArray, List.getElem_cons_succ, List.getElem_cons_zero, Act.put, List.setIfInBounds_toArray, List.set_cons_zero, List.set_cons_succ]
        refine wpAnyH_done (by kernel_rfl) ?_ _
        clear e0 e1 e2 e3 e4 y1 y2 y3 y4 d0 d1 d2 d3 d4 HA3 HB3 HC3 HE HO HR HR9 Hs0 hHeld
        have m2 := HN.out.ht.frozen o.1.toNat
        have m1 := HN.out.ht.cell o.1.toNat hq
        obtain ⟨X, hX⟩ : ∃ X, w9.setCell ⟨ge, o.1.toNat, none⟩ (.bool true) = X := ⟨_, rfl⟩
        have HM : Hid (Ev w X g p m ge v1 l (k + 1)) := by show Ev _ _ _ _ _ _ _ _ _; rw [← hX]; exact HN.out.mark hq Hsn.out
        clear HN HO9
        go_wp2
        go_roundg (n - (k + 1))
        case measure => rw [Hgk.out]; omega
        case rel => exact ⟨k + 1, by omega, rfl, by go_num, HM⟩
      · have Hs0 : Hid (sn (l.take k) o.1.toNat = true) := by show _ = _; rw [sn_at]; exact hs
        have d2 := HE.out.ht.cell o.1.toNat hq
        rw [Hs0.out] at d2
        rw [hs] at Hver
        simp only [Bool.true_or] at Hver
        clear hs HY
        go_wp2_with fail
        clear hY
        refine wp_region_held_drew (S := (fun w' => w'.cell? ⟨bo, 0, none⟩ = some (.int .u8 o.1.toNat) ∧ w'.cell? ⟨bo, 1, none⟩ = some (.string o.2) ∧ w'.cell? ⟨ge, o.1.toNat, none⟩ = some (.bool true) ∧ w'.cell? ⟨w5.heap.size, 0, none⟩ = some (.int .u8 r.1.toNat) ∧ w'.cell? ⟨w5.heap.size, 1, none⟩ = some (.string r.2))) (by kernel_rfl) ⟨d0, d1, d2, d3, d4⟩ (fun hHeld => ?_)
        generalize Y.drew = U at *
        refine wpAnyH_take (i := 0) (v := ?vv0_14) rfl (by kernel_rfl) (by kernel_rfl) (by kernel_rfl) (fun _ _ _ h => h) (Or.inl ⟨by rfl, ?yy0_14⟩) (by assumption) ?rr0_14
        case yy0_14 => (intro w hSw; (try dsimp only at hSw); obtain ⟨hS1', hS2', hS3', hS4', hS5'⟩ := hSw; (try simp only [List.getElem_toArray, List.getElem_cons_succ, List.getElem_cons_zero, Act.put, List.setIfInBounds_toArray, List.set_cons_zero, List.set_cons_succ]); go_simp; (try (with_reducible rfl)))
        try simp only [List.getElem_toArray, List.getElem_cons_succ, List.getElem_cons_zero, Act.put, List.setIfInBounds_toArray, List.set_cons_zero, List.set_cons_succ]
        refine wpAnyH_take (i := 1) (v := ?vv1_15) rfl (by kernel_rfl) (by kernel_rfl) (by kernel_rfl) (fun _ _ _ h => h) (Or.inl ⟨by rfl, ?yy1_15⟩) (by assumption) ?rr1_15
        case yy1_15 => (intro w hSw; (try dsimp only at hSw); obtain ⟨hS1', hS2', hS3', hS4', hS5'⟩ := hSw; (try simp only [List.getElem_toArray, List.getElem_cons_succ, List.getElem_cons_zero, Act.put, List.setIfInBounds_toArray, List.set_cons_zero, List.set_cons_succ]); go_simp; (try (with_reducible rfl)))
        try simp only [List.getElem_toArray, List.getElem_cons_succ, List.getElem_cons_zero, Act.put, List.setIfInBounds_toArray, List.set_cons_zero, List.set_cons_succ]
        refine wpAnyH_take (i := 2) (v := ?vv2_16) rfl (by kernel_rfl) (by kernel_rfl) (by kernel_rfl) (fun _ _ _ h => h) (Or.inl ⟨by rfl, ?yy2_16⟩) (by assumption) ?rr2_16
        case yy2_16 => (intro w hSw; (try dsimp only at hSw); obtain ⟨hS1', hS2', hS3', hS4', hS5'⟩ := hSw; (try simp only [List.getElem_toArray, List.getElem_cons_succ, List.getElem_cons_zero, Act.put, List.setIfInBounds_toArray, List.set_cons_zero, List.set_cons_succ]); go_simp; (try (with_reducible rfl)))
        try simp only [List.getElem_toArray, List.getElem_cons_succ, List.getElem_cons_zero, Act.put, List.setIfInBounds_toArray, List.set_cons_zero, List.set_cons_succ]
        refine wpAnyH_take (i := 3) (v := ?vv3_17) rfl (by kernel_rfl) (by kernel_rfl) (by kernel_rfl) (fun _ _ _ h => h) (Or.inl ⟨by rfl, ?yy3_17⟩) (by assumption) ?rr3_17
        case yy3_17 => (intro w hSw; (try dsimp only at hSw); obtain ⟨hS1', hS2', hS3', hS4', hS5'⟩ := hSw; (try simp only [List.getElem_toArray, List.getElem_cons_succ, List.getElem_cons_zero, Act.put, List.setIfInBounds_toArray, List.set_cons_zero, List.set_cons_succ]); go_simp; (try (with_reducible rfl)))
        try simp only [List.getElem_toArray, List.getElem_cons_succ, List.getElem_cons_zero, Act.put, List.setIfInBounds_toArray, List.set_cons_zero, List.set_cons_succ]
        refine wpAnyH_take (i := 4) (v := ?vv4_18) rfl (by kernel_rfl) (by kernel_rfl) (by kernel_rfl) (fun _ _ _ h => h) (Or.inl ⟨by rfl, ?yy4_18⟩) (by assumption) ?rr4_18
        case yy4_18 => (intro w hSw; (try dsimp only at hSw); obtain ⟨hS1', hS2', hS3', hS4', hS5'⟩ := hSw; (try simp only [List.getElem_toArray, List.getElem_cons_succ, List.getElem_cons_zero, Act.put, List.setIfInBounds_toArray, List.set_cons_zero, List.set_cons_succ]); go_simp; (try (with_reducible rfl)))
        try simp only [List.getElem_toArray, List.getElem_cons_succ, List.getElem_cons_zero, Act.put, List.setIfInBounds_toArray, List.set_cons_zero, List.set_cons_succ]
        refine wpAnyH_take (i := 5) (v := ?vv5_19) rfl (by kernel_rfl) (by kernel_rfl) (by kernel_rfl) (fun _ _ _ h => h) (Or.inl ⟨by rfl, ?yy5_19⟩) (by assumption) ?rr5_19
        case yy5_19 => (intro w hSw; (try dsimp only at hSw); obtain ⟨hS1', hS2', hS3', hS4', hS5'⟩ := hSw; (try simp only [List.getElem_toArray, List.getElem_cons_succ, List.getElem_cons_zero, Act.put, List.setIfInBounds_toArray, List.set_cons_zero, List.set_cons_succ]); go_simp; (try (with_reducible rfl)))
        try simp only [List.getElem_toArray, List.getElem_cons_succ, List.getElem_cons_zero, Act.put, List.setIfInBounds_toArray, List.set_cons_zero, List.set_cons_succ]
        refine wpAnyH_take (i := 6) (v := ?vv6_20) rfl (by kernel_rfl) (by kernel_rfl) (by kernel_rfl) (fun _ _ _ h => h) (Or.inl ⟨by rfl, ?yy6_20⟩) (by assumption) ?rr6_20
        case yy6_20 => (intro w hSw; (try dsimp only at hSw); obtain ⟨hS1', hS2', hS3', hS4', hS5'⟩ := hSw; (try simp only [List.getElem_toArray, List.getElem_cons_succ, List.getElem_cons_zero, Act.put, List.setIfInBounds_toArray, List.set_cons_zero, List.set_cons_succ]); go_simp; (try (with_reducible rfl)))
        try simp only [List.getElem_toArray, List.getElem_cons_succ, List.getElem_cons_zero, Act.put, List.setIfInBounds_toArray, List.set_cons_zero, List.set_cons_succ]
        refine wpAnyH_take (i := 7) (v := undef) rfl (by kernel_rfl) (by kernel_rfl) (by kernel_rfl) (fun _ _ _ h => h) (Or.inr ⟨by rfl, rfl⟩) (by assumption) ?_
        try simp only [List.getElem_toArray, List.getElem_cons_succ, List.getElem_cons_zero, Act.put, List.setIfInBounds_toArray, List.set_cons_zero, List.set_cons_succ]
        refine wpAnyH_take (i := 8) (v := undef) rfl (by kernel_rfl) (by kernel_rfl) (by kernel_rfl) (fun _ _ _ h => h) (Or.inr ⟨by rfl, rfl⟩) (by assumption) ?_
        try simp only [List.getElem_toArray, List.getElem_cons_succ, List.getElem_cons_zero, Act.put, List.setIfInBounds_toArray, List.set_cons_zero, List.set_cons_succ]
        refine wpAnyH_take (i := 9) (v := ?vv9_21) rfl (by kernel_rfl) (by kernel_rfl) (by kernel_rfl) (fun _ _ _ h => h) (Or.inl ⟨by rfl, ?yy9_21⟩) (by assumption) ?rr9_21
        case yy9_21 => (intro w hSw; (try dsimp only at hSw); obtain ⟨hS1', hS2', hS3', hS4', hS5'⟩ := hSw; (try simp only [List.getElem_toArray, List.getElem_cons_succ, List.getElem_cons_zero, Act.put, List.setIfInBounds_toArray, List.set_cons_zero, List.set_cons_succ]); go_simp; (try (with_reducible rfl)))
        try simp only [List.getElem_toArray, List.getElem_cons_succ, List.getElem_cons_zero, Act.put, List.setIfInBounds_toArray, List.set_cons_zero, List.set_cons_succ]
        refine wpAnyH_take (i := 10) (v := ?vv10_22) rfl (by kernel_rfl) (by kernel_rfl) (by kernel_rfl) (fun _ _ _ h => h) (Or.inl ⟨by rfl, ?yy10_22⟩) (by assumption) ?rr10_22
        case yy10_22 => (intro w hSw; (try dsimp only at hSw); obtain ⟨hS1', hS2', hS3', hS4', hS5'⟩ := hSw; (try simp only [List.getElem_toArray, List.getElem_cons_succ, List.getElem_cons_zero, Act.put, List.setIfInBounds_toArray, List.set_cons_zero, List.set_cons_succ]); go_simp; (try (with_reducible rfl)))
        try simp only [List.getElem_toArray, List.getElem_cons_succ, List.getElem_cons_zero, Act.put, List.setIfInBounds_toArray, List.set_cons_zero, List.set_cons_succ]
        refine wpAnyH_take (i := 11) (v := ?vv11_23) rfl (by kernel_rfl) (by kernel_rfl) (by kernel_rfl) (fun _ _ _ h => h) (Or.inl ⟨by rfl, ?yy11_23⟩) (by assumption) ?rr11_23
        case yy11_23 => (intro w hSw; (try dsimp only at hSw); obtain ⟨hS1', hS2', hS3', hS4', hS5'⟩ := hSw; (try simp only [List.getElem_toArray, List.getElem_cons_succ, List.getElem_cons_zero, Act.put, List.setIfInBounds_toArray, List.set_cons_zero, List.set_cons_succ]); go_simp; (try (with_reducible rfl)))
        try simp only [List.getElem_toArray, List.getElem_cons_succ, List.getElem_cons_zero, Act.put, List.setIfInBounds_toArray, List.set_cons_zero, List.set_cons_succ]
        refine wpAnyH_ready (rs := [12]) (by kernel_rfl) (by simp) ?_
        refine AllReadyH.cons (o := _) rfl (fun K hK => ?_) AllReadyH.nil
        try simp only [List.getElem_toArray, List.getElem_cons_succ, List.getElem_cons_zero, Act.put, List.setIfInBounds_toArray, List.set_cons_zero, List.set_cons_succ]
        go_simp
        have HA3 := Lib.hid (HO.out.alloc (.cells #[.int .u8 o.1.toNat, .string o.2, .bool true, .int .u8 r.1.toNat, .string r.2] 67))
        have HB3 := Lib.hid (HE.out.alloc (.cells #[.int .u8 o.1.toNat, .string o.2, .bool true, .int .u8 r.1.toNat, .string r.2] 67))
        have HC3 := Lib.hid (HR.out.alloc (.cells #[.int .u8 o.1.toNat, .string o.2, .bool true, .int .u8 r.1.toNat, .string r.2] 67))
        have e0 := HA3.out.c0
        have e1 := HA3.out.c1
        have e2 := HB3.out.ht.cell o.1.toNat hq
        rw [Hs0.out] at e2
        have e3 := HC3.out.c0
        have e4 := HC3.out.c1
        refine hK.out _ _ ⟨e0, e1, e2, e3, e4⟩ (fun hHeld => ?_)
        clear hK K
        try simp only [List.getElem_toArray, List.getElem_cons_succ, List.getElem_cons_zero, Act.put, List.setIfInBounds_toArray, List.set_cons_zero, List.set_cons_succ]
        refine wpAnyH_ready (rs := [13]) (by kernel_rfl) (by simp) ?_
        refine AllReadyH.cons (o := _) rfl (fun K hK => ?_) AllReadyH.nil
        refine step_append_any (U.alloc (.cells #[.int .u8 o.1.toNat, .string o.2, .bool true, .int .u8 r.1.toNat, .string r.2] 67)) (by rfl) _ _ _ (by rfl) w.heap.size 67 i1 _ 5 56 Try.underlying63 hi hz0 hz1 hz2 rfl (by decide) u7 k (versV (vs p (l.take k))) (by rfl) HB3.out.hr ⟨U.heap.size, 0, none⟩ 1 1 (verV ⟨o, true, r⟩) (by rfl) (by rfl) (cells_new _ (verV ⟨o, true, r⟩).toArray _) (verV_ones _) (by unfold maxLen; omega) (by omega) HB3.out.hb.size ?_
        intro v1 w9 hown1 hgr1 _
        have HN : Hid (Ew w w9 g p m ge v1 l k) := HE.out.grown hgr1 hown1 (by rw [Hvs.out, Hver.out])
        have HO9 : Hid (At w9 bo o) := Blk.moves HA3.out (Moves.of_grown hgr1 (fun k e _ => e)) (cells_not_row HA3.out (by decide) HB3.out.hr)
        have HR9 : Hid (At w9 w5.heap.size r) := Blk.moves HC3.out (Moves.of_grown hgr1 (fun k e _ => e)) (cells_not_row HC3.out (by decide) HB3.out.hr)
        have y0 := HO9.out.c0
        have y1 := HO9.out.c1
        have y2 := HN.out.ht.cell o.1.toNat hq
        rw [Hs0.out] at y2
        have y3 := HR9.out.c0
        have y4 := HR9.out.c1
        clear hown1 hgr1
        refine hK.out _ _ ⟨y0, y1, y2, y3, y4⟩ (fun hHeld => ?_)
        clear hK K
        try simp only [List.getElem_toArray, List.getElem_cons_succ, List.getElem_cons_zero, Act.put, List.setIfInBounds_toArray, List.set_cons_zero, List.set_cons_succ]
        refine wpAnyH_take (i := 14) (v := ?vv14_24) rfl (by kernel_rfl) (by kernel_rfl) (by kernel_rfl) (fun _ _ _ h => h) (Or.inl ⟨by rfl, ?yy14_24⟩) (by assumption) ?rr14_24
        case yy14_24 => (intro w hSw; (try dsimp only at hSw); obtain ⟨hS1', hS2', hS3', hS4', hS5'⟩ := hSw; (try simp only [List.getElem_toArray, List.getElem_cons_succ, List.getElem_cons_zero, Act.put, List.setIfInBounds_toArray, List.set_cons_zero, List.set_cons_succ]); go_simp; (try (with_reducible rfl)))
        try simp only [List.getElem_toArray, List.getElem_cons_succ, List.getElem_cons_zero, Act.put, List.setIfInBounds_toArray, List.set_cons_zero, List.set_cons_succ]
        refine wpAnyH_done (by kernel_rfl) ?_ _
        clear e0 e1 e2 e3 e4 y1 y2 y3 y4 d0 d1 d2 d3 d4 HA3 HB3 HC3 HE HO HR HR9 Hs0 hHeld
        have m2 := HN.out.ht.frozen o.1.toNat
        have m1 := HN.out.ht.cell o.1.toNat hq
        obtain ⟨X, hX⟩ : ∃ X, w9.setCell ⟨ge, o.1.toNat, none⟩ (.bool true) = X := ⟨_, rfl⟩
        have HM : Hid (Ev w X g p m ge v1 l (k + 1)) := by show Ev _ _ _ _ _ _ _ _ _; rw [← hX]; exact HN.out.mark hq Hsn.out
        clear HN HO9
        go_wp2
        go_roundg (n - (k + 1))
        case measure => rw [Hgk.out]; omega
        case rel => exact ⟨k + 1, by omega, rfl, by go_num, HM⟩
    · obtain rfl : k = n := by omega
      have HEnd : Hid (EvQ p l k w (.returned u7) wr) := by
        have h1 := HE.out.hr
        rw [List.take_of_length_le (by rw [Hn.out]; exact Nat.le_refl _)] at h1
        obtain ⟨A1, c1, e1, hv⟩ := vers_own h1
        exact ⟨A1, c1, by rw [e1], hv, HE.out.hb⟩
      go_wp2
      go_ret
      exact HEnd.out
end Go.Proofs.Ytbkcdpfelkbhaaa.Ipp
