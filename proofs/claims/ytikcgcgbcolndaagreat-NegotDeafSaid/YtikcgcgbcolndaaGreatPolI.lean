/- Contract of evaluate. -/
import Derived.Test.YtikcgcgbcolndaaGreatPolH
import Derived.Test.YtikcgcgbcolndaaGreatG28
import Derived.Deep.LoopGhost
import Derived.Deep.CutRange
import Derived.Deep.RegionHeld3
import Derived.OrdersHeld
set_option linter.unusedSimpArgs false
set_option linter.unusedVariables false
namespace Go.Proofs.YtikcgcgbcolndaaGreat.Pol
open Go.RowKit Go.Proofs.YtikcgcgbcolndaaGreat.Oct Go.Proofs.YtikcgcgbcolndaaGreat.Row Go.Proofs.YtikcgcgbcolndaaGreat.Mem Go.Proofs.YtikcgcgbcolndaaGreat.Opt Go.Proofs.YtikcgcgbcolndaaGreat.Lco

/-- Behind the verdict's first half. -/
structure Eh (w wx : World) (g : Nat) (p : Po) (m ge bo b : Nat) (v : Value) (l : List Opt) (k : Nat) (o : Opt) (r : Bool) : Prop where
  E : Ev w wx g p m ge v l k
  O : At wx bo o
  V : VAt wx b ⟨o, r, zo⟩
  n : bo ≠ b
  q : ∀ q, v.ownBlock = some q → ¬ q = b
  l : w.heap.size ≤ b
theorem Eh.drew {w wx : World} {g : Nat} {p : Po} {m ge bo b : Nat} {v : Value} {l : List Opt} {k : Nat} {o : Opt} {r : Bool} (h : Eh w wx g p m ge bo b v l k o r) : Eh w wx.drew g p m ge bo b v l k o r :=
  ⟨⟨h.E.hp, h.E.hm, h.E.ht, h.E.hr, h.E.hb.drew, h.E.he⟩, h.O, h.V, h.n, h.q, h.l⟩
def setV (W : World) (b : Nat) (v : Ver) : World := ((((W.setCell ⟨b, 0, none⟩ (.int .u8 v.got.1.toNat)).setCell ⟨b, 1, none⟩ (.string v.got.2)).setCell ⟨b, 2, none⟩ (.bool v.rej)).setCell ⟨b, 3, none⟩ (.int .u8 v.bet.1.toNat)).setCell ⟨b, 4, none⟩ (.string v.bet.2)
theorem setV_at {W : World} {b : Nat} {v : Ver} (h : VAt W b v) (v' : Ver) : VAt (setV W b v') b v' := ((((Blk.set h 0 (.int .u8 v'.got.1.toNat)).set 1 (.string v'.got.2)).set 2 (.bool v'.rej)).set 3 (.int .u8 v'.bet.1.toNat)).set 4 (.string v'.bet.2)
theorem setV_moves (W : World) (b : Nat) (v : Ver) : Moves (fun j => j = b) W (setV W b v) :=
  ((((set_moves W b 0 _).trans (set_moves _ b 1 _) (fun _ _ h => h)).trans (set_moves _ b 2 _) (fun _ _ h => h)).trans (set_moves _ b 3 _) (fun _ _ h => h)).trans (set_moves _ b 4 _) (fun _ _ h => h)
theorem VAt.ne {w : World} {b g : Nat} {v : Ver} {cs : List Value} {t : TypeId} (h : VAt w b v) (h2 : Blk w g cs t) (ht : t ≠ 246) : g ≠ b := by
  rintro rfl
  have h1 : w.heap[g]? = _ := h
  have h3 : w.heap[g]? = _ := h2
  rw [h1] at h3
  simp only [Option.some.injEq, Obj.cells.injEq] at h3
  exact ht h3.2.1.symm
theorem Ev.ne {w wx : World} {g : Nat} {p : Po} {m ge b : Nat} {v : Value} {l : List Opt} {k : Nat} {x : Ver} (h : Ev w wx g p m ge v l k) (hV : VAt wx b x) : g ≠ b ∧ m ≠ b ∧ ge ≠ b := by
  refine ⟨hV.ne h.hp (by decide), sy_blk h.hm hV, ?_⟩
  rintro rfl
  have h1 : wx.heap[ge]? = _ := hV
  have h3 : wx.heap[ge]? = _ := h.ht
  rw [h1] at h3
  simp only [Option.some.injEq, Obj.cells.injEq] at h3
  exact absurd h3.2.1 (by decide)
/-- The verdict's block is turned. -/
theorem Eh.setV {w wx : World} {g : Nat} {p : Po} {m ge bo b : Nat} {v : Value} {l : List Opt} {k : Nat} {o : Opt} {x : Ver} (h : Ev w wx g p m ge v l k) (hO : At wx bo o) (hV : VAt wx b x) (r : Bool) (hn : bo ≠ b) (hq : ∀ q, v.ownBlock = some q → ¬ q = b) (hl : w.heap.size ≤ b) : Eh w (setV wx b ⟨o, r, zo⟩) g p m ge bo b v l k o r :=
  ⟨h.moved (setV_moves _ _ _) (h.ne hV).1 (h.ne hV).2.1 (h.ne hV).2.2 hq hl, Blk.moves hO (setV_moves _ _ _) hn, setV_at hV _, hn, hq, hl⟩
set_option maxHeartbeats 8000000 in
set_option maxRecDepth 100000 in
theorem evaluate_any (g : Nat) (p : Po) (l : List Opt) (A : Option Addr) (n c : Nat) (w : World) (h : PAt w g p) (hl : Opts w w.heap.size A n l) (hn : n ≤ 1000) :
    Calls Tryz.prog 147 #[.pointer (some ⟨g, 0, none⟩), .slice A n c] w (EvQ p l n w) := by
  obtain ⟨i1, hi, hz0, hz1, hz2⟩ := info_parts Tryz.info246
  have Hn := Lib.hid hl.1
  have Hl := Lib.hid hl; clear hl
  have HP := Lib.hid h; clear h
  have hz := zero_tabB
  go_enter Tryz.func147, Tryz.ntmps147
  go_wp2_with fail
  refine (sayings_any w).mono ?_
  rintro e w1 ⟨m, rfl, hm1, hs1, hb1⟩
  have HB1 := Lib.hid hb1
  have HP1 := Lib.hid (HP.out.callee hb1)
  have HS1 := Lib.hid hs1
  have HT1 : Hid (TabB (w1.alloc (.cells (arrB fun _ => false) 264)) w1.heap.size (sn [])) := World.alloc_heap_new w1 _
  have HE1 := Lib.hid hb1.size
  clear hb1 hs1 HP
  have HE2 : Hid (w.heap.size ≤ (w1.alloc (.cells (arrB fun _ => false) 264)).heap.size) := by show _ ≤ _; rw [World.size_alloc]; exact Nat.le_succ_of_le HE1.out
  go_wp2_with (at_make; refine wpList_make_own _ rfl _ _ 242 rfl w.heap.size 246 i1 _ 5 Tryz.underlying242 hi hz0 hz1 .i64 .i64 _ n rfl rfl rfl (by rw [hz2]; omega) (by unfold maxLen; omega) HE2.out ?_; intro w2 hown2 hgr2; have Hown2 := Lib.hid hown2; have Hgr2 := Lib.hid hgr2; clear hown2 hgr2)
  have HG2 : Hid (Below (w1.alloc (.cells (arrB fun _ => false) 264)).heap.size (w1.alloc (.cells (arrB fun _ => false) 264)) w2) := (Below.refl _ _).grown Hgr2.out (Nat.le_refl _) (fun q e => by cases e)
  have HF2 : Hid (Below w1.heap.size w1 w2) := ((Below.refl _ _).alloc (Nat.le_refl _) _).trans (HG2.out.mono (by rw [World.size_alloc]; exact Nat.le_succ _))
  have H0 : Hid (∃ v, v = .slice (some ⟨(w1.alloc (.cells (arrB fun _ => false) 264)).heap.size, 0, none⟩) 0 n ∧ Ev w w2 g p m w1.heap.size v l 0) :=
    ⟨_, rfl, HP1.out.callee HF2.out, HS1.out.callee HF2.out, HT1.out.callee HG2.out, Hown2.out, HB1.out.trans (HF2.out.mono HB1.out.size), HE1.out⟩
  clear HP1 HS1 HT1 Hown2 Hgr2 HG2 HF2 HB1 hz HE2
  rw [World.size_alloc] at H0
  generalize w1.heap.size = ge at *
  go_loopg [7, 17] n (fun gk v i wr => ∃ k : Nat, k ≤ n ∧ gk = n - k ∧ i = .int .i64 k ∧ Hid (Ev w wr g p m ge v l k))
  case atStart => obtain ⟨v, rfl, hv⟩ := H0.out; exact ⟨0, Nat.zero_le _, rfl, rfl, hv⟩
  case round =>
    obtain ⟨k, hk, hgk, rfl, HE⟩ := hrel
    have Hgk := Lib.hid hgk; clear hgk
    by_cases hlt : k < n
    · obtain ⟨ad, o, rfl, hB, ho, hS1, hc0, hc1⟩ := (Hl.out.below HE.out.hb).at_ hlt
      have Hvs := Lib.hid (vs_snoc p l k o ho)
      have Hsn := Lib.hid (sn_next l k o ho)
      clear ho
      obtain ⟨W, hW, HW⟩ := boxO wr o
      have HEW := Lib.hid (HE.out.callee HW.out.2.1)
      have HOW := Lib.hid HW.out.1
      have HR : Hid (∀ q, u7.ownBlock = some q → q < wr.heap.size) := fun q hq => (HE.out.hr.lt q hq).2
      have HBW : Hid (w.heap.size ≤ wr.heap.size ∧ W.heap.size = wr.heap.size + 1) := ⟨HE.out.hb.size, HW.out.2.2⟩
      go_upto_region 7 with (fail)
      clear hW HW hc0 hc1
      generalize wr.heap.size = bo at *
      have hq : o.1.toNat < 256 := o.1.toNat_lt
      go_cut [10] from 18 to 51 (fun s10 wx => ∃ b : Nat, s10 = .pointer (some ⟨b, 0, none⟩) ∧ Hid (Eh w wx g p m ge bo b u7 l k o (seen (l.take k) o.1 || !acc p o)))
      case first =>
        have a0 := HOW.out.c0
        have a1 := HOW.out.c1
        have t0 : W.cell? ⟨ge, o.1.toNat, none⟩ = some (.bool (seen (l.take k) o.1)) := by rw [← sn_at]; exact HEW.out.ht.cell _ hq
        have q0 : (0 : Int) ≤ (o.1.toNat : Int) := Int.natCast_nonneg _
        have q1 : (o.1.toNat : Int) < 256 := by omega
        have HAc := Lib.hid (fun W' h => acceptable_any g p o W' h hS1)
        have sb : bo < W.heap.size := Blk.lt HOW.out
        have sg : ge < W.heap.size := HEW.out.ht.lt
        cases hs : seen (l.take k) o.1
        · rw [hs] at t0
          have HAr : Hid ((seen (l.take k) o.1 || !acc p o) = !acc p o) := by show _ = _; rw [hs]; rfl
          have d0 : W.drew.cell? ⟨bo, 0, none⟩ = some (.int .u8 o.1.toNat) := a0
          have d1 : W.drew.cell? ⟨bo, 1, none⟩ = some (.string o.2) := a1
          have d2 : W.drew.cell? ⟨ge, o.1.toNat, none⟩ = some (.bool false) := t0
          have HED : Hid (Ev w W.drew g p m ge u7 l k) := ⟨HEW.out.hp, HEW.out.hm, HEW.out.ht, HEW.out.hr, HEW.out.hb.drew, HEW.out.he⟩
          have HOD : Hid (At W.drew bo o) := HOW.out
          have HZD : Hid (VAt (W.drew.alloc (.cells #[.int .u8 0, .string ⟨#[]⟩, .bool false, .int .u8 0, .string ⟨#[]⟩] 246)) W.heap.size ⟨zo, false, zo⟩) := vat_new W.drew ⟨zo, false, zo⟩
          have Hs0 : Hid (sn (l.take k) o.1.toNat = false) := by show _ = _; rw [sn_at]; exact hs
          have HOA := Lib.hid (HOD.out.alloc (.cells #[.int .u8 0, .string ⟨#[]⟩, .bool false, .int .u8 0, .string ⟨#[]⟩] 246))
          have HEA := Lib.hid (HED.out.alloc (.cells #[.int .u8 0, .string ⟨#[]⟩, .bool false, .int .u8 0, .string ⟨#[]⟩] 246))
          have nb : W.heap.size ≠ bo := Nat.ne_of_gt sb
          have ng : W.heap.size ≠ ge := Nat.ne_of_gt sg
          have z0 := HOA.out.c0
          have z1 := HOA.out.c1
          have z2 := HEA.out.ht.cell o.1.toNat hq
          rw [Hs0.out] at z2
          clear hs
          cases ha : acc p o
          · have HAR : Hid ((seen (l.take k) o.1 || !acc p o) = true) := by show _ = _; rw [HAr.out, ha]; rfl
            rw [ha] at HAc
            clear ha HAr
            refine wp_region_held_drew (S := (fun w' => w'.cell? ⟨bo, 0, none⟩ = some (.int .u8 o.1.toNat) ∧ w'.cell? ⟨bo, 1, none⟩ = some (.string o.2) ∧ w'.cell? ⟨ge, o.1.toNat, none⟩ = some (.bool false))) (by kernel_rfl) ⟨d0, d1, d2⟩ (fun hHeld => ?_)
            refine wpAnyH_take (i := 0) (v := ?vv0_1) rfl (by kernel_rfl) (by kernel_rfl) (by kernel_rfl) (fun _ _ _ h => h) (Or.inl ⟨by rfl, ?yy0_1⟩) (by assumption) ?rr0_1
            case yy0_1 => (intro w hSw; (try dsimp only at hSw); obtain ⟨hS1', hS2', hS3'⟩ := hSw; (try simp only [List.getElem_toArray, List.getElem_cons_succ, List.getElem_cons_zero, Act.put, List.setIfInBounds_toArray, List.set_cons_zero, List.set_cons_succ]); go_simp; (try (with_reducible rfl)))
            try simp only [List.getElem_toArray, List.getElem_cons_succ, List.getElem_cons_zero, Act.put, List.setIfInBounds_toArray, List.set_cons_zero, List.set_cons_succ]
            refine wpAnyH_take (i := 1) (v := ?vv1_2) rfl (by kernel_rfl) (by kernel_rfl) (by kernel_rfl) (fun _ _ _ h => h) (Or.inl ⟨by rfl, ?yy1_2⟩) (by assumption) ?rr1_2
            case yy1_2 => (intro w hSw; (try dsimp only at hSw); obtain ⟨hS1', hS2', hS3'⟩ := hSw; (try simp only [List.getElem_toArray, List.getElem_cons_succ, List.getElem_cons_zero, Act.put, List.setIfInBounds_toArray, List.set_cons_zero, List.set_cons_succ]); go_simp; (try (with_reducible rfl)))
            try simp only [List.getElem_toArray, List.getElem_cons_succ, List.getElem_cons_zero, Act.put, List.setIfInBounds_toArray, List.set_cons_zero, List.set_cons_succ]
            refine wpAnyH_take (i := 2) (v := ?vv2_3) rfl (by kernel_rfl) (by kernel_rfl) (by kernel_rfl) (fun _ _ _ h => h) (Or.inl ⟨by rfl, ?yy2_3⟩) (by assumption) ?rr2_3
            case yy2_3 => (intro w hSw; (try dsimp only at hSw); obtain ⟨hS1', hS2', hS3'⟩ := hSw; (try simp only [List.getElem_toArray, List.getElem_cons_succ, List.getElem_cons_zero, Act.put, List.setIfInBounds_toArray, List.set_cons_zero, List.set_cons_succ]); go_simp; (try (with_reducible rfl)))
            try simp only [List.getElem_toArray, List.getElem_cons_succ, List.getElem_cons_zero, Act.put, List.setIfInBounds_toArray, List.set_cons_zero, List.set_cons_succ]
            refine wpAnyH_take (i := 3) (v := ?vv3_4) rfl (by kernel_rfl) (by kernel_rfl) (by kernel_rfl) (fun _ _ _ h => h) (Or.inl ⟨by rfl, ?yy3_4⟩) (by assumption) ?rr3_4
            case yy3_4 => (intro w hSw; (try dsimp only at hSw); obtain ⟨hS1', hS2', hS3'⟩ := hSw; (try simp only [List.getElem_toArray, List.getElem_cons_succ, List.getElem_cons_zero, Act.put, List.setIfInBounds_toArray, List.set_cons_zero, List.set_cons_succ]); go_simp; (try (with_reducible rfl)))
            try simp only [List.getElem_toArray, List.getElem_cons_succ, List.getElem_cons_zero, Act.put, List.setIfInBounds_toArray, List.set_cons_zero, List.set_cons_succ]
            refine wpAnyH_take (i := 4) (v := ?vv4_5) rfl (by kernel_rfl) (by kernel_rfl) (by kernel_rfl) (fun _ _ _ h => h) (Or.inl ⟨by rfl, ?yy4_5⟩) (by assumption) ?rr4_5
            case yy4_5 => (intro w hSw; (try dsimp only at hSw); obtain ⟨hS1', hS2', hS3'⟩ := hSw; (try simp only [List.getElem_toArray, List.getElem_cons_succ, List.getElem_cons_zero, Act.put, List.setIfInBounds_toArray, List.set_cons_zero, List.set_cons_succ]); go_simp; (try (with_reducible rfl)))
            try simp only [List.getElem_toArray, List.getElem_cons_succ, List.getElem_cons_zero, Act.put, List.setIfInBounds_toArray, List.set_cons_zero, List.set_cons_succ]
            refine wpAnyH_take (i := 5) (v := ?vv5_6) rfl (by kernel_rfl) (by kernel_rfl) (by kernel_rfl) (fun _ _ _ h => h) (Or.inl ⟨by rfl, ?yy5_6⟩) (by assumption) ?rr5_6
            case yy5_6 => (intro w hSw; (try dsimp only at hSw); obtain ⟨hS1', hS2', hS3'⟩ := hSw; (try simp only [List.getElem_toArray, List.getElem_cons_succ, List.getElem_cons_zero, Act.put, List.setIfInBounds_toArray, List.set_cons_zero, List.set_cons_succ]); go_simp; (try (with_reducible rfl)))
            try simp only [List.getElem_toArray, List.getElem_cons_succ, List.getElem_cons_zero, Act.put, List.setIfInBounds_toArray, List.set_cons_zero, List.set_cons_succ]
            refine wpAnyH_take (i := 6) (v := ?vv6_7) rfl (by kernel_rfl) (by kernel_rfl) (by kernel_rfl) (fun _ _ _ h => h) (Or.inl ⟨by rfl, ?yy6_7⟩) (by assumption) ?rr6_7
            case yy6_7 => (intro w hSw; (try dsimp only at hSw); obtain ⟨hS1', hS2', hS3'⟩ := hSw; (try simp only [List.getElem_toArray, List.getElem_cons_succ, List.getElem_cons_zero, Act.put, List.setIfInBounds_toArray, List.set_cons_zero, List.set_cons_succ]); go_simp; (try (with_reducible rfl)))
            try simp only [List.getElem_toArray, List.getElem_cons_succ, List.getElem_cons_zero, Act.put, List.setIfInBounds_toArray, List.set_cons_zero, List.set_cons_succ]
            refine wpAnyH_take (i := 7) (v := ?vv7_8) rfl (by kernel_rfl) (by kernel_rfl) (by kernel_rfl) (fun _ _ _ h => h) (Or.inl ⟨by rfl, ?yy7_8⟩) (by assumption) ?rr7_8
            case yy7_8 => (intro w hSw; (try dsimp only at hSw); obtain ⟨hS1', hS2', hS3'⟩ := hSw; (try simp only [List.getElem_toArray, List.getElem_cons_succ, List.getElem_cons_zero, Act.put, List.setIfInBounds_toArray, List.set_cons_zero, List.set_cons_succ]); go_simp; (try (with_reducible rfl)))
            try simp only [List.getElem_toArray, List.getElem_cons_succ, List.getElem_cons_zero, Act.put, List.setIfInBounds_toArray, List.set_cons_zero, List.set_cons_succ]
            refine wpAnyH_ready (rs := [8, 12]) (by kernel_rfl) (by simp) ?_
            refine AllReadyH.cons (o := _) rfl (fun K hK => ?_) (AllReadyH.cons (o := _) rfl (fun K hK => ?_) AllReadyH.nil)
            · try simp only [List.getElem_toArray, List.getElem_cons_succ, List.getElem_cons_zero, Act.put, List.setIfInBounds_toArray, List.set_cons_zero, List.set_cons_succ]
              go_simp
              refine (HAc.out W.drew HED.out.hp).mono ?_
              rintro e w3 ⟨rfl, hb3⟩
              have HE3 := Lib.hid (HED.out.callee hb3)
              have HO3 := Lib.hid (HOD.out.callee hb3)
              have e0 := (HO3.out).c0
              have e1 := (HO3.out).c1
              have e2 := HE3.out.ht.cell o.1.toNat hq
              rw [Hs0.out] at e2
              have HS3 : Hid (W.heap.size ≤ w3.heap.size) := hb3.size
              clear hb3
              refine hK.out _ _ ⟨e0, e1, e2⟩ (fun hHeld => ?_)
              clear hK K
              try simp only [List.getElem_toArray, List.getElem_cons_succ, List.getElem_cons_zero, Act.put, List.setIfInBounds_toArray, List.set_cons_zero, List.set_cons_succ]
              refine wpAnyH_take (i := 9) (v := ?vv9_9) rfl (by kernel_rfl) (by kernel_rfl) (by kernel_rfl) (fun _ _ _ h => h) (Or.inl ⟨by rfl, ?yy9_9⟩) (by assumption) ?rr9_9
              case yy9_9 => (intro w hSw; (try dsimp only at hSw); obtain ⟨hS1', hS2', hS3'⟩ := hSw; (try simp only [List.getElem_toArray, List.getElem_cons_succ, List.getElem_cons_zero, Act.put, List.setIfInBounds_toArray, List.set_cons_zero, List.set_cons_succ]); go_simp; (try (with_reducible rfl)))
              try simp only [List.getElem_toArray, List.getElem_cons_succ, List.getElem_cons_zero, Act.put, List.setIfInBounds_toArray, List.set_cons_zero, List.set_cons_succ]
              refine wpAnyH_take (i := 10) (v := ?vv10_10) rfl (by kernel_rfl) (by kernel_rfl) (by kernel_rfl) (fun _ _ _ h => h) (Or.inl ⟨by rfl, ?yy10_10⟩) (by assumption) ?rr10_10
              case yy10_10 => (intro w hSw; (try dsimp only at hSw); obtain ⟨hS1', hS2', hS3'⟩ := hSw; (try simp only [List.getElem_toArray, List.getElem_cons_succ, List.getElem_cons_zero, Act.put, List.setIfInBounds_toArray, List.set_cons_zero, List.set_cons_succ]); go_simp; (try (with_reducible rfl)))
              try simp only [List.getElem_toArray, List.getElem_cons_succ, List.getElem_cons_zero, Act.put, List.setIfInBounds_toArray, List.set_cons_zero, List.set_cons_succ]
              refine wpAnyH_take (i := 11) (v := ?vv11_11) rfl (by kernel_rfl) (by kernel_rfl) (by kernel_rfl) (fun _ _ _ h => h) (Or.inl ⟨by rfl, ?yy11_11⟩) (by assumption) ?rr11_11
              case yy11_11 => (intro w hSw; (try dsimp only at hSw); obtain ⟨hS1', hS2', hS3'⟩ := hSw; (try simp only [List.getElem_toArray, List.getElem_cons_succ, List.getElem_cons_zero, Act.put, List.setIfInBounds_toArray, List.set_cons_zero, List.set_cons_succ]); go_simp; (try (with_reducible rfl)))
              try simp only [List.getElem_toArray, List.getElem_cons_succ, List.getElem_cons_zero, Act.put, List.setIfInBounds_toArray, List.set_cons_zero, List.set_cons_succ]
              refine wpAnyH_ready (rs := [12]) (by kernel_rfl) (by simp) ?_
              refine AllReadyH.cons (o := _) rfl (fun K hK => ?_) AllReadyH.nil
              try simp only [List.getElem_toArray, List.getElem_cons_succ, List.getElem_cons_zero, Act.put, List.setIfInBounds_toArray, List.set_cons_zero, List.set_cons_succ]
              go_simp
              have HA3 := Lib.hid (HO3.out.alloc (.cells #[.int .u8 0, .string ⟨#[]⟩, .bool false, .int .u8 0, .string ⟨#[]⟩] 246))
              have HB3 := Lib.hid (HE3.out.alloc (.cells #[.int .u8 0, .string ⟨#[]⟩, .bool false, .int .u8 0, .string ⟨#[]⟩] 246))
              have f0 := (HA3.out).c0
              have f1 := (HA3.out).c1
              have f2 := HB3.out.ht.cell o.1.toNat hq
              rw [Hs0.out] at f2
              refine hK.out _ _ ⟨f0, f1, f2⟩ (fun hHeld => ?_)
              clear hK K
              try simp only [List.getElem_toArray, List.getElem_cons_succ, List.getElem_cons_zero, Act.put, List.setIfInBounds_toArray, List.set_cons_zero, List.set_cons_succ]
              refine wpAnyH_ready (rs := [13]) (by kernel_rfl) (by simp) ?_
              refine AllReadyH.cons (o := _) rfl (fun K hK => ?_) AllReadyH.nil
              try simp only [List.getElem_toArray, List.getElem_cons_succ, List.getElem_cons_zero, Act.put, List.setIfInBounds_toArray, List.set_cons_zero, List.set_cons_succ]
              go_simp
              have HX : Hid (Eh w (w3.alloc (.cells #[.int .u8 o.1.toNat, .string o.2, .bool true, .int .u8 0, .string ⟨#[]⟩] 246)) g p m ge bo w3.heap.size u7 l k o true) := ⟨HE3.out.alloc _, HO3.out.alloc _, vat_new w3 ⟨o, true, zo⟩, (by have := Blk.lt HO3.out; omega), (fun q hq => by have := HR.out q hq; have := HBW.out.2; have := HS3.out; omega), (by have := HBW.out; have := HS3.out; omega)⟩
              have y0 := HX.out.O.c0
              have y1 := HX.out.O.c1
              have y2 := HX.out.E.ht.cell o.1.toNat hq
              rw [Hs0.out] at y2
              refine hK.out _ _ ⟨y0, y1, y2⟩ (fun hHeld => ?_)
              clear hK K
              try simp only [List.getElem_toArray, List.getElem_cons_succ, List.getElem_cons_zero, Act.put, List.setIfInBounds_toArray, List.set_cons_zero, List.set_cons_succ]
              refine wpAnyH_done (by kernel_rfl) ?_ _
              go_wp2_with fail
              go_meet
              exact ⟨_, rfl, by rw [HAR.out]; exact HX.out⟩
            · try simp only [List.getElem_toArray, List.getElem_cons_succ, List.getElem_cons_zero, Act.put, List.setIfInBounds_toArray, List.set_cons_zero, List.set_cons_succ]
              go_simp
              refine hK.out _ _ ⟨z0, z1, z2⟩ (fun hHeld => ?_)
              clear hK K
              try simp only [List.getElem_toArray, List.getElem_cons_succ, List.getElem_cons_zero, Act.put, List.setIfInBounds_toArray, List.set_cons_zero, List.set_cons_succ]
              refine wpAnyH_ready (rs := [8]) (by kernel_rfl) (by simp) ?_
              refine AllReadyH.cons (o := _) rfl (fun K hK => ?_) AllReadyH.nil
              try simp only [List.getElem_toArray, List.getElem_cons_succ, List.getElem_cons_zero, Act.put, List.setIfInBounds_toArray, List.set_cons_zero, List.set_cons_succ]
              go_simp
              refine (HAc.out (W.drew.alloc (.cells #[.int .u8 0, .string ⟨#[]⟩, .bool false, .int .u8 0, .string ⟨#[]⟩] 246)) HEA.out.hp).mono ?_
              rintro e w4 ⟨rfl, hb4⟩
              have HE4 := Lib.hid (HEA.out.callee hb4)
              have HO4 := Lib.hid (HOA.out.callee hb4)
              have HV4 := Lib.hid (HZD.out.callee hb4)
              have e0 := (HO4.out).c0
              have e1 := (HO4.out).c1
              have e2 := HE4.out.ht.cell o.1.toNat hq
              rw [Hs0.out] at e2
              clear hb4
              refine hK.out _ _ ⟨e0, e1, e2⟩ (fun hHeld => ?_)
              clear hK K
              try simp only [List.getElem_toArray, List.getElem_cons_succ, List.getElem_cons_zero, Act.put, List.setIfInBounds_toArray, List.set_cons_zero, List.set_cons_succ]
              refine wpAnyH_take (i := 9) (v := ?vv9_12) rfl (by kernel_rfl) (by kernel_rfl) (by kernel_rfl) (fun _ _ _ h => h) (Or.inl ⟨by rfl, ?yy9_12⟩) (by assumption) ?rr9_12
              case yy9_12 => (intro w hSw; (try dsimp only at hSw); obtain ⟨hS1', hS2', hS3'⟩ := hSw; (try simp only [List.getElem_toArray, List.getElem_cons_succ, List.getElem_cons_zero, Act.put, List.setIfInBounds_toArray, List.set_cons_zero, List.set_cons_succ]); go_simp; (try (with_reducible rfl)))
              try simp only [List.getElem_toArray, List.getElem_cons_succ, List.getElem_cons_zero, Act.put, List.setIfInBounds_toArray, List.set_cons_zero, List.set_cons_succ]
              refine wpAnyH_take (i := 10) (v := ?vv10_13) rfl (by kernel_rfl) (by kernel_rfl) (by kernel_rfl) (fun _ _ _ h => h) (Or.inl ⟨by rfl, ?yy10_13⟩) (by assumption) ?rr10_13
              case yy10_13 => (intro w hSw; (try dsimp only at hSw); obtain ⟨hS1', hS2', hS3'⟩ := hSw; (try simp only [List.getElem_toArray, List.getElem_cons_succ, List.getElem_cons_zero, Act.put, List.setIfInBounds_toArray, List.set_cons_zero, List.set_cons_succ]); go_simp; (try (with_reducible rfl)))
              try simp only [List.getElem_toArray, List.getElem_cons_succ, List.getElem_cons_zero, Act.put, List.setIfInBounds_toArray, List.set_cons_zero, List.set_cons_succ]
              refine wpAnyH_take (i := 11) (v := ?vv11_14) rfl (by kernel_rfl) (by kernel_rfl) (by kernel_rfl) (fun _ _ _ h => h) (Or.inl ⟨by rfl, ?yy11_14⟩) (by assumption) ?rr11_14
              case yy11_14 => (intro w hSw; (try dsimp only at hSw); obtain ⟨hS1', hS2', hS3'⟩ := hSw; (try simp only [List.getElem_toArray, List.getElem_cons_succ, List.getElem_cons_zero, Act.put, List.setIfInBounds_toArray, List.set_cons_zero, List.set_cons_succ]); go_simp; (try (with_reducible rfl)))
              try simp only [List.getElem_toArray, List.getElem_cons_succ, List.getElem_cons_zero, Act.put, List.setIfInBounds_toArray, List.set_cons_zero, List.set_cons_succ]
              refine wpAnyH_ready (rs := [13]) (by kernel_rfl) (by simp) ?_
              obtain ⟨y0, y1, y2, y3, y4⟩ := HV4.out.all
              have x0 := Blk.frozen HV4.out 0
              have x1 := Blk.frozen HV4.out 1
              have x2 := Blk.frozen HV4.out 2
              have x3 := Blk.frozen HV4.out 3
              have x4 := Blk.frozen HV4.out 4
              refine AllReadyH.cons (o := _) rfl (fun K hK => ?_) AllReadyH.nil
              try simp only [List.getElem_toArray, List.getElem_cons_succ, List.getElem_cons_zero, Act.put, List.setIfInBounds_toArray, List.set_cons_zero, List.set_cons_succ]
              go_simp
              have HX : Hid (Eh w (setV w4 W.heap.size ⟨o, true, zo⟩) g p m ge bo W.heap.size u7 l k o true) := Eh.setV HE4.out HO4.out HV4.out true (by have := Blk.lt HOW.out; omega) (fun q hq => by have := HR.out q hq; have := HBW.out.2; omega) (by have := HBW.out; omega)
              have a0 := HX.out.O.c0
              have a1 := HX.out.O.c1
              have a2 := HX.out.E.ht.cell o.1.toNat hq
              rw [Hs0.out] at a2
              refine hK.out _ _ ⟨a0, a1, a2⟩ (fun hHeld => ?_)
              clear hK K
              try simp only [List.getElem_toArray, List.getElem_cons_succ, List.getElem_cons_zero, Act.put, List.setIfInBounds_toArray, List.set_cons_zero, List.set_cons_succ]
              refine wpAnyH_done (by kernel_rfl) ?_ _
              go_wp2_with fail
              go_meet
              exact ⟨_, rfl, by rw [HAR.out]; exact HX.out⟩
          · have HAR : Hid ((seen (l.take k) o.1 || !acc p o) = false) := by show _ = _; rw [HAr.out, ha]; rfl
            rw [ha] at HAc
            clear ha HAr
            refine wp_region_held_drew (S := (fun w' => w'.cell? ⟨bo, 0, none⟩ = some (.int .u8 o.1.toNat) ∧ w'.cell? ⟨bo, 1, none⟩ = some (.string o.2) ∧ w'.cell? ⟨ge, o.1.toNat, none⟩ = some (.bool false))) (by kernel_rfl) ⟨d0, d1, d2⟩ (fun hHeld => ?_)
            refine wpAnyH_take (i := 0) (v := ?vv0_15) rfl (by kernel_rfl) (by kernel_rfl) (by kernel_rfl) (fun _ _ _ h => h) (Or.inl ⟨by rfl, ?yy0_15⟩) (by assumption) ?rr0_15
            case yy0_15 => (intro w hSw; (try dsimp only at hSw); obtain ⟨hS1', hS2', hS3'⟩ := hSw; (try simp only [List.getElem_toArray, List.getElem_cons_succ, List.getElem_cons_zero, Act.put, List.setIfInBounds_toArray, List.set_cons_zero, List.set_cons_succ]); go_simp; (try (with_reducible rfl)))
            try simp only [List.getElem_toArray, List.getElem_cons_succ, List.getElem_cons_zero, Act.put, List.setIfInBounds_toArray, List.set_cons_zero, List.set_cons_succ]
            refine wpAnyH_take (i := 1) (v := ?vv1_16) rfl (by kernel_rfl) (by kernel_rfl) (by kernel_rfl) (fun _ _ _ h => h) (Or.inl ⟨by rfl, ?yy1_16⟩) (by assumption) ?rr1_16
            case yy1_16 => (intro w hSw; (try dsimp only at hSw); obtain ⟨hS1', hS2', hS3'⟩ := hSw; (try simp only [List.getElem_toArray, List.getElem_cons_succ, List.getElem_cons_zero, Act.put, List.setIfInBounds_toArray, List.set_cons_zero, List.set_cons_succ]); go_simp; (try (with_reducible rfl)))
            try simp only [List.getElem_toArray, List.getElem_cons_succ, List.getElem_cons_zero, Act.put, List.setIfInBounds_toArray, List.set_cons_zero, List.set_cons_succ]
            refine wpAnyH_take (i := 2) (v := ?vv2_17) rfl (by kernel_rfl) (by kernel_rfl) (by kernel_rfl) (fun _ _ _ h => h) (Or.inl ⟨by rfl, ?yy2_17⟩) (by assumption) ?rr2_17
            case yy2_17 => (intro w hSw; (try dsimp only at hSw); obtain ⟨hS1', hS2', hS3'⟩ := hSw; (try simp only [List.getElem_toArray, List.getElem_cons_succ, List.getElem_cons_zero, Act.put, List.setIfInBounds_toArray, List.set_cons_zero, List.set_cons_succ]); go_simp; (try (with_reducible rfl)))
            try simp only [List.getElem_toArray, List.getElem_cons_succ, List.getElem_cons_zero, Act.put, List.setIfInBounds_toArray, List.set_cons_zero, List.set_cons_succ]
            refine wpAnyH_take (i := 3) (v := ?vv3_18) rfl (by kernel_rfl) (by kernel_rfl) (by kernel_rfl) (fun _ _ _ h => h) (Or.inl ⟨by rfl, ?yy3_18⟩) (by assumption) ?rr3_18
            case yy3_18 => (intro w hSw; (try dsimp only at hSw); obtain ⟨hS1', hS2', hS3'⟩ := hSw; (try simp only [List.getElem_toArray, List.getElem_cons_succ, List.getElem_cons_zero, Act.put, List.setIfInBounds_toArray, List.set_cons_zero, List.set_cons_succ]); go_simp; (try (with_reducible rfl)))
            try simp only [List.getElem_toArray, List.getElem_cons_succ, List.getElem_cons_zero, Act.put, List.setIfInBounds_toArray, List.set_cons_zero, List.set_cons_succ]
            refine wpAnyH_take (i := 4) (v := ?vv4_19) rfl (by kernel_rfl) (by kernel_rfl) (by kernel_rfl) (fun _ _ _ h => h) (Or.inl ⟨by rfl, ?yy4_19⟩) (by assumption) ?rr4_19
            case yy4_19 => (intro w hSw; (try dsimp only at hSw); obtain ⟨hS1', hS2', hS3'⟩ := hSw; (try simp only [List.getElem_toArray, List.getElem_cons_succ, List.getElem_cons_zero, Act.put, List.setIfInBounds_toArray, List.set_cons_zero, List.set_cons_succ]); go_simp; (try (with_reducible rfl)))
            try simp only [List.getElem_toArray, List.getElem_cons_succ, List.getElem_cons_zero, Act.put, List.setIfInBounds_toArray, List.set_cons_zero, List.set_cons_succ]
            refine wpAnyH_take (i := 5) (v := ?vv5_20) rfl (by kernel_rfl) (by kernel_rfl) (by kernel_rfl) (fun _ _ _ h => h) (Or.inl ⟨by rfl, ?yy5_20⟩) (by assumption) ?rr5_20
            case yy5_20 => (intro w hSw; (try dsimp only at hSw); obtain ⟨hS1', hS2', hS3'⟩ := hSw; (try simp only [List.getElem_toArray, List.getElem_cons_succ, List.getElem_cons_zero, Act.put, List.setIfInBounds_toArray, List.set_cons_zero, List.set_cons_succ]); go_simp; (try (with_reducible rfl)))
            try simp only [List.getElem_toArray, List.getElem_cons_succ, List.getElem_cons_zero, Act.put, List.setIfInBounds_toArray, List.set_cons_zero, List.set_cons_succ]
            refine wpAnyH_take (i := 6) (v := ?vv6_21) rfl (by kernel_rfl) (by kernel_rfl) (by kernel_rfl) (fun _ _ _ h => h) (Or.inl ⟨by rfl, ?yy6_21⟩) (by assumption) ?rr6_21
            case yy6_21 => (intro w hSw; (try dsimp only at hSw); obtain ⟨hS1', hS2', hS3'⟩ := hSw; (try simp only [List.getElem_toArray, List.getElem_cons_succ, List.getElem_cons_zero, Act.put, List.setIfInBounds_toArray, List.set_cons_zero, List.set_cons_succ]); go_simp; (try (with_reducible rfl)))
            try simp only [List.getElem_toArray, List.getElem_cons_succ, List.getElem_cons_zero, Act.put, List.setIfInBounds_toArray, List.set_cons_zero, List.set_cons_succ]
            refine wpAnyH_take (i := 7) (v := ?vv7_22) rfl (by kernel_rfl) (by kernel_rfl) (by kernel_rfl) (fun _ _ _ h => h) (Or.inl ⟨by rfl, ?yy7_22⟩) (by assumption) ?rr7_22
            case yy7_22 => (intro w hSw; (try dsimp only at hSw); obtain ⟨hS1', hS2', hS3'⟩ := hSw; (try simp only [List.getElem_toArray, List.getElem_cons_succ, List.getElem_cons_zero, Act.put, List.setIfInBounds_toArray, List.set_cons_zero, List.set_cons_succ]); go_simp; (try (with_reducible rfl)))
            try simp only [List.getElem_toArray, List.getElem_cons_succ, List.getElem_cons_zero, Act.put, List.setIfInBounds_toArray, List.set_cons_zero, List.set_cons_succ]
            refine wpAnyH_ready (rs := [8, 12]) (by kernel_rfl) (by simp) ?_
            refine AllReadyH.cons (o := _) rfl (fun K hK => ?_) (AllReadyH.cons (o := _) rfl (fun K hK => ?_) AllReadyH.nil)
            · try simp only [List.getElem_toArray, List.getElem_cons_succ, List.getElem_cons_zero, Act.put, List.setIfInBounds_toArray, List.set_cons_zero, List.set_cons_succ]
              go_simp
              refine (HAc.out W.drew HED.out.hp).mono ?_
              rintro e w3 ⟨rfl, hb3⟩
              have HE3 := Lib.hid (HED.out.callee hb3)
              have HO3 := Lib.hid (HOD.out.callee hb3)
              have e0 := (HO3.out).c0
              have e1 := (HO3.out).c1
              have e2 := HE3.out.ht.cell o.1.toNat hq
              rw [Hs0.out] at e2
              have HS3 : Hid (W.heap.size ≤ w3.heap.size) := hb3.size
              clear hb3
              refine hK.out _ _ ⟨e0, e1, e2⟩ (fun hHeld => ?_)
              clear hK K
              try simp only [List.getElem_toArray, List.getElem_cons_succ, List.getElem_cons_zero, Act.put, List.setIfInBounds_toArray, List.set_cons_zero, List.set_cons_succ]
              refine wpAnyH_take (i := 9) (v := ?vv9_23) rfl (by kernel_rfl) (by kernel_rfl) (by kernel_rfl) (fun _ _ _ h => h) (Or.inl ⟨by rfl, ?yy9_23⟩) (by assumption) ?rr9_23
              case yy9_23 => (intro w hSw; (try dsimp only at hSw); obtain ⟨hS1', hS2', hS3'⟩ := hSw; (try simp only [List.getElem_toArray, List.getElem_cons_succ, List.getElem_cons_zero, Act.put, List.setIfInBounds_toArray, List.set_cons_zero, List.set_cons_succ]); go_simp; (try (with_reducible rfl)))
              try simp only [List.getElem_toArray, List.getElem_cons_succ, List.getElem_cons_zero, Act.put, List.setIfInBounds_toArray, List.set_cons_zero, List.set_cons_succ]
              refine wpAnyH_take (i := 10) (v := ?vv10_24) rfl (by kernel_rfl) (by kernel_rfl) (by kernel_rfl) (fun _ _ _ h => h) (Or.inl ⟨by rfl, ?yy10_24⟩) (by assumption) ?rr10_24
              case yy10_24 => (intro w hSw; (try dsimp only at hSw); obtain ⟨hS1', hS2', hS3'⟩ := hSw; (try simp only [List.getElem_toArray, List.getElem_cons_succ, List.getElem_cons_zero, Act.put, List.setIfInBounds_toArray, List.set_cons_zero, List.set_cons_succ]); go_simp; (try (with_reducible rfl)))
              try simp only [List.getElem_toArray, List.getElem_cons_succ, List.getElem_cons_zero, Act.put, List.setIfInBounds_toArray, List.set_cons_zero, List.set_cons_succ]
              refine wpAnyH_take (i := 11) (v := ?vv11_25) rfl (by kernel_rfl) (by kernel_rfl) (by kernel_rfl) (fun _ _ _ h => h) (Or.inl ⟨by rfl, ?yy11_25⟩) (by assumption) ?rr11_25
              case yy11_25 => (intro w hSw; (try dsimp only at hSw); obtain ⟨hS1', hS2', hS3'⟩ := hSw; (try simp only [List.getElem_toArray, List.getElem_cons_succ, List.getElem_cons_zero, Act.put, List.setIfInBounds_toArray, List.set_cons_zero, List.set_cons_succ]); go_simp; (try (with_reducible rfl)))
              try simp only [List.getElem_toArray, List.getElem_cons_succ, List.getElem_cons_zero, Act.put, List.setIfInBounds_toArray, List.set_cons_zero, List.set_cons_succ]
              refine wpAnyH_ready (rs := [12]) (by kernel_rfl) (by simp) ?_
              refine AllReadyH.cons (o := _) rfl (fun K hK => ?_) AllReadyH.nil
              try simp only [List.getElem_toArray, List.getElem_cons_succ, List.getElem_cons_zero, Act.put, List.setIfInBounds_toArray, List.set_cons_zero, List.set_cons_succ]
              go_simp
              have HA3 := Lib.hid (HO3.out.alloc (.cells #[.int .u8 0, .string ⟨#[]⟩, .bool false, .int .u8 0, .string ⟨#[]⟩] 246))
              have HB3 := Lib.hid (HE3.out.alloc (.cells #[.int .u8 0, .string ⟨#[]⟩, .bool false, .int .u8 0, .string ⟨#[]⟩] 246))
              have f0 := (HA3.out).c0
              have f1 := (HA3.out).c1
              have f2 := HB3.out.ht.cell o.1.toNat hq
              rw [Hs0.out] at f2
              refine hK.out _ _ ⟨f0, f1, f2⟩ (fun hHeld => ?_)
              clear hK K
              try simp only [List.getElem_toArray, List.getElem_cons_succ, List.getElem_cons_zero, Act.put, List.setIfInBounds_toArray, List.set_cons_zero, List.set_cons_succ]
              refine wpAnyH_ready (rs := [13]) (by kernel_rfl) (by simp) ?_
              refine AllReadyH.cons (o := _) rfl (fun K hK => ?_) AllReadyH.nil
              try simp only [List.getElem_toArray, List.getElem_cons_succ, List.getElem_cons_zero, Act.put, List.setIfInBounds_toArray, List.set_cons_zero, List.set_cons_succ]
              go_simp
              have HX : Hid (Eh w (w3.alloc (.cells #[.int .u8 o.1.toNat, .string o.2, .bool false, .int .u8 0, .string ⟨#[]⟩] 246)) g p m ge bo w3.heap.size u7 l k o false) := ⟨HE3.out.alloc _, HO3.out.alloc _, vat_new w3 ⟨o, false, zo⟩, (by have := Blk.lt HO3.out; omega), (fun q hq => by have := HR.out q hq; have := HBW.out.2; have := HS3.out; omega), (by have := HBW.out; have := HS3.out; omega)⟩
              have y0 := HX.out.O.c0
              have y1 := HX.out.O.c1
              have y2 := HX.out.E.ht.cell o.1.toNat hq
              rw [Hs0.out] at y2
              refine hK.out _ _ ⟨y0, y1, y2⟩ (fun hHeld => ?_)
              clear hK K
              try simp only [List.getElem_toArray, List.getElem_cons_succ, List.getElem_cons_zero, Act.put, List.setIfInBounds_toArray, List.set_cons_zero, List.set_cons_succ]
              refine wpAnyH_done (by kernel_rfl) ?_ _
              go_wp2_with fail
              go_meet
              exact ⟨_, rfl, by rw [HAR.out]; exact HX.out⟩
            · try simp only [List.getElem_toArray, List.getElem_cons_succ, List.getElem_cons_zero, Act.put, List.setIfInBounds_toArray, List.set_cons_zero, List.set_cons_succ]
              go_simp
              refine hK.out _ _ ⟨z0, z1, z2⟩ (fun hHeld => ?_)
              clear hK K
              try simp only [List.getElem_toArray, List.getElem_cons_succ, List.getElem_cons_zero, Act.put, List.setIfInBounds_toArray, List.set_cons_zero, List.set_cons_succ]
              refine wpAnyH_ready (rs := [8]) (by kernel_rfl) (by simp) ?_
              refine AllReadyH.cons (o := _) rfl (fun K hK => ?_) AllReadyH.nil
              try simp only [List.getElem_toArray, List.getElem_cons_succ, List.getElem_cons_zero, Act.put, List.setIfInBounds_toArray, List.set_cons_zero, List.set_cons_succ]
              go_simp
              refine (HAc.out (W.drew.alloc (.cells #[.int .u8 0, .string ⟨#[]⟩, .bool false, .int .u8 0, .string ⟨#[]⟩] 246)) HEA.out.hp).mono ?_
              rintro e w4 ⟨rfl, hb4⟩
              have HE4 := Lib.hid (HEA.out.callee hb4)
              have HO4 := Lib.hid (HOA.out.callee hb4)
              have HV4 := Lib.hid (HZD.out.callee hb4)
              have e0 := (HO4.out).c0
              have e1 := (HO4.out).c1
              have e2 := HE4.out.ht.cell o.1.toNat hq
              rw [Hs0.out] at e2
              clear hb4
              refine hK.out _ _ ⟨e0, e1, e2⟩ (fun hHeld => ?_)
              clear hK K
              try simp only [List.getElem_toArray, List.getElem_cons_succ, List.getElem_cons_zero, Act.put, List.setIfInBounds_toArray, List.set_cons_zero, List.set_cons_succ]
              refine wpAnyH_take (i := 9) (v := ?vv9_26) rfl (by kernel_rfl) (by kernel_rfl) (by kernel_rfl) (fun _ _ _ h => h) (Or.inl ⟨by rfl, ?yy9_26⟩) (by assumption) ?rr9_26
              case yy9_26 => (intro w hSw; (try dsimp only at hSw); obtain ⟨hS1', hS2', hS3'⟩ := hSw; (try simp only [List.getElem_toArray, List.getElem_cons_succ, List.getElem_cons_zero, Act.put, List.setIfInBounds_toArray, List.set_cons_zero, List.set_cons_succ]); go_simp; (try (with_reducible rfl)))
              try simp only [List.getElem_toArray, List.getElem_cons_succ, List.getElem_cons_zero, Act.put, List.setIfInBounds_toArray, List.set_cons_zero, List.set_cons_succ]
              refine wpAnyH_take (i := 10) (v := ?vv10_27) rfl (by kernel_rfl) (by kernel_rfl) (by kernel_rfl) (fun _ _ _ h => h) (Or.inl ⟨by rfl, ?yy10_27⟩) (by assumption) ?rr10_27
              case yy10_27 => (intro w hSw; (try dsimp only at hSw); obtain ⟨hS1', hS2', hS3'⟩ := hSw; (try simp only [List.getElem_toArray, List.getElem_cons_succ, List.getElem_cons_zero, Act.put, List.setIfInBounds_toArray, List.set_cons_zero, List.set_cons_succ]); go_simp; (try (with_reducible rfl)))
              try simp only [List.getElem_toArray, List.getElem_cons_succ, List.getElem_cons_zero, Act.put, List.setIfInBounds_toArray, List.set_cons_zero, List.set_cons_succ]
              refine wpAnyH_take (i := 11) (v := ?vv11_28) rfl (by kernel_rfl) (by kernel_rfl) (by kernel_rfl) (fun _ _ _ h => h) (Or.inl ⟨by rfl, ?yy11_28⟩) (by assumption) ?rr11_28
              case yy11_28 => (intro w hSw; (try dsimp only at hSw); obtain ⟨hS1', hS2', hS3'⟩ := hSw; (try simp only [List.getElem_toArray, List.getElem_cons_succ, List.getElem_cons_zero, Act.put, List.setIfInBounds_toArray, List.set_cons_zero, List.set_cons_succ]); go_simp; (try (with_reducible rfl)))
              try simp only [List.getElem_toArray, List.getElem_cons_succ, List.getElem_cons_zero, Act.put, List.setIfInBounds_toArray, List.set_cons_zero, List.set_cons_succ]
              refine wpAnyH_ready (rs := [13]) (by kernel_rfl) (by simp) ?_
              obtain ⟨y0, y1, y2, y3, y4⟩ := HV4.out.all
              have x0 := Blk.frozen HV4.out 0
              have x1 := Blk.frozen HV4.out 1
              have x2 := Blk.frozen HV4.out 2
              have x3 := Blk.frozen HV4.out 3
              have x4 := Blk.frozen HV4.out 4
              refine AllReadyH.cons (o := _) rfl (fun K hK => ?_) AllReadyH.nil
              try simp only [List.getElem_toArray, List.getElem_cons_succ, List.getElem_cons_zero, Act.put, List.setIfInBounds_toArray, List.set_cons_zero, List.set_cons_succ]
              go_simp
              have HX : Hid (Eh w (setV w4 W.heap.size ⟨o, false, zo⟩) g p m ge bo W.heap.size u7 l k o false) := Eh.setV HE4.out HO4.out HV4.out false (by have := Blk.lt HOW.out; omega) (fun q hq => by have := HR.out q hq; have := HBW.out.2; omega) (by have := HBW.out; omega)
              have a0 := HX.out.O.c0
              have a1 := HX.out.O.c1
              have a2 := HX.out.E.ht.cell o.1.toNat hq
              rw [Hs0.out] at a2
              refine hK.out _ _ ⟨a0, a1, a2⟩ (fun hHeld => ?_)
              clear hK K
              try simp only [List.getElem_toArray, List.getElem_cons_succ, List.getElem_cons_zero, Act.put, List.setIfInBounds_toArray, List.set_cons_zero, List.set_cons_succ]
              refine wpAnyH_done (by kernel_rfl) ?_ _
              go_wp2_with fail
              go_meet
              exact ⟨_, rfl, by rw [HAR.out]; exact HX.out⟩
        · rw [hs] at t0
          have HX : Hid (Eh w (W.alloc (.cells #[.int .u8 o.1.toNat, .string o.2, .bool true, .int .u8 0, .string ⟨#[]⟩] 246)) g p m ge bo W.heap.size u7 l k o true) :=
            ⟨HEW.out.alloc _, HOW.out.alloc _, vat_new W ⟨o, true, zo⟩, (by have := Blk.lt HOW.out; omega), (fun q hq => by have := HR.out q hq; have := HBW.out.2; omega), by have := HBW.out; omega⟩
          have Hs : Hid ((seen (l.take k) o.1 || !acc p o) = true) := by show _ = _; rw [hs]; rfl
          clear HAc hs
          have d0 : W.drew.cell? ⟨bo, 0, none⟩ = some (.int .u8 o.1.toNat) := a0
          have d1 : W.drew.cell? ⟨bo, 1, none⟩ = some (.string o.2) := a1
          have d2 : W.drew.cell? ⟨ge, o.1.toNat, none⟩ = some (.bool true) := t0
          go_region
          all_goals (go_wp2_with fail; go_meet; exact ⟨_, rfl, by rw [Hs.out]; exact HX.out.drew⟩)
      case rest =>
        obtain ⟨b, rfl, HC⟩ := hcut
        obtain ⟨w5, rfl⟩ : ∃ x, x = wc := ⟨_, rfl⟩
        clear HE HEW HOW HR HBW
        cases hr : (seen (l.take k) o.1 || !acc p o)
        · rw [hr] at HC
          have ha : acc p o = true := by
            cases h1 : acc p o
            · rw [h1] at hr; simp at hr
            · rfl
          have Hv : Hid (vs p (l.take (k + 1)) = vs p (l.take k) ++ [⟨o, false, sug p o⟩]) := by
            show _ = _
            rw [Hvs.out]
            unfold ver
            rw [hr]
            rfl
          have hl := say_look (acc_known ha) HC.out.E.hm
          simp only [trip] at hl
          have HI := Lib.hid (fun W h => improved_any g p o W h ha hS1)
          clear ha hr Hvs
          have b2 : w5.cell? ⟨b, 2, none⟩ = some (.bool false) := HC.out.V.c 2
          have o0 := HC.out.O.c0
          have o1 := HC.out.O.c1
          go_wp2_with fail
          refine (HI.out w5 HC.out.E.hp).mono ?_
          rintro e w6 ⟨rfl, hb6⟩
          have HE6 := Lib.hid (HC.out.E.callee hb6)
          have HO6 := Lib.hid (HC.out.O.callee hb6)
          have HV6 := Lib.hid (HC.out.V.callee hb6)
          have HQ := Lib.hid (HC.out.q)
          have HL := Lib.hid (HC.out.l)
          have HNN := Lib.hid (HC.out.n)
          clear hb6 HC hl b2 o0 o1 HI
          obtain ⟨y0, y1, y2, y3, y4⟩ := HV6.out.all
          have x3 := Blk.frozen HV6.out 3
          have x4 := Blk.frozen HV6.out 4
          obtain ⟨Y, hY⟩ : ∃ Y, (w6.setCell ⟨b, 3, none⟩ (.int .u8 (sug p o).1.toNat)).setCell ⟨b, 4, none⟩ (.string (sug p o).2) = Y := ⟨_, rfl⟩
          have hmv : Moves (fun j => j = b) w6 Y := by rw [← hY]; exact (set_moves w6 b 3 _).trans (set_moves _ b 4 _) (fun _ _ h => h)
          have HV7 : Hid (VAt Y b ⟨o, false, sug p o⟩) := by show VAt _ _ _; rw [← hY]; exact (Blk.set HV6.out 3 (.int .u8 (sug p o).1.toNat)).set 4 (.string (sug p o).2)
          have HE7 : Hid (Ev w Y g p m ge u7 l k) := HE6.out.moved hmv (HE6.out.ne HV6.out).1 (HE6.out.ne HV6.out).2.1 (HE6.out.ne HV6.out).2.2 HQ.out HL.out
          have HO7 : Hid (At Y bo o) := Blk.moves HO6.out hmv HNN.out
          clear hmv HV6 HE6 HO6
          generalize sug p o = r at *
          have m0 := HO7.out.c0
          have hq2 : o.1.toNat < 256 := o.1.toNat_lt
          have q0 : (0 : Int) ≤ (o.1.toNat : Int) := Int.natCast_nonneg _
          have q1 : (o.1.toNat : Int) < 256 := by omega
          have m1 := HE7.out.ht.cell o.1.toNat hq2
          have m2 := HE7.out.ht.frozen o.1.toNat
          obtain ⟨X, hX⟩ : ∃ X, Y.setCell ⟨ge, o.1.toNat, none⟩ (.bool true) = X := ⟨_, rfl⟩
          have HM : Hid (Ew w X g p m ge u7 l k) := by show Ew _ _ _ _ _ _ _ _ _; rw [← hX]; exact HE7.out.mark hq2 Hsn.out
          have HV : Hid (VAt X b ⟨o, false, r⟩) := by show VAt _ _ _; rw [← hX]; exact HV7.out.moves (set_moves _ _ _ _) (fun e => (HE7.out.ne HV7.out).2.2 e.symm)
          obtain ⟨n0, n1, n2, n3, n4⟩ := HV.out.all
          have HBs : Hid (w.heap.size ≤ X.heap.size) := HM.out.hb.size
          go_wp2_with (at_builtin; refine wpList_append_own _ rfl _ _ 242 rfl w.heap.size 246 i1 _ 5 56 Tryz.underlying242 hi hz0 hz1 hz2 rfl (by decide) _ _ _ rfl (own_callee HM.out.hr ((Below.refl _ _).alloc (Nat.le_refl _) _)) ⟨X.heap.size, 0, none⟩ 1 1 (verV ⟨o, false, r⟩) rfl rfl (cells_new X (verV ⟨o, false, r⟩).toArray 246) (verV_ones ⟨o, false, r⟩) (by unfold maxLen; omega) (by omega) (by rw [World.size_alloc]; exact Nat.le_succ_of_le HBs.out) ?_; intro v1 w9 hown1 hgr1 _; have Hown1 := Lib.hid hown1; have Hgr1 := Lib.hid hgr1; clear hown1 hgr1)
          have HN : Hid (Ev w w9 g p m ge v1 l (k + 1)) := HM.out.grown Hgr1.out Hown1.out Hv.out
          go_roundg (n - (k + 1))
          case measure => rw [Hgk.out]; omega
          case rel => exact ⟨k + 1, by omega, rfl, by go_num, HN⟩
        · rw [hr] at HC
          have Hv : Hid (vs p (l.take (k + 1)) = vs p (l.take k) ++ [⟨o, true, zo⟩]) := by
            show _ = _
            rw [Hvs.out]
            unfold ver
            rw [hr]
            rfl
          clear hr Hvs
          have b2 : w5.cell? ⟨b, 2, none⟩ = some (.bool true) := HC.out.V.c 2
          have HE7 := Lib.hid HC.out.E
          have HO7 := Lib.hid HC.out.O
          have HV7 := Lib.hid HC.out.V
          clear HC
          have m0 := HO7.out.c0
          have hq2 : o.1.toNat < 256 := o.1.toNat_lt
          have q0 : (0 : Int) ≤ (o.1.toNat : Int) := Int.natCast_nonneg _
          have q1 : (o.1.toNat : Int) < 256 := by omega
          have m1 := HE7.out.ht.cell o.1.toNat hq2
          have m2 := HE7.out.ht.frozen o.1.toNat
          obtain ⟨X, hX⟩ : ∃ X, w5.setCell ⟨ge, o.1.toNat, none⟩ (.bool true) = X := ⟨_, rfl⟩
          have HM : Hid (Ew w X g p m ge u7 l k) := by show Ew _ _ _ _ _ _ _ _ _; rw [← hX]; exact HE7.out.mark hq2 Hsn.out
          have HV : Hid (VAt X b ⟨o, true, zo⟩) := by show VAt _ _ _; rw [← hX]; exact HV7.out.moves (set_moves _ _ _ _) (fun e => (HE7.out.ne HV7.out).2.2 e.symm)
          obtain ⟨n0, n1, n2, n3, n4⟩ := HV.out.all
          have HBs : Hid (w.heap.size ≤ X.heap.size) := HM.out.hb.size
          go_wp2_with (at_builtin; refine wpList_append_own _ rfl _ _ 242 rfl w.heap.size 246 i1 _ 5 56 Tryz.underlying242 hi hz0 hz1 hz2 rfl (by decide) _ _ _ rfl (own_callee HM.out.hr ((Below.refl _ _).alloc (Nat.le_refl _) _)) ⟨X.heap.size, 0, none⟩ 1 1 (verV ⟨o, true, zo⟩) rfl rfl (cells_new X (verV ⟨o, true, zo⟩).toArray 246) (verV_ones ⟨o, true, zo⟩) (by unfold maxLen; omega) (by omega) (by rw [World.size_alloc]; exact Nat.le_succ_of_le HBs.out) ?_; intro v1 w9 hown1 hgr1 _; have Hown1 := Lib.hid hown1; have Hgr1 := Lib.hid hgr1; clear hown1 hgr1)
          have HN : Hid (Ev w w9 g p m ge v1 l (k + 1)) := HM.out.grown Hgr1.out Hown1.out Hv.out
          go_roundg (n - (k + 1))
          case measure => rw [Hgk.out]; omega
          case rel => exact ⟨k + 1, by omega, rfl, by go_num, HN⟩
    · obtain rfl : k = n := by omega
      have HEnd : Hid (EvQ p l k w (.returned u7) wr) := by
        have h1 := HE.out.hr
        rw [List.take_of_length_le (by rw [Hn.out]; exact Nat.le_refl _)] at h1
        obtain ⟨A1, c1, e1, hv⟩ := vers_own h1
        exact ⟨A1, c1, by rw [e1], hv, HE.out.hb⟩
      go_wp2
      go_ret
      exact HEnd.out
end Go.Proofs.YtikcgcgbcolndaaGreat.Pol
