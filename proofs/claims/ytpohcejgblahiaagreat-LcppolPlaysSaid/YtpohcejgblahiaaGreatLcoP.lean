/- Contract of the document's Get (layer 9). -/
import Derived.Test.YtpohcejgblahiaaGreatGLcoL
import Derived.Test.YtpohcejgblahiaaGreatGLcoK
import Derived.Test.YtpohcejgblahiaaGreatOptA
import Derived.Deep.LoopGhost
import Derived.Deep.RegionWith
import Derived.Shelf.SlSortCmp.QuietGrown
import Derived.BigQuiet
namespace Go.Proofs.YtpohcejgblahiaaGreat.Lco
open Go.RowKit Go.Sort Go.Proofs.YtpohcejgblahiaaGreat.Oct Go.Proofs.YtpohcejgblahiaaGreat.Row Go.Proofs.YtpohcejgblahiaaGreat.Mem Go.Proofs.YtpohcejgblahiaaGreat.Opt

/-- What stands while the document goes over the options. -/
def Gor (g : Nat) (w wr : World) (l : List Opt) (k : Nat) (x : Lcp) (odd : List Opt) (A : Option Addr) (n c : Nat) : Prop :=
  LAt wr g lz ∧ LAt wr (g + 1) x ∧ wr.ownsRow g 51 2 (.slice A n c) n (optsV odd) ∧ n = odd.length ∧ n ≤ k ∧ st (l.take k) = some (x, odd) ∧ Below w.heap.size w wr
theorem Gor.callee {g : Nat} {w wr W' : World} {l : List Opt} {k : Nat} {x : Lcp} {odd : List Opt} {A : Option Addr} {n c : Nat} (h : Gor g w wr l k x odd A n c) (hb : Below wr.heap.size wr W') : Gor g w W' l k x odd A n c :=
  ⟨h.1.callee hb, h.2.1.callee hb, (Moves.of_below (S := fun _ => False) hb).row h.2.2.1 (fun _ _ x => x), h.2.2.2.1, h.2.2.2.2.1, h.2.2.2.2.2.1, h.2.2.2.2.2.2.trans (hb.mono h.2.2.2.2.2.2.size)⟩
theorem Gor.drew {g : Nat} {w wr : World} {l : List Opt} {k : Nat} {x : Lcp} {odd : List Opt} {A : Option Addr} {n c : Nat} (h : Gor g w wr l k x odd A n c) : Gor g w wr.drew l k x odd A n c :=
  ⟨h.1, h.2.1, h.2.2.1, h.2.2.2.1, h.2.2.2.2.1, h.2.2.2.2.2.1, h.2.2.2.2.2.2.drew⟩
theorem Gor.said {g : Nat} {w wr : World} {l : List Opt} {k : Nat} {x y : Lcp} {odd : List Opt} {A : Option Addr} {n c : Nat} (h : Gor g w wr l k x odd A n c) (hg : w.heap.size ≤ g) (hst : st (l.take (k + 1)) = some (y, odd)) : Gor g w (setL wr (g + 1) (lv y)) l (k + 1) y odd A n c := by
  obtain ⟨h1, h2, h3, h4, h5, h6, h7⟩ := h
  have hm := setL_moves wr (g + 1) (lv y)
  exact ⟨Blk.moves h1 hm (by omega), setL_blk h2, hm.row h3 (fun k hk e => cells_not_row h2 (by decide) h3 (by rw [hk, e])), h4, by omega, hst, h7.trans (hm.below h7.size (fun k e => by omega))⟩
theorem Gor.grown {g n' c' : Nat} {w wr W' : World} {l : List Opt} {k : Nat} {x : Lcp} {odd : List Opt} {o : Opt} {A A' : Option Addr} {n c : Nat} (h : Gor g w wr l k x odd A n c) (hw : w.heap.size ≤ g) (hst : st (l.take (k + 1)) = some (x, odd ++ [o]))
    (hg : wr.grownBy W' (Value.slice A n c).ownBlock) (hr : W'.ownsRow g 51 2 (.slice A' n' c') n' (optsV (odd ++ [o]))) (hn : n' = n + 1) : Gor g w W' l (k + 1) x (odd ++ [o]) A' n' c' := by
  obtain ⟨h1, h2, h3, h4, h5, h6, h7⟩ := h
  have hm : Moves (fun k => (Value.slice A n c).ownBlock = some k) wr W' := Moves.of_grown hg (fun k e _ => e)
  refine ⟨Blk.moves h1 hm (fun e => cells_not_row h1 (by decide) h3 e), Blk.moves h2 hm (fun e => cells_not_row h2 (by decide) h3 e), hr, by rw [List.length_append, List.length_singleton]; omega, by omega, hst, h7.grown hg h7.size (fun k e => ?_)⟩
  exact Nat.le_trans hw (h3.lt k e).1
/-- No valid one of this type stands ahead of place j. -/
def NoneOf (l : List Opt) (t : UInt8) (j : Nat) : Prop := ∀ q, q < j → ∀ p, l[q]? = some p → good p = true → p.1 ≠ t
theorem has_not {l : List Opt} {k : Nat} {x : Lcp} {odd : List Opt} {t : UInt8} (h : st (l.take k) = some (x, odd)) (ht : known t = true) (hn : NoneOf l t k) : has t x = false := by
  obtain ⟨_, _, hr⟩ := st_some h
  rw [Bool.eq_false_iff]
  intro e
  obtain ⟨d, hd⟩ := (hr.2.1 t ht).1 e
  obtain ⟨hm, hg⟩ := List.mem_filter.1 hd
  obtain ⟨q, hq⟩ := List.getElem?_of_mem hm
  have hqk : q < k := by have := (List.getElem?_eq_some_iff.1 hq).1; rw [List.length_take] at this; omega
  rw [List.getElem?_take_of_lt hqk] at hq
  exact hn q hqk _ hq hg rfl
theorem has_yes {l : List Opt} {k q : Nat} {x : Lcp} {odd : List Opt} {p : Opt} (h : st (l.take k) = some (x, odd)) (hq : q < k) (hp : l[q]? = some p) (hg : good p = true) : has p.1 x = true := by
  obtain ⟨_, _, hr⟩ := st_some h
  refine (hr.2.1 p.1 (good_known hg)).2 ⟨p.2, List.mem_filter.2 ⟨?_, hg⟩⟩
  exact List.mem_of_getElem? (i := q) (by rw [List.getElem?_take_of_lt hq]; exact hp)
theorem none_next {l : List Opt} {t : UInt8} {j : Nat} {p : Opt} (h : NoneOf l t j) (hp : l[j]? = some p) (hn : good p = true → p.1 ≠ t) : NoneOf l t (j + 1) := by
  intro q hq p' hp' hg
  rcases Nat.lt_or_ge q j with h1 | h1
  · exact h q h1 p' hp' hg
  · obtain rfl : q = j := by omega
    rw [hp] at hp'
    cases hp'
    exact hn hg
theorem lall {W : World} {g : Nat} {x : Lcp} (h : LAt W g x) : W.cell? ⟨g, 0, none⟩ = some (Value.bool x.hm) ∧ W.cell? ⟨g, 1, none⟩ = some (.int .u16 x.mru.toNat) ∧ W.cell? ⟨g, 2, none⟩ = some (.bool x.ha) ∧ W.cell? ⟨g, 3, none⟩ = some (.int .u32 x.accm.toNat) ∧ W.cell? ⟨g, 4, none⟩ = some (.int .u8 x.auth.toNat) ∧ W.cell? ⟨g, 5, none⟩ = some (.bool x.hg) ∧ W.cell? ⟨g, 6, none⟩ = some (.int .u32 x.magic.toNat) ∧ W.cell? ⟨g, 7, none⟩ = some (.bool x.pfc) ∧ W.cell? ⟨g, 8, none⟩ = some (.bool x.acfc) ∧ W.frozen? ⟨g, 0, none⟩ = false ∧ W.frozen? ⟨g, 1, none⟩ = false ∧ W.frozen? ⟨g, 2, none⟩ = false ∧ W.frozen? ⟨g, 3, none⟩ = false ∧ W.frozen? ⟨g, 4, none⟩ = false ∧ W.frozen? ⟨g, 5, none⟩ = false ∧ W.frozen? ⟨g, 6, none⟩ = false ∧ W.frozen? ⟨g, 7, none⟩ = false ∧ W.frozen? ⟨g, 8, none⟩ = false := ⟨h.c 0, h.c 1, h.c 2, h.c 3, h.c 4, h.c 5, h.c 6, h.c 7, h.c 8, h.f 0, h.f 1, h.f 2, h.f 3, h.f 4, h.f 5, h.f 6, h.f 7, h.f 8⟩
theorem below_gr (w : World) (q : Nat) (os : Array Obj) : Below w.heap.size w (grow (w.drewN q) os) := by
  refine ⟨rfl, rfl, rfl, ?_, fun k hk => ?_⟩
  · show w.heap.size ≤ (w.heap ++ os).size
    rw [Array.size_append]; omega
  · show (w.heap ++ os)[k]? = w.heap[k]?
    rw [Array.getElem?_append, if_pos hk]
theorem rgood_g (t : UInt8) (d : ByteArray) (w : World) : Calls Tryz.prog 86 #[.agg #[.int .u8 t.toNat, .string d]] w fun e w' => e = .returned (.bool (good (t, d))) ∧ ∃ q os', w' = grow (w.drewN q) os' :=
  (rgood_w t d w).mono fun _ _ ⟨he, hw⟩ => ⟨he, 0, #[.cells #[.int .u8 t.toNat, .string d] 51], by rw [hw, alloc_eq_grow]; rfl⟩
set_option maxHeartbeats 16000000 in
set_option maxRecDepth 100000 in
theorem rget_any (l : List Opt) (B : Nat) (A0 : Option Addr) (n0 c0 : Nat) (w : World) (hl : Opts w B A0 n0 l) (hn : n0 ≤ 1000) (hBw : B ≤ w.heap.size) : Calls Tryz.prog 88 #[.slice A0 n0 c0] w (GetQ l w) := by
  obtain ⟨i0, hi, hz0, hz1, hz2⟩ := info_parts Tryz.info51
  have Hn := Lib.hid hl.1
  have Hl := Lib.hid hl; clear hl
  have hA : ∀ W : World, W = (w.alloc (.cells #[Value.bool false, .int .u16 0, .bool false, .int .u32 0, .int .u8 0, .bool false, .int .u32 0, .bool false, .bool false] 37)).alloc (.cells #[Value.bool false, .int .u16 0, .bool false, .int .u32 0, .int .u8 0, .bool false, .int .u32 0, .bool false, .bool false] 37) → Gor w.heap.size w W l 0 lz [] none 0 0 := by
    intro W e
    subst e
    refine ⟨(lat_new w lz).alloc _, ?_, World.ownsRow_nil _ _ _ _, rfl, Nat.le_refl _, rfl, ((Below.refl w.heap.size w).alloc (Nat.le_refl _) _).alloc (by simp) _⟩
    have := lat_new (w.alloc (.cells (lv lz).toArray 37)) lz
    rw [show (w.alloc (.cells (lv lz).toArray 37)).heap.size = w.heap.size + 1 by simp] at this
    exact this
  have HA := Lib.hid hA
  clear hA
  have mixed : Tryz.prog.follows .mixedOrders = true := by kernel_rfl
  have MX := Lib.hid mixed
  clear mixed
  go_enter Tryz.func88, Tryz.ntmps88
  go_wp2
  obtain ⟨W, hW, HS0⟩ : ∃ W, (w.alloc (.cells #[Value.bool false, .int .u16 0, .bool false, .int .u32 0, .int .u8 0, .bool false, .int .u32 0, .bool false, .bool false] 37)).alloc (.cells #[Value.bool false, .int .u16 0, .bool false, .int .u32 0, .int .u8 0, .bool false, .int .u32 0, .bool false, .bool false] 37) = W ∧ Hid (Gor w.heap.size w W l 0 lz [] none 0 0) := ⟨_, rfl, HA.out _ rfl⟩
  rw [hW]
  clear hW HA
  go_loopg [6, 7] n0 (fun gk v i wr => ∃ (k : Nat) (x : Lcp) (odd : List Opt) (A : Option Addr) (n c : Nat), k ≤ n0 ∧ gk = n0 - k ∧ i = .int .i64 k ∧ v = .slice A n c ∧ Hid (Gor w.heap.size w wr l k x odd A n c))
  case atStart => exact ⟨0, lz, [], none, 0, 0, Nat.zero_le _, rfl, rfl, rfl, HS0⟩
  case round =>
    obtain ⟨k, x, odd, A, n, c, hk, hgk, rfl, rfl, HS⟩ := hrel
    clear HS0
    by_cases hlt : k < n0
    · obtain ⟨ad, ⟨t, d⟩, rfl, hB, ho, hS1, hc0, hc1⟩ := (Hl.out.below (HS.out.2.2.2.2.2.2.mono hBw)).at_ hlt
      have hst := st_take HS.out.2.2.2.2.2.1 ho
      have hnk := HS.out.2.2.2.2.1
      cases hgd : good (t, d)
      · have C2 : Hid (∀ W, Calls Tryz.prog 86 #[.agg #[.int .u8 t.toNat, .string d]] W fun e w' => e = .returned (.bool false) ∧ Below W.heap.size W w') := fun W => by
          have := rgood_any t d W
          rw [hgd] at this
          exact this
        have HST := Lib.hid (hst.1 hgd)
        clear hst hgd
        go_wp2_with fail
        refine (C2.out _).mono ?_
        rintro e w2 ⟨rfl, hb2⟩
        have HS2 := Lib.hid (HS.out.callee hb2)
        have e0 := ((HS.out.2.2.2.2.2.2.trans (hb2.mono HS.out.2.2.2.2.2.2.size)))
        have f0 : w2.cell? (ad.add (k * 2)) = some (.int .u8 t.toNat) := (hb2.cell (World.block_lt_of_cell? _ _ hc0)).trans hc0
        have f1 : w2.cell? ⟨(ad.add (k * 2)).block, (ad.add (k * 2)).off + 1, none⟩ = some (.string d) := (hb2.cell (World.block_lt_of_cell? _ _ hc1)).trans hc1
        have HO3 := Lib.hid HS2.out.2.2.1
        have HSz := HS2.out.2.2.2.2.2.2.size
        have HSA := Lib.hid (HS2.out.callee ((Below.refl _ w2).alloc (Nat.le_refl _) (.cells #[.int .u8 t.toNat, .string d] 51)))
        clear hb2 C2 HS hc0 hc1 ho e0
        go_wp2_with (at_builtin; refine wpList_append_own _ rfl _ _ 30 rfl w.heap.size 51 i0 _ 2 24 Tryz.underlying30 hi hz0 hz1 hz2 rfl (by decide) _ _ _ rfl (HO3.out.alloc _) ⟨w2.heap.size, 0, none⟩ 1 1 (optsV [(t, d)]) rfl rfl (by rw [optsV_one]; exact cells_new _ _ _) (optsV_ones _) (by unfold maxLen; omega) (by omega) (by simp; omega) ?_; intro v1 w4 hown1 hgr1 _; have Hown1 := Lib.hid hown1; have Hgr1 := Lib.hid hgr1; clear hown1 hgr1; obtain ⟨g1, cap1, rfl⟩ := ownsRow_succ Hown1.out)
        have HS4 : Hid (Gor w.heap.size w w4 l (k + 1) x (odd ++ [(t, d)]) (some ⟨g1, 0, none⟩) (n + 1) cap1) := HSA.out.grown (Nat.le_refl _) HST.out Hgr1.out (by rw [optsV_append]; exact Hown1.out) rfl
        go_roundg (n0 - (k + 1))
        case measure => omega
        case rel => exact ⟨k + 1, x, odd ++ [(t, d)], _, n + 1, _, by omega, rfl, by go_num, rfl, HS4⟩
      · have C2 : Hid (∀ W, Calls Tryz.prog 86 #[.agg #[.int .u8 t.toNat, .string d]] W fun e w' => e = .returned (.bool true) ∧ Below W.heap.size W w') := fun W => by
          have := rgood_any t d W
          rw [hgd] at this
          exact this
        have HGD := Lib.hid hgd
        have HT : Hid (known t = true) := good_known hgd
        have HO := Lib.hid ho
        have hst2 := Lib.hid (hst.2.1 hgd)
        have hst3 := Lib.hid (hst.2.2 hgd)
        clear hst hgd ho
        go_wp2_with fail
        refine (C2.out _).mono ?_
        rintro e w2 ⟨rfl, hb2⟩
        have HS2 := Lib.hid (HS.out.callee hb2)
        clear hb2 C2 HS hc0 hc1
        go_wp2
        go_loopg [8] k (fun g2 vj wr2 => ∃ q : Nat, q ≤ k ∧ g2 = k - q ∧ vj = .int .i64 q ∧ Hid (NoneOf l t q) ∧ Hid (Gor w.heap.size w wr2 l k x odd A n c))
        case atStart => exact ⟨0, Nat.zero_le _, rfl, rfl, (fun q h => absurd h (Nat.not_lt_zero _)), HS2⟩
        case round =>
          obtain ⟨q, hq, hg2, rfl, HN, HS3⟩ := hrel
          clear HS2
          obtain ⟨ad2, p2, e2, hB2, ho2, _, hk0, hk1⟩ := (Hl.out.below (HS3.out.2.2.2.2.2.2.mono hBw)).at_ hlt
          cases e2
          obtain rfl : p2 = (t, d) := by have h2 := HO.out; rw [ho2] at h2; exact Option.some.inj h2
          clear ho2 hB2
          simp only at hk0 hk1
          by_cases hqk : q < k
          · obtain ⟨ad3, ⟨tq, dq⟩, e3, hB3, ho3, _, hq0, hq1⟩ := (Hl.out.below (HS3.out.2.2.2.2.2.2.mono hBw)).at_ (show q < n0 by omega)
            cases e3
            have HO3 := Lib.hid ho3
            have hq0' : ∀ n os, (grow (wr.drewN n) os).cell? (ad.add (q * 2)) = some (.int .u8 tq.toNat) := fun n os => cell_grown (World.block_lt_of_cell? _ _ hq0) hq0 n os
            have hq1' : ∀ n os, (grow (wr.drewN n) os).cell? ⟨(ad.add (q * 2)).block, (ad.add (q * 2)).off + 1, none⟩ = some (.string dq) := fun n os => cell_grown (World.block_lt_of_cell? _ _ hq1) hq1 n os
            have hk0' : ∀ n os, (grow (wr.drewN n) os).cell? (ad.add (k * 2)) = some (.int .u8 t.toNat) := fun n os => cell_grown (World.block_lt_of_cell? _ _ hk0) hk0 n os
            have hqn : q < n0 := by omega
            have mixed := MX.out
            clear ho3 hB3 hq0 hq1 hk0 hk1
            cases hgq : good (tq, dq)
            · have HN2 := Lib.hid (none_next HN.out HO3.out (fun e => by rw [hgq] at e; cases e))
              have C3 : ∀ W, Calls Tryz.prog 86 #[.agg #[.int .u8 tq.toNat, .string dq]] W fun e w' => e = .returned (.bool false) ∧ ∃ q os', w' = grow (W.drewN q) os' := fun W => by
                have := rgood_g tq dq W
                rw [hgq] at this
                exact this
              clear hgq
              have HC3 := Lib.hid C3
              clear C3
              go_wp2
              refine wp_region_quiet_grown (by assumption) (by kernel_rfl) ?_
              iterate 5 (quiet_step (first | (go_at_call 86; refine Calls.grown_of (HC3.out _))))
              repeat (first | go_big_quiet_skip | (go_big_quiet_want; go_big_quiet_op; go_big_quiet_on))
              refine wpQuiet_nil ?_
              intro _ hw'
              obtain ⟨⟨nq, osq⟩, hw''⟩ := hw'
              subst hw''
              have HS4 := Lib.hid (HS3.out.callee (below_gr wr nq osq))
              clear hq0' hq1' hk0' mixed
              go_wp2
              go_roundg (k - (q + 1))
              case measure => omega
              case rel => exact ⟨q + 1, by omega, rfl, by go_num, HN2, HS4⟩
            · have C3 : ∀ W, Calls Tryz.prog 86 #[.agg #[.int .u8 tq.toNat, .string dq]] W fun e w' => e = .returned (.bool true) ∧ ∃ q os', w' = grow (W.drewN q) os' := fun W => by
                have := rgood_g tq dq W
                rw [hgq] at this
                exact this
              have HGQ := Lib.hid hgq
              clear hgq
              have HC3 := Lib.hid C3
              clear C3
              by_cases htq : tq = t
              · have hx : ((tq.toNat : Int) == (t.toNat : Int)) = true := by rw [htq]; simp
                have HST := Lib.hid (get_none (hst3.out (by have := has_yes HS3.out.2.2.2.2.2.1 hqk HO3.out HGQ.out; rw [← htq]; exact this)))
                clear htq
                go_wp2
                go_quiet_grown (first | (go_at_call 86; refine Calls.grown_of (HC3.out _)))
                have HS4 := Lib.hid (HS3.out.callee (below_gr wr nq osq))
                clear hq0' hq1' hk0' mixed
                have z0 : (grow (wr.drewN nq) osq).cell? ⟨w.heap.size, 0, none⟩ = some (Value.bool false) := HS4.out.1.c 0
                have z1 : (grow (wr.drewN nq) osq).cell? ⟨w.heap.size, 1, none⟩ = some (.int .u16 0) := HS4.out.1.c 1
                have z2 : (grow (wr.drewN nq) osq).cell? ⟨w.heap.size, 2, none⟩ = some (.bool false) := HS4.out.1.c 2
                have z3 : (grow (wr.drewN nq) osq).cell? ⟨w.heap.size, 3, none⟩ = some (.int .u32 0) := HS4.out.1.c 3
                have z4 : (grow (wr.drewN nq) osq).cell? ⟨w.heap.size, 4, none⟩ = some (.int .u8 0) := HS4.out.1.c 4
                have z5 : (grow (wr.drewN nq) osq).cell? ⟨w.heap.size, 5, none⟩ = some (.bool false) := HS4.out.1.c 5
                have z6 : (grow (wr.drewN nq) osq).cell? ⟨w.heap.size, 6, none⟩ = some (.int .u32 0) := HS4.out.1.c 6
                have z7 : (grow (wr.drewN nq) osq).cell? ⟨w.heap.size, 7, none⟩ = some (.bool false) := HS4.out.1.c 7
                have z8 : (grow (wr.drewN nq) osq).cell? ⟨w.heap.size, 8, none⟩ = some (.bool false) := HS4.out.1.c 8
                have f0 : (grow (wr.drewN nq) osq).frozen? ⟨w.heap.size, 0, none⟩ = false := HS4.out.1.f 0
                have f1 : (grow (wr.drewN nq) osq).frozen? ⟨w.heap.size, 1, none⟩ = false := HS4.out.1.f 1
                have f2 : (grow (wr.drewN nq) osq).frozen? ⟨w.heap.size, 2, none⟩ = false := HS4.out.1.f 2
                have f3 : (grow (wr.drewN nq) osq).frozen? ⟨w.heap.size, 3, none⟩ = false := HS4.out.1.f 3
                have f4 : (grow (wr.drewN nq) osq).frozen? ⟨w.heap.size, 4, none⟩ = false := HS4.out.1.f 4
                have f5 : (grow (wr.drewN nq) osq).frozen? ⟨w.heap.size, 5, none⟩ = false := HS4.out.1.f 5
                have f6 : (grow (wr.drewN nq) osq).frozen? ⟨w.heap.size, 6, none⟩ = false := HS4.out.1.f 6
                have f7 : (grow (wr.drewN nq) osq).frozen? ⟨w.heap.size, 7, none⟩ = false := HS4.out.1.f 7
                have f8 : (grow (wr.drewN nq) osq).frozen? ⟨w.heap.size, 8, none⟩ = false := HS4.out.1.f 8
                go_wp2
                have HR := setL_blk (y := lz) HS4.out.1
                have HBe := setL_below HS4.out.2.2.2.2.2.2 HS4.out.2.2.2.2.2.2.size (g := w.heap.size) (Nat.le_refl _) (lv lz)
                (try simp only [Exit.inBlock, Exit.then])
                refine bodyPost_ret (results_row2 rfl _ _ w.heap.size (lv lz) _ _ rfl HR Tryz.underlying37 rfl (by kernel_rfl)) rfl ?_
                unfold GetQ
                rw [HST.out.1, HST.out.2.1, HST.out.2.2]
                exact ⟨none, 0, rfl, opts_nil _ _, HBe⟩
              · have hx : ((tq.toNat : Int) == (t.toNat : Int)) = false := Go.Proofs.YtpohcejgblahiaaGreat.Opt.no_byte htq
                have HN2 := Lib.hid (none_next HN.out HO3.out (fun _ => htq))
                clear htq
                go_wp2
                go_quiet_grown (first | (go_at_call 86; refine Calls.grown_of (HC3.out _)))
                have HS4 := Lib.hid (HS3.out.callee (below_gr wr nq osq))
                clear hq0' hq1' hk0' mixed
                go_wp2
                go_roundg (k - (q + 1))
                case measure => omega
                case rel => exact ⟨q + 1, by omega, rfl, by go_num, HN2, HS4⟩
          · obtain rfl : q = k := by omega
            have HST := Lib.hid (hst2.out (has_not HS3.out.2.2.2.2.2.1 HT.out HN.out))
            have CS := Lib.hid (fun W => rset_any t d x W HGD.out)
            have x0 : wr.cell? ⟨w.heap.size + 1, 0, none⟩ = some (Value.bool x.hm) := HS3.out.2.1.c 0
            have x1 : wr.cell? ⟨w.heap.size + 1, 1, none⟩ = some (.int .u16 x.mru.toNat) := HS3.out.2.1.c 1
            have x2 : wr.cell? ⟨w.heap.size + 1, 2, none⟩ = some (.bool x.ha) := HS3.out.2.1.c 2
            have x3 : wr.cell? ⟨w.heap.size + 1, 3, none⟩ = some (.int .u32 x.accm.toNat) := HS3.out.2.1.c 3
            have x4 : wr.cell? ⟨w.heap.size + 1, 4, none⟩ = some (.int .u8 x.auth.toNat) := HS3.out.2.1.c 4
            have x5 : wr.cell? ⟨w.heap.size + 1, 5, none⟩ = some (.bool x.hg) := HS3.out.2.1.c 5
            have x6 : wr.cell? ⟨w.heap.size + 1, 6, none⟩ = some (.int .u32 x.magic.toNat) := HS3.out.2.1.c 6
            have x7 : wr.cell? ⟨w.heap.size + 1, 7, none⟩ = some (.bool x.pfc) := HS3.out.2.1.c 7
            have x8 : wr.cell? ⟨w.heap.size + 1, 8, none⟩ = some (.bool x.acfc) := HS3.out.2.1.c 8
            have f0 : wr.frozen? ⟨w.heap.size + 1, 0, none⟩ = false := HS3.out.2.1.f 0
            have f1 : wr.frozen? ⟨w.heap.size + 1, 1, none⟩ = false := HS3.out.2.1.f 1
            have f2 : wr.frozen? ⟨w.heap.size + 1, 2, none⟩ = false := HS3.out.2.1.f 2
            have f3 : wr.frozen? ⟨w.heap.size + 1, 3, none⟩ = false := HS3.out.2.1.f 3
            have f4 : wr.frozen? ⟨w.heap.size + 1, 4, none⟩ = false := HS3.out.2.1.f 4
            have f5 : wr.frozen? ⟨w.heap.size + 1, 5, none⟩ = false := HS3.out.2.1.f 5
            have f6 : wr.frozen? ⟨w.heap.size + 1, 6, none⟩ = false := HS3.out.2.1.f 6
            have f7 : wr.frozen? ⟨w.heap.size + 1, 7, none⟩ = false := HS3.out.2.1.f 7
            have f8 : wr.frozen? ⟨w.heap.size + 1, 8, none⟩ = false := HS3.out.2.1.f 8
            have hqn : q < n0 := hlt
            clear HN HO hst2 hst3
            generalize say x (t, d) = y at *
            unfold lv at CS
            go_wp2
            go_region_with (first
              | (go_at_call 113; refine (CS.out _).mono ?_; rintro e w4 ⟨rfl, hb4⟩; have HS4 := Lib.hid (Gor.callee (wr := wr.drew) HS3.out.drew hb4); obtain ⟨x0, x1, x2, x3, x4, x5, x6, x7, x8, f0, f1, f2, f3, f4, f5, f6, f7, f8⟩ := lall HS4.out.2.1; clear hb4 CS)
              | fail)
            all_goals go_wp2
            all_goals have HS5 : Hid (Gor w.heap.size w (setL w4 (w.heap.size + 1) (lv y)) l (q + 1) y odd A n c) := HS4.out.said (Nat.le_refl _) HST.out
            all_goals go_roundg (n0 - (q + 1))
            all_goals first
              | omega
              | exact ⟨q + 1, y, odd, A, n, c, by omega, rfl, by go_num, rfl, HS5⟩
    · obtain rfl : k = n0 := by omega
      have HST : Hid (st l = some (x, odd)) := by
        have h := HS.out.2.2.2.2.2.1
        rw [List.take_of_length_le (by rw [Hn.out]; exact Nat.le_refl _)] at h
        exact h
      have HGS := Lib.hid (get_some HST.out)
      have x0 : wr.cell? ⟨w.heap.size + 1, 0, none⟩ = some (Value.bool x.hm) := HS.out.2.1.c 0
      have x1 : wr.cell? ⟨w.heap.size + 1, 1, none⟩ = some (.int .u16 x.mru.toNat) := HS.out.2.1.c 1
      have x2 : wr.cell? ⟨w.heap.size + 1, 2, none⟩ = some (.bool x.ha) := HS.out.2.1.c 2
      have x3 : wr.cell? ⟨w.heap.size + 1, 3, none⟩ = some (.int .u32 x.accm.toNat) := HS.out.2.1.c 3
      have x4 : wr.cell? ⟨w.heap.size + 1, 4, none⟩ = some (.int .u8 x.auth.toNat) := HS.out.2.1.c 4
      have x5 : wr.cell? ⟨w.heap.size + 1, 5, none⟩ = some (.bool x.hg) := HS.out.2.1.c 5
      have x6 : wr.cell? ⟨w.heap.size + 1, 6, none⟩ = some (.int .u32 x.magic.toNat) := HS.out.2.1.c 6
      have x7 : wr.cell? ⟨w.heap.size + 1, 7, none⟩ = some (.bool x.pfc) := HS.out.2.1.c 7
      have x8 : wr.cell? ⟨w.heap.size + 1, 8, none⟩ = some (.bool x.acfc) := HS.out.2.1.c 8
      have z0 : wr.cell? ⟨w.heap.size, 0, none⟩ = some (Value.bool false) := HS.out.1.c 0
      have z1 : wr.cell? ⟨w.heap.size, 1, none⟩ = some (.int .u16 0) := HS.out.1.c 1
      have z2 : wr.cell? ⟨w.heap.size, 2, none⟩ = some (.bool false) := HS.out.1.c 2
      have z3 : wr.cell? ⟨w.heap.size, 3, none⟩ = some (.int .u32 0) := HS.out.1.c 3
      have z4 : wr.cell? ⟨w.heap.size, 4, none⟩ = some (.int .u8 0) := HS.out.1.c 4
      have z5 : wr.cell? ⟨w.heap.size, 5, none⟩ = some (.bool false) := HS.out.1.c 5
      have z6 : wr.cell? ⟨w.heap.size, 6, none⟩ = some (.int .u32 0) := HS.out.1.c 6
      have z7 : wr.cell? ⟨w.heap.size, 7, none⟩ = some (.bool false) := HS.out.1.c 7
      have z8 : wr.cell? ⟨w.heap.size, 8, none⟩ = some (.bool false) := HS.out.1.c 8
      have f0 : wr.frozen? ⟨w.heap.size, 0, none⟩ = false := HS.out.1.f 0
      have f1 : wr.frozen? ⟨w.heap.size, 1, none⟩ = false := HS.out.1.f 1
      have f2 : wr.frozen? ⟨w.heap.size, 2, none⟩ = false := HS.out.1.f 2
      have f3 : wr.frozen? ⟨w.heap.size, 3, none⟩ = false := HS.out.1.f 3
      have f4 : wr.frozen? ⟨w.heap.size, 4, none⟩ = false := HS.out.1.f 4
      have f5 : wr.frozen? ⟨w.heap.size, 5, none⟩ = false := HS.out.1.f 5
      have f6 : wr.frozen? ⟨w.heap.size, 6, none⟩ = false := HS.out.1.f 6
      have f7 : wr.frozen? ⟨w.heap.size, 7, none⟩ = false := HS.out.1.f 7
      have f8 : wr.frozen? ⟨w.heap.size, 8, none⟩ = false := HS.out.1.f 8
      go_wp2
      have HR := setL_blk (y := x) HS.out.1
      have HM := setL_moves wr w.heap.size (lv x)
      have HBe := setL_below HS.out.2.2.2.2.2.2 HS.out.2.2.2.2.2.2.size (g := w.heap.size) (Nat.le_refl _) (lv x)
      (try simp only [Exit.inBlock, Exit.then])
      refine bodyPost_ret (results_row2 rfl _ _ w.heap.size (lv x) _ _ rfl HR Tryz.underlying37 rfl (by kernel_rfl)) rfl ?_
      unfold GetQ
      rw [HGS.out.1, HGS.out.2.1, HGS.out.2.2]
      refine ⟨A, c, by rw [← HS.out.2.2.2.1]; rfl, ?_, HBe⟩
      have hr := HM.row HS.out.2.2.1 (fun k hk e => cells_not_row HS.out.1 (by decide) HS.out.2.2.1 (by rw [hk, e]))
      rw [← HS.out.2.2.2.1]
      exact row_opts hr (fun o ho => Hl.out.2.1 o (odds_mem HST.out o ho))
end Go.Proofs.YtpohcejgblahiaaGreat.Lco
