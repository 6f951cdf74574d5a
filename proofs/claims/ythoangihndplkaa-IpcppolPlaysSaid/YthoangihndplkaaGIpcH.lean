/- Put together: IpcH, IpcRw. -/
import Derived.Test.YthoangihndplkaaGIpcE
import Derived.Test.YthoangihndplkaaIpcD
import Derived.Test.YthoangihndplkaaOptAs
import Derived.Deep.LoopGhost
import Derived.Deep.RegionWith
import Derived.Shelf.SlSortCmp.QuietGrown
import Derived.BigQuiet
import Derived.Test.YthoangihndplkaaIpcGr
import Derived.Test.YthoangihndplkaaOptRs

/- Contract of the document's Get (layer 10). -/
namespace Go.Proofs.Ythoangihndplkaa.Ipc
open Go.RowKit Go.Sort Go.Proofs.Ythoangihndplkaa.Oct Go.Proofs.Ythoangihndplkaa.Row Go.Proofs.Ythoangihndplkaa.Mem Go.Proofs.Ythoangihndplkaa.Opt

/-- What stands while the document goes over the options. -/
def Gor (g : Nat) (w wr : World) (l : List Opt) (k : Nat) (x : Ipc) (odd : List Opt) (A : Option Addr) (n c : Nat) : Prop :=
  LAt wr g lz ∧ LAt wr (g + 1) x ∧ wr.ownsRow g 48 2 (.slice A n c) n (optsV odd) ∧ n = odd.length ∧ n ≤ k ∧ st (l.take k) = some (x, odd) ∧ Below w.heap.size w wr
theorem Gor.callee {g : Nat} {w wr W' : World} {l : List Opt} {k : Nat} {x : Ipc} {odd : List Opt} {A : Option Addr} {n c : Nat} (h : Gor g w wr l k x odd A n c) (hb : Below wr.heap.size wr W') : Gor g w W' l k x odd A n c :=
  ⟨h.1.callee hb, h.2.1.callee hb, (Moves.of_below (S := fun _ => False) hb).row h.2.2.1 (fun _ _ x => x), h.2.2.2.1, h.2.2.2.2.1, h.2.2.2.2.2.1, h.2.2.2.2.2.2.trans (hb.mono h.2.2.2.2.2.2.size)⟩
theorem Gor.drew {g : Nat} {w wr : World} {l : List Opt} {k : Nat} {x : Ipc} {odd : List Opt} {A : Option Addr} {n c : Nat} (h : Gor g w wr l k x odd A n c) : Gor g w wr.drew l k x odd A n c :=
  ⟨h.1, h.2.1, h.2.2.1, h.2.2.2.1, h.2.2.2.2.1, h.2.2.2.2.2.1, h.2.2.2.2.2.2.drew⟩
theorem Gor.grown {g n' c' : Nat} {w wr W' : World} {l : List Opt} {k : Nat} {x : Ipc} {odd : List Opt} {o : Opt} {A A' : Option Addr} {n c : Nat} (h : Gor g w wr l k x odd A n c) (hw : w.heap.size ≤ g) (hst : st (l.take (k + 1)) = some (x, odd ++ [o]))
    (hg : wr.grownBy W' (Value.slice A n c).ownBlock) (hr : W'.ownsRow g 48 2 (.slice A' n' c') n' (optsV (odd ++ [o]))) (hn : n' = n + 1) : Gor g w W' l (k + 1) x (odd ++ [o]) A' n' c' := by
  obtain ⟨h1, h2, h3, h4, h5, h6, h7⟩ := h
  have hm : Moves (fun k => (Value.slice A n c).ownBlock = some k) wr W' := Moves.of_grown hg (fun k e _ => e)
  refine ⟨Blk.moves h1 hm (fun e => cells_not_row h1 (by decide) h3 e), Blk.moves h2 hm (fun e => cells_not_row h2 (by decide) h3 e), hr, by rw [List.length_append, List.length_singleton]; omega, by omega, hst, h7.grown hg h7.size (fun k e => ?_)⟩
  exact Nat.le_trans hw (h3.lt k e).1
/-- No valid one of this type stands ahead of place j. -/
def NoneOf (l : List Opt) (t : UInt8) (j : Nat) : Prop := ∀ q, q < j → ∀ p, l[q]? = some p → good p = true → p.1 ≠ t
theorem has_not {l : List Opt} {k : Nat} {x : Ipc} {odd : List Opt} {t : UInt8} (h : st (l.take k) = some (x, odd)) (ht : known t = true) (hn : NoneOf l t k) : has t x = false := by
  obtain ⟨_, _, hr⟩ := st_some h
  rw [Bool.eq_false_iff]
  intro e
  obtain ⟨d, hd⟩ := (hr.2.1 t ht).1 e
  obtain ⟨hm, hg⟩ := List.mem_filter.1 hd
  obtain ⟨q, hq⟩ := List.getElem?_of_mem hm
  have hqk : q < k := by have := (List.getElem?_eq_some_iff.1 hq).1; rw [List.length_take] at this; omega
  rw [List.getElem?_take_of_lt hqk] at hq
  exact hn q hqk _ hq hg rfl
theorem has_yes {l : List Opt} {k q : Nat} {x : Ipc} {odd : List Opt} {p : Opt} (h : st (l.take k) = some (x, odd)) (hq : q < k) (hp : l[q]? = some p) (hg : good p = true) : has p.1 x = true := by
  obtain ⟨_, _, hr⟩ := st_some h
  refine (hr.2.1 p.1 (good_known hg)).2 ⟨p.2, List.mem_filter.2 ⟨?_, hg⟩⟩
  exact List.mem_of_getElem? (i := q) (by rw [List.getElem?_take_of_lt hq]; exact hp)
theorem none_next {l : List Opt} {t : UInt8} {j : Nat} {p : Opt} (h : NoneOf l t j) (hp : l[j]? = some p) (hn : good p = true → p.1 ≠ t) : NoneOf l t (j + 1) := by
  intro q hq p' hp' hg
  rcases Nat.lt_or_ge q j with h1 | h1
  · exact h q h1 p' hp' hg
  · obtain rfl : q = j := by omega
    rw [hp] at hp'
    cases hp'
    exact hn hg
/-- What a valid one says is laid. -/
theorem Gor.put {g : Nat} {w wr : World} {l : List Opt} {k : Nat} {x y : Ipc} {odd : List Opt} {A : Option Addr} {n c : Nat} (h : Gor g w wr l k x odd A n c) (hg : w.heap.size ≤ g) (hst : st (l.take (k + 1)) = some (y, odd)) (i : Nat) (u v : Value) (hy : ((lv x).set i u).set (i + 1) v = lv y) : Gor g w ((wr.setCell ⟨g + 1, i, none⟩ u).setCell ⟨g + 1, i + 1, none⟩ v) l (k + 1) y odd A n c := by
  obtain ⟨h1, h2, h3, h4, h5, h6, h7⟩ := h
  have hm : Moves (fun k => k = g + 1) wr ((wr.setCell ⟨g + 1, i, none⟩ u).setCell ⟨g + 1, i + 1, none⟩ v) := ((Moves.refl (fun k => k = g + 1) wr).setCell ⟨g + 1, i, none⟩ (fun _ => rfl) _).setCell ⟨g + 1, i + 1, none⟩ (fun _ => rfl) _
  refine ⟨Blk.moves h1 hm (by omega), ?_, hm.row h3 (fun k hk e => cells_not_row h2 (by decide) h3 (by rw [hk, e])), h4, by omega, hst, h7.trans (hm.below h7.size (fun k e => by omega))⟩
  show Blk _ _ (lv y) _
  rw [← hy]
  exact (Blk.set h2 i u).set (i + 1) v
theorem below_gr (w : World) (q : Nat) (os : Array Obj) : Below w.heap.size w (grow (w.drewN q) os) := by
  refine ⟨rfl, rfl, rfl, ?_, fun k hk => ?_⟩
  · show w.heap.size ≤ (w.heap ++ os).size
    rw [Array.size_append]; omega
  · show (w.heap ++ os)[k]? = w.heap[k]?
    rw [Array.getElem?_append, if_pos hk]
theorem rgood_g (t : UInt8) (d : ByteArray) (w : World) : Calls Try.prog 72 #[.agg #[.int .u8 t.toNat, .string d]] w fun e w' => e = .returned (.bool (good (t, d))) ∧ ∃ q os', w' = grow (w.drewN q) os' :=
  (rgood_w t d w).mono fun _ _ ⟨he, hw⟩ => ⟨he, 0, #[.cells #[.int .u8 t.toNat, .string d] 48], by rw [hw, alloc_eq_grow]; rfl⟩
set_option maxHeartbeats 16000000 in
set_option maxRecDepth 100000 in
theorem rget_any (l : List Opt) (B : Nat) (A0 : Option Addr) (n0 c0 : Nat) (w : World) (hl : Opts w B A0 n0 l) (hn : n0 ≤ 1001) (hBw : B ≤ w.heap.size) : Calls Try.prog 64 #[.slice A0 n0 c0] w (GetQ l w) := by
  obtain ⟨i0, hi, hz0, hz1, hz2⟩ := info_parts Try.info48
  have Hn := Lib.hid hl.1
  have Hl := Lib.hid hl; clear hl
  have hA : ∀ W : World, W = (w.alloc (.cells #[Value.bool false, .int .u32 0, .bool false, .int .u32 0, .bool false, .int .u32 0] 35)).alloc (.cells #[Value.bool false, .int .u32 0, .bool false, .int .u32 0, .bool false, .int .u32 0] 35) → Gor w.heap.size w W l 0 lz [] none 0 0 := by
    intro W e
    subst e
    refine ⟨(lat_new w lz).alloc _, ?_, World.ownsRow_nil _ _ _ _, rfl, Nat.le_refl _, rfl, ((Below.refl w.heap.size w).alloc (Nat.le_refl _) _).alloc (by simp) _⟩
    have := lat_new (w.alloc (.cells (lv lz).toArray 35)) lz
    rw [show (w.alloc (.cells (lv lz).toArray 35)).heap.size = w.heap.size + 1 by simp] at this
    exact this
  have HA := Lib.hid hA
  clear hA
  have mixed : Try.prog.follows .mixedOrders = true := by kernel_rfl
  have MX := Lib.hid mixed
  clear mixed
  go_enter Try.func64, Try.ntmps64
  go_wp2
  obtain ⟨W, hW, HS0⟩ : ∃ W, (w.alloc (.cells #[Value.bool false, .int .u32 0, .bool false, .int .u32 0, .bool false, .int .u32 0] 35)).alloc (.cells #[Value.bool false, .int .u32 0, .bool false, .int .u32 0, .bool false, .int .u32 0] 35) = W ∧ Hid (Gor w.heap.size w W l 0 lz [] none 0 0) := ⟨_, rfl, HA.out _ rfl⟩
  rw [hW]
  clear hW HA
  go_loopg [6, 7] n0 (fun gk v i wr => ∃ (k : Nat) (x : Ipc) (odd : List Opt) (A : Option Addr) (n c : Nat), k ≤ n0 ∧ gk = n0 - k ∧ i = .int .i64 k ∧ v = .slice A n c ∧ Hid (Gor w.heap.size w wr l k x odd A n c))
  case atStart => exact ⟨0, lz, [], none, 0, 0, Nat.zero_le _, rfl, rfl, rfl, HS0⟩
  case round =>
    obtain ⟨k, x, odd, A, n, c, hk, hgk, rfl, rfl, HS⟩ := hrel
    clear HS0
    by_cases hlt : k < n0
    · obtain ⟨ad, ⟨t, d⟩, rfl, hB, ho, hS1, hc0, hc1⟩ := (Hl.out.below (HS.out.2.2.2.2.2.2.mono hBw)).at_ hlt
      have hst := st_take HS.out.2.2.2.2.2.1 ho
      have hnk := HS.out.2.2.2.2.1
      cases hgd : good (t, d)
      · have C2 : Hid (∀ W, Calls Try.prog 72 #[.agg #[.int .u8 t.toNat, .string d]] W fun e w' => e = .returned (.bool false) ∧ Below W.heap.size W w') := fun W => by
          have := rgood_any t d W
          rw [hgd] at this
          exact this
        have HST := Lib.hid (hst.1 hgd)
        clear hst hgd
        go_wp2_with fail
        refine (C2.out _).mono ?_
        rintro e w2 ⟨rfl, hb2⟩
        have HS2 := Lib.hid (HS.out.callee hb2)
        have e0 := ((HS.out.2.2.2.2.2.2.trans (hb2.mono HS.out.2.2.2.2.2.2.size)))
        have f0 : w2.cell? (ad.add (k * 2)) = some (.int .u8 t.toNat) := (hb2.cell (World.block_lt_of_cell? _ _ hc0)).trans hc0
        have f1 : w2.cell? ⟨(ad.add (k * 2)).block, (ad.add (k * 2)).off + 1, none⟩ = some (.string d) := (hb2.cell (World.block_lt_of_cell? _ _ hc1)).trans hc1
        have HO3 := Lib.hid HS2.out.2.2.1
        have HSz := HS2.out.2.2.2.2.2.2.size
        have HSA := Lib.hid (HS2.out.callee ((Below.refl _ w2).alloc (Nat.le_refl _) (.cells #[.int .u8 t.toNat, .string d] 48)))
        clear hb2 C2 HS hc0 hc1 ho e0
        go_wp2_with (at_builtin; refine wpList_append_own _ rfl _ _ 29 rfl w.heap.size 48 i0 _ 2 24 Try.underlying29 hi hz0 hz1 hz2 rfl (by decide) _ _ _ rfl (HO3.out.alloc _) ⟨w2.heap.size, 0, none⟩ 1 1 (optsV [(t, d)]) rfl rfl (by rw [optsV_one]; exact cells_new _ _ _) (optsV_ones _) (by unfold maxLen; omega) (by omega) (by simp; omega) ?_; intro v1 w4 hown1 hgr1 _; have Hown1 := Lib.hid hown1; have Hgr1 := Lib.hid hgr1; clear hown1 hgr1; obtain ⟨g1, cap1, rfl⟩ := ownsRow_succ Hown1.out)
        have HS4 : Hid (Gor w.heap.size w w4 l (k + 1) x (odd ++ [(t, d)]) (some ⟨g1, 0, none⟩) (n + 1) cap1) := HSA.out.grown (Nat.le_refl _) HST.out Hgr1.out (by rw [optsV_append]; exact Hown1.out) rfl
        go_roundg (n0 - (k + 1))
        case measure => omega
        case rel => exact ⟨k + 1, x, odd ++ [(t, d)], _, n + 1, _, by omega, rfl, by go_num, rfl, HS4⟩
      · have C2 : Hid (∀ W, Calls Try.prog 72 #[.agg #[.int .u8 t.toNat, .string d]] W fun e w' => e = .returned (.bool true) ∧ Below W.heap.size W w') := fun W => by
          have := rgood_any t d W
          rw [hgd] at this
          exact this
        have HGD := Lib.hid hgd
        have HT : Hid (known t = true) := good_known hgd
        have HO := Lib.hid ho
        have hst2 := Lib.hid (hst.2.1 hgd)
        have hst3 := Lib.hid (hst.2.2 hgd)
        clear hst hgd ho
        go_wp2_with fail
        refine (C2.out _).mono ?_
        rintro e w2 ⟨rfl, hb2⟩
        have HS2 := Lib.hid (HS.out.callee hb2)
        clear hb2 C2 HS hc0 hc1
        go_wp2
        go_loopg [8] k (fun g2 vj wr2 => ∃ q : Nat, q ≤ k ∧ g2 = k - q ∧ vj = .int .i64 q ∧ Hid (NoneOf l t q) ∧ Hid (Gor w.heap.size w wr2 l k x odd A n c))
        case atStart => exact ⟨0, Nat.zero_le _, rfl, rfl, (fun q h => absurd h (Nat.not_lt_zero _)), HS2⟩
        case round =>
          obtain ⟨q, hq, hg2, rfl, HN, HS3⟩ := hrel
          clear HS2
          obtain ⟨ad2, p2, e2, hB2, ho2, _, hk0, hk1⟩ := (Hl.out.below (HS3.out.2.2.2.2.2.2.mono hBw)).at_ hlt
          cases e2
          obtain rfl : p2 = (t, d) := by have h2 := HO.out; rw [ho2] at h2; exact Option.some.inj h2
          clear ho2 hB2
          simp only at hk0 hk1
          by_cases hqk : q < k
          · obtain ⟨ad3, ⟨tq, dq⟩, e3, hB3, ho3, _, hq0, hq1⟩ := (Hl.out.below (HS3.out.2.2.2.2.2.2.mono hBw)).at_ (show q < n0 by omega)
            cases e3
            have HO3 := Lib.hid ho3
            have hq0' : ∀ n os, (grow (wr.drewN n) os).cell? (ad.add (q * 2)) = some (.int .u8 tq.toNat) := fun n os => cell_grown (World.block_lt_of_cell? _ _ hq0) hq0 n os
            have hq1' : ∀ n os, (grow (wr.drewN n) os).cell? ⟨(ad.add (q * 2)).block, (ad.add (q * 2)).off + 1, none⟩ = some (.string dq) := fun n os => cell_grown (World.block_lt_of_cell? _ _ hq1) hq1 n os
            have hk0' : ∀ n os, (grow (wr.drewN n) os).cell? (ad.add (k * 2)) = some (.int .u8 t.toNat) := fun n os => cell_grown (World.block_lt_of_cell? _ _ hk0) hk0 n os
            have hqn : q < n0 := by omega
            have mixed := MX.out
            clear ho3 hB3 hq0 hq1 hk0 hk1
            cases hgq : good (tq, dq)
            · have HN2 := Lib.hid (none_next HN.out HO3.out (fun e => by rw [hgq] at e; cases e))
              have C3 : ∀ W, Calls Try.prog 72 #[.agg #[.int .u8 tq.toNat, .string dq]] W fun e w' => e = .returned (.bool false) ∧ ∃ q os', w' = grow (W.drewN q) os' := fun W => by
                have := rgood_g tq dq W
                rw [hgq] at this
                exact this
              clear hgq
              have HC3 := Lib.hid C3
              clear C3
              go_wp2
              refine wp_region_quiet_grown (by assumption) (by kernel_rfl) ?_
              iterate 5 (quiet_step (first | (go_at_call 72; refine Calls.grown_of (HC3.out _))))
              repeat (first | go_big_quiet_skip | (go_big_quiet_want; go_big_quiet_op; go_big_quiet_on))
              refine wpQuiet_nil ?_
              intro _ hw'
              obtain ⟨⟨nq, osq⟩, hw''⟩ := hw'
              subst hw''
              have HS4 := Lib.hid (HS3.out.callee (below_gr wr nq osq))
              clear hq0' hq1' hk0' mixed
              go_wp2
              go_roundg (k - (q + 1))
              case measure => omega
              case rel => exact ⟨q + 1, by omega, rfl, by go_num, HN2, HS4⟩
            · have C3 : ∀ W, Calls Try.prog 72 #[.agg #[.int .u8 tq.toNat, .string dq]] W fun e w' => e = .returned (.bool true) ∧ ∃ q os', w' = grow (W.drewN q) os' := fun W => by
                have := rgood_g tq dq W
                rw [hgq] at this
                exact this
              have HGQ := Lib.hid hgq
              clear hgq
              have HC3 := Lib.hid C3
              clear C3
              by_cases htq : tq = t
              · have hx : ((tq.toNat : Int) == (t.toNat : Int)) = true := by rw [htq]; simp
                have HST := Lib.hid (get_none (hst3.out (by have := has_yes HS3.out.2.2.2.2.2.1 hqk HO3.out HGQ.out; rw [← htq]; exact this)))
                clear htq
                go_wp2
                go_quiet_grown (first | (go_at_call 72; refine Calls.grown_of (HC3.out _)))
                have HS4 := Lib.hid (HS3.out.callee (below_gr wr nq osq))
                clear hq0' hq1' hk0' mixed
                have z0 : (grow (wr.drewN nq) osq).cell? ⟨w.heap.size, 0, none⟩ = some (Value.bool false) := HS4.out.1.c 0
                have z1 : (grow (wr.drewN nq) osq).cell? ⟨w.heap.size, 1, none⟩ = some (.int .u32 0) := HS4.out.1.c 1
                have z2 : (grow (wr.drewN nq) osq).cell? ⟨w.heap.size, 2, none⟩ = some (.bool false) := HS4.out.1.c 2
                have z3 : (grow (wr.drewN nq) osq).cell? ⟨w.heap.size, 3, none⟩ = some (.int .u32 0) := HS4.out.1.c 3
                have z4 : (grow (wr.drewN nq) osq).cell? ⟨w.heap.size, 4, none⟩ = some (.bool false) := HS4.out.1.c 4
                have z5 : (grow (wr.drewN nq) osq).cell? ⟨w.heap.size, 5, none⟩ = some (.int .u32 0) := HS4.out.1.c 5
                have f0 : (grow (wr.drewN nq) osq).frozen? ⟨w.heap.size, 0, none⟩ = false := HS4.out.1.f 0
                have f1 : (grow (wr.drewN nq) osq).frozen? ⟨w.heap.size, 1, none⟩ = false := HS4.out.1.f 1
                have f2 : (grow (wr.drewN nq) osq).frozen? ⟨w.heap.size, 2, none⟩ = false := HS4.out.1.f 2
                have f3 : (grow (wr.drewN nq) osq).frozen? ⟨w.heap.size, 3, none⟩ = false := HS4.out.1.f 3
                have f4 : (grow (wr.drewN nq) osq).frozen? ⟨w.heap.size, 4, none⟩ = false := HS4.out.1.f 4
                have f5 : (grow (wr.drewN nq) osq).frozen? ⟨w.heap.size, 5, none⟩ = false := HS4.out.1.f 5
                go_wp2
                have HR := setL_blk (y := lz) HS4.out.1
                have HBe := setL_below HS4.out.2.2.2.2.2.2 HS4.out.2.2.2.2.2.2.size (g := w.heap.size) (Nat.le_refl _) (lv lz)
                (try simp only [Exit.inBlock, Exit.then])
                refine bodyPost_ret (results_row2 rfl _ _ w.heap.size (lv lz) _ _ rfl HR Try.underlying35 rfl (by kernel_rfl)) rfl ?_
                unfold GetQ
                rw [HST.out.1, HST.out.2.1, HST.out.2.2]
                exact ⟨none, 0, rfl, opts_nil _ _, HBe⟩
              · have hx : ((tq.toNat : Int) == (t.toNat : Int)) = false := Go.Proofs.Ythoangihndplkaa.Opt.no_byte htq
                have HN2 := Lib.hid (none_next HN.out HO3.out (fun _ => htq))
                clear htq
                go_wp2
                go_quiet_grown (first | (go_at_call 72; refine Calls.grown_of (HC3.out _)))
                have HS4 := Lib.hid (HS3.out.callee (below_gr wr nq osq))
                clear hq0' hq1' hk0' mixed
                go_wp2
                go_roundg (k - (q + 1))
                case measure => omega
                case rel => exact ⟨q + 1, by omega, rfl, by go_num, HN2, HS4⟩
          · obtain rfl : q = k := by omega
            have HST := Lib.hid (hst2.out (has_not HS3.out.2.2.2.2.2.1 HT.out HN.out))
            have hsz := good_size HGD.out
            have CV : Hid (∀ W, Calls Try.prog 74 #[.string d] W fun e w' => e = .returned (.int .u32 (UInt32.ofNat (val d.toList)).toNat) ∧ Below W.heap.size W w') := fun W => (rvalue_any d W hsz).mono fun e w' ⟨he, q, hw⟩ => ⟨by rw [he, u32_val hsz], by rw [hw]; exact (Below.refl _ _).drewN' q⟩
            have HSY : Hid (say x (t, d) = set t x (UInt32.ofNat (val d.toList))) := rfl
            rw [HSY.out] at HST
            clear HSY hsz
            generalize UInt32.ofNat (val d.toList) = v at *
            have hqn : q < n0 := hlt
            clear HN HO hst2 hst3
            go_wp2_with fail
            refine (CV.out _).mono ?_
            rintro e w4 ⟨rfl, hb4⟩
            have HS4 := Lib.hid (HS3.out.callee hb4)
            have j0 : w4.cell? (ad.add (q * 2)) = some (.int .u8 t.toNat) := (hb4.cell (World.block_lt_of_cell? _ _ hk0)).trans hk0
            have j1 : w4.cell? ⟨(ad.add (q * 2)).block, (ad.add (q * 2)).off + 1, none⟩ = some (.string d) := (hb4.cell (World.block_lt_of_cell? _ _ hk1)).trans hk1
            clear hb4 CV hk0 hk1 HS3
            have x0 : w4.cell? ⟨w.heap.size + 1, 0, none⟩ = some (Value.bool x.ha) := HS4.out.2.1.c 0
            have x1 : w4.cell? ⟨w.heap.size + 1, 1, none⟩ = some (.int .u32 x.addr.toNat) := HS4.out.2.1.c 1
            have x2 : w4.cell? ⟨w.heap.size + 1, 2, none⟩ = some (.bool x.h1) := HS4.out.2.1.c 2
            have x3 : w4.cell? ⟨w.heap.size + 1, 3, none⟩ = some (.int .u32 x.dns1.toNat) := HS4.out.2.1.c 3
            have x4 : w4.cell? ⟨w.heap.size + 1, 4, none⟩ = some (.bool x.h2) := HS4.out.2.1.c 4
            have x5 : w4.cell? ⟨w.heap.size + 1, 5, none⟩ = some (.int .u32 x.dns2.toNat) := HS4.out.2.1.c 5
            have f0 : w4.frozen? ⟨w.heap.size + 1, 0, none⟩ = false := HS4.out.2.1.f 0
            have f1 : w4.frozen? ⟨w.heap.size + 1, 1, none⟩ = false := HS4.out.2.1.f 1
            have f2 : w4.frozen? ⟨w.heap.size + 1, 2, none⟩ = false := HS4.out.2.1.f 2
            have f3 : w4.frozen? ⟨w.heap.size + 1, 3, none⟩ = false := HS4.out.2.1.f 3
            have f4 : w4.frozen? ⟨w.heap.size + 1, 4, none⟩ = false := HS4.out.2.1.f 4
            have f5 : w4.frozen? ⟨w.heap.size + 1, 5, none⟩ = false := HS4.out.2.1.f 5
            rcases known_cases HT.out with rfl | rfl | rfl
            · have HS5 := Lib.hid (HS4.out.put (Nat.le_refl _) HST.out 0 (.bool true) (.int .u32 v.toNat) rfl)
              go_wp2
              go_roundg (n0 - (q + 1))
              case measure => omega
              case rel => exact ⟨q + 1, _, odd, A, n, c, by omega, rfl, by go_num, rfl, HS5⟩
            · have HS5 := Lib.hid (HS4.out.put (Nat.le_refl _) HST.out 2 (.bool true) (.int .u32 v.toNat) rfl)
              go_wp2
              go_roundg (n0 - (q + 1))
              case measure => omega
              case rel => exact ⟨q + 1, _, odd, A, n, c, by omega, rfl, by go_num, rfl, HS5⟩
            · have HS5 := Lib.hid (HS4.out.put (Nat.le_refl _) HST.out 4 (.bool true) (.int .u32 v.toNat) rfl)
              go_wp2
              go_roundg (n0 - (q + 1))
              case measure => omega
              case rel => exact ⟨q + 1, _, odd, A, n, c, by omega, rfl, by go_num, rfl, HS5⟩
    · obtain rfl : k = n0 := by omega
      have HST : Hid (st l = some (x, odd)) := by
        have h := HS.out.2.2.2.2.2.1
        rw [List.take_of_length_le (by rw [Hn.out]; exact Nat.le_refl _)] at h
        exact h
      have HGS := Lib.hid (get_some HST.out)
      have x0 : wr.cell? ⟨w.heap.size + 1, 0, none⟩ = some (Value.bool x.ha) := HS.out.2.1.c 0
      have x1 : wr.cell? ⟨w.heap.size + 1, 1, none⟩ = some (.int .u32 x.addr.toNat) := HS.out.2.1.c 1
      have x2 : wr.cell? ⟨w.heap.size + 1, 2, none⟩ = some (.bool x.h1) := HS.out.2.1.c 2
      have x3 : wr.cell? ⟨w.heap.size + 1, 3, none⟩ = some (.int .u32 x.dns1.toNat) := HS.out.2.1.c 3
      have x4 : wr.cell? ⟨w.heap.size + 1, 4, none⟩ = some (.bool x.h2) := HS.out.2.1.c 4
      have x5 : wr.cell? ⟨w.heap.size + 1, 5, none⟩ = some (.int .u32 x.dns2.toNat) := HS.out.2.1.c 5
      have z0 : wr.cell? ⟨w.heap.size, 0, none⟩ = some (Value.bool false) := HS.out.1.c 0
      have z1 : wr.cell? ⟨w.heap.size, 1, none⟩ = some (.int .u32 0) := HS.out.1.c 1
      have z2 : wr.cell? ⟨w.heap.size, 2, none⟩ = some (.bool false) := HS.out.1.c 2
      have z3 : wr.cell? ⟨w.heap.size, 3, none⟩ = some (.int .u32 0) := HS.out.1.c 3
      have z4 : wr.cell? ⟨w.heap.size, 4, none⟩ = some (.bool false) := HS.out.1.c 4
      have z5 : wr.cell? ⟨w.heap.size, 5, none⟩ = some (.int .u32 0) := HS.out.1.c 5
      have f0 : wr.frozen? ⟨w.heap.size, 0, none⟩ = false := HS.out.1.f 0
      have f1 : wr.frozen? ⟨w.heap.size, 1, none⟩ = false := HS.out.1.f 1
      have f2 : wr.frozen? ⟨w.heap.size, 2, none⟩ = false := HS.out.1.f 2
      have f3 : wr.frozen? ⟨w.heap.size, 3, none⟩ = false := HS.out.1.f 3
      have f4 : wr.frozen? ⟨w.heap.size, 4, none⟩ = false := HS.out.1.f 4
      have f5 : wr.frozen? ⟨w.heap.size, 5, none⟩ = false := HS.out.1.f 5
      go_wp2
      have HR := setL_blk (y := x) HS.out.1
      have HM := setL_moves wr w.heap.size (lv x)
      have HBe := setL_below HS.out.2.2.2.2.2.2 HS.out.2.2.2.2.2.2.size (g := w.heap.size) (Nat.le_refl _) (lv x)
      (try simp only [Exit.inBlock, Exit.then])
      refine bodyPost_ret (results_row2 rfl _ _ w.heap.size (lv x) _ _ rfl HR Try.underlying35 rfl (by kernel_rfl)) rfl ?_
      unfold GetQ
      rw [HGS.out.1, HGS.out.2.1, HGS.out.2.2]
      refine ⟨A, c, by rw [← HS.out.2.2.2.1]; rfl, ?_, HBe⟩
      have hr := HM.row HS.out.2.2.1 (fun k hk e => cells_not_row HS.out.1 (by decide) HS.out.2.2.1 (by rw [hk, e]))
      rw [← HS.out.2.2.2.1]
      exact row_opts hr (fun o ho => Hl.out.2.1 o (odds_mem HST.out o ho))
end Go.Proofs.Ythoangihndplkaa.Ipc

/- The contracts row by row. -/
namespace Go.Proofs.Ythoangihndplkaa.Ipc
open Go.RowKit Go.Proofs.Ythoangihndplkaa.Oct Go.Proofs.Ythoangihndplkaa.Row Go.Proofs.Ythoangihndplkaa.Mem Go.Proofs.Ythoangihndplkaa.Opt

theorem rget_row (l : List Opt) (A : Option Addr) (n c : Nat) (w : World) (hl : Opts w w.heap.size A n l) (hn : n ≤ 1001) : Calls Try.prog 64 #[.slice A n c] w (GetQ l w) := rget_any l _ A n c w hl hn (Nat.le_refl _)
theorem same_rows (a b : List Opt) (A A' : Option Addr) (n m c c' : Nat) (w : World) (ha : Opts w w.heap.size A n a) (hb : Opts w w.heap.size A' m b) (hn : n ≤ maxLen) (hm : m ≤ maxLen) :
    Calls Try.prog 21 #[.slice A n c, .slice A' m c'] w fun e w' => e = .returned (.bool (sm a b)) ∧ Below w.heap.size w w' := rsame_any a b _ A A' n m c c' w ha hb hn hm (Nat.le_refl _)
theorem same_self (a : List Opt) (A A' : Option Addr) (n m c c' : Nat) (w : World) (ha : Opts w w.heap.size A n a) (hb : Opts w w.heap.size A' m a) (hn : n ≤ maxLen) (hm : m ≤ maxLen) :
    Calls Try.prog 21 #[.slice A n c, .slice A' m c'] w fun e w' => e = .returned (.bool true) ∧ Below w.heap.size w w' := by
  have h := same_rows a a A A' n m c c' w ha hb hn hm
  rw [sm_self] at h
  exact h
end Go.Proofs.Ythoangihndplkaa.Ipc
