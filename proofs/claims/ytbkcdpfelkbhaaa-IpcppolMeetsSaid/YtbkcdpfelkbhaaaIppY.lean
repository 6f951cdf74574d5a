/- Contract of mended. -/
import Derived.Test.YtbkcdpfelkbhaaaIppJ
import Derived.Test.YtbkcdpfelkbhaaaIppT
import Derived.Test.YtbkcdpfelkbhaaaOptRf
import Derived.Test.YtbkcdpfelkbhaaaIppK
namespace Go.Proofs.Ytbkcdpfelkbhaaa.Ipp
open Go.RowKit Go.Joins Go.Deep Go.Proofs.Ytbkcdpfelkbhaaa.Oct Go.Proofs.Ytbkcdpfelkbhaaa.Row Go.Proofs.Ytbkcdpfelkbhaaa.Mem Go.Proofs.Ytbkcdpfelkbhaaa.Opt Go.Proofs.Ytbkcdpfelkbhaaa.Ipc

theorem mend_snoc (C : Nat) (x l : List Opt) (k : Nat) (o : Opt) (h : l[k]? = some o) : mend C x (l.take (k + 1)) = mend C x (l.take k) ++ mend C x [o] := by
  obtain ⟨hk, rfl⟩ := List.getElem?_eq_some_iff.1 h
  unfold mend
  rw [List.take_succ_eq_append_getElem hk, List.filterMap_append]
theorem mend_len (C : Nat) (x l : List Opt) (k : Nat) : (mend C x (l.take k)).length ≤ k := Nat.le_trans (List.length_filterMap_le _ _) (List.length_take_le _ _)
theorem fA_mem {t : UInt8} {x : List Opt} (h : Opt.fB t x = true) : fA t x ∈ x := by
  unfold Opt.fB at h
  unfold fA
  cases hf : fd t x with
  | none => rw [hf] at h; cases h
  | some o => exact List.mem_of_find?_eq_some (p := fun o : Opt => o.1 == t) hf
theorem mend_mem {C : Nat} {x l : List Opt} {o : Opt} (h : o ∈ mend C x l) : o ∈ l ∨ o ∈ x := by
  obtain ⟨y, hy, e⟩ := List.mem_filterMap.1 h
  split at e
  · split at e
    · cases e
    · cases e; exact .inl hy
  · split at e
    · rename_i hb; cases e; exact .inr (fA_mem hb)
    · cases e; exact .inl hy
theorem mendA_mem {C : Nat} {x l : List Opt} {o : Opt} (h : o ∈ mendA C x l) : o ∈ l ∨ o ∈ x := by
  rcases List.mem_append.1 h with h | h
  · exact mend_mem h
  · split at h
    · exact .inr (List.mem_filter.1 h).1
    · cases h
/-- What lacks, so far. -/
def lack (l x : List Opt) : List Opt := x.filter fun o => !Opt.fB o.1 l
theorem lack_snoc (l x : List Opt) (k : Nat) (o : Opt) (h : x[k]? = some o) : lack l (x.take (k + 1)) = lack l (x.take k) ++ lack l [o] := by
  obtain ⟨hk, rfl⟩ := List.getElem?_eq_some_iff.1 h
  unfold lack
  rw [List.take_succ_eq_append_getElem hk, List.filter_append]
theorem mend_end {C : Nat} {x l : List Opt} {w wr : World} {v : Value} (hz : ∀ o ∈ l, o.2.size ≤ 140737488351232) (hx : ∀ o ∈ x, o.2.size ≤ 140737488351232) (h : wr.ownsRow w.heap.size 48 2 v (mendA C x l).length (optsV (mendA C x l))) (hb : Below w.heap.size w wr) : CpQ (mendA C x l) (mendA C x l).length w (.returned v) wr := by
  obtain ⟨A, c, rfl, hO⟩ := opts_own h (fun o ho => (mendA_mem ho).elim (hz o) (hx o))
  refine ⟨A, c, rfl, hO, fun e => ?_, hb⟩
  subst e
  rcases h.2 with ⟨h2, _⟩ | ⟨g, cap, cur, h2, _⟩
  · exact (Value.slice.inj h2).2.2
  · exact absurd (Value.slice.inj h2).1 (by simp)
/-- Kept over a call and an alloc. -/
def Md (w wr : World) (v : Value) (m : Nat) (a : List Opt) : Prop := m = a.length ∧ wr.ownsRow w.heap.size 48 2 v m (optsV a) ∧ Below w.heap.size w wr
theorem Md.callee {w wr w' : World} {v : Value} {m : Nat} {a : List Opt} (h : Md w wr v m a) (hb : Below wr.heap.size wr w') : Md w w' v m a := ⟨h.1, own_callee h.2.1 hb, h.2.2.trans (hb.mono h.2.2.size)⟩
theorem Md.alloc {w wr : World} {v : Value} {m : Nat} {a : List Opt} (h : Md w wr v m a) (o : Obj) : Md w (wr.alloc o) v m a := h.callee ((Below.refl _ _).alloc (Nat.le_refl _) o)
theorem Md.grown {w wr w' : World} {v v' : Value} {m : Nat} {a b : List Opt} {o : Opt} {x : Obj} (h : Md w wr v m a) (hg : (wr.alloc x).grownBy w' v.ownBlock) (hr : w'.ownsRow w.heap.size 48 2 v' (m + 1) (optsV a ++ optsV [o])) (e : b = a ++ [o]) : Md w w' v' (m + 1) b := by
  have ha := h.alloc x
  subst e
  refine ⟨by rw [List.length_append, ← h.1]; rfl, by rw [optsV_append]; exact hr, ha.2.2.grown hg ha.2.2.size (fun q hq => (ha.2.1.lt q hq).1)⟩
set_option maxHeartbeats 8000000 in
set_option maxRecDepth 100000 in
theorem mended4 (l x : List Opt) (A A2 : Option Addr) (n n2 c c2 : Nat) (w : World) (hl : Opts w w.heap.size A n l) (hx : Opts w w.heap.size A2 n2 x) (hn : n ≤ 1000) (hn2 : n2 ≤ maxLen) :
    Calls Try.prog 28 #[.slice A n c, .int .u8 4, .slice A2 n2 c2] w (CpQ (mendA 4 x l) (mendA 4 x l).length w) := by
  obtain ⟨i0, hi, hz0, hz1, hz2⟩ := info_parts Try.info48
  have Hn := Lib.hid hl.1
  have HL := Lib.hid hl
  have HX := Lib.hid hx
  clear hl hx
  go_enter Try.func28, Try.ntmps28
  go_wp2
  go_loopw [7, 8] (fun v i wr => ∃ (k m : Nat), k ≤ n ∧ i = .int .i64 k ∧ m ≤ k ∧ Hid (Md w wr v m (mend 4 x (l.take k)))) (fun _ i _ => n - (intOf i).toNat)
  case atStart => exact ⟨0, 0, Nat.zero_le _, rfl, Nat.le_refl _, rfl, World.ownsRow_nil _ _ _ _, Below.refl _ _⟩
  case round =>
    obtain ⟨k, m, hk, rfl, hm, HM⟩ := hrel
    by_cases hlt : k < n
    · obtain ⟨ad, o, hA, hB, ho, hS1, hc0, hc1⟩ := (HL.out.below HM.out.2.2).at_ hlt
      subst hA
      have Hst := Lib.hid (mend_snoc 4 x l k o ho)
      have HC := Lib.hid (rfind_any o.1 x _ A2 n2 c2 wr (HX.out.below HM.out.2.2) hn2 HM.out.2.2.size)
      go_wp2_with fail
      refine HC.out.mono ?_
      rintro e w1 ⟨rfl, hb1⟩
      have HMc := Lib.hid (HM.out.callee hb1)
      obtain ⟨ad', o', e1, _, ho', _, d0, d1⟩ := (HL.out.below HMc.out.2.2).at_ hlt
      cases e1
      obtain rfl : o = o' := by rw [ho] at ho'; exact Option.some.inj ho'
      clear HC hb1 hc0 hc1 ho ho' HM
      obtain ⟨X, hX, HXX⟩ := boxO w1 (fA o.1 x)
      have HM1 := Lib.hid (HMc.out.callee HXX.out.2.1)
      have d0 : X.cell? (ad.add (k * 2)) = some (.int .u8 o.1.toNat) := (HXX.out.2.1.cell (World.block_lt_of_cell? _ _ d0)).trans d0
      have d1 : X.cell? ⟨(ad.add (k * 2)).block, (ad.add (k * 2)).off + 1, none⟩ = some (.string o.2) := (HXX.out.2.1.cell (World.block_lt_of_cell? _ _ d1)).trans d1
      cases hf : Opt.fB o.1 x
      · have HT : Hid (mend 4 x (l.take (k + 1)) = mend 4 x (l.take k) ++ [o]) := by show _ = _; rw [Hst.out]; unfold mend; simp [hf]
        clear hf
        go_wp2_with (at_builtin; refine wpList_append_own _ rfl _ _ 29 rfl w.heap.size 48 i0 _ 2 24 Try.underlying29 hi hz0 hz1 hz2 rfl (by decide) _ _ _ rfl (HM1.out.alloc _).2.1 ⟨X.heap.size, 0, none⟩ 1 1 (optsV [o]) rfl rfl (by rw [optsV_one]; exact cells_new X _ _) (optsV_ones _) (by unfold maxLen; omega) (by omega) (HM1.out.alloc _).2.2.size ?_; intro v1 w9 hown1 hgr1 _; have Hown1 := Lib.hid hown1; have Hgr1 := Lib.hid hgr1; clear hown1 hgr1)
        go_roundw
        case rel => exact ⟨k + 1, m + 1, by omega, by go_num, by omega, HM1.out.grown Hgr1.out Hown1.out HT.out⟩
        case measure => simp [intOf]; omega
      · have HT : Hid (mend 4 x (l.take (k + 1)) = mend 4 x (l.take k)) := by show _ = _; rw [Hst.out]; unfold mend; simp [hf]
        clear hf
        go_wp2
        go_roundw
        case rel => exact ⟨k + 1, m, by omega, by go_num, by omega, by rw [HT.out]; exact HM1.out⟩
        case measure => simp [intOf]; omega
    · obtain rfl : k = n := by omega
      have HM1 : Hid (Md w wr u7 m (mendA 4 x l)) := by
        have h := HM.out
        rw [List.take_of_length_le (by rw [Hn.out]; exact Nat.le_refl _)] at h
        rw [mendA4]
        exact h
      clear HM
      go_wp2_with fail
      go_loopw [7, 11] (fun v i wr2 => v = u7 ∧ i = .int .i64 0 ∧ wr = wr2) (fun _ _ _ => 0)
      case atStart => exact ⟨rfl, rfl, rfl⟩
      case round =>
        obtain ⟨rfl, rfl, rfl⟩ := hrel
        have HE := Lib.hid (mend_end HL.out.2.1 HX.out.2.1 (by have h := HM1.out.2.1; rw [HM1.out.1] at h; exact h) HM1.out.2.2)
        by_cases h0 : 0 < n2
        · have h1 : (0 : Int) < (n2 : Int) := by omega
          have h2 := decide_eq_true h1
          go_wp2
          go_ret
          exact HE.out
        · have h1 : ¬ (0 : Int) < (n2 : Int) := by omega
          have h2 := decide_eq_false h1
          go_wp2
          go_ret
          exact HE.out
set_option maxHeartbeats 8000000 in
set_option maxRecDepth 100000 in
theorem mended3 (l x : List Opt) (A A2 : Option Addr) (n n2 c c2 : Nat) (w : World) (hl : Opts w w.heap.size A n l) (hx : Opts w w.heap.size A2 n2 x) (hn : n ≤ 1000) (hn2 : n2 ≤ 2000) :
    Calls Try.prog 28 #[.slice A n c, .int .u8 3, .slice A2 n2 c2] w (CpQ (mendA 3 x l) (mendA 3 x l).length w) := by
  obtain ⟨i0, hi, hz0, hz1, hz2⟩ := info_parts Try.info48
  have Hn := Lib.hid hl.1
  have HL := Lib.hid hl
  have HX := Lib.hid hx
  clear hl hx
  go_enter Try.func28, Try.ntmps28
  go_wp2
  go_loopw [7, 8] (fun v i wr => ∃ (k m : Nat), k ≤ n ∧ i = .int .i64 k ∧ m ≤ k ∧ Hid (Md w wr v m (mend 3 x (l.take k)))) (fun _ i _ => n - (intOf i).toNat)
  case atStart => exact ⟨0, 0, Nat.zero_le _, rfl, Nat.le_refl _, rfl, World.ownsRow_nil _ _ _ _, Below.refl _ _⟩
  case round =>
    obtain ⟨k, m, hk, rfl, hm, HM⟩ := hrel
    by_cases hlt : k < n
    · obtain ⟨ad, o, hA, hB, ho, hS1, hc0, hc1⟩ := (HL.out.below HM.out.2.2).at_ hlt
      subst hA
      have Hst := Lib.hid (mend_snoc 3 x l k o ho)
      have HC := Lib.hid (rfind_any o.1 x _ A2 n2 c2 wr (HX.out.below HM.out.2.2) (by unfold maxLen; omega) HM.out.2.2.size)
      go_wp2_with fail
      refine HC.out.mono ?_
      rintro e w1 ⟨rfl, hb1⟩
      have HMc := Lib.hid (HM.out.callee hb1)
      obtain ⟨ad', o', e1, _, ho', _, d0, d1⟩ := (HL.out.below HMc.out.2.2).at_ hlt
      cases e1
      obtain rfl : o = o' := by rw [ho] at ho'; exact Option.some.inj ho'
      clear HC hb1 hc0 hc1 ho ho' HM
      obtain ⟨X, hX, HXX⟩ := boxO w1 (fA o.1 x)
      have HM1 := Lib.hid (HMc.out.callee HXX.out.2.1)
      have d0 : X.cell? (ad.add (k * 2)) = some (.int .u8 o.1.toNat) := (HXX.out.2.1.cell (World.block_lt_of_cell? _ _ d0)).trans d0
      have d1 : X.cell? ⟨(ad.add (k * 2)).block, (ad.add (k * 2)).off + 1, none⟩ = some (.string o.2) := (HXX.out.2.1.cell (World.block_lt_of_cell? _ _ d1)).trans d1
      cases hf : Opt.fB o.1 x
      · have HT : Hid (mend 3 x (l.take (k + 1)) = mend 3 x (l.take k) ++ [o]) := by show _ = _; rw [Hst.out]; unfold mend; simp [hf]
        clear hf
        go_wp2_with (at_builtin; refine wpList_append_own _ rfl _ _ 29 rfl w.heap.size 48 i0 _ 2 24 Try.underlying29 hi hz0 hz1 hz2 rfl (by decide) _ _ _ rfl (HM1.out.alloc _).2.1 ⟨X.heap.size, 0, none⟩ 1 1 (optsV [o]) rfl rfl (by rw [optsV_one]; exact cells_new X _ _) (optsV_ones _) (by unfold maxLen; omega) (by omega) (HM1.out.alloc _).2.2.size ?_; intro v1 w9 hown1 hgr1 _; have Hown1 := Lib.hid hown1; have Hgr1 := Lib.hid hgr1; clear hown1 hgr1)
        go_roundw
        case rel => exact ⟨k + 1, m + 1, by omega, by go_num, by omega, HM1.out.grown Hgr1.out Hown1.out HT.out⟩
        case measure => simp [intOf]; omega
      · have HT : Hid (mend 3 x (l.take (k + 1)) = mend 3 x (l.take k) ++ [fA o.1 x]) := by show _ = _; rw [Hst.out]; unfold mend; simp [hf]
        have q0 := HXX.out.1.c0
        have q1 := HXX.out.1.c1
        clear hf
        generalize fA o.1 x = o2 at *
        go_wp2_with (at_builtin; refine wpList_append_own _ rfl _ _ 29 rfl w.heap.size 48 i0 _ 2 24 Try.underlying29 hi hz0 hz1 hz2 rfl (by decide) _ _ _ rfl (HM1.out.alloc _).2.1 ⟨X.heap.size, 0, none⟩ 1 1 (optsV [o2]) rfl rfl (by rw [optsV_one]; exact cells_new X _ _) (optsV_ones _) (by unfold maxLen; omega) (by omega) (HM1.out.alloc _).2.2.size ?_; intro v1 w9 hown1 hgr1 _; have Hown1 := Lib.hid hown1; have Hgr1 := Lib.hid hgr1; clear hown1 hgr1)
        go_roundw
        case rel => exact ⟨k + 1, m + 1, by omega, by go_num, by omega, HM1.out.grown Hgr1.out Hown1.out HT.out⟩
        case measure => simp [intOf]; omega
    · obtain rfl : k = n := by omega
      have HM1 : Hid (Md w wr u7 m (mend 3 x l ++ lack l (x.take 0))) := by
        have h := HM.out
        rw [List.take_of_length_le (by rw [Hn.out]; exact Nat.le_refl _)] at h
        show Md _ _ _ _ (mend 3 x l ++ lack l [])
        rw [show lack l [] = [] from rfl, List.append_nil]
        exact h
      have HN2 := Lib.hid HX.out.1
      clear HM
      go_wp2_with fail
      go_loopw [7, 11] (fun v i wr2 => ∃ (q m2 : Nat), q ≤ n2 ∧ i = .int .i64 q ∧ m2 ≤ k + q ∧ Hid (Md w wr2 v m2 (mend 3 x l ++ lack l (x.take q)))) (fun _ i _ => n2 - (intOf i).toNat)
      case atStart => exact ⟨0, m, Nat.zero_le _, rfl, by omega, HM1⟩
      case round =>
        obtain ⟨q, m2, hq, rfl, hm2, HM⟩ := hrel
        clear HM1
        by_cases hlt2 : q < n2
        · have h1 : (q : Int) < (n2 : Int) := by omega
          have h2 := decide_eq_true h1
          obtain ⟨ad, o, hA, hB, ho, hS1, hc0, hc1⟩ := (HX.out.below HM.out.2.2).at_ hlt2
          subst hA
          have Hst := Lib.hid (lack_snoc l x q o ho)
          have HC := Lib.hid (rfind_any o.1 l _ A k c wr (HL.out.below HM.out.2.2) (by unfold maxLen; omega) HM.out.2.2.size)
          go_wp2_with fail
          refine HC.out.mono ?_
          rintro e w1 ⟨rfl, hb1⟩
          have HMc := Lib.hid (HM.out.callee hb1)
          obtain ⟨ad', o', e1, _, ho', _, d0, d1⟩ := (HX.out.below HMc.out.2.2).at_ hlt2
          cases e1
          obtain rfl : o = o' := by rw [ho] at ho'; exact Option.some.inj ho'
          clear HC hb1 hc0 hc1 ho ho' HM
          obtain ⟨X, hX, HXX⟩ := boxO w1 (fA o.1 l)
          have HM1 := Lib.hid (HMc.out.callee HXX.out.2.1)
          have d0 : X.cell? (ad.add (q * 2)) = some (.int .u8 o.1.toNat) := (HXX.out.2.1.cell (World.block_lt_of_cell? _ _ d0)).trans d0
          have d1 : X.cell? ⟨(ad.add (q * 2)).block, (ad.add (q * 2)).off + 1, none⟩ = some (.string o.2) := (HXX.out.2.1.cell (World.block_lt_of_cell? _ _ d1)).trans d1
          cases hf : Opt.fB o.1 l
          · have HT : Hid (mend 3 x l ++ lack l (x.take (q + 1)) = (mend 3 x l ++ lack l (x.take q)) ++ [o]) := by show _ = _; rw [Hst.out, List.append_assoc]; unfold lack; simp [hf]
            clear hf
            go_wp2_with (at_builtin; refine wpList_append_own _ rfl _ _ 29 rfl w.heap.size 48 i0 _ 2 24 Try.underlying29 hi hz0 hz1 hz2 rfl (by decide) _ _ _ rfl (HM1.out.alloc _).2.1 ⟨X.heap.size, 0, none⟩ 1 1 (optsV [o]) rfl rfl (by rw [optsV_one]; exact cells_new X _ _) (optsV_ones _) (by unfold maxLen; omega) (by omega) (HM1.out.alloc _).2.2.size ?_; intro v1 w9 hown1 hgr1 _; have Hown1 := Lib.hid hown1; have Hgr1 := Lib.hid hgr1; clear hown1 hgr1)
            go_roundw
            case rel => exact ⟨q + 1, m2 + 1, by omega, by go_num, by omega, HM1.out.grown Hgr1.out Hown1.out HT.out⟩
            case measure => simp [intOf]; omega
          · have HT : Hid (mend 3 x l ++ lack l (x.take (q + 1)) = mend 3 x l ++ lack l (x.take q)) := by show _ = _; rw [Hst.out]; unfold lack; simp [hf]
            clear hf
            go_wp2
            go_roundw
            case rel => exact ⟨q + 1, m2, by omega, by go_num, by omega, by rw [HT.out]; exact HM1.out⟩
            case measure => simp [intOf]; omega
        · obtain rfl : q = n2 := by omega
          have HE : Hid (CpQ (mendA 3 x l) (mendA 3 x l).length w (.returned u7) wr) := by
            have h := HM.out
            rw [List.take_of_length_le (by rw [HN2.out]; exact Nat.le_refl _)] at h
            exact mend_end HL.out.2.1 HX.out.2.1 (by have h2 := h.2.1; rw [h.1] at h2; exact h2) h.2.2
          go_wp2
          go_ret
          exact HE.out
end Go.Proofs.Ytbkcdpfelkbhaaa.Ipp
