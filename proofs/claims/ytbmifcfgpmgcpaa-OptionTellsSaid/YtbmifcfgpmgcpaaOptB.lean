/- Contracts of the document's Find and Without. -/
import Derived.Test.YtbmifcfgpmgcpaaOptA
import Derived.OwnWalk
import Derived.Maps.AppendAt
namespace Go.Proofs.Ytbmifcfgpmgcpaa.Opt
open Go.RowKit Go.Proofs.Ytbmifcfgpmgcpaa.Oct Go.Proofs.Ytbmifcfgpmgcpaa.Row Go.Proofs.Ytbmifcfgpmgcpaa.Mem

theorem Try.info32 : (Try.prog.info? 32).map (fun i => (i.zero, i.size, i.bytes)) = some (some (.agg #[.int .u8 0, .string ByteArray.empty]), 2, 24) := by kernel_rfl

/-- An option lies in block g. -/
def At (W : World) (g : Nat) (o : Opt) : Prop := Blk W g [.int .u8 o.1.toNat, .string o.2] 32
theorem At.callee {W W' : World} {g : Nat} {o : Opt} (h : At W g o) (hb : Below W.heap.size W W') : At W' g o := Blk.callee h hb
theorem At.below {W W' : World} {g n : Nat} {o : Opt} (h : At W g o) (hb : Below n W W') (hg : g < n) : At W' g o := Blk.below h hb hg
theorem At.alloc {W : World} {g : Nat} {o : Opt} (h : At W g o) (x : Obj) : At (W.alloc x) g o := Blk.alloc h x
theorem at_new (w : World) (t : UInt8) (d : ByteArray) : At (w.alloc (.cells #[.int .u8 t.toNat, .string d] 32)) w.heap.size (t, d) := blk_new w [.int .u8 t.toNat, .string d] _
theorem At.c0 {W : World} {g : Nat} {o : Opt} (h : At W g o) : W.cell? ⟨g, 0, none⟩ = some (.int .u8 o.1.toNat) := Blk.at_ h 0
theorem At.c1 {W : World} {g : Nat} {o : Opt} (h : At W g o) : W.cell? ⟨g, 1, none⟩ = some (.string o.2) := Blk.at_ h 1
theorem At.set {W : World} {g : Nat} {o : Opt} (h : At W g o) (o' : Opt) : At ((W.setCell ⟨g, 0, none⟩ (.int .u8 o'.1.toNat)).setCell ⟨g, 1, none⟩ (.string o'.2)) g o' := (Blk.set h 0 (.int .u8 o'.1.toNat)).set 1 (.string o'.2)
/-- A named result that is a struct in a block of its own, and one more. -/
theorem results_row1 {P : Program} {fn : Func} {p t : Tmp} {ty : TypeId} (h : fn.results = #[.cell p ty, .tmp t]) (tmps : Array Value) (w : World) (g : Nat) (cs : List Value) (tb : TypeId) (d : TypeDesc)
    (hp : tmps.getD p undef = .pointer (some ⟨g, 0, none⟩)) (hg : Blk w g cs tb) (hu : P.underlying ty = some d) (hd : (match d with | .struct _ | .array _ _ => true | _ => false) = true) (hi : (P.info? ty).map (·.size) = some cs.toArray.size) :
    (results fn tmps).run P w = .ok (.tuple #[.agg cs.toArray, tmps.getD t undef]) w := by
  have hp' : tmps[p]?.getD undef = .pointer (some ⟨g, 0, none⟩) := by simpa using hp
  simp only [List.size_toArray] at hi
  simp [results, h, hp', asAddr, run_loadVar_row w g tb ty cs.toArray (0, 0) d hg hu hd (by simpa using hi)]

theorem fd_take {t : UInt8} {l : List Opt} {k : Nat} {o : Opt} (h : l[k]? = some o) (hn : fd t (l.take k) = none) : (o.1 = t → fd t l = some o) ∧ (¬ o.1 = t → fd t (l.take (k + 1)) = none) := by
  obtain ⟨hk, rfl⟩ := List.getElem?_eq_some_iff.1 h
  unfold fd at *
  refine ⟨fun e => ?_, fun e => ?_⟩
  · have hd : l = l.take k ++ (l[k] :: l.drop (k + 1)) := by rw [← List.drop_eq_getElem_cons hk, List.take_append_drop]
    conv => lhs; rw [hd]
    rw [List.find?_append, hn, List.find?_cons_of_pos (by simpa using e)]
    rfl
  · rw [List.take_succ_eq_append_getElem hk, List.find?_append, hn, List.find?_cons_of_neg (by simpa using e)]
    rfl
theorem fAB_some {t : UInt8} {l : List Opt} {o : Opt} (h : fd t l = some o) : fA t l = o ∧ fB t l = true := by unfold fA fB; rw [h]; exact ⟨rfl, rfl⟩
theorem fAB_none {t : UInt8} {l : List Opt} (h : fd t l = none) : fA t l = (0, ByteArray.empty) ∧ fB t l = false := by unfold fA fB; rw [h]; exact ⟨rfl, rfl⟩

set_option maxHeartbeats 1000000 in
set_option maxRecDepth 100000 in
theorem rfind_any (t : UInt8) (l : List Opt) (B : Nat) (A : Option Addr) (n c : Nat) (w : World) (hl : Opts w B A n l) (hn : n ≤ maxLen) (hBw : B ≤ w.heap.size) :
    Calls Try.prog 14 #[.int .u8 t.toNat, .slice A n c] w fun e w' => e = .returned (.tuple #[.agg #[.int .u8 (fA t l).1.toNat, .string (fA t l).2], .bool (fB t l)]) ∧ Below w.heap.size w w' := by
  have Hn := Lib.hid hl.1
  have Hl := Lib.hid hl; clear hl
  unfold maxLen at hn
  obtain ⟨W, hW, HW⟩ : ∃ W, w.alloc (.cells #[.int .u8 0, .string ⟨#[]⟩] 32) = W ∧ Hid (At W w.heap.size (0, ⟨#[]⟩) ∧ Below w.heap.size w W) := ⟨_, rfl, at_new w 0 ⟨#[]⟩, (Below.refl w.heap.size w).alloc (Nat.le_refl _) _⟩
  have f0 := Blk.frozen HW.out.1 0
  have f1 := Blk.frozen HW.out.1 1
  have c0 : W.cell? ⟨w.heap.size, 0, none⟩ = some (.int .u8 0) := HW.out.1.c0
  have c1 : W.cell? ⟨w.heap.size, 1, none⟩ = some (.string ⟨#[]⟩) := HW.out.1.c1
  have HL := Lib.hid (Hl.out.below (HW.out.2.mono hBw))
  go_enter Try.func14, Try.ntmps14
  go_wp2
  clear hW
  generalize hg : w.heap.size = g at *
  have HG := Lib.hid hg
  clear hg
  go_loop [6] (fun i => ∃ k : Nat, k ≤ n ∧ i = .int .i64 k ∧ Hid (fd t (l.take k) = none)) (fun i => n - (intOf i).toNat)
  case atStart => exact ⟨0, Nat.zero_le _, rfl, rfl⟩
  case round =>
    obtain ⟨k, hk, rfl, HT⟩ := hrel
    by_cases hlt : k < n
    · obtain ⟨ad, o, rfl, hB, ho, hS1, hc0, hc1⟩ := HL.out.at_ hlt
      have hst := fd_take (t := t) ho HT.out
      by_cases e1 : o.1 = t
      · have HF := Lib.hid (fAB_some (hst.1 e1))
        have hx : ((o.1.toNat : Int) == (t.toNat : Int)) = true := by rw [e1]; simp
        clear hst ho e1
        go_wp2
        have HR := HW.out.1.set o
        have HBe := (HW.out.2.setCell (p := ⟨g, 0, none⟩) (Nat.le_refl _) (.int .u8 o.1.toNat)).setCell (p := ⟨g, 1, none⟩) (Nat.le_refl _) (.string o.2)
        (try simp only [Exit.inBlock, Exit.then])
        refine bodyPost_ret (results_row1 rfl _ _ g _ _ _ rfl HR Try.underlying32 rfl (by kernel_rfl)) rfl ?_
        rw [HF.out.1, HF.out.2]
        exact ⟨rfl, by rw [HG.out]; exact HBe⟩
      · have HT2 := Lib.hid (hst.2 e1)
        have hx := no_byte e1
        clear hst ho e1
        go_wp2
        go_round
        case rel => exact ⟨k + 1, by omega, by go_num, HT2⟩
        case measure => simp [intOf]; omega
    · obtain rfl : k = n := by omega
      have HF : Hid (fA t l = (0, ByteArray.empty) ∧ fB t l = false) := by
        have h := HT.out
        rw [List.take_of_length_le (by rw [Hn.out]; exact Nat.le_refl _)] at h
        exact fAB_none h
      go_wp2
      have HR := HW.out.1.set (0, ⟨#[]⟩)
      have HBe := (HW.out.2.setCell (p := ⟨g, 0, none⟩) (Nat.le_refl _) (.int .u8 0)).setCell (p := ⟨g, 1, none⟩) (Nat.le_refl _) (.string ⟨#[]⟩)
      (try simp only [Exit.inBlock, Exit.then])
      refine bodyPost_ret (results_row1 rfl _ _ g _ _ _ rfl HR Try.underlying32 rfl (by kernel_rfl)) rfl ?_
      rw [HF.out.1, HF.out.2]
      exact ⟨rfl, by rw [HG.out]; exact HBe⟩

/-- A row of options of the call's own. -/
def RowQ (l : List Opt) (w : World) (e : Ending) (w' : World) : Prop := ∃ A c, e = .returned (.slice A l.length c) ∧ Opts w' w'.heap.size A l.length l ∧ Below w.heap.size w w'
theorem wo_mem {t : UInt8} {l : List Opt} {o : Opt} (h : o ∈ wo t l) : o ∈ l := (List.mem_filter.1 h).1
theorem wo_step {t : UInt8} {l : List Opt} {k : Nat} {o : Opt} (h : l[k]? = some o) : (o.1 = t → wo t (l.take (k + 1)) = wo t (l.take k)) ∧ (¬ o.1 = t → wo t (l.take (k + 1)) = wo t (l.take k) ++ [o]) := by
  obtain ⟨hk, rfl⟩ := List.getElem?_eq_some_iff.1 h
  rw [wo_snoc t l k hk]
  refine ⟨fun e => ?_, fun e => ?_⟩
  · rw [if_pos (by simpa using e), List.append_nil]
  · rw [if_neg (by simpa using e)]
theorem row_end {t : UInt8} {l : List Opt} {n : Nat} {w wr : World} {e : TypeId} {v : Value} (hn : l.length = n) (hz : ∀ o ∈ l, o.2.size ≤ 140737488351232) (h : wr.ownsRow w.heap.size e 2 v (wo t (l.take n)).length (optsV (wo t (l.take n)))) (hb : Below w.heap.size w wr) : RowQ (wo t l) w (.returned v) wr := by
  rw [List.take_of_length_le (by rw [hn]; exact Nat.le_refl _)] at h
  obtain ⟨A, c, rfl, hO⟩ := opts_own h (fun o ho => hz o (wo_mem ho))
  exact ⟨A, c, rfl, hO, hb⟩
theorem wo_len (t : UInt8) (l : List Opt) (k : Nat) : (wo t (l.take k)).length ≤ k := Nat.le_trans (wo_le _ _) (List.length_take_le _ _)
set_option maxHeartbeats 1000000 in
set_option maxRecDepth 100000 in
theorem rwithout_any (t : UInt8) (l : List Opt) (B : Nat) (A : Option Addr) (n c : Nat) (w : World) (hl : Opts w B A n l) (hn : n ≤ 1000) (hBw : B ≤ w.heap.size) :
    Calls Try.prog 17 #[.int .u8 t.toNat, .slice A n c] w (RowQ (wo t l) w) := by
  obtain ⟨i0, hi, hz0, hz1, hz2⟩ := info_parts Try.info32
  have Hn := Lib.hid hl.1
  have Hl := Lib.hid hl; clear hl
  go_enter Try.func17, Try.ntmps17
  go_wp2
  go_loopw [5, 6] (fun v i wr => ∃ (k m : Nat), k ≤ n ∧ i = .int .i64 k ∧ m ≤ k ∧ Hid (m = (wo t (l.take k)).length ∧ wr.ownsRow w.heap.size 32 2 v m (optsV (wo t (l.take k)))) ∧ Below w.heap.size w wr)
    (fun _ i _ => n - (intOf i).toNat)
  case atStart => exact ⟨0, 0, Nat.zero_le _, rfl, Nat.le_refl _, ⟨rfl, World.ownsRow_nil _ _ _ _⟩, Below.refl _ _⟩
  case round =>
    obtain ⟨k, m, hk, rfl, hm, Hown, hb⟩ := hrel
    by_cases hlt : k < n
    · obtain ⟨ad, o, rfl, hB, ho, hS1, hc0, hc1⟩ := (Hl.out.below (hb.mono hBw)).at_ hlt
      have hst := wo_step (t := t) ho
      have hsize := hb.size
      by_cases e1 : o.1 = t
      · have HT2 := Lib.hid (hst.1 e1)
        have hx : ((o.1.toNat : Int) == (t.toNat : Int)) = true := by rw [e1]; simp
        clear hst ho e1
        go_wp2
        go_roundw
        case rel => exact ⟨k + 1, m, by omega, by go_num, by omega, by rw [HT2.out]; exact Hown, hb⟩
        case measure => simp [intOf]; omega
      · have HT2 := Lib.hid (hst.2 e1)
        have hx := no_byte e1
        clear hst ho e1
        go_wp2_with (at_builtin; refine wpList_append_own _ rfl _ _ 22 rfl w.heap.size 32 i0 _ 2 24 Try.underlying22 hi hz0 hz1 hz2 rfl (by decide) _ _ _ rfl (Hown.out.2.alloc _) ⟨wr.heap.size, 0, none⟩ 1 1 (optsV [o]) rfl rfl (by rw [optsV_one]; exact cells_new _ _ _) (optsV_ones _) (by unfold maxLen; omega) (by omega) (by simp; omega) ?_; intro v1 w1 hown1 hgr1 _; have Hown1 := Lib.hid hown1; clear hown1; have hb1 := (hb.alloc hsize (.cells #[.int .u8 o.1.toNat, .string o.2] 32)).grown hgr1 (by simp; omega) (fun q hq => (Hown.out.2.lt q hq).1))
        go_roundw
        case rel => exact ⟨k + 1, m + 1, by omega, by go_num, by omega, by rw [HT2.out, List.length_append, optsV_append]; exact ⟨by rw [Hown.out.1]; rfl, Hown1.out⟩, hb1⟩
        case measure => simp [intOf]; omega
    · obtain rfl : k = n := by omega
      have HE := Lib.hid (row_end Hn.out Hl.out.2.1 (by have h := Hown.out.2; rw [Hown.out.1] at h; exact h) hb)
      go_wp2
      go_ret
      exact HE.out
end Go.Proofs.Ytbmifcfgpmgcpaa.Opt
