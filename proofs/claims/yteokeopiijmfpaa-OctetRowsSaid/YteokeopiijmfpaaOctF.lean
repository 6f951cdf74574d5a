/- Contracts of Split8 of both, of Same and of Long. -/
import Derived.Test.YteokeopiijmfpaaOctE
namespace Go.Proofs.Yteokeopiijmfpaa.Oct
open Go.RowKit

set_option maxHeartbeats 400000 in
theorem next_any (s : ByteArray) (g : Nat) (w : World) (hs : s.size ≤ maxLen) (hc : w.cell? ⟨g, 0, none⟩ = some (.string s)) (hf : w.frozen? ⟨g, 0, none⟩ = false) :
    Calls Try.prog 28 #[.pointer (some ⟨g, 0, none⟩)] w fun e w' => e = .returned (.tuple #[.string (readA s), .int .i64 (readE s)]) ∧ ∃ k, w' = (w.setCell ⟨g, 0, none⟩ (.string (readB s))).drewN k := by
  have Hs := Lib.hid hs; clear hs
  go_enter Try.func28, Try.ntmps28
  go_wp2_with fail
  refine (read8_any s _ Hs.out).mono ?_
  rintro e w1 ⟨rfl, k, rfl⟩
  go_wp2
  go_ret2
  exact ⟨rfl, k, rfl⟩

/-- What Split8 answers. -/
def splitE (s : ByteArray) : Int := match split s.toList with | none => 6 | some _ => 0
def splitL (s : ByteArray) : List ByteArray := match split s.toList with | none => [] | some l => l.map bOf
theorem split_no {s : ByteArray} (h : split s.toList = none) : splitE s = 6 ∧ splitL s = [] := by simp [splitE, splitL, h]
theorem split_yes {s : ByteArray} {l : List (List UInt8)} (h : split s.toList = some l) : splitE s = 0 ∧ splitL s = l.map bOf := by simp [splitE, splitL, h]

/-- The length of a text in a slot. -/
def lenOf (v : Value) : Nat := match v with | .string s => s.size | _ => 0

/-- What has been read, and what is left. -/
def Part (s : ByteArray) (done : List (List UInt8)) (r : List UInt8) : Prop :=
  split s.toList = (split r).map (done ++ ·) ∧ done.length + r.length ≤ s.toList.length
theorem Part.start (s : ByteArray) : Part s [] s.toList := ⟨by cases split s.toList <;> rfl, by simp⟩
theorem Part.step {s : ByteArray} {done : List (List UInt8)} {r t r' : List UInt8} (h : Part s done r) (hr : r8 r = some (t, r')) : Part s (done ++ [t]) r' := by
  have hl := r8_len hr
  refine ⟨?_, by have := h.2; rw [List.length_append, List.length_singleton]; omega⟩
  have hne : r ≠ [] := by rintro rfl; cases hr
  rw [h.1, split_step r hne, hr]
  simp only
  cases split r' with
  | none => rfl
  | some l => simp
theorem Part.bad {s : ByteArray} {done : List (List UInt8)} {r : List UInt8} (h : Part s done r) (hne : r ≠ []) (hr : r8 r = none) : split s.toList = none := by
  rw [h.1, split_step r hne, hr]; rfl
theorem Part.ends {s : ByteArray} {done : List (List UInt8)} (h : Part s done []) : split s.toList = some done := by
  rw [h.1, split_nil]; simp

/-- The texts as cells. -/
def textsV (l : List ByteArray) : List Value := l.map Value.string

theorem texts_snoc (done : List (List UInt8)) (t : List UInt8) : textsV ((done ++ [t]).map bOf) = textsV (done.map bOf) ++ [.string (bOf t)] := by simp [textsV]

def SplitP (w : World) (s : ByteArray) (e : Ending) (w' : World) : Prop :=
  ∃ v, e = .returned (.tuple #[v, .int .i64 (splitE s)]) ∧ w'.ownsRow w.heap.size 9 1 v (splitL s).length (textsV (splitL s)) ∧ Below w.heap.size w w'

theorem empty_no (l : List UInt8) (h : l ≠ []) : ((bOf l).toList.isEmpty = false) := by
  rw [toList_bOf]; cases l with
  | nil => exact absurd rfl h
  | cons c l => rfl

set_option maxHeartbeats 1000000 in
theorem rsplit8_any (s : ByteArray) (w : World) (hs : s.size ≤ 1048576) :
    Calls Try.prog 20 #[.string s] w (SplitP w s) := by
  obtain ⟨i0, hi, hz0, hz1, hz2⟩ := info_parts Try.info9
  have Hs := Lib.hid hs; clear hs
  go_enter Try.func20, Try.ntmps20
  go_wp2
  go_loopw [0, 4] (fun u v wr => ∃ (done : List (List UInt8)) (r : List UInt8), u = .string (bOf r) ∧ Hid (Part s done r ∧ wr.ownsRow w.heap.size 9 1 v done.length (textsV (done.map bOf))) ∧ Below w.heap.size w wr)
    (fun u _ _ => lenOf u)
  case atStart => exact ⟨[], s.toList, by rw [bOf_toList], ⟨Part.start s, World.ownsRow_nil _ _ _ _⟩, Below.refl _ _⟩
  case round =>
    obtain ⟨done, r, rfl, Hown, hb⟩ := hrel
    have hsize := hb.size
    have hlen := Hown.out.1.2
    rw [← size_toList] at hlen
    have hlen2 : (bOf r).size ≤ 1048576 := by rw [size_bOf]; have := Hs.out; omega
    have hlen3 : done.length ≤ 1048576 := by have := Hs.out; omega
    clear hlen
    by_cases hr0 : r = []
    · subst hr0
      have h1 : (bOf []).toList = [] := toList_bOf []
      have h2 : (bOf []).toList.isEmpty = true := by rw [toList_bOf]; rfl
      go_wp2
      go_ret2
      have hy := split_yes Hown.out.1.ends
      unfold SplitP
      rw [hy.1, hy.2, List.length_map]
      exact ⟨_, rfl, Hown.out.2, hb⟩
    · have h1 := empty_no r hr0
      rcases hr : r8 r with _ | ⟨t, r'⟩
      · have Hr := Lib.hid (read_none (bOf r) (by rw [toList_bOf]; exact hr))
        have Hn := Lib.hid (split_no (Hown.out.1.bad hr0 hr)); clear hr
        go_wp2_with fail
        refine (rread8_any (bOf r) _ (by unfold maxLen; omega)).mono ?_
        rw [Hr.out.1, Hr.out.2.1, Hr.out.2.2]
        rintro e w1 ⟨rfl, q, rfl⟩
        go_wp2
        go_ret2
        unfold SplitP
        rw [Hn.out.1, Hn.out.2]
        exact ⟨_, rfl, World.ownsRow_nil _ _ _ _, ⟨hb.os, hb.tape, hb.output, hb.size, hb.block⟩⟩
      · have Hr := Lib.hid (read_some (bOf r) t r' (by rw [toList_bOf]; exact hr))
        have Hp := Lib.hid (Hown.out.1.step hr)
        have Hl := Lib.hid (r8_len hr); clear hr
        go_wp2_with fail
        refine (rread8_any (bOf r) _ (by unfold maxLen; omega)).mono ?_
        rw [Hr.out.1, Hr.out.2.1, Hr.out.2.2]
        rintro e w1 ⟨rfl, q, rfl⟩
        have hown1 : Hid ((wr.drewN q).ownsRow w.heap.size 9 1 u4 done.length (textsV (done.map bOf))) := Hown.out.2
        have hb1 : Below w.heap.size w (wr.drewN q) := ⟨hb.os, hb.tape, hb.output, hb.size, hb.block⟩
        go_wp2_with (first
          | (at_builtin; refine wpList_append_own _ rfl _ _ 40 rfl w.heap.size 9 i0 (.string ByteArray.empty) 1 16 Try.underlying40 hi hz0 hz1 hz2 rfl (by decide) _ _ _ rfl (hown1.out.alloc _) ⟨(wr.drewN q).heap.size, 0, none⟩ 1 1 [.string (bOf t)] rfl rfl (cell_one_new _ _ _) (fun x hx => by simp at hx; subst hx; rfl) (by unfold maxLen; omega) (by omega) (by simp; omega) ?_; intro v2 w2 hown2 hgr2 _; have Hown2 := Lib.hid hown2; clear hown2; have hb2 := (hb1.alloc hsize (.cells #[.string (bOf t)] 9)).grown hgr2 (by simp; omega) (fun q hq => (Hown.out.2.lt q hq).1)))
        go_roundw
        case rel => exact ⟨done ++ [t], r', rfl, ⟨Hp.out, by rw [texts_snoc, List.length_append]; exact Hown2.out⟩, hb2⟩
        case measure => simp only [lenOf, size_bOf]; have := Hl.out.1; omega

/-- The length of the text in the first cell of block g. -/
def restOf (g : Nat) (w : World) : Nat := match w.cell? ⟨g, 0, none⟩ with | some (.string s) => s.size | _ => 0
theorem restOf_eq {g : Nat} {w : World} {s : ByteArray} (h : w.cell? ⟨g, 0, none⟩ = some (.string s)) : restOf g w = s.size := by simp [restOf, h]

theorem own_lower {w : World} {base base' : Nat} {e : TypeId} {size n : Nat} {v : Value} {xs : List Value} (h : w.ownsRow base e size v n xs) (hb : base' ≤ base := by omega) : w.ownsRow base' e size v n xs := by
  refine ⟨h.1, ?_⟩
  rcases h.2 with h2 | ⟨g, cap, cur, hv, hg, r⟩
  · exact .inl h2
  · exact .inr ⟨g, cap, cur, hv, by omega, r⟩

set_option maxHeartbeats 1000000 in
theorem split8_any (s : ByteArray) (w : World) (hs : s.size ≤ 1048576) :
    Calls Try.prog 19 #[.string s] w (SplitP w s) := by
  obtain ⟨i0, hi, hz0, hz1, hz2⟩ := info_parts Try.info9
  have hmf : ∀ (fn : Fn) (first cap : Array Value) (w : World), (Instr.makeFunc fn first cap).run Try.prog w = .ok (.func fn first cap) w := fun _ _ _ _ => rfl
  have Hs := Lib.hid hs; clear hs
  go_enter Try.func19, Try.ntmps19
  go_wp2
  go_loopw [6] (fun v wr => ∃ (done : List (List UInt8)) (r : List UInt8), Hid (Part s done r ∧ wr.ownsRow (w.heap.size + 1) 9 1 v done.length (textsV (done.map bOf))) ∧ wr.cell? ⟨w.heap.size, 0, none⟩ = some (.string (bOf r)) ∧ wr.frozen? ⟨w.heap.size, 0, none⟩ = false ∧ w.heap.size < wr.heap.size ∧ Below w.heap.size w wr)
    (fun _ wr => restOf w.heap.size wr)
  case atStart => exact ⟨[], s.toList, ⟨Part.start s, World.ownsRow_nil _ _ _ _⟩, by rw [World.cell?_alloc_new, bOf_toList]; rfl, World.frozen?_alloc_at _ _ _ _ rfl, by simp, (Below.refl _ _).alloc (Nat.le_refl _) _⟩
  case round =>
    obtain ⟨done, r, Hown, hc, hf, hsz, hb⟩ := hrel
    have hlen := Hown.out.1.2
    rw [← size_toList] at hlen
    have hlen2 : (bOf r).size ≤ 1048576 := by rw [size_bOf]; have := Hs.out; omega
    have hlen3 : done.length ≤ 1048576 := by have := Hs.out; omega
    clear hlen
    have HM := Lib.hid (restOf_eq hc)
    by_cases hr0 : r = []
    · subst hr0
      have h1 : (bOf []).toList = [] := toList_bOf []
      have h2 : (bOf []).toList.isEmpty = true := by rw [toList_bOf]; rfl
      go_wp2
      go_ret2
      have hy := split_yes Hown.out.1.ends
      unfold SplitP
      rw [hy.1, hy.2, List.length_map]
      exact ⟨_, rfl, own_lower Hown.out.2, hb⟩
    · have h1 := empty_no r hr0
      rcases hr : r8 r with _ | ⟨t, r'⟩
      · have Hr := Lib.hid (read_none (bOf r) (by rw [toList_bOf]; exact hr))
        have Hn := Lib.hid (split_no (Hown.out.1.bad hr0 hr)); clear hr
        go_wp2_with fail
        refine (next_any (bOf r) w.heap.size wr (by unfold maxLen; omega) hc hf).mono ?_
        rw [Hr.out.1, Hr.out.2.1, Hr.out.2.2]
        rintro e w1 ⟨rfl, q, rfl⟩
        go_wp2
        go_ret2
        unfold SplitP
        rw [Hn.out.1, Hn.out.2]
        have hb' := hb.setCell (p := ⟨w.heap.size, 0, none⟩) (Nat.le_refl _) (.string (bOf []))
        exact ⟨_, rfl, World.ownsRow_nil _ _ _ _, ⟨hb'.os, hb'.tape, hb'.output, hb'.size, hb'.block⟩⟩
      · have Hr := Lib.hid (read_some (bOf r) t r' (by rw [toList_bOf]; exact hr))
        have Hp := Lib.hid (Hown.out.1.step hr)
        have Hl := Lib.hid (r8_len hr); clear hr
        go_wp2_with fail
        refine (next_any (bOf r) w.heap.size wr (by unfold maxLen; omega) hc hf).mono ?_
        rw [Hr.out.1, Hr.out.2.1, Hr.out.2.2]
        rintro e w1 ⟨rfl, q, hw1⟩
        have hb1 : Below w.heap.size w w1 := by
          have hb' := hb.setCell (p := ⟨w.heap.size, 0, none⟩) (Nat.le_refl _) (.string (bOf r'))
          rw [hw1]
          exact ⟨hb'.os, hb'.tape, hb'.output, hb'.size, hb'.block⟩
        have hown1 : Hid (w1.ownsRow (w.heap.size + 1) 9 1 u6 done.length (textsV (done.map bOf))) := by
          rw [hw1]
          exact ownsRow_setCell_below Hown.out.2 (a := ⟨w.heap.size, 0, none⟩) (Nat.lt_succ_self _) _
        have hsz1 : w.heap.size < w1.heap.size := by rw [hw1]; simpa [World.setCell, World.drewN] using hsz
        have hc1 : w1.cell? ⟨w.heap.size, 0, none⟩ = some (.string (bOf r')) := by
          rw [hw1]
          exact World.cell?_setCell_same _ _ _ hc
        have hf1 : w1.frozen? ⟨w.heap.size, 0, none⟩ = false := by
          rw [hw1]
          exact (World.frozen?_setCell _ _ _ _).trans hf
        clear hw1
        go_wp2_with (first
          | (at_builtin; refine wpList_append_own _ rfl _ _ 40 rfl (w.heap.size + 1) 9 i0 (.string ByteArray.empty) 1 16 Try.underlying40 hi hz0 hz1 hz2 rfl (by decide) _ _ _ rfl (hown1.out.alloc _) ⟨w1.heap.size, 0, none⟩ 1 1 [.string (bOf t)] rfl rfl (cell_one_new _ _ _) (fun x hx => by simp at hx; subst hx; rfl) (by unfold maxLen; omega) (by omega) (by simp; omega) ?_; intro v2 w2 hown2 hgr2 _; have Hown2 := Lib.hid hown2; clear hown2; have hb2 := (Below.refl (w.heap.size + 1) w1 |>.alloc (by omega) (.cells #[.string (bOf t)] 9)).grown hgr2 (by simp; omega) (fun q hq => (hown1.out.lt q hq).1)))
        have hc2 : w2.cell? ⟨w.heap.size, 0, none⟩ = some (.string (bOf r')) := (hb2.cell (Nat.lt_succ_self _)).trans hc1
        go_roundw
        case rel => exact ⟨done ++ [t], r', ⟨Hp.out, by rw [texts_snoc, List.length_append]; exact Hown2.out⟩, hc2, (hb2.frozen (Nat.lt_succ_self _)).trans hf1, Nat.lt_of_lt_of_le hsz1 hb2.size, hb1.trans (hb2.mono (Nat.le_succ _))⟩
        case measure => rw [HM.out, restOf_eq hc2, size_bOf, size_bOf]; have := Hl.out.1; omega
end Go.Proofs.Yteokeopiijmfpaa.Oct
