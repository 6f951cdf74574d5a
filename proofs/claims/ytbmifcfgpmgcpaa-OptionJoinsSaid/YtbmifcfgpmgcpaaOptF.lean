/- Contract of the document's Get. -/
import Derived.Test.YtbmifcfgpmgcpaaOptB
import Derived.StillTailTactics
import Derived.Deep.RegionHeld3
namespace Go.Proofs.Ytbmifcfgpmgcpaa.Opt
open Go.RowKit Go.Proofs.Ytbmifcfgpmgcpaa.Oct Go.Proofs.Ytbmifcfgpmgcpaa.Row Go.Proofs.Ytbmifcfgpmgcpaa.Mem

/-- What Get answers: the row, the place, the fault. -/
def GetQ (s : List UInt8) (w : World) (e : Ending) (w' : World) : Prop :=
  ∃ A c, e = .returned (.tuple #[.slice A (gL s).length c, .int .i64 (gN s), .int .i64 (gE s)]) ∧ Opts w' w'.heap.size A (gL s).length (gL s) ∧ Below w.heap.size w w'
theorem getQ_no {s : List UInt8} {w w' : World} {a e : Nat} (h : got s = ([], a, e)) (hb : Below w.heap.size w w') : GetQ s w (.returned (.tuple #[.slice none 0 0, .int .i64 a, .int .i64 e])) w' := by
  have h1 : gL s = [] := by unfold gL; rw [h]
  have h2 : gN s = a := by unfold gN; rw [h]
  have h3 : gE s = e := by unfold gE; rw [h]
  refine ⟨none, 0, by rw [h1, h2, h3]; rfl, ?_, hb⟩
  rw [h1]
  exact opts_nil _ _
theorem getQ_yes {s : List UInt8} {w w' : World} {L : List Opt} {N m base : Nat} {v : Value} {e : TypeId} (h : got s = (L, N, 0)) (hm : m = L.length) (hr : w'.ownsRow base e 2 v m (optsV L)) (hb : Below w.heap.size w w') : GetQ s w (.returned (.tuple #[v, .int .i64 N, .int .i64 0])) w' := by
  subst hm
  have h1 : gL s = L := by unfold gL; rw [h]
  have h2 : gN s = N := by unfold gN; rw [h]
  have h3 : gE s = 0 := by unfold gE; rw [h]
  have hz := gL_size s
  rw [h1] at hz
  obtain ⟨A, c, rfl, hO⟩ := opts_own hr (fun o ho => Nat.le_trans (hz o ho) (by decide))
  refine ⟨A, c, by rw [h1, h2, h3]; rfl, by rw [h1]; exact hO, hb⟩

/-- What stands at place k of a text. -/
theorem drop_ne {s : ByteArray} {k : Nat} (h : k < s.size) : s.toList.drop k ≠ [] := by
  intro e
  have := congrArg List.length e
  rw [List.length_drop, ← size_toList] at this
  simp at this
  omega
theorem getD_drop (l : List UInt8) (k i : Nat) (h : k + i < l.length) : (l.drop k).getD i 0 = l[k + i] := by
  rw [List.getD_eq_getElem?_getD, List.getElem?_drop, List.getElem?_eq_getElem h]; rfl
theorem rd_at (s : ByteArray) (k : Nat) (h : k < s.size) :
    (k + 1 = s.size ∧ (rd (s.toList.drop k)).2 = 6) ∨
    (∃ h1 : k + 1 < s.size, s[k + 1].toNat < 2 ∧ (rd (s.toList.drop k)).2 = 7) ∨
    (∃ h1 : k + 1 < s.size, 2 ≤ s[k + 1].toNat ∧ s.size < k + s[k + 1].toNat ∧ (rd (s.toList.drop k)).2 = 6) ∨
    (∃ h1 : k + 1 < s.size, 2 ≤ s[k + 1].toNat ∧ k + s[k + 1].toNat ≤ s.size ∧ rd (s.toList.drop k) = ((s[k], s.extract (k + 2) (k + s[k + 1].toNat)), 0) ∧ 2 + (s.extract (k + 2) (k + s[k + 1].toNat)).size = s[k + 1].toNat) := by
  have hl : (s.toList.drop k).length = s.size - k := by rw [List.length_drop, ← size_toList]
  rcases rd_cases (s.toList.drop k) with ⟨e1, e⟩ | ⟨e1, e2, e⟩ | ⟨e1, e2, e3, e⟩ | ⟨e1, e2, e3, e, hz⟩
  · left; exact ⟨by omega, by rw [e]⟩
  all_goals
    have h1 : k + 1 < s.size := by omega
    have hx : (s.toList.drop k).getD 1 0 = s[k + 1] := by rw [getD_drop _ _ _ (by rw [← size_toList]; exact h1), ← getElem_toList]
    rw [hx] at e2
  · right; left; exact ⟨h1, e2, by rw [e]⟩
  · right; right; left; rw [hx] at e3; exact ⟨h1, e2, by omega, by rw [e]⟩
  · right; right; right
    rw [hx] at e3 e
    have h0 : (s.toList.drop k).getD 0 0 = s[k] := by rw [getD_drop _ _ _ (by rw [← size_toList]; exact h), ← getElem_toList]; rfl
    have hd : bOf (((s.toList.drop k).drop 2).take (s[k + 1].toNat - 2)) = s.extract (k + 2) (k + s[k + 1].toNat) := by
      rw [extract_bOf, List.drop_drop, show k + s[k + 1].toNat - (k + 2) = s[k + 1].toNat - 2 by omega]
    rw [h0, hd] at e
    refine ⟨h1, e2, by omega, e, ?_⟩
    rw [e, hx] at hz
    exact hz
theorem fi_full {N : Nat} {L : List Opt} {s : ByteArray} {k : Nat} (h : k < s.size) (hL : L.length = 64) : fi N L (seq (s.toList.drop k) k) = ([], k, 4) := by
  by_cases hb : (rd (s.toList.drop k)).2 = 0
  · rw [seq_good (drop_ne h) hb, fi, if_pos hL]
  · rw [seq_bad (drop_ne h) hb, fi, if_pos hL]
theorem fi_bad {N : Nat} {L : List Opt} {s : ByteArray} {k e : Nat} (h : k < s.size) (hL : ¬ L.length = 64) (hr : (rd (s.toList.drop k)).2 = e) (he : e ≠ 0) : fi N L (seq (s.toList.drop k) k) = ([], k, e) := by
  subst hr
  rw [seq_bad (drop_ne h) he, fi, if_neg hL, if_pos he]
theorem fi_ok {N : Nat} {L : List Opt} {s : ByteArray} {k n : Nat} {o : Opt} (h : k < s.size) (hL : ¬ L.length = 64) (hr : rd (s.toList.drop k) = (o, 0)) (hn : 2 + o.2.size = n) : fi N L (seq (s.toList.drop k) k) = fi N (L ++ [o]) (seq (s.toList.drop (k + n)) (k + n)) := by
  subst hn
  rw [seq_good (drop_ne h) (by rw [hr]), fi, if_neg hL, if_neg (by simp), hr, List.drop_drop]

set_option maxHeartbeats 4000000 in
set_option maxRecDepth 100000 in
theorem rget_any (s : ByteArray) (w : World) (hs : s.size ≤ 1048576) :
    Calls Try.prog 12 #[.string s] w (GetQ s.toList w) := by
  obtain ⟨i0, hi, hz0, hz1, hz2⟩ := info_parts Try.info32
  have HB0 := Lib.hid (Below.refl w.heap.size w)
  by_cases h1496 : 1496 < s.size
  · have HG : Hid (got s.toList = ([], 0, 5)) := by show _ = _; unfold got; rw [if_pos (by rw [← size_toList]; exact h1496)]
    have hx : (1496 : Int) < (s.size : Int) := by omega
    go_enter Try.func12, Try.ntmps12
    go_wp2
    go_ret3
    exact getQ_no HG.out HB0.out
  · have HG : Hid (got s.toList = fi s.toList.length [] (seq s.toList 0)) := by show _ = _; unfold got; rw [if_neg (by rw [← size_toList]; exact h1496)]
    have hx : ¬ (1496 : Int) < (s.size : Int) := by omega
    go_enter Try.func12, Try.ntmps12
    go_wp2
    go_loopw [5, 6] (fun v i wr => ∃ (k m : Nat) (A : Option Addr) (c : Nat), v = .slice A m c ∧ k ≤ s.size ∧ i = .int .i64 k ∧ m ≤ 64 ∧ Hid (∃ L, m = L.length ∧ got s.toList = fi s.toList.length L (seq (s.toList.drop k) k) ∧ wr.ownsRow w.heap.size 32 2 (.slice A m c) m (optsV L)) ∧ Below w.heap.size w wr)
      (fun _ i _ => s.size - (intOf i).toNat)
    case atStart => exact ⟨0, 0, none, 0, rfl, Nat.zero_le _, rfl, Nat.zero_le _, ⟨[], rfl, HG.out, World.ownsRow_nil _ _ _ _⟩, Below.refl _ _⟩
    case round =>
      obtain ⟨k, m, A, c, rfl, hk, rfl, hm, HL, hb⟩ := hrel
      have hsz0 := hb.size
      obtain ⟨L, hmL, hgot, hown⟩ := HL.out
      clear HL
      have HmL := Lib.hid hmL
      have Hgot := Lib.hid hgot
      have Hown := Lib.hid hown
      clear hgot hown hmL
      by_cases hlt : k < s.size
      · by_cases h64 : m = 64
        · have HF := Lib.hid (Hgot.out.trans (fi_full hlt (HmL.out.symm.trans h64)))
          have hx2 : ((m : Int) == 64) = true := by rw [h64]; rfl
          clear h64
          go_wp2
          go_ret3
          exact getQ_no HF.out hb
        · have hx2 : ((m : Int) == 64) = false := by rw [beq_eq_false_iff_ne]; omega
          have hL : ¬ L.length = 64 := by rw [← HmL.out]; exact h64
          rcases rd_at s k hlt with ⟨h1, hr⟩ | ⟨h1, h2, hr⟩ | ⟨h1, h2, h3, hr⟩ | ⟨h1, h2, h3, hr, hz⟩
          · have HF := Lib.hid (Hgot.out.trans (fi_bad hlt hL hr (by decide)))
            have hx3 : ((k : Int) + 1 == (s.size : Int)) = true := by rw [beq_iff_eq]; omega
            clear hr hL h1
            go_wp2
            go_ret3
            exact getQ_no HF.out hb
          · have HF := Lib.hid (Hgot.out.trans (fi_bad hlt hL hr (by decide)))
            have hx3 : ((k : Int) + 1 == (s.size : Int)) = false := by rw [beq_eq_false_iff_ne]; omega
            have hb0 := s[k + 1].toNat_lt
            obtain ⟨x, hxe⟩ : ∃ x : Nat, s[k + 1].toNat = x := ⟨_, rfl⟩
            rw [hxe] at h2 hb0
            have hx0 : (0 : Int) ≤ x := by omega
            have hx1 : (x : Int) ≤ 255 := by omega
            have hx4 : (x : Int) < 2 := by omega
            clear hr hL
            go_wp2
            go_ret3
            exact getQ_no HF.out hb
          · have HF := Lib.hid (Hgot.out.trans (fi_bad hlt hL hr (by decide)))
            have hx3 : ((k : Int) + 1 == (s.size : Int)) = false := by rw [beq_eq_false_iff_ne]; omega
            have hb0 := s[k + 1].toNat_lt
            obtain ⟨x, hxe⟩ : ∃ x : Nat, s[k + 1].toNat = x := ⟨_, rfl⟩
            rw [hxe] at h2 h3 hb0
            have hx0 : (0 : Int) ≤ x := by omega
            have hx1 : (x : Int) ≤ 255 := by omega
            have hx4 : ¬ (x : Int) < 2 := by omega
            have hx5 : (s.size : Int) < (k : Int) + (x : Int) := by omega
            clear hr hL
            go_wp2
            go_ret3
            exact getQ_no HF.out hb
          · have HF := Lib.hid (Hgot.out.trans (fi_ok hlt hL hr hz))
            have hx3 : ((k : Int) + 1 == (s.size : Int)) = false := by rw [beq_eq_false_iff_ne]; omega
            have hb0 := s[k + 1].toNat_lt
            obtain ⟨x, hxe⟩ : ∃ x : Nat, s[k + 1].toNat = x := ⟨_, rfl⟩
            rw [hxe] at h2 h3 hb0 HF hz
            have hx0 : (0 : Int) ≤ x := by omega
            have hx1 : (x : Int) ≤ 255 := by omega
            have hx4 : ¬ (x : Int) < 2 := by omega
            have hx5 : ¬ (s.size : Int) < (k : Int) + (x : Int) := by omega
            have e1 : IntKind.i64.wrap ((k : Int) + 2) = (k : Int) + 2 := by simp only [IntKind.wrap_i64]; omega
            have e2 : IntKind.i64.wrap ((k : Int) + (x : Int)) = (k : Int) + (x : Int) := by simp only [IntKind.wrap_i64]; omega
            have hk0 : (k : Int) < (s.size : Int) := by omega
            have hk1 : (0 : Int) ≤ (k : Int) + 2 := by omega
            have hk2 : (0 : Int) ≤ (k : Int) + (x : Int) := by omega
            have hk3 : (k : Int) + 2 ≤ (k : Int) + (x : Int) := by omega
            have hk4 : (k : Int) + (x : Int) ≤ (s.size : Int) := by omega
            have hk5 : (0 : Int) ≤ (k : Int) := by omega
            have hk6 : ((k : Int) + 2).toNat = k + 2 := by omega
            have hk7 : ((k : Int) + (x : Int)).toNat = k + x := by omega
            obtain ⟨y, hy⟩ : ∃ y : UInt8, s[k] = y := ⟨_, rfl⟩
            obtain ⟨D, hD⟩ : ∃ D, s.extract (k + 2) (k + x) = D := ⟨_, rfl⟩
            rw [hy, hD] at HF
            rw [hD] at hz
            have Hz := Lib.hid hz
            clear hr hL hz
            go_wp2
            go_region_held3 (fun _ => True) (trivial)
              (first
                | (refine step_append_any ((wr.alloc (.cells #[.int .u8 (y.toNat : Int), .string D] 32)).drew) (by rfl) _ _ _ (by rfl) w.heap.size 32 i0 _ 2 24 Try.underlying22 hi hz0 hz1 hz2 rfl (by decide) (.slice A m c) m (optsV L) (by rfl) (Hown.out.alloc _) ⟨wr.heap.size, 0, none⟩ 1 1 (optsV [(y, D)]) (by rfl) (by rfl) (by rw [optsV_one]; exact cells_new _ _ _) (optsV_ones _) (by unfold maxLen; omega) (by omega) (by simp; omega) ?_; intro v1 w1 hown1 hgr1 _)
                | fail)
            have hb1 := ((hb.alloc hb.size (.cells #[.int .u8 (y.toNat : Int), .string D] 32)).drew).grown hgr1 (by show _ ≤ (wr.alloc _).heap.size; simp; omega) (fun q hq => (Hown.out.lt q hq).1)
            have Hown1 := Lib.hid hown1
            clear hown1 hgr1
            obtain ⟨g', cap', rfl⟩ := ownsRow_succ Hown1.out
            clear e1 e2 hk6 hk7
            go_wp2
            go_roundw
            case rel => exact ⟨k + x, m + 1, _, _, rfl, by omega, by go_num, by omega, ⟨L ++ [(y, D)], by rw [List.length_append, HmL.out]; rfl, HF.out, by rw [optsV_append]; exact Hown1.out⟩, hb1⟩
            case measure => simp [intOf]; omega
      · obtain rfl : k = s.size := by omega
        have HF : Hid (got s.toList = (L, s.size, 0)) := by
          show _ = _
          rw [Hgot.out, List.drop_eq_nil_of_le (by rw [← size_toList]; exact Nat.le_refl _), seq_nil, fi, size_toList]
        go_wp2
        go_ret3
        exact getQ_yes HF.out HmL.out Hown.out hb
end Go.Proofs.Ytbmifcfgpmgcpaa.Opt
