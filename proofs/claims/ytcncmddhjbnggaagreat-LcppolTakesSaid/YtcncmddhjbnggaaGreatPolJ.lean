/- Contracts of hasOwn, Clone, rejects. -/
import Derived.Test.YtcncmddhjbnggaaGreatPolG
import Derived.Test.YtcncmddhjbnggaaGreatPolV
namespace Go.Proofs.YtcncmddhjbnggaaGreat.Pol
open Go.RowKit Go.Proofs.YtcncmddhjbnggaaGreat.Oct Go.Proofs.YtcncmddhjbnggaaGreat.Row Go.Proofs.YtcncmddhjbnggaaGreat.Mem Go.Proofs.YtcncmddhjbnggaaGreat.Opt Go.Proofs.YtcncmddhjbnggaaGreat.Lco

set_option maxHeartbeats 4000000 in
set_option maxRecDepth 100000 in
theorem ownc_any (o : Opt) (bx g : Nat) (p : Po) (w : World) (hb : Boxed w bx 29 (.pointer (some ⟨g, 0, none⟩))) (h : PAt w g p) (hd : o.2.size ≤ 140737488351232) :
    Calls Tryz.prog 57 #[.agg #[.int .u8 o.1.toNat, .string o.2], .pointer (some ⟨bx, 0, none⟩)] w fun e w' => e = .returned (.bool (isOwn p.w (lo o))) ∧ Below w.heap.size w w' := by
  obtain ⟨W, hW, HW⟩ := boxO w o
  have HB := Lib.hid HW.out.2.1
  have HP := Lib.hid (h.callee HB.out)
  have HX : Hid (Boxed W bx 29 (.pointer (some ⟨g, 0, none⟩))) := (HB.out.block bx hb.lt).trans hb
  have c0 := HW.out.1.c0
  have c1 := HW.out.1.c1
  have HG := Lib.hid (get_row [o] (some ⟨W.heap.size, 0, none⟩) 1 1 (W.alloc (.cells #[.int .u8 o.1.toNat, .string o.2] 51)) (one_opt W o hd) (by omega))
  have HO := Lib.hid (own_any g p (lo o))
  clear h HW hb
  go_enter Tryz.func57, Tryz.ntmps57
  go_wp2_with fail
  refine HG.out.mono ?_
  rintro e w1 ⟨A, c, rfl, _, hb1⟩
  clear hW
  have HB1 := Lib.hid (((Below.refl W.heap.size W).alloc (Nat.le_refl _) (.cells #[.int .u8 o.1.toNat, .string o.2] 51)).trans (hb1.mono (by simp)))
  clear hb1 HG
  rw [show Lco.gL [o] = lo o from rfl]
  generalize (gO [o]).length = n1
  generalize gE [o] = e1
  generalize hlo : lo o = x at *
  have HLO := Lib.hid hlo
  clear hlo
  obtain ⟨V, hV, HV⟩ := boxL w1 x
  have HB2 : Hid (Below W.heap.size W V) := HB1.out.trans (HV.out.2.1.mono HB1.out.size)
  have HB3 := Lib.hid (HB.out.trans (HB2.out.mono HB.out.size))
  have HP2 := Lib.hid (HP.out.callee HB2.out)
  have k0 : V.cell? ⟨bx, 0, none⟩ = some (.pointer (some ⟨g, 0, none⟩)) := Boxed.cell (show Boxed V bx 29 (.pointer (some ⟨g, 0, none⟩)) from (HB2.out.block bx HX.out.lt).trans HX.out)
  obtain ⟨d0, d1, d2, d3, d4, d5, d7, d8⟩ := cells8 HV.out.1
  have d6 : V.cell? ⟨w1.heap.size, 6, none⟩ = some (.int .u32 x.magic.toNat) := HV.out.1.c 6
  unfold lv
  go_wp2_with fail
  refine (HO.out V HP2.out).mono ?_
  rintro e w2 ⟨rfl, hb2⟩
  have HB4 := Lib.hid (HB3.out.trans (hb2.mono HB3.out.size))
  clear hb2
  go_wp2
  go_ret
  exact ⟨by rw [HLO.out] <;> rfl, HB4.out⟩
/-- Where the first one that is the own stands, or -1. -/
def OwnQ (p : Po) (l : List Opt) (w : World) (e : Ending) (w' : World) : Prop := ((∃ k : Nat, own p l = true ∧ e = .returned (.int .i64 (k : Nat))) ∨ (own p l = false ∧ e = .returned (.int .i64 (-1)))) ∧ Below w.heap.size w w'
theorem own_take {p : Po} {l : List Opt} {k : Nat} (h : own p (l.take k) = true) : own p l = true := by
  unfold own at *
  rw [List.any_eq_true] at *
  obtain ⟨x, hx, h2⟩ := h
  exact ⟨x, List.mem_of_mem_take hx, h2⟩
set_option maxHeartbeats 2000000 in
set_option maxRecDepth 100000 in
theorem ownIndex_any (bx g : Nat) (p : Po) (l : List Opt) (A : Option Addr) (n c : Nat) (w : World) (hb : Boxed w bx 29 (.pointer (some ⟨g, 0, none⟩))) (h : PAt w g p) (hl : Opts w w.heap.size A n l) (hn : n ≤ maxLen) :
    Calls Tryz.prog 85 #[.slice A n c, .func (.func 57) #[] #[.pointer (some ⟨bx, 0, none⟩)]] w (OwnQ p l w) := by
  have Hn := Lib.hid hl.1
  have Hl := Lib.hid hl; clear hl
  have Hg := Lib.hid hb; clear hb
  have HP := Lib.hid h; clear h
  unfold maxLen at hn
  go_enter Tryz.func85, Tryz.ntmps85
  go_wp2
  go_loopw [8] (fun i wr => ∃ k : Nat, k ≤ n ∧ i = .int .i64 k ∧ Hid (own p (l.take k) = false) ∧ Below w.heap.size w wr) (fun i _ => n - (intOf i).toNat)
  case atStart => exact ⟨0, Nat.zero_le _, rfl, rfl, Below.refl _ _⟩
  case round =>
    obtain ⟨k, hk, rfl, HT, hb⟩ := hrel
    by_cases hlt : k < n
    · obtain ⟨ad, o, rfl, hB, ho, hS1, hc0, hc1⟩ := (Hl.out.below hb).at_ hlt
      have Hst := Lib.hid (own_snoc p l k o ho)
      have HC := Lib.hid (ownc_any o bx g p wr ((hb.block bx Hg.out.lt).trans Hg.out) (HP.out.callee hb) hS1)
      clear ho
      cases e1 : isOwn p.w (lo o)
      · have HT2 : Hid (own p (l.take (k + 1)) = false) := by show _ = _; rw [Hst.out, HT.out, e1]; rfl
        rw [e1] at HC
        clear e1
        go_wp2_with fail
        refine HC.out.mono ?_
        rintro e w1 ⟨rfl, hb1⟩
        have HB1 := Lib.hid (hb.trans (hb1.mono hb.size)); clear hb1
        go_wp2
        go_roundw
        case rel => exact ⟨k + 1, by omega, by go_num, HT2, HB1.out⟩
        case measure => simp [intOf]; omega
      · have HT2 : Hid (own p l = true) := own_take (k := k + 1) (by rw [Hst.out, HT.out, e1]; rfl)
        rw [e1] at HC
        clear e1
        go_wp2_with fail
        refine HC.out.mono ?_
        rintro e w1 ⟨rfl, hb1⟩
        have HB1 := Lib.hid (hb.trans (hb1.mono hb.size)); clear hb1
        go_wp2
        go_ret
        exact ⟨.inl ⟨k, HT2.out, rfl⟩, HB1.out⟩
    · obtain rfl : k = n := by omega
      have HF : Hid (own p l = false) := by
        have h := HT.out
        rw [List.take_of_length_le (by rw [Hn.out]; exact Nat.le_refl _)] at h
        exact h
      go_wp2
      go_ret
      exact ⟨.inr ⟨HF.out, rfl⟩, hb⟩
set_option maxHeartbeats 1000000 in
theorem hasOwn_any (g : Nat) (p : Po) (l : List Opt) (A : Option Addr) (n c : Nat) (w : World) (h : PAt w g p) (hl : Opts w w.heap.size A n l) (hn : n ≤ maxLen) :
    Calls Tryz.prog 29 #[.pointer (some ⟨g, 0, none⟩), .slice A n c] w fun e w' => e = .returned (.bool (own p l)) ∧ Below w.heap.size w w' := by
  have HC : Hid (∀ W, Boxed W w.heap.size 29 (.pointer (some ⟨g, 0, none⟩)) → PAt W g p → Opts W W.heap.size A n l → Calls Tryz.prog 56 #[.slice A n c, .func (.func 57) #[] #[.pointer (some ⟨w.heap.size, 0, none⟩)]] W fun e w' => e = .returned (.bool (own p l)) ∧ Below W.heap.size W w') := by
    intro W hbx hP hO
    have HI := Lib.hid (ownIndex_any w.heap.size g p l A n c W hbx hP hO hn)
    clear hbx hP hO h hl
    go_enter Tryz.func56, Tryz.ntmps56
    go_wp2_with fail
    refine HI.out.mono ?_
    rintro e w1 ⟨⟨k, ho, rfl⟩ | ⟨ho, rfl⟩, hb1⟩
    · have HO := Lib.hid ho
      have HB := Lib.hid hb1
      have hk0 : (0 : Int) ≤ (k : Int) := Int.natCast_nonneg k
      clear ho hb1
      go_wp2
      go_ret
      exact ⟨by rw [HO.out] <;> rfl, HB.out⟩
    · have HO := Lib.hid ho
      have HB := Lib.hid hb1
      clear ho hb1
      go_wp2
      go_ret
      exact ⟨by rw [HO.out] <;> rfl, HB.out⟩
  have hb := (Below.refl w.heap.size w).alloc (Nat.le_refl _) (.cells #[.pointer (some ⟨g, 0, none⟩)] 29)
  have HB := Lib.hid hb
  have HCC := Lib.hid (HC.out _ (Boxed.new w _ _) (h.alloc _) (hl.laid _))
  clear hb h hl HC
  go_enter Tryz.func29, Tryz.ntmps29
  go_wp2_with fail
  refine HCC.out.mono ?_
  rintro e w1 ⟨rfl, hb1⟩
  have HB1 := Lib.hid (HB.out.trans (hb1.mono HB.out.size))
  clear hb1
  go_wp2
  go_ret
  exact ⟨rfl, HB1.out⟩
end Go.Proofs.YtcncmddhjbnggaaGreat.Pol
