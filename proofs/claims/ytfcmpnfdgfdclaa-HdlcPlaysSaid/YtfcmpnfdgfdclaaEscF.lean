/- Contract of package escape's Get. -/
import Derived.Test.YtfcmpnfdgfdclaaEscD
import Derived.WalkMore
namespace Go.Proofs.Ytfcmpnfdgfdclaa.Esc
open Go.RowKit Go.Shelf Go.Proofs.Ytfcmpnfdgfdclaa.Oct Go.Proofs.Ytfcmpnfdgfdclaa.Row
attribute [local go_sem] Oper.semAt_some

/-- A function with a label, inside the wide fence. -/
theorem wpIn_scope_wide {n : Nat} {P : Program} {c : Code} {Q : Exit → Act → World → Prop} {a : Act} {w : World} (h : c.wpIn Fence.wide n P (Exit.noGoto Q) a w) : (Code.scope c).wpIn Fence.wide n P Q a w :=
  wpIn_wide.2 (wp_scope_straight (wpIn_wide.1 h))

/-- The box holds a bool. -/
def Either (W : World) (B : Nat) : Prop := ∃ m : Bool, Boxed W B 4 (.bool m)

set_option maxHeartbeats 2000000 in
set_option maxRecDepth 100000 in
theorem get_in (s : ByteArray) (w : World) (hs : s.size ≤ 1048576) :
    CallsIn Fence.wide 3 Try.prog 25 #[.string s] w fun e w' => e = .returned (.tuple #[.string (getA s), .int .i64 (getE s)]) ∧ Below w.heap.size w w' := by
  obtain ⟨i0, hi, hz0, hz1, hz2⟩ := info_parts Try.info5
  have Hs := Lib.hid hs
  refine callsIn_of_wp_marks Try.func25 rfl trivial ?_
  simp only [Try.ntmps25, List.size_toArray, List.length_cons, List.length_nil, Nat.reduceAdd, Nat.reduceSub, Array.replicate_succ, Array.replicate_zero, List.push_toArray, List.append_toArray, List.nil_append, List.cons_append]
  gi_wp2
  refine wpIn_scope_wide ?_
  gi_wp2_with (first
    | (gi_at_make; (refine wpListIn_make_own w rfl _ _ 46 rfl w.heap.size 5 i0 (.int .u8 0) 1 Try.underlying46 hi hz0 hz1 .i64 .i64 s.size s.size rfl rfl rfl (by rw [hz2]; omega) (by unfold maxLen; omega) (Nat.le_refl _) ?_; intro w3 hown3 hgr3; have Hown3 := Lib.hid hown3; clear hown3; have Hgr3 := Lib.hid hgr3; clear hgr3; have hsz3 : w.heap.size + 1 ≤ w3.heap.size := (Hown3.out.lt w.heap.size rfl).2))
    | (refine ⟨trivial, ?_⟩; gi_at_call 36; refine (octets_in 2 s _).mono ?_; rintro e w4 ⟨rfl, rfl⟩))
  refine wpIn_label ?_
  gi_wp2_with (refine ⟨trivial, ?_⟩; gi_at_call 36; refine (octets_in 2 s _).mono ?_; rintro e w4 ⟨rfl, rfl⟩)
  obtain ⟨W0, hW0⟩ : ∃ W0, (((w3.alloc (.cells #[.slice (some ⟨w.heap.size, 0, none⟩) 0 s.size] 46)).alloc (.cells #[.bool false] 4)).alloc (.cells #[.bool true] 4)).alloc (.cells #[.string s] 9) = W0 := ⟨_, rfl⟩
  have hB3 : Below w.heap.size w w3 := (Below.refl _ _).grown Hgr3.out (Nat.le_refl _) (fun _ e => by cases e)
  have hB30 : Below w3.heap.size w3 W0 := by rw [← hW0]; exact ((((Below.refl _ w3).alloc (Nat.le_refl _) _).alloc (by simp) _).alloc (by simp; omega) _).alloc (by simp; omega) _
  have hB0 : Below w.heap.size w W0 := hB3.trans (hB30.mono (by omega))
  have bO : Holds W0 w.heap.size w3.heap.size 46 5 [] := by
    rw [← hW0]; exact ⟨_, (((Boxed.new w3 _ _).alloc _).alloc _).alloc _, (((Hown3.out.alloc _).alloc _).alloc _).alloc _⟩
  have bM : Boxed W0 (w3.heap.size + 1) 4 (.bool false) := by
    rw [← hW0]; have := ((Boxed.new (w3.alloc (.cells #[.slice (some ⟨w.heap.size, 0, none⟩) 0 s.size] 46)) 4 (.bool false)).alloc (.cells #[.bool true] 4)).alloc (.cells #[.string s] 9)
    simpa only [World.size_alloc] using this
  have bW : Boxed W0 (w3.heap.size + 1 + 1) 4 (.bool true) := by
    rw [← hW0]; have := (Boxed.new ((w3.alloc (.cells #[.slice (some ⟨w.heap.size, 0, none⟩) 0 s.size] 46)).alloc (.cells #[.bool false] 4)) 4 (.bool true)).alloc (.cells #[.string s] 9)
    simpa only [World.size_alloc] using this
  have bT : Boxed W0 (w3.heap.size + 1 + 1 + 1) 9 (.string s) := by
    rw [← hW0]; have := Boxed.new (((w3.alloc (.cells #[.slice (some ⟨w.heap.size, 0, none⟩) 0 s.size] 46)).alloc (.cells #[.bool false] 4)).alloc (.cells #[.bool true] 4)) 9 (.string s)
    simpa only [World.size_alloc] using this
  have hs0 : W0.heap.size = w3.heap.size + 4 := by rw [← hW0]; simp
  rw [hW0]
  have Hst := octets_stops 2 (by omega) (w3.heap.size + 1 + 1 + 1) s (by unfold maxLen; have := Hs.out; omega) W0 bT
  refine wpIn_rangeFunc_ownG rfl (by omega) (gf := 50) (lb := #[.pointer (some ⟨w3.heap.size + 1 + 1 + 1, 0, none⟩)]) rfl trivial (enters_of Try.func50 (by kernel_rfl) rfl)
    Hst keepsText_t keepsText_b (Below.refl _ _) (fun _ => rfl)
    (fun pre W => (126 ∉ pre ∧ Holds W w.heap.size w3.heap.size 46 5 (grun pre).1 ∧ Boxed W (w3.heap.size + 1) 4 (.bool (grun pre).2) ∧ Boxed W (w3.heap.size + 1 + 1) 4 (.bool true)) ∧ Below w.heap.size w W)
    (fun c pre W => (c = .exit 0 ∧ 126 ∈ pre ∧ Either W (w3.heap.size + 1) ∧ Boxed W (w3.heap.size + 1 + 1) 4 (.bool false)) ∧ Below w.heap.size w W)
    (OwnFrom.and (Own.from (fun _ A B row hs hg hr => ⟨hs.1, hs.2.1.stays hg hr, boxed_stays hs.2.2.1 hg hr, boxed_stays hs.2.2.2 hg hr⟩) _) (ownFrom_below (Nat.le_refl _) (by omega)))
    (fun c => OwnFrom.and (Own.from (fun _ A B row hs hg hr => ⟨hs.1, hs.2.1, (let ⟨m, hm⟩ := hs.2.2.1; ⟨m, boxed_stays hm hg hr⟩), boxed_stays hs.2.2.2 hg hr⟩) _) (ownFrom_below (Nat.le_refl _) (by omega)))
    ⟨⟨by simp, bO, bM, bW⟩, hB0⟩
    (fun x => { tmps := #[.string s, undef, .string ⟨#[]⟩, .int .i64 0, .pointer (some ⟨w3.heap.size, 0, none⟩), .pointer (some ⟨w3.heap.size + 1, 0, none⟩), .pointer (some ⟨w3.heap.size + 1 + 1, 0, none⟩), .int .u8 (x.toNat : Int), .string s, .int .i64 s.size,
      .slice (some ⟨w.heap.size, 0, none⟩) 0 s.size, .string s, .func (.func 50) #[] #[.pointer (some ⟨w3.heap.size + 1 + 1 + 1, 0, none⟩)], .int .u8 (x.toNat : Int), undef, undef, undef, undef, undef, undef, undef, undef, undef, undef, undef, undef, undef, undef, undef, undef, undef, undef, undef, undef, undef, undef, undef, undef], defers := [] }) ?assign ?body ?done ?stop
  case assign =>
    intro l x W K hK
    gi_wp2
    exact hK
  case body =>
    rintro l pre x W ⟨⟨hno, ⟨v, bO, hrow⟩, bM, bW⟩, hB⟩ hlen
    clear Hst hW0 hB0 hs0 bT hB3 hB30 Hown3 Hgr3
    have hpl2 : (grun pre).1.length ≤ 1048576 := by have h1 := grun_le pre; have := Hs.out; omega
    obtain ⟨o, m, hg⟩ : ∃ o m, grun pre = (o, m) := ⟨_, _, rfl⟩
    rw [hg] at hrow bM hpl2
    have Hg := Lib.hid hg; clear hg
    have Hno := Lib.hid hno; clear hno
    have HbO := Lib.hid bO
    have HbM := Lib.hid bM
    have HbW := Lib.hid bW
    have HB := Lib.hid hB
    have Hrow := Lib.hid hrow
    have cO := bO.cell
    have cM := bM.cell
    have fM := bM.frozen
    have cW := bW.cell
    have fW := bW.frozen
    have hBs := hB.size
    have hfl := flip_num x
    clear bO bM bW hB hlen hrow
    by_cases h126 : x = 126
    · subst h126
      clear hfl
      gi_wp2
      exact ⟨(KeepsOthers.setCell _ _ _).from _, ⟨rfl, by simp, ⟨m, HbM.out.other (by omega) _⟩, HbW.out.set _⟩, HB.out.setCell (p := ⟨w3.heap.size + 1 + 1, 0, none⟩) (by simp; omega) _⟩
    · have Hno2 : Hid (126 ∉ pre ++ [x]) := by
        show _ ∉ _
        rw [List.mem_append, List.mem_singleton]
        rintro (h | h)
        · exact Hno.out h
        · exact h126 h.symm
      have e126 : ((x.toNat : Int) == 126) = false := by
        have := eq_int x 126 (by omega)
        rw [show UInt8.ofNat 126 = 126 from rfl, beq_eq_false_iff_ne.2 h126] at this
        exact this
      clear h126
      cases m
      · by_cases h125 : x = 125
        · subst h125
          clear hfl e126
          have hv := grun_mark Hg.out
          have Hv := Lib.hid hv; clear hv
          gi_wp2
          refine ⟨(KeepsOthers.setCell _ _ _).from _, fun h => h.other (by omega) _, ⟨Hno2.out, ?_, ?_, HbW.out.other (by omega) _⟩, HB.out.setCell (p := ⟨w3.heap.size + 1, 0, none⟩) (by simp; omega) _⟩
          · rw [Hv.out]; exact Holds.other ⟨v, HbO.out, Hrow.out⟩ HbM.out (by decide) (by omega) _
          · rw [Hv.out]; exact HbM.out.set _
        · have e125 : ((x.toNat : Int) == 125) = false := by
            have := eq_int x 125 (by omega)
            rw [show UInt8.ofNat 125 = 125 from rfl, beq_eq_false_iff_ne.2 h125] at this
            exact this
          have Hv := Lib.hid (grun_plain Hg.out h125)
          clear h125 hfl
          gi_wp2_with (gi_at_builtin; refine wpListIn_append_own _ rfl _ _ 46 rfl w.heap.size 5 i0 (.int .u8 0) 1 1 Try.underlying46 hi hz0 hz1 hz2 rfl (by decide) _ _ _ rfl (Hrow.out.alloc _) ⟨W.heap.size, 0, none⟩ 1 1 (bytesV [x]) rfl rfl (cells_new _ _ _) (bytesV_one _) (by unfold maxLen; omega) (by omega) (by simp; omega) ?_; intro v' w1 hown' hgrow _; obtain ⟨g', cap', rfl⟩ := ownsRow_succ hown'; obtain ⟨hv1, hv2, hr2, hk2, hb2⟩ := HbO.out.appended (by decide) Hrow.out hBs (by omega) hown' hgrow; have Hv2 := Lib.hid hv2; have Hr2 := Lib.hid hr2; have Hk2 := Lib.hid hk2; have Hb2 := Lib.hid hb2; have Hgrow := Lib.hid hgrow; have hc1 := hv1.cell; have hf1 := hv1.frozen; have HbM2 := Lib.hid (boxed_past (B := w3.heap.size) HbM.out (by decide) Hrow.out Hgrow.out (by omega) (.slice (some ⟨g', 0, none⟩) (o.length + 1) cap')); have hcM2 := HbM2.out.cell; have hfM2 := HbM2.out.frozen; clear hv1 hv2 hr2 hk2 hb2 hgrow hown')
          refine ⟨Hk2.out.from _, fun h => boxed_past h (by decide) Hrow.out Hgrow.out (by omega) _, ⟨Hno2.out, ?_, ?_, boxed_past HbW.out (by decide) Hrow.out Hgrow.out (by omega) _⟩, HB.out.trans Hb2.out⟩
          · rw [Hv.out]; exact holds_of Hv2.out Hr2.out (by simp) (by rw [bytesV_append])
          · rw [Hv.out]; exact HbM2.out
      · have Hv := Lib.hid (grun_marked Hg.out x)
        gi_wp2_with (gi_at_builtin; refine wpListIn_append_own _ rfl _ _ 46 rfl w.heap.size 5 i0 (.int .u8 0) 1 1 Try.underlying46 hi hz0 hz1 hz2 rfl (by decide) _ _ _ rfl (Hrow.out.alloc _) ⟨W.heap.size, 0, none⟩ 1 1 (bytesV [flip x]) rfl rfl (cells_new _ _ _) (bytesV_one _) (by unfold maxLen; omega) (by omega) (by simp; omega) ?_; intro v' w1 hown' hgrow _; obtain ⟨g', cap', rfl⟩ := ownsRow_succ hown'; obtain ⟨hv1, hv2, hr2, hk2, hb2⟩ := HbO.out.appended (by decide) Hrow.out hBs (by omega) hown' hgrow; have Hv2 := Lib.hid hv2; have Hr2 := Lib.hid hr2; have Hk2 := Lib.hid hk2; have Hb2 := Lib.hid hb2; have Hgrow := Lib.hid hgrow; have hc1 := hv1.cell; have hf1 := hv1.frozen; have HbM2 := Lib.hid (boxed_past (B := w3.heap.size) HbM.out (by decide) Hrow.out Hgrow.out (by omega) (.slice (some ⟨g', 0, none⟩) (o.length + 1) cap')); have hcM2 := HbM2.out.cell; have hfM2 := HbM2.out.frozen; clear hv1 hv2 hr2 hk2 hb2 hgrow hown')
        refine ⟨(Hk2.out.trans (KeepsOthers.setCell _ _ _)).from _, fun h => (boxed_past h (by decide) Hrow.out Hgrow.out (by omega) _).other (by omega) _, ⟨Hno2.out, ?_, ?_, (boxed_past HbW.out (by decide) Hrow.out Hgrow.out (by omega) _).other (by omega) _⟩, (HB.out.trans Hb2.out).setCell (p := ⟨w3.heap.size + 1, 0, none⟩) (by simp; omega) _⟩
        · rw [Hv.out]; exact Holds.other (holds_of Hv2.out Hr2.out (by simp) (by rw [bytesV_append])) HbM2.out (by decide) (by omega) _
        · rw [Hv.out]; exact HbM2.out.set _
  case done =>
    rintro D ys W hD rfl ⟨⟨hno, ⟨v, bO, hrow⟩, bM, bW⟩, hB⟩ hK
    have cO := bO.cell
    have cM := bM.cell
    have cW := bW.cell
    have hcv := conv_own (P := Try.prog) (src := 46) (dst := 9) Try.underlying46 Try.underlying5 Try.underlying9 hrow
    cases hm : (grun s.toList).2
    · have HA := Lib.hid (get_yes (s := s) (getOk_of hno hm))
      rw [hm] at cM
      clear hm
      gi_wp2
      refine ⟨by simp, .inl ⟨_, _, rfl, run_takeDeferred hK, ?_⟩⟩
      exact ⟨_, results_tmp2 rfl _ _ _, by rw [HA.out.1, HA.out.2]; rfl, hB.trans (belowK_b (w := w) (Nat.le_refl _) W D _ _ (by omega) hK rfl rfl)⟩
    · have HA := Lib.hid (get_no (s := s) (getOk_of hno hm))
      rw [hm] at cM
      clear hm
      gi_wp2
      refine ⟨by simp, .inl ⟨_, _, rfl, run_takeDeferred hK, ?_⟩⟩
      exact ⟨_, results_tmp2 rfl _ _ _, by rw [HA.out.1, HA.out.2]; rfl, hB.trans (belowK_b (w := w) (Nat.le_refl _) W D _ _ (by omega) hK rfl rfl)⟩
  case stop =>
    rintro D c pre W hD hpre ⟨⟨rfl, hin, ⟨m, bM⟩, bW⟩, hB⟩ hK
    have HA := Lib.hid (get_no (s := s) (getOk_flag (hpre.subset hin)))
    have cM := bM.cell
    have cW := bW.cell
    cases m
    · gi_wp2
      refine ⟨by simp, .inl ⟨_, _, rfl, run_takeDeferred hK, ?_⟩⟩
      exact ⟨_, results_tmp2 rfl _ _ _, by rw [HA.out.1, HA.out.2]; rfl, hB.trans (belowK_b (w := w) (Nat.le_refl _) W D _ _ (by omega) hK rfl rfl)⟩
    · gi_wp2
      refine ⟨by simp, .inl ⟨_, _, rfl, run_takeDeferred hK, ?_⟩⟩
      exact ⟨_, results_tmp2 rfl _ _ _, by rw [HA.out.1, HA.out.2]; rfl, hB.trans (belowK_b (w := w) (Nat.le_refl _) W D _ _ (by omega) hK rfl rfl)⟩
theorem get_any (s : ByteArray) (w : World) (hs : s.size ≤ 1048576) :
    Calls Try.prog 25 #[.string s] w fun e w' => e = .returned (.tuple #[.string (getA s), .int .i64 (getE s)]) ∧ Below w.heap.size w w' := callsIn_wide.1 (get_in s w hs)
end Go.Proofs.Ytfcmpnfdgfdclaa.Esc
