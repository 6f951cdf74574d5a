/- Contract of package escape's Put. -/
import Derived.Test.YtfcmpnfdgfdclaaEscC
namespace Go.Proofs.Ytfcmpnfdgfdclaa.Esc
open Go.RowKit Go.Shelf Go.Proofs.Ytfcmpnfdgfdclaa.Oct Go.Proofs.Ytfcmpnfdgfdclaa.Row
attribute [local go_sem] Oper.semAt_some

theorem Try.info5 : (Try.prog.info? 5).map (fun i => (i.zero, i.size, i.bytes)) = some (some (.int .u8 0), 1, 1) := by kernel_rfl

set_option maxHeartbeats 2000000 in
set_option maxRecDepth 100000 in
theorem put_in (s : ByteArray) (a : Nat) (w : World) (ha : a < 4294967296) (hs : s.size ≤ 1048576) :
    CallsIn Fence.wide 3 Try.prog 30 #[.string s, .int .u32 a] w fun e w' => e = .returned (.string (bOf (put a s.toList))) ∧ Below w.heap.size w w' := by
  obtain ⟨i0, hi, hz0, hz1, hz2⟩ := info_parts Try.info5
  have Ha := Lib.hid ha; clear ha
  have Hs := Lib.hid hs; clear hs
  have HP := Lib.hid (put_le a s.toList).2
  have hpl : (put a s.toList).length ≤ 2097152 := by have h1 := HP.out; rw [← size_toList] at h1; have := Hs.out; omega
  refine callsIn_of_wp_marks Try.func30 rfl trivial ?_
  simp only [Try.ntmps30, List.size_toArray, List.length_cons, List.length_nil, Nat.reduceAdd, Nat.reduceSub, Array.replicate_succ, Array.replicate_zero, List.push_toArray, List.append_toArray, List.nil_append, List.cons_append]
  generalize hq : (put a s.toList).length = q at *
  have Hq := Lib.hid hq; clear hq
  gi_wp2_with (first
    | (refine ⟨trivial, ?_⟩; gi_at_call 43; refine (callsIn_wide.2 (hides_any a _)).mono ?_; rintro e w1 ⟨rfl, rfl⟩)
    | (refine ⟨trivial, ?_⟩; gi_at_call 44; refine (callsIn_wide.2 (size_any s a _ Ha.out Hs.out)).mono ?_; rw [Hq.out]; rintro e w2 ⟨rfl, hb2⟩; have Hb2 := Lib.hid hb2; clear hb2; have hsz2 : w.heap.size + 2 ≤ w2.heap.size := (by have := Hb2.out.size; simp at this; omega))
    | (gi_at_make; (refine wpListIn_make_own w2 rfl _ _ 46 rfl w.heap.size 5 i0 (.int .u8 0) 1 Try.underlying46 hi hz0 hz1 .i64 .i64 q q rfl rfl rfl (by rw [hz2]; omega) (by unfold maxLen; omega) (by omega) ?_; intro w3 hown3 hgr3; have Hown3 := Lib.hid hown3; clear hown3; have Hgr3 := Lib.hid hgr3; clear hgr3; have hsz3 : w2.heap.size + 1 ≤ w3.heap.size := (Hown3.out.lt w2.heap.size rfl).2))
    | (refine ⟨trivial, ?_⟩; gi_at_call 36; refine (octets_in 2 s _).mono ?_; rintro e w4 ⟨rfl, rfl⟩))
  obtain ⟨W0, hW0⟩ : ∃ W0, (w3.alloc (.cells #[.slice (some ⟨w2.heap.size, 0, none⟩) 0 q] 46)).alloc (.cells #[.string s] 9) = W0 := ⟨_, rfl⟩
  have hB2 : Below w.heap.size w w2 := (((Below.refl _ w).alloc (Nat.le_refl _) _).alloc (by simp) _).trans (Hb2.out.mono (by simp; omega))
  have hB3 : Below w2.heap.size w2 w3 := (Below.refl _ w2).grown Hgr3.out (Nat.le_refl _) (fun _ e => by cases e)
  have hB30 : Below w3.heap.size w3 W0 := by rw [← hW0]; exact ((Below.refl _ w3).alloc (Nat.le_refl _) _).alloc (by simp) _
  have hB0 : Below w.heap.size w W0 := (hB2.trans (hB3.mono (by omega))).trans (hB30.mono (by omega))
  have bA2 : Boxed w2 w.heap.size 22 (.int .u32 a) := (Hb2.out.block _ (by simp; omega)).trans ((Boxed.new w _ _).alloc _)
  have bH1 : Boxed ((w.alloc (.cells #[.int .u32 a] 22)).alloc (.cells #[(.func (.func 53) #[] #[.pointer (some ⟨w.heap.size, 0, none⟩)])] 75)) (w.heap.size + 1) 75 (.func (.func 53) #[] #[.pointer (some ⟨w.heap.size, 0, none⟩)]) := by
    have := Boxed.new (w.alloc (.cells #[.int .u32 a] 22)) 75 (.func (.func 53) #[] #[.pointer (some ⟨w.heap.size, 0, none⟩)])
    simpa only [World.size_alloc] using this
  have bH2 : Boxed w2 (w.heap.size + 1) 75 (.func (.func 53) #[] #[.pointer (some ⟨w.heap.size, 0, none⟩)]) := (Hb2.out.block _ (by simp)).trans bH1
  have bA : Boxed W0 w.heap.size 22 (.int .u32 a) := (hB30.block _ (by omega)).trans ((hB3.block _ (by omega)).trans bA2)
  have bH : Boxed W0 (w.heap.size + 1) 75 (.func (.func 53) #[] #[.pointer (some ⟨w.heap.size, 0, none⟩)]) := (hB30.block _ (by omega)).trans ((hB3.block _ (by omega)).trans bH2)
  have bO : Holds W0 w.heap.size w3.heap.size 46 5 [] := by
    rw [← hW0]; exact ⟨_, (Boxed.new w3 _ _).alloc _, (Hown3.out.alloc _).alloc _⟩
  have bT : Boxed W0 (w3.heap.size + 1) 9 (.string s) := by
    rw [← hW0]; have := Boxed.new (w3.alloc (.cells #[.slice (some ⟨w2.heap.size, 0, none⟩) 0 q] 46)) 9 (.string s)
    simpa only [World.size_alloc] using this
  have hs0 : W0.heap.size = w3.heap.size + 2 := by rw [← hW0]; simp
  rw [hW0]
  have Hst := octets_stops 2 (by omega) (w3.heap.size + 1) s (by unfold maxLen; have := Hs.out; omega) W0 bT
  refine wpIn_rangeFunc_ownG rfl (by omega) (gf := 50) (lb := #[.pointer (some ⟨w3.heap.size + 1, 0, none⟩)]) rfl trivial (enters_of Try.func50 (by kernel_rfl) rfl)
    Hst keepsText_t keepsText_b (Below.refl _ _) (fun _ => rfl)
    (fun pre W => (Tells W w.heap.size (w.heap.size + 1) a ∧ Holds W w.heap.size w3.heap.size 46 5 (put a pre)) ∧ Below w.heap.size w W)
    (fun _ _ _ => False)
    (OwnFrom.and (Own.from (fun _ A B row hs hg hr => ⟨⟨boxed_stays hs.1.1 hg hr, boxed_stays hs.1.2 hg hr⟩, hs.2.stays hg hr⟩) _) (ownFrom_below (Nat.le_refl _) (by omega)))
    (fun _ _ _ _ _ hs _ _ => hs)
    ⟨⟨⟨bA, bH⟩, bO⟩, hB0⟩
    (fun x => { tmps := #[.string s, .int .u32 a, undef, undef, .string ⟨#[]⟩, .pointer (some ⟨w.heap.size + 1, 0, none⟩), .pointer (some ⟨w3.heap.size, 0, none⟩), .int .u8 (x.toNat : Int), .int .u32 a,
      (.func (.func 53) #[] #[.pointer (some ⟨w.heap.size, 0, none⟩)]), .string s, .int .u32 a, .int .i64 q, .slice (some ⟨w2.heap.size, 0, none⟩) 0 q, .string s, .func (.func 50) #[] #[.pointer (some ⟨w3.heap.size + 1, 0, none⟩)], .int .u8 (x.toNat : Int), undef, undef, undef, undef, undef, undef, undef, undef, undef, undef, undef, undef, undef, undef], defers := [] }) ?assign ?body ?done ?stop
  case assign =>
    intro l x W K hK
    gi_wp2
    exact hK
  case body =>
    rintro l pre x W ⟨⟨⟨bA, bH⟩, ⟨v, bO, hrow⟩⟩, hB⟩ hlen
    clear Hst hW0 hB0 hs0 bT hB2 hB3 hB30 bA2 bH1 bH2 Hown3 Hgr3 Hb2
    have HPS := Lib.hid (put_snoc a pre x)
    have hpl2 : (put a pre).length ≤ 2097152 := by have h1 := (put_le a pre).2; have := Hs.out; omega
    have HbA := Lib.hid bA
    have HbH := Lib.hid bH
    have HbO := Lib.hid bO
    have HB := Lib.hid hB
    have Hrow := Lib.hid hrow
    have cH := bH.cell
    have cO := bO.cell
    have hBs := hB.size
    have hfl := flip_num x
    clear bA bH bO hB hlen hrow
    generalize put a pre = P at *
    cases hx : hidden a x
    · have Hx := Lib.hid hx; clear hx
      gi_wp2_with (first
        | (refine ⟨trivial, ?_⟩; gi_at_call 53; refine (CallsIn.inRound l (callsIn_wide.2 (tells_any a x w.heap.size _ Ha.out HbA.out))).mono ?_; rw [Hx.out]; rintro e w2 ⟨rfl, rfl⟩)
        | (gi_at_builtin; refine wpListIn_append_own _ rfl _ _ 46 rfl w.heap.size 5 i0 (.int .u8 0) 1 1 Try.underlying46 hi hz0 hz1 hz2 rfl (by decide) _ _ _ rfl (Hrow.out.alloc _) ⟨W.heap.size, 0, none⟩ 1 1 (bytesV [x]) rfl rfl (cells_new _ _ _) (bytesV_one _) (by unfold maxLen; omega) (by omega) (by simp; omega) ?_; intro v' w1 hown' hgrow _; obtain ⟨g', cap', rfl⟩ := ownsRow_succ hown'; obtain ⟨hv1, hv2, hr2, hk2, hb2⟩ := HbO.out.appended (by decide) Hrow.out hBs (by omega) hown' hgrow; have Hv2 := Lib.hid hv2; have Hr2 := Lib.hid hr2; have Hk2 := Lib.hid hk2; have Hb2 := Lib.hid hb2; have Hgrow := Lib.hid hgrow; have hc1 := hv1.cell; have hf1 := hv1.frozen; clear hv1 hv2 hr2 hk2 hb2 hgrow hown'))
      have hv : put a (pre ++ [x]) = P ++ [x] := by rw [HPS.out, esc_no Hx.out]
      refine ⟨Hk2.out.from _, fun h => boxed_past h (by decide) Hrow.out Hgrow.out (by omega) _, ⟨⟨boxed_past HbA.out (by decide) Hrow.out Hgrow.out (by omega) _, boxed_past HbH.out (by decide) Hrow.out Hgrow.out (by omega) _⟩, ?_⟩, HB.out.trans Hb2.out⟩
      exact holds_of Hv2.out Hr2.out (by rw [hv]; simp) (by rw [hv, bytesV_append])
    · have Hx := Lib.hid hx; clear hx
      gi_wp2_with (first
        | (refine ⟨trivial, ?_⟩; gi_at_call 53; refine (CallsIn.inRound l (callsIn_wide.2 (tells_any a x w.heap.size _ Ha.out HbA.out))).mono ?_; rw [Hx.out]; rintro e w2 ⟨rfl, rfl⟩)
        | (gi_at_builtin; refine wpListIn_append_own _ rfl _ _ 46 rfl w.heap.size 5 i0 (.int .u8 0) 1 1 Try.underlying46 hi hz0 hz1 hz2 rfl (by decide) _ _ _ rfl (Hrow.out.alloc _) ⟨W.heap.size, 0, none⟩ 2 2 (bytesV [125, flip x]) rfl rfl (cells_new _ _ _) (bytesV_one _) (by unfold maxLen; omega) (by omega) (by simp; omega) ?_; intro v' w1 hown' hgrow _; obtain ⟨g', cap', rfl⟩ := ownsRow_succ (k := P.length + 1) hown'; obtain ⟨hv1, hv2, hr2, hk2, hb2⟩ := HbO.out.appended (by decide) Hrow.out hBs (by omega) hown' hgrow; have Hv2 := Lib.hid hv2; have Hr2 := Lib.hid hr2; have Hk2 := Lib.hid hk2; have Hb2 := Lib.hid hb2; have Hgrow := Lib.hid hgrow; have hc1 := hv1.cell; have hf1 := hv1.frozen; clear hv1 hv2 hr2 hk2 hb2 hgrow hown'))
      have hv : put a (pre ++ [x]) = P ++ [125, flip x] := by rw [HPS.out, esc_yes Hx.out]
      refine ⟨Hk2.out.from _, fun h => boxed_past h (by decide) Hrow.out Hgrow.out (by omega) _, ⟨⟨boxed_past HbA.out (by decide) Hrow.out Hgrow.out (by omega) _, boxed_past HbH.out (by decide) Hrow.out Hgrow.out (by omega) _⟩, ?_⟩, HB.out.trans Hb2.out⟩
      exact holds_of Hv2.out Hr2.out (by rw [hv]; simp) (by rw [hv, bytesV_append])
  case done =>
    rintro D ys W hD rfl ⟨⟨_, ⟨v, bO, hrow⟩⟩, hB⟩ hK
    have cO := bO.cell
    have hcv := conv_own (P := Try.prog) (src := 46) (dst := 9) Try.underlying46 Try.underlying5 Try.underlying9 hrow
    gi_wp2
    refine ⟨by simp, .inl ⟨_, _, rfl, run_takeDeferred hK, ?_⟩⟩
    exact ⟨_, results_tmp rfl _ _ _, rfl, hB.trans (belowK_b (w := w) (Nat.le_refl _) W D _ _ (by omega) hK rfl rfl)⟩
  case stop =>
    rintro D c pre W _ _ h _
    exact h.elim
theorem put_any (s : ByteArray) (a : Nat) (w : World) (ha : a < 4294967296) (hs : s.size ≤ 1048576) :
    Calls Try.prog 30 #[.string s, .int .u32 a] w fun e w' => e = .returned (.string (bOf (put a s.toList))) ∧ Below w.heap.size w w' := callsIn_wide.1 (put_in s a w ha hs)
end Go.Proofs.Ytfcmpnfdgfdclaa.Esc
