/- Contract of package escape's Strip. -/
import Derived.Test.YtbihjpdenfjojaaEscD
namespace Go.Proofs.Ytbihjpdenfjojaa.Esc
open Go.RowKit Go.Shelf Go.Proofs.Ytbihjpdenfjojaa.Oct Go.Proofs.Ytbihjpdenfjojaa.Row
attribute [local go_sem] Oper.semAt_some

set_option maxHeartbeats 2000000 in
set_option maxRecDepth 100000 in
theorem strip_in (s : ByteArray) (a : Nat) (w : World) (ha : a < 4294967296) (hs : s.size ≤ 1048576) :
    CallsIn Fence.wide 3 Try.prog 14 #[.string s, .int .u32 a] w fun e w' => e = .returned (.string (bOf (strip a s.toList))) ∧ Below w.heap.size w w' := by
  obtain ⟨i0, hi, hz0, hz1, hz2⟩ := info_parts Try.info5
  have Ha := Lib.hid ha; clear ha
  have Hs := Lib.hid hs
  refine callsIn_of_wp_marks Try.func14 rfl trivial ?_
  simp only [Try.ntmps14, List.size_toArray, List.length_cons, List.length_nil, Nat.reduceAdd, Nat.reduceSub, Array.replicate_succ, Array.replicate_zero, List.push_toArray, List.append_toArray, List.nil_append, List.cons_append]
  gi_wp2_with (first
    | (gi_at_make; (refine wpListIn_make_own (w.alloc (.cells #[.int .u32 a] 22)) rfl _ _ 32 rfl w.heap.size 5 i0 (.int .u8 0) 1 Try.underlying32 hi hz0 hz1 .i64 .i64 s.size s.size rfl rfl rfl (by rw [hz2]; omega) (by unfold maxLen; omega) (by simp) ?_; intro w3 hown3 hgr3; have Hown3 := Lib.hid hown3; clear hown3; have Hgr3 := Lib.hid hgr3; clear hgr3; have hsz3 : w.heap.size + 2 ≤ w3.heap.size := (by have := (Hown3.out.lt (w.alloc (.cells #[.int .u32 a] 22)).heap.size rfl).2; rw [World.size_alloc] at this; omega)))
    | (refine ⟨trivial, ?_⟩; gi_at_call 16; refine (octets_in 2 s _).mono ?_; rintro e w4 ⟨rfl, rfl⟩))
  obtain ⟨W0, hW0⟩ : ∃ W0, (w3.alloc (.cells #[.slice (some ⟨w.heap.size + 1, 0, none⟩) 0 s.size] 32)).alloc (.cells #[.string s] 9) = W0 := ⟨_, rfl⟩
  have hB2 : Below w.heap.size w (w.alloc (.cells #[.int .u32 a] 22)) := (Below.refl _ w).alloc (Nat.le_refl _) _
  have hB3 : Below (w.heap.size + 1) (w.alloc (.cells #[.int .u32 a] 22)) w3 := (Below.refl _ _).grown Hgr3.out (by simp) (fun _ e => by cases e)
  have hB30 : Below w3.heap.size w3 W0 := by rw [← hW0]; exact ((Below.refl _ w3).alloc (Nat.le_refl _) _).alloc (by simp) _
  have hB0 : Below w.heap.size w W0 := (hB2.trans (hB3.mono (by omega))).trans (hB30.mono (by omega))
  have bA : Boxed W0 w.heap.size 22 (.int .u32 a) := (hB30.block _ (by omega)).trans ((hB3.block _ (by omega)).trans (Boxed.new w _ _))
  have bO : Holds W0 w.heap.size w3.heap.size 32 5 [] := by
    have h3 := Hown3.out
    rw [World.size_alloc] at h3
    rw [← hW0]; exact ⟨_, (Boxed.new w3 _ _).alloc _, (h3.alloc _).alloc _⟩
  have bT : Boxed W0 (w3.heap.size + 1) 9 (.string s) := by
    rw [← hW0]; have := Boxed.new (w3.alloc (.cells #[.slice (some ⟨w.heap.size + 1, 0, none⟩) 0 s.size] 32)) 9 (.string s)
    simpa only [World.size_alloc] using this
  have hs0 : W0.heap.size = w3.heap.size + 2 := by rw [← hW0]; simp
  rw [hW0]
  have Hst := octets_stops 2 (by omega) (w3.heap.size + 1) s (by unfold maxLen; have := Hs.out; omega) W0 bT
  refine wpIn_rangeFunc_ownG rfl (by omega) (gf := 19) (lb := #[.pointer (some ⟨w3.heap.size + 1, 0, none⟩)]) rfl trivial (enters_of Try.func19 (by kernel_rfl) rfl)
    Hst keepsText_t keepsText_b (Below.refl _ _) (fun _ => rfl)
    (fun pre W => (Boxed W w.heap.size 22 (.int .u32 a) ∧ Holds W w.heap.size w3.heap.size 32 5 (strip a pre)) ∧ Below w.heap.size w W)
    (fun _ _ _ => False)
    (OwnFrom.and (Own.from (fun _ A B row hs hg hr => ⟨boxed_stays hs.1 hg hr, hs.2.stays hg hr⟩) _) (ownFrom_below (Nat.le_refl _) (by omega)))
    (fun _ _ _ _ _ hs _ _ => hs)
    ⟨⟨bA, bO⟩, hB0⟩
    (fun x => { tmps := #[.string s, .int .u32 a, undef, .pointer (some ⟨w.heap.size, 0, none⟩), .string ⟨#[]⟩, .pointer (some ⟨w3.heap.size, 0, none⟩), .int .u8 (x.toNat : Int), .string s, .int .i64 s.size,
      .slice (some ⟨w.heap.size + 1, 0, none⟩) 0 s.size, .string s, .func (.func 19) #[] #[.pointer (some ⟨w3.heap.size + 1, 0, none⟩)], .int .u8 (x.toNat : Int), undef, undef, undef, undef, undef, undef, undef, undef, undef, undef], defers := [] }) ?assign ?body ?done ?stop
  case assign =>
    intro l x W K hK
    gi_wp2
    exact hK
  case body =>
    rintro l pre x W ⟨⟨bA, ⟨v, bO, hrow⟩⟩, hB⟩ hlen
    clear Hst hW0 hB0 hs0 bT hB2 hB3 hB30 Hown3 Hgr3
    have HPS := Lib.hid (strip_snoc a pre x)
    have hpl2 : (strip a pre).length ≤ 1048576 := by have h1 := strip_le a pre; have := Hs.out; omega
    have HbA := Lib.hid bA
    have HbO := Lib.hid bO
    have HB := Lib.hid hB
    have Hrow := Lib.hid hrow
    have cA := bA.cell
    have cO := bO.cell
    have hBs := hB.size
    clear bA bO hB hlen hrow
    generalize strip a pre = P at *
    cases hx : mapped a x
    · have Hx := Lib.hid hx; clear hx
      gi_wp2_with (first
        | (refine ⟨trivial, ?_⟩; gi_at_call 10; refine (CallsIn.inRound l (callsIn_wide.2 (mapped_any a x _ Ha.out))).mono ?_; rw [Hx.out]; rintro e w2 ⟨rfl, rfl⟩)
        | (gi_at_builtin; refine wpListIn_append_own _ rfl _ _ 32 rfl w.heap.size 5 i0 (.int .u8 0) 1 1 Try.underlying32 hi hz0 hz1 hz2 rfl (by decide) _ _ _ rfl (Hrow.out.alloc _) ⟨W.heap.size, 0, none⟩ 1 1 (bytesV [x]) rfl rfl (cells_new _ _ _) (bytesV_one _) (by unfold maxLen; omega) (by omega) (by simp; omega) ?_; intro v' w1 hown' hgrow _; obtain ⟨g', cap', rfl⟩ := ownsRow_succ hown'; obtain ⟨hv1, hv2, hr2, hk2, hb2⟩ := HbO.out.appended (by decide) Hrow.out hBs (by omega) hown' hgrow; have Hv2 := Lib.hid hv2; have Hr2 := Lib.hid hr2; have Hk2 := Lib.hid hk2; have Hb2 := Lib.hid hb2; have Hgrow := Lib.hid hgrow; have hc1 := hv1.cell; have hf1 := hv1.frozen; clear hv1 hv2 hr2 hk2 hb2 hgrow hown'))
      have hv : strip a (pre ++ [x]) = P ++ [x] := by rw [HPS.out, Hx.out]; rfl
      refine ⟨Hk2.out.from _, fun h => boxed_past h (by decide) Hrow.out Hgrow.out (by omega) _, ⟨boxed_past HbA.out (by decide) Hrow.out Hgrow.out (by omega) _, ?_⟩, HB.out.trans Hb2.out⟩
      exact holds_of Hv2.out Hr2.out (by rw [hv]; simp) (by rw [hv, bytesV_append])
    · have Hx := Lib.hid hx; clear hx
      gi_wp2_with (refine ⟨trivial, ?_⟩; gi_at_call 10; refine (CallsIn.inRound l (callsIn_wide.2 (mapped_any a x _ Ha.out))).mono ?_; rw [Hx.out]; rintro e w2 ⟨rfl, rfl⟩)
      have hv : strip a (pre ++ [x]) = P := by rw [HPS.out, Hx.out]; simp
      exact ⟨KeepsFrom.refl _ _, fun h => h, ⟨HbA.out, by rw [hv]; exact ⟨v, HbO.out, Hrow.out⟩⟩, HB.out⟩
  case done =>
    rintro D ys W hD rfl ⟨⟨_, ⟨v, bO, hrow⟩⟩, hB⟩ hK
    have cO := bO.cell
    have hcv := conv_own (P := Try.prog) (src := 32) (dst := 9) Try.underlying32 Try.underlying5 Try.underlying9 hrow
    gi_wp2
    refine ⟨by simp, .inl ⟨_, _, rfl, run_takeDeferred hK, ?_⟩⟩
    exact ⟨_, results_tmp rfl _ _ _, rfl, hB.trans (belowK_b (w := w) (Nat.le_refl _) W D _ _ (by omega) hK rfl rfl)⟩
  case stop =>
    rintro D c pre W _ _ h _
    exact h.elim
theorem strip_any (s : ByteArray) (a : Nat) (w : World) (ha : a < 4294967296) (hs : s.size ≤ 1048576) :
    Calls Try.prog 14 #[.string s, .int .u32 a] w fun e w' => e = .returned (.string (bOf (strip a s.toList))) ∧ Below w.heap.size w w' := callsIn_wide.1 (strip_in s a w ha hs)
end Go.Proofs.Ytbihjpdenfjojaa.Esc
