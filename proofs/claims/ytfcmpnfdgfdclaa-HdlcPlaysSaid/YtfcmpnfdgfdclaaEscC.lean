/- Contract of package escape's Size. -/
import Derived.Test.YtfcmpnfdgfdclaaEscB
import Derived.Laws.EntriesVeiled
namespace Go.Proofs.Ytfcmpnfdgfdclaa.Esc
open Go.RowKit Go.Shelf Go.Proofs.Ytfcmpnfdgfdclaa.Oct Go.Proofs.Ytfcmpnfdgfdclaa.Row
attribute [local go_sem] Oper.semAt_some

/-- The closure that tells which bytes are escaped, and its map, in their boxes. -/
def Tells (W : World) (gA gH a : Nat) : Prop := Boxed W gA 22 (.int .u32 a) ∧ Boxed W gH 75 (.func (.func 53) #[] #[.pointer (some ⟨gA, 0, none⟩)])
theorem Tells.kept {W W' : World} {row : Option Nat} {gA gH a : Nat} (h : Tells W gA gH a) (hg : W.grownBy W' row) (h1 : some gA ≠ row) (h2 : some gH ≠ row) : Tells W' gA gH a := ⟨h.1.kept hg h1, h.2.kept hg h2⟩
set_option maxHeartbeats 2000000 in
set_option maxRecDepth 100000 in
theorem size_in (s : ByteArray) (a : Nat) (w : World) (ha : a < 4294967296) (hs : s.size ≤ 1048576) :
    CallsIn Fence.wide 3 Try.prog 44 #[.string s, .int .u32 a] w fun e w' => e = .returned (.int .i64 ((put a s.toList).length : Nat)) ∧ Below w.heap.size w w' := by
  have Ha := Lib.hid ha; clear ha
  have Hs := Lib.hid hs; clear hs
  refine callsIn_of_wp_marks Try.func44 rfl trivial ?_
  simp only [Try.ntmps44, List.size_toArray, List.length_cons, List.length_nil, Nat.reduceAdd, Nat.reduceSub, Array.replicate_succ, Array.replicate_zero, List.push_toArray, List.append_toArray, List.nil_append, List.cons_append]
  gi_wp2_with (first
    | (refine ⟨trivial, ?_⟩; gi_at_call 43; refine (callsIn_wide.2 (hides_any a _)).mono ?_; rintro e w1 ⟨rfl, rfl⟩)
    | (refine ⟨trivial, ?_⟩; gi_at_call 36; refine (octets_in 2 s _).mono ?_; rintro e w2 ⟨rfl, rfl⟩))
  obtain ⟨W0, hW0⟩ : ∃ W0, ((((w.alloc (.cells #[.int .u32 a] 22)).alloc (.cells #[.func (.func 53) #[] #[.pointer (some ⟨w.heap.size, 0, none⟩)]] 75)).alloc (.cells #[.int .i64 s.size] 3)).alloc (.cells #[.string s] 9)) = W0 := ⟨_, rfl⟩
  have bA : Boxed W0 w.heap.size 22 (.int .u32 a) := by rw [← hW0]; exact (((Boxed.new w _ _).alloc _).alloc _).alloc _
  have bH : Boxed W0 (w.heap.size + 1) 75 (.func (.func 53) #[] #[.pointer (some ⟨w.heap.size, 0, none⟩)]) := by
    rw [← hW0]; have := ((Boxed.new (w.alloc (.cells #[.int .u32 a] 22)) 75 (.func (.func 53) #[] #[.pointer (some ⟨w.heap.size, 0, none⟩)])).alloc (.cells #[.int .i64 s.size] 3)).alloc (.cells #[.string s] 9)
    simpa only [World.size_alloc] using this
  have bN : Boxed W0 (w.heap.size + 1 + 1) 3 (.int .i64 s.size) := by
    rw [← hW0]; have := (Boxed.new ((w.alloc (.cells #[.int .u32 a] 22)).alloc (.cells #[.func (.func 53) #[] #[.pointer (some ⟨w.heap.size, 0, none⟩)]] 75)) 3 (.int .i64 s.size)).alloc (.cells #[.string s] 9)
    simpa only [World.size_alloc] using this
  have bT : Boxed W0 (w.heap.size + 1 + 1 + 1) 9 (.string s) := by
    rw [← hW0]; have := Boxed.new (((w.alloc (.cells #[.int .u32 a] 22)).alloc (.cells #[.func (.func 53) #[] #[.pointer (some ⟨w.heap.size, 0, none⟩)]] 75)).alloc (.cells #[.int .i64 s.size] 3)) 9 (.string s)
    simpa only [World.size_alloc] using this
  have hB0 : Below w.heap.size w W0 := by rw [← hW0]; exact ((((Below.refl _ w).alloc (Nat.le_refl _) _).alloc (by simp) _).alloc (by simp; omega) _).alloc (by simp; omega) _
  have hs0 : W0.heap.size = w.heap.size + 4 := by rw [← hW0]; simp
  rw [hW0]
  have Hst := octets_stops 2 (by omega) (w.heap.size + 1 + 1 + 1) s (by unfold maxLen; have := Hs.out; omega) W0 bT
  refine wpIn_rangeFunc_ownG rfl (by omega) (gf := 50) (lb := #[.pointer (some ⟨w.heap.size + 1 + 1 + 1, 0, none⟩)]) rfl trivial (enters_of Try.func50 (by kernel_rfl) rfl)
    Hst keepsText_t keepsText_b (Below.refl _ _) (fun _ => rfl)
    (fun pre W => (Tells W w.heap.size (w.heap.size + 1) a ∧ Boxed W (w.heap.size + 1 + 1) 3 (.int .i64 ((s.size + pre.countP (hidden a) : Nat) : Int))) ∧ Below w.heap.size w W)
    (fun _ _ _ => False)
    (OwnFrom.and (Own.from (fun _ A B row hs hg hr => ⟨⟨boxed_stays hs.1.1 hg hr, boxed_stays hs.1.2 hg hr⟩, boxed_stays hs.2 hg hr⟩) _) (ownFrom_below (Nat.le_refl _) (by omega)))
    (fun _ _ _ _ _ hs _ _ => hs)
    ⟨⟨⟨bA, bH⟩, bN⟩, hB0⟩
    (fun x => { tmps := #[.string s, .int .u32 a, undef, undef, .int .i64 0, .pointer (some ⟨w.heap.size + 1, 0, none⟩), .pointer (some ⟨w.heap.size + 1 + 1, 0, none⟩), .int .u8 (x.toNat : Int), .int .u32 a,
      .func (.func 53) #[] #[.pointer (some ⟨w.heap.size, 0, none⟩)], .string s, .int .i64 s.size, .string s, .func (.func 50) #[] #[.pointer (some ⟨w.heap.size + 1 + 1 + 1, 0, none⟩)], .int .u8 (x.toNat : Int), undef, undef, undef, undef, undef, undef], defers := [] }) ?assign ?body ?done ?stop
  case assign =>
    intro l x W K hK
    gi_wp2
    exact hK
  case body =>
    rintro l pre x W ⟨⟨⟨bA, bH⟩, bN⟩, hB⟩ hlen
    clear Hst hW0 hB0 hs0 bT
    have Hcnt := Lib.hid (count_snoc a pre x)
    have hcl : pre.countP (hidden a) ≤ 1048576 := Nat.le_trans List.countP_le_length (by have := Hs.out; omega)
    have hsl : s.size ≤ 1048576 := Hs.out
    have HbA := Lib.hid bA
    have HbH := Lib.hid bH
    have HbN := Lib.hid bN
    have HB := Lib.hid hB
    have cH := bH.cell
    have cN := bN.cell
    have fN := bN.frozen
    clear bA bH bN hB hlen
    generalize pre.countP (hidden a) = q at *
    cases hx : hidden a x
    · have Hx := Lib.hid hx; clear hx
      gi_wp2_with (refine ⟨trivial, ?_⟩; gi_at_call 53; refine (CallsIn.inRound l (callsIn_wide.2 (tells_any a x w.heap.size _ Ha.out HbA.out))).mono ?_; rw [Hx.out]; rintro e w2 ⟨rfl, rfl⟩)
      have hv : (pre ++ [x]).countP (hidden a) = q := by rw [Hcnt.out, Hx.out]; rfl
      exact ⟨KeepsFrom.refl _ _, fun h => h, ⟨⟨HbA.out, HbH.out⟩, by rw [hv]; exact HbN.out⟩, HB.out⟩
    · have Hx := Lib.hid hx; clear hx
      gi_wp2_with (refine ⟨trivial, ?_⟩; gi_at_call 53; refine (CallsIn.inRound l (callsIn_wide.2 (tells_any a x w.heap.size _ Ha.out HbA.out))).mono ?_; rw [Hx.out]; rintro e w2 ⟨rfl, rfl⟩)
      have hv : (pre ++ [x]).countP (hidden a) = q + 1 := by rw [Hcnt.out, Hx.out]; rfl
      refine ⟨(KeepsOthers.setCell _ _ _).from _, fun h => h.other (by omega) _, ⟨⟨HbA.out.other (by omega) _, HbH.out.other (by omega) _⟩, ?_⟩, HB.out.setCell (p := ⟨w.heap.size + 1 + 1, 0, none⟩) (by simp; omega) _⟩
      rw [hv]
      exact HbN.out.set _
  case done =>
    rintro D ys W hD rfl ⟨⟨_, bN⟩, hB⟩ hK
    have cN := bN.cell
    have hL := put_length a s.toList
    rw [← size_toList] at hL
    rw [← hL] at cN
    clear hL
    gi_wp2
    refine ⟨by simp, .inl ⟨_, _, rfl, run_takeDeferred hK, ?_⟩⟩
    exact ⟨_, results_tmp rfl _ _ _, rfl, hB.trans (belowK_b (w := w) (Nat.le_refl _) W D _ _ (by omega) hK rfl rfl)⟩
  case stop =>
    rintro D c pre W _ _ h _
    exact h.elim
theorem size_any (s : ByteArray) (a : Nat) (w : World) (ha : a < 4294967296) (hs : s.size ≤ 1048576) :
    Calls Try.prog 44 #[.string s, .int .u32 a] w fun e w' => e = .returned (.int .i64 ((put a s.toList).length : Nat)) ∧ Below w.heap.size w w' := callsIn_wide.1 (size_in s a w ha hs)
end Go.Proofs.Ytfcmpnfdgfdclaa.Esc
