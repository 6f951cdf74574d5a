/- Put together: PapC, PapCk. -/
import Derived.Test.YtpfbknbloeilmaaDoorPapB
import Derived.Test.YtpfbknbloeilmaaDoorPapDef
import Derived.OrdersHeld
import Derived.Deep.RegionHeld3

/- Contracts of Asked and Answered, of both. -/
namespace Go.Proofs.YtpfbknbloeilmaaDoor.Pap
open Go.RowKit Go.Proofs.YtpfbknbloeilmaaDoor.Oct Go.Proofs.YtpfbknbloeilmaaDoor.Row Go.Proofs.YtpfbknbloeilmaaDoor.Mem

theorem load_str {P : Program} {w : World} {g : Nat} {ty : TypeId} {s : ByteArray} (hu : P.underlying ty = some .string) (hc : w.cell? ⟨g, 0, none⟩ = some (.string s)) : (loadVar ty ⟨g, 0, none⟩).run P w = .ok (.string s) w := by
  have hagg : (isAgg ty).run P w = .ok false w := by
    unfold isAgg
    rw [Sem.run_bind, run_underlying hu w]
    rfl
  simp [loadVar, Sem.run_bind, hagg, hc]
/-- Results that lie in boxes: two texts and a number; a number, a text and a number. -/
theorem results_cct {P : Program} {fn : Func} {p q t : Tmp} {ty : TypeId} (h : fn.results = #[.cell p ty, .cell q ty, .tmp t]) (tmps : Array Value) (w : World) (g g' : Nat) (a b : ByteArray) (hu : P.underlying ty = some .string)
    (hp : tmps.getD p undef = .pointer (some ⟨g, 0, none⟩)) (hq : tmps.getD q undef = .pointer (some ⟨g', 0, none⟩)) (ha : w.cell? ⟨g, 0, none⟩ = some (.string a)) (hb : w.cell? ⟨g', 0, none⟩ = some (.string b)) :
    (results fn tmps).run P w = .ok (.tuple #[.string a, .string b, tmps.getD t undef]) w := by
  have hp' : tmps[p]?.getD undef = .pointer (some ⟨g, 0, none⟩) := by simpa using hp
  have hq' : tmps[q]?.getD undef = .pointer (some ⟨g', 0, none⟩) := by simpa using hq
  simp [results, h, hp', hq', asAddr, load_str hu ha, load_str hu hb]
theorem results_tct {P : Program} {fn : Func} {p t u : Tmp} {ty : TypeId} (h : fn.results = #[.tmp t, .cell p ty, .tmp u]) (tmps : Array Value) (w : World) (g : Nat) (a : ByteArray) (hu : P.underlying ty = some .string)
    (hp : tmps.getD p undef = .pointer (some ⟨g, 0, none⟩)) (ha : w.cell? ⟨g, 0, none⟩ = some (.string a)) :
    (results fn tmps).run P w = .ok (.tuple #[tmps.getD t undef, .string a, tmps.getD u undef]) w := by
  have hp' : tmps[p]?.getD undef = .pointer (some ⟨g, 0, none⟩) := by simpa using hp
  simp [results, h, hp', asAddr, load_str hu ha]

theorem two_new (w : World) : Ptrs (((w.alloc (.cells #[.string ⟨#[]⟩] 9)).alloc (.cells #[.string ⟨#[]⟩] 9)).alloc (.cells #[.pointer (some ⟨w.heap.size, 0, none⟩), .pointer (some ⟨w.heap.size + 1, 0, none⟩)] 126)) ⟨w.heap.size + 1 + 1, 0, none⟩ [w.heap.size, w.heap.size + 1] ∧
    Cells (((w.alloc (.cells #[.string ⟨#[]⟩] 9)).alloc (.cells #[.string ⟨#[]⟩] 9)).alloc (.cells #[.pointer (some ⟨w.heap.size, 0, none⟩), .pointer (some ⟨w.heap.size + 1, 0, none⟩)] 126)) [w.heap.size, w.heap.size + 1] [⟨#[]⟩, ⟨#[]⟩] := by
  refine ⟨⟨by simp, by simp <;> omega, ?_⟩, rfl, ?_⟩
  · intro j b hb
    have h := cells_new ((w.alloc (.cells #[.string ⟨#[]⟩] 9)).alloc (.cells #[.string ⟨#[]⟩] 9)) #[.pointer (some ⟨w.heap.size, 0, none⟩), .pointer (some ⟨w.heap.size + 1, 0, none⟩)] 126 j (.pointer (some ⟨b, 0, none⟩))
    rw [World.size_alloc, World.size_alloc] at h
    refine h ?_
    match j, hb with
    | 0, hb => cases hb; rfl
    | 1, hb => cases hb; rfl
  · intro j b x hb hx
    match j, hb, hx with
    | 0, hb, hx => cases hb; cases hx; exact ((blk_new w [.string ⟨#[]⟩] 9).alloc _).alloc _
    | 1, hb, hx =>
      cases hb; cases hx
      have h := blk_new (w.alloc (.cells #[.string ⟨#[]⟩] 9)) [.string ⟨#[]⟩] 9
      rw [World.size_alloc] at h
      exact h.alloc _
theorem one_new (w : World) : Ptrs ((w.alloc (.cells #[.string ⟨#[]⟩] 9)).alloc (.cells #[.pointer (some ⟨w.heap.size, 0, none⟩)] 126)) ⟨w.heap.size + 1, 0, none⟩ [w.heap.size] ∧
    Cells ((w.alloc (.cells #[.string ⟨#[]⟩] 9)).alloc (.cells #[.pointer (some ⟨w.heap.size, 0, none⟩)] 126)) [w.heap.size] [⟨#[]⟩] := by
  refine ⟨⟨by simp, by simp, ?_⟩, rfl, ?_⟩
  · intro j b hb
    have h := cells_new (w.alloc (.cells #[.string ⟨#[]⟩] 9)) #[.pointer (some ⟨w.heap.size, 0, none⟩)] 126 j (.pointer (some ⟨b, 0, none⟩))
    rw [World.size_alloc] at h
    refine h ?_
    match j, hb with
    | 0, hb => cases hb; rfl
  · intro j b x hb hx
    match j, hb, hx with
    | 0, hb, hx => cases hb; cases hx; exact (blk_new w [.string ⟨#[]⟩] 9).alloc _

set_option maxHeartbeats 1000000 in
set_option maxRecDepth 100000 in
theorem asked_any (c i : UInt8) (d : ByteArray) (w : World) (hd : d.size ≤ maxLen) :
    Calls Tryd.prog 66 #[.agg #[.int .u8 c.toNat, .int .u8 i.toNat, .string d]] w fun e w' => e = .returned (asV c d) ∧ Below w.heap.size w w' := by
  by_cases hc : c = 1
  · subst hc
    obtain ⟨a, b, hab, hV⟩ := asV_yes d
    rw [hV]
    go_enter Tryd.func66, Tryd.ntmps66
    go_wp2_with fail
    have H := two_new (w.alloc (.cells #[.int .u8 1, .int .u8 i.toNat, .string d] 46))
    rw [World.size_alloc] at H
    refine (read_any [w.heap.size + 1, w.heap.size + 1 + 1] _ d _ 2 _ (show 2 ≤ 1000000 by decide) hd H.1 H.2 (by simp)).mono ?_
    rintro e w1 ⟨rfl, hC, hM⟩
    rw [show [w.heap.size + 1, w.heap.size + 1 + 1].length = 2 from rfl, hab] at hC
    have C0 := Lib.hid (hC.2 0 _ a rfl rfl)
    have C1 := Lib.hid (hC.2 1 _ b rfl rfl)
    have HB : Hid (Below w.heap.size w w1) := ((((((Below.refl _ w).alloc (Nat.le_refl _) _).alloc (by simp <;> omega) _).alloc (by simp <;> omega) _).alloc (by simp <;> omega) _).trans (hM.below (by simp <;> omega) (fun k hk => by simp at hk; omega)))
    have c0 : w1.cell? ⟨w.heap.size + 1, 0, none⟩ = some (.string a) := C0.out.at_ 0
    have f0 : w1.frozen? ⟨w.heap.size + 1, 0, none⟩ = false := C0.out.frozen 0
    have c1 : w1.cell? ⟨w.heap.size + 1 + 1, 0, none⟩ = some (.string b) := C1.out.at_ 0
    have D1 := Lib.hid (Blk.other C1.out (i := 0) (show w.heap.size + 1 + 1 ≠ w.heap.size + 1 by omega) (.string a))
    have d1 : (w1.setCell ⟨w.heap.size + 1, 0, none⟩ (.string a)).cell? ⟨w.heap.size + 1 + 1, 0, none⟩ = some (.string b) := D1.out.at_ 0
    have f1 : (w1.setCell ⟨w.heap.size + 1, 0, none⟩ (.string a)).frozen? ⟨w.heap.size + 1 + 1, 0, none⟩ = false := D1.out.frozen 0
    clear hC hM H
    go_wp2
    refine bodyPost_ret (results_cct rfl _ _ (w.heap.size + 1) (w.heap.size + 1 + 1) a b Tryd.underlying9 rfl rfl ?_ ?_) rfl ?_
    · exact (Blk.other (C0.out.set 0 (.string a)) (i := 0) (show w.heap.size + 1 ≠ w.heap.size + 1 + 1 by omega) (.string b)).at_ 0
    · exact (D1.out.set 0 (.string b)).at_ 0
    · exact ⟨rfl, (HB.out.setCell (p := ⟨w.heap.size + 1, 0, none⟩) (Nat.le_succ _) _).setCell (p := ⟨w.heap.size + 1 + 1, 0, none⟩) (show w.heap.size ≤ w.heap.size + 1 + 1 by omega) _⟩
  · rw [asV_no hc]
    have h1 : ((c.toNat : Int) != 1) = true := by
      rw [bne_iff_ne]
      intro e
      exact hc (UInt8.toNat_inj.1 (by show c.toNat = 1; omega))
    clear hc
    go_enter Tryd.func66, Tryd.ntmps66
    go_wp2_with fail
    have H := (two_new (w.alloc (.cells #[.int .u8 c.toNat, .int .u8 i.toNat, .string d] 46))).2
    rw [World.size_alloc] at H
    refine bodyPost_ret (results_cct rfl _ _ (w.heap.size + 1) (w.heap.size + 1 + 1) (bOf []) (bOf []) Tryd.underlying9 rfl rfl ?_ ?_) rfl ?_
    · have h := ((blk_new (w.alloc (.cells #[.int .u8 c.toNat, .int .u8 i.toNat, .string d] 46)) [.string ⟨#[]⟩] 9).alloc (.cells #[.string ⟨#[]⟩] 9)).at_ 0
      simp only [World.size_alloc] at h
      exact h
    · have h := (blk_new ((w.alloc (.cells #[.int .u8 c.toNat, .int .u8 i.toNat, .string d] 46)).alloc (.cells #[.string ⟨#[]⟩] 9)) [.string ⟨#[]⟩] 9).at_ 0
      simp only [World.size_alloc] at h
      exact h
    · exact ⟨rfl, (((Below.refl _ w).alloc (Nat.le_refl _) _).alloc (by simp) _).alloc (by simp <;> omega) _⟩

theorem anV_no {c : UInt8} (h2 : c ≠ 2) (h3 : c ≠ 3) (d : ByteArray) : anV c d = .tuple #[.bool false, .string (bOf []), .int .i64 8] := by simp [anV, anT, anW, anE, h2, h3]
theorem anV_yes {c : UInt8} (h : c = 2 ∨ c = 3) (d : ByteArray) : ∃ a, rdT 1 d.toList = [a] ∧ anV c d = .tuple #[.bool (decide (c = 2) && decide (rdE 1 d.toList = 0)), .string a, .int .i64 (rdE 1 d.toList)] := by
  have hl := rdT_length 1 d.toList
  match hq : rdT 1 d.toList, hl with
  | [a], _ => exact ⟨a, rfl, by simp [anV, anT, anE, anW, hq, h]⟩

set_option maxHeartbeats 1000000 in
set_option maxRecDepth 100000 in
theorem answered_any (c i : UInt8) (d : ByteArray) (w : World) (hd : d.size ≤ maxLen) :
    Calls Tryd.prog 95 #[.agg #[.int .u8 c.toNat, .int .u8 i.toNat, .string d]] w fun e w' => e = .returned (anV c d) ∧ Below w.heap.size w w' := by
  by_cases hc : c = 2 ∨ c = 3
  · obtain ⟨a, ha, hV⟩ := anV_yes hc d
    rw [hV]
    obtain ⟨b2, hb2⟩ : ∃ b2 : Bool, decide (c = 2) = b2 := ⟨_, rfl⟩
    have h2 : ((c.toNat : Int) == 2) = b2 := by
      rw [← hb2, Bool.eq_iff_iff, beq_iff_eq, decide_eq_true_eq]
      exact ⟨fun e => UInt8.toNat_inj.1 (by show c.toNat = 2; omega), fun e => by rw [e]; rfl⟩
    have h2' : ((c.toNat : Int) != 2) = !b2 := by rw [bne, h2]
    have h3' : b2 = false → ((c.toNat : Int) != 3) = false := by
      intro e
      rcases hc with rfl | rfl
      · rw [← hb2] at e; cases e
      · rfl
    rw [hb2]
    go_enter Tryd.func95, Tryd.ntmps95
    cases b2
    · have h3 := h3' rfl
      clear h3' hc hb2 hV
      obtain ⟨E, hE⟩ : ∃ E, rdE 1 d.toList = E := ⟨_, rfl⟩
      go_wp2_with fail
      have H := one_new (w.alloc (.cells #[.int .u8 c.toNat, .int .u8 i.toNat, .string d] 46))
      rw [World.size_alloc] at H
      refine (read_any [w.heap.size + 1] _ d _ 1 _ (show 1 ≤ 1000000 by decide) hd H.1 H.2 (by simp)).mono ?_
      rintro e w1 ⟨he, hC, hM⟩
      rw [show [w.heap.size + 1].length = 1 from rfl, hE] at he
      rw [show [w.heap.size + 1].length = 1 from rfl, ha] at hC
      subst he
      have C0 := Lib.hid (hC.2 0 _ a rfl rfl)
      have HB : Hid (Below w.heap.size w w1) := (((((Below.refl _ w).alloc (Nat.le_refl _) _).alloc (by simp <;> omega) _).alloc (by simp <;> omega) _).trans (hM.below (by simp <;> omega) (fun k hk => by simp at hk; omega)))
      have HPk : Hid (Blk w1 w.heap.size [.int .u8 c.toNat, .int .u8 i.toNat, .string d] 46) := Blk.moves (((blk_new w _ _).alloc _).alloc _) hM (fun h => by simp at h)
      have c0 : w1.cell? ⟨w.heap.size + 1, 0, none⟩ = some (.string a) := C0.out.at_ 0
      have f0 : w1.frozen? ⟨w.heap.size + 1, 0, none⟩ = false := C0.out.frozen 0
      have p0 : w1.cell? ⟨w.heap.size, 0, none⟩ = some (.int .u8 c.toNat) := HPk.out.at_ 0
      clear hC hM H
      go_wp2_with fail
      by_cases h0 : E = 0
      · subst h0
        refine wp_region_held_drew (S := (fun w' => w'.cell? ⟨w.heap.size, 0, none⟩ = some (.int .u8 c.toNat) ∧ w'.cell? ⟨w.heap.size + 1, 0, none⟩ = some (.string a) ∧ w'.frozen? ⟨w.heap.size + 1, 0, none⟩ = false ∧ Below w.heap.size w w' ∧ Blk w' (w.heap.size + 1) [.string a] 9)) (by kernel_rfl) ⟨p0, c0, f0, HB.out.drew, C0.out.drew⟩ (fun hHeld => ?_)
        refine wpAnyH_take (i := 0) (v := ?vv0_1) rfl (by kernel_rfl) (by kernel_rfl) (by kernel_rfl) (fun _ _ _ h => h) (Or.inl ⟨by rfl, ?yy0_1⟩) (by assumption) ?rr0_1
        case yy0_1 => (intro w hSw; (try dsimp only at hSw); (try simp only [List.getElem_toArray, List.getElem_cons_succ, List.getElem_cons_zero, Act.put, List.setIfInBounds_toArray, List.set_cons_zero, List.set_cons_succ]); go_simp; (try (with_reducible rfl)))
        try simp only [List.getElem_toArray, List.getElem_cons_succ, List.getElem_cons_zero, Act.put, List.setIfInBounds_toArray, List.set_cons_zero, List.set_cons_succ]
        refine wpAnyH_take (i := 1) (v := ?vv1_2) rfl (by kernel_rfl) (by kernel_rfl) (by kernel_rfl) (fun _ _ _ h => h) (Or.inl ⟨by rfl, ?yy1_2⟩) (by assumption) ?rr1_2
        case yy1_2 => (intro w hSw; (try dsimp only at hSw); (try simp only [List.getElem_toArray, List.getElem_cons_succ, List.getElem_cons_zero, Act.put, List.setIfInBounds_toArray, List.set_cons_zero, List.set_cons_succ]); go_simp; (try (with_reducible rfl)))
        try simp only [List.getElem_toArray, List.getElem_cons_succ, List.getElem_cons_zero, Act.put, List.setIfInBounds_toArray, List.set_cons_zero, List.set_cons_succ]
        refine wpAnyH_take (i := 2) (v := ?vv2_3) rfl (by kernel_rfl) (by kernel_rfl) (by kernel_rfl) (fun _ _ _ h => h) (Or.inl ⟨by rfl, ?yy2_3⟩) (by assumption) ?rr2_3
        case yy2_3 => (intro w hSw; (try dsimp only at hSw); (try simp only [List.getElem_toArray, List.getElem_cons_succ, List.getElem_cons_zero, Act.put, List.setIfInBounds_toArray, List.set_cons_zero, List.set_cons_succ]); go_simp; (try (with_reducible rfl)))
        try simp only [List.getElem_toArray, List.getElem_cons_succ, List.getElem_cons_zero, Act.put, List.setIfInBounds_toArray, List.set_cons_zero, List.set_cons_succ]
        refine wpAnyH_take (i := 3) (v := ?vv3_4) rfl (by kernel_rfl) (by kernel_rfl) (by kernel_rfl) (fun _ _ _ h => h) (Or.inl ⟨by rfl, ?yy3_4⟩) (by assumption) ?rr3_4
        case yy3_4 => (intro w hSw; (try dsimp only at hSw); (try simp only [List.getElem_toArray, List.getElem_cons_succ, List.getElem_cons_zero, Act.put, List.setIfInBounds_toArray, List.set_cons_zero, List.set_cons_succ]); go_simp; (try (with_reducible rfl)))
        try simp only [List.getElem_toArray, List.getElem_cons_succ, List.getElem_cons_zero, Act.put, List.setIfInBounds_toArray, List.set_cons_zero, List.set_cons_succ]
        refine wpAnyH_take (i := 4) (v := ?vv4_5) rfl (by kernel_rfl) (by kernel_rfl) (by kernel_rfl) (fun _ _ _ h => h) (Or.inl ⟨by rfl, ?yy4_5⟩) (by assumption) ?rr4_5
        case yy4_5 => (intro w hSw; (try dsimp only at hSw); (try simp only [List.getElem_toArray, List.getElem_cons_succ, List.getElem_cons_zero, Act.put, List.setIfInBounds_toArray, List.set_cons_zero, List.set_cons_succ]); go_simp; (try (with_reducible rfl)))
        try simp only [List.getElem_toArray, List.getElem_cons_succ, List.getElem_cons_zero, Act.put, List.setIfInBounds_toArray, List.set_cons_zero, List.set_cons_succ]
        refine wpAnyH_take (i := 5) (v := ?vv5_6) rfl (by kernel_rfl) (by kernel_rfl) (by kernel_rfl) (fun _ _ _ h => h) (Or.inl ⟨by rfl, ?yy5_6⟩) (by assumption) ?rr5_6
        case yy5_6 => (intro w hSw; (try dsimp only at hSw); (try simp only [List.getElem_toArray, List.getElem_cons_succ, List.getElem_cons_zero, Act.put, List.setIfInBounds_toArray, List.set_cons_zero, List.set_cons_succ]); go_simp; (try (with_reducible rfl)))
        try simp only [List.getElem_toArray, List.getElem_cons_succ, List.getElem_cons_zero, Act.put, List.setIfInBounds_toArray, List.set_cons_zero, List.set_cons_succ]
        refine wpAnyH_take (i := 6) (v := ?vv6_7) rfl (by kernel_rfl) (by kernel_rfl) (by kernel_rfl) (fun _ _ _ h => h) (Or.inl ⟨by rfl, ?yy6_7⟩) (by assumption) ?rr6_7
        case yy6_7 => (intro w hSw; (try dsimp only at hSw); (try simp only [List.getElem_toArray, List.getElem_cons_succ, List.getElem_cons_zero, Act.put, List.setIfInBounds_toArray, List.set_cons_zero, List.set_cons_succ]); go_simp; (try (with_reducible rfl)))
        try simp only [List.getElem_toArray, List.getElem_cons_succ, List.getElem_cons_zero, Act.put, List.setIfInBounds_toArray, List.set_cons_zero, List.set_cons_succ]
        refine wpAnyH_take (i := 7) (v := ?vv7_8) rfl (by kernel_rfl) (by kernel_rfl) (by kernel_rfl) (fun _ _ _ h => h) (Or.inl ⟨by rfl, ?yy7_8⟩) (by assumption) ?rr7_8
        case yy7_8 => (intro w hSw; (try dsimp only at hSw); (try simp only [List.getElem_toArray, List.getElem_cons_succ, List.getElem_cons_zero, Act.put, List.setIfInBounds_toArray, List.set_cons_zero, List.set_cons_succ]); go_simp; (try (with_reducible rfl)))
        try simp only [List.getElem_toArray, List.getElem_cons_succ, List.getElem_cons_zero, Act.put, List.setIfInBounds_toArray, List.set_cons_zero, List.set_cons_succ]
        refine wpAnyH_take (i := 8) (v := ?vv8_9) rfl (by kernel_rfl) (by kernel_rfl) (by kernel_rfl) (fun _ _ _ h => h) (Or.inl ⟨by rfl, ?yy8_9⟩) (by assumption) ?rr8_9
        case yy8_9 => (intro w hSw; (try dsimp only at hSw); (try simp only [List.getElem_toArray, List.getElem_cons_succ, List.getElem_cons_zero, Act.put, List.setIfInBounds_toArray, List.set_cons_zero, List.set_cons_succ]); go_simp; (try (with_reducible rfl)))
        try simp only [List.getElem_toArray, List.getElem_cons_succ, List.getElem_cons_zero, Act.put, List.setIfInBounds_toArray, List.set_cons_zero, List.set_cons_succ]
        refine wpAnyH_take (i := 9) (v := ?vv9_10) rfl (by kernel_rfl) (by kernel_rfl) (by kernel_rfl) (fun _ _ _ h => h) (Or.inl ⟨by rfl, ?yy9_10⟩) (by assumption) ?rr9_10
        case yy9_10 => (intro w hSw; (try dsimp only at hSw); (try simp only [List.getElem_toArray, List.getElem_cons_succ, List.getElem_cons_zero, Act.put, List.setIfInBounds_toArray, List.set_cons_zero, List.set_cons_succ]); go_simp; (try (with_reducible rfl)))
        try simp only [List.getElem_toArray, List.getElem_cons_succ, List.getElem_cons_zero, Act.put, List.setIfInBounds_toArray, List.set_cons_zero, List.set_cons_succ]
        refine wpAnyH_ready (rs := [10]) (by kernel_rfl) (by simp) ?_
        refine AllReadyH.cons (o := _) rfl (fun K hK => ?_) AllReadyH.nil
        try simp only [List.getElem_toArray, List.getElem_cons_succ, List.getElem_cons_zero, Act.put, List.setIfInBounds_toArray, List.set_cons_zero, List.set_cons_succ]
        go_simp
        refine hK.out _ _ ⟨(Blk.other HPk.out (i := 0) (show w.heap.size ≠ w.heap.size + 1 by omega) (.string a)).at_ 0, (C0.out.set 0 (.string a)).at_ 0, (C0.out.set 0 (.string a)).frozen 0, (HB.out.setCell (p := ⟨w.heap.size + 1, 0, none⟩) (Nat.le_succ _) (.string a)).drew, C0.out.set 0 (.string a)⟩ (fun hHeld => ?_)
        clear hK K
        try simp only [List.getElem_toArray, List.getElem_cons_succ, List.getElem_cons_zero, Act.put, List.setIfInBounds_toArray, List.set_cons_zero, List.set_cons_succ]
        refine wpAnyH_take (i := 11) (v := ?vv11_11) rfl (by kernel_rfl) (by kernel_rfl) (by kernel_rfl) (fun _ _ _ h => h) (Or.inl ⟨by rfl, ?yy11_11⟩) (by assumption) ?rr11_11
        case yy11_11 => (intro w hSw; (try dsimp only at hSw); (try simp only [List.getElem_toArray, List.getElem_cons_succ, List.getElem_cons_zero, Act.put, List.setIfInBounds_toArray, List.set_cons_zero, List.set_cons_succ]); go_simp; (try (with_reducible rfl)))
        try simp only [List.getElem_toArray, List.getElem_cons_succ, List.getElem_cons_zero, Act.put, List.setIfInBounds_toArray, List.set_cons_zero, List.set_cons_succ]
        refine wpAnyH_done (by kernel_rfl) ?_ _
        go_wp2_with fail
        refine bodyPost_ret (results_tct rfl _ _ (w.heap.size + 1) a Tryd.underlying9 rfl hHeld.2.1) rfl ?_
        refine ⟨?_, hHeld.2.2.2.1⟩
        rw [hE]
        first | (simp; done) | simp [h0]
      · have h1 : (E == 0) = false := by rw [beq_eq_false_iff_ne]; exact h0
        refine wp_region_held_drew (S := (fun w' => w'.cell? ⟨w.heap.size, 0, none⟩ = some (.int .u8 c.toNat) ∧ w'.cell? ⟨w.heap.size + 1, 0, none⟩ = some (.string a) ∧ w'.frozen? ⟨w.heap.size + 1, 0, none⟩ = false ∧ Below w.heap.size w w' ∧ Blk w' (w.heap.size + 1) [.string a] 9)) (by kernel_rfl) ⟨p0, c0, f0, HB.out.drew, C0.out.drew⟩ (fun hHeld => ?_)
        refine wpAnyH_take (i := 0) (v := ?vv0_12) rfl (by kernel_rfl) (by kernel_rfl) (by kernel_rfl) (fun _ _ _ h => h) (Or.inl ⟨by rfl, ?yy0_12⟩) (by assumption) ?rr0_12
        case yy0_12 => (intro w hSw; (try dsimp only at hSw); (try simp only [List.getElem_toArray, List.getElem_cons_succ, List.getElem_cons_zero, Act.put, List.setIfInBounds_toArray, List.set_cons_zero, List.set_cons_succ]); go_simp; (try (with_reducible rfl)))
        try simp only [List.getElem_toArray, List.getElem_cons_succ, List.getElem_cons_zero, Act.put, List.setIfInBounds_toArray, List.set_cons_zero, List.set_cons_succ]
        refine wpAnyH_take (i := 1) (v := ?vv1_13) rfl (by kernel_rfl) (by kernel_rfl) (by kernel_rfl) (fun _ _ _ h => h) (Or.inl ⟨by rfl, ?yy1_13⟩) (by assumption) ?rr1_13
        case yy1_13 => (intro w hSw; (try dsimp only at hSw); (try simp only [List.getElem_toArray, List.getElem_cons_succ, List.getElem_cons_zero, Act.put, List.setIfInBounds_toArray, List.set_cons_zero, List.set_cons_succ]); go_simp; (try (with_reducible rfl)))
        try simp only [List.getElem_toArray, List.getElem_cons_succ, List.getElem_cons_zero, Act.put, List.setIfInBounds_toArray, List.set_cons_zero, List.set_cons_succ]
        refine wpAnyH_take (i := 2) (v := ?vv2_14) rfl (by kernel_rfl) (by kernel_rfl) (by kernel_rfl) (fun _ _ _ h => h) (Or.inl ⟨by rfl, ?yy2_14⟩) (by assumption) ?rr2_14
        case yy2_14 => (intro w hSw; (try dsimp only at hSw); (try simp only [List.getElem_toArray, List.getElem_cons_succ, List.getElem_cons_zero, Act.put, List.setIfInBounds_toArray, List.set_cons_zero, List.set_cons_succ]); go_simp; (try (with_reducible rfl)))
        try simp only [List.getElem_toArray, List.getElem_cons_succ, List.getElem_cons_zero, Act.put, List.setIfInBounds_toArray, List.set_cons_zero, List.set_cons_succ]
        refine wpAnyH_take (i := 3) (v := undef) rfl (by kernel_rfl) (by kernel_rfl) (by kernel_rfl) (fun _ _ _ h => h) (Or.inr ⟨by rfl, rfl⟩) (by assumption) ?_
        try simp only [List.getElem_toArray, List.getElem_cons_succ, List.getElem_cons_zero, Act.put, List.setIfInBounds_toArray, List.set_cons_zero, List.set_cons_succ]
        refine wpAnyH_take (i := 4) (v := undef) rfl (by kernel_rfl) (by kernel_rfl) (by kernel_rfl) (fun _ _ _ h => h) (Or.inr ⟨by rfl, rfl⟩) (by assumption) ?_
        try simp only [List.getElem_toArray, List.getElem_cons_succ, List.getElem_cons_zero, Act.put, List.setIfInBounds_toArray, List.set_cons_zero, List.set_cons_succ]
        refine wpAnyH_take (i := 5) (v := undef) rfl (by kernel_rfl) (by kernel_rfl) (by kernel_rfl) (fun _ _ _ h => h) (Or.inr ⟨by rfl, rfl⟩) (by assumption) ?_
        try simp only [List.getElem_toArray, List.getElem_cons_succ, List.getElem_cons_zero, Act.put, List.setIfInBounds_toArray, List.set_cons_zero, List.set_cons_succ]
        refine wpAnyH_take (i := 6) (v := ?vv6_15) rfl (by kernel_rfl) (by kernel_rfl) (by kernel_rfl) (fun _ _ _ h => h) (Or.inl ⟨by rfl, ?yy6_15⟩) (by assumption) ?rr6_15
        case yy6_15 => (intro w hSw; (try dsimp only at hSw); (try simp only [List.getElem_toArray, List.getElem_cons_succ, List.getElem_cons_zero, Act.put, List.setIfInBounds_toArray, List.set_cons_zero, List.set_cons_succ]); go_simp; (try (with_reducible rfl)))
        try simp only [List.getElem_toArray, List.getElem_cons_succ, List.getElem_cons_zero, Act.put, List.setIfInBounds_toArray, List.set_cons_zero, List.set_cons_succ]
        refine wpAnyH_take (i := 7) (v := ?vv7_16) rfl (by kernel_rfl) (by kernel_rfl) (by kernel_rfl) (fun _ _ _ h => h) (Or.inl ⟨by rfl, ?yy7_16⟩) (by assumption) ?rr7_16
        case yy7_16 => (intro w hSw; (try dsimp only at hSw); (try simp only [List.getElem_toArray, List.getElem_cons_succ, List.getElem_cons_zero, Act.put, List.setIfInBounds_toArray, List.set_cons_zero, List.set_cons_succ]); go_simp; (try (with_reducible rfl)))
        try simp only [List.getElem_toArray, List.getElem_cons_succ, List.getElem_cons_zero, Act.put, List.setIfInBounds_toArray, List.set_cons_zero, List.set_cons_succ]
        refine wpAnyH_take (i := 8) (v := ?vv8_17) rfl (by kernel_rfl) (by kernel_rfl) (by kernel_rfl) (fun _ _ _ h => h) (Or.inl ⟨by rfl, ?yy8_17⟩) (by assumption) ?rr8_17
        case yy8_17 => (intro w hSw; (try dsimp only at hSw); (try simp only [List.getElem_toArray, List.getElem_cons_succ, List.getElem_cons_zero, Act.put, List.setIfInBounds_toArray, List.set_cons_zero, List.set_cons_succ]); go_simp; (try (with_reducible rfl)))
        try simp only [List.getElem_toArray, List.getElem_cons_succ, List.getElem_cons_zero, Act.put, List.setIfInBounds_toArray, List.set_cons_zero, List.set_cons_succ]
        refine wpAnyH_take (i := 9) (v := ?vv9_18) rfl (by kernel_rfl) (by kernel_rfl) (by kernel_rfl) (fun _ _ _ h => h) (Or.inl ⟨by rfl, ?yy9_18⟩) (by assumption) ?rr9_18
        case yy9_18 => (intro w hSw; (try dsimp only at hSw); (try simp only [List.getElem_toArray, List.getElem_cons_succ, List.getElem_cons_zero, Act.put, List.setIfInBounds_toArray, List.set_cons_zero, List.set_cons_succ]); go_simp; (try (with_reducible rfl)))
        try simp only [List.getElem_toArray, List.getElem_cons_succ, List.getElem_cons_zero, Act.put, List.setIfInBounds_toArray, List.set_cons_zero, List.set_cons_succ]
        refine wpAnyH_ready (rs := [10]) (by kernel_rfl) (by simp) ?_
        refine AllReadyH.cons (o := _) rfl (fun K hK => ?_) AllReadyH.nil
        try simp only [List.getElem_toArray, List.getElem_cons_succ, List.getElem_cons_zero, Act.put, List.setIfInBounds_toArray, List.set_cons_zero, List.set_cons_succ]
        go_simp
        refine hK.out _ _ ⟨(Blk.other HPk.out (i := 0) (show w.heap.size ≠ w.heap.size + 1 by omega) (.string a)).at_ 0, (C0.out.set 0 (.string a)).at_ 0, (C0.out.set 0 (.string a)).frozen 0, (HB.out.setCell (p := ⟨w.heap.size + 1, 0, none⟩) (Nat.le_succ _) (.string a)).drew, C0.out.set 0 (.string a)⟩ (fun hHeld => ?_)
        clear hK K
        try simp only [List.getElem_toArray, List.getElem_cons_succ, List.getElem_cons_zero, Act.put, List.setIfInBounds_toArray, List.set_cons_zero, List.set_cons_succ]
        refine wpAnyH_take (i := 11) (v := ?vv11_19) rfl (by kernel_rfl) (by kernel_rfl) (by kernel_rfl) (fun _ _ _ h => h) (Or.inl ⟨by rfl, ?yy11_19⟩) (by assumption) ?rr11_19
        case yy11_19 => (intro w hSw; (try dsimp only at hSw); (try simp only [List.getElem_toArray, List.getElem_cons_succ, List.getElem_cons_zero, Act.put, List.setIfInBounds_toArray, List.set_cons_zero, List.set_cons_succ]); go_simp; (try (with_reducible rfl)))
        try simp only [List.getElem_toArray, List.getElem_cons_succ, List.getElem_cons_zero, Act.put, List.setIfInBounds_toArray, List.set_cons_zero, List.set_cons_succ]
        refine wpAnyH_done (by kernel_rfl) ?_ _
        go_wp2_with fail
        refine bodyPost_ret (results_tct rfl _ _ (w.heap.size + 1) a Tryd.underlying9 rfl hHeld.2.1) rfl ?_
        refine ⟨?_, hHeld.2.2.2.1⟩
        rw [hE]
        first | (simp; done) | simp [h0]
    · clear h3' hc hb2 hV
      obtain ⟨E, hE⟩ : ∃ E, rdE 1 d.toList = E := ⟨_, rfl⟩
      go_wp2_with fail
      have H := one_new (w.alloc (.cells #[.int .u8 c.toNat, .int .u8 i.toNat, .string d] 46))
      rw [World.size_alloc] at H
      refine (read_any [w.heap.size + 1] _ d _ 1 _ (show 1 ≤ 1000000 by decide) hd H.1 H.2 (by simp)).mono ?_
      rintro e w1 ⟨he, hC, hM⟩
      rw [show [w.heap.size + 1].length = 1 from rfl, hE] at he
      rw [show [w.heap.size + 1].length = 1 from rfl, ha] at hC
      subst he
      have C0 := Lib.hid (hC.2 0 _ a rfl rfl)
      have HB : Hid (Below w.heap.size w w1) := (((((Below.refl _ w).alloc (Nat.le_refl _) _).alloc (by simp <;> omega) _).alloc (by simp <;> omega) _).trans (hM.below (by simp <;> omega) (fun k hk => by simp at hk; omega)))
      have HPk : Hid (Blk w1 w.heap.size [.int .u8 c.toNat, .int .u8 i.toNat, .string d] 46) := Blk.moves (((blk_new w _ _).alloc _).alloc _) hM (fun h => by simp at h)
      have c0 : w1.cell? ⟨w.heap.size + 1, 0, none⟩ = some (.string a) := C0.out.at_ 0
      have f0 : w1.frozen? ⟨w.heap.size + 1, 0, none⟩ = false := C0.out.frozen 0
      have p0 : w1.cell? ⟨w.heap.size, 0, none⟩ = some (.int .u8 c.toNat) := HPk.out.at_ 0
      clear hC hM H
      go_wp2_with fail
      by_cases h0 : E = 0
      · subst h0
        refine wp_region_held_drew (S := (fun w' => w'.cell? ⟨w.heap.size, 0, none⟩ = some (.int .u8 c.toNat) ∧ w'.cell? ⟨w.heap.size + 1, 0, none⟩ = some (.string a) ∧ w'.frozen? ⟨w.heap.size + 1, 0, none⟩ = false ∧ Below w.heap.size w w' ∧ Blk w' (w.heap.size + 1) [.string a] 9)) (by kernel_rfl) ⟨p0, c0, f0, HB.out.drew, C0.out.drew⟩ (fun hHeld => ?_)
        refine wpAnyH_take (i := 0) (v := ?vv0_20) rfl (by kernel_rfl) (by kernel_rfl) (by kernel_rfl) (fun _ _ _ h => h) (Or.inl ⟨by rfl, ?yy0_20⟩) (by assumption) ?rr0_20
        case yy0_20 => (intro w hSw; (try dsimp only at hSw); (try simp only [List.getElem_toArray, List.getElem_cons_succ, List.getElem_cons_zero, Act.put, List.setIfInBounds_toArray, List.set_cons_zero, List.set_cons_succ]); go_simp; (try (with_reducible rfl)))
        try simp only [List.getElem_toArray, List.getElem_cons_succ, List.getElem_cons_zero, Act.put, List.setIfInBounds_toArray, List.set_cons_zero, List.set_cons_succ]
        refine wpAnyH_take (i := 1) (v := ?vv1_21) rfl (by kernel_rfl) (by kernel_rfl) (by kernel_rfl) (fun _ _ _ h => h) (Or.inl ⟨by rfl, ?yy1_21⟩) (by assumption) ?rr1_21
        case yy1_21 => (intro w hSw; (try dsimp only at hSw); (try simp only [List.getElem_toArray, List.getElem_cons_succ, List.getElem_cons_zero, Act.put, List.setIfInBounds_toArray, List.set_cons_zero, List.set_cons_succ]); go_simp; (try (with_reducible rfl)))
        try simp only [List.getElem_toArray, List.getElem_cons_succ, List.getElem_cons_zero, Act.put, List.setIfInBounds_toArray, List.set_cons_zero, List.set_cons_succ]
        refine wpAnyH_take (i := 2) (v := ?vv2_22) rfl (by kernel_rfl) (by kernel_rfl) (by kernel_rfl) (fun _ _ _ h => h) (Or.inl ⟨by rfl, ?yy2_22⟩) (by assumption) ?rr2_22
        case yy2_22 => (intro w hSw; (try dsimp only at hSw); (try simp only [List.getElem_toArray, List.getElem_cons_succ, List.getElem_cons_zero, Act.put, List.setIfInBounds_toArray, List.set_cons_zero, List.set_cons_succ]); go_simp; (try (with_reducible rfl)))
        try simp only [List.getElem_toArray, List.getElem_cons_succ, List.getElem_cons_zero, Act.put, List.setIfInBounds_toArray, List.set_cons_zero, List.set_cons_succ]
        refine wpAnyH_take (i := 3) (v := ?vv3_23) rfl (by kernel_rfl) (by kernel_rfl) (by kernel_rfl) (fun _ _ _ h => h) (Or.inl ⟨by rfl, ?yy3_23⟩) (by assumption) ?rr3_23
        case yy3_23 => (intro w hSw; (try dsimp only at hSw); (try simp only [List.getElem_toArray, List.getElem_cons_succ, List.getElem_cons_zero, Act.put, List.setIfInBounds_toArray, List.set_cons_zero, List.set_cons_succ]); go_simp; (try (with_reducible rfl)))
        try simp only [List.getElem_toArray, List.getElem_cons_succ, List.getElem_cons_zero, Act.put, List.setIfInBounds_toArray, List.set_cons_zero, List.set_cons_succ]
        refine wpAnyH_take (i := 4) (v := ?vv4_24) rfl (by kernel_rfl) (by kernel_rfl) (by kernel_rfl) (fun _ _ _ h => h) (Or.inl ⟨by rfl, ?yy4_24⟩) (by assumption) ?rr4_24
        case yy4_24 => (intro w hSw; (try dsimp only at hSw); (try simp only [List.getElem_toArray, List.getElem_cons_succ, List.getElem_cons_zero, Act.put, List.setIfInBounds_toArray, List.set_cons_zero, List.set_cons_succ]); go_simp; (try (with_reducible rfl)))
        try simp only [List.getElem_toArray, List.getElem_cons_succ, List.getElem_cons_zero, Act.put, List.setIfInBounds_toArray, List.set_cons_zero, List.set_cons_succ]
        refine wpAnyH_take (i := 5) (v := ?vv5_25) rfl (by kernel_rfl) (by kernel_rfl) (by kernel_rfl) (fun _ _ _ h => h) (Or.inl ⟨by rfl, ?yy5_25⟩) (by assumption) ?rr5_25
        case yy5_25 => (intro w hSw; (try dsimp only at hSw); (try simp only [List.getElem_toArray, List.getElem_cons_succ, List.getElem_cons_zero, Act.put, List.setIfInBounds_toArray, List.set_cons_zero, List.set_cons_succ]); go_simp; (try (with_reducible rfl)))
        try simp only [List.getElem_toArray, List.getElem_cons_succ, List.getElem_cons_zero, Act.put, List.setIfInBounds_toArray, List.set_cons_zero, List.set_cons_succ]
        refine wpAnyH_take (i := 6) (v := ?vv6_26) rfl (by kernel_rfl) (by kernel_rfl) (by kernel_rfl) (fun _ _ _ h => h) (Or.inl ⟨by rfl, ?yy6_26⟩) (by assumption) ?rr6_26
        case yy6_26 => (intro w hSw; (try dsimp only at hSw); (try simp only [List.getElem_toArray, List.getElem_cons_succ, List.getElem_cons_zero, Act.put, List.setIfInBounds_toArray, List.set_cons_zero, List.set_cons_succ]); go_simp; (try (with_reducible rfl)))
        try simp only [List.getElem_toArray, List.getElem_cons_succ, List.getElem_cons_zero, Act.put, List.setIfInBounds_toArray, List.set_cons_zero, List.set_cons_succ]
        refine wpAnyH_take (i := 7) (v := ?vv7_27) rfl (by kernel_rfl) (by kernel_rfl) (by kernel_rfl) (fun _ _ _ h => h) (Or.inl ⟨by rfl, ?yy7_27⟩) (by assumption) ?rr7_27
        case yy7_27 => (intro w hSw; (try dsimp only at hSw); (try simp only [List.getElem_toArray, List.getElem_cons_succ, List.getElem_cons_zero, Act.put, List.setIfInBounds_toArray, List.set_cons_zero, List.set_cons_succ]); go_simp; (try (with_reducible rfl)))
        try simp only [List.getElem_toArray, List.getElem_cons_succ, List.getElem_cons_zero, Act.put, List.setIfInBounds_toArray, List.set_cons_zero, List.set_cons_succ]
        refine wpAnyH_take (i := 8) (v := ?vv8_28) rfl (by kernel_rfl) (by kernel_rfl) (by kernel_rfl) (fun _ _ _ h => h) (Or.inl ⟨by rfl, ?yy8_28⟩) (by assumption) ?rr8_28
        case yy8_28 => (intro w hSw; (try dsimp only at hSw); (try simp only [List.getElem_toArray, List.getElem_cons_succ, List.getElem_cons_zero, Act.put, List.setIfInBounds_toArray, List.set_cons_zero, List.set_cons_succ]); go_simp; (try (with_reducible rfl)))
        try simp only [List.getElem_toArray, List.getElem_cons_succ, List.getElem_cons_zero, Act.put, List.setIfInBounds_toArray, List.set_cons_zero, List.set_cons_succ]
        refine wpAnyH_take (i := 9) (v := ?vv9_29) rfl (by kernel_rfl) (by kernel_rfl) (by kernel_rfl) (fun _ _ _ h => h) (Or.inl ⟨by rfl, ?yy9_29⟩) (by assumption) ?rr9_29
        case yy9_29 => (intro w hSw; (try dsimp only at hSw); (try simp only [List.getElem_toArray, List.getElem_cons_succ, List.getElem_cons_zero, Act.put, List.setIfInBounds_toArray, List.set_cons_zero, List.set_cons_succ]); go_simp; (try (with_reducible rfl)))
        try simp only [List.getElem_toArray, List.getElem_cons_succ, List.getElem_cons_zero, Act.put, List.setIfInBounds_toArray, List.set_cons_zero, List.set_cons_succ]
        refine wpAnyH_ready (rs := [10]) (by kernel_rfl) (by simp) ?_
        refine AllReadyH.cons (o := _) rfl (fun K hK => ?_) AllReadyH.nil
        try simp only [List.getElem_toArray, List.getElem_cons_succ, List.getElem_cons_zero, Act.put, List.setIfInBounds_toArray, List.set_cons_zero, List.set_cons_succ]
        go_simp
        refine hK.out _ _ ⟨(Blk.other HPk.out (i := 0) (show w.heap.size ≠ w.heap.size + 1 by omega) (.string a)).at_ 0, (C0.out.set 0 (.string a)).at_ 0, (C0.out.set 0 (.string a)).frozen 0, (HB.out.setCell (p := ⟨w.heap.size + 1, 0, none⟩) (Nat.le_succ _) (.string a)).drew, C0.out.set 0 (.string a)⟩ (fun hHeld => ?_)
        clear hK K
        try simp only [List.getElem_toArray, List.getElem_cons_succ, List.getElem_cons_zero, Act.put, List.setIfInBounds_toArray, List.set_cons_zero, List.set_cons_succ]
        refine wpAnyH_take (i := 11) (v := ?vv11_30) rfl (by kernel_rfl) (by kernel_rfl) (by kernel_rfl) (fun _ _ _ h => h) (Or.inl ⟨by rfl, ?yy11_30⟩) (by assumption) ?rr11_30
        case yy11_30 => (intro w hSw; (try dsimp only at hSw); (try simp only [List.getElem_toArray, List.getElem_cons_succ, List.getElem_cons_zero, Act.put, List.setIfInBounds_toArray, List.set_cons_zero, List.set_cons_succ]); go_simp; (try (with_reducible rfl)))
        try simp only [List.getElem_toArray, List.getElem_cons_succ, List.getElem_cons_zero, Act.put, List.setIfInBounds_toArray, List.set_cons_zero, List.set_cons_succ]
        refine wpAnyH_done (by kernel_rfl) ?_ _
        go_wp2_with fail
        refine bodyPost_ret (results_tct rfl _ _ (w.heap.size + 1) a Tryd.underlying9 rfl hHeld.2.1) rfl ?_
        refine ⟨?_, hHeld.2.2.2.1⟩
        rw [hE]
        first | (simp; done) | simp [h0]
      · have h1 : (E == 0) = false := by rw [beq_eq_false_iff_ne]; exact h0
        refine wp_region_held_drew (S := (fun w' => w'.cell? ⟨w.heap.size, 0, none⟩ = some (.int .u8 c.toNat) ∧ w'.cell? ⟨w.heap.size + 1, 0, none⟩ = some (.string a) ∧ w'.frozen? ⟨w.heap.size + 1, 0, none⟩ = false ∧ Below w.heap.size w w' ∧ Blk w' (w.heap.size + 1) [.string a] 9)) (by kernel_rfl) ⟨p0, c0, f0, HB.out.drew, C0.out.drew⟩ (fun hHeld => ?_)
        refine wpAnyH_take (i := 0) (v := ?vv0_31) rfl (by kernel_rfl) (by kernel_rfl) (by kernel_rfl) (fun _ _ _ h => h) (Or.inl ⟨by rfl, ?yy0_31⟩) (by assumption) ?rr0_31
        case yy0_31 => (intro w hSw; (try dsimp only at hSw); (try simp only [List.getElem_toArray, List.getElem_cons_succ, List.getElem_cons_zero, Act.put, List.setIfInBounds_toArray, List.set_cons_zero, List.set_cons_succ]); go_simp; (try (with_reducible rfl)))
        try simp only [List.getElem_toArray, List.getElem_cons_succ, List.getElem_cons_zero, Act.put, List.setIfInBounds_toArray, List.set_cons_zero, List.set_cons_succ]
        refine wpAnyH_take (i := 1) (v := ?vv1_32) rfl (by kernel_rfl) (by kernel_rfl) (by kernel_rfl) (fun _ _ _ h => h) (Or.inl ⟨by rfl, ?yy1_32⟩) (by assumption) ?rr1_32
        case yy1_32 => (intro w hSw; (try dsimp only at hSw); (try simp only [List.getElem_toArray, List.getElem_cons_succ, List.getElem_cons_zero, Act.put, List.setIfInBounds_toArray, List.set_cons_zero, List.set_cons_succ]); go_simp; (try (with_reducible rfl)))
        try simp only [List.getElem_toArray, List.getElem_cons_succ, List.getElem_cons_zero, Act.put, List.setIfInBounds_toArray, List.set_cons_zero, List.set_cons_succ]
        refine wpAnyH_take (i := 2) (v := ?vv2_33) rfl (by kernel_rfl) (by kernel_rfl) (by kernel_rfl) (fun _ _ _ h => h) (Or.inl ⟨by rfl, ?yy2_33⟩) (by assumption) ?rr2_33
        case yy2_33 => (intro w hSw; (try dsimp only at hSw); (try simp only [List.getElem_toArray, List.getElem_cons_succ, List.getElem_cons_zero, Act.put, List.setIfInBounds_toArray, List.set_cons_zero, List.set_cons_succ]); go_simp; (try (with_reducible rfl)))
        try simp only [List.getElem_toArray, List.getElem_cons_succ, List.getElem_cons_zero, Act.put, List.setIfInBounds_toArray, List.set_cons_zero, List.set_cons_succ]
        refine wpAnyH_take (i := 3) (v := undef) rfl (by kernel_rfl) (by kernel_rfl) (by kernel_rfl) (fun _ _ _ h => h) (Or.inr ⟨by rfl, rfl⟩) (by assumption) ?_
        try simp only [List.getElem_toArray, List.getElem_cons_succ, List.getElem_cons_zero, Act.put, List.setIfInBounds_toArray, List.set_cons_zero, List.set_cons_succ]
        refine wpAnyH_take (i := 4) (v := undef) rfl (by kernel_rfl) (by kernel_rfl) (by kernel_rfl) (fun _ _ _ h => h) (Or.inr ⟨by rfl, rfl⟩) (by assumption) ?_
        try simp only [List.getElem_toArray, List.getElem_cons_succ, List.getElem_cons_zero, Act.put, List.setIfInBounds_toArray, List.set_cons_zero, List.set_cons_succ]
        refine wpAnyH_take (i := 5) (v := undef) rfl (by kernel_rfl) (by kernel_rfl) (by kernel_rfl) (fun _ _ _ h => h) (Or.inr ⟨by rfl, rfl⟩) (by assumption) ?_
        try simp only [List.getElem_toArray, List.getElem_cons_succ, List.getElem_cons_zero, Act.put, List.setIfInBounds_toArray, List.set_cons_zero, List.set_cons_succ]
        refine wpAnyH_take (i := 6) (v := ?vv6_34) rfl (by kernel_rfl) (by kernel_rfl) (by kernel_rfl) (fun _ _ _ h => h) (Or.inl ⟨by rfl, ?yy6_34⟩) (by assumption) ?rr6_34
        case yy6_34 => (intro w hSw; (try dsimp only at hSw); (try simp only [List.getElem_toArray, List.getElem_cons_succ, List.getElem_cons_zero, Act.put, List.setIfInBounds_toArray, List.set_cons_zero, List.set_cons_succ]); go_simp; (try (with_reducible rfl)))
        try simp only [List.getElem_toArray, List.getElem_cons_succ, List.getElem_cons_zero, Act.put, List.setIfInBounds_toArray, List.set_cons_zero, List.set_cons_succ]
        refine wpAnyH_take (i := 7) (v := ?vv7_35) rfl (by kernel_rfl) (by kernel_rfl) (by kernel_rfl) (fun _ _ _ h => h) (Or.inl ⟨by rfl, ?yy7_35⟩) (by assumption) ?rr7_35
        case yy7_35 => (intro w hSw; (try dsimp only at hSw); (try simp only [List.getElem_toArray, List.getElem_cons_succ, List.getElem_cons_zero, Act.put, List.setIfInBounds_toArray, List.set_cons_zero, List.set_cons_succ]); go_simp; (try (with_reducible rfl)))
        try simp only [List.getElem_toArray, List.getElem_cons_succ, List.getElem_cons_zero, Act.put, List.setIfInBounds_toArray, List.set_cons_zero, List.set_cons_succ]
        refine wpAnyH_take (i := 8) (v := ?vv8_36) rfl (by kernel_rfl) (by kernel_rfl) (by kernel_rfl) (fun _ _ _ h => h) (Or.inl ⟨by rfl, ?yy8_36⟩) (by assumption) ?rr8_36
        case yy8_36 => (intro w hSw; (try dsimp only at hSw); (try simp only [List.getElem_toArray, List.getElem_cons_succ, List.getElem_cons_zero, Act.put, List.setIfInBounds_toArray, List.set_cons_zero, List.set_cons_succ]); go_simp; (try (with_reducible rfl)))
        try simp only [List.getElem_toArray, List.getElem_cons_succ, List.getElem_cons_zero, Act.put, List.setIfInBounds_toArray, List.set_cons_zero, List.set_cons_succ]
        refine wpAnyH_take (i := 9) (v := ?vv9_37) rfl (by kernel_rfl) (by kernel_rfl) (by kernel_rfl) (fun _ _ _ h => h) (Or.inl ⟨by rfl, ?yy9_37⟩) (by assumption) ?rr9_37
        case yy9_37 => (intro w hSw; (try dsimp only at hSw); (try simp only [List.getElem_toArray, List.getElem_cons_succ, List.getElem_cons_zero, Act.put, List.setIfInBounds_toArray, List.set_cons_zero, List.set_cons_succ]); go_simp; (try (with_reducible rfl)))
        try simp only [List.getElem_toArray, List.getElem_cons_succ, List.getElem_cons_zero, Act.put, List.setIfInBounds_toArray, List.set_cons_zero, List.set_cons_succ]
        refine wpAnyH_ready (rs := [10]) (by kernel_rfl) (by simp) ?_
        refine AllReadyH.cons (o := _) rfl (fun K hK => ?_) AllReadyH.nil
        try simp only [List.getElem_toArray, List.getElem_cons_succ, List.getElem_cons_zero, Act.put, List.setIfInBounds_toArray, List.set_cons_zero, List.set_cons_succ]
        go_simp
        refine hK.out _ _ ⟨(Blk.other HPk.out (i := 0) (show w.heap.size ≠ w.heap.size + 1 by omega) (.string a)).at_ 0, (C0.out.set 0 (.string a)).at_ 0, (C0.out.set 0 (.string a)).frozen 0, (HB.out.setCell (p := ⟨w.heap.size + 1, 0, none⟩) (Nat.le_succ _) (.string a)).drew, C0.out.set 0 (.string a)⟩ (fun hHeld => ?_)
        clear hK K
        try simp only [List.getElem_toArray, List.getElem_cons_succ, List.getElem_cons_zero, Act.put, List.setIfInBounds_toArray, List.set_cons_zero, List.set_cons_succ]
        refine wpAnyH_take (i := 11) (v := ?vv11_38) rfl (by kernel_rfl) (by kernel_rfl) (by kernel_rfl) (fun _ _ _ h => h) (Or.inl ⟨by rfl, ?yy11_38⟩) (by assumption) ?rr11_38
        case yy11_38 => (intro w hSw; (try dsimp only at hSw); (try simp only [List.getElem_toArray, List.getElem_cons_succ, List.getElem_cons_zero, Act.put, List.setIfInBounds_toArray, List.set_cons_zero, List.set_cons_succ]); go_simp; (try (with_reducible rfl)))
        try simp only [List.getElem_toArray, List.getElem_cons_succ, List.getElem_cons_zero, Act.put, List.setIfInBounds_toArray, List.set_cons_zero, List.set_cons_succ]
        refine wpAnyH_done (by kernel_rfl) ?_ _
        go_wp2_with fail
        refine bodyPost_ret (results_tct rfl _ _ (w.heap.size + 1) a Tryd.underlying9 rfl hHeld.2.1) rfl ?_
        refine ⟨?_, hHeld.2.2.2.1⟩
        rw [hE]
        first | (simp; done) | simp [h0]
  · have h2 : ((c.toNat : Int) != 2) = true := by
      rw [bne_iff_ne]
      intro e
      exact hc (.inl (UInt8.toNat_inj.1 (by show c.toNat = 2; omega)))
    have h3 : ((c.toNat : Int) != 3) = true := by
      rw [bne_iff_ne]
      intro e
      exact hc (.inr (UInt8.toNat_inj.1 (by show c.toNat = 3; omega)))
    rw [anV_no (fun e => hc (.inl e)) (fun e => hc (.inr e))]
    clear hc
    go_enter Tryd.func95, Tryd.ntmps95
    go_wp2_with fail
    refine bodyPost_ret (results_tct rfl _ _ (w.heap.size + 1) (bOf []) Tryd.underlying9 rfl ?_) rfl ?_
    · have h := (blk_new (w.alloc (.cells #[.int .u8 c.toNat, .int .u8 i.toNat, .string d] 46)) [.string ⟨#[]⟩] 9).at_ 0
      simp only [World.size_alloc] at h
      exact h
    · exact ⟨rfl, ((Below.refl _ w).alloc (Nat.le_refl _) _).alloc (by simp) _⟩
end Go.Proofs.YtpfbknbloeilmaaDoor.Pap

/- Contract of Check. -/
namespace Go.Proofs.YtpfbknbloeilmaaDoor.Pap
open Go.RowKit Go.Proofs.YtpfbknbloeilmaaDoor.Oct Go.Proofs.YtpfbknbloeilmaaDoor.Row Go.Proofs.YtpfbknbloeilmaaDoor.Mem
theorem str_eq (s t : ByteArray) : (s.toList == t.toList) = decide (s = t) := by
  rw [beq_toList]
  by_cases h : s = t
  · subst h; simp
  · rw [decide_eq_false h, decide_eq_false fun e => h (toList_inj e)]

set_option maxHeartbeats 1000000 in
set_option maxRecDepth 100000 in
theorem check_any (c i : UInt8) (d a b : ByteArray) (w : World) (hd : d.size ≤ maxLen) :
    Calls Tryd.prog 85 #[.agg #[.int .u8 c.toNat, .int .u8 i.toNat, .string d], .string a, .string b] w fun e w' => e = .returned (.bool (ckB c d a b)) ∧ Below w.heap.size w w' := by
  have HA := Lib.hid (fun w => asked_any c i d w hd)
  obtain ⟨E, hE⟩ : ∃ E, asE c d = E := ⟨_, rfl⟩
  obtain ⟨x, hx⟩ : ∃ x, asT c d 0 = x := ⟨_, rfl⟩
  obtain ⟨y, hy⟩ : ∃ y, asT c d 1 = y := ⟨_, rfl⟩
  unfold asV at HA
  unfold ckB
  rw [hE, hx, hy] at HA
  rw [hE, hx, hy]
  have HB : Hid (Below w.heap.size w (w.alloc (.cells #[.int .u8 c.toNat, .int .u8 i.toNat, .string d] 46))) := (Below.refl _ w).alloc (Nat.le_refl _) _
  clear hd hE hx hy
  by_cases h0 : E = 0
  · subst h0
    by_cases h1 : x = a
    · subst h1
      have hxx := str_eq x x
      rw [decide_eq_true rfl] at hxx
      have hyb := str_eq y b
      generalize hq : decide (y = b) = q at *
      rw [show decide ((0 : Int) = 0 ∧ x = x ∧ y = b) = q from by simp [hq]]
      clear hq
      go_enter Tryd.func85, Tryd.ntmps85
      go_wp2_with fail
      refine (HA.out _).mono ?_
      rintro e w1 ⟨rfl, hb⟩
      have HB1 := Lib.hid (HB.out.trans (hb.mono HB.out.size))
      clear hb
      go_wp2
      go_ret
      exact ⟨rfl, HB1.out⟩
    · have hxa := str_eq x a
      rw [decide_eq_false h1] at hxa
      rw [show decide ((0 : Int) = 0 ∧ x = a ∧ y = b) = false from by simp [h1]]
      clear h1
      go_enter Tryd.func85, Tryd.ntmps85
      go_wp2_with fail
      refine (HA.out _).mono ?_
      rintro e w1 ⟨rfl, hb⟩
      have HB1 := Lib.hid (HB.out.trans (hb.mono HB.out.size))
      clear hb
      go_wp2
      go_ret
      exact ⟨rfl, HB1.out⟩
  · have h1 : (E == 0) = false := by rw [beq_eq_false_iff_ne]; exact h0
    rw [show decide (E = 0 ∧ x = a ∧ y = b) = false from by simp [h0]]
    clear h0
    go_enter Tryd.func85, Tryd.ntmps85
    go_wp2_with fail
    refine (HA.out _).mono ?_
    rintro e w1 ⟨rfl, hb⟩
    have HB1 := Lib.hid (HB.out.trans (hb.mono HB.out.size))
    clear hb
    go_wp2
    go_ret
    exact ⟨rfl, HB1.out⟩

end Go.Proofs.YtpfbknbloeilmaaDoor.Pap
