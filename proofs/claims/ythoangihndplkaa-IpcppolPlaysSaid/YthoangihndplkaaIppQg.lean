/- Contract of the document's Judge. -/
import Derived.Test.YthoangihndplkaaGIppQe
import Derived.Test.YthoangihndplkaaGOptRf
import Derived.Test.YthoangihndplkaaOptsStep
import Derived.Test.YthoangihndplkaaOptsSwp
import Derived.Test.YthoangihndplkaaOptRg
set_option linter.unusedSimpArgs false
set_option linter.unusedVariables false
namespace Go.Proofs.Ythoangihndplkaa.Ipp
open Go.RowKit Go.Joins Go.Deep Go.Proofs.Ythoangihndplkaa.Oct Go.Proofs.Ythoangihndplkaa.Row Go.Proofs.Ythoangihndplkaa.Mem Go.Proofs.Ythoangihndplkaa.Opt Go.Proofs.Ythoangihndplkaa.Ipc

theorem refs_len (p : Po) (l : List Opt) (k : Nat) (hk : k ≤ l.length) : (refs (vs p (l.take k))).length ≤ k ∧ (insts (vs p (l.take k))).length ≤ k ∧ (poors (vs p (l.take k))).length ≤ k := by
  have e : (vs p (l.take k)).length ≤ k := by rw [vs_length, List.length_take]; omega
  exact ⟨Nat.le_trans (List.length_filterMap_le _ _) e, Nat.le_trans (List.length_filterMap_le _ _) e, Nat.le_trans (List.length_filterMap_le _ _) e⟩
/-- What the document's Judge answers. -/
def RJudQ (p : Po) (l : List Opt) (g : Nat) (w : World) (e : Ending) (w' : World) : Prop := ∃ A c, e = .returned (.tuple #[.int .u8 (jC p l), .slice A (jA p l).length c]) ∧ Opts w' w'.heap.size A (jA p l).length (jA p l) ∧ RAt w' g (jP p l) ∧ Moves (fun k => k = g) w w'
theorem insts_small {p : Po} {l : List Opt} {o : Opt} (h : o ∈ insts (vs p l)) : o.2.size ≤ 4 := by
  obtain ⟨v, hv, e⟩ := List.mem_filterMap.1 h
  split at e
  · cases e; exact (vs_mem hv).2
  · cases e
theorem sugs_small {p : Po} {l : List Opt} {o : Opt} (h : o ∈ sugs p l) : o.2.size ≤ 4 := by
  rcases List.mem_append.1 h with h | h
  · exact insts_small h
  · obtain ⟨rfl, _, _⟩ := miss_mem h
    exact Nat.le_of_eq (by show (bOf (numS _ 4)).size = 4; rw [size_bOf, numS_length])
theorem rj_end {p q : Po} {l a : List Opt} {g C n' c' : Nat} {A' : Option Addr} {w W : World} (h : jC p l = C ∧ jA p l = a ∧ jP p l = q) (hn : a.length = n') (ho : Opts W W.heap.size A' n' a) (hp : RAt W g q) (hm : Moves (fun k => k = g) w W) : RJudQ p l g w (.returned (.tuple #[.int .u8 C, .slice A' n' c'])) W := by
  obtain ⟨h1, h2, h3⟩ := h
  subst hn
  refine ⟨A', c', ?_, ?_, ?_, hm⟩
  · rw [h1, h2]
  · rw [h2]; exact ho
  · rw [h3]; exact hp
set_option maxHeartbeats 16000000 in
set_option maxRecDepth 100000 in
theorem rjudge_any (g : Nat) (p : Po) (l : List Opt) (A : Option Addr) (n c : Nat) (w : World) (h : RAt w g p) (hl : Opts w w.heap.size A n l) (hA : A = none → c = 0) (hn : n ≤ 1000) (hnc : n ≤ c) (hni : p.naks ≤ 1000) :
    Calls Try.prog 39 #[.pointer (some ⟨g, 0, none⟩), .slice A n c] w (RJudQ p l g w) := by
  obtain ⟨i0, hi, hz0, hz1, hz2⟩ := info_parts Try.info48
  have HP := Lib.hid h
  have HL := Lib.hid hl
  have Hn := Lib.hid hl.1
  clear h hl
  go_enter Try.func39, Try.ntmps39
  go_wp2_with fail
  go_loopw [6, 7, 8, 9] (fun R N C i wr => ∃ (k rn nn cn : Nat), k ≤ n ∧ rn ≤ k ∧ nn ≤ k ∧ cn ≤ k ∧ i = .int .i64 k ∧ Hid (Tri w wr R N C rn nn cn (refs (vs p (l.take k))) (insts (vs p (l.take k))) (poors (vs p (l.take k))))) (fun _ _ _ i _ => n - (intOf i).toNat)
  case atStart => exact ⟨0, 0, 0, 0, Nat.zero_le _, Nat.le_refl _, Nat.le_refl _, Nat.le_refl _, rfl, tri_start w⟩
  case round =>
    obtain ⟨k, rn, nn, cn, hk, hrn, hnn, hcn, rfl, HT⟩ := hrel
    by_cases hlt : k < n
    · obtain ⟨ad, o, hAA, hB, ho, hS1, hc0, hc1⟩ := (HL.out.below HT.out.b).at_ hlt
      subst hAA
      have Ho := Lib.hid ho
      have hlt' : (k : Int) < (n : Int) := by omega
      have hlt2 := decide_eq_true hlt'
      clear ho hS1
      go_wp2_with fail
      refine (one_any g p o wr (HP.out.below HT.out.b HP.out.lt)).mono ?_
      rintro e w1 ⟨rfl, hb1⟩
      have HTa := Lib.hid (HT.out.callee hb1)
      have e0 := (hb1.cell (World.block_lt_of_cell? _ _ hc0)).trans hc0
      have e1 := (hb1.cell (World.block_lt_of_cell? _ _ hc1)).trans hc1
      clear hb1 hc0 hc1 HT
      obtain ⟨V, hV, HV⟩ := boxO w1 (xO p o)
      have HT1 := Lib.hid (HTa.out.callee HV.out.2.1)
      have d0 := (HV.out.2.1.cell (World.block_lt_of_cell? _ _ e0)).trans e0
      have d1 := (HV.out.2.1.cell (World.block_lt_of_cell? _ _ e1)).trans e1
      have HX := Lib.hid HV.out.1
      clear HV HTa e0 e1
      obtain ⟨b, hb⟩ : ∃ b, w1.heap.size = b := ⟨_, rfl⟩
      obtain ⟨tw, htw⟩ : ∃ tw, seen (l.take k) o.1 = tw := ⟨_, rfl⟩
      obtain ⟨f, hf⟩ : ∃ f, fA o.1 (l.take k) = f := ⟨_, rfl⟩
      have HFi : Hid (∀ U, Below V.heap.size V U → Calls Try.prog 62 #[.int .u8 o.1.toNat, .slice (some ad) k c] U fun e w' => e = .returned (.tuple #[.agg #[.int .u8 f.1.toNat, .string f.2], .bool tw]) ∧ Below U.heap.size U w') := fun U hU => by
        have h1 := HT1.out.b.trans (hU.mono HT1.out.b.size)
        have h := rfind_any o.1 (l.take k) w.heap.size (some ad) k c U (opts_take (HL.out.below h1) (by omega)) (by unfold maxLen; omega) h1.size
        rw [seen_fB, htw, hf] at h
        exact h
      have hsl := fun W => run_front (P := Try.prog) 29 Try.underlying29 (fun W => by kernel_rfl) (some ad) n c k (by omega) W
      have Htw := Lib.hid htw
      clear htw hf
      go_upto_region 6 with (fail)
      rw [hb] at HX
      clear hV hb
      go_cut [12, 13] from 34 to 45 (fun _ s wx => s = .bool tw ∧ Hid (Below V.heap.size V wx))
      case first =>
        refine wp_region_held_drew (S := fun w' => Below V.heap.size V w') (by kernel_rfl) (Below.refl _ V).drew (fun hHeld => ?_)
        have HBu : Hid (Below V.heap.size V V.drew) := (Below.refl _ V).drew
        generalize V.drew = U at *
        refine wpAnyH_take (i := 0) (v := ?vv0_1) rfl (by kernel_rfl) (by kernel_rfl) (by kernel_rfl) (fun _ _ _ h => h) (Or.inl ⟨by rfl, ?yy0_1⟩) (by assumption) ?rr0_1
        case yy0_1 => (intro w hSw; (try dsimp only at hSw); have hs0 := (hSw.cell (World.block_lt_of_cell? _ _ d0)).trans d0; (try simp only [List.getElem_toArray, List.getElem_cons_succ, List.getElem_cons_zero, Act.put, List.setIfInBounds_toArray, List.set_cons_zero, List.set_cons_succ]); go_simp; (try (with_reducible rfl)))
        try simp only [List.getElem_toArray, List.getElem_cons_succ, List.getElem_cons_zero, Act.put, List.setIfInBounds_toArray, List.set_cons_zero, List.set_cons_succ]
        refine wpAnyH_take (i := 1) (v := ?vv1_2) rfl (by kernel_rfl) (by kernel_rfl) (by kernel_rfl) (fun _ _ _ h => h) (Or.inl ⟨by rfl, ?yy1_2⟩) (by assumption) ?rr1_2
        case yy1_2 => (intro w hSw; (try dsimp only at hSw); have hs0 := (hSw.cell (World.block_lt_of_cell? _ _ d0)).trans d0; (try simp only [List.getElem_toArray, List.getElem_cons_succ, List.getElem_cons_zero, Act.put, List.setIfInBounds_toArray, List.set_cons_zero, List.set_cons_succ]); go_simp; (try (with_reducible rfl)))
        try simp only [List.getElem_toArray, List.getElem_cons_succ, List.getElem_cons_zero, Act.put, List.setIfInBounds_toArray, List.set_cons_zero, List.set_cons_succ]
        refine wpAnyH_take (i := 2) (v := ?vv2_3) rfl (by kernel_rfl) (by kernel_rfl) (by kernel_rfl) (fun _ _ _ h => h) (Or.inl ⟨by rfl, ?yy2_3⟩) (by assumption) ?rr2_3
        case yy2_3 => (intro w hSw; (try dsimp only at hSw); have hs0 := (hSw.cell (World.block_lt_of_cell? _ _ d0)).trans d0; (try simp only [List.getElem_toArray, List.getElem_cons_succ, List.getElem_cons_zero, Act.put, List.setIfInBounds_toArray, List.set_cons_zero, List.set_cons_succ]); go_simp; (try (with_reducible rfl)))
        try simp only [List.getElem_toArray, List.getElem_cons_succ, List.getElem_cons_zero, Act.put, List.setIfInBounds_toArray, List.set_cons_zero, List.set_cons_succ]
        refine wpAnyH_take (i := 3) (v := ?vv3_4) rfl (by kernel_rfl) (by kernel_rfl) (by kernel_rfl) (fun _ _ _ h => h) (Or.inl ⟨by rfl, ?yy3_4⟩) (by assumption) ?rr3_4
        case yy3_4 => (intro w hSw; (try dsimp only at hSw); have hs0 := (hSw.cell (World.block_lt_of_cell? _ _ d0)).trans d0; (try simp only [List.getElem_toArray, List.getElem_cons_succ, List.getElem_cons_zero, Act.put, List.setIfInBounds_toArray, List.set_cons_zero, List.set_cons_succ]); go_simp; (try (with_reducible rfl)))
        try simp only [List.getElem_toArray, List.getElem_cons_succ, List.getElem_cons_zero, Act.put, List.setIfInBounds_toArray, List.set_cons_zero, List.set_cons_succ]
        refine wpAnyH_take (i := 4) (v := ?vv4_5) rfl (by kernel_rfl) (by kernel_rfl) (by kernel_rfl) (fun _ _ _ h => h) (Or.inl ⟨by rfl, ?yy4_5⟩) (by assumption) ?rr4_5
        case yy4_5 => (intro w hSw; (try dsimp only at hSw); have hs0 := (hSw.cell (World.block_lt_of_cell? _ _ d0)).trans d0; (try simp only [List.getElem_toArray, List.getElem_cons_succ, List.getElem_cons_zero, Act.put, List.setIfInBounds_toArray, List.set_cons_zero, List.set_cons_succ]); go_simp; (try (with_reducible rfl)))
        try simp only [List.getElem_toArray, List.getElem_cons_succ, List.getElem_cons_zero, Act.put, List.setIfInBounds_toArray, List.set_cons_zero, List.set_cons_succ]
        refine wpAnyH_take (i := 5) (v := ?vv5_6) rfl (by kernel_rfl) (by kernel_rfl) (by kernel_rfl) (fun _ _ _ h => h) (Or.inl ⟨by rfl, ?yy5_6⟩) (by assumption) ?rr5_6
        case yy5_6 => (intro w hSw; (try dsimp only at hSw); have hs0 := (hSw.cell (World.block_lt_of_cell? _ _ d0)).trans d0; (try simp only [List.getElem_toArray, List.getElem_cons_succ, List.getElem_cons_zero, Act.put, List.setIfInBounds_toArray, List.set_cons_zero, List.set_cons_succ]); go_simp; (try (with_reducible rfl)))
        try simp only [List.getElem_toArray, List.getElem_cons_succ, List.getElem_cons_zero, Act.put, List.setIfInBounds_toArray, List.set_cons_zero, List.set_cons_succ]
        refine wpAnyH_take (i := 6) (v := ?vv6_7) rfl (by kernel_rfl) (by kernel_rfl) (by kernel_rfl) (fun _ _ _ h => h) (Or.inl ⟨by rfl, ?yy6_7⟩) (by assumption) ?rr6_7
        case yy6_7 => (intro w hSw; (try dsimp only at hSw); have hs0 := (hSw.cell (World.block_lt_of_cell? _ _ d0)).trans d0; (try simp only [List.getElem_toArray, List.getElem_cons_succ, List.getElem_cons_zero, Act.put, List.setIfInBounds_toArray, List.set_cons_zero, List.set_cons_succ]); go_simp; (try (with_reducible rfl)))
        try simp only [List.getElem_toArray, List.getElem_cons_succ, List.getElem_cons_zero, Act.put, List.setIfInBounds_toArray, List.set_cons_zero, List.set_cons_succ]
        refine wpAnyH_take (i := 7) (v := ?vv7_8) rfl (by kernel_rfl) (by kernel_rfl) (by kernel_rfl) (fun _ _ _ h => h) (Or.inl ⟨by rfl, ?yy7_8⟩) (by assumption) ?rr7_8
        case yy7_8 => (intro w hSw; (try dsimp only at hSw); have hs0 := (hSw.cell (World.block_lt_of_cell? _ _ d0)).trans d0; (try simp only [List.getElem_toArray, List.getElem_cons_succ, List.getElem_cons_zero, Act.put, List.setIfInBounds_toArray, List.set_cons_zero, List.set_cons_succ]); go_simp; (try (with_reducible rfl)))
        try simp only [List.getElem_toArray, List.getElem_cons_succ, List.getElem_cons_zero, Act.put, List.setIfInBounds_toArray, List.set_cons_zero, List.set_cons_succ]
        refine wpAnyH_ready (rs := [8, 12]) (by kernel_rfl) (by simp) ?_
        refine AllReadyH.cons (o := _) rfl (fun K hK => ?_) (AllReadyH.cons (o := _) rfl (fun K hK => ?_) AllReadyH.nil)
        · try simp only [List.getElem_toArray, List.getElem_cons_succ, List.getElem_cons_zero, Act.put, List.setIfInBounds_toArray, List.set_cons_zero, List.set_cons_succ]
          go_simp
          refine (HFi.out U HBu.out).mono ?_
          rintro e v2 ⟨rfl, hb2⟩
          have HB2 := Lib.hid (HBu.out.trans (hb2.mono HBu.out.size))
          refine hK.out _ _ HB2.out (fun hHeld => ?_)
          clear hK K
          try simp only [List.getElem_toArray, List.getElem_cons_succ, List.getElem_cons_zero, Act.put, List.setIfInBounds_toArray, List.set_cons_zero, List.set_cons_succ]
          refine wpAnyH_take (i := 9) (v := ?vv9_9) rfl (by kernel_rfl) (by kernel_rfl) (by kernel_rfl) (fun _ _ _ h => h) (Or.inl ⟨by rfl, ?yy9_9⟩) (by assumption) ?rr9_9
          case yy9_9 => (intro w hSw; (try dsimp only at hSw); have hs0 := (hSw.cell (World.block_lt_of_cell? _ _ d0)).trans d0; (try simp only [List.getElem_toArray, List.getElem_cons_succ, List.getElem_cons_zero, Act.put, List.setIfInBounds_toArray, List.set_cons_zero, List.set_cons_succ]); go_simp; (try (with_reducible rfl)))
          try simp only [List.getElem_toArray, List.getElem_cons_succ, List.getElem_cons_zero, Act.put, List.setIfInBounds_toArray, List.set_cons_zero, List.set_cons_succ]
          refine wpAnyH_take (i := 10) (v := ?vv10_10) rfl (by kernel_rfl) (by kernel_rfl) (by kernel_rfl) (fun _ _ _ h => h) (Or.inl ⟨by rfl, ?yy10_10⟩) (by assumption) ?rr10_10
          case yy10_10 => (intro w hSw; (try dsimp only at hSw); have hs0 := (hSw.cell (World.block_lt_of_cell? _ _ d0)).trans d0; (try simp only [List.getElem_toArray, List.getElem_cons_succ, List.getElem_cons_zero, Act.put, List.setIfInBounds_toArray, List.set_cons_zero, List.set_cons_succ]); go_simp; (try (with_reducible rfl)))
          try simp only [List.getElem_toArray, List.getElem_cons_succ, List.getElem_cons_zero, Act.put, List.setIfInBounds_toArray, List.set_cons_zero, List.set_cons_succ]
          refine wpAnyH_take (i := 11) (v := ?vv11_11) rfl (by kernel_rfl) (by kernel_rfl) (by kernel_rfl) (fun _ _ _ h => h) (Or.inl ⟨by rfl, ?yy11_11⟩) (by assumption) ?rr11_11
          case yy11_11 => (intro w hSw; (try dsimp only at hSw); have hs0 := (hSw.cell (World.block_lt_of_cell? _ _ d0)).trans d0; (try simp only [List.getElem_toArray, List.getElem_cons_succ, List.getElem_cons_zero, Act.put, List.setIfInBounds_toArray, List.set_cons_zero, List.set_cons_succ]); go_simp; (try (with_reducible rfl)))
          try simp only [List.getElem_toArray, List.getElem_cons_succ, List.getElem_cons_zero, Act.put, List.setIfInBounds_toArray, List.set_cons_zero, List.set_cons_succ]
          refine wpAnyH_ready (rs := [12]) (by kernel_rfl) (by simp) ?_
          refine AllReadyH.cons (o := _) rfl (fun K hK => ?_) AllReadyH.nil
          try simp only [List.getElem_toArray, List.getElem_cons_succ, List.getElem_cons_zero, Act.put, List.setIfInBounds_toArray, List.set_cons_zero, List.set_cons_succ]
          go_simp
          have HSa := Lib.hid (HB2.out.alloc HB2.out.size (.cells #[.int .u8 0, .string ⟨#[]⟩] 48))
          refine hK.out _ _ HSa.out (fun hHeld => ?_)
          clear hK K
          try simp only [List.getElem_toArray, List.getElem_cons_succ, List.getElem_cons_zero, Act.put, List.setIfInBounds_toArray, List.set_cons_zero, List.set_cons_succ]
          refine wpAnyH_ready (rs := [13]) (by kernel_rfl) (by simp) ?_
          refine AllReadyH.cons (o := _) rfl (fun K hK => ?_) AllReadyH.nil
          try simp only [List.getElem_toArray, List.getElem_cons_succ, List.getElem_cons_zero, Act.put, List.setIfInBounds_toArray, List.set_cons_zero, List.set_cons_succ]
          go_simp
          have HSe := Lib.hid (HB2.out.alloc HB2.out.size (.cells #[.int .u8 f.1.toNat, .string f.2] 48))
          refine hK.out _ _ HSe.out (fun hHeld => ?_)
          clear hK K
          try simp only [List.getElem_toArray, List.getElem_cons_succ, List.getElem_cons_zero, Act.put, List.setIfInBounds_toArray, List.set_cons_zero, List.set_cons_succ]
          refine wpAnyH_take (i := 14) (v := ?vv14_12) rfl (by kernel_rfl) (by kernel_rfl) (by kernel_rfl) (fun _ _ _ h => h) (Or.inl ⟨by rfl, ?yy14_12⟩) (by assumption) ?rr14_12
          case yy14_12 => (intro w hSw; (try dsimp only at hSw); have hs0 := (hSw.cell (World.block_lt_of_cell? _ _ d0)).trans d0; (try simp only [List.getElem_toArray, List.getElem_cons_succ, List.getElem_cons_zero, Act.put, List.setIfInBounds_toArray, List.set_cons_zero, List.set_cons_succ]); go_simp; (try (with_reducible rfl)))
          try simp only [List.getElem_toArray, List.getElem_cons_succ, List.getElem_cons_zero, Act.put, List.setIfInBounds_toArray, List.set_cons_zero, List.set_cons_succ]
          refine wpAnyH_done (by kernel_rfl) ?_ _
          go_wp2
          go_meet
          exact ⟨rfl, HSe⟩
        · try simp only [List.getElem_toArray, List.getElem_cons_succ, List.getElem_cons_zero, Act.put, List.setIfInBounds_toArray, List.set_cons_zero, List.set_cons_succ]
          go_simp
          have HSa := Lib.hid (HBu.out.alloc HBu.out.size (.cells #[.int .u8 0, .string ⟨#[]⟩] 48))
          have HZa : Hid (At (U.alloc (.cells #[.int .u8 0, .string ⟨#[]⟩] 48)) U.heap.size (0, ⟨#[]⟩)) := at_new U 0 ⟨#[]⟩
          refine hK.out _ _ HSa.out (fun hHeld => ?_)
          clear hK K
          try simp only [List.getElem_toArray, List.getElem_cons_succ, List.getElem_cons_zero, Act.put, List.setIfInBounds_toArray, List.set_cons_zero, List.set_cons_succ]
          refine wpAnyH_ready (rs := [8]) (by kernel_rfl) (by simp) ?_
          refine AllReadyH.cons (o := _) rfl (fun K hK => ?_) AllReadyH.nil
          try simp only [List.getElem_toArray, List.getElem_cons_succ, List.getElem_cons_zero, Act.put, List.setIfInBounds_toArray, List.set_cons_zero, List.set_cons_succ]
          go_simp
          refine (HFi.out _ HSa.out).mono ?_
          rintro e v2 ⟨rfl, hb2⟩
          have HB2 := Lib.hid (HSa.out.trans (hb2.mono HSa.out.size))
          have HZ2 := Lib.hid (HZa.out.callee hb2)
          refine hK.out _ _ HB2.out (fun hHeld => ?_)
          clear hK K
          try simp only [List.getElem_toArray, List.getElem_cons_succ, List.getElem_cons_zero, Act.put, List.setIfInBounds_toArray, List.set_cons_zero, List.set_cons_succ]
          refine wpAnyH_take (i := 9) (v := ?vv9_13) rfl (by kernel_rfl) (by kernel_rfl) (by kernel_rfl) (fun _ _ _ h => h) (Or.inl ⟨by rfl, ?yy9_13⟩) (by assumption) ?rr9_13
          case yy9_13 => (intro w hSw; (try dsimp only at hSw); have hs0 := (hSw.cell (World.block_lt_of_cell? _ _ d0)).trans d0; (try simp only [List.getElem_toArray, List.getElem_cons_succ, List.getElem_cons_zero, Act.put, List.setIfInBounds_toArray, List.set_cons_zero, List.set_cons_succ]); go_simp; (try (with_reducible rfl)))
          try simp only [List.getElem_toArray, List.getElem_cons_succ, List.getElem_cons_zero, Act.put, List.setIfInBounds_toArray, List.set_cons_zero, List.set_cons_succ]
          refine wpAnyH_take (i := 10) (v := ?vv10_14) rfl (by kernel_rfl) (by kernel_rfl) (by kernel_rfl) (fun _ _ _ h => h) (Or.inl ⟨by rfl, ?yy10_14⟩) (by assumption) ?rr10_14
          case yy10_14 => (intro w hSw; (try dsimp only at hSw); have hs0 := (hSw.cell (World.block_lt_of_cell? _ _ d0)).trans d0; (try simp only [List.getElem_toArray, List.getElem_cons_succ, List.getElem_cons_zero, Act.put, List.setIfInBounds_toArray, List.set_cons_zero, List.set_cons_succ]); go_simp; (try (with_reducible rfl)))
          try simp only [List.getElem_toArray, List.getElem_cons_succ, List.getElem_cons_zero, Act.put, List.setIfInBounds_toArray, List.set_cons_zero, List.set_cons_succ]
          refine wpAnyH_take (i := 11) (v := ?vv11_15) rfl (by kernel_rfl) (by kernel_rfl) (by kernel_rfl) (fun _ _ _ h => h) (Or.inl ⟨by rfl, ?yy11_15⟩) (by assumption) ?rr11_15
          case yy11_15 => (intro w hSw; (try dsimp only at hSw); have hs0 := (hSw.cell (World.block_lt_of_cell? _ _ d0)).trans d0; (try simp only [List.getElem_toArray, List.getElem_cons_succ, List.getElem_cons_zero, Act.put, List.setIfInBounds_toArray, List.set_cons_zero, List.set_cons_succ]); go_simp; (try (with_reducible rfl)))
          try simp only [List.getElem_toArray, List.getElem_cons_succ, List.getElem_cons_zero, Act.put, List.setIfInBounds_toArray, List.set_cons_zero, List.set_cons_succ]
          obtain ⟨y0, y1⟩ : _ ∧ _ := ⟨HZ2.out.c0, HZ2.out.c1⟩
          have x0 := Blk.frozen HZ2.out 0
          have x1 := Blk.frozen HZ2.out 1
          refine wpAnyH_ready (rs := [13]) (by kernel_rfl) (by simp) ?_
          refine AllReadyH.cons (o := _) rfl (fun K hK => ?_) AllReadyH.nil
          try simp only [List.getElem_toArray, List.getElem_cons_succ, List.getElem_cons_zero, Act.put, List.setIfInBounds_toArray, List.set_cons_zero, List.set_cons_succ]
          go_simp
          have hmv : Moves (fun j => j = U.heap.size) v2 ((v2.setCell ⟨U.heap.size, 0, none⟩ (.int .u8 f.1.toNat)).setCell ⟨U.heap.size, 1, none⟩ (.string f.2)) := (set_moves v2 U.heap.size 0 _).trans (set_moves _ U.heap.size 1 _) (fun _ _ h => h)
          have HSe := Lib.hid (HB2.out.trans (hmv.below HB2.out.size (fun k e => by rw [e]; exact HBu.out.size)))
          refine hK.out _ _ HSe.out (fun hHeld => ?_)
          clear hK K
          try simp only [List.getElem_toArray, List.getElem_cons_succ, List.getElem_cons_zero, Act.put, List.setIfInBounds_toArray, List.set_cons_zero, List.set_cons_succ]
          refine wpAnyH_take (i := 14) (v := ?vv14_16) rfl (by kernel_rfl) (by kernel_rfl) (by kernel_rfl) (fun _ _ _ h => h) (Or.inl ⟨by rfl, ?yy14_16⟩) (by assumption) ?rr14_16
          case yy14_16 => (intro w hSw; (try dsimp only at hSw); have hs0 := (hSw.cell (World.block_lt_of_cell? _ _ d0)).trans d0; (try simp only [List.getElem_toArray, List.getElem_cons_succ, List.getElem_cons_zero, Act.put, List.setIfInBounds_toArray, List.set_cons_zero, List.set_cons_succ]); go_simp; (try (with_reducible rfl)))
          try simp only [List.getElem_toArray, List.getElem_cons_succ, List.getElem_cons_zero, Act.put, List.setIfInBounds_toArray, List.set_cons_zero, List.set_cons_succ]
          refine wpAnyH_done (by kernel_rfl) ?_ _
          go_wp2
          go_meet
          exact ⟨rfl, HSe⟩
      case rest =>
        obtain ⟨rfl, HBx⟩ := hcut
        have HT2 := Lib.hid (HT1.out.callee HBx.out)
        have HX2 := Lib.hid (HX.out.callee HBx.out)
        have g0 := (HBx.out.cell (World.block_lt_of_cell? _ _ d0)).trans d0
        have g1 := (HBx.out.cell (World.block_lt_of_cell? _ _ d1)).trans d1
        have b0 := HX2.out.c0
        have b1 := HX2.out.c1
        clear HT1 HX d0 d1 HBx HFi hsl
        generalize wc = Y at *
        cases tw
        · have HSe : Hid (seen (l.take k) o.1 = false) := Htw.out
          cases ha : ok p o
          · rw [kO_no ha]
            have HN := Lib.hid (next_two (p := p) Ho.out (.inr ha))
            go_wp2_with (at_builtin; refine wpList_append_own_at _ rfl _ _ 29 rfl w.heap.size 48 i0 _ 2 24 Try.underlying29 hi hz0 hz1 hz2 rfl (by decide) _ _ _ rfl (HT2.out.alloc _).r ⟨Y.heap.size, 0, none⟩ 1 1 (optsV [o]) rfl rfl (by rw [optsV_one]; exact cells_new Y _ _) (optsV_ones _) (by unfold maxLen; omega) (by omega) (HT2.out.alloc _).b.size ?_; intro v1 w9 hown1 hgr1 _ hat1; have Hown1 := Lib.hid hown1; have Hgr1 := Lib.hid hgr1; have Hat1 := Lib.hid hat1; clear hown1 hgr1 hat1)
            go_roundw
            case rel => exact ⟨k + 1, rn + 1, nn, cn, by omega, by omega, by omega, by omega, by go_num, by rw [HN.out.1, HN.out.2.1, HN.out.2.2]; exact (HT2.out.alloc _).growR Hgr1.out Hown1.out Hat1.out⟩
            case measure => simp [intOf]; omega
          · by_cases hg : sug p o = o
            · rw [kO_zero ha hg]
              have HN := Lib.hid (next_zero (p := p) Ho.out HSe.out ha hg)
              go_wp2
              go_roundw
              case rel => exact ⟨k + 1, rn, nn, cn, by omega, by omega, by omega, by omega, by go_num, by rw [HN.out.1, HN.out.2.1, HN.out.2.2]; exact HT2.out⟩
              case measure => simp [intOf]; omega
            · rw [kO_one ha hg]
              have HN := Lib.hid (next_one (p := p) Ho.out HSe.out ha hg)
              go_wp2_with (first | (at_builtin; refine wpList_append_own_at _ rfl _ _ 29 rfl w.heap.size 48 i0 _ 2 24 Try.underlying29 hi hz0 hz1 hz2 rfl (by decide) _ _ _ rfl (HT2.out.alloc _).n ⟨Y.heap.size, 0, none⟩ 1 1 (optsV [xO p o]) rfl rfl (by rw [optsV_one]; exact cells_new Y _ _) (optsV_ones _) (by unfold maxLen; omega) (by omega) (HT2.out.alloc _).b.size ?_; intro v1 w9 hown1 hgr1 _ hat1; have Hown1 := Lib.hid hown1; have Hgr1 := Lib.hid hgr1; have Hat1 := Lib.hid hat1; clear hown1 hgr1 hat1; have HT3 := Lib.hid ((HT2.out.alloc _).growN Hgr1.out Hown1.out Hat1.out); obtain ⟨ad2, o2, hA2, _, ho2, _, g0, g1⟩ := (HL.out.below HT3.out.b).at_ hlt; cases hA2; obtain rfl : o = o2 := Option.some.inj (Ho.out.symm.trans ho2); clear ho2) | (at_builtin; refine wpList_append_own_at _ rfl _ _ 29 rfl w.heap.size 48 i0 _ 2 24 Try.underlying29 hi hz0 hz1 hz2 rfl (by decide) _ _ _ rfl (HT3.out.alloc _).c ⟨w9.heap.size, 0, none⟩ 1 1 (optsV [o]) rfl rfl (by rw [optsV_one]; exact cells_new w9 _ _) (optsV_ones _) (by unfold maxLen; omega) (by omega) (HT3.out.alloc _).b.size ?_; intro v2 w10 hown2 hgr2 _ hat2; have Hown2 := Lib.hid hown2; have Hgr2 := Lib.hid hgr2; have Hat2 := Lib.hid hat2; clear hown2 hgr2 hat2))
              go_roundw
              case rel => exact ⟨k + 1, rn, nn + 1, cn + 1, by omega, by omega, by omega, by omega, by go_num, by rw [HN.out.1, HN.out.2.1, HN.out.2.2]; exact (HT3.out.alloc _).growC Hgr2.out Hown2.out Hat2.out⟩
              case measure => simp [intOf]; omega
        · have HN := Lib.hid (next_two (p := p) Ho.out (.inl Htw.out))
          go_wp2_with (at_builtin; refine wpList_append_own_at _ rfl _ _ 29 rfl w.heap.size 48 i0 _ 2 24 Try.underlying29 hi hz0 hz1 hz2 rfl (by decide) _ _ _ rfl (HT2.out.alloc _).r ⟨Y.heap.size, 0, none⟩ 1 1 (optsV [o]) rfl rfl (by rw [optsV_one]; exact cells_new Y _ _) (optsV_ones _) (by unfold maxLen; omega) (by omega) (HT2.out.alloc _).b.size ?_; intro v1 w9 hown1 hgr1 _ hat1; have Hown1 := Lib.hid hown1; have Hgr1 := Lib.hid hgr1; have Hat1 := Lib.hid hat1; clear hown1 hgr1 hat1)
          go_roundw
          case rel => exact ⟨k + 1, rn + 1, nn, cn, by omega, by omega, by omega, by omega, by go_num, by rw [HN.out.1, HN.out.2.1, HN.out.2.2]; exact (HT2.out.alloc _).growR Hgr1.out Hown1.out Hat1.out⟩
          case measure => simp [intOf]; omega
    · obtain rfl : k = n := by omega
      have hlt2 : decide ((k : Int) < (k : Int)) = false := decide_eq_false (by omega)
      have HT0 : Hid (Tri w wr u6 u7 u8 rn nn cn (refs (vs p l)) (insts (vs p l)) (poors (vs p l))) := by
        have h := HT.out
        rw [List.take_of_length_le (by rw [Hn.out]; exact Nat.le_refl _)] at h
        exact h
      obtain ⟨AR, cR, rfl, hOR⟩ := opts_own HT0.out.r (fun o ho => HL.out.2.1 o ((refs_sub p l).subset ho))
      obtain ⟨AN, cN, rfl, hON⟩ := opts_own HT0.out.n (fun o ho => Nat.le_trans (insts_small ho) (by decide))
      obtain ⟨AC, cC, rfl, hOC⟩ := opts_own HT0.out.c (fun o ho => HL.out.2.1 o ((poors_sub p l).subset ho))
      have hrn' := hOR.1
      have hcn' := hOC.1
      have HOR := Lib.hid hOR
      have HPw := Lib.hid (HP.out.below HT0.out.b HP.out.lt)
      clear HT hOR hON hOC
      by_cases h0 : 0 < rn
      · have h0' : (0 : Int) < (rn : Int) := by omega
        have h02 := decide_eq_true h0'
        have HW := Lib.hid (rej_of (way_rej (p := p) (l := l) (fun e => by rw [e] at hrn'; simp at hrn'; omega)))
        have p24 : wr.cell? ⟨g, 24, none⟩ = some (.int .i64 p.naks) := HPw.out.c 24
        have f24 := HPw.out.f 24
        obtain ⟨Z, hZ⟩ : ∃ Z, wr.setCell ⟨g, 24, none⟩ (.int .i64 0) = Z := ⟨_, rfl⟩
        have HZ : Hid (RAt Z g { p with naks := 0 } ∧ Moves (fun j => j = g) wr Z) := by
          have h1 := HPw.out.setNaks 0
          have h2 := set_moves wr g 24 (.int .i64 0)
          rw [← hZ]
          exact ⟨h1, h2⟩
        go_wp2
        go_ret2
        exact rj_end HW.out hrn' ((opts_past HOR.out HPw.out (dv_no p) HZ.out.2 (Nat.le_refl _)).more HZ.out.2.size) HZ.out.1 ((Moves.of_below HT0.out.b).trans HZ.out.2 (fun _ _ h => h))
      · have h0' : ¬ (0 : Int) < (rn : Int) := by omega
        have h02 := decide_eq_false h0'
        have HR0 : Hid (refs (vs p l) = []) := List.eq_nil_of_length_eq_zero (by omega)
        have HFi : Hid (∀ U, Below w.heap.size w U → Calls Try.prog 62 #[.int .u8 3, .slice A k c] U fun e w' => e = .returned (.tuple #[.agg #[.int .u8 (fA 3 l).1.toNat, .string (fA 3 l).2], .bool (Opt.fB 3 l)]) ∧ Below U.heap.size U w') := fun U hU => rfind_any 3 l w.heap.size A k c U (HL.out.below hU) (by unfold maxLen; omega) hU.size
        clear HOR HPw h0
        go_wp2_with fail
        refine (HFi.out _ HT0.out.b).mono ?_
        rintro e w1 ⟨rfl, hb1⟩
        have HTa := Lib.hid (HT0.out.callee hb1)
        clear hb1 HT0 HFi
        obtain ⟨V, hV, HV⟩ := boxO w1 (fA 3 l)
        have HT1 := Lib.hid (HTa.out.callee HV.out.2.1)
        clear HV HTa
        have hpz := u32_ne0 p.c.peer
        cases hf : Opt.fB 3 l
        · by_cases hp : p.c.peer = 0
          · have HS : Hid (sugs p l = insts (vs p l)) := by show insts (vs p l) ++ miss p l = _; rw [miss_zero hp, List.append_nil]
            rw [show (p.c.peer != 0) = false from by rw [hp]; rfl] at hpz
            clear hf hp
            rw [← HS.out] at HT1
            have HPv := Lib.hid (HP.out.below HT1.out.b HP.out.lt)
            have q1 : V.cell? ⟨g, 1, none⟩ = some (.int .u32 p.c.peer.toNat) := HPv.out.c 1
            go_upto_region 21 with (fail)
            clear q1 hpz hV
            have H7 : Hid (Rd w V g p A k l) := ⟨HP.out.below HT1.out.b HP.out.lt, Moves.of_below HT1.out.b, HL.out.below HT1.out.b⟩
            have HO4 : Hid (Opts V V.heap.size AC cn (poors (vs p l))) := by
              obtain ⟨_, _, e, hO⟩ := opts_own HT1.out.c (fun o ho => HL.out.2.1 o ((poors_sub p l).subset ho))
              cases e
              exact hO
            have HG7 : Hid (Opts V V.heap.size AN nn (sugs p l)) := by
              obtain ⟨_, _, e, hO⟩ := opts_own HT1.out.n (fun o ho => Nat.le_trans (sugs_small ho) (by decide))
              cases e
              exact hO
            have hnn' : (sugs p l).length = nn := HG7.out.1
            clear HT1
            have r5 : V.cell? ⟨g, 5, none⟩ = some (.int .i64 p.c.mn) := H7.out.p.c 5
            have r24 : V.cell? ⟨g, 24, none⟩ = some (.int .i64 p.naks) := H7.out.p.c 24
            by_cases h1 : 0 < nn
            · have h1' : (0 : Int) < (nn : Int) := by omega
              have h12 := decide_eq_true h1'
              by_cases h2 : (p.naks : Int) < p.c.mn
              · have h22 := decide_eq_true h2
                have HC := Lib.hid (nak_of (way_nak (p := p) (l := l) HR0.out (fun e => by rw [e] at hnn'; simp at hnn' <;> omega) h2))
                go_quiet (fail)
                have H8 : Hid (Rd w (V.drewN nq) g p A k l) := ⟨H7.out.p, H7.out.m.drewN nq, H7.out.o⟩
                have HP8 : Hid (Opts (V.drewN nq) (V.drewN nq).heap.size AC cn (poors (vs p l))) := HO4.out
                have HG8 : Hid (Opts (V.drewN nq) (V.drewN nq).heap.size AN nn (sugs p l)) := HG7.out
                clear H7 HO4 HG7 r5 r24
                generalize V.drewN nq = Y at *
                have k24 : Y.cell? ⟨g, 24, none⟩ = some (.int .i64 p.naks) := H8.out.p.c 24
                have f24 := H8.out.p.f 24
                have H6 : Hid (Rd w (Y.setCell ⟨g, 24, none⟩ (.int .i64 ((p.naks : Int) + 1))) g { p with naks := p.naks + 1 } A k l) := H8.out.turn (set_moves _ _ _ _) (H8.out.p.setNaks (p.naks + 1))
                have HO6 : Hid (Opts (Y.setCell ⟨g, 24, none⟩ (.int .i64 ((p.naks : Int) + 1))) (Y.setCell ⟨g, 24, none⟩ (.int .i64 ((p.naks : Int) + 1))).heap.size AN nn (sugs p l)) := (opts_past HG8.out H8.out.p (dv_no _) (set_moves _ _ _ _) (Nat.le_refl _)).more (set_moves _ _ _ _).size
                go_wp2
                go_ret2
                exact rj_end HC.out hnn' HO6.out H6.out.p H6.out.m
              · have h22 := decide_eq_false h2
                go_quiet (fail)
                have H8 : Hid (Rd w (V.drewN nq) g p A k l) := ⟨H7.out.p, H7.out.m.drewN nq, H7.out.o⟩
                have HP8 : Hid (Opts (V.drewN nq) (V.drewN nq).heap.size AC cn (poors (vs p l))) := HO4.out
                have HG8 : Hid (Opts (V.drewN nq) (V.drewN nq).heap.size AN nn (sugs p l)) := HG7.out
                clear H7 HO4 HG7 r5 r24
                generalize V.drewN nq = Y at *
                have k24 : Y.cell? ⟨g, 24, none⟩ = some (.int .i64 p.naks) := H8.out.p.c 24
                have f24 := H8.out.p.f 24
                by_cases h3 : 0 < cn
                · have h3' : (0 : Int) < (cn : Int) := by omega
                  have h32 := decide_eq_true h3'
                  have HC := Lib.hid (poor_of (way_poor (p := p) (l := l) HR0.out h2 (fun e => by rw [e] at hcn'; simp at hcn'; omega)))
                  have H6 : Hid (Rd w (Y.setCell ⟨g, 24, none⟩ (.int .i64 (0))) g { p with naks := 0 } A k l) := H8.out.turn (set_moves _ _ _ _) (H8.out.p.setNaks (0))
                  have HO6 : Hid (Opts (Y.setCell ⟨g, 24, none⟩ (.int .i64 (0))) (Y.setCell ⟨g, 24, none⟩ (.int .i64 (0))).heap.size AC cn (poors (vs p l))) := (opts_past HP8.out H8.out.p (dv_no _) (set_moves _ _ _ _) (Nat.le_refl _)).more (set_moves _ _ _ _).size
                  go_wp2
                  go_ret2
                  exact rj_end HC.out hcn' HO6.out H6.out.p H6.out.m
                · have h3' : ¬ (0 : Int) < (cn : Int) := by omega
                  have h32 := decide_eq_false h3'
                  have HC := Lib.hid (ack_of (way_ack' (p := p) (l := l) HR0.out h2 (List.eq_nil_of_length_eq_zero (by omega))))
                  have H5 : Hid (Rd w (Y.setCell ⟨g, 24, none⟩ (.int .i64 0)) g { p with naks := 0 } A k l) := H8.out.turn (set_moves _ _ _ _) (H8.out.p.setNaks 0)
                  have HG := Lib.hid (rget_any l w.heap.size A k c _ H5.out.o (by omega) H5.out.m.size)
                  go_wp2_with fail
                  refine HG.out.mono ?_
                  rintro e w8 ⟨A5, c5, rfl, _, hb5⟩
                  have H6 := Lib.hid (H5.out.callee hb5)
                  clear hb5 HG H5 k24 f24
                  obtain ⟨x, hx⟩ : ∃ x, Ipc.gL l = x := ⟨_, rfl⟩
                  rw [hx]
                  have HX := Lib.hid hx
                  clear hx
                  generalize (gO l).length = n1
                  generalize gE l = e1
                  obtain ⟨V8, hV8, HV8⟩ := boxL w8 x
                  have H6b := Lib.hid (H6.out.callee HV8.out.2.1)
                  obtain ⟨l0, l1, l2, l3, l4, l5⟩ := cells6 HV8.out.1
                  have p18 : V8.cell? ⟨g, 18, none⟩ = some (Value.bool p.peer.ha) := H6b.out.p.c 18
                  have q18 := H6b.out.p.f 18
                  have p19 : V8.cell? ⟨g, 19, none⟩ = some (.int .u32 p.peer.addr.toNat) := H6b.out.p.c 19
                  have q19 := H6b.out.p.f 19
                  have p20 : V8.cell? ⟨g, 20, none⟩ = some (Value.bool p.peer.h1) := H6b.out.p.c 20
                  have q20 := H6b.out.p.f 20
                  have p21 : V8.cell? ⟨g, 21, none⟩ = some (.int .u32 p.peer.dns1.toNat) := H6b.out.p.c 21
                  have q21 := H6b.out.p.f 21
                  have p22 : V8.cell? ⟨g, 22, none⟩ = some (Value.bool p.peer.h2) := H6b.out.p.c 22
                  have q22 := H6b.out.p.f 22
                  have p23 : V8.cell? ⟨g, 23, none⟩ = some (.int .u32 p.peer.dns2.toNat) := H6b.out.p.c 23
                  have q23 := H6b.out.p.f 23
                  obtain ⟨Z, hZ⟩ : ∃ Z, V8.setCells g 18 (lv x) = Z := ⟨_, rfl⟩
                  have H9 : Hid (Rd w Z g { p with naks := 0, peer := x } A k l) := by show Rd _ _ _ _ _ _ _; rw [← hZ]; exact H6b.out.turn (sets_moves _ _ _ _) (H6b.out.p.setPeer x)
                  have HLZ : Hid (Opts Z Z.heap.size A k l) := H9.out.o.more H9.out.m.size
                  simp only [World.setCells, lv] at hZ
                  unfold lv
                  clear H6 H6b HV8
                  go_wp2_with (at_builtin; refine append_opts rfl _ _ 29 rfl Z.heap.size 48 i0 _ 24 Try.underlying29 hi hz0 hz1 hz2 rfl (.slice none 0 0) 0 [] rfl (World.ownsRow_nil _ _ _ _) Z.heap.size A k c l hA rfl HLZ.out (by unfold maxLen; omega) (by omega) (Nat.le_refl _) ?_; intro va wa howna hgra; rw [List.nil_append, Nat.zero_add] at howna; obtain ⟨A6, c6, rfl, hO6⟩ := opts_own howna HL.out.2.1; have HO6 := Lib.hid hO6; have H10 := Lib.hid (H9.out.callee ((Below.refl Z.heap.size Z).grown hgra (Nat.le_refl _) (fun j hj => by cases hj))); clear howna hgra hO6)
                  go_ret2
                  exact rj_end (by have h := HC.out; rw [HX.out] at h; exact h) Hn.out HO6.out H10.out.p H10.out.m
            · obtain rfl : nn = 0 := by omega
              have HS0 : sugs p l = [] := List.eq_nil_of_length_eq_zero (by omega)
              obtain rfl : cn = 0 := by rw [← hcn', (sugs_nil HS0).1]; rfl
              have HC := Lib.hid (ack_of (way_ack (p := p) (l := l) HR0.out HS0))
              clear HS0
              go_quiet (fail)
              have H8 : Hid (Rd w (V.drewN nq) g p A k l) := ⟨H7.out.p, H7.out.m.drewN nq, H7.out.o⟩
              have HP8 : Hid (Opts (V.drewN nq) (V.drewN nq).heap.size AC 0 (poors (vs p l))) := HO4.out
              have HG8 : Hid (Opts (V.drewN nq) (V.drewN nq).heap.size AN 0 (sugs p l)) := HG7.out
              clear H7 HO4 HG7 r5 r24
              generalize V.drewN nq = Y at *
              have k24 : Y.cell? ⟨g, 24, none⟩ = some (.int .i64 p.naks) := H8.out.p.c 24
              have f24 := H8.out.p.f 24
              have H5 : Hid (Rd w (Y.setCell ⟨g, 24, none⟩ (.int .i64 0)) g { p with naks := 0 } A k l) := H8.out.turn (set_moves _ _ _ _) (H8.out.p.setNaks 0)
              have HG := Lib.hid (rget_any l w.heap.size A k c _ H5.out.o (by omega) H5.out.m.size)
              go_wp2_with fail
              refine HG.out.mono ?_
              rintro e w8 ⟨A5, c5, rfl, _, hb5⟩
              have H6 := Lib.hid (H5.out.callee hb5)
              clear hb5 HG H5 k24 f24
              obtain ⟨x, hx⟩ : ∃ x, Ipc.gL l = x := ⟨_, rfl⟩
              rw [hx]
              have HX := Lib.hid hx
              clear hx
              generalize (gO l).length = n1
              generalize gE l = e1
              obtain ⟨V8, hV8, HV8⟩ := boxL w8 x
              have H6b := Lib.hid (H6.out.callee HV8.out.2.1)
              obtain ⟨l0, l1, l2, l3, l4, l5⟩ := cells6 HV8.out.1
              have p18 : V8.cell? ⟨g, 18, none⟩ = some (Value.bool p.peer.ha) := H6b.out.p.c 18
              have q18 := H6b.out.p.f 18
              have p19 : V8.cell? ⟨g, 19, none⟩ = some (.int .u32 p.peer.addr.toNat) := H6b.out.p.c 19
              have q19 := H6b.out.p.f 19
              have p20 : V8.cell? ⟨g, 20, none⟩ = some (Value.bool p.peer.h1) := H6b.out.p.c 20
              have q20 := H6b.out.p.f 20
              have p21 : V8.cell? ⟨g, 21, none⟩ = some (.int .u32 p.peer.dns1.toNat) := H6b.out.p.c 21
              have q21 := H6b.out.p.f 21
              have p22 : V8.cell? ⟨g, 22, none⟩ = some (Value.bool p.peer.h2) := H6b.out.p.c 22
              have q22 := H6b.out.p.f 22
              have p23 : V8.cell? ⟨g, 23, none⟩ = some (.int .u32 p.peer.dns2.toNat) := H6b.out.p.c 23
              have q23 := H6b.out.p.f 23
              obtain ⟨Z, hZ⟩ : ∃ Z, V8.setCells g 18 (lv x) = Z := ⟨_, rfl⟩
              have H9 : Hid (Rd w Z g { p with naks := 0, peer := x } A k l) := by show Rd _ _ _ _ _ _ _; rw [← hZ]; exact H6b.out.turn (sets_moves _ _ _ _) (H6b.out.p.setPeer x)
              have HLZ : Hid (Opts Z Z.heap.size A k l) := H9.out.o.more H9.out.m.size
              simp only [World.setCells, lv] at hZ
              unfold lv
              clear H6 H6b HV8
              go_wp2_with (at_builtin; refine append_opts rfl _ _ 29 rfl Z.heap.size 48 i0 _ 24 Try.underlying29 hi hz0 hz1 hz2 rfl (.slice none 0 0) 0 [] rfl (World.ownsRow_nil _ _ _ _) Z.heap.size A k c l hA rfl HLZ.out (by unfold maxLen; omega) (by omega) (Nat.le_refl _) ?_; intro va wa howna hgra; rw [List.nil_append, Nat.zero_add] at howna; obtain ⟨A6, c6, rfl, hO6⟩ := opts_own howna HL.out.2.1; have HO6 := Lib.hid hO6; have H10 := Lib.hid (H9.out.callee ((Below.refl Z.heap.size Z).grown hgra (Nat.le_refl _) (fun j hj => by cases hj))); clear howna hgra hO6)
              go_ret2
              exact rj_end (by have h := HC.out; rw [HX.out] at h; exact h) Hn.out HO6.out H10.out.p H10.out.m
          · have HS : Hid (sugs p l = insts (vs p l) ++ [oV 3 p.c.peer]) := by show insts (vs p l) ++ miss p l = _; rw [miss_some hf hp]; rfl
            rw [show (p.c.peer != 0) = true from bne_iff_ne.2 hp] at hpz
            clear hf hp
            have HPv := Lib.hid (HP.out.below HT1.out.b HP.out.lt)
            have q1 : V.cell? ⟨g, 1, none⟩ = some (.int .u32 p.c.peer.toNat) := HPv.out.c 1
            go_wp2_with fail
            refine (raddr_any 3 p.c.peer V).mono ?_
            rintro e w2 ⟨rfl, hb2⟩
            have HT2 := Lib.hid (HT1.out.callee hb2)
            clear hb2 HPv HT1 q1 hV
            obtain ⟨y, hy⟩ : ∃ y, oV 3 p.c.peer = y := ⟨_, rfl⟩
            have hy1 : y.1 = 3 := by rw [← hy]; rfl
            rw [hy] at HS ⊢
            have HHy : Hid (y.2.size ≤ 140737488351232) := by show _ ≤ _; rw [← hy]; exact Nat.le_trans (Nat.le_of_eq (by show (bOf (numS _ 4)).size = 4; rw [size_bOf, numS_length])) (by decide)
            clear hy
            go_upto_region 21 with (at_builtin; refine wpList_append_own_at _ rfl _ _ 29 rfl w.heap.size 48 i0 _ 2 24 Try.underlying29 hi hz0 hz1 hz2 rfl (by decide) _ _ _ rfl (HT2.out.alloc _).n ⟨w2.heap.size, 0, none⟩ 1 1 (optsV [((3 : UInt8), y.2)]) rfl rfl (by rw [optsV_one]; exact cells_new w2 _ _) (optsV_ones _) (by unfold maxLen; omega) (by omega) (HT2.out.alloc _).b.size ?_; intro v9 w9 hown1 hgr1 _ hat1; have Hown1 := Lib.hid hown1; have Hgr1 := Lib.hid hgr1; have Hat1 := Lib.hid hat1; clear hown1 hgr1 hat1; have HT3 := Lib.hid ((HT2.out.alloc _).growN Hgr1.out Hown1.out Hat1.out); have HS3 := HS.out; rw [show y = ((3 : UInt8), y.2) from Prod.ext hy1 rfl] at HS3; rw [← HS3] at HT3; obtain ⟨AM, cM, hvM, _⟩ := opts_own HT3.out.n (fun o ho => Nat.le_trans (sugs_small ho) (by decide)); subst hvM; clear HS3)
            have H7 : Hid (Rd w w9 g p A k l) := ⟨HP.out.below HT3.out.b HP.out.lt, Moves.of_below HT3.out.b, HL.out.below HT3.out.b⟩
            have HO4 : Hid (Opts w9 w9.heap.size AC cn (poors (vs p l))) := by
              obtain ⟨_, _, e, hO⟩ := opts_own HT3.out.c (fun o ho => HL.out.2.1 o ((poors_sub p l).subset ho))
              cases e
              exact hO
            have HG7 : Hid (Opts w9 w9.heap.size AM (nn + 1) (sugs p l)) := by
              obtain ⟨_, _, e, hO⟩ := opts_own HT3.out.n (fun o ho => Nat.le_trans (sugs_small ho) (by decide))
              cases e
              exact hO
            have hnn' : (sugs p l).length = (nn + 1) := HG7.out.1
            clear HT3
            have r5 : w9.cell? ⟨g, 5, none⟩ = some (.int .i64 p.c.mn) := H7.out.p.c 5
            have r24 : w9.cell? ⟨g, 24, none⟩ = some (.int .i64 p.naks) := H7.out.p.c 24
            have h1' : (0 : Int) < (((nn + 1) : Nat) : Int) := by omega
            have h12 := decide_eq_true h1'
            by_cases h2 : (p.naks : Int) < p.c.mn
            · have h22 := decide_eq_true h2
              have HC := Lib.hid (nak_of (way_nak (p := p) (l := l) HR0.out (fun e => by rw [e] at hnn'; simp at hnn' <;> omega) h2))
              go_quiet (fail)
              have H8 : Hid (Rd w (w9.drewN nq) g p A k l) := ⟨H7.out.p, H7.out.m.drewN nq, H7.out.o⟩
              have HP8 : Hid (Opts (w9.drewN nq) (w9.drewN nq).heap.size AC cn (poors (vs p l))) := HO4.out
              have HG8 : Hid (Opts (w9.drewN nq) (w9.drewN nq).heap.size AM (nn + 1) (sugs p l)) := HG7.out
              clear H7 HO4 HG7 r5 r24
              generalize w9.drewN nq = Y at *
              have k24 : Y.cell? ⟨g, 24, none⟩ = some (.int .i64 p.naks) := H8.out.p.c 24
              have f24 := H8.out.p.f 24
              have H6 : Hid (Rd w (Y.setCell ⟨g, 24, none⟩ (.int .i64 ((p.naks : Int) + 1))) g { p with naks := p.naks + 1 } A k l) := H8.out.turn (set_moves _ _ _ _) (H8.out.p.setNaks (p.naks + 1))
              have HO6 : Hid (Opts (Y.setCell ⟨g, 24, none⟩ (.int .i64 ((p.naks : Int) + 1))) (Y.setCell ⟨g, 24, none⟩ (.int .i64 ((p.naks : Int) + 1))).heap.size AM (nn + 1) (sugs p l)) := (opts_past HG8.out H8.out.p (dv_no _) (set_moves _ _ _ _) (Nat.le_refl _)).more (set_moves _ _ _ _).size
              go_wp2
              go_ret2
              exact rj_end HC.out hnn' HO6.out H6.out.p H6.out.m
            · have h22 := decide_eq_false h2
              go_quiet (fail)
              have H8 : Hid (Rd w (w9.drewN nq) g p A k l) := ⟨H7.out.p, H7.out.m.drewN nq, H7.out.o⟩
              have HP8 : Hid (Opts (w9.drewN nq) (w9.drewN nq).heap.size AC cn (poors (vs p l))) := HO4.out
              have HG8 : Hid (Opts (w9.drewN nq) (w9.drewN nq).heap.size AM (nn + 1) (sugs p l)) := HG7.out
              clear H7 HO4 HG7 r5 r24
              generalize w9.drewN nq = Y at *
              have k24 : Y.cell? ⟨g, 24, none⟩ = some (.int .i64 p.naks) := H8.out.p.c 24
              have f24 := H8.out.p.f 24
              by_cases h3 : 0 < cn
              · have h3' : (0 : Int) < (cn : Int) := by omega
                have h32 := decide_eq_true h3'
                have HC := Lib.hid (poor_of (way_poor (p := p) (l := l) HR0.out h2 (fun e => by rw [e] at hcn'; simp at hcn'; omega)))
                have H6 : Hid (Rd w (Y.setCell ⟨g, 24, none⟩ (.int .i64 (0))) g { p with naks := 0 } A k l) := H8.out.turn (set_moves _ _ _ _) (H8.out.p.setNaks (0))
                have HO6 : Hid (Opts (Y.setCell ⟨g, 24, none⟩ (.int .i64 (0))) (Y.setCell ⟨g, 24, none⟩ (.int .i64 (0))).heap.size AC cn (poors (vs p l))) := (opts_past HP8.out H8.out.p (dv_no _) (set_moves _ _ _ _) (Nat.le_refl _)).more (set_moves _ _ _ _).size
                go_wp2
                go_ret2
                exact rj_end HC.out hcn' HO6.out H6.out.p H6.out.m
              · have h3' : ¬ (0 : Int) < (cn : Int) := by omega
                have h32 := decide_eq_false h3'
                have HC := Lib.hid (ack_of (way_ack' (p := p) (l := l) HR0.out h2 (List.eq_nil_of_length_eq_zero (by omega))))
                have H5 : Hid (Rd w (Y.setCell ⟨g, 24, none⟩ (.int .i64 0)) g { p with naks := 0 } A k l) := H8.out.turn (set_moves _ _ _ _) (H8.out.p.setNaks 0)
                have HG := Lib.hid (rget_any l w.heap.size A k c _ H5.out.o (by omega) H5.out.m.size)
                go_wp2_with fail
                refine HG.out.mono ?_
                rintro e w8 ⟨A5, c5, rfl, _, hb5⟩
                have H6 := Lib.hid (H5.out.callee hb5)
                clear hb5 HG H5 k24 f24
                obtain ⟨x, hx⟩ : ∃ x, Ipc.gL l = x := ⟨_, rfl⟩
                rw [hx]
                have HX := Lib.hid hx
                clear hx
                generalize (gO l).length = n1
                generalize gE l = e1
                obtain ⟨V8, hV8, HV8⟩ := boxL w8 x
                have H6b := Lib.hid (H6.out.callee HV8.out.2.1)
                obtain ⟨l0, l1, l2, l3, l4, l5⟩ := cells6 HV8.out.1
                have p18 : V8.cell? ⟨g, 18, none⟩ = some (Value.bool p.peer.ha) := H6b.out.p.c 18
                have q18 := H6b.out.p.f 18
                have p19 : V8.cell? ⟨g, 19, none⟩ = some (.int .u32 p.peer.addr.toNat) := H6b.out.p.c 19
                have q19 := H6b.out.p.f 19
                have p20 : V8.cell? ⟨g, 20, none⟩ = some (Value.bool p.peer.h1) := H6b.out.p.c 20
                have q20 := H6b.out.p.f 20
                have p21 : V8.cell? ⟨g, 21, none⟩ = some (.int .u32 p.peer.dns1.toNat) := H6b.out.p.c 21
                have q21 := H6b.out.p.f 21
                have p22 : V8.cell? ⟨g, 22, none⟩ = some (Value.bool p.peer.h2) := H6b.out.p.c 22
                have q22 := H6b.out.p.f 22
                have p23 : V8.cell? ⟨g, 23, none⟩ = some (.int .u32 p.peer.dns2.toNat) := H6b.out.p.c 23
                have q23 := H6b.out.p.f 23
                obtain ⟨Z, hZ⟩ : ∃ Z, V8.setCells g 18 (lv x) = Z := ⟨_, rfl⟩
                have H9 : Hid (Rd w Z g { p with naks := 0, peer := x } A k l) := by show Rd _ _ _ _ _ _ _; rw [← hZ]; exact H6b.out.turn (sets_moves _ _ _ _) (H6b.out.p.setPeer x)
                have HLZ : Hid (Opts Z Z.heap.size A k l) := H9.out.o.more H9.out.m.size
                simp only [World.setCells, lv] at hZ
                unfold lv
                clear H6 H6b HV8
                go_wp2_with (at_builtin; refine append_opts rfl _ _ 29 rfl Z.heap.size 48 i0 _ 24 Try.underlying29 hi hz0 hz1 hz2 rfl (.slice none 0 0) 0 [] rfl (World.ownsRow_nil _ _ _ _) Z.heap.size A k c l hA rfl HLZ.out (by unfold maxLen; omega) (by omega) (Nat.le_refl _) ?_; intro va wa howna hgra; rw [List.nil_append, Nat.zero_add] at howna; obtain ⟨A6, c6, rfl, hO6⟩ := opts_own howna HL.out.2.1; have HO6 := Lib.hid hO6; have H10 := Lib.hid (H9.out.callee ((Below.refl Z.heap.size Z).grown hgra (Nat.le_refl _) (fun j hj => by cases hj))); clear howna hgra hO6)
                go_ret2
                exact rj_end (by have h := HC.out; rw [HX.out] at h; exact h) Hn.out HO6.out H10.out.p H10.out.m
        · have HS : Hid (sugs p l = insts (vs p l)) := by show insts (vs p l) ++ miss p l = _; rw [miss_has hf, List.append_nil]
          clear hf
          rw [← HS.out] at HT1
          go_upto_region 21 with (fail)
          clear hpz hV
          have H7 : Hid (Rd w V g p A k l) := ⟨HP.out.below HT1.out.b HP.out.lt, Moves.of_below HT1.out.b, HL.out.below HT1.out.b⟩
          have HO4 : Hid (Opts V V.heap.size AC cn (poors (vs p l))) := by
            obtain ⟨_, _, e, hO⟩ := opts_own HT1.out.c (fun o ho => HL.out.2.1 o ((poors_sub p l).subset ho))
            cases e
            exact hO
          have HG7 : Hid (Opts V V.heap.size AN nn (sugs p l)) := by
            obtain ⟨_, _, e, hO⟩ := opts_own HT1.out.n (fun o ho => Nat.le_trans (sugs_small ho) (by decide))
            cases e
            exact hO
          have hnn' : (sugs p l).length = nn := HG7.out.1
          clear HT1
          have r5 : V.cell? ⟨g, 5, none⟩ = some (.int .i64 p.c.mn) := H7.out.p.c 5
          have r24 : V.cell? ⟨g, 24, none⟩ = some (.int .i64 p.naks) := H7.out.p.c 24
          by_cases h1 : 0 < nn
          · have h1' : (0 : Int) < (nn : Int) := by omega
            have h12 := decide_eq_true h1'
            by_cases h2 : (p.naks : Int) < p.c.mn
            · have h22 := decide_eq_true h2
              have HC := Lib.hid (nak_of (way_nak (p := p) (l := l) HR0.out (fun e => by rw [e] at hnn'; simp at hnn' <;> omega) h2))
              go_quiet (fail)
              have H8 : Hid (Rd w (V.drewN nq) g p A k l) := ⟨H7.out.p, H7.out.m.drewN nq, H7.out.o⟩
              have HP8 : Hid (Opts (V.drewN nq) (V.drewN nq).heap.size AC cn (poors (vs p l))) := HO4.out
              have HG8 : Hid (Opts (V.drewN nq) (V.drewN nq).heap.size AN nn (sugs p l)) := HG7.out
              clear H7 HO4 HG7 r5 r24
              generalize V.drewN nq = Y at *
              have k24 : Y.cell? ⟨g, 24, none⟩ = some (.int .i64 p.naks) := H8.out.p.c 24
              have f24 := H8.out.p.f 24
              have H6 : Hid (Rd w (Y.setCell ⟨g, 24, none⟩ (.int .i64 ((p.naks : Int) + 1))) g { p with naks := p.naks + 1 } A k l) := H8.out.turn (set_moves _ _ _ _) (H8.out.p.setNaks (p.naks + 1))
              have HO6 : Hid (Opts (Y.setCell ⟨g, 24, none⟩ (.int .i64 ((p.naks : Int) + 1))) (Y.setCell ⟨g, 24, none⟩ (.int .i64 ((p.naks : Int) + 1))).heap.size AN nn (sugs p l)) := (opts_past HG8.out H8.out.p (dv_no _) (set_moves _ _ _ _) (Nat.le_refl _)).more (set_moves _ _ _ _).size
              go_wp2
              go_ret2
              exact rj_end HC.out hnn' HO6.out H6.out.p H6.out.m
            · have h22 := decide_eq_false h2
              go_quiet (fail)
              have H8 : Hid (Rd w (V.drewN nq) g p A k l) := ⟨H7.out.p, H7.out.m.drewN nq, H7.out.o⟩
              have HP8 : Hid (Opts (V.drewN nq) (V.drewN nq).heap.size AC cn (poors (vs p l))) := HO4.out
              have HG8 : Hid (Opts (V.drewN nq) (V.drewN nq).heap.size AN nn (sugs p l)) := HG7.out
              clear H7 HO4 HG7 r5 r24
              generalize V.drewN nq = Y at *
              have k24 : Y.cell? ⟨g, 24, none⟩ = some (.int .i64 p.naks) := H8.out.p.c 24
              have f24 := H8.out.p.f 24
              by_cases h3 : 0 < cn
              · have h3' : (0 : Int) < (cn : Int) := by omega
                have h32 := decide_eq_true h3'
                have HC := Lib.hid (poor_of (way_poor (p := p) (l := l) HR0.out h2 (fun e => by rw [e] at hcn'; simp at hcn'; omega)))
                have H6 : Hid (Rd w (Y.setCell ⟨g, 24, none⟩ (.int .i64 (0))) g { p with naks := 0 } A k l) := H8.out.turn (set_moves _ _ _ _) (H8.out.p.setNaks (0))
                have HO6 : Hid (Opts (Y.setCell ⟨g, 24, none⟩ (.int .i64 (0))) (Y.setCell ⟨g, 24, none⟩ (.int .i64 (0))).heap.size AC cn (poors (vs p l))) := (opts_past HP8.out H8.out.p (dv_no _) (set_moves _ _ _ _) (Nat.le_refl _)).more (set_moves _ _ _ _).size
                go_wp2
                go_ret2
                exact rj_end HC.out hcn' HO6.out H6.out.p H6.out.m
              · have h3' : ¬ (0 : Int) < (cn : Int) := by omega
                have h32 := decide_eq_false h3'
                have HC := Lib.hid (ack_of (way_ack' (p := p) (l := l) HR0.out h2 (List.eq_nil_of_length_eq_zero (by omega))))
                have H5 : Hid (Rd w (Y.setCell ⟨g, 24, none⟩ (.int .i64 0)) g { p with naks := 0 } A k l) := H8.out.turn (set_moves _ _ _ _) (H8.out.p.setNaks 0)
                have HG := Lib.hid (rget_any l w.heap.size A k c _ H5.out.o (by omega) H5.out.m.size)
                go_wp2_with fail
                refine HG.out.mono ?_
                rintro e w8 ⟨A5, c5, rfl, _, hb5⟩
                have H6 := Lib.hid (H5.out.callee hb5)
                clear hb5 HG H5 k24 f24
                obtain ⟨x, hx⟩ : ∃ x, Ipc.gL l = x := ⟨_, rfl⟩
                rw [hx]
                have HX := Lib.hid hx
                clear hx
                generalize (gO l).length = n1
                generalize gE l = e1
                obtain ⟨V8, hV8, HV8⟩ := boxL w8 x
                have H6b := Lib.hid (H6.out.callee HV8.out.2.1)
                obtain ⟨l0, l1, l2, l3, l4, l5⟩ := cells6 HV8.out.1
                have p18 : V8.cell? ⟨g, 18, none⟩ = some (Value.bool p.peer.ha) := H6b.out.p.c 18
                have q18 := H6b.out.p.f 18
                have p19 : V8.cell? ⟨g, 19, none⟩ = some (.int .u32 p.peer.addr.toNat) := H6b.out.p.c 19
                have q19 := H6b.out.p.f 19
                have p20 : V8.cell? ⟨g, 20, none⟩ = some (Value.bool p.peer.h1) := H6b.out.p.c 20
                have q20 := H6b.out.p.f 20
                have p21 : V8.cell? ⟨g, 21, none⟩ = some (.int .u32 p.peer.dns1.toNat) := H6b.out.p.c 21
                have q21 := H6b.out.p.f 21
                have p22 : V8.cell? ⟨g, 22, none⟩ = some (Value.bool p.peer.h2) := H6b.out.p.c 22
                have q22 := H6b.out.p.f 22
                have p23 : V8.cell? ⟨g, 23, none⟩ = some (.int .u32 p.peer.dns2.toNat) := H6b.out.p.c 23
                have q23 := H6b.out.p.f 23
                obtain ⟨Z, hZ⟩ : ∃ Z, V8.setCells g 18 (lv x) = Z := ⟨_, rfl⟩
                have H9 : Hid (Rd w Z g { p with naks := 0, peer := x } A k l) := by show Rd _ _ _ _ _ _ _; rw [← hZ]; exact H6b.out.turn (sets_moves _ _ _ _) (H6b.out.p.setPeer x)
                have HLZ : Hid (Opts Z Z.heap.size A k l) := H9.out.o.more H9.out.m.size
                simp only [World.setCells, lv] at hZ
                unfold lv
                clear H6 H6b HV8
                go_wp2_with (at_builtin; refine append_opts rfl _ _ 29 rfl Z.heap.size 48 i0 _ 24 Try.underlying29 hi hz0 hz1 hz2 rfl (.slice none 0 0) 0 [] rfl (World.ownsRow_nil _ _ _ _) Z.heap.size A k c l hA rfl HLZ.out (by unfold maxLen; omega) (by omega) (Nat.le_refl _) ?_; intro va wa howna hgra; rw [List.nil_append, Nat.zero_add] at howna; obtain ⟨A6, c6, rfl, hO6⟩ := opts_own howna HL.out.2.1; have HO6 := Lib.hid hO6; have H10 := Lib.hid (H9.out.callee ((Below.refl Z.heap.size Z).grown hgra (Nat.le_refl _) (fun j hj => by cases hj))); clear howna hgra hO6)
                go_ret2
                exact rj_end (by have h := HC.out; rw [HX.out] at h; exact h) Hn.out HO6.out H10.out.p H10.out.m
          · obtain rfl : nn = 0 := by omega
            have HS0 : sugs p l = [] := List.eq_nil_of_length_eq_zero (by omega)
            obtain rfl : cn = 0 := by rw [← hcn', (sugs_nil HS0).1]; rfl
            have HC := Lib.hid (ack_of (way_ack (p := p) (l := l) HR0.out HS0))
            clear HS0
            go_quiet (fail)
            have H8 : Hid (Rd w (V.drewN nq) g p A k l) := ⟨H7.out.p, H7.out.m.drewN nq, H7.out.o⟩
            have HP8 : Hid (Opts (V.drewN nq) (V.drewN nq).heap.size AC 0 (poors (vs p l))) := HO4.out
            have HG8 : Hid (Opts (V.drewN nq) (V.drewN nq).heap.size AN 0 (sugs p l)) := HG7.out
            clear H7 HO4 HG7 r5 r24
            generalize V.drewN nq = Y at *
            have k24 : Y.cell? ⟨g, 24, none⟩ = some (.int .i64 p.naks) := H8.out.p.c 24
            have f24 := H8.out.p.f 24
            have H5 : Hid (Rd w (Y.setCell ⟨g, 24, none⟩ (.int .i64 0)) g { p with naks := 0 } A k l) := H8.out.turn (set_moves _ _ _ _) (H8.out.p.setNaks 0)
            have HG := Lib.hid (rget_any l w.heap.size A k c _ H5.out.o (by omega) H5.out.m.size)
            go_wp2_with fail
            refine HG.out.mono ?_
            rintro e w8 ⟨A5, c5, rfl, _, hb5⟩
            have H6 := Lib.hid (H5.out.callee hb5)
            clear hb5 HG H5 k24 f24
            obtain ⟨x, hx⟩ : ∃ x, Ipc.gL l = x := ⟨_, rfl⟩
            rw [hx]
            have HX := Lib.hid hx
            clear hx
            generalize (gO l).length = n1
            generalize gE l = e1
            obtain ⟨V8, hV8, HV8⟩ := boxL w8 x
            have H6b := Lib.hid (H6.out.callee HV8.out.2.1)
            obtain ⟨l0, l1, l2, l3, l4, l5⟩ := cells6 HV8.out.1
            have p18 : V8.cell? ⟨g, 18, none⟩ = some (Value.bool p.peer.ha) := H6b.out.p.c 18
            have q18 := H6b.out.p.f 18
            have p19 : V8.cell? ⟨g, 19, none⟩ = some (.int .u32 p.peer.addr.toNat) := H6b.out.p.c 19
            have q19 := H6b.out.p.f 19
            have p20 : V8.cell? ⟨g, 20, none⟩ = some (Value.bool p.peer.h1) := H6b.out.p.c 20
            have q20 := H6b.out.p.f 20
            have p21 : V8.cell? ⟨g, 21, none⟩ = some (.int .u32 p.peer.dns1.toNat) := H6b.out.p.c 21
            have q21 := H6b.out.p.f 21
            have p22 : V8.cell? ⟨g, 22, none⟩ = some (Value.bool p.peer.h2) := H6b.out.p.c 22
            have q22 := H6b.out.p.f 22
            have p23 : V8.cell? ⟨g, 23, none⟩ = some (.int .u32 p.peer.dns2.toNat) := H6b.out.p.c 23
            have q23 := H6b.out.p.f 23
            obtain ⟨Z, hZ⟩ : ∃ Z, V8.setCells g 18 (lv x) = Z := ⟨_, rfl⟩
            have H9 : Hid (Rd w Z g { p with naks := 0, peer := x } A k l) := by show Rd _ _ _ _ _ _ _; rw [← hZ]; exact H6b.out.turn (sets_moves _ _ _ _) (H6b.out.p.setPeer x)
            have HLZ : Hid (Opts Z Z.heap.size A k l) := H9.out.o.more H9.out.m.size
            simp only [World.setCells, lv] at hZ
            unfold lv
            clear H6 H6b HV8
            go_wp2_with (at_builtin; refine append_opts rfl _ _ 29 rfl Z.heap.size 48 i0 _ 24 Try.underlying29 hi hz0 hz1 hz2 rfl (.slice none 0 0) 0 [] rfl (World.ownsRow_nil _ _ _ _) Z.heap.size A k c l hA rfl HLZ.out (by unfold maxLen; omega) (by omega) (Nat.le_refl _) ?_; intro va wa howna hgra; rw [List.nil_append, Nat.zero_add] at howna; obtain ⟨A6, c6, rfl, hO6⟩ := opts_own howna HL.out.2.1; have HO6 := Lib.hid hO6; have H10 := Lib.hid (H9.out.callee ((Below.refl Z.heap.size Z).grown hgra (Nat.le_refl _) (fun j hj => by cases hj))); clear howna hgra hO6)
            go_ret2
            exact rj_end (by have h := HC.out; rw [HX.out] at h; exact h) Hn.out HO6.out H10.out.p H10.out.m
end Go.Proofs.Ythoangihndplkaa.Ipp
