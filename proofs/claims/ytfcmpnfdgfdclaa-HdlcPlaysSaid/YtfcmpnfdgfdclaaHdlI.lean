/- Contract of the document's Push. -/
import Derived.Test.YtfcmpnfdgfdclaaHdlH
namespace Go.Proofs.Ytfcmpnfdgfdclaa.Hdl
open Go.RowKit Go.Proofs.Ytfcmpnfdgfdclaa.Oct Go.Proofs.Ytfcmpnfdgfdclaa.Row Go.Proofs.Ytfcmpnfdgfdclaa.Esc Go.Proofs.Ytfcmpnfdgfdclaa.Fcs

theorem feed_len (r : St) (b : UInt8) : (feed r b).piece.length ≤ r.piece.length + 1 := by
  unfold feed
  split
  · show ([] : List UInt8).length ≤ _; simp
  · split
    · show (r.piece ++ [b]).length ≤ _; simp
    · omega
theorem feeds_len (r : St) (l : List UInt8) : (feeds r l).piece.length ≤ r.piece.length + l.length := by
  induction l generalizing r with
  | nil => exact Nat.le_refl _
  | cons b l ih =>
    have h1 := ih (feed r b)
    have h2 := feed_len r b
    rw [feeds_cons, List.length_cons]
    omega

def RPushR (g : Nat) (r : St) (w : World) (l : List UInt8) (u : Value) (wr : World) : Prop :=
  Doc wr g (feeds r l) ∧ Moves (fun k => k = g) w wr ∧ wr.ownsRow w.heap.size 9 1 u (outs r l).length (textsV (outs r l))
def RPushP (g : Nat) (r : St) (l : List UInt8) (w : World) (e : Ending) (w' : World) : Prop :=
  ∃ u, e = .returned u ∧ w'.ownsRow w.heap.size 9 1 u (outs r l).length (textsV (outs r l)) ∧ Doc w' g (feeds r l) ∧ Moves (fun k => k = g) w w'
theorem drow_past {w wr w1 : World} {g m : Nat} {u : Value} {xs : List Value} (hO : wr.ownsRow w.heap.size 9 1 u m xs) (hg : g < w.heap.size) (hM : Moves (fun k => k = g) wr w1) : w1.ownsRow w.heap.size 9 1 u m xs :=
  hM.row hO fun k hk hf => by
    subst hf
    have := (hO.lt _ hk).1; omega
/-- The store of flag and piece behind a flag. -/
theorem doc_ends {W : World} {g : Nat} {r : St} (h : Doc W g r) : Doc ((W.setCell ⟨g, 2, none⟩ (.bool true)).setCell ⟨g, 3, none⟩ (.string ⟨#[]⟩)) g r.ends ∧ Moves (fun k => k = g) W ((W.setCell ⟨g, 2, none⟩ (.bool true)).setCell ⟨g, 3, none⟩ (.string ⟨#[]⟩)) := by
  constructor
  · unfold Doc
    rw [cells_set (cells_set h _) _]
    rfl
  · exact ((Moves.refl (fun k => k = g) W).setCell ⟨g, 2, none⟩ (fun _ => rfl) _).setCell ⟨g, 3, none⟩ (fun _ => rfl) _
theorem doc_adds {W : World} {g : Nat} {r : St} {b : UInt8} {P : ByteArray} (h : Doc W g r) (hP : P = bOf (r.piece ++ [b])) : Doc (W.setCell ⟨g, 3, none⟩ (.string P)) g (r.adds b) ∧ Moves (fun k => k = g) W (W.setCell ⟨g, 3, none⟩ (.string P)) := by
  subst hP
  constructor
  · unfold Doc
    rw [cells_set h _]
    rfl
  · exact (Moves.refl (fun k => k = g) W).setCell ⟨g, 3, none⟩ (fun _ => rfl) _

set_option maxHeartbeats 4000000 in
set_option maxRecDepth 100000 in
theorem rpush_any (g : Nat) (r : St) (s : ByteArray) (w : World) (hD : Doc w g r) (hI : Inv r) (N : Nat) (hN : Small r N) (hN2 : N + s.size ≤ 1000000000) (hp : r.piece.length + s.size ≤ 1048576) :
    Calls Try.prog 19 #[.pointer (some ⟨g, 0, none⟩), .string s] w (RPushP g r s.toList w) := by
  obtain ⟨i0, hi, hz0, hz1, hz2⟩ := info_parts Try.info9
  have HD := Lib.hid hD; clear hD
  have HI := Lib.hid hI; clear hI
  have HN := Lib.hid hN; clear hN
  have hglt := HD.out.lt
  go_enter Try.func19, Try.ntmps19
  go_wp2
  go_loopg [5, 6] s.size (fun gk u i wr => ∃ j : Nat, j ≤ s.size ∧ gk = s.size - j ∧ i = .int .i64 j ∧ RPushR g r w (s.toList.take j) u wr)
  case atStart => exact ⟨0, Nat.zero_le _, rfl, rfl, HD.out, Moves.refl _ _, World.ownsRow_nil _ _ _ _⟩
  case round =>
    obtain ⟨j, hj, hgk, rfl, hP⟩ := hrel
    have Hgk := Lib.hid hgk; clear hgk
    by_cases hlt : j < s.size
    · obtain ⟨x, hsx⟩ : ∃ x, s[j] = x := ⟨_, rfl⟩
      have HT : Hid (s.toList.take (j + 1) = s.toList.take j ++ [x]) := by show _ = _; rw [at_take s j hlt, hsx]
      have HSub : Hid (s.extract j (j + 1) = bOf [x]) := by
        show _ = _
        rw [extract_bOf, show j + 1 - j = 1 by omega, List.drop_eq_getElem_cons (by rw [← size_toList]; exact hlt), ← getElem_toList s j hlt, hsx]
        rfl
      have hll : (s.toList.take j).length = j := by rw [List.length_take, ← size_toList]; omega
      obtain ⟨hD1, hM1, hO1⟩ := hP
      have HIj := Lib.hid (feeds_inv HI.out (s.toList.take j))
      have HNj : Hid (Small (feeds r (s.toList.take j)) (N + j)) := by have := feeds_small HN.out (s.toList.take j); rw [hll] at this; exact this
      have hfl := feeds_len r (s.toList.take j)
      have hol := outs_le r (s.toList.take j)
      rw [hll] at hol hfl
      clear hll
      generalize s.toList.take j = l at *
      obtain ⟨rl, hrl⟩ : ∃ rl, feeds r l = rl := ⟨_, rfl⟩
      rw [hrl] at hD1 HIj HNj hfl
      have HRL := Lib.hid hrl; clear hrl
      have HD1 := Lib.hid hD1
      have HM1 := Lib.hid hM1; clear hM1
      have HO1 := Lib.hid hO1; clear hO1
      have hsz1 := HM1.out.size
      have hg1 := hD1.lt
      have hc1 : wr.cell? ⟨g, 1, none⟩ = some (.int .u32 rl.accm) := (cellR hD1 1).1
      have hc2 : wr.cell? ⟨g, 2, none⟩ = some (.bool rl.begun) := (cellR hD1 2).1
      have hc3 : wr.cell? ⟨g, 3, none⟩ = some (.string (bOf rl.piece)) := (cellR hD1 3).1
      have hf2 := (cellR hD1 2).2
      have hf3 := (cellR hD1 3).2
      clear hD1
      by_cases hx : x = 126
      · have e126 : ((x.toNat : Int) == 126) = true := by rw [hx]; rfl
        rw [hx] at HT
        clear hx
        by_cases hp0 : rl.piece = []
        · have HF : Hid (feeds r (l ++ [126]) = rl.ends ∧ outs r (l ++ [126]) = outs r l) := by
            show _ ∧ _
            rw [feeds_snoc, outs_snoc, HRL.out, (feed_none hp0).1, (feed_none hp0).2, List.append_nil]
            exact ⟨rfl, rfl⟩
          have hE : bOf rl.piece = ⟨#[]⟩ := by rw [hp0]; rfl
          rw [hE] at hc3
          clear hE hp0
          cases hbg : rl.begun
          all_goals
            rw [hbg] at hc2
            clear hbg
            go_wp2
            go_roundg (s.size - (j + 1))
            case measure => rw [Hgk.out]; omega
            case rel =>
              refine ⟨j + 1, by omega, rfl, by go_num, ?_⟩
              rw [HT.out]
              have h := doc_ends HD1.out
              exact ⟨by rw [HF.out.1]; exact h.1, HM1.out.trans h.2 (fun _ _ h => h), by rw [HF.out.2]; exact drow_past HO1.out hglt h.2⟩
        · have hbg : rl.begun = true := by
            cases h : rl.begun
            · exact absurd (HIj.out.2.1 h) hp0
            · rfl
          rw [hbg] at hc2
          have HF : Hid (feeds r (l ++ [126]) = (rl.bump (kind rl.most rl.piece)).ends) := by
            show _ = _
            rw [feeds_snoc, HRL.out, feed_some hp0]
          have HG : Hid (outs r (l ++ [126]) = outs r l ++ gives rl 126) := by show _ = _; rw [outs_snoc, HRL.out]
          obtain ⟨P, hP⟩ : ∃ P, bOf rl.piece = P := ⟨_, rfl⟩
          have hP1 : P.toList.isEmpty = false := by
            rw [← hP, toList_bOf]
            cases hc : rl.piece
            · exact absurd hc hp0
            · rfl
          have hP2 : ¬ P.toList = [] := by intro h; rw [h] at hP1; cases hP1
          rw [hP] at hc3
          clear hP hbg
          have HP0 := Lib.hid hp0; clear hp0
          cases hmb : metB rl
          · have HMB := Lib.hid hmb
            have hk : kind rl.most rl.piece ≠ 0 := of_decide_eq_false hmb
            have HG2 : Hid (outs r (l ++ [126]) = outs r l) := by show _ = _; rw [HG.out, gives_bad hk, List.append_nil]
            clear hmb hk
            go_wp2_with fail
            refine (met_any g rl _ HD1.out HIj.out (small_mono HNj.out (by omega)) HP0.out (by omega)).mono ?_
            rintro e w1 ⟨rfl, hD2, hM2⟩
            rw [HMB.out]
            have HD2 := Lib.hid hD2
            have HM2 := Lib.hid hM2; clear hM2
            have hg2 := hD2.lt
            have d2 : w1.cell? ⟨g, 2, none⟩ = some (.bool (rl.bump (kind rl.most rl.piece)).begun) := (cellR hD2 2).1
            have d3 : w1.cell? ⟨g, 3, none⟩ = some (.string (bOf (rl.bump (kind rl.most rl.piece)).piece)) := (cellR hD2 3).1
            have e2 := (cellR hD2 2).2
            have e3 := (cellR hD2 3).2
            clear hD2
            generalize (rl.bump (kind rl.most rl.piece)).begun = bb at *
            generalize bOf (rl.bump (kind rl.most rl.piece)).piece = bp at *
            go_wp2
            go_roundg (s.size - (j + 1))
            case measure => rw [Hgk.out]; omega
            case rel =>
              refine ⟨j + 1, by omega, rfl, by go_num, ?_⟩
              rw [HT.out]
              have h := doc_ends HD2.out
              have hm := HM2.out.trans h.2 (fun _ _ h => h)
              exact ⟨by rw [HF.out]; exact h.1, HM1.out.trans hm (fun _ _ h => h), by rw [HG2.out]; exact drow_past HO1.out hglt hm⟩
          · have HMB := Lib.hid hmb
            have hk : kind rl.most rl.piece = 0 := of_decide_eq_true hmb
            have HMA : Hid (metA rl = bOf (infoOf rl.piece)) := by show _ = _; unfold metA; rw [if_pos hk]
            have HG2 : Hid (outs r (l ++ [126]) = outs r l ++ [bOf (infoOf rl.piece)]) := by show _ = _; rw [HG.out, gives_good HP0.out hk]
            clear hmb hk
            go_wp2_with fail
            refine (met_any g rl _ HD1.out HIj.out (small_mono HNj.out (by omega)) HP0.out (by omega)).mono ?_
            rintro e w1 ⟨rfl, hD2, hM2⟩
            rw [HMB.out, HMA.out]
            have HD2 := Lib.hid hD2; clear hD2
            have HM2 := Lib.hid hM2; clear hM2
            have hzz1 : w.heap.size ≤ w1.heap.size := Nat.le_trans hsz1 HM2.out.size
            have HO2 := Lib.hid (drow_past HO1.out hglt HM2.out)
            go_wp2_with (at_builtin; refine wpList_append_own _ rfl _ _ 27 rfl w.heap.size 9 i0 (.string ByteArray.empty) 1 16 Try.underlying27 hi hz0 hz1 hz2 rfl (by decide) u5 (outs r l).length (textsV (outs r l)) rfl (HO2.out.alloc _) ⟨w1.heap.size, 0, none⟩ 1 1 [.string (bOf (infoOf rl.piece))] rfl rfl (cell_one_new _ _ _) (fun x hx => by simp at hx; subst hx; rfl) (by unfold maxLen; omega) (by omega) (by simp; omega) ?_; intro u6 w6 hown6 hgr6 _; have Hown6 := Lib.hid hown6; clear hown6; have Hgr6 := Lib.hid hgr6; clear hgr6; have hD6 : Doc w6 g (rl.bump (kind rl.most rl.piece)) := (Hgr6.out.block g (by rw [World.size_alloc]; have := HD2.out.lt; omega) (cells_not_row HD2.out (by decide) HO2.out).symm).trans ((Below.heap_alloc w1 _ g HD2.out.lt).trans HD2.out); have HD6 := Lib.hid hD6; have hg6 := hD6.lt; have d2 : w6.cell? ⟨g, 2, none⟩ = some (.bool (rl.bump (kind rl.most rl.piece)).begun) := (cellR hD6 2).1; have d3 : w6.cell? ⟨g, 3, none⟩ = some (.string (bOf (rl.bump (kind rl.most rl.piece)).piece)) := (cellR hD6 3).1; have e2 := (cellR hD6 2).2; have e3 := (cellR hD6 3).2; clear hD6)
            go_roundg (s.size - (j + 1))
            case measure => rw [Hgk.out]; omega
            case rel =>
              refine ⟨j + 1, by omega, rfl, by go_num, ?_⟩
              rw [HT.out]
              have h := doc_ends HD6.out
              have hMo : Moves (fun k => u5.ownBlock = some k) w1 w6 := ((Moves.refl (fun k => u5.ownBlock = some k) w1).alloc _).trans (T := fun k => u5.ownBlock = some k) (Moves.of_grown Hgr6.out fun k hk _ => hk) (fun _ _ h => h)
              have hm : Moves (fun k => k = g) w w6 := (HM1.out.trans HM2.out (fun _ _ h => h)).trans hMo (fun k hk h => by have := (HO2.out.lt k h).1; omega)
              refine ⟨by rw [HF.out]; exact h.1, hm.trans h.2 (fun _ _ h => h), ?_⟩
              rw [HG2.out]
              have : textsV (outs r l ++ [bOf (infoOf rl.piece)]) = textsV (outs r l) ++ [.string (bOf (infoOf rl.piece))] := by simp [textsV]
              rw [this, List.length_append]
              exact drow_past Hown6.out hglt h.2
      · have e126 : ((x.toNat : Int) == 126) = false := no_int x 126 (by omega) hx
        have HG : Hid (outs r (l ++ [x]) = outs r l) := by show _ = _; rw [outs_snoc, gives_takes hx, List.append_nil]
        have HX := Lib.hid hx; clear hx
        cases hbg : rl.begun
        · have HF : Hid (feeds r (l ++ [x]) = rl) := by show _ = _; rw [feeds_snoc, HRL.out, feed_lets HX.out (.inl hbg)]
          rw [hbg] at hc2
          clear hbg
          go_wp2
          go_quiet (fail)
          go_wp2
          go_roundg (s.size - (j + 1))
          case measure => rw [Hgk.out]; omega
          case rel =>
            refine ⟨j + 1, by omega, rfl, by go_num, ?_⟩
            rw [HT.out]
            exact ⟨by rw [HF.out]; exact HD1.out, HM1.out.drewN _, by rw [HG.out]; exact HO1.out⟩
        · rw [hbg] at hc2
          have Ha := Lib.hid HIj.out.2.2.2.2
          cases hm : mapped rl.accm x
          · have HF : Hid (feeds r (l ++ [x]) = rl.adds x) := by show _ = _; rw [feeds_snoc, HRL.out, feed_takes HX.out hbg hm]
            have HM := Lib.hid hm
            clear hbg hm
            obtain ⟨P, hP⟩ : ∃ P, bOf rl.piece = P := ⟨_, rfl⟩
            have hPs : P.size ≤ 1048576 := by rw [← hP, size_bOf]; omega
            have HAp : Hid (P ++ s.extract j (j + 1) = bOf (rl.piece ++ [x])) := by show _ = _; rw [HSub.out, ← hP, append_bOf, toList_bOf, toList_bOf]
            rw [hP] at hc3
            clear hP
            have HCM : Hid (∀ w0, Calls Try.prog 35 #[.int .u32 rl.accm, .int .u8 (x.toNat : Int)] w0 fun e w' => e = .returned (.bool false) ∧ w' = w0) := fun w0 => (rmapped_any rl.accm x w0 Ha.out).mono fun e w' h => ⟨by rw [h.1, HM.out], h.2.symm⟩
            go_wp2
            go_quiet ((go_at_call 35; exact Calls.quiet_of_same (HCM.out _)))
            go_wp2
            have hw : IntKind.i64.wrap ((j : Int) + 1) = (j : Int) + 1 := IntWalk.i64_in _ (by omega)
            go_region
            clear hw
            go_wp2
            go_roundg (s.size - (j + 1))
            case measure => rw [Hgk.out]; omega
            case rel =>
              refine ⟨j + 1, by omega, rfl, by go_num, ?_⟩
              rw [HT.out]
              have h := doc_adds (W := wr.drewN (nq + 1)) HD1.out HAp.out
              exact ⟨by rw [HF.out]; exact h.1, (HM1.out.drewN _).trans h.2 (fun _ _ h => h), by rw [HG.out]; exact drow_past (wr := wr.drewN (nq + 1)) HO1.out hglt h.2⟩
          · have HF : Hid (feeds r (l ++ [x]) = rl) := by show _ = _; rw [feeds_snoc, HRL.out, feed_lets HX.out (.inr hm)]
            have HM := Lib.hid hm
            clear hbg hm
            have HCM : Hid (∀ w0, Calls Try.prog 35 #[.int .u32 rl.accm, .int .u8 (x.toNat : Int)] w0 fun e w' => e = .returned (.bool true) ∧ w' = w0) := fun w0 => (rmapped_any rl.accm x w0 Ha.out).mono fun e w' h => ⟨by rw [h.1, HM.out], h.2.symm⟩
            go_wp2
            go_quiet ((go_at_call 35; exact Calls.quiet_of_same (HCM.out _)))
            go_wp2
            go_roundg (s.size - (j + 1))
            case measure => rw [Hgk.out]; omega
            case rel =>
              refine ⟨j + 1, by omega, rfl, by go_num, ?_⟩
              rw [HT.out]
              exact ⟨by rw [HF.out]; exact HD1.out, HM1.out.drewN _, by rw [HG.out]; exact HO1.out⟩
    · obtain rfl : j = s.size := by omega
      rw [show s.toList.take s.size = s.toList from take_all s] at hP
      have HF := Lib.hid hP; clear hP
      go_wp2
      go_ret
      exact ⟨_, rfl, HF.out.2.2, HF.out.1, HF.out.2.1⟩
end Go.Proofs.Ytfcmpnfdgfdclaa.Hdl
