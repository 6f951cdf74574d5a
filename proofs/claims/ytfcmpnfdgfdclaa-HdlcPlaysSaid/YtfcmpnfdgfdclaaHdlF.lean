/- Contract of package hdlc's Push. -/
import Derived.Test.YtfcmpnfdgfdclaaHdlE
import Derived.Test.YtfcmpnfdgfdclaaEscF
import Derived.Deep.LoopGhost
import Derived.WalkMore
namespace Go.Proofs.Ytfcmpnfdgfdclaa.Hdl
open Go.RowKit Go.Proofs.Ytfcmpnfdgfdclaa.Oct Go.Proofs.Ytfcmpnfdgfdclaa.Row Go.Proofs.Ytfcmpnfdgfdclaa.Esc Go.Proofs.Ytfcmpnfdgfdclaa.Fcs

theorem Try.info9 : (Try.prog.info? 9).map (fun i => (i.zero, i.size, i.bytes)) = some (some (.string ByteArray.empty), 1, 16) := by kernel_rfl

/-- What the program asks of a piece, and what it is. -/
theorem piece_tests {p : List UInt8} (m : Nat) (hp : 126 ∉ p) :
    endsMark (bOf p) = decide (kind m p = 1) ∧
    (kind m p ≠ 1 → decide (m + 2 < (getA (bOf p)).size) = decide (kind m p = 2)) ∧
    (kind m p ≠ 1 → kind m p ≠ 2 → decide ((getA (bOf p)).size < 4) = decide (kind m p = 3)) ∧
    (kind m p ≠ 1 → kind m p ≠ 2 → kind m p ≠ 3 → (!good (getA (bOf p)).toList) = decide (kind m p = 4)) ∧
    (kind m p = 0 → openA (getA (bOf p)) = bOf (infoOf p)) ∧ (getA (bOf p)).size ≤ p.length := by
  have h1 : endsMark (bOf p) = decide (kind m p = 1) := by unfold endsMark; rw [toList_bOf]; exact kind_one m p
  have h2 : kind m p ≠ 1 → getA (bOf p) = bOf (grun p).1 := by
    intro h
    have h3 : p.getLast? ≠ some 125 := fun e => h (kind_abort e)
    have h4 : (grun p).2 = false := by
      cases e : (grun p).2
      · rfl
      · exact absurd (marked_last p e) h3
    have h5 := (get_yes (s := bOf p) (by rw [toList_bOf, getOk_of hp h4]; rfl)).1
    rw [toList_bOf] at h5
    exact h5
  refine ⟨h1, ?_, ?_, ?_, ?_, ?_⟩
  · intro h
    rw [h2 h, size_bOf]
    exact kind_two m p h
  · intro h h'
    rw [h2 h, size_bOf]
    exact kind_three m p h h'
  · intro h h' h''
    rw [h2 h, toList_bOf]
    exact kind_four m p h h' h''
  · intro h
    have hk := kind_zero h
    rw [h2 (by omega)]
    unfold openA
    rw [size_bOf, if_neg (by omega), toList_bOf, if_pos hk.2.2.2]
    rfl
  · unfold getA
    split
    · rw [toList_bOf, size_bOf]; exact grun_le p
    · rw [size_bOf]; simp

/-- What holds at the head of a round of Push. -/
def PushR (n₀ g : Nat) (r : St) (v : Value) (w : World) (l : List UInt8) (u : Value) (wr : World) : Prop :=
  ∃ v', Recv wr n₀ g (feeds r l) v' ∧ Moves (Foot g v) w wr ∧ Within w v v' ∧ wr.ownsRow w.heap.size 9 1 u (outs r l).length (textsV (outs r l))
/-- What holds at the head of a round over the faults. -/
def MidR (W : World) (n₀ g n : Nat) (r : St) (v : Value) (raw plain : ByteArray) (wr : World) : Prop := FaultsIn wr n g raw plain ∧ Recv wr n₀ g r v ∧ Below W.heap.size W wr
def PushP (n₀ g : Nat) (r : St) (v : Value) (l : List UInt8) (w : World) (e : Ending) (w' : World) : Prop :=
  ∃ u v', e = .returned u ∧ w'.ownsRow w.heap.size 9 1 u (outs r l).length (textsV (outs r l)) ∧ Recv w' n₀ g (feeds r l) v' ∧ Moves (Foot g v) w w' ∧ Within w v v'

theorem bump_ends (r : St) (k : Nat) : (r.bump k).ends = r.ends.bump k := by
  unfold St.bump; split <;> rfl
theorem foot_back {w : World} {g : Nat} {v v1 : Value} (h : Within w v v1) : ∀ k, k < w.heap.size → Foot g v1 k → Foot g v k := by
  rintro k hk (e | e)
  · exact .inl e
  · rcases h k e with h' | h'
    · exact .inr h'
    · omega
theorem row_past {w wr w1 : World} {n₀ g m : Nat} {r : St} {u v1 : Value} {xs : List Value} (hO : wr.ownsRow w.heap.size 9 1 u m xs) (hR : Recv wr n₀ g r v1) (hg : g < w.heap.size) (hM : Moves (Foot g v1) wr w1) : w1.ownsRow w.heap.size 9 1 u m xs :=
  hM.row hO fun k hk hf => by
    rcases hf with rfl | hf
    · have := (hO.lt _ hk).1; omega
    · exact rows_apart (by decide) hO hR.2.2 k hk hf
/-- A round that ends a piece that is empty. -/
theorem none_end {n₀ g : Nat} {r : St} {v : Value} {w : World} {l : List UInt8} {u : Value} {wr w1 : World} {v1 v2 : Value} (hg : g < w.heap.size) (HR1 : Recv wr n₀ g (feeds r l) v1) (HM1 : Moves (Foot g v) w wr) (HW1 : Within w v v1)
    (HO1 : wr.ownsRow w.heap.size 9 1 u (outs r l).length (textsV (outs r l))) (hR2 : Recv w1 n₀ g (feeds r l).ends v2) (hM2 : Moves (Foot g v1) wr w1) (hW2 : Within wr v1 v2) (hp : (feeds r l).piece = []) : PushR n₀ g r v w (l ++ [126]) u w1 := by
  have h := feed_none hp
  refine ⟨v2, by rw [feeds_snoc, h.1]; exact hR2, HM1.trans hM2 (foot_back HW1), HW1.trans hW2 HM1.size, ?_⟩
  rw [outs_snoc, h.2, List.append_nil]
  exact row_past HO1 HR1 hg hM2
/-- A round that ends a piece that is not good. -/
theorem bad_end {n₀ g : Nat} {r r1 : St} {v : Value} {w : World} {l : List UInt8} {u : Value} {wr w1 W4 : World} {v1 v2 : Value} {K : Nat} {u' : Value} (hg : g < w.heap.size) (HR1 : Recv wr n₀ g (feeds r l) v1) (HM1 : Moves (Foot g v) w wr) (HW1 : Within w v v1)
    (HO1 : wr.ownsRow w.heap.size 9 1 u (outs r l).length (textsV (outs r l))) (hM2 : Moves (Foot g v1) wr w1) (hW2 : Within wr v1 v2) (hB : Below w1.heap.size w1 W4) (hr1 : (feeds r l).ends = r1) (hR4 : Recv W4 n₀ g r1 v2)
    (hp : (feeds r l).piece ≠ []) (hK : kind (feeds r l).most (feeds r l).piece = K) (hK0 : K ≠ 0) (hc : (cellsR r1 v2).setIfInBounds K u' = cellsR (r1.bump K) v2) : PushR n₀ g r v w (l ++ [126]) u (W4.setCell ⟨g, K, none⟩ u') := by
  subst hr1
  have hM4 : Moves (Foot g v1) wr W4 := hM2.trans (Moves.of_below (S := fun _ => False) hB) (fun _ _ x => x.elim)
  have hM5 : Moves (Foot g v1) wr (W4.setCell ⟨g, K, none⟩ u') := hM4.setCell ⟨g, K, none⟩ (fun _ => .inl rfl) _
  refine ⟨v2, ?_, HM1.trans hM5 (foot_back HW1), HW1.trans hW2 HM1.size, ?_⟩
  · rw [feeds_snoc, feed_some hp, hK, bump_ends]
    exact hR4.put K u' hc (bump_piece _ K).1
  · rw [outs_snoc, gives_bad (by rw [hK]; exact hK0), List.append_nil]
    exact row_past HO1 HR1 hg hM5
/-- A round that ends a piece that is good. -/
theorem good_end {n₀ g : Nat} {r r1 : St} {v : Value} {w : World} {l : List UInt8} {u u6 : Value} {W5 w6 : World} {v2 : Value} {o : Obj} (hr1 : (feeds r l).ends = r1) (hR5 : Recv W5 n₀ g (r1.bump 0) v2) (hM5 : Moves (Foot g v) w W5) (hW5 : Within w v v2)
    (hO5 : W5.ownsRow w.heap.size 9 1 u (outs r l).length (textsV (outs r l))) (hgr : (W5.alloc o).grownBy w6 u.ownBlock) (hown : w6.ownsRow w.heap.size 9 1 u6 ((outs r l).length + 1) (textsV (outs r l) ++ [.string (bOf (infoOf (feeds r l).piece))]))
    (hp : (feeds r l).piece ≠ []) (hK : kind (feeds r l).most (feeds r l).piece = 0) : PushR n₀ g r v w (l ++ [126]) u6 w6 := by
  subst hr1
  have hMo : Moves (fun k => u.ownBlock = some k) W5 w6 := ((Moves.refl _ W5).alloc o).trans (T := fun k => u.ownBlock = some k) (Moves.of_grown hgr fun k hk _ => hk) (fun _ _ h => h)
  refine ⟨v2, ?_, hM5.trans hMo (fun k hk h => by have := (hO5.lt k h).1; omega), hW5, ?_⟩
  · rw [feeds_snoc, feed_some hp, hK, bump_ends]
    refine hR5.stays hMo ?_
    rintro k (rfl | hk) h
    · exact cells_not_row hR5.2.1 (by decide) hO5 h
    · exact rows_apart (by decide) hR5.2.2 hO5 k hk h
  · rw [outs_snoc, gives_good hp hK]
    have : textsV (outs r l ++ [bOf (infoOf (feeds r l).piece)]) = textsV (outs r l) ++ [.string (bOf (infoOf (feeds r l).piece))] := by simp [textsV]
    rw [this, List.length_append]
    exact hown

theorem PushR.alloc {n₀ g : Nat} {r : St} {v : Value} {w : World} {l : List UInt8} {u : Value} {wr : World} (h : PushR n₀ g r v w l u wr) (o : Obj) : PushR n₀ g r v w l u (wr.alloc o) := by
  obtain ⟨v', h1, h2, h3, h4⟩ := h
  exact ⟨v', h1.below ((Below.refl _ _).alloc (Nat.le_refl _) _), h2.alloc _, h3, h4.alloc _⟩

theorem push_nil (s : ByteArray) (w : World) : Calls Try.prog 9 #[.pointer none, .string s] w fun e w' => e = .returned (.slice none 0 0) ∧ w = w' := by
  go_enter Try.func9, Try.ntmps9
  go_wp2
  go_step3
  go_wp2
  rw [Exit.noGoto_ret]
  go_ret
  exact ⟨rfl, rfl⟩

set_option maxHeartbeats 4000000 in
set_option maxRecDepth 100000 in
theorem push_any (n₀ g : Nat) (r : St) (v : Value) (s : ByteArray) (w : World) (hR : Recv w n₀ g r v) (hI : Inv r) (N : Nat) (hN : Small r N) (hN2 : N + s.size ≤ 1000000000) (hs : s.size ≤ 1048576) :
    Calls Try.prog 9 #[.pointer (some ⟨g, 0, none⟩), .string s] w (PushP n₀ g r v s.toList w) := by
  obtain ⟨i0, hi, hz0, hz1, hz2⟩ := info_parts Try.info9
  have HR := Lib.hid hR; clear hR
  have HI := Lib.hid hI; clear hI
  have HN := Lib.hid hN; clear hN
  have hn0 := HR.out.1
  have hglt := HR.out.lt
  go_enter Try.func9, Try.ntmps9
  go_wp2
  go_step3
  go_wp2
  go_step3
  go_wp2
  go_loopg [5, 18] s.size (fun gk u i wr => ∃ j : Nat, j ≤ s.size ∧ gk = s.size - j ∧ i = .int .i64 j ∧ PushR n₀ g r v w (s.toList.take j) u wr)
  case atStart => exact ⟨0, Nat.zero_le _, rfl, rfl, v, HR.out, Moves.refl _ _, Within.refl _ _, World.ownsRow_nil _ _ _ _⟩
  case round =>
    obtain ⟨j, hj, hgk, rfl, hP⟩ := hrel
    have Hgk := Lib.hid hgk; clear hgk
    by_cases hlt : j < s.size
    · obtain ⟨x, hsx⟩ : ∃ x, s[j] = x := ⟨_, rfl⟩
      have HT : Hid (s.toList.take (j + 1) = s.toList.take j ++ [x]) := by show _ = _; rw [at_take s j hlt, hsx]
      have hll : (s.toList.take j).length = j := by rw [List.length_take, ← size_toList]; omega
      obtain ⟨v1, hR1, hM1, hW1, hO1⟩ := hP
      have HIj := Lib.hid (feeds_inv HI.out (s.toList.take j))
      have HNj : Hid (Small (feeds r (s.toList.take j)) (N + j)) := by have := feeds_small HN.out (s.toList.take j); rw [hll] at this; exact this
      have hol := outs_le r (s.toList.take j)
      rw [hll] at hol
      clear hll
      generalize s.toList.take j = l at *
      have HR1 := Lib.hid hR1; clear hR1
      have HM1 := Lib.hid hM1; clear hM1
      have HW1 := Lib.hid hW1; clear hW1
      have HO1 := Lib.hid hO1; clear hO1
      have hsz1 := HM1.out.size
      by_cases hx : x = 126
      · have e126 : ((x.toNat : Int) != (((⟨#[126]⟩ : ByteArray)[0]'(by decide)).toNat : Int)) = false := by rw [hx]; rfl
        have HX := Lib.hid hx; clear hx
        rw [HX.out] at HT
        by_cases hp : (feeds r l).piece = []
        · have HP := Lib.hid hp
          have HRaw : Hid (bOf (cutp (feeds r l).piece) = ⟨#[]⟩) := by show _ = _; rw [hp]; rfl
          clear hp
          go_wp2
          go_quiet (fail)
          go_wp2_with fail
          refine (end_any n₀ g (feeds r l) v1 (wr.drewN nq) HR1.out).mono ?_
          rintro e w1 ⟨rfl, v2, hR2, hM2, hW2⟩
          rw [HRaw.out]
          have HR2 := Lib.hid hR2; clear hR2
          have HM2 := Lib.hid hM2.undrewN; clear hM2
          have HW2 : Hid (Within wr v1 v2) := hW2; clear hW2
          go_wp2
          go_roundg (s.size - (j + 1))
          case measure => rw [Hgk.out]; omega
          case rel =>
            refine ⟨j + 1, by omega, rfl, by go_num, ?_⟩
            rw [HT.out]
            exact none_end hglt HR1.out HM1.out HW1.out HO1.out HR2.out HM2.out HW2.out HP.out
        · have HP := Lib.hid hp
          obtain ⟨raw, hraw⟩ : ∃ raw, bOf (cutp (feeds r l).piece) = raw := ⟨_, rfl⟩
          have hcl := cutp_length (feeds r l).piece
          have hrs : raw.size ≤ 3021 := by rw [← hraw, size_bOf]; omega
          have hr1 : raw.toList.isEmpty = false := by
            rw [← hraw, toList_bOf]
            cases hc : cutp (feeds r l).piece
            · exact absurd ((cutp_empty _).1 hc) hp
            · rfl
          have hr2 : ¬ raw.toList = [] := by intro h; rw [h] at hr1; cases hr1
          have hpt := piece_tests (feeds r l).most (p := cutp (feeds r l).piece) (fun h => HIj.out.1 (cutp_mem h))
          rw [kind_cutp HIj.out.2.2.2.1, hraw] at hpt
          obtain ⟨K, hK⟩ : ∃ K, kind (feeds r l).most (feeds r l).piece = K := ⟨_, rfl⟩
          have hK4 : K ≤ 4 := by rw [← hK]; exact kind_le _ _
          rw [hK] at hpt
          have HInf : Hid (K = 0 → infoOf (cutp (feeds r l).piece) = infoOf (feeds r l).piece) := fun h => by rw [cutp_good HIj.out.2.2.2.1 (hK.trans h)]
          obtain ⟨plain, hpl⟩ : ∃ plain, getA raw = plain := ⟨_, rfl⟩
          rw [hpl] at hpt
          have hpls : plain.size ≤ 3021 := by have := hpt.2.2.2.2.2; omega
          have HPT := Lib.hid hpt; clear hpt
          have HK := Lib.hid hK; clear hK
          have HPL := Lib.hid hpl; clear hpl
          have HRaw := Lib.hid hraw; clear hraw
          have HC := hcl; clear hcl hp HC
          obtain ⟨r1, hr1e⟩ : ∃ r1, (feeds r l).ends = r1 := ⟨_, rfl⟩
          have hsm : Small r1 1000000000 := by rw [← hr1e]; exact small_mono (r := (feeds r l).ends) HNj.out (by omega)
          have hmo : r1.most = (feeds r l).most := by rw [← hr1e]; rfl
          have hmo2 : r1.most ≤ 1508 := by rw [hmo]; exact HIj.out.2.2.2.1
          have HMO := Lib.hid hmo; clear hmo
          have HR1e := Lib.hid hr1e; clear hr1e
          obtain ⟨hs0, hs1, hs2, hs3, hs4⟩ := hsm
          go_wp2
          go_quiet (fail)
          go_wp2_with fail
          refine (end_any n₀ g (feeds r l) v1 (wr.drewN nq) HR1.out).mono ?_
          rintro e w1 ⟨rfl, v2, hR2, hM2, hW2⟩
          rw [HRaw.out]
          rw [HR1e.out] at hR2
          have HR2 := Lib.hid hR2; clear hR2
          have HM2 := Lib.hid hM2.undrewN; clear hM2
          have HW2 : Hid (Within wr v1 v2) := hW2; clear hW2
          go_wp2_with fail
          refine (get_any raw _ (by omega)).mono ?_
          rw [HPL.out]
          rintro e w2 ⟨rfl, hb2⟩
          have HB2 := Lib.hid hb2; clear hb2
          go_wp2_with fail
          refine (faults_any g raw plain w2).mono ?_
          rintro e w3 ⟨rfl, hF3, hb3⟩
          have HF3 := Lib.hid hF3; clear hF3
          have HB3 := Lib.hid hb3; clear hb3
          have HB13 : Hid (Below w1.heap.size w1 w3) := HB2.out.trans (HB3.out.mono HB2.out.size)
          have HR3 : Hid (Recv w3 n₀ g r1 v2) := HR2.out.below HB13.out
          obtain ⟨n, hn⟩ : ∃ n, w2.heap.size = n := ⟨_, rfl⟩
          rw [hn] at HF3 ⊢
          clear hn
          go_wp2
          go_loopg [45] 4 (fun gk i wr2 => ∃ k : Nat, k ≤ 4 ∧ gk = 4 - k ∧ i = .int .i64 k ∧ Hid (K = 0 ∨ k < K) ∧ MidR w3 n₀ g n r1 v2 raw plain wr2)
          case atStart => exact ⟨0, Nat.zero_le _, rfl, rfl, (show K = 0 ∨ 0 < K by omega), HF3.out, HR3.out, Below.refl _ _⟩
          case round =>
            obtain ⟨k, hk, hgk2, rfl, Hk, hF4, hR4, hB4⟩ := hrel
            have Hgk2 := Lib.hid hgk2; clear hgk2
            have HR4 := Lib.hid hR4; clear hR4
            have HF4 := Lib.hid hF4; clear hF4
            have HB4 := Lib.hid hB4; clear hB4
            have hg4 := HR4.out.lt
            have hn4 : n + 3 < wr.heap.size := (Array.getElem?_eq_some_iff.1 HF4.out.2.2.2).1
            have hk5 : k = 0 ∨ k = 1 ∨ k = 2 ∨ k = 3 ∨ k = 4 := by omega
            rcases hk5 with rfl | rfl | rfl | rfl | rfl
            · have hca : wr.cell? ⟨n + 3, 0, none⟩ = some (.func (.func 37) #[] #[.pointer (some ⟨n + 1, 0, none⟩)]) := (cellR HF4.out.2.2.2 0).1
              have hcb : wr.cell? ⟨n + 3, 1, none⟩ = some (.pointer (some ⟨g, 1, none⟩)) := (cellR HF4.out.2.2.2 1).1
              have hcc : wr.cell? ⟨g, 1, none⟩ = some (.int .i64 r1.c1) := (cellR HR4.out.2.1 1).1
              have hfc : wr.frozen? ⟨g, 1, none⟩ = false := (cellR HR4.out.2.1 1).2
              by_cases hKq : K = 1
              · have HT5 : Hid (endsMark raw = true) := by show _ = _; exact HPT.out.1.trans (decide_eq_true hKq)
                have HKq := Lib.hid hKq; clear hKq
                go_wp2_with fail
                refine (is1_any raw (n + 1) _ (by omega) (HF4.out.2.1.alloc _)).mono ?_
                rw [HT5.out]
                rintro e w5 ⟨rfl, rfl⟩
                go_wp2
                go_roundg (s.size - (j + 1))
                case measure => rw [Hgk.out]; omega
                case rel =>
                  refine ⟨j + 1, by omega, rfl, by go_num, ?_⟩
                  rw [HT.out]
                  have hB5 : Below wr.heap.size wr (wr.alloc (.cells #[.func (.func 37) #[] #[.pointer (some ⟨n + 1, 0, none⟩)], .pointer (some ⟨g, 1, none⟩)] 62)) := ((Below.refl _ wr).alloc (Nat.le_refl _) _)
                  exact (bad_end hglt HR1.out HM1.out HW1.out HO1.out HM2.out HW2.out (HB13.out.trans (HB4.out.mono HB13.out.size)) HR1e.out HR4.out HP.out (HK.out.trans HKq.out) (by omega) rfl).alloc _
              · have HT5 : Hid (endsMark raw = false) := by show _ = _; exact HPT.out.1.trans (decide_eq_false hKq)
                have HKq := Lib.hid hKq; clear hKq
                go_wp2_with fail
                refine (is1_any raw (n + 1) _ (by omega) (HF4.out.2.1.alloc _)).mono ?_
                rw [HT5.out]
                rintro e w5 ⟨rfl, rfl⟩
                go_wp2
                go_roundg (4 - 1)
                case measure => rw [Hgk2.out]; omega
                case rel =>
                  have hB5 : Below wr.heap.size wr (wr.alloc (.cells #[.func (.func 37) #[] #[.pointer (some ⟨n + 1, 0, none⟩)], .pointer (some ⟨g, 1, none⟩)] 62)) := ((Below.refl _ wr).alloc (Nat.le_refl _) _)
                  exact ⟨1, by omega, rfl, by go_num, (show K = 0 ∨ 1 < K by have := Hk.out; have := HKq.out; omega), ⟨(hB5.block _ (by omega)).trans HF4.out.1, (hB5.block _ (by omega)).trans HF4.out.2.1, (hB5.block _ (by omega)).trans HF4.out.2.2.1, (hB5.block _ hn4).trans HF4.out.2.2.2⟩, HR4.out.below hB5, HB4.out.trans (hB5.mono HB4.out.size)⟩
            · have hca : wr.cell? ⟨n + 3, 2, none⟩ = some (.func (.func 39) #[] #[.pointer (some ⟨n + 2, 0, none⟩), .pointer (some ⟨n, 0, none⟩)]) := (cellR HF4.out.2.2.2 2).1
              have hcb : wr.cell? ⟨n + 3, 3, none⟩ = some (.pointer (some ⟨g, 2, none⟩)) := (cellR HF4.out.2.2.2 3).1
              have hcc : wr.cell? ⟨g, 2, none⟩ = some (.int .i64 r1.c2) := (cellR HR4.out.2.1 2).1
              have hfc : wr.frozen? ⟨g, 2, none⟩ = false := (cellR HR4.out.2.1 2).2
              by_cases hKq : K = 2
              · have HT5 : Hid (decide (r1.most + 2 < plain.size) = true) := by show _ = _; exact ((by rw [HMO.out]; exact HPT.out.2.1 (by have := Hk.out; omega) : decide (r1.most + 2 < plain.size) = decide (K = 2)).trans (decide_eq_true hKq))
                have HKq := Lib.hid hKq; clear hKq
                go_wp2_with fail
                refine (is2_any plain n₀ g r1 v2 n (n + 2) _ (by omega) hmo2 (HR4.out.below ((Below.refl _ _).alloc (Nat.le_refl _) _)) (HF4.out.1.alloc _) (HF4.out.2.2.1.alloc _)).mono ?_
                rw [HT5.out]
                rintro e w5 ⟨rfl, nq2, rfl⟩
                go_wp2
                go_roundg (s.size - (j + 1))
                case measure => rw [Hgk.out]; omega
                case rel =>
                  refine ⟨j + 1, by omega, rfl, by go_num, ?_⟩
                  rw [HT.out]
                  have hB5 : Below wr.heap.size wr (((wr.alloc (.cells #[.func (.func 39) #[] #[.pointer (some ⟨n + 2, 0, none⟩), .pointer (some ⟨n, 0, none⟩)], .pointer (some ⟨g, 2, none⟩)] 62))).drewN nq2) := (((Below.refl _ wr).alloc (Nat.le_refl _) _).drewN' nq2)
                  exact bad_end hglt HR1.out HM1.out HW1.out HO1.out HM2.out HW2.out (HB13.out.trans ((HB4.out.trans (hB5.mono HB4.out.size)).mono HB13.out.size)) HR1e.out (HR4.out.below hB5) HP.out (HK.out.trans HKq.out) (by omega) rfl
              · have HT5 : Hid (decide (r1.most + 2 < plain.size) = false) := by show _ = _; exact ((by rw [HMO.out]; exact HPT.out.2.1 (by have := Hk.out; omega) : decide (r1.most + 2 < plain.size) = decide (K = 2)).trans (decide_eq_false hKq))
                have HKq := Lib.hid hKq; clear hKq
                go_wp2_with fail
                refine (is2_any plain n₀ g r1 v2 n (n + 2) _ (by omega) hmo2 (HR4.out.below ((Below.refl _ _).alloc (Nat.le_refl _) _)) (HF4.out.1.alloc _) (HF4.out.2.2.1.alloc _)).mono ?_
                rw [HT5.out]
                rintro e w5 ⟨rfl, nq2, rfl⟩
                go_wp2
                go_roundg (4 - 2)
                case measure => rw [Hgk2.out]; omega
                case rel =>
                  have hB5 : Below wr.heap.size wr (((wr.alloc (.cells #[.func (.func 39) #[] #[.pointer (some ⟨n + 2, 0, none⟩), .pointer (some ⟨n, 0, none⟩)], .pointer (some ⟨g, 2, none⟩)] 62))).drewN nq2) := (((Below.refl _ wr).alloc (Nat.le_refl _) _).drewN' nq2)
                  exact ⟨2, by omega, rfl, by go_num, (show K = 0 ∨ 2 < K by have := Hk.out; have := HKq.out; omega), ⟨(hB5.block _ (by omega)).trans HF4.out.1, (hB5.block _ (by omega)).trans HF4.out.2.1, (hB5.block _ (by omega)).trans HF4.out.2.2.1, (hB5.block _ hn4).trans HF4.out.2.2.2⟩, HR4.out.below hB5, HB4.out.trans (hB5.mono HB4.out.size)⟩
            · have hca : wr.cell? ⟨n + 3, 4, none⟩ = some (.func (.func 40) #[] #[.pointer (some ⟨n + 2, 0, none⟩)]) := (cellR HF4.out.2.2.2 4).1
              have hcb : wr.cell? ⟨n + 3, 5, none⟩ = some (.pointer (some ⟨g, 3, none⟩)) := (cellR HF4.out.2.2.2 5).1
              have hcc : wr.cell? ⟨g, 3, none⟩ = some (.int .i64 r1.c3) := (cellR HR4.out.2.1 3).1
              have hfc : wr.frozen? ⟨g, 3, none⟩ = false := (cellR HR4.out.2.1 3).2
              by_cases hKq : K = 3
              · have HT5 : Hid (decide (plain.size < 4) = true) := by show _ = _; exact (HPT.out.2.2.1 (by have := Hk.out; omega) (by have := Hk.out; omega)).trans (decide_eq_true hKq)
                have HKq := Lib.hid hKq; clear hKq
                go_wp2_with fail
                refine (is3_any plain (n + 2) _ (HF4.out.2.2.1.alloc _)).mono ?_
                rw [HT5.out]
                rintro e w5 ⟨rfl, rfl⟩
                go_wp2
                go_roundg (s.size - (j + 1))
                case measure => rw [Hgk.out]; omega
                case rel =>
                  refine ⟨j + 1, by omega, rfl, by go_num, ?_⟩
                  rw [HT.out]
                  have hB5 : Below wr.heap.size wr (wr.alloc (.cells #[.func (.func 40) #[] #[.pointer (some ⟨n + 2, 0, none⟩)], .pointer (some ⟨g, 3, none⟩)] 62)) := ((Below.refl _ wr).alloc (Nat.le_refl _) _)
                  exact (bad_end hglt HR1.out HM1.out HW1.out HO1.out HM2.out HW2.out (HB13.out.trans (HB4.out.mono HB13.out.size)) HR1e.out HR4.out HP.out (HK.out.trans HKq.out) (by omega) rfl).alloc _
              · have HT5 : Hid (decide (plain.size < 4) = false) := by show _ = _; exact (HPT.out.2.2.1 (by have := Hk.out; omega) (by have := Hk.out; omega)).trans (decide_eq_false hKq)
                have HKq := Lib.hid hKq; clear hKq
                go_wp2_with fail
                refine (is3_any plain (n + 2) _ (HF4.out.2.2.1.alloc _)).mono ?_
                rw [HT5.out]
                rintro e w5 ⟨rfl, rfl⟩
                go_wp2
                go_roundg (4 - 3)
                case measure => rw [Hgk2.out]; omega
                case rel =>
                  have hB5 : Below wr.heap.size wr (wr.alloc (.cells #[.func (.func 40) #[] #[.pointer (some ⟨n + 2, 0, none⟩)], .pointer (some ⟨g, 3, none⟩)] 62)) := ((Below.refl _ wr).alloc (Nat.le_refl _) _)
                  exact ⟨3, by omega, rfl, by go_num, (show K = 0 ∨ 3 < K by have := Hk.out; have := HKq.out; omega), ⟨(hB5.block _ (by omega)).trans HF4.out.1, (hB5.block _ (by omega)).trans HF4.out.2.1, (hB5.block _ (by omega)).trans HF4.out.2.2.1, (hB5.block _ hn4).trans HF4.out.2.2.2⟩, HR4.out.below hB5, HB4.out.trans (hB5.mono HB4.out.size)⟩
            · have hca : wr.cell? ⟨n + 3, 6, none⟩ = some (.func (.func 41) #[] #[.pointer (some ⟨n + 2, 0, none⟩)]) := (cellR HF4.out.2.2.2 6).1
              have hcb : wr.cell? ⟨n + 3, 7, none⟩ = some (.pointer (some ⟨g, 4, none⟩)) := (cellR HF4.out.2.2.2 7).1
              have hcc : wr.cell? ⟨g, 4, none⟩ = some (.int .i64 r1.c4) := (cellR HR4.out.2.1 4).1
              have hfc : wr.frozen? ⟨g, 4, none⟩ = false := (cellR HR4.out.2.1 4).2
              by_cases hKq : K = 4
              · have HT5 : Hid ((!good plain.toList) = true) := by show _ = _; exact (HPT.out.2.2.2.1 (by have := Hk.out; omega) (by have := Hk.out; omega) (by have := Hk.out; omega)).trans (decide_eq_true hKq)
                have HKq := Lib.hid hKq; clear hKq
                go_wp2_with fail
                refine (is4_any plain (n + 2) _ (by omega) (HF4.out.2.2.1.alloc _)).mono ?_
                rw [HT5.out]
                rintro e w5 ⟨rfl, hb5⟩
                have HB5 : Hid (Below wr.heap.size wr w5) := ((Below.refl _ wr).alloc (Nat.le_refl _) _).trans (hb5.mono (by simp))
                have hc5 : w5.cell? ⟨wr.heap.size, 1, none⟩ = some (.pointer (some ⟨g, 4, none⟩)) := (hb5.cell (p := ⟨wr.heap.size, 1, none⟩) (by simp)).trans (by simp)
                have hg5 : w5.cell? ⟨g, 4, none⟩ = some (.int .i64 r1.c4) := (HB5.out.cell (p := ⟨g, 4, none⟩) hg4).trans hcc
                have hf5 : w5.frozen? ⟨g, 4, none⟩ = false := (HB5.out.frozen (p := ⟨g, 4, none⟩) hg4).trans hfc
                clear hb5
                go_wp2
                go_roundg (s.size - (j + 1))
                case measure => rw [Hgk.out]; omega
                case rel =>
                  refine ⟨j + 1, by omega, rfl, by go_num, ?_⟩
                  rw [HT.out]
                  have hB5 : Below wr.heap.size wr w5 := HB5.out
                  exact bad_end hglt HR1.out HM1.out HW1.out HO1.out HM2.out HW2.out (HB13.out.trans ((HB4.out.trans (hB5.mono HB4.out.size)).mono HB13.out.size)) HR1e.out (HR4.out.below hB5) HP.out (HK.out.trans HKq.out) (by omega) rfl
              · have HT5 : Hid ((!good plain.toList) = false) := by show _ = _; exact (HPT.out.2.2.2.1 (by have := Hk.out; omega) (by have := Hk.out; omega) (by have := Hk.out; omega)).trans (decide_eq_false hKq)
                have HKq := Lib.hid hKq; clear hKq
                go_wp2_with fail
                refine (is4_any plain (n + 2) _ (by omega) (HF4.out.2.2.1.alloc _)).mono ?_
                rw [HT5.out]
                rintro e w5 ⟨rfl, hb5⟩
                have HB5 : Hid (Below wr.heap.size wr w5) := ((Below.refl _ wr).alloc (Nat.le_refl _) _).trans (hb5.mono (by simp))
                have hc5 : w5.cell? ⟨wr.heap.size, 1, none⟩ = some (.pointer (some ⟨g, 4, none⟩)) := (hb5.cell (p := ⟨wr.heap.size, 1, none⟩) (by simp)).trans (by simp)
                have hg5 : w5.cell? ⟨g, 4, none⟩ = some (.int .i64 r1.c4) := (HB5.out.cell (p := ⟨g, 4, none⟩) hg4).trans hcc
                have hf5 : w5.frozen? ⟨g, 4, none⟩ = false := (HB5.out.frozen (p := ⟨g, 4, none⟩) hg4).trans hfc
                clear hb5
                go_wp2
                go_roundg (4 - 4)
                case measure => rw [Hgk2.out]; omega
                case rel =>
                  have hB5 : Below wr.heap.size wr w5 := HB5.out
                  exact ⟨4, by omega, rfl, by go_num, (show K = 0 ∨ 4 < K by have := Hk.out; have := HKq.out; omega), ⟨(hB5.block _ (by omega)).trans HF4.out.1, (hB5.block _ (by omega)).trans HF4.out.2.1, (hB5.block _ (by omega)).trans HF4.out.2.2.1, (hB5.block _ hn4).trans HF4.out.2.2.2⟩, HR4.out.below hB5, HB4.out.trans (hB5.mono HB4.out.size)⟩
            · have hK0 : K = 0 := by have := Hk.out; omega
              have HOp : Hid (openA plain = bOf (infoOf (feeds r l).piece)) := by show _ = _; rw [HPT.out.2.2.2.2.1 hK0, HInf.out hK0]
              have HK0 := Lib.hid (HK.out.trans hK0); clear hK0
              have hcc : wr.cell? ⟨g, 0, none⟩ = some (.int .i64 r1.c0) := (cellR HR4.out.2.1 0).1
              have hfc : wr.frozen? ⟨g, 0, none⟩ = false := (cellR HR4.out.2.1 0).2
              go_wp2_with fail
              refine (open_any plain _ (by omega)).mono ?_
              rw [HOp.out]
              rintro e w5 ⟨rfl, hb5⟩
              have hB4' : Below w1.heap.size w1 wr := HB13.out.trans (HB4.out.mono HB13.out.size)
              have hM4 := HM2.out.trans (Moves.of_below (S := fun _ => False) hB4') (fun _ _ x => x.elim)
              have hM5 := hM4.setCell ⟨g, 0, none⟩ (fun _ => .inl rfl) (.int .i64 ((r1.c0 : Int) + 1))
              have hM6 := hM5.trans (Moves.of_below (S := fun _ => False) hb5) (fun _ _ x => x.elim)
              have HO5 := Lib.hid (row_past HO1.out HR1.out hglt hM6)
              have HM5 := Lib.hid (HM1.out.trans hM6 (foot_back HW1.out))
              have HR5 : Hid (Recv w5 n₀ g (r1.bump 0) v2) := (HR4.out.put (r' := r1.bump 0) 0 (.int .i64 ((r1.c0 : Int) + 1)) rfl rfl).below hb5
              have hsz5 : w.heap.size ≤ w5.heap.size := HM5.out.size
              clear hb5 hB4' hM4 hM5 hM6
              go_wp2_with (at_builtin; refine wpList_append_own _ rfl _ _ 27 rfl w.heap.size 9 i0 (.string ByteArray.empty) 1 16 Try.underlying27 hi hz0 hz1 hz2 rfl (by decide) u5 (outs r l).length (textsV (outs r l)) rfl (HO5.out.alloc _) ⟨w5.heap.size, 0, none⟩ 1 1 [.string (bOf (infoOf (feeds r l).piece))] rfl rfl (cell_one_new _ _ _) (fun x hx => by simp at hx; subst hx; rfl) (by unfold maxLen; omega) (by omega) (by simp; omega) ?_; intro u6 w6 hown6 hgr6 _; have Hown6 := Lib.hid hown6; clear hown6; have Hgr6 := Lib.hid hgr6; clear hgr6)
              go_roundg (s.size - (j + 1))
              case measure => rw [Hgk.out]; omega
              case rel =>
                refine ⟨j + 1, by omega, rfl, by go_num, ?_⟩
                rw [HT.out]
                exact good_end HR1e.out HR5.out HM5.out (HW1.out.trans HW2.out HM1.out.size) HO5.out Hgr6.out Hown6.out HP.out HK0.out
      · have e126 : ((x.toNat : Int) != (((⟨#[126]⟩ : ByteArray)[0]'(by decide)).toNat : Int)) = true := no_int' x 126 (by omega) hx
        have HF : Hid (feeds r (l ++ [x]) = feed (feeds r l) x ∧ outs r (l ++ [x]) = outs r l) := by
          show _ ∧ _
          rw [feeds_snoc, outs_snoc, gives_takes hx, List.append_nil]
          exact ⟨rfl, rfl⟩
        have Hx := Lib.hid hx; clear hx
        go_wp2
        go_quiet (fail)
        go_wp2_with fail
        refine (take_any n₀ g (feeds r l) v1 x (wr.drewN nq) HR1.out HIj.out Hx.out).mono ?_
        rintro e w1 ⟨rfl, v2, hR2, hM2, hW2⟩
        have HR2 := Lib.hid hR2; clear hR2
        have HM2 := Lib.hid hM2.undrewN; clear hM2
        have HW2 : Hid (Within wr v1 v2) := hW2; clear hW2
        go_wp2
        go_roundg (s.size - (j + 1))
        case measure => rw [Hgk.out]; omega
        case rel =>
          refine ⟨j + 1, by omega, rfl, by go_num, ?_⟩
          rw [HT.out]
          refine ⟨v2, by rw [HF.out.1]; exact HR2.out, HM1.out.trans HM2.out ?_, HW1.out.trans HW2.out hsz1, ?_⟩
          · rintro k hk (h | h)
            · exact .inl h
            · rcases HW1.out k h with h' | h'
              · exact .inr h'
              · omega
          · rw [HF.out.2]
            exact HM2.out.row HO1.out fun k hk hf => by
              rcases hf with rfl | hf
              · have := (HO1.out.lt _ hk).1; omega
              · exact rows_apart (by decide) HO1.out HR1.out.2.2 k hk hf
    · obtain rfl : j = s.size := by omega
      rw [show s.toList.take s.size = s.toList from take_all s] at hP
      obtain ⟨v1, hR1, hM1, hW1, hO1⟩ := hP
      have HF := Lib.hid (And.intro hR1 (And.intro hM1 (And.intro hW1 hO1)))
      clear hR1 hM1 hW1 hO1
      go_wp2
      go_ret
      exact ⟨_, v1, rfl, HF.out.2.2.2, HF.out.1, HF.out.2.1, HF.out.2.2.1⟩
end Go.Proofs.Ytfcmpnfdgfdclaa.Hdl
