/- Put together: IppQe, IppQf. -/
import Derived.Test.YthoangihndplkaaIppQd
import Derived.Test.YthoangihndplkaaIppE
import Derived.Test.YthoangihndplkaaGIppCa
import Derived.Test.YthoangihndplkaaQuietS
import Derived.Test.YthoangihndplkaaIppQc
import Derived.Maps.AppendAt

/- Contract of the document's Rejected. -/
set_option linter.unusedSimpArgs false
set_option linter.unusedVariables false
namespace Go.Proofs.Ythoangihndplkaa.Ipp
open Go.RowKit Go.Proofs.Ythoangihndplkaa.Oct Go.Proofs.Ythoangihndplkaa.Row Go.Proofs.Ythoangihndplkaa.Mem Go.Proofs.Ythoangihndplkaa.Opt Go.Proofs.Ythoangihndplkaa.Ipc

theorem drop_at {l : List Opt} {i : Nat} {o : Opt} (h : l[i]? = some o) : l.drop i = o :: l.drop (i + 1) := by
  obtain ⟨hi, rfl⟩ := List.getElem?_eq_some_iff.1 h
  exact List.drop_eq_getElem_cons hi
theorem part_ne {l r : List Opt} {i k : Nat} {o x : Opt} (hl : l[i]? = some o) (hr : r[k]? = some x) (h : ¬ x = o) : part (l.drop i) (r.drop k) = part (l.drop i) (r.drop (k + 1)) := by
  rw [drop_at hl, drop_at hr]
  conv => lhs; unfold part
  rw [if_neg h]
theorem part_eq {l r : List Opt} {i k : Nat} {o x : Opt} (hl : l[i]? = some o) (hr : r[k]? = some x) (h : x = o) : part (l.drop i) (r.drop k) = part (l.drop (i + 1)) (r.drop (k + 1)) := by
  rw [drop_at hl, drop_at hr]
  conv => lhs; unfold part
  rw [if_pos h]
theorem part_out {l r : List Opt} {i : Nat} {o : Opt} (hl : l[i]? = some o) : part (l.drop i) (r.drop r.length) = false := by
  rw [drop_at hl, List.drop_length]
  rfl
theorem part_done (l r : List Opt) : part (l.drop l.length) r = true := by
  rw [List.drop_length]
  cases r <;> rfl
theorem dv_no (p : Po) (s : ByteArray) : Value.string s ∉ dv p := by
  unfold dv
  simp only [List.mem_append, not_or]
  exact ⟨cv_no _ s, lv_no _ s, lv_no _ s, lv_no _ s, by simp⟩
/-- On the way. -/
structure Rd (w wr : World) (g : Nat) (p : Po) (A : Option Addr) (n : Nat) (l : List Opt) : Prop where
  p : RAt wr g p
  m : Moves (fun k => k = g) w wr
  o : Opts wr w.heap.size A n l
theorem Rd.callee {w wr w' : World} {g : Nat} {p : Po} {A : Option Addr} {n : Nat} {l : List Opt} (h : Rd w wr g p A n l) (hb : Below wr.heap.size wr w') : Rd w w' g p A n l :=
  ⟨h.p.callee hb, h.m.trans (Moves.of_below hb) (fun j hj e => e), h.o.callee hb h.m.size⟩
theorem Rd.turn {w wr w' : World} {g : Nat} {p p' : Po} {A : Option Addr} {n : Nat} {l : List Opt} (h : Rd w wr g p A n l) (hm : Moves (fun k => k = g) wr w') (hp : RAt w' g p') : Rd w w' g p' A n l :=
  ⟨hp, h.m.trans hm (fun j hj e => e), opts_past h.o h.p (dv_no p) hm h.m.size⟩
set_option maxHeartbeats 16000000 in
set_option maxRecDepth 100000 in
theorem rrejected_any (g : Nat) (p : Po) (l : List Opt) (A : Option Addr) (n c : Nat) (w : World) (h : RAt w g p) (hl : Opts w w.heap.size A n l) (hn : n ≤ 1000) :
    Calls Try.prog 42 #[.pointer (some ⟨g, 0, none⟩), .slice A n c] w (RRepQ (rjB p l) (rjP p l) g w) := by
  have H0 : Hid (Rd w w g p A n l) := ⟨h, Moves.refl _ _, hl⟩
  have Hn := Lib.hid hl.1
  have HR := Lib.hid (rrequest_any g p w h)
  have hm3 : (put p.w).length ≤ 3 := put_len p.w
  clear h hl
  go_enter Try.func42, Try.ntmps42
  go_wp2_with fail
  refine HR.out.mono ?_
  rintro e w1 ⟨A2, c2, rfl, hO, hb1⟩
  have H1 := Lib.hid (H0.out.callee hb1)
  have HL := Lib.hid (H0.out.o.next hb1)
  have HO := Lib.hid hO
  have HQ0 : Hid (put p.w = req p) := rfl
  clear hO hb1 HR H0
  obtain ⟨m, hm⟩ : ∃ m, (put p.w).length = m := ⟨_, rfl⟩
  rw [hm] at HO hm3 ⊢
  have HM := Lib.hid hm
  clear hm
  go_wp2_with fail
  go_loopw [6, 7] (fun u6 u7 wr => ∃ (k i : Nat), k ≤ m ∧ i ≤ n ∧ u6 = .int .i64 k ∧ u7 = .int .i64 i ∧ Hid (part l (put p.w) = part (l.drop i) ((put p.w).drop k)) ∧ Hid (Below w1.heap.size w1 wr)) (fun _ u7 _ => n - (intOf u7).toNat)
  case atStart => exact ⟨0, 0, Nat.zero_le _, Nat.zero_le _, rfl, rfl, rfl, Below.refl _ _⟩
  case round =>
    obtain ⟨k, i, hk, hi, rfl, rfl, HT, HB0⟩ := hrel
    by_cases hin : i < n
    · obtain ⟨ad, o, hA, hB, ho, hS1, d0, d1⟩ := HL.out.at_ hin
      subst hA
      have HOo := Lib.hid ho
      clear ho hB hS1
      have hin' : (i : Int) < (n : Int) := by omega
      have hin2 := decide_eq_true hin'
      go_wp2_with fail
      go_loopw [6] (fun u6 wrb => ∃ (kk : Nat), kk ≤ m ∧ u6 = .int .i64 kk ∧ Hid (part l (put p.w) = part (l.drop i) ((put p.w).drop kk)) ∧ Hid (Below w1.heap.size w1 wrb)) (fun u6 _ => m - (intOf u6).toNat)
      case atStart => exact ⟨k, hk, rfl, HT, HB0⟩
      case round =>
        obtain ⟨kk, hkk, rfl, HT2, HB⟩ := hrel
        clear HT HB0
        by_cases hkm : kk < m
        · have hkm' : (kk : Int) < (m : Int) := by omega
          have hkm2 := decide_eq_true hkm'
          obtain ⟨ad2, x, hA2, hB2, hx, hS2, e0, e1⟩ := HO.out.at_ hkm
          subst hA2
          have HX := Lib.hid hx
          clear hx hB2 hS2
          have a0 : ∀ q : HeldW (fun w' => Below w1.heap.size w1 w'), q.w.cell? (ad.add (i * 2)) = some (.int .u8 o.1.toNat) := fun q => (q.h.cell (World.block_lt_of_cell? _ _ d0)).trans d0
          have a1 : ∀ q : HeldW (fun w' => Below w1.heap.size w1 w'), q.w.cell? ⟨(ad.add (i * 2)).block, (ad.add (i * 2)).off + 1, none⟩ = some (.string o.2) := fun q => (q.h.cell (World.block_lt_of_cell? _ _ d1)).trans d1
          have b0 : ∀ q : HeldW (fun w' => Below w1.heap.size w1 w'), q.w.cell? (ad2.add (kk * 2)) = some (.int .u8 x.1.toNat) := fun q => (q.h.cell (World.block_lt_of_cell? _ _ e0)).trans e0
          have b1 : ∀ q : HeldW (fun w' => Below w1.heap.size w1 w'), q.w.cell? ⟨(ad2.add (kk * 2)).block, (ad2.add (kk * 2)).off + 1, none⟩ = some (.string x.2) := fun q => (q.h.cell (World.block_lt_of_cell? _ _ e1)).trans e1
          by_cases hxo : x = o
          · have hN : ∀ w, (binOp .neq 48 (.agg #[.int .u8 x.1.toNat, .string x.2]) (.agg #[.int .u8 o.1.toNat, .string o.2])).run Try.prog w = .ok (.bool (!true)) w := fun w => opt_neq (decide_eq_true hxo) w
            have HT3 := Lib.hid (HT2.out.trans (part_eq HOo.out HX.out hxo))
            go_wp2_with fail
            have hne : Nonempty (HeldW (fun w' => Below w1.heap.size w1 w')) := ⟨⟨wr.drew, HB.out.drew⟩⟩
            refine wp_region_quiet_shut (fun w' => Below w1.heap.size w1 w') (by kernel_rfl) (by kernel_rfl) HB.out.drew (fun G hst hnil => ?_)
            repeat (
              refine hst.out _ _ _ (fun K hK => ?_)
              go_simp
              first
                | (refine hK _ ?_; clear hK K)
                | (apply Exists.intro
                   refine ⟨fun _ => ?_, hK _ ?_⟩
                   (first
                     | (go_at_call 63; exact held_of (HA.out _)))
                   clear hK K))
            refine hnil.out _ (fun q => ?_)
            clear hnil hst
            have HBq := Lib.hid q.h
            clear a0 a1 b0 b1 hN hxo
            have hkm4 : ((kk : Int) == (m : Int)) = false := by rw [beq_eq_false_iff_ne]; omega
            go_wp2
            go_roundw
            case rel => exact ⟨kk + 1, i + 1, by omega, by omega, by go_num, by go_num, HT3, HBq⟩
            case measure => simp [intOf]; omega
          · have hN : ∀ w, (binOp .neq 48 (.agg #[.int .u8 x.1.toNat, .string x.2]) (.agg #[.int .u8 o.1.toNat, .string o.2])).run Try.prog w = .ok (.bool (!false)) w := fun w => opt_neq (decide_eq_false hxo) w
            have HT3 := Lib.hid (HT2.out.trans (part_ne HOo.out HX.out hxo))
            go_wp2_with fail
            have hne : Nonempty (HeldW (fun w' => Below w1.heap.size w1 w')) := ⟨⟨wr.drew, HB.out.drew⟩⟩
            refine wp_region_quiet_shut (fun w' => Below w1.heap.size w1 w') (by kernel_rfl) (by kernel_rfl) HB.out.drew (fun G hst hnil => ?_)
            repeat (
              refine hst.out _ _ _ (fun K hK => ?_)
              go_simp
              first
                | (refine hK _ ?_; clear hK K)
                | (apply Exists.intro
                   refine ⟨fun _ => ?_, hK _ ?_⟩
                   (first
                     | (go_at_call 63; exact held_of (HA.out _)))
                   clear hK K))
            refine hnil.out _ (fun q => ?_)
            clear hnil hst
            have HBq := Lib.hid q.h
            clear a0 a1 b0 b1 hN hxo
            go_wp2
            go_roundw
            case rel => exact ⟨kk + 1, by omega, by go_num, HT3, HBq⟩
            case measure => simp [intOf]; omega
        · obtain rfl : kk = m := by omega
          have hkm2 : decide ((kk : Int) < (kk : Int)) = false := decide_eq_false (by omega)
          have HE : Hid (rjB p l = false ∧ rjP p l = p) := by
            refine rj_no ?_
            have h := HT2.out
            rw [← HM.out, part_out HOo.out] at h
            exact h
          have hkm4 : ((kk : Int) == (kk : Int)) = true := beq_self_eq_true _
          go_wp2_with fail
          have hne : Nonempty (HeldW (fun w' => Below w1.heap.size w1 w')) := ⟨⟨wr.drew, HB.out.drew⟩⟩
          refine wp_region_quiet_shut (fun w' => Below w1.heap.size w1 w') (by kernel_rfl) (by kernel_rfl) HB.out.drew (fun G hst hnil => ?_)
          repeat (
            refine hst.out _ _ _ (fun K hK => ?_)
            go_simp
            first
              | (refine hK _ ?_; clear hK K)
              | (apply Exists.intro
                 refine ⟨fun _ => ?_, hK _ ?_⟩
                 (first
                   | (go_at_call 63; exact held_of (HA.out _)))
                 clear hK K))
          refine hnil.out _ (fun q => ?_)
          clear hnil hst
          have HBq := Lib.hid q.h
          go_wp2
          go_ret
          unfold RRepQ
          rw [HE.out.1, HE.out.2]
          have h := H1.out.callee HBq.out
          exact ⟨rfl, h.p, h.m⟩
    · obtain rfl : i = n := by omega
      have HP : Hid (part l (req p) = true) := by
        have h := HT.out
        rw [← Hn.out, part_done] at h
        exact h
      have HJ0 := Lib.hid (H1.out.callee HB0.out)
      have hnn := decide_eq_false (show ¬ (i : Int) < (i : Int) by omega)
      clear HT HB0 hin
      by_cases hi0 : i = 0
      · subst hi0
        have HE : Hid (rjB p l = false ∧ rjP p l = p) := by
          have e := List.length_eq_zero_iff.1 Hn.out
          show _ ∧ _
          rw [e]
          exact ⟨rfl, rfl⟩
        go_wp2
        go_ret
        unfold RRepQ
        rw [HE.out.1, HE.out.2]
        exact ⟨rfl, HJ0.out.p, HJ0.out.m⟩
      · have hi1 : ((i : Int) == 0) = false := by rw [beq_eq_false_iff_ne]; omega
        have HNN : l ≠ [] := by rintro rfl; exact hi0 (by rw [← Hn.out]; rfl)
        have HE := Lib.hid (rj_yes HP.out HNN)
        have HK : Hid (∀ o ∈ l, known o.1 = true) := fun o ho => (req_known (part_mem HP.out o ho)).1
        clear HNN hi0
        go_wp2_with fail
        go_loopw [8] (fun u8 wrc => ∃ k : Nat, k ≤ i ∧ u8 = .int .i64 k ∧ Hid (Rd w wrc g ((l.take k).foldl dropP p) A i l)) (fun u8 _ => i - (intOf u8).toNat)
        case atStart => exact ⟨0, Nat.zero_le _, rfl, HJ0⟩
        case round =>
          obtain ⟨k, hk, rfl, HJ⟩ := hrel
          clear HJ0
          by_cases hlt : k < i
          · obtain ⟨ad, o, hA, hB, ho, hS1, d0, d1⟩ := HJ.out.o.at_ hlt
            subst hA
            have hlt' : (k : Int) < (i : Int) := by omega
            have hlt2 := decide_eq_true hlt'
            have hkn : known o.1 = true := HK.out o (List.mem_of_getElem? ho)
            have HF := Lib.hid (foldl_snoc p l k o ho)
            clear ho hB hS1
            generalize (l.take k).foldl dropP p = q at *
            rcases known_cases hkn with h3 | h3 | h3
            · have x1 : ((o.1.toNat : Int) == 3) = true := by rw [h3]; rfl
              have HD : Hid (dropP q o = { q with w := { q.w with ha := false, addr := 0 } }) := by show dropP q o = _; unfold dropP dropW; rw [if_pos h3] <;> rfl
              have p6 : wr.cell? ⟨g, 6, none⟩ = some (.bool q.w.ha) := HJ.out.p.c 6
              have p7 : wr.cell? ⟨g, 7, none⟩ = some (.int .u32 q.w.addr.toNat) := HJ.out.p.c 7
              have f6 := HJ.out.p.f 6
              have f7 := HJ.out.p.f 7
              clear hkn h3
              go_wp2
              go_roundw
              case rel => exact ⟨k + 1, by omega, by go_num, by
                have h := HJ.out.turn ((set_moves wr g 6 (.bool false)).trans (set_moves _ g 7 (.int .u32 0)) (fun _ _ h => h)) (show RAt _ g { q with w := { q.w with ha := false, addr := 0 } } from Blk.set (Blk.set HJ.out.p 6 (.bool false)) 7 (.int .u32 0))
                rw [HF.out, HD.out]
                exact h⟩
              case measure => simp [intOf]; omega
            · have x1 : ((o.1.toNat : Int) == 3) = false := by rw [h3]; rfl
              have x2 : ((o.1.toNat : Int) == 129) = true := by rw [h3]; rfl
              have HD : Hid (dropP q o = { q with w := { q.w with h1 := false, dns1 := 0 } }) := by show dropP q o = _; unfold dropP dropW; rw [if_neg (by rw [h3]; decide), if_pos h3] <;> rfl
              have p8 : wr.cell? ⟨g, 8, none⟩ = some (.bool q.w.h1) := HJ.out.p.c 8
              have p9 : wr.cell? ⟨g, 9, none⟩ = some (.int .u32 q.w.dns1.toNat) := HJ.out.p.c 9
              have f8 := HJ.out.p.f 8
              have f9 := HJ.out.p.f 9
              clear hkn h3
              go_wp2
              go_roundw
              case rel => exact ⟨k + 1, by omega, by go_num, by
                have h := HJ.out.turn ((set_moves wr g 8 (.bool false)).trans (set_moves _ g 9 (.int .u32 0)) (fun _ _ h => h)) (show RAt _ g { q with w := { q.w with h1 := false, dns1 := 0 } } from Blk.set (Blk.set HJ.out.p 8 (.bool false)) 9 (.int .u32 0))
                rw [HF.out, HD.out]
                exact h⟩
              case measure => simp [intOf]; omega
            · have x1 : ((o.1.toNat : Int) == 3) = false := by rw [h3]; rfl
              have x2 : ((o.1.toNat : Int) == 129) = false := by rw [h3]; rfl
              have HD : Hid (dropP q o = { q with w := { q.w with h2 := false, dns2 := 0 } }) := by show dropP q o = _; unfold dropP dropW; rw [if_neg (by rw [h3]; decide), if_neg (by rw [h3]; decide), if_pos h3] <;> rfl
              have p10 : wr.cell? ⟨g, 10, none⟩ = some (.bool q.w.h2) := HJ.out.p.c 10
              have p11 : wr.cell? ⟨g, 11, none⟩ = some (.int .u32 q.w.dns2.toNat) := HJ.out.p.c 11
              have f10 := HJ.out.p.f 10
              have f11 := HJ.out.p.f 11
              clear hkn h3
              go_wp2
              go_roundw
              case rel => exact ⟨k + 1, by omega, by go_num, by
                have h := HJ.out.turn ((set_moves wr g 10 (.bool false)).trans (set_moves _ g 11 (.int .u32 0)) (fun _ _ h => h)) (show RAt _ g { q with w := { q.w with h2 := false, dns2 := 0 } } from Blk.set (Blk.set HJ.out.p 10 (.bool false)) 11 (.int .u32 0))
                rw [HF.out, HD.out]
                exact h⟩
              case measure => simp [intOf]; omega
          · obtain rfl : k = i := by omega
            have hlt2 := decide_eq_false (show ¬ (k : Int) < (k : Int) by omega)
            have HZ : Hid ((l.take k).foldl dropP p = l.foldl dropP p) := by show _ = _; rw [List.take_of_length_le (by rw [Hn.out]; exact Nat.le_refl _)]
            go_wp2
            go_ret
            unfold RRepQ
            rw [HE.out.1, HE.out.2, ← HZ.out]
            exact ⟨rfl, HJ.out.p, HJ.out.m⟩
end Go.Proofs.Ythoangihndplkaa.Ipp

/- The document's Judge: what a round keeps (three rows of the call's own), and what it adds. -/
namespace Go.Proofs.Ythoangihndplkaa.Ipp
open Go.RowKit Go.Proofs.Ythoangihndplkaa.Oct Go.Proofs.Ythoangihndplkaa.Row Go.Proofs.Ythoangihndplkaa.Mem Go.Proofs.Ythoangihndplkaa.Opt Go.Proofs.Ythoangihndplkaa.Ipc

/-! ### what a round adds -/
theorem seen_fB (l : List Opt) (t : UInt8) : Opt.fB t l = seen l t := by
  unfold Opt.fB fd seen
  rw [Bool.eq_iff_iff, List.any_eq_true]
  cases h : l.find? (fun o => o.1 == t) with
  | none =>
    refine ⟨fun h' => absurd h' (by decide), fun ⟨o, ho, e⟩ => ?_⟩
    have := List.find?_eq_none.1 h o ho
    exact absurd e (by simpa using this)
  | some o => exact ⟨fun _ => ⟨o, List.mem_of_find?_eq_some h, List.find?_some (p := fun o : Opt => o.1 == t) h⟩, fun _ => rfl⟩
theorem rows_next (p : Po) (l : List Opt) (k : Nat) (o : Opt) (h : l[k]? = some o) : refs (vs p (l.take (k + 1))) = refs (vs p (l.take k)) ++ refs [ver p (l.take k) o] ∧ insts (vs p (l.take (k + 1))) = insts (vs p (l.take k)) ++ insts [ver p (l.take k) o] ∧ poors (vs p (l.take (k + 1))) = poors (vs p (l.take k)) ++ poors [ver p (l.take k) o] := by
  rw [vs_snoc p l k o h, refs_append, insts_append, poors_append]
  exact ⟨rfl, rfl, rfl⟩
/-- Refused. -/
theorem next_two {p : Po} {l : List Opt} {k : Nat} {o : Opt} (h : l[k]? = some o) (hr : seen (l.take k) o.1 = true ∨ ok p o = false) : refs (vs p (l.take (k + 1))) = refs (vs p (l.take k)) ++ [o] ∧ insts (vs p (l.take (k + 1))) = insts (vs p (l.take k)) ∧ poors (vs p (l.take (k + 1))) = poors (vs p (l.take k)) := by
  obtain ⟨h1, h2, h3⟩ := rows_next p l k o h
  have e : (ver p (l.take k) o).rej = true := by
    show (seen (l.take k) o.1 || !ok p o) = true
    rcases hr with hr | hr <;> rw [hr] <;> simp
  have e2 : poor (ver p (l.take k) o) = false := by unfold poor; rw [e]; rfl
  rw [h1, h2, h3, refs_one, insts_one, poors_one, e, e2]
  refine ⟨rfl, by simp, by simp⟩
/-- Good. -/
theorem next_zero {p : Po} {l : List Opt} {k : Nat} {o : Opt} (h : l[k]? = some o) (hs : seen (l.take k) o.1 = false) (ha : ok p o = true) (hg : sug p o = o) : refs (vs p (l.take (k + 1))) = refs (vs p (l.take k)) ∧ insts (vs p (l.take (k + 1))) = insts (vs p (l.take k)) ∧ poors (vs p (l.take (k + 1))) = poors (vs p (l.take k)) := by
  obtain ⟨h1, h2, h3⟩ := rows_next p l k o h
  rw [h1, h2, h3, refs_one, insts_one, poors_one, ver_clean hs ha, hg]
  have e : poor ⟨o, false, o⟩ = false := by show (!false && !decide (o = o)) = false; rw [decide_eq_true rfl]; rfl
  rw [e]
  refine ⟨by simp, by simp, by simp⟩
/-- To be another one. -/
theorem next_one {p : Po} {l : List Opt} {k : Nat} {o : Opt} (h : l[k]? = some o) (hs : seen (l.take k) o.1 = false) (ha : ok p o = true) (hg : ¬ sug p o = o) : refs (vs p (l.take (k + 1))) = refs (vs p (l.take k)) ∧ insts (vs p (l.take (k + 1))) = insts (vs p (l.take k)) ++ [xO p o] ∧ poors (vs p (l.take (k + 1))) = poors (vs p (l.take k)) ++ [o] := by
  obtain ⟨h1, h2, h3⟩ := rows_next p l k o h
  rw [h1, h2, h3, refs_one, insts_one, poors_one, ver_clean hs ha, (kO_ok ha).2 hg]
  have e : poor ⟨o, false, sug p o⟩ = true := by show (!false && !decide (sug p o = o)) = true; rw [decide_eq_false hg]; rfl
  rw [e]
  refine ⟨by simp, by simp, by simp⟩
theorem kO_one {p : Po} {o : Opt} (ha : ok p o = true) (hg : ¬ sug p o = o) : kO p o = 1 := by rw [(kO_ok ha).1, if_neg hg]
theorem kO_zero {p : Po} {o : Opt} (ha : ok p o = true) (hg : sug p o = o) : kO p o = 0 := by rw [(kO_ok ha).1, if_pos hg]

/-! ### three rows of the call's own -/
def Apart (u v : Value) : Prop := u.ownBlock = none ∨ u.ownBlock ≠ v.ownBlock
theorem Apart.symm {u v : Value} (h : Apart u v) : Apart v u := by
  rcases h with h | h
  · by_cases hv : v.ownBlock = none
    · exact .inl hv
    · exact .inr (fun e => hv (e.trans h))
  · exact .inr (fun e => h e.symm)
theorem apart_nil (v : Value) : Apart (.slice none 0 0) v := .inl rfl
/-- An append's row lies in the old one's block, or in a new one. -/
theorem apart_new {W : World} {base n : Nat} {e : TypeId} {xs : List Value} {u v v' : Value} (hu : W.ownsRow base e 2 u n xs) (h : Apart u v) (hat : v'.ownBlock = v.ownBlock ∨ v'.ownBlock = some W.heap.size) : Apart u v' := by
  rcases hat with e' | e'
  · unfold Apart; rw [e']; exact h
  · cases hk : u.ownBlock with
    | none => exact .inl hk
    | some k =>
      refine .inr (fun e2 => ?_)
      rw [hk, e'] at e2
      have := (hu.lt k hk).2
      cases e2
      exact absurd this (Nat.lt_irrefl _)
/-- What a round keeps. -/
structure Tri (w wr : World) (R N C : Value) (rn nn cn : Nat) (rs ns cs : List Opt) : Prop where
  b : Below w.heap.size w wr
  r : wr.ownsRow w.heap.size 48 2 R rn (optsV rs)
  n : wr.ownsRow w.heap.size 48 2 N nn (optsV ns)
  c : wr.ownsRow w.heap.size 48 2 C cn (optsV cs)
  rn : Apart R N
  rc : Apart R C
  nc : Apart N C
theorem tri_start (w : World) : Tri w w (.slice none 0 0) (.slice none 0 0) (.slice none 0 0) 0 0 0 [] [] [] :=
  ⟨Below.refl _ _, World.ownsRow_nil _ _ _ _, World.ownsRow_nil _ _ _ _, World.ownsRow_nil _ _ _ _, apart_nil _, apart_nil _, apart_nil _⟩
section
variable {w wr w' : World} {R N C v' : Value} {rn nn cn : Nat} {rs ns cs : List Opt} {o : Opt}
theorem Tri.callee (h : Tri w wr R N C rn nn cn rs ns cs) (hb : Below wr.heap.size wr w') : Tri w w' R N C rn nn cn rs ns cs :=
  ⟨h.b.trans (hb.mono h.b.size), own_callee h.r hb, own_callee h.n hb, own_callee h.c hb, h.rn, h.rc, h.nc⟩
theorem Tri.alloc (h : Tri w wr R N C rn nn cn rs ns cs) (x : Obj) : Tri w (wr.alloc x) R N C rn nn cn rs ns cs := h.callee ((Below.refl _ _).alloc (Nat.le_refl _) x)
theorem Tri.growR (h : Tri w wr R N C rn nn cn rs ns cs) (hg : wr.grownBy w' R.ownBlock) (hr : w'.ownsRow w.heap.size 48 2 v' (rn + 1) (optsV rs ++ optsV [o])) (hat : v'.ownBlock = R.ownBlock ∨ v'.ownBlock = some wr.heap.size) : Tri w w' v' N C (rn + 1) nn cn (rs ++ [o]) ns cs :=
  ⟨h.b.grown hg h.b.size (fun q hq => (h.r.lt q hq).1), by rw [optsV_append]; exact hr, h.n.kept hg h.rn.symm, h.c.kept hg h.rc.symm, (apart_new h.n h.rn.symm hat).symm, (apart_new h.c h.rc.symm hat).symm, h.nc⟩
theorem Tri.growN (h : Tri w wr R N C rn nn cn rs ns cs) (hg : wr.grownBy w' N.ownBlock) (hr : w'.ownsRow w.heap.size 48 2 v' (nn + 1) (optsV ns ++ optsV [o])) (hat : v'.ownBlock = N.ownBlock ∨ v'.ownBlock = some wr.heap.size) : Tri w w' R v' C rn (nn + 1) cn rs (ns ++ [o]) cs :=
  ⟨h.b.grown hg h.b.size (fun q hq => (h.n.lt q hq).1), h.r.kept hg h.rn, by rw [optsV_append]; exact hr, h.c.kept hg h.nc.symm, apart_new h.r h.rn hat, h.rc, (apart_new h.c h.nc.symm hat).symm⟩
theorem Tri.growC (h : Tri w wr R N C rn nn cn rs ns cs) (hg : wr.grownBy w' C.ownBlock) (hr : w'.ownsRow w.heap.size 48 2 v' (cn + 1) (optsV cs ++ optsV [o])) (hat : v'.ownBlock = C.ownBlock ∨ v'.ownBlock = some wr.heap.size) : Tri w w' R N v' rn nn (cn + 1) rs ns (cs ++ [o]) :=
  ⟨h.b.grown hg h.b.size (fun q hq => (h.c.lt q hq).1), h.r.kept hg h.rc, h.n.kept hg h.nc, by rw [optsV_append]; exact hr, h.rn, apart_new h.r h.rc hat, apart_new h.n h.nc hat⟩
end
end Go.Proofs.Ythoangihndplkaa.Ipp
