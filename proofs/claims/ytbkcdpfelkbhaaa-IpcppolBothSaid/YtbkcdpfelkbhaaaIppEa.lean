/- Contract of Rejected. -/
import Derived.Test.YtbkcdpfelkbhaaaIppBa
import Derived.Test.YtbkcdpfelkbhaaaIppCa
import Derived.Test.YtbkcdpfelkbhaaaIppAa
import Derived.Test.YtbkcdpfelkbhaaaIppL
import Derived.Test.YtbkcdpfelkbhaaaIppJ
namespace Go.Proofs.Ytbkcdpfelkbhaaa.Ipp
open Go.RowKit Go.Proofs.Ytbkcdpfelkbhaaa.Oct Go.Proofs.Ytbkcdpfelkbhaaa.Row Go.Proofs.Ytbkcdpfelkbhaaa.Mem Go.Proofs.Ytbkcdpfelkbhaaa.Opt Go.Proofs.Ytbkcdpfelkbhaaa.Ipc

theorem req_known {p : Po} {o : Opt} (h : o ∈ req p) : known o.1 = true ∧ has o.1 p.w = true := by
  obtain ⟨t, d⟩ := o
  have := mem_put.1 h
  exact ⟨this.1, this.2.1⟩
theorem rjB_nil (p : Po) : rjB p [] = false := rfl
theorem rj_no {p : Po} {l : List Opt} (h : part l (req p) = false) : rjB p l = false ∧ rjP p l = p := by
  have e : rjB p l = false := by unfold rjB; rw [h, Bool.and_false]
  exact ⟨e, by unfold rjP; rw [e]; rfl⟩
theorem rj_yes {p : Po} {l : List Opt} (h : part l (req p) = true) (hl : l ≠ []) : rjB p l = true ∧ rjP p l = l.foldl dropP p := by
  have e : rjB p l = true := by unfold rjB; rw [h, Bool.and_true]; exact decide_eq_true hl
  exact ⟨e, by unfold rjP; rw [e]; rfl⟩
set_option maxHeartbeats 4000000 in
set_option maxRecDepth 100000 in
theorem rejected_any (g : Nat) (p : Po) (l : List Opt) (A : Option Addr) (n c : Nat) (w : World) (h : PAt w g p) (hm : may p.w = true) (hl : Opts w w.heap.size A n l) (hn : n ≤ 1000) :
    Calls Try.prog 13 #[.pointer (some ⟨g, 0, none⟩), .slice A n c] w (RepQ (rjB p l) (rjP p l) g w) := by
  have HP := Lib.hid h
  have HL := Lib.hid hl
  have Hn := Lib.hid hl.1
  have HR := Lib.hid (request_room g p w h hm)
  clear h hl hm
  go_enter Try.func13, Try.ntmps13
  by_cases hn0 : n = 0
  · subst hn0
    have HE : Hid (rjB p l = false ∧ rjP p l = p) := by
      have e := List.length_eq_zero_iff.1 Hn.out
      show _ ∧ _
      rw [e]
      exact ⟨rfl, rfl⟩
    go_wp2
    go_ret
    unfold RepQ
    rw [HE.out.1, HE.out.2]
    exact ⟨rfl, HP.out, Moves.refl _ _⟩
  · have hn1 : ¬ (n : Int) = 0 := by omega
    have HNN : Hid (l ≠ []) := by show _ ≠ _; rintro rfl; exact hn0 (by rw [← Hn.out]; rfl)
    go_wp2_with fail
    refine HR.out.mono ?_
    rintro e w1 ⟨A2, c2, rfl, hO, hb1, hc1, hc2⟩
    have HP1 := Lib.hid (HP.out.callee hb1)
    have HL1 : Hid (Opts w1 w1.heap.size A n l) := HL.out.next hb1
    have HB1 := Lib.hid hb1
    have HI := Lib.hid (isPart_any l (req p) A A2 n (req p).length c c2 w1 HL1.out hO (by unfold maxLen; omega) (by have := put_len p.w; unfold req; omega) hc1 hc2)
    clear HR hO hb1 hc1 hc2
    generalize (req p).length = n2 at *
    cases hp : part l (req p)
    · have HE := Lib.hid (rj_no hp)
      rw [hp] at HI
      clear hp
      go_wp2_with fail
      refine HI.out.mono ?_
      rintro e w2 ⟨rfl, hb2⟩
      have HP2 := Lib.hid (HP1.out.callee hb2)
      have HB2 := Lib.hid (HB1.out.trans (hb2.mono HB1.out.size))
      clear hb2 HI
      go_wp2
      go_ret
      unfold RepQ
      rw [HE.out.1, HE.out.2]
      exact ⟨rfl, HP2.out, Moves.of_below HB2.out⟩
    · have HE := Lib.hid (rj_yes hp HNN.out)
      have HK : Hid (∀ o ∈ l, known o.1 = true) := fun o ho => (req_known (part_mem hp o ho)).1
      rw [hp] at HI
      clear hp
      go_wp2_with fail
      refine HI.out.mono ?_
      rintro e w2 ⟨rfl, hb2⟩
      have HP2 := Lib.hid (HP1.out.callee hb2)
      have HB2 := Lib.hid (HB1.out.trans (hb2.mono HB1.out.size))
      clear hb2 HI
      go_wp2_with fail
      refine (sayings_any w2).mono ?_
      rintro e w3 ⟨m, rfl, hm3, hs3, hb3⟩
      have HP3 := Lib.hid (HP2.out.callee hb3)
      have HS3 := Lib.hid hs3
      have HB3 := Lib.hid (HB2.out.trans (hb3.mono HB2.out.size))
      clear hb3 hs3 HP1 HP2 HB1 HB2 HL1
      go_wp2
      go_loopw [25] (fun i wr => ∃ k : Nat, k ≤ n ∧ i = .int .i64 k ∧ Hid (Sy wr m) ∧ Hid (Jd w wr g ((l.take k).foldl dropP p) A n l)) (fun i _ => n - (intOf i).toNat)
      case atStart => exact ⟨0, Nat.zero_le _, rfl, HS3, ⟨HP3.out, Moves.of_below HB3.out, HL.out.below HB3.out⟩⟩
      case round =>
        obtain ⟨k, hk, rfl, HS, HJ⟩ := hrel
        by_cases hlt : k < n
        · obtain ⟨ad, o, rfl, hB, ho, hS1, hc0, hc1⟩ := HJ.out.ho.at_ hlt
          have hkn : known o.1 = true := HK.out o (List.mem_of_getElem? ho)
          have HT : Hid (∀ g p w, PAt w g p → Calls Try.prog (mX o.1) #[.pointer (some ⟨g, 0, none⟩)] w (NkQ (dropP p o) g w)) := fun g p w h => drop_fn hkn g p w h
          have hE := mX_enters hkn
          have HF := Lib.hid (foldl_snoc p l k o ho)
          obtain ⟨V, hV, HV⟩ := boxO wr o
          have HS1 := Lib.hid (HS.out.callee HV.out.2.1)
          have HJ1 := Lib.hid (HJ.out.callee HV.out.2.1)
          have hlk := say_look hkn HS1.out
          unfold trip at hlk
          have o0 := HV.out.1.c0
          clear ho hkn HS
          generalize mB o.1 = F1 at *
          generalize mN o.1 = F2 at *
          generalize mX o.1 = F3 at *
          generalize (l.take k).foldl dropP p = q at *
          have hf2 := fun w => field2 F1 F2 F3 w
          go_wp2_with fail
          refine (HT.out g q _ HJ1.out.hp).mono ?_
          rintro e w4 ⟨rfl, hp4, hm4⟩
          have HJ4 := Lib.hid (HJ1.out.turn hm4 hp4)
          have HS4 : Hid (Sy w4 m) := HS1.out.moves hm4 (fun e => sy_blk HS1.out HJ1.out.hp e)
          rw [← HF.out] at HJ4
          clear hm4 hp4 HT hE hlk hV HV HJ1 HS1 HJ HF o0 hf2 hc0 hc1
          go_wp2
          go_roundw
          case rel => exact ⟨k + 1, by omega, by go_num, HS4, HJ4⟩
          case measure => simp [intOf]; omega
        · obtain rfl : k = n := by omega
          have HF : Hid (Jd w wr g (l.foldl dropP p) A k l) := by
            have h := HJ.out
            rw [List.take_of_length_le (by rw [Hn.out]; exact Nat.le_refl _)] at h
            exact h
          go_wp2
          go_ret
          unfold RepQ
          rw [HE.out.1, HE.out.2]
          exact ⟨rfl, HF.out.hp, HF.out.hm⟩
end Go.Proofs.Ytbkcdpfelkbhaaa.Ipp
