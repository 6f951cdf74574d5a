/- Put together: IppCa, IppEa, IppFa. -/
import Derived.Test.YtgefodpnhifmdaaGreatGOpts
import Derived.Test.YtgefodpnhifmdaaGreatGIppI
import Derived.Test.YtgefodpnhifmdaaGreatOptEq
import Derived.Test.YtgefodpnhifmdaaGreatOptsStep
import Derived.Test.YtgefodpnhifmdaaGreatIppBa
import Derived.Test.YtgefodpnhifmdaaGreatGIppN
import Derived.Test.YtgefodpnhifmdaaGreatGOptA
import Derived.Test.YtgefodpnhifmdaaGreatGIpcD

/- Contracts of slices.Index at options, and of isPart. -/
namespace Go.Proofs.YtgefodpnhifmdaaGreat.Ipp
open Go.RowKit Go.Proofs.YtgefodpnhifmdaaGreat.Oct Go.Proofs.YtgefodpnhifmdaaGreat.Row Go.Proofs.YtgefodpnhifmdaaGreat.Mem Go.Proofs.YtgefodpnhifmdaaGreat.Opt Go.Proofs.YtgefodpnhifmdaaGreat.Ipc

theorem part_none {o : Opt} (l : List Opt) : ∀ {r : List Opt}, o ∉ r → part (o :: l) r = false
  | [], _ => rfl
  | x :: r, h => by
    unfold part
    rw [if_neg (fun e => h (by rw [e]; simp))]
    exact part_none l fun hm => h (by simp [hm])
theorem part_found {o : Opt} (l post : List Opt) : ∀ {pre : List Opt}, o ∉ pre → part (o :: l) (pre ++ o :: post) = part l post
  | [], _ => by
    rw [List.nil_append]
    conv => lhs; unfold part
    rw [if_pos rfl]
  | x :: pre, h => by
    rw [List.cons_append]
    conv => lhs; unfold part
    rw [if_neg (fun e => h (by rw [e]; simp))]
    exact part_found l post fun hm => h (by simp [hm])
/-- Where o stands first, or -1. -/
def IxQ (o : Opt) (l : List Opt) (w : World) (e : Ending) (w' : World) : Prop := ((∃ k : Nat, k < l.length ∧ l[k]? = some o ∧ o ∉ l.take k ∧ e = .returned (.int .i64 (k : Nat))) ∨ (o ∉ l ∧ e = .returned (.int .i64 (-1)))) ∧ Below w.heap.size w w'
set_option maxHeartbeats 2000000 in
set_option maxRecDepth 100000 in
theorem ix_any (o : Opt) (l : List Opt) (B : Nat) (A : Option Addr) (n c : Nat) (w : World) (hl : Opts w B A n l) (hn : n ≤ maxLen) (hBw : B ≤ w.heap.size) :
    Calls Tryz.prog 131 #[.slice A n c, .agg #[.int .u8 o.1.toNat, .string o.2]] w (IxQ o l w) := by
  have Hn := Lib.hid hl.1
  obtain ⟨W, hW, HW⟩ := boxO w o
  have Hl := Lib.hid ((hl.below (HW.out.2.1.mono hBw)).more (Nat.le_trans hBw HW.out.2.1.size)); clear hl
  have HB := Lib.hid HW.out.2.1
  have HO := Lib.hid HW.out.1
  unfold maxLen at hn
  clear HW
  go_enter Tryz.func131, Tryz.ntmps131
  go_wp2
  go_loopw [8] (fun i wr => ∃ k : Nat, k ≤ n ∧ i = .int .i64 k ∧ Hid (o ∉ l.take k) ∧ Hid (Below W.heap.size W wr)) (fun i _ => n - (intOf i).toNat)
  case atStart => exact ⟨0, Nat.zero_le _, rfl, by rw [List.take_zero]; exact List.not_mem_nil, Below.refl _ _⟩
  case round =>
    obtain ⟨k, hk, rfl, HT, HR⟩ := hrel
    by_cases hlt : k < n
    · obtain ⟨ad, x, rfl, hB, hx, hS1, hc0, hc1⟩ := (Hl.out.below HR.out).at_ hlt
      have HO1 := Lib.hid (HO.out.callee HR.out)
      have o0 := HO1.out.c0
      have o1 := HO1.out.c1
      have Hx := Lib.hid hx
      have hkl : k < l.length := (List.getElem?_eq_some_iff.1 hx).1
      clear hx
      by_cases he : o = x
      · have hEq := fun w => opt_eq (decide_eq_true he) w
        have hEl := fun w => opt_eql (decide_eq_true he) w
        have HX2 : Hid (l[k]? = some o) := by show _ = _; rw [Hx.out, he]
        have HKL := Lib.hid hkl
        clear he hkl
        go_wp2_with fail
        go_quiet (fail)
        go_wp2
        go_ret
        exact ⟨.inl ⟨k, HKL.out, HX2.out, HT.out, rfl⟩, HB.out.trans ((HR.out.drewN' _).mono HB.out.size)⟩
      · have hEq := fun w => opt_eq (decide_eq_false he) w
        have hEl := fun w => opt_eql (decide_eq_false he) w
        have HT2 : Hid (o ∉ l.take (k + 1)) := by
          show _ ∉ _
          obtain ⟨h1, h2⟩ := List.getElem?_eq_some_iff.1 Hx.out
          rw [List.take_succ_eq_append_getElem h1, h2, List.mem_append, not_or]
          exact ⟨HT.out, by rw [List.mem_singleton]; exact he⟩
        clear he hkl
        go_wp2_with fail
        go_quiet (fail)
        go_wp2
        go_roundw
        case rel => exact ⟨k + 1, by omega, by go_num, HT2, HR.out.drewN' _⟩
        case measure => simp [intOf]; omega
    · obtain rfl : k = n := by omega
      have HF : Hid (o ∉ l) := by
        have h := HT.out
        rw [List.take_of_length_le (by rw [Hn.out]; exact Nat.le_refl _)] at h
        exact h
      go_wp2
      go_ret
      exact ⟨.inr ⟨HF.out, rfl⟩, HB.out.trans (HR.out.mono HB.out.size)⟩
set_option maxHeartbeats 4000000 in
set_option maxRecDepth 100000 in
theorem isPart_any (l r : List Opt) (A A2 : Option Addr) (n n2 c c2 : Nat) (w : World) (hl : Opts w w.heap.size A n l) (hr : Opts w w.heap.size A2 n2 r) (hn : n ≤ maxLen) (hn2 : n2 ≤ 1000) (hc2 : n2 ≤ c2) (hA2 : A2 = none → c2 = 0) :
    Calls Tryz.prog 122 #[.slice A n c, .slice A2 n2 c2] w fun e w' => e = .returned (.bool (part l r)) ∧ Below w.heap.size w w' := by
  have Hn := Lib.hid hl.1
  have HL := Lib.hid hl
  have H0 : Hid (Opts w w.heap.size A2 n2 r ∧ n2 ≤ c2 ∧ (A2 = none → c2 = 0)) := ⟨hr, hc2, hA2⟩
  unfold maxLen at hn
  clear hl hr hc2 hA2
  go_enter Tryz.func122, Tryz.ntmps122
  go_wp2
  go_loopw [1, 10] (fun v i wr => ∃ (k n3 c3 : Nat) (A3 : Option Addr) (r' : List Opt), k ≤ n ∧ i = .int .i64 k ∧ v = .slice A3 n3 c3 ∧ n3 ≤ 1000 ∧ Hid (Opts wr w.heap.size A3 n3 r' ∧ n3 ≤ c3 ∧ (A3 = none → c3 = 0)) ∧ Hid (part (l.drop k) r' = part l r) ∧ Hid (Below w.heap.size w wr)) (fun _ i _ => n - (intOf i).toNat)
  case atStart => exact ⟨0, n2, c2, A2, r, Nat.zero_le _, rfl, rfl, hn2, H0.out, rfl, Below.refl _ _⟩
  case round =>
    obtain ⟨k, n3, c3, A3, r', hk, rfl, rfl, hn3, HO, HT, HR⟩ := hrel
    by_cases hlt : k < n
    · obtain ⟨ad, o, rfl, hB, ho, hS1, hc0, hc1⟩ := (HL.out.below HR.out).at_ hlt
      have hd : l.drop k = o :: l.drop (k + 1) := by obtain ⟨h1, rfl⟩ := List.getElem?_eq_some_iff.1 ho; exact List.drop_eq_getElem_cons h1
      have HD : Hid (part (o :: l.drop (k + 1)) r' = part l r) := by show _ = _; rw [← hd]; exact HT.out
      clear ho hd HT
      have HB1 : Hid (Below w.heap.size w (wr.alloc (.cells #[.int .u8 o.1.toNat, .string o.2] 157))) := HR.out.alloc HR.out.size _
      have HX := Lib.hid (ix_any o r' w.heap.size A3 n3 c3 (wr.alloc (.cells #[.int .u8 o.1.toNat, .string o.2] 157)) (HO.out.1.below ((Below.refl w.heap.size wr).alloc HR.out.size _)) (by unfold maxLen; omega) HB1.out.size)
      go_wp2_with fail
      refine HX.out.mono ?_
      rintro e w1 ⟨⟨j, hj, hjo, hjn, rfl⟩ | ⟨hno, rfl⟩, hb1⟩
      · have HB2 := Lib.hid (HB1.out.trans (hb1.mono HB1.out.size))
        have hjn3 : j < n3 := by rw [← HO.out.1.1]; exact hj
        have HD2 : Hid (part (l.drop (k + 1)) (r'.drop (j + 1)) = part l r) := by
          show _ = _
          rw [← HD.out]
          have e : r' = r'.take j ++ o :: r'.drop (j + 1) := by
            obtain ⟨h1, h2⟩ := List.getElem?_eq_some_iff.1 hjo
            conv => lhs; rw [← List.take_append_drop j r', List.drop_eq_getElem_cons h1, h2]
          conv => rhs; rw [e]
          exact (part_found _ _ hjn).symm
        have HO1 : Hid (Opts w1 w.heap.size A3 n3 r') := HO.out.1.below (((Below.refl w.heap.size wr).alloc HR.out.size _).trans (hb1.mono HB1.out.size))
        have h3 := opts_rest HO1.out HO.out.2.2 (show j + 1 ≤ n3 by omega) HO.out.2.1
        obtain ⟨A4, hA4⟩ : ∃ A4, restA A3 c3 (j + 1) = A4 := ⟨_, rfl⟩
        have hsl : ∀ W, (Instr.slice 76 (.slice A3 n3 c3) (some (.int .i64 ((j : Int) + 1))) none none).run Tryz.prog W = .ok (.slice A4 (n3 - (j + 1)) (c3 - (j + 1))) W := fun W => by
          have := run_rest (P := Tryz.prog) 76 Tryz.underlying76 (fun W => by kernel_rfl) A3 n3 c3 (j + 1) (by omega) HO.out.2.1 W
          rw [hA4] at this
          exact this
        rw [hA4] at h3
        have HO2 : Hid (Opts w1 w.heap.size A4 (n3 - (j + 1)) (r'.drop (j + 1)) ∧ n3 - (j + 1) ≤ c3 - (j + 1) ∧ (A4 = none → c3 - (j + 1) = 0)) := ⟨h3.1, by have := HO.out.2.1; omega, h3.2⟩
        have hj1 : (j : Int) ≤ 1000 := by omega
        have hj0 : (0 : Int) ≤ (j : Int) := Int.natCast_nonneg _
        have hn4 : n3 - (j + 1) ≤ 1000 := by omega
        obtain ⟨n4, hn4e⟩ : ∃ n4, n3 - (j + 1) = n4 := ⟨_, rfl⟩
        obtain ⟨c4, hc4e⟩ : ∃ c4, c3 - (j + 1) = c4 := ⟨_, rfl⟩
        rw [hn4e, hc4e] at hsl HO2
        rw [hn4e] at hn4
        clear hj hjo hjn hb1 h3 hA4 hjn3 hn4e hc4e HO HO1 HX hc0 hc1
        go_wp2
        go_roundw
        case rel => exact ⟨k + 1, n4, c4, A4, r'.drop (j + 1), by omega, by go_num, rfl, hn4, HO2.out, HD2.out, HB2.out⟩
        case measure => simp [intOf]; omega
      · have HB2 := Lib.hid (HB1.out.trans (hb1.mono HB1.out.size))
        have HE : Hid (part l r = false) := by show _ = _; rw [← HD.out]; exact part_none _ hno
        clear hno hb1
        go_wp2
        go_ret
        exact ⟨by rw [HE.out] <;> rfl, HB2.out⟩
    · obtain rfl : k = n := by omega
      have HE : Hid (part l r = true) := by
        show _ = _
        rw [← HT.out, List.drop_of_length_le (by rw [Hn.out]; exact Nat.le_refl _)]
        cases r' <;> rfl
      go_wp2
      go_ret
      exact ⟨by rw [HE.out] <;> rfl, HR.out⟩
end Go.Proofs.YtgefodpnhifmdaaGreat.Ipp

/- Contract of Rejected. -/
namespace Go.Proofs.YtgefodpnhifmdaaGreat.Ipp
open Go.RowKit Go.Proofs.YtgefodpnhifmdaaGreat.Oct Go.Proofs.YtgefodpnhifmdaaGreat.Row Go.Proofs.YtgefodpnhifmdaaGreat.Mem Go.Proofs.YtgefodpnhifmdaaGreat.Opt Go.Proofs.YtgefodpnhifmdaaGreat.Ipc

theorem req_known {p : Po} {o : Opt} (h : o ∈ req p) : known o.1 = true ∧ has o.1 p.w = true := by
  obtain ⟨t, d⟩ := o
  have := mem_put.1 h
  exact ⟨this.1, this.2.1⟩
theorem rjB_nil (p : Po) : rjB p [] = false := rfl
theorem rj_no {p : Po} {l : List Opt} (h : part l (req p) = false) : rjB p l = false ∧ rjP p l = p := by
  have e : rjB p l = false := by unfold rjB; rw [h, Bool.and_false]
  exact ⟨e, by unfold rjP; rw [e]; rfl⟩
theorem rj_yes {p : Po} {l : List Opt} (h : part l (req p) = true) (hl : l ≠ []) : rjB p l = true ∧ rjP p l = l.foldl dropP p := by
  have e : rjB p l = true := by unfold rjB; rw [h, Bool.and_true]; exact decide_eq_true hl
  exact ⟨e, by unfold rjP; rw [e]; rfl⟩
set_option maxHeartbeats 4000000 in
set_option maxRecDepth 100000 in
theorem rejected_any (g : Nat) (p : Po) (l : List Opt) (A : Option Addr) (n c : Nat) (w : World) (h : PAt w g p) (hm : may p.w = true) (hl : Opts w w.heap.size A n l) (hn : n ≤ 1000) :
    Calls Tryz.prog 109 #[.pointer (some ⟨g, 0, none⟩), .slice A n c] w (RepQ (rjB p l) (rjP p l) g w) := by
  have HP := Lib.hid h
  have HL := Lib.hid hl
  have Hn := Lib.hid hl.1
  have HR := Lib.hid (request_room g p w h hm)
  clear h hl hm
  go_enter Tryz.func109, Tryz.ntmps109
  by_cases hn0 : n = 0
  · subst hn0
    have HE : Hid (rjB p l = false ∧ rjP p l = p) := by
      have e := List.length_eq_zero_iff.1 Hn.out
      show _ ∧ _
      rw [e]
      exact ⟨rfl, rfl⟩
    go_wp2
    go_ret
    unfold RepQ
    rw [HE.out.1, HE.out.2]
    exact ⟨rfl, HP.out, Moves.refl _ _⟩
  · have hn1 : ¬ (n : Int) = 0 := by omega
    have HNN : Hid (l ≠ []) := by show _ ≠ _; rintro rfl; exact hn0 (by rw [← Hn.out]; rfl)
    go_wp2_with fail
    refine HR.out.mono ?_
    rintro e w1 ⟨A2, c2, rfl, hO, hb1, hc1, hc2⟩
    have HP1 := Lib.hid (HP.out.callee hb1)
    have HL1 : Hid (Opts w1 w1.heap.size A n l) := HL.out.next hb1
    have HB1 := Lib.hid hb1
    have HI := Lib.hid (isPart_any l (req p) A A2 n (req p).length c c2 w1 HL1.out hO (by unfold maxLen; omega) (by have := put_len p.w; unfold req; omega) hc1 hc2)
    clear HR hO hb1 hc1 hc2
    generalize (req p).length = n2 at *
    cases hp : part l (req p)
    · have HE := Lib.hid (rj_no hp)
      rw [hp] at HI
      clear hp
      go_wp2_with fail
      refine HI.out.mono ?_
      rintro e w2 ⟨rfl, hb2⟩
      have HP2 := Lib.hid (HP1.out.callee hb2)
      have HB2 := Lib.hid (HB1.out.trans (hb2.mono HB1.out.size))
      clear hb2 HI
      go_wp2
      go_ret
      unfold RepQ
      rw [HE.out.1, HE.out.2]
      exact ⟨rfl, HP2.out, Moves.of_below HB2.out⟩
    · have HE := Lib.hid (rj_yes hp HNN.out)
      have HK : Hid (∀ o ∈ l, known o.1 = true) := fun o ho => (req_known (part_mem hp o ho)).1
      rw [hp] at HI
      clear hp
      go_wp2_with fail
      refine HI.out.mono ?_
      rintro e w2 ⟨rfl, hb2⟩
      have HP2 := Lib.hid (HP1.out.callee hb2)
      have HB2 := Lib.hid (HB1.out.trans (hb2.mono HB1.out.size))
      clear hb2 HI
      go_wp2_with fail
      refine (sayings_any w2).mono ?_
      rintro e w3 ⟨m, rfl, hm3, hs3, hb3⟩
      have HP3 := Lib.hid (HP2.out.callee hb3)
      have HS3 := Lib.hid hs3
      have HB3 := Lib.hid (HB2.out.trans (hb3.mono HB2.out.size))
      clear hb3 hs3 HP1 HP2 HB1 HB2 HL1
      go_wp2
      go_loopw [25] (fun i wr => ∃ k : Nat, k ≤ n ∧ i = .int .i64 k ∧ Hid (Sy wr m) ∧ Hid (Jd w wr g ((l.take k).foldl dropP p) A n l)) (fun i _ => n - (intOf i).toNat)
      case atStart => exact ⟨0, Nat.zero_le _, rfl, HS3, ⟨HP3.out, Moves.of_below HB3.out, HL.out.below HB3.out⟩⟩
      case round =>
        obtain ⟨k, hk, rfl, HS, HJ⟩ := hrel
        by_cases hlt : k < n
        · obtain ⟨ad, o, rfl, hB, ho, hS1, hc0, hc1⟩ := HJ.out.ho.at_ hlt
          have hkn : known o.1 = true := HK.out o (List.mem_of_getElem? ho)
          have HT : Hid (∀ g p w, PAt w g p → Calls Tryz.prog (mX o.1) #[.pointer (some ⟨g, 0, none⟩)] w (NkQ (dropP p o) g w)) := fun g p w h => drop_fn hkn g p w h
          have hE := mX_enters hkn
          have HF := Lib.hid (foldl_snoc p l k o ho)
          obtain ⟨V, hV, HV⟩ := boxO wr o
          have HS1 := Lib.hid (HS.out.callee HV.out.2.1)
          have HJ1 := Lib.hid (HJ.out.callee HV.out.2.1)
          have hlk := say_look hkn HS1.out
          unfold trip at hlk
          have o0 := HV.out.1.c0
          clear ho hkn HS
          generalize mB o.1 = F1 at *
          generalize mN o.1 = F2 at *
          generalize mX o.1 = F3 at *
          generalize (l.take k).foldl dropP p = q at *
          have hf2 := fun w => field2 F1 F2 F3 w
          go_wp2_with fail
          refine (HT.out g q _ HJ1.out.hp).mono ?_
          rintro e w4 ⟨rfl, hp4, hm4⟩
          have HJ4 := Lib.hid (HJ1.out.turn hm4 hp4)
          have HS4 : Hid (Sy w4 m) := HS1.out.moves hm4 (fun e => sy_blk HS1.out HJ1.out.hp e)
          rw [← HF.out] at HJ4
          clear hm4 hp4 HT hE hlk hV HV HJ1 HS1 HJ HF o0 hf2 hc0 hc1
          go_wp2
          go_roundw
          case rel => exact ⟨k + 1, by omega, by go_num, HS4, HJ4⟩
          case measure => simp [intOf]; omega
        · obtain rfl : k = n := by omega
          have HF : Hid (Jd w wr g (l.foldl dropP p) A k l) := by
            have h := HJ.out
            rw [List.take_of_length_le (by rw [Hn.out]; exact Nat.le_refl _)] at h
            exact h
          go_wp2
          go_ret
          unfold RepQ
          rw [HE.out.1, HE.out.2]
          exact ⟨rfl, HF.out.hp, HF.out.hm⟩
end Go.Proofs.YtgefodpnhifmdaaGreat.Ipp

/- Contracts of Naked, Acked. -/
namespace Go.Proofs.YtgefodpnhifmdaaGreat.Ipp
open Go.RowKit Go.Proofs.YtgefodpnhifmdaaGreat.Oct Go.Proofs.YtgefodpnhifmdaaGreat.Row Go.Proofs.YtgefodpnhifmdaaGreat.Mem Go.Proofs.YtgefodpnhifmdaaGreat.Opt Go.Proofs.YtgefodpnhifmdaaGreat.Ipc

theorem nk_no {p : Po} {l : List Opt} (h : nkB l = false) : nkP p l = p := by unfold nkP; rw [h]; rfl
def nkS (p : Po) (x : Ipc) (k : Nat) : Po := { p with w := nkW p.c p.w x (mk ((req p).take k)) }
theorem nkS_zero (p : Po) (x : Ipc) : nkS p x 0 = p := by
  unfold nkS nkW
  rw [List.take_zero]
  rfl
theorem nkS_step {p : Po} {x : Ipc} {k : Nat} {o : Opt} (h : (req p)[k]? = some o) (hk : known o.1 = true) : nkS p x (k + 1) = { nkS p x k with w := nkF (nkS p x k).c (nkS p x k).w x o.1 } := by
  unfold nkS
  rw [mk_snoc (req p) k o h]
  have := nkW_step (c := p.c) (w := p.w) (x := x) (m := mk ((req p).take k)) hk
  simp only [this]
theorem nkS_end {p : Po} {l : List Opt} (hn : l ≠ []) (h : Ipc.gE l = 0) : nkP p l = nkS p (Ipc.gL l) (req p).length ∧ nkB l = true := by
  have hb : nkB l = true := by
    unfold nkB
    rw [h]
    simpa using hn
  refine ⟨?_, hb⟩
  unfold nkP nkS
  rw [hb, if_pos rfl, List.take_of_length_le (Nat.le_refl _), nkW_congr (fun t ht => (mk_put ht).symm)]
  rfl
/-- What a round keeps. -/
structure Nj (w wr : World) (g m bx B4 : Nat) (q : Po) (x : Ipc) (r : List Opt) (A : Option Addr) (n : Nat) (l : List Opt) (A4 : Option Addr) (n4 : Nat) : Prop where
  hj : Jd w wr g q A n l
  hs : Sy wr m
  hx : LAt wr bx x
  ho : Opts wr B4 A4 n4 r
  hb : B4 ≤ wr.heap.size
  hne : bx ≠ g
theorem Nj.callee {w wr w' : World} {g m bx B4 : Nat} {q : Po} {x : Ipc} {r : List Opt} {A : Option Addr} {n : Nat} {l : List Opt} {A4 : Option Addr} {n4 : Nat} (h : Nj w wr g m bx B4 q x r A n l A4 n4) (hb : Below wr.heap.size wr w') : Nj w w' g m bx B4 q x r A n l A4 n4 :=
  ⟨h.hj.callee hb, h.hs.callee hb, h.hx.callee hb, h.ho.callee hb h.hb, Nat.le_trans h.hb hb.size, h.hne⟩
theorem Nj.turn {w wr w' : World} {g m bx B4 : Nat} {q q' : Po} {x : Ipc} {r : List Opt} {A : Option Addr} {n : Nat} {l : List Opt} {A4 : Option Addr} {n4 : Nat} (h : Nj w wr g m bx B4 q x r A n l A4 n4) (hm : Moves (fun k => k = g) wr w') (hp : PAt w' g q') : Nj w w' g m bx B4 q' x r A n l A4 n4 :=
  ⟨h.hj.turn hm hp, h.hs.moves hm (fun e => sy_blk h.hs h.hj.hp e), Blk.moves h.hx hm h.hne, opts_past h.ho h.hj.hp (pv_no q) hm h.hb, Nat.le_trans h.hb hm.size, h.hne⟩
set_option maxHeartbeats 8000000 in
set_option maxRecDepth 100000 in
theorem naked_any (g : Nat) (p : Po) (l : List Opt) (A : Option Addr) (n c : Nat) (w : World) (h : PAt w g p) (hm : may p.w = true) (hl : Opts w w.heap.size A n l) (hn : n ≤ 1000) :
    Calls Tryz.prog 157 #[.pointer (some ⟨g, 0, none⟩), .slice A n c] w (RepQ (nkB l) (nkP p l) g w) := by
  have HP := Lib.hid h
  have HL := Lib.hid hl
  have Hn := Lib.hid hl.1
  have HR := Lib.hid (fun W h => request_room g p W h hm)
  have HG := Lib.hid (get_row l A n c w hl (by omega))
  have hlt0 := Lib.hid h.lt
  clear h hl hm
  go_enter Tryz.func157, Tryz.ntmps157
  by_cases hn0 : n = 0
  · subst hn0
    have HE : Hid (nkB l = false ∧ nkP p l = p) := by
      have e := List.length_eq_zero_iff.1 Hn.out
      show _ ∧ _
      rw [e]
      exact ⟨rfl, rfl⟩
    go_wp2
    go_ret
    unfold RepQ
    rw [HE.out.1, HE.out.2]
    exact ⟨rfl, HP.out, Moves.refl _ _⟩
  · have hn1 : ¬ (n : Int) = 0 := by omega
    have HNN : Hid (l ≠ []) := by show _ ≠ _; rintro rfl; exact hn0 (by rw [← Hn.out]; rfl)
    go_wp2_with fail
    refine HG.out.mono ?_
    rintro e w1 ⟨A1, c1, rfl, _, hb1⟩
    have HB1 := Lib.hid hb1
    have HP1 := Lib.hid (HP.out.callee hb1)
    have HGN : Hid (w1.heap.size ≠ g) := Nat.ne_of_gt (Nat.lt_of_lt_of_le hlt0.out hb1.size)
    clear hb1 HG
    generalize (Ipc.gO l).length = n1
    obtain ⟨V, hV, HV⟩ := boxL w1 (Ipc.gL l)
    have HBV := Lib.hid (HB1.out.trans (HV.out.2.1.mono HB1.out.size))
    have HPV := Lib.hid (HP1.out.callee HV.out.2.1)
    have HLV := Lib.hid HV.out.1
    have HSZ := Lib.hid HV.out.2.2
    clear HV HP1 HP HB1
    unfold lv
    cases he : decide (Ipc.gE l = 0)
    · have he' : ¬ Ipc.gE l = 0 := of_decide_eq_false he
      have HE : Hid (nkB l = false) := by
        show _ = _
        unfold nkB
        rw [show (Ipc.gE l == 0) = false by simpa using he', Bool.and_false]
      have he2 : ¬ (Ipc.gE l : Int) = 0 := by omega
      have he3 : ((Ipc.gE l : Int) != 0) = true := by simpa using he2
      clear he he'
      generalize Ipc.gE l = E at *
      go_wp2
      go_ret
      unfold RepQ
      rw [nk_no HE.out, HE.out]
      exact ⟨rfl, HPV.out, Moves.of_below HBV.out⟩
    · have he' : Ipc.gE l = 0 := of_decide_eq_true he
      have HE := Lib.hid (nkS_end (p := p) HNN.out he')
      have he3 : ((Ipc.gE l : Int) != 0) = false := by rw [he']; rfl
      rw [he'] at he3 ⊢
      clear he he'
      have HZ := Lib.hid (nkS_zero p (Ipc.gL l))
      have HST := Lib.hid (fun k o h => @nkS_step p (Ipc.gL l) k o h)
      generalize Ipc.gL l = x at *
      go_wp2_with fail
      refine (sayings_any V).mono ?_
      rintro e w3 ⟨m, rfl, hm3, hs3, hb3⟩
      have HP3 := Lib.hid (HPV.out.callee hb3)
      have HL3 := Lib.hid (HLV.out.callee hb3)
      have HS3 := Lib.hid hs3
      have HB3 := Lib.hid (HBV.out.trans (hb3.mono HBV.out.size))
      clear hb3 hs3 hm3 HPV HLV HBV hV
      go_wp2_with fail
      refine (HR.out _ HP3.out).mono ?_
      rintro e w4 ⟨A4, c4, rfl, hO4, hb4, _, _⟩
      have HP4 := Lib.hid (HP3.out.callee hb4)
      have HL4 := Lib.hid (HL3.out.callee hb4)
      have HS4 := Lib.hid (HS3.out.callee hb4)
      have HB4 := Lib.hid (HB3.out.trans (hb4.mono HB3.out.size))
      have HO4 := Lib.hid hO4
      have HK : Hid (∀ o ∈ req p, known o.1 = true) := fun o ho => (req_known ho).1
      have hlg : (req p).length ≤ 3 := put_len p.w
      clear hb4 hO4 HP3 HL3 HS3 HB3 HR
      obtain ⟨r, hr⟩ : ∃ r, req p = r := ⟨_, rfl⟩
      rw [hr] at HO4 HK hlg HST HE ⊢
      have Hr := Lib.hid HO4.out.1
      clear hr
      generalize r.length = n4 at *
      go_wp2
      go_loopw [30] (fun i wr => ∃ k : Nat, k ≤ n4 ∧ i = .int .i64 k ∧ Hid (Nj w wr g m w1.heap.size w4.heap.size (nkS p x k) x r A n l A4 n4)) (fun i _ => n4 - (intOf i).toNat)
      case atStart => exact ⟨0, Nat.zero_le _, rfl, ⟨⟨by rw [HZ.out]; exact HP4.out, Moves.of_below HB4.out, HL.out.below HB4.out⟩, HS4.out, HL4.out, HO4.out, Nat.le_refl _, HGN.out⟩⟩
      case round =>
        obtain ⟨k, hk, rfl, HJ⟩ := hrel
        by_cases hlt : k < n4
        · obtain ⟨ad, o, rfl, hB, ho, hS1, hc0, hc1⟩ := HJ.out.ho.at_ hlt
          have hkn : known o.1 = true := HK.out o (List.mem_of_getElem? ho)
          have HT : Hid (∀ g p w, PAt w g p → Calls Tryz.prog (mN o.1) #[.pointer (some ⟨g, 0, none⟩), .agg (lv x).toArray] w (NkQ { p with w := nkF p.c p.w x o.1 } g w)) := fun g p w h => naked_fn hkn g p x w h
          have hE := mN_enters hkn
          have HF := Lib.hid (HST.out k o ho hkn)
          obtain ⟨U, hU, HU⟩ := boxO wr o
          have HJ1 := Lib.hid (HJ.out.callee HU.out.2.1)
          have hlk := say_look hkn HJ1.out.hs
          unfold trip at hlk
          have o0 := HU.out.1.c0
          obtain ⟨x0, x1, x2, x3, x4, x5⟩ := cells6 HJ1.out.hx
          clear ho hkn
          generalize mB o.1 = F1 at *
          generalize mN o.1 = F2 at *
          generalize mX o.1 = F3 at *
          generalize nkS p x k = q at *
          have hf1 := fun w => field1 F1 F2 F3 w
          unfold lv at HT
          go_wp2_with fail
          refine (HT.out g q _ HJ1.out.hj.hp).mono ?_
          rintro e w5 ⟨rfl, hp5, hm5⟩
          have HJ5 := Lib.hid (HJ1.out.turn hm5 hp5)
          rw [← HF.out] at HJ5
          clear hm5 hp5 HT hE hlk hU HU HJ1 HJ HF o0 hf1 hc0 hc1 x0 x1 x2 x3 x4 x5
          go_wp2
          go_roundw
          case rel => exact ⟨k + 1, by omega, by go_num, HJ5⟩
          case measure => simp [intOf]; omega
        · obtain rfl : k = n4 := by omega
          go_wp2
          go_ret
          unfold RepQ
          rw [HE.out.1, HE.out.2]
          exact ⟨rfl, HJ.out.hj.hp, HJ.out.hj.hm⟩
set_option maxHeartbeats 4000000 in
set_option maxRecDepth 100000 in
theorem acked_any (g : Nat) (p : Po) (l : List Opt) (A : Option Addr) (n c : Nat) (w : World) (h : PAt w g p) (hm : may p.w = true) (hl : Opts w w.heap.size A n l) (hn : n ≤ 1000) :
    Calls Tryz.prog 107 #[.pointer (some ⟨g, 0, none⟩), .slice A n c] w (RepQ (akB p l) (akP p l) g w) := by
  have HP := Lib.hid h
  have HL := Lib.hid hl
  have HR := Lib.hid (request_room g p w h hm)
  have hlg : (req p).length ≤ 3 := put_len p.w
  clear h hl hm
  go_enter Tryz.func107, Tryz.ntmps107
  go_wp2_with fail
  refine HR.out.mono ?_
  rintro e w1 ⟨A2, c2, rfl, hO, hb1, _, _⟩
  have HP1 := Lib.hid (HP.out.callee hb1)
  have HB1 := Lib.hid hb1
  have HA := Lib.hid (alike_any l (req p) _ A A2 n (req p).length c c2 w1 (HL.out.next hb1) hO (by unfold maxLen; omega) (by unfold maxLen; omega) (Nat.le_refl _))
  have HE : Hid (akB p l = sm l (req p)) := rfl
  clear HR hO hb1
  cases hs : sm l (req p)
  · have HE2 : Hid (akB p l = false ∧ akP p l = p) := by
      have e : akB p l = false := by rw [HE.out, hs]
      exact ⟨e, by unfold akP; rw [e]; rfl⟩
    rw [hs] at HA
    clear hs HE
    go_wp2_with fail
    refine HA.out.mono ?_
    rintro e w2 ⟨rfl, hb2⟩
    have HP2 := Lib.hid (HP1.out.callee hb2)
    have HB2 := Lib.hid (HB1.out.trans (hb2.mono HB1.out.size))
    clear hb2 HA
    go_wp2
    go_ret
    unfold RepQ
    rw [HE2.out.1, HE2.out.2]
    exact ⟨rfl, HP2.out, Moves.of_below HB2.out⟩
  · have HE2 : Hid (akB p l = true ∧ akP p l = { p with mine := p.w }) := by
      have e : akB p l = true := by rw [HE.out, hs]
      exact ⟨e, by unfold akP; rw [e]; rfl⟩
    rw [hs] at HA
    clear hs HE
    go_wp2_with fail
    refine HA.out.mono ?_
    rintro e w2 ⟨rfl, hb2⟩
    have HP2 := Lib.hid (HP1.out.callee hb2)
    have HB2 := Lib.hid (HB1.out.trans (hb2.mono HB1.out.size))
    clear hb2 HA
    go_wp2_with fail
    refine (wish_any g p w2 HP2.out).mono ?_
    rintro e w3 ⟨rfl, hb3⟩
    have HP3 := Lib.hid (HP2.out.callee hb3)
    have HB3 := Lib.hid (HB2.out.trans (hb3.mono HB2.out.size))
    clear hb3
    have p12 : w3.cell? ⟨g, 12, none⟩ = some (Value.bool p.mine.ha) := HP3.out.c 12
    have q12 := HP3.out.f 12
    have p13 : w3.cell? ⟨g, 13, none⟩ = some (.int .u32 p.mine.addr.toNat) := HP3.out.c 13
    have q13 := HP3.out.f 13
    have p14 : w3.cell? ⟨g, 14, none⟩ = some (.bool p.mine.h1) := HP3.out.c 14
    have q14 := HP3.out.f 14
    have p15 : w3.cell? ⟨g, 15, none⟩ = some (.int .u32 p.mine.dns1.toNat) := HP3.out.c 15
    have q15 := HP3.out.f 15
    have p16 : w3.cell? ⟨g, 16, none⟩ = some (.bool p.mine.h2) := HP3.out.c 16
    have q16 := HP3.out.f 16
    have p17 : w3.cell? ⟨g, 17, none⟩ = some (.int .u32 p.mine.dns2.toNat) := HP3.out.c 17
    have q17 := HP3.out.f 17
    obtain ⟨V, hV⟩ : ∃ V, w3.setCells g 12 (lv p.w) = V := ⟨_, rfl⟩
    have HPV : Hid (PAt V g { p with mine := p.w }) := by show PAt _ _ _; rw [← hV]; exact HP3.out.setMine p.w
    have HMV : Hid (Moves (fun k => k = g) w V) := by show Moves _ _ _; rw [← hV]; exact (Moves.of_below HB3.out).trans (sets_moves _ _ _ _) (fun _ _ h => h)
    simp only [World.setCells, lv] at hV
    unfold lv
    go_wp2
    go_ret
    unfold RepQ
    rw [HE2.out.1, HE2.out.2]
    exact ⟨rfl, HPV.out, HMV.out⟩
end Go.Proofs.YtgefodpnhifmdaaGreat.Ipp
