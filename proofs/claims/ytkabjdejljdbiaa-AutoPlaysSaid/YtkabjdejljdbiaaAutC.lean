/- How an event occurs. -/
import Derived.Test.YtkabjdejljdbiaaAutB
import Derived.Laws.EntriesVeiled
namespace Go.Proofs.Ytkabjdejljdbiaa.Aut
open Go.RowKit Go.Proofs.Ytkabjdejljdbiaa.Oct Go.Proofs.Ytkabjdejljdbiaa.Row Go.Proofs.Ytkabjdejljdbiaa.Mem Go.Proofs.Ytkabjdejljdbiaa.Fsm

/-- What stands behind the first actions of a set. -/
def Occ (w wr : World) (g base m : Nat) (v : Value) (L : List Nat) (y : Au) : Prop :=
  wr.ownsRow base 28 1 v L.length (numsV L) ∧ Mp wr m ∧ Aut wr g y ∧ Moves (fun k => k = g) w wr
theorem Occ.moves {w wr w' : World} {g base m : Nat} {v : Value} {L : List Nat} {y y' : Au} (h : Occ w wr g base m v L y) (hm : Moves (fun k => k = g) wr w') (ha : Aut w' g y') (hb : g < base) (hg : g < m) : Occ w w' g base m v L y' :=
  ⟨hm.row h.1 (fun k hk e => by have := (h.1.lt k hk).1; omega), h.2.1.moves hm (by omega), ha, h.2.2.2.trans hm fun _ _ e => e⟩
/-- A round's effect in a variable's block. -/
theorem boxE (W : World) (v : Value) : ∃ V V2, W.alloc (.cells #[.nilFunc] 68) = V ∧ V.setCell ⟨W.heap.size, 0, none⟩ v = V2 ∧ V.cell? ⟨W.heap.size, 0, none⟩ = some .nilFunc ∧ V.frozen? ⟨W.heap.size, 0, none⟩ = false ∧ Hid (Blk V2 W.heap.size [v] 68 ∧ Below W.heap.size W V2) := by
  have h := blk_new W [.nilFunc] 68
  exact ⟨_, _, rfl, rfl, h.at_ 0, h.frozen 0, h.set 0 v, ((Below.refl W.heap.size W).alloc (Nat.le_refl _) _).setCell (p := ⟨W.heap.size, 0, none⟩) (Nat.le_refl _) _⟩
theorem eff_none {a : Nat} (h : kn a = false) (set : Nat) (x : Au) : eff set a x = x := eff_other set a x h
theorem actsL_take {L : List Nat} {j : Nat} (h : j < L.length) (set : Nat) (x : Au) : actsL set (L.take (j + 1)) x = eff set L[j] (actsL set (L.take j) x) := by
  rw [List.take_succ_eq_append_getElem h, actsL_snoc]
theorem setS_moves {w wr : World} {g : Nat} (h : Moves (fun k => k = g) w wr) (i : Nat) (v : Value) : Moves (fun k => k = g) w (wr.setCell ⟨g, i, none⟩ v) := h.setCell ⟨g, i, none⟩ (fun _ => rfl) v

def OccQ (x : Au) (e g : Nat) (w : World) (o : Ending) (w' : World) : Prop := o = .returned (.tuple #[.int .u16 (nA x.s e), .int .i64 (nE x.s e)]) ∧ Aut w' g (come x e) ∧ Moves (fun k => k = g) w w'
set_option maxHeartbeats 4000000 in
set_option maxRecDepth 100000 in
theorem occur_any (x : Au) (g e : Nat) (w : World) (h : Aut w g x) (hi : Inv x) : Calls Try.prog 21 #[.pointer (some ⟨g, 0, none⟩), .int .u8 e] w (OccQ x e g w) := by
  have HN : Hid (∀ w, Calls Try.prog 20 #[.int .u8 x.s, .int .u8 e] w fun o w' => o = .returned (.tuple #[.int .u16 (nA x.s e), .int .u8 (nN x.s e), .int .i64 (nE x.s e)]) ∧ Below w.heap.size w w') := fun w => next_any x.s e w
  have c3 : w.cell? ⟨g, 3, none⟩ = some (.int .u8 x.s) := h.c 3
  have H := Lib.hid h
  have HI := Lib.hid hi
  unfold OccQ
  by_cases h0 : nE x.s e = 0
  · obtain ⟨hn, ha, _⟩ := tab_spec hi.s h0
    have HC : Hid (come x e = fin (nN x.s e) (acts (nA x.s e) x)) := if_pos h0
    have HA := Lib.hid ha
    have HL := Lib.hid (bitsTo_length (nA x.s e) 13)
    rw [h0] at HN ⊢
    rw [HC.out]
    unfold acts
    clear h hi h0 ha hn HC
    generalize nA x.s e = A at *
    generalize nN x.s e = N at *
    have HT := Lib.hid (fun w => timed_any N w)
    have HF : Hid (∀ y : Au, fin N y = { y with s := N, l := if timed N then y.l else 0 }) := fun _ => rfl
    have HX := Lib.hid (fun w => actions_any A w HA.out)
    generalize bitsTo A 13 = L at *
    have HZ : Hid (∀ j, (actsL A (L.take j) x).c ≤ 20) := fun j => by
      have := (actsL_bounds A (L.take j) x HI.out.c HI.out.l).1
      have := HI.out.m2
      have := HI.out.t2
      omega
    have HS : Hid (∀ j (hj : j < L.length), actsL A (L.take (j + 1)) x = eff A L[j] (actsL A (L.take j) x)) := fun j hj => actsL_take hj A x
    have H0 : Hid (actsL A (L.take 0) x = x) := rfl
    have hlen := HL.out
    go_enter Try.func21, Try.ntmps21
    go_wp2_with fail
    refine (HN.out _).mono ?_
    rintro o w1 ⟨rfl, hb1⟩
    have H1 := Lib.hid (H.out.callee hb1)
    have M1 : Hid (Moves (fun k => k = g) w w1) := Moves.of_below hb1
    clear c3 hb1 HN
    go_wp2_with fail
    refine (effects_any _).mono ?_
    rintro o w2 ⟨m, rfl, hm, hge, hb2⟩
    have hgm : Hid (g < m) := Nat.lt_of_lt_of_le H1.out.lt hge
    have H2 := Lib.hid (H1.out.callee hb2)
    have M2 := Lib.hid (M1.out.trans (Moves.of_below (S := fun k => k = g) hb2) fun _ _ e => e)
    have HM2 := Lib.hid hm
    clear hm hge hb2
    go_wp2_with fail
    refine (HX.out _).mono ?_
    rintro o w3 ⟨v, rfl, hown, hb3⟩
    obtain ⟨R, cc, hv, _⟩ := nums_at hown
    subst hv
    have hgb : Hid (g < w2.heap.size) := H2.out.lt
    have HO : Hid (Occ w w3 g w2.heap.size m (.slice R L.length cc) L x) := ⟨hown, HM2.out.callee hb3, H2.out.callee hb3, M2.out.trans (Moves.of_below hb3) fun _ _ e => e⟩
    clear hown hb3 HM2 H2 M2 H1 M1 HX
    generalize w2.heap.size = base at *
    go_wp2_with fail
    go_loopw [30] (fun i wr => ∃ j : Nat, j ≤ L.length ∧ i = .int .i64 j ∧ Hid (Occ w wr g base m (.slice R L.length cc) L (actsL A (L.take j) x))) (fun i _ => L.length - (intOf i).toNat)
    case atStart => exact ⟨0, Nat.zero_le _, rfl, by rw [H0.out]; exact HO⟩
    case round =>
      obtain ⟨j, hj, rfl, HF⟩ := hrel
      by_cases hlt : j < L.length
      · obtain ⟨R', c', hv', hcs⟩ := nums_at HF.out.1
        simp only [Value.slice.injEq, true_and] at hv'
        obtain ⟨rfl, rfl⟩ := hv'
        obtain ⟨q, rfl, hq⟩ := hcs j L[j] (List.getElem?_eq_getElem hlt)
        clear hcs
        have HS1 := Lib.hid (HS.out j hlt)
        have HZ1 := Lib.hid (HZ.out j)
        generalize L[j] = a at *
        obtain ⟨y', hy'⟩ : ∃ y', y' = actsL A (L.take (j + 1)) x := ⟨_, rfl⟩
        rw [← hy'] at HS1
        have HY' := Lib.hid hy'
        clear hy'
        generalize actsL A (L.take j) x = y at *
        cases hk : kn a
        · have hl := look_no hk HF.out.2.1
          obtain ⟨V0, V, hV0, hV, z0, g0, HV⟩ := boxE wr .nilFunc
          have HO2 : Hid (Occ w V g base m (.slice (some ⟨q, 0, none⟩) L.length cc) L y') := by
            rw [HS1.out, eff_none hk]
            exact HF.out.moves (Moves.of_below HV.out.2) (HF.out.2.2.1.callee HV.out.2) hgb.out hgm.out
          clear hk HF HS1 HZ1 HV HO
          go_wp2
          go_roundw
          case rel => exact ⟨j + 1, by omega, by go_num, by rw [← HY'.out]; exact HO2⟩
          case measure => simp [intOf]; omega
        · have hl := look_yes hk HF.out.2.1
          have HR := Lib.hid (fun w h => eff_any hk g A y w h HA.out HZ1.out)
          have hR := eff_enters hk
          simp only [doV] at hl
          generalize fn a = F at *
          obtain ⟨V0, V, hV0, hV, z0, g0, HV⟩ := boxE wr (.func (.func F) #[] #[])
          have HO2 : Hid (Occ w V g base m (.slice (some ⟨q, 0, none⟩) L.length cc) L y) := HF.out.moves (Moves.of_below HV.out.2) (HF.out.2.2.1.callee HV.out.2) hgb.out hgm.out
          have m0 : V.cell? ⟨wr.heap.size, 0, none⟩ = some (.func (.func F) #[] #[]) := Blk.at_ HV.out.1 0
          clear hk HF HV HO HZ1
          go_wp2_with fail
          refine (HR.out _ HO2.out.2.2.1).mono ?_
          rintro o w6 ⟨rfl, ha6, hm6⟩
          have HO3 : Hid (Occ w w6 g base m (.slice (some ⟨q, 0, none⟩) L.length cc) L y') := by
            rw [HS1.out]
            exact HO2.out.moves hm6 ha6 hgb.out hgm.out
          clear ha6 hm6 hV hV0 z0 g0 m0 HO2 hR HR hl hq HS1
          go_wp2
          go_roundw
          case rel => exact ⟨j + 1, by omega, by go_num, by rw [← HY'.out]; exact HO3⟩
          case measure => simp [intOf]; omega
      · obtain rfl : j = L.length := by omega
        have hgo := HF.out
        rw [List.take_length] at hgo
        have H4 := Lib.hid hgo.2.2.1
        have M4 := Lib.hid hgo.2.2.2
        have f3 := H4.out.f 3
        clear hgo HF HO hj hlt HZ HS H0
        obtain ⟨y, hy⟩ : ∃ y, y = actsL A L x := ⟨_, rfl⟩
        rw [← hy] at H4
        have c3 : wr.cell? ⟨g, 3, none⟩ = some (.int .u8 y.s) := H4.out.c 3
        have HY := Lib.hid hy
        clear hy
        go_wp2_with fail
        refine (HT.out _).mono ?_
        rintro o w5 ⟨rfl, e5⟩
        have H5 := Lib.hid (H4.out.setS N)
        have M5 := Lib.hid (setS_moves M4.out 3 (.int .u8 N))
        rw [e5] at H5 M5
        clear e5 c3 f3 H4 M4
        have c5 : w5.cell? ⟨g, 5, none⟩ = some (.int .i64 y.l) := H5.out.c 5
        have f5 := H5.out.f 5
        cases ht : timed N
        · rw [ht] at HT
          go_wp2
          go_ret2
          refine ⟨rfl, ?_, setS_moves M5.out 5 _⟩
          unfold fin
          rw [ht, ← HY.out]
          exact H5.out.setL 0
        · go_wp2
          go_ret2
          refine ⟨rfl, ?_, M5.out⟩
          unfold fin
          rw [ht, ← HY.out]
          exact H5.out
  · have HC : Hid (come x e = x) := if_neg h0
    have HA : Hid (nA x.s e = 0) := nA_no hi.s h0
    rw [HC.out, HA.out]
    rw [HA.out] at HN
    have hE : (((nE x.s e : Nat) : Int) != 0) = true := by rw [bne_iff_ne]; omega
    clear h0 h hi HC HA
    generalize nE x.s e = E at *
    generalize nN x.s e = N at *
    go_enter Try.func21, Try.ntmps21
    go_wp2_with fail
    refine (HN.out _).mono ?_
    rintro o w1 ⟨rfl, hb1⟩
    have H1 := Lib.hid (H.out.callee hb1)
    have M1 : Hid (Moves (fun k => k = g) w w1) := Moves.of_below hb1
    clear c3 hb1 HN
    go_wp2
    go_ret2
    exact ⟨rfl, H1.out, M1.out⟩
end Go.Proofs.Ytkabjdejljdbiaa.Aut
