/- What is done behind a sender: a request that is due, a packet of each code; which that is; whether a number is the own one. -/
import Derived.Test.YtimndcfhilcgfaaEchC
import Derived.Test.YtimndcfhilcgfaaCut
namespace Go.Proofs.Ytimndcfhilcgfaa.Ech
open Go.RowKit Go.Proofs.Ytimndcfhilcgfaa.Oct Go.Proofs.Ytimndcfhilcgfaa.Row Go.Proofs.Ytimndcfhilcgfaa.Mem

theorem blk_ne {w : World} {a b : Nat} {cs cs' : List Value} {t t' : TypeId} (h : Blk w a cs t) (h' : Blk w b cs' t') (ht : t ≠ t') : a ≠ b := by
  intro e
  subst e
  have := h.symm.trans h'
  simp at this
  exact ht this.2
/-- The closure's value. -/
def sV (ob eb : Nat) : Value := .func (.func 28) #[] #[ptr ob, ptr eb]
def DoQ (g ob : Nat) (x' : Ec) (l : List Pk) (E : Nat) (w : World) (e : Ending) (w' : World) : Prop :=
  e = .returned (.int .i64 E) ∧ (∃ A c, Out w' ob A l c ∧ RowP w' w.heap.size A c l) ∧ EAt w' g x' ∧ Moves (fun k => k = g ∨ k = ob) w w'
theorem doq_none {g ob : Nat} {x' : Ec} {E : Nat} {w w' : World} (ho : Out w' ob none [] 0) (h : EAt w' g x') (hm : Moves (fun k => k = g ∨ k = ob) w w') : DoQ g ob x' [] E w (.returned (.int .i64 E)) w' :=
  ⟨rfl, ⟨none, 0, ho, World.ownsRow_nil _ _ _ _⟩, h, hm⟩
theorem last_next (n : Nat) : IntKind.u8.wrap (((n % 256 : Nat) : Int) + 1) = (((n + 1) % 256 : Nat) : Int) := by
  rw [IntKind.wrap_u8]
  omega
theorem u8_mod (n : Nat) : ((UInt8.ofNat (n % 256)).toNat : Int) = ((n % 256 : Nat) : Int) := by
  rw [UInt8.toNat_ofNat']
  omega
/-- One more was sent. -/
theorem EAt.asked {w : World} {g : Nat} {x : Ec} (h : EAt w g x) (t : Int) : EAt ((((w.setCell ⟨g, 5, none⟩ (.bool true)).setCell ⟨g, 6, none⟩ (.int .u8 (((x.n : Int) + 1) % 256))).setCell ⟨g, 7, none⟩ (.int .i64 ((x.mi : Int) + 1))).setCell ⟨g, 2, none⟩ (.int .i64 t)) g { x with n := x.n + 1, mi := x.mi + 1, si := t } := by
  have k := (((Blk.set h 5 (.bool true)).set 6 (.int .u8 (((x.n : Int) + 1) % 256))).set 7 (.int .i64 ((x.mi : Int) + 1))).set 2 (.int .i64 t)
  have e : ((((pv x).set 5 (.bool true)).set 6 (.int .u8 (((x.n : Int) + 1) % 256))).set 7 (.int .i64 ((x.mi : Int) + 1))).set 2 (.int .i64 t) = pv { x with n := x.n + 1, mi := x.mi + 1, si := t } := by
    simp [pv]
  rw [e] at k
  exact k
theorem asked_moves (w : World) (g : Nat) (a b c d : Value) : Moves (fun k => k = g) w ((((w.setCell ⟨g, 5, none⟩ a).setCell ⟨g, 6, none⟩ b).setCell ⟨g, 7, none⟩ c).setCell ⟨g, 2, none⟩ d) :=
  (((set1_moves w g 5 a).trans (set1_moves _ g 6 b) fun _ _ e => e).trans (set1_moves _ g 7 c) fun _ _ e => e).trans (set1_moves _ g 2 d) fun _ _ e => e
set_option maxHeartbeats 4000000 in
set_option maxRecDepth 100000 in
theorem ask_any (g ob eb : Nat) (x : Ec) (w : World) (h : EAt w g x) (hi : Inv x) (ho : Out w ob none [] 0) (he : Eb w eb g) :
    Calls Try.prog 22 #[ptr g, sV ob eb] w (DoQ g ob (ask x x.now) (askL x x.now) 0 w) := by
  have HN := Lib.hid (fun w (h : EAt w g x) => next_any g x w h hi)
  have H := Lib.hid h
  have HO := Lib.hid ho
  have HE := Lib.hid he
  have HI := Lib.hid hi
  have n1 : ob ≠ g := blk_ne ho h (by decide)
  have n2 : eb ≠ g := blk_ne he h (by decide)
  have c1 : w.cell? ⟨g, 1, none⟩ = some (.int .i64 x.now) := h.c 1
  have c3 : w.cell? ⟨g, 3, none⟩ = some (.int .i64 x.mo) := h.c 3
  have c6 : w.cell? ⟨g, 6, none⟩ = some (.int .u8 (x.n % 256 : Nat)) := h.c 6
  have c7 : w.cell? ⟨g, 7, none⟩ = some (.int .i64 x.mi) := h.c 7
  clear h ho he
  unfold ask askL dueB
  cases hb : isB x
  · rw [hb] at HN
    clear hi
    unfold sV ptr
    go_enter Try.func22, Try.ntmps22
    go_wp2_with fail
    refine (HN.out _ H.out).mono ?_
    rintro e w1 ⟨rfl, k, rfl⟩
    go_wp2
    go_ret
    exact doq_none HO.out H.out ((Moves.refl _ w).drewN k)
  · have ha : atV x = x.si + x.ev := by unfold atV; rw [hb]; rfl
    rw [hb, ha] at HN
    simp only [Bool.true_and]
    by_cases hd : x.si + x.ev ≤ x.now
    · rw [show decide (x.si + x.ev ≤ x.now) = true from decide_eq_true hd]
      have hlt : decide (x.now < x.si + x.ev) = false := decide_eq_false (by omega)
      by_cases hm : x.mi = x.mo
      · have hmm : ((x.mi : Int) == (x.mo : Int)) = true := by rw [hm]; simp
        rw [if_pos rfl, if_pos hm, show decide (x.mi = x.mo) = true from decide_eq_true hm]
        clear hi hd hm ha hb
        generalize x.si + x.ev = A at *
        unfold sV ptr
        go_enter Try.func22, Try.ntmps22
        go_wp2_with fail
        refine (HN.out _ H.out).mono ?_
        rintro e w1 ⟨rfl, k, rfl⟩
        have f8 : w.frozen? ⟨g, 8, none⟩ = false := H.out.f 8
        have c8 : w.cell? ⟨g, 8, none⟩ = some (.bool x.de) := H.out.c 8
        go_wp2
        go_quiet (fail)
        go_wp2
        go_ret
        exact doq_none (Blk.moves HO.out (S := fun j => j = g) (set1_moves (w.drewN (k + nq)) g 8 (.bool true)).undrewN n1) ((EAt.drewN H.out (k + nq)).setDe true) (((Moves.refl (fun j => j = g ∨ j = ob) w).drewN (k + nq)).setCell ⟨g, 8, none⟩ (fun _ => .inl rfl) _)
      · have hmm : ((x.mi : Int) == (x.mo : Int)) = false := by rw [beq_eq_false_iff_ne]; omega
        have hmo := hi.mi
        have hm2 := hi.mo2
        have hm3 : (x.mi : Int) ≤ 20 := by omega
        have hm4 : (0 : Int) ≤ (x.mi : Int) := Int.natCast_nonneg _
        rw [if_pos rfl, if_neg hm, show decide (x.mi = x.mo) = false from decide_eq_false hm]
        have HS : Hid (∀ W, EAt W g { x with n := x.n + 1, mi := x.mi + 1, si := x.now } → Out W ob none [] 0 → Eb W eb g → Calls Try.prog 28 #[.int .u8 9, .int .u8 (((x.n : Int) + 1) % 256), .string ⟨#[]⟩, .pointer (some ⟨ob, 0, none⟩), .pointer (some ⟨eb, 0, none⟩)] W (SendQ ob ⟨9, UInt8.ofNat ((x.n + 1) % 256), own x⟩ W)) := fun W h1 h2 h3 => by
          have h := send_any g ob eb _ 9 (UInt8.ofNat ((x.n + 1) % 256)) ⟨#[]⟩ W h1 hi.mg h2 h3 (by decide)
          rw [u8_mod, show own { x with n := x.n + 1, mi := x.mi + 1, si := x.now } ++ (⟨#[]⟩ : ByteArray) = own x from by rw [append_bOf, show (⟨#[]⟩ : ByteArray).toList = [] from toList_bOf [], List.append_nil, bOf_toList]; rfl] at h
          exact h
        clear hi hd hm ha hb hmo hm2
        generalize x.si + x.ev = A at *
        have c2 : w.cell? ⟨g, 2, none⟩ = some (.int .i64 x.si) := H.out.c 2
        have c5 : w.cell? ⟨g, 5, none⟩ = some (.bool (decide (0 < x.n))) := H.out.c 5
        have f2 : w.frozen? ⟨g, 2, none⟩ = false := H.out.f 2
        have f5 : w.frozen? ⟨g, 5, none⟩ = false := H.out.f 5
        have f6 : w.frozen? ⟨g, 6, none⟩ = false := H.out.f 6
        have f7 : w.frozen? ⟨g, 7, none⟩ = false := H.out.f 7
        unfold sV ptr
        go_enter Try.func22, Try.ntmps22
        go_wp2_with fail
        refine (HN.out _ H.out).mono ?_
        rintro e w1 ⟨rfl, k, rfl⟩
        go_wp2
        go_quiet (fail)
        go_wp2_with fail
        have hM := asked_moves (w.drewN (k + nq)) g (.bool true) (.int .u8 (((x.n : Int) + 1) % 256)) (.int .i64 ((x.mi : Int) + 1)) (.int .i64 x.now)
        refine (HS.out _ (EAt.asked (EAt.drewN H.out (k + nq)) x.now) (Blk.moves (S := fun j => j = g) HO.out hM.undrewN n1) (Blk.moves (S := fun j => j = g) HE.out hM.undrewN n2)).mono ?_
        rintro e w2 ⟨rfl, A2, k2, ho2, hr2, hm2⟩
        have H2 := Lib.hid ((EAt.asked (EAt.drewN H.out (k + nq)) x.now).moves hm2 (fun e => n1 e.symm))
        have HO2 := Lib.hid ho2
        have HR2 := Lib.hid (own_mono hr2 hM.size)
        have HM2 := Lib.hid ((hM.mono (T := fun j => j = g ∨ j = ob) fun _ _ e => .inl e).trans hm2 (fun _ _ e => .inr e))
        clear ho2 hr2 hm2 hM HS
        go_wp2
        go_ret
        exact ⟨rfl, ⟨A2, k2, HO2.out, HR2.out⟩, H2.out, HM2.out.undrewN⟩
    · rw [show decide (x.si + x.ev ≤ x.now) = false from decide_eq_false hd]
      have hlt : decide (x.now < x.si + x.ev) = true := decide_eq_true (by omega)
      clear hi hd ha hb
      generalize x.si + x.ev = A at *
      unfold sV ptr
      go_enter Try.func22, Try.ntmps22
      go_wp2_with fail
      refine (HN.out _ H.out).mono ?_
      rintro e w1 ⟨rfl, k, rfl⟩
      go_wp2
      go_ret
      exact doq_none HO.out H.out ((Moves.refl _ w).drewN k)
end Go.Proofs.Ytimndcfhilcgfaa.Ech
