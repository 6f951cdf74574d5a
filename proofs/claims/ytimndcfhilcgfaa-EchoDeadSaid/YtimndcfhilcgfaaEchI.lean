/- What a tick, a packet comes to, case by case; the echo of a law's own call; the document's Same; the laws' example. -/
import Derived.Test.YtimndcfhilcgfaaEchH
import Derived.Test.YtimndcfhilcgfaaPktEq
namespace Go.Proofs.Ytimndcfhilcgfaa.Ech
open Go.RowKit Go.Proofs.Ytimndcfhilcgfaa.Oct Go.Proofs.Ytimndcfhilcgfaa.Row Go.Proofs.Ytimndcfhilcgfaa.Mem

/-! ### mathematics -/
theorem tE_zero {x : Ec} {t : Int} (h1 : x.now ≤ t) (h2 : t ≤ mx) : tE x t = 0 := by
  unfold tE
  rw [if_neg]
  rintro (h | h)
  · omega
  · exact absurd h (Int.not_lt.2 h2)
theorem tk_early {x : Ec} {t : Int} (h1 : x.now ≤ t) (h2 : t ≤ mx) (h3 : dueB x t = false) : tE x t = 0 ∧ tk x t = { x with now := t } ∧ tL x t = [] := by
  have e := tE_zero h1 h2
  refine ⟨e, ?_, ?_⟩
  · unfold tk ask
    rw [if_pos e, h3]
    rfl
  · unfold tL askL
    rw [if_pos e, h3]
    rfl
theorem tk_due {x : Ec} {t : Int} (h1 : x.now ≤ t) (h2 : t ≤ mx) (h3 : dueB x t = true) (h4 : x.mi ≠ x.mo) : tE x t = 0 ∧ tk x t = { x with now := t, n := x.n + 1, mi := x.mi + 1, si := t } ∧ tL x t = [⟨9, UInt8.ofNat ((x.n + 1) % 256), own x⟩] := by
  have e := tE_zero h1 h2
  refine ⟨e, ?_, ?_⟩
  · unfold tk ask
    rw [if_pos e, if_pos h3, if_neg h4]
  · unfold tL askL
    rw [if_pos e, h3, decide_eq_false h4]
    rfl
theorem tk_dead {x : Ec} {t : Int} (h1 : x.now ≤ t) (h2 : t ≤ mx) (h3 : dueB x t = true) (h4 : x.mi = x.mo) : tE x t = 0 ∧ tk x t = { x with now := t, de := true } ∧ tL x t = [] := by
  have e := tE_zero h1 h2
  refine ⟨e, ?_, ?_⟩
  · unfold tk ask
    rw [if_pos e, if_pos h3, if_pos h4]
  · unfold tL askL
    rw [if_pos e, h3, decide_eq_true h4]
    rfl
theorem due_yes {x : Ec} {t : Int} (h0 : x.ev ≠ 0) (h1 : x.de = false) (h2 : x.si + x.ev ≤ t) : dueB x t = true := by
  unfold dueB isB
  rw [decide_eq_false h0, h1, decide_eq_true h2]
  rfl
theorem due_no {x : Ec} {t : Int} (h : x.de = true ∨ t < x.si + x.ev) : dueB x t = false := by
  unfold dueB isB
  rcases h with h | h
  · rw [h]
    simp
  · rw [decide_eq_false (Int.not_le.2 h), Bool.and_false]
theorem own_list (x : Ec) : (own x).toList = numS x.mg 4 := toList_bOf _
theorem own_take (x : Ec) (s : ByteArray) : bOf ((own x ++ s).toList.take 4) = own x := by
  rw [append_bOf, toList_bOf, own_list, List.take_append_of_le_length (by rw [numS_length]; exact Nat.le_refl 4), List.take_of_length_le (by rw [numS_length]; exact Nat.le_refl 4)]
  rfl
theorem own_same {x y : Ec} (hx : x.mg < 4294967296) (hy : y.mg < 4294967296) : ((own x).toList == (own y).toList) = decide (x.mg = y.mg) := by
  rw [Bool.eq_iff_iff, beq_iff_eq, decide_eq_true_eq, own_list, own_list]
  constructor
  · intro h
    have h2 := congrArg val h
    rw [val_numS, val_numS, Nat.mod_eq_of_lt (by exact hx), Nat.mod_eq_of_lt (by exact hy)] at h2
    exact h2
  · intro h
    rw [h]
theorem loop_own {x y : Ec} (hx : x.mg < 4294967296) (hy : y.mg < 4294967296) (s : ByteArray) : loopB x (own y ++ s) = (!decide (x.mg = 0) && decide (y.mg = x.mg)) := by
  unfold loopB
  rw [own_take, own_same hy hx]
theorem own_nil (x : Ec) : own x ++ bOf [] = own x := by rw [append_bOf, toList_bOf, List.append_nil, bOf_toList]
theorem loop_own' {x y : Ec} (hx : x.mg < 4294967296) (hy : y.mg < 4294967296) : loopB x (own y) = (!decide (x.mg = 0) && decide (y.mg = x.mg)) := by
  have h := loop_own hx hy (bOf [])
  rw [own_nil] at h
  exact h
/-- The peer's request, and its answer. -/
theorem gt_request {x : Ec} (i : UInt8) (d : ByteArray) (hd : 4 ≤ d.size) (hl : loopB x d = false) : pE x ⟨9, i, d⟩ = 0 ∧ gt x ⟨9, i, d⟩ = x ∧ pL x ⟨9, i, d⟩ = [⟨10, i, own x ++ bOf (d.toList.drop 4)⟩] := by
  obtain ⟨e1, e2, e3⟩ := gt_of (x := x) (p := ⟨9, i, d⟩) (.inl rfl) (by show ¬ d.size < 4; omega) hl
  rw [e1, e2, e3]
  exact ⟨rfl, rfl, rfl⟩
theorem gt_reply {x : Ec} (i : UInt8) (d : ByteArray) (hd : 4 ≤ d.size) (hl : loopB x d = false) (hn : lateB x i = false) : pE x ⟨10, i, d⟩ = 0 ∧ gt x ⟨10, i, d⟩ = { x with mi := 0 } ∧ pL x ⟨10, i, d⟩ = [] := by
  obtain ⟨e1, e2, e3⟩ := gt_of (x := x) (p := ⟨10, i, d⟩) (.inr (.inl rfl)) (by show ¬ d.size < 4; omega) hl
  rw [e1, e2, e3]
  have h10 : (10 : UInt8).toNat = 10 := rfl
  refine ⟨?_, ?_, rfl⟩
  · unfold efE
    show (if (10 : UInt8).toNat = 10 then (if lateB x i = true then 3 else 0) else 0) = 0
    rw [hn]
    rfl
  · unfold efX
    show (if (10 : UInt8).toNat = 10 then (if lateB x i = true then x else { x with mi := 0 }) else x) = _
    rw [hn]
    rfl
theorem gt_loop {x : Ec} (c i : UInt8) (d : ByteArray) (hc : c.toNat = 9 ∨ c.toNat = 10 ∨ c.toNat = 11) (hd : 4 ≤ d.size) (hl : loopB x d = true) : pE x ⟨c, i, d⟩ = 170 ∧ gt x ⟨c, i, d⟩ = x ∧ pL x ⟨c, i, d⟩ = [] := by
  have e : pE x ⟨c, i, d⟩ = 170 := by
    unfold pE
    rw [if_neg (by show ¬ (c.toNat ≠ 9 ∧ c.toNat ≠ 10 ∧ c.toNat ≠ 11); omega), if_neg (by show ¬ d.size < 4; omega), if_pos hl]
  have h := pe_none (x := x) (p := ⟨c, i, d⟩) (by rw [e]; decide)
  exact ⟨e, h.1, h.2⟩
theorem late_no {x : Ec} (h : x.n ≠ 0) : lateB x (UInt8.ofNat (x.n % 256)) = false := by
  unfold lateB
  rw [decide_eq_false h, Bool.false_or, decide_eq_true]
  · rfl
  · rw [UInt8.toNat_ofNat']
    omega

/-! ### the echo of a law's own call -/
theorem RowP.moves {w w' : World} {base g c : Nat} {A : Option Addr} {l : List Pk} (h : RowP w base A c l) (hg : g < base) (hm : Moves (fun k => k = g) w w') : RowP w' base A c l := hm.row h fun k hk e => by have := (h.lt k hk).1; omega
theorem RowP.callee {w w' : World} {base c : Nat} {A : Option Addr} {l : List Pk} (h : RowP w base A c l) (hb : Below w.heap.size w w') : RowP w' base A c l := (Moves.of_below (S := fun _ => False) hb).row h fun _ _ e => e
theorem RowP.pks {w : World} {base c : Nat} {A : Option Addr} {l : List Pk} (h : RowP w base A c l) : Pks w A l := pks_own h
def Al (w wr : World) (g : Nat) (x : Ec) : Prop := EAt wr g x ∧ Below w.heap.size w wr ∧ w.heap.size ≤ g
theorem Al.callee {w wr w' : World} {g : Nat} {x : Ec} (h : Al w wr g x) (hb : Below wr.heap.size wr w') : Al w w' g x := ⟨h.1.callee hb, h.2.1.trans (hb.mono h.2.1.size), h.2.2⟩
theorem Al.turn {w wr w' : World} {g : Nat} {x y : Ec} (h : Al w wr g x) (hm : Moves (fun k => k = g) wr w') (ha : EAt w' g y) : Al w w' g y := ⟨ha, h.2.1.trans (hm.below h.2.1.size fun k e => by have := h.2.2; omega), h.2.2⟩
theorem Al.other {w wr w' : World} {g g' : Nat} {x : Ec} (h : Al w wr g x) (hg : w.heap.size ≤ g') (hn : g ≠ g') (hm : Moves (fun k => k = g') wr w') : Al w w' g x := ⟨h.1.moves hm hn, h.2.1.trans (hm.below h.2.1.size fun k e => by omega), h.2.2⟩
theorem Al.low {v w wr : World} {g : Nat} {x : Ec} (h : Al w wr g x) (hb : Below v.heap.size v w) : Al v wr g x := ⟨h.1, hb.trans (h.2.1.mono hb.size), Nat.le_trans hb.size h.2.2⟩
/-- What is answered, told at one input. -/
def RepQ (w : World) (g : Nat) (y : Ec) (l : List Pk) (E : Nat) (wr : World) (e : Ending) (w' : World) : Prop :=
  ∃ A c, e = .returned (.tuple #[.slice A l.length c, .int .i64 E]) ∧ Pks w' A l ∧ RowP w' wr.heap.size A c l ∧ Al w w' g y ∧ Moves (fun k => k = g) wr w'
theorem tick_at {w wr : World} {g E : Nat} {x y : Ec} {t : Int} {l : List Pk} (h : Al w wr g x) (hi : Inv x) (e : tE x t = E ∧ tk x t = y ∧ tL x t = l) :
    Calls Try.prog 8 #[.pointer (some ⟨g, 0, none⟩), .int .i64 t] wr (RepQ w g y l E wr) :=
  (tick_any g x t wr h.1 hi).mono fun o w' ⟨A, c, ho, hr, ha, hm⟩ => by
    rw [e.1, e.2.2] at ho
    rw [e.2.2] at hr
    rw [e.2.1] at ha
    exact ⟨A, c, ho, hr.pks, hr, h.turn hm ha, hm⟩
theorem packet_at {w wr : World} {g E : Nat} {x y : Ec} {p : Pk} {l : List Pk} (h : Al w wr g x) (hg : x.mg < 4294967296) (hs : p.d.size ≤ 140737488351232) (e : pE x p = E ∧ gt x p = y ∧ pL x p = l) :
    Calls Try.prog 9 #[.pointer (some ⟨g, 0, none⟩), .agg #[.int .u8 p.c.toNat, .int .u8 p.i.toNat, .string p.d]] wr (RepQ w g y l E wr) :=
  (packet_any g x p wr h.1 hg hs).mono fun o w' ⟨A, c, ho, hr, ha, hm⟩ => by
    rw [e.1, e.2.2] at ho
    rw [e.2.2] at hr
    rw [e.2.1] at ha
    exact ⟨A, c, ho, hr.pks, hr, h.turn hm ha, hm⟩

/-! ### Same -/
set_option maxHeartbeats 2000000 in
set_option maxRecDepth 100000 in
theorem same_yes (l : List Pk) (n : Nat) (A A' : Option Addr) (c c' : Nat) (w : World) (hn : l.length = n) (hl : n ≤ maxLen) (h : Pks w A l) (h' : Pks w A' l) :
    Calls Try.prog 20 #[.slice A n c, .slice A' n c'] w fun e w' => e = .returned (.bool true) ∧ ∃ k, w' = w.drewN k := by
  have H := Lib.hid h
  have H' := Lib.hid h'
  have Hn := Lib.hid hn
  unfold maxLen at hl
  clear h h' hn
  go_enter Try.func20, Try.ntmps20
  go_wp2
  go_loopw [5] (fun i wr => ∃ (k : Nat), k ≤ n ∧ i = .int .i64 k ∧ ∃ q, wr = w.drewN q) (fun i _ => n - (intOf i).toNat)
  case atStart => exact ⟨0, Nat.zero_le _, rfl, 0, rfl⟩
  case round =>
    obtain ⟨k, hk, rfl, q, rfl⟩ := hrel
    by_cases hlt : k < n
    · obtain ⟨ad, p, rfl, hp, c0, c1, c2⟩ := H.out.at_ (k := k) (by rw [Hn.out]; exact hlt)
      obtain ⟨ad', p', rfl, hp', c0', c1', c2'⟩ := H'.out.at_ (k := k) (by rw [Hn.out]; exact hlt)
      have e : p' = p := by rw [hp] at hp'; cases hp'; rfl
      subst e
      have hne := fun w => pk_neq (pk_same p'.c p'.i p'.d) w
      simp only [Bool.not_true] at hne
      clear hp hp'
      go_wp2
      go_quiet (fail)
      go_wp2
      go_roundw
      case rel => exact ⟨k + 1, by omega, by go_num, q + nq, rfl⟩
      case measure => simp [intOf]; omega
    · obtain rfl : k = n := by omega
      go_wp2
      go_ret
      exact ⟨rfl, q, rfl⟩
end Go.Proofs.Ytimndcfhilcgfaa.Ech
