/- What a packet of each code does; which that is; whether a number is the own one. -/
import Derived.Test.YtimndcfhilcgfaaEchD
namespace Go.Proofs.Ytimndcfhilcgfaa.Ech
open Go.RowKit Go.Proofs.Ytimndcfhilcgfaa.Oct Go.Proofs.Ytimndcfhilcgfaa.Row Go.Proofs.Ytimndcfhilcgfaa.Mem

set_option maxHeartbeats 1000000 in
set_option maxRecDepth 100000 in
theorem request_any (g ob eb : Nat) (x : Ec) (i : UInt8) (s : ByteArray) (w : World) (h : EAt w g x) (hg : x.mg < 4294967296) (ho : Out w ob none [] 0) (he : Eb w eb g) (hs : s.size ≤ 140737488351232) :
    Calls Try.prog 30 #[ptr g, .int .u8 i.toNat, .string s, sV ob eb] w (DoQ g ob x [⟨10, i, own x ++ s⟩] 0 w) := by
  have HS : Hid (Calls Try.prog 28 #[.int .u8 10, .int .u8 i.toNat, .string s, .pointer (some ⟨ob, 0, none⟩), .pointer (some ⟨eb, 0, none⟩)] w (SendQ ob ⟨10, i, own x ++ s⟩ w)) := send_any g ob eb x 10 i s w h hg ho he hs
  have n1 : ob ≠ g := blk_ne ho h (by decide)
  have H := Lib.hid h
  clear h ho he hg
  unfold sV ptr
  go_enter Try.func30, Try.ntmps30
  go_wp2_with fail
  refine HS.out.mono ?_
  rintro e w2 ⟨rfl, A2, k2, ho2, hr2, hm2⟩
  have H2 := Lib.hid (H.out.moves hm2 (fun e => n1 e.symm))
  have HO2 := Lib.hid ho2
  have HR2 := Lib.hid hr2
  have HM2 := Lib.hid (hm2.mono (T := fun j => j = g ∨ j = ob) fun _ _ e => .inr e)
  clear ho2 hr2 hm2 HS
  go_wp2
  go_ret
  exact ⟨rfl, ⟨A2, k2, HO2.out, HR2.out⟩, H2.out, HM2.out⟩
theorem late_eq (x : Ec) (i : UInt8) : ((i.toNat : Int) != ((x.n % 256 : Nat) : Int)) = !decide (i.toNat = x.n % 256) := by
  rw [Bool.eq_iff_iff]
  simp
  omega
set_option maxHeartbeats 1000000 in
set_option maxRecDepth 100000 in
theorem answer_any (g ob : Nat) (x : Ec) (i : UInt8) (s : ByteArray) (v : Value) (w : World) (h : EAt w g x) (ho : Out w ob none [] 0) :
    Calls Try.prog 31 #[ptr g, .int .u8 i.toNat, .string s, v] w (DoQ g ob (if lateB x i then x else { x with mi := 0 }) [] (if lateB x i then 3 else 0) w) := by
  have n1 : ob ≠ g := blk_ne ho h (by decide)
  have H := Lib.hid h
  have HO := Lib.hid ho
  have c5 : w.cell? ⟨g, 5, none⟩ = some (.bool (decide (0 < x.n))) := h.c 5
  have c6 : w.cell? ⟨g, 6, none⟩ = some (.int .u8 (x.n % 256 : Nat)) := h.c 6
  have c7 : w.cell? ⟨g, 7, none⟩ = some (.int .i64 x.mi) := h.c 7
  have f7 : w.frozen? ⟨g, 7, none⟩ = false := h.f 7
  have hl := late_eq x i
  clear h ho
  have hlb : lateB x i = (!decide (0 < x.n) || !decide (i.toNat = x.n % 256)) := by
    unfold lateB
    congr 1
    rw [Bool.eq_iff_iff]
    simp
  rw [hlb]
  have HX : Hid (DoQ g ob x [] 3 w (.returned (.int .i64 3)) w) := doq_none HO.out H.out (Moves.refl _ w)
  generalize hL : x.n % 256 = L at *
  clear hlb hL
  generalize decide (0 < x.n) = p at *
  generalize decide (i.toNat = L) = q at *
  unfold ptr
  cases p
  · go_enter Try.func31, Try.ntmps31
    go_wp2
    go_ret
    exact HX.out
  · cases q
    · simp only [Bool.not_false] at hl
      go_enter Try.func31, Try.ntmps31
      go_wp2
      go_ret
      exact HX.out
    · simp only [Bool.not_true] at hl
      go_enter Try.func31, Try.ntmps31
      go_wp2
      go_ret
      exact doq_none (Blk.moves (S := fun j => j = g) HO.out (set1_moves w g 7 (.int .i64 0)) n1) (H.out.setMi 0) ((set1_moves w g 7 (.int .i64 0)).mono fun _ _ e => .inl e)
set_option maxHeartbeats 1000000 in
set_option maxRecDepth 100000 in
theorem discard_any (g ob : Nat) (x : Ec) (i : UInt8) (s : ByteArray) (v : Value) (w : World) (h : EAt w g x) (ho : Out w ob none [] 0) :
    Calls Try.prog 32 #[ptr g, .int .u8 i.toNat, .string s, v] w (DoQ g ob x [] 0 w) := by
  have H := Lib.hid (doq_none (E := 0) ho h (Moves.refl _ w))
  clear h ho
  unfold ptr
  go_enter Try.func32, Try.ntmps32
  go_wp2
  go_ret
  exact H.out
/-- What a packet of a code does, as a value. -/
def effV (g c : Nat) : Value := if c = 9 then .func (.func 30) #[ptr g] #[] else if c = 10 then .func (.func 31) #[ptr g] #[] else if c = 11 then .func (.func 32) #[ptr g] #[] else .nilFunc
set_option maxHeartbeats 1000000 in
set_option maxRecDepth 100000 in
theorem effect_any (g c : Nat) (w : World) : Calls Try.prog 23 #[ptr g, .int .u8 c] w fun e w' => e = .returned (effV g c) ∧ w = w' := by
  unfold effV ptr
  by_cases h9 : c = 9
  · subst h9
    go_enter Try.func23, Try.ntmps23
    go_wp2
    go_ret
    exact ⟨rfl, rfl⟩
  · rw [if_neg h9]
    have e9 : ((c : Int) == 9) = false := by rw [beq_eq_false_iff_ne]; omega
    by_cases h10 : c = 10
    · subst h10
      go_enter Try.func23, Try.ntmps23
      go_wp2
      go_ret
      exact ⟨rfl, rfl⟩
    · rw [if_neg h10]
      have e10 : ((c : Int) == 10) = false := by rw [beq_eq_false_iff_ne]; omega
      by_cases h11 : c = 11
      · subst h11
        go_enter Try.func23, Try.ntmps23
        go_wp2
        go_ret
        exact ⟨rfl, rfl⟩
      · rw [if_neg h11]
        have e11 : ((c : Int) == 11) = false := by rw [beq_eq_false_iff_ne]; omega
        clear h9 h10 h11
        go_enter Try.func23, Try.ntmps23
        go_wp2
        go_ret
        exact ⟨rfl, rfl⟩
set_option maxHeartbeats 1000000 in
set_option maxRecDepth 100000 in
theorem own_any (g : Nat) (x : Ec) (s : ByteArray) (w : World) (h : EAt w g x) (hg : x.mg < 4294967296) :
    Calls Try.prog 25 #[ptr g, .string s] w fun e w' => e = .returned (.bool (!decide (x.mg = 0) && s.toList == (own x).toList)) ∧ Below w.heap.size w w' := by
  have c4 : w.cell? ⟨g, 4, none⟩ = some (.int .u32 x.mg) := h.c 4
  have HP := Lib.hid (fun W => put32_any x.mg W hg)
  clear h hg
  unfold own
  generalize bOf (numS x.mg 4) = Y at *
  unfold ptr
  by_cases h0 : x.mg = 0
  · have e0 : ((x.mg : Int) != 0) = false := by rw [h0]; rfl
    rw [show decide (x.mg = 0) = true from decide_eq_true h0]
    clear h0 HP
    go_enter Try.func25, Try.ntmps25
    go_wp2
    go_ret
    exact ⟨rfl, Below.refl _ _⟩
  · have e0 : ((x.mg : Int) != 0) = true := by rw [bne_iff_ne]; omega
    rw [show decide (x.mg = 0) = false from decide_eq_false h0]
    clear h0
    go_enter Try.func25, Try.ntmps25
    go_wp2_with fail
    refine (HP.out _).mono ?_
    rintro e w1 ⟨rfl, hb⟩
    have HB := Lib.hid hb
    clear hb
    go_wp2
    go_ret
    exact ⟨rfl, HB.out⟩
end Go.Proofs.Ytimndcfhilcgfaa.Ech
