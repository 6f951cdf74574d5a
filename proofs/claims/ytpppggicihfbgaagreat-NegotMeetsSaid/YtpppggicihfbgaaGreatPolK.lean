/- Contracts of Clone, rejects. -/
import Derived.Test.YtpppggicihfbgaaGreatGLcoA
import Derived.Test.YtpppggicihfbgaaGreatGOptsApp
namespace Go.Proofs.YtpppggicihfbgaaGreat.Pol
open Go.RowKit Go.Proofs.YtpppggicihfbgaaGreat.Oct Go.Proofs.YtpppggicihfbgaaGreat.Row Go.Proofs.YtpppggicihfbgaaGreat.Mem Go.Proofs.YtpppggicihfbgaaGreat.Opt Go.Proofs.YtpppggicihfbgaaGreat.Lco

def CpQ (l : List Opt) (n : Nat) (w : World) (e : Ending) (w' : World) : Prop := ∃ A c, e = .returned (.slice A n c) ∧ Opts w' w'.heap.size A n l ∧ (A = none → c = 0) ∧ Below w.heap.size w w'
theorem own_empty (w : World) (e : TypeId) (size : Nat) : (w.alloc (.cells #[] e)).ownsRow w.heap.size e size (.slice (some ⟨w.heap.size, 0, none⟩) 0 0) 0 [] :=
  ⟨by simp, .inr ⟨w.heap.size, 0, #[], rfl, Nat.le_refl _, World.alloc_heap_new w _, Nat.le_refl _, Nat.zero_le _, by simp, by simp⟩⟩
theorem eql_nil (t e : TypeId) (a : Option Addr) (l c : Nat) (h : Tryz.prog.underlying t = some (.slice e)) (w : World) : (binOp .eql t (.slice a l c) (.slice none 0 0)).run Tryz.prog w = .ok (.bool a.isNone) w := by
  have := run_equal_slice_nil (P := Tryz.prog) w t e a l c h
  simp [binOp, this]
set_option maxHeartbeats 1000000 in
set_option maxRecDepth 100000 in
theorem clone_any (l : List Opt) (A : Option Addr) (n c : Nat) (w : World) (hl : Opts w w.heap.size A n l) (hA : A = none → c = 0) (hn : n ≤ 1000) :
    Calls Tryz.prog 130 #[.slice A n c] w (CpQ l n w) := by
  obtain ⟨i0, hi, hz0, hz1, hz2⟩ := info_parts Tryz.info177
  cases A with
  | none =>
    have hc := hA rfl
    subst hc
    have hn0 : n = 0 := by
      rcases Nat.eq_zero_or_pos n with h0 | h0
      · exact h0
      · obtain ⟨ad, e', _⟩ := hl.2.2 h0
        cases e'
    subst hn0
    have HL := Lib.hid hl
    have hE := eql_nil 86 _ none 0 0 Tryz.underlying86
    simp only [Option.isNone_none] at hE
    clear hl hA
    go_enter Tryz.func130, Tryz.ntmps130
    go_wp2
    go_ret
    exact ⟨none, 0, rfl, HL.out, (fun _ => rfl), Below.refl _ _⟩
  | some ad =>
    have HL := Lib.hid (hl.laid (.cells #[] 177))
    have HZ := Lib.hid hl.2.1
    have HB : Hid (Below w.heap.size w (w.alloc (.cells #[] 177))) := (Below.refl _ _).alloc (Nat.le_refl _) _
    have HO := Lib.hid (own_empty w 177 2)
    have hE := eql_nil 86 _ (some ad) n c Tryz.underlying86
    simp only [Option.isNone_some] at hE
    have HS : Hid (w.heap.size ≤ (w.alloc (.cells #[] 177)).heap.size) := HB.out.size
    clear hl hA
    go_enter Tryz.func130, Tryz.ntmps130
    go_wp2_with (at_builtin; refine append_opts rfl _ _ 86 rfl w.heap.size 177 i0 _ 24 Tryz.underlying86 hi hz0 hz1 hz2 rfl _ 0 [] rfl HO.out _ (some ad) n c l (fun e => by cases e) rfl HL.out (by unfold maxLen; omega) (by omega) HS.out ?_; intro v1 w2 hown1 hgr1; have Hown1 := Lib.hid hown1; have Hgr1 := Lib.hid hgr1; clear hown1 hgr1)
    go_ret
    have h1 := Hown1.out
    rw [List.nil_append, Nat.zero_add] at h1
    obtain ⟨A1, c1, e1, hO⟩ := opts_own h1 HZ.out
    have hB2 : Below w.heap.size w w2 := HB.out.grown Hgr1.out HS.out (fun q hq => (HO.out.lt q hq).1)
    refine ⟨A1, c1, by rw [← e1] <;> rfl, hO, fun e => ?_, hB2⟩
    subst e
    subst e1
    rcases h1.2 with ⟨h2, _⟩ | ⟨g, cap, cur, h2, _⟩
    · cases h2; rfl
    · cases h2
set_option maxHeartbeats 400000 in
set_option maxRecDepth 100000 in
theorem rejects_any (g : Nat) (p : Po) (v : Value) (w : World) (h : PAt w g p) : Calls Tryz.prog 126 #[.pointer (some ⟨g, 0, none⟩), v] w fun e w' => e = .returned (.tuple #[.int .u8 4, v]) ∧ w' = w.setCell ⟨g, 37, none⟩ (.int .i64 0) := by
  have c := h.c 37
  have c37 : w.cell? ⟨g, 37, none⟩ = some (.int .i64 p.naks) := c
  have f37 := h.f 37
  clear c h
  go_enter Tryz.func126, Tryz.ntmps126
  go_wp2
  go_ret2
  exact ⟨rfl, rfl⟩
end Go.Proofs.YtpppggicihfbgaaGreat.Pol
