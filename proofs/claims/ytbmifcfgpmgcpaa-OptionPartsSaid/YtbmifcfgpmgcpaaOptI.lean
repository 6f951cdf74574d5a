/- Contract of package option's Get. -/
import Derived.Test.YtbmifcfgpmgcpaaOptH
namespace Go.Proofs.Ytbmifcfgpmgcpaa.Opt
open Go.RowKit Go.Shelf Go.Proofs.Ytbmifcfgpmgcpaa.Oct Go.Proofs.Ytbmifcfgpmgcpaa.Row Go.Proofs.Ytbmifcfgpmgcpaa.Mem
attribute [local go_sem] Oper.semAt_some

/-- The three named results in their boxes. -/
theorem results_get (tmps : Array Value) (w : World) (g : Nat) (A : Option Addr) (n c : Nat) (a e : Int) (h2 : tmps.getD 2 undef = .pointer (some ⟨g, 0, none⟩)) (h3 : tmps.getD 3 undef = .pointer (some ⟨g + 1, 0, none⟩)) (h4 : tmps.getD 4 undef = .pointer (some ⟨g + 1 + 1, 0, none⟩))
    (c2 : w.cell? ⟨g, 0, none⟩ = some (.slice A n c)) (c3 : w.cell? ⟨g + 1, 0, none⟩ = some (.int .i64 a)) (c4 : w.cell? ⟨g + 1 + 1, 0, none⟩ = some (.int .i64 e)) :
    (results Try.f11 tmps).run Try.prog w = .ok (.tuple #[.slice A n c, .int .i64 a, .int .i64 e]) w := by
  have h2' : tmps[2]?.getD undef = .pointer (some ⟨g, 0, none⟩) := by simpa using h2
  have h3' : tmps[3]?.getD undef = .pointer (some ⟨g + 1, 0, none⟩) := by simpa using h3
  have h4' : tmps[4]?.getD undef = .pointer (some ⟨g + 1 + 1, 0, none⟩) := by simpa using h4
  simp [results, Try.results11, go_sem, h2', h3', h4', c2, c3, c4]

/-- The boxes of Get's results. -/
structure Rs (W : World) (g : Nat) (v : Value) (a e : Nat) : Prop where
  l : Boxed W g 22 v
  a : Boxed W (g + 1) 3 (.int .i64 (a : Nat))
  e : Boxed W (g + 1 + 1) 25 (.int .i64 (e : Nat))
theorem Rs.alloc {W : World} {g a e : Nat} {v : Value} (h : Rs W g v a e) (o : Obj) : Rs (W.alloc o) g v a e := ⟨h.l.alloc o, h.a.alloc o, h.e.alloc o⟩
theorem Rs.drew {W : World} {g a e : Nat} {v : Value} (h : Rs W g v a e) : Rs W.drew g v a e := ⟨h.l, h.a, h.e⟩
theorem Rs.stays {W W' : World} {row : Option Nat} {g a e : Nat} {v : Value} (h : Rs W g v a e) (hg : W.grownBy W' row) (hr : ∀ r, row = some r → ∃ o : Obj, W.heap[r]? = some o ∧ o.isCells = false) : Rs W' g v a e :=
  ⟨boxed_stays h.l hg hr, boxed_stays h.a hg hr, boxed_stays h.e hg hr⟩
theorem Rs.set {W : World} {g a e : Nat} {v : Value} (h : Rs W g v a e) (v' : Value) (a' e' : Nat) : Rs (((W.setCell ⟨g, 0, none⟩ v').setCell ⟨g + 1, 0, none⟩ (.int .i64 (a' : Nat))).setCell ⟨g + 1 + 1, 0, none⟩ (.int .i64 (e' : Nat))) g v' a' e' :=
  ⟨((h.l.set v').other (by omega) _).other (by omega) _, (((h.a.other (by omega) _).set _)).other (by omega) _, ((h.e.other (by omega) _).other (by omega) _).set _⟩
theorem rs_new (w : World) : Rs (((w.alloc (.cells #[.slice none 0 0] 22)).alloc (.cells #[.int .i64 0] 3)).alloc (.cells #[.int .i64 0] 25)) w.heap.size (.slice none 0 0) 0 0 := by
  refine ⟨((Boxed.new w _ _).alloc _).alloc _, ?_, ?_⟩
  · have := (Boxed.new (w.alloc (.cells #[.slice none 0 0] 22)) 3 (.int .i64 0)).alloc (.cells #[.int .i64 0] 25)
    rw [World.size_alloc] at this
    exact this
  · have := Boxed.new ((w.alloc (.cells #[.slice none 0 0] 22)).alloc (.cells #[.int .i64 0] 3)) 25 (.int .i64 0)
    rw [World.size_alloc, World.size_alloc] at this
    exact this
theorem below_rs {n g : Nat} {w W : World} (h : Below n w W) (hn : n ≤ g) (x y z : Value) : Below n w (((W.setCell ⟨g, 0, none⟩ x).setCell ⟨g + 1, 0, none⟩ y).setCell ⟨g + 1 + 1, 0, none⟩ z) :=
  ((h.setCell (p := ⟨g, 0, none⟩) hn x).setCell (p := ⟨g + 1, 0, none⟩) (by show n ≤ g + 1; omega) y).setCell (p := ⟨g + 1 + 1, 0, none⟩) (by show n ≤ g + 1 + 1; omega) z
theorem below3 (w : World) (a b c : Obj) : Below w.heap.size w (((w.alloc a).alloc b).alloc c) := (((Below.refl _ w).alloc (Nat.le_refl _) _).alloc (by simp) _).alloc (by simp; omega) _

set_option maxHeartbeats 1000000 in
set_option maxRecDepth 100000 in
theorem get_long (s : ByteArray) (w : World) (hs : 1496 < s.size) :
    Calls Try.prog 11 #[.string s] w (GetQ s.toList w) := by
  have HG : Hid (got s.toList = ([], 0, 5)) := by show _ = _; unfold got; rw [if_pos (by rw [← size_toList]; exact hs)]
  obtain ⟨W, hW, HW⟩ : ∃ W, (((w.alloc (.cells #[.slice none 0 0] 22)).alloc (.cells #[.int .i64 0] 3)).alloc (.cells #[.int .i64 0] 25)) = W ∧ Hid (Rs W w.heap.size (.slice none 0 0) 0 0 ∧ Below w.heap.size w W) := ⟨_, rfl, rs_new w, below3 w _ _ _⟩
  have c0 := HW.out.1.l.cell
  have c1 : W.cell? ⟨w.heap.size + 1, 0, none⟩ = some (.int .i64 0) := HW.out.1.a.cell
  have c2 : W.cell? ⟨w.heap.size + 1 + 1, 0, none⟩ = some (.int .i64 0) := HW.out.1.e.cell
  have f0 := HW.out.1.l.frozen
  have f1 := HW.out.1.a.frozen
  have f2 := HW.out.1.e.frozen
  have hx : (1496 : Int) < (s.size : Int) := by omega
  go_enter Try.func11, Try.ntmps11
  go_wp2
  clear hW
  have HR := HW.out.1.set (.slice none 0 0) 0 5
  (try simp only [Exit.inBlock, Exit.then])
  refine bodyPost_ret (results_get _ _ w.heap.size none 0 0 0 5 rfl rfl rfl HR.l.cell HR.a.cell HR.e.cell) rfl ?_
  exact getQ_no HG.out (below_rs HW.out.2 (Nat.le_refl _) _ _ _)

/-- The world behind a store of all three. -/
def setR (W : World) (g : Nat) (v : Value) (a e : Int) : World := ((W.setCell ⟨g, 0, none⟩ v).setCell ⟨g + 1, 0, none⟩ (.int .i64 a)).setCell ⟨g + 1 + 1, 0, none⟩ (.int .i64 e)
theorem setR_moves (W : World) (g : Nat) (v : Value) (a e : Int) : Moves (fun k => k = g ∨ k = g + 1 ∨ k = g + 1 + 1) W (setR W g v a e) :=
  (((Moves.refl _ W).setCell ⟨g, 0, none⟩ (fun _ => .inl rfl) v).setCell ⟨g + 1, 0, none⟩ (fun _ => .inr (.inl rfl)) (.int .i64 a)).setCell ⟨g + 1 + 1, 0, none⟩ (fun _ => .inr (.inr rfl)) (.int .i64 e)
theorem setR_keeps (W : World) (g : Nat) (v : Value) (a e : Int) : KeepsOthers W (setR W g v a e) := ((KeepsOthers.setCell W _ v).trans (KeepsOthers.setCell _ _ _)).trans (KeepsOthers.setCell _ _ _)
theorem Rs.row {W : World} {g a e : Nat} {v : Value} (h : Rs W g v a e) {base n : Nat} {u : Value} {xs : List Value} (hr : W.ownsRow base 32 2 u n xs) (v' : Value) (a' e' : Int) : (setR W g v' a' e').ownsRow base 32 2 u n xs := by
  refine (setR_moves W g v' a' e').row hr (fun k hk hs => ?_)
  rcases hs with rfl | rfl | rfl
  · exact cells_not_row h.l (by decide) hr hk
  · exact cells_not_row h.a (by decide) hr hk
  · exact cells_not_row h.e (by decide) hr hk
/-- Where a round that goes on has come. -/
def Mid (_s : ByteArray) (g : Nat) (pre : List Item) (W : World) : Prop := okI pre ∧ pre.length ≤ 64 ∧ ∃ A c, Rs W g (.slice A pre.length c) 0 0 ∧ W.ownsRow g 32 2 (.slice A pre.length c) pre.length (optsV (optsI pre))
/-- Where a round has ended all. -/
def End (g : Nat) (c : Code) (pre : List Item) (W : World) : Prop := c = .ret ∧ ∃ (q : List Item) (x : Item), pre = q ++ [x] ∧ okI q ∧ q.length ≤ 64 ∧ (q.length = 64 ∨ x.2.2 ≠ 0) ∧ Rs W g (.slice none 0 0) x.1 (if q.length = 64 then 4 else x.2.2)
theorem mid_own (s : ByteArray) (g : Nat) : Own (Mid s g) := fun pre A B row hs hg hr => by
  obtain ⟨h1, h2, A', c, h3, h4⟩ := hs
  exact ⟨h1, h2, A', c, h3.stays hg hr, row_stays h4 hg hr⟩
theorem end_own (g : Nat) (c : Code) : Own (End g c) := fun pre A B row hs hg hr => by
  obtain ⟨h1, q, x, h2, h3, h4, h5, h6⟩ := hs
  exact ⟨h1, q, x, h2, h3, h4, h5, h6.stays hg hr⟩
theorem fat_stays {W W' : World} {row : Option Nat} {B e : Nat} {o : Opt} (h : FAt W B o e) (hg : W.grownBy W' row) (hr : ∀ r, row = some r → ∃ o : Obj, W.heap[r]? = some o ∧ o.isCells = false) : FAt W' B o e :=
  (hg.block B (Blk.lt h) (fun e' => by obtain ⟨o, ho, hc⟩ := hr B e'.symm; rw [show W.heap[B]? = _ from h] at ho; cases ho; cases hc)).trans h
/-- The record that a round is handed, in its box. -/
def Hd (s : ByteArray) (g m : Nat) (x : Item) (a' : Act) (W : World) : Prop :=
  ∃ Bx, g + 1 + 1 < Bx ∧ FAt W Bx x.2.1 x.2.2 ∧ a' = { tmps := #[.string s, undef, .pointer (some ⟨g, 0, none⟩), .pointer (some ⟨g + 1, 0, none⟩), .pointer (some ⟨g + 1 + 1, 0, none⟩), .int .i64 (x.1 : Nat), .pointer (some ⟨Bx, 0, none⟩), .string s, .int .i64 s.size, .bool false, .string s,
    .func (.func 25) #[] #[.pointer (some ⟨m, 0, none⟩)], .int .i64 (x.1 : Nat), .agg #[.int .u8 x.2.1.1.toNat, .string x.2.1.2, .int .i64 (x.2.2 : Nat)], undef, undef, undef, undef, undef, undef, undef, undef, undef, undef, undef, undef, undef, undef, undef, undef, undef, undef], defers := [] }
theorem hd_own (s : ByteArray) (g m : Nat) (x : Item) (a' : Act) : Own (fun (_ : Unit) W => Hd s g m x a' W) := fun _ A B row hs hg hr => by
  obtain ⟨Bx, h1, h2, h3⟩ := hs
  exact ⟨Bx, h1, fat_stays h2 hg hr, h3⟩
/-- What an append to the row in its box, and the store back, keep. -/
theorem keepsF_append {b g n₀ n : Nat} {s : ByteArray} {W w1 : World} {v v' : Value} {xs : List Value} {tmp : Obj} (hv : Boxed W g 22 v) (hrow : W.ownsRow n₀ 32 2 v n xs) (hgrow : (W.alloc tmp).grownBy w1 v.ownBlock) (hb : b ≠ g) : KeepsF b s W (w1.setCell ⟨g, 0, none⟩ v') := by
  refine ⟨fun hx => boxed_past hx (by decide) hrow hgrow hb v', fun B o e hx => ?_⟩
  have h1 : FAt (W.alloc tmp) B o e := Blk.alloc hx tmp
  have h2 : FAt w1 B o e := (hgrow.block B (Blk.lt h1) (fun e' => cells_not_row hx (by decide) hrow e'.symm)).trans h1
  refine Blk.moves (S := fun k => k = g) h2 ((Moves.refl (fun k => k = g) w1).setCell ⟨g, 0, none⟩ (fun _ => rfl) v') (fun e' => ?_)
  subst e'
  have h3 := (show W.heap[B]? = _ from hx).symm.trans (show W.heap[B]? = _ from hv)
  simp at h3

set_option maxHeartbeats 8000000 in
set_option maxRecDepth 100000 in
theorem get_in (s : ByteArray) (w : World) (hs : s.size ≤ 1496) :
    CallsIn Fence.wide 4 Try.prog 11 #[.string s] w (GetQ s.toList w) := by
  obtain ⟨i0, hi, hz0, hz1, hz2⟩ := info_parts Try.info32
  obtain ⟨W, hW, HW⟩ : ∃ W, (((w.alloc (.cells #[.slice none 0 0] 22)).alloc (.cells #[.int .i64 0] 3)).alloc (.cells #[.int .i64 0] 25)) = W ∧ Hid (Rs W w.heap.size (.slice none 0 0) 0 0 ∧ Below w.heap.size w W ∧ W.heap.size = w.heap.size + 3) := ⟨_, rfl, rs_new w, below3 w _ _ _, by simp⟩
  have hx : ¬ (1496 : Int) < (s.size : Int) := by omega
  have Hs := Lib.hid hs
  have HsL : Hid (s.toList.length ≤ 1496) := by show _ ≤ _; rw [← size_toList]; exact hs
  have HNL : Hid (s.toList.length = s.size) := (size_toList s).symm
  clear hs
  refine callsIn_of_wp_marks Try.func11 rfl trivial ?_
  simp only [Try.ntmps11, List.size_toArray, List.length_cons, List.length_nil, Nat.reduceAdd, Nat.reduceSub, Array.replicate_succ, Array.replicate_zero, List.push_toArray, List.append_toArray, List.nil_append, List.cons_append]
  gi_wp2_with (refine ⟨trivial, ?_⟩; gi_at_call 19; refine (finds_in 3 s _).mono ?_; rintro e w4 ⟨rfl, rfl⟩)
  clear hW
  obtain ⟨W0, hW0⟩ : ∃ W0, W.alloc (.cells #[.string s] 9) = W0 := ⟨_, rfl⟩
  have bT : Boxed W0 W.heap.size 9 (.string s) := by rw [← hW0]; exact Boxed.new W _ _
  have bR : Rs W0 w.heap.size (.slice none 0 0) 0 0 := by rw [← hW0]; exact HW.out.1.alloc _
  have hs0 : W0.heap.size = w.heap.size + 4 := by rw [← hW0, World.size_alloc, HW.out.2.2]
  have hB0 : Below w.heap.size w W0 := by rw [← hW0]; exact HW.out.2.1.alloc HW.out.2.1.size _
  have hm0 := HW.out.2.2
  rw [hW0]
  clear hW0 HW
  generalize W.heap.size = m at *
  have hm1 : w.heap.size + 3 ≤ m := by omega
  clear hm0
  generalize hg : w.heap.size = g at *
  have HgW : Hid (g ≤ W0.heap.size) := by show _ ≤ _; omega
  have Hst := finds_stops 3 (by omega) m s Hs.out W0 bT
  refine wpIn_rangeFunc_ownH rfl (by omega) (gf := 25) (lb := #[.pointer (some ⟨m, 0, none⟩)]) rfl trivial (enters_of Try.func25 (by kernel_rfl) rfl)
    Hst keepsF_t keepsF_b (Below.refl _ _) (fun _ => rfl)
    (fun pre W => Mid s g pre W ∧ Below g w W)
    (fun c pre W => End g c pre W ∧ Below g w W)
    (OwnFrom.and (Own.from (mid_own s g) _) (ownFrom_below (by omega) (by omega)))
    (fun c => OwnFrom.and (Own.from (end_own g c) _) (ownFrom_below (by omega) (by omega)))
    ⟨⟨(fun _ h => by cases h), by simp, none, 0, bR, World.ownsRow_nil _ _ _ _⟩, hB0⟩
    (Hd s g m)
    (fun x a' => Own.from (hd_own s g m x a') _)
    ?assign ?body ?done ?stop
  case assign =>
    rintro l pre ⟨p, ⟨t, d⟩, e⟩ W1 K ⟨⟨hok, hlen, A, c, hRs, hrow⟩, hB⟩ hK
    clear Hst hB0 bT bR hs0
    simp only [encI]
    have hz := hB.size
    have hz2 := hRs.e.lt
    gi_wp2
    exact hK _ _ ((KeepsOthers.alloc _ _).from _) (keepsF_new ((Below.refl _ W1).alloc (Nat.le_refl _) _)) ⟨⟨hok, hlen, A, c, hRs.alloc _, hrow.alloc _⟩, hB.alloc (by omega) _⟩ ⟨W1.heap.size, hz2, fat_new W1 (t, d) e, rfl⟩
  case body =>
    rintro l pre ⟨p, ⟨t, d⟩, e⟩ a' W1 hl ⟨r, hr⟩ ⟨⟨hok, hlen, A, c, hRs, hrow⟩, hB⟩ ⟨Bx, hBx, hF, rfl⟩ hlt
    clear Hst hB0 bT bR hs0
    have cL := hRs.l.cell
    have fL := hRs.l.frozen
    have cA := hRs.a.cell
    have fA := hRs.a.frozen
    have cE := hRs.e.cell
    have fE := hRs.e.frozen
    have d0 := hF.c0
    have d1 := hF.c1
    have d2 := hF.c2
    simp only at d0 d1 d2
    have HF := Lib.hid hF
    have HRs := Lib.hid hRs
    have Hrow := Lib.hid hrow
    have HB := Lib.hid hB
    have Hok := Lib.hid hok
    have hn1 : ¬ Bx = g := by omega
    have hn2 : ¬ Bx = g + 1 := by omega
    have hn3 : ¬ Bx = g + 1 + 1 := by omega
    have hBs := hB.size
    have hgt := hRs.e.lt
    clear hok hRs hrow hB hF hr
    by_cases h64 : pre.length = 64
    · have FIN : Hid (∀ a : Act, ownPostG W0.heap.size (KeepsF m s) (fun pre W => Mid s g pre W ∧ Below g w W) (fun c pre W => End g c pre W ∧ Below g w W) (pre ++ [(p, (t, d), e)]) W1 .ret a (setR W1 g (.slice none 0 0) p 4)) := fun _ =>
        ⟨(setR_keeps _ _ _ _ _).from _, ⟨rfl, pre, (p, (t, d), e), rfl, Hok.out, hlen, .inl h64, by rw [if_pos h64]; exact HRs.out.set _ p 4⟩, below_rs HB.out (Nat.le_refl _) _ _ _⟩
      have hx2 : ((pre.length : Int) == 64) = true := by rw [h64]; rfl
      clear h64
      gi_wp2
      exact FIN.out _
    · have hx2 : ((pre.length : Int) == 64) = false := by rw [beq_eq_false_iff_ne]; omega
      by_cases he : e = 0
      · have HQ : Hid (okI (pre ++ [(p, (t, d), e)]) ∧ (pre ++ [(p, (t, d), e)]).length = pre.length + 1 ∧ optsV (optsI (pre ++ [(p, (t, d), e)])) = optsV (optsI pre) ++ optsV [(t, d)]) := ⟨okI_snoc Hok.out he, by simp, by rw [optsI_snoc, optsV_append]⟩
        have hx3 := is_zero he
        have hlen2 : pre.length + 1 ≤ 64 := by omega
        generalize hpl : pre.length = n at *
        clear h64 he hpl
        gi_wp2_with (gi_at_builtin; refine wpListIn_append_own _ rfl _ _ 22 rfl g 32 i0 _ 2 24 Try.underlying22 hi hz0 hz1 hz2 rfl (by decide) _ _ _ rfl (Hrow.out.alloc _) ⟨W1.heap.size, 0, none⟩ 1 1 (optsV [(t, d)]) rfl rfl (by rw [optsV_one]; exact cells_new _ _ _) (optsV_ones _) (by unfold maxLen; omega) (by omega) (by simp; omega) ?_; intro v' w1 hown' hgrow _; obtain ⟨g', cap', rfl⟩ := ownsRow_succ hown'; obtain ⟨hv1, hv2, hr2, hk2, hb2⟩ := HRs.out.l.appended (by decide) Hrow.out (by omega) (Nat.le_refl _) hown' hgrow; have Hv2 := Lib.hid hv2; have Hr2 := Lib.hid hr2; have Hk2 := Lib.hid hk2; have Hb2 := Lib.hid hb2; have Hgrow := Lib.hid hgrow; have hc1 := hv1.cell; have hf1 := hv1.frozen; clear hv1 hv2 hr2 hk2 hb2 hgrow hown')
        refine ⟨Hk2.out.from _, keepsF_append HRs.out.l Hrow.out Hgrow.out (by omega), ⟨HQ.out.1, by rw [HQ.out.2.1]; exact hlen2, some ⟨g', 0, none⟩, cap', ?_, ?_⟩, HB.out.trans Hb2.out⟩
        · rw [HQ.out.2.1]
          exact ⟨Hv2.out, boxed_past HRs.out.a (by decide) Hrow.out Hgrow.out (by omega) _, boxed_past HRs.out.e (by decide) Hrow.out Hgrow.out (by omega) _⟩
        · rw [HQ.out.2.1, HQ.out.2.2]
          exact Hr2.out
      · have FIN : Hid (∀ a : Act, ownPostG W0.heap.size (KeepsF m s) (fun pre W => Mid s g pre W ∧ Below g w W) (fun c pre W => End g c pre W ∧ Below g w W) (pre ++ [(p, (t, d), e)]) W1 .ret a (setR W1.drew g (.slice none 0 0) p e)) := fun _ =>
          ⟨((KeepsOthers.drew W1).trans (setR_keeps _ _ _ _ _)).from _, ⟨rfl, pre, (p, (t, d), e), rfl, Hok.out, hlen, .inr he, by rw [if_neg h64]; exact HRs.out.drew.set _ p e⟩, below_rs HB.out.drew (Nat.le_refl _) _ _ _⟩
        have hx3 := ne_zero he
        clear h64 he
        gi_wp2
        gi_region
        all_goals gi_wp2
        all_goals exact FIN.out _
  case done =>
    rintro D ys W1 hD rfl ⟨⟨hok, hlen, A, c, hRs, hrow⟩, hB⟩ hK
    have cL := hRs.l.cell
    have fL := hRs.l.frozen
    have cA := hRs.a.cell
    have fA := hRs.a.frozen
    have cE := hRs.e.cell
    have fE := hRs.e.frozen
    have HG := Lib.hid (got_done HsL.out hok hlen)
    have HR := Lib.hid (hRs.set (.slice A (seq s.toList 0).length c) s.size 0)
    have HW := Lib.hid (hRs.row hrow (.slice A (seq s.toList 0).length c) s.size 0)
    have HL : Hid ((seq s.toList 0).length = (optsI (seq s.toList 0)).length) := by show _ = _; simp [optsI]
    have HK := Lib.hid ((setR_keeps W1 g (.slice A (seq s.toList 0).length c) s.size 0).same D _ hK rfl)
    have HB := Lib.hid (below_rs hB (Nat.le_refl _) (.slice A (seq s.toList 0).length c) (.int .i64 (s.size : Nat)) (.int .i64 ((0 : Nat) : Int)))
    have HD := Lib.hid hD
    clear hok hRs hrow hB hK hD Hst hB0 bT bR hs0 hlen
    generalize seq s.toList 0 = ys at *
    gi_wp2
    refine ⟨by simp, .inl ⟨_, _, rfl, run_takeDeferred HK.out, ?_⟩⟩
    have hp := grownBy_putObj' (setR W1 g (.slice A ys.length c) s.size 0) D (.deferred none)
    have HR2 := HR.out.stays hp (fun r e => by cases e; exact ⟨_, HK.out, rfl⟩)
    refine ⟨_, results_get _ _ g A ys.length c s.size 0 rfl rfl rfl HR2.l.cell HR2.a.cell HR2.e.cell, ?_⟩
    exact getQ_yes (HG.out.trans (by rw [HNL.out])) HL.out (ownsRow_putObj HW.out _ HK.out rfl) (by rw [hg]; exact HB.out.trans (belowK_b (w := W0) HgW.out _ D _ _ HD.out HK.out rfl rfl))
  case stop =>
    rintro D c pre W1 hD hpre ⟨⟨rfl, q, x, rfl, hokq, hlq, hor, hRs⟩, hB⟩ hK
    have HG := Lib.hid (got_stop HsL.out hpre hokq hlq hor)
    have hp := grownBy_putObj' W1 D (.deferred none)
    have HR2 := Lib.hid (hRs.stays hp (fun r e => by cases e; exact ⟨_, hK, rfl⟩))
    have HK := Lib.hid hK
    have HB := Lib.hid hB
    have HD := Lib.hid hD
    clear hpre hokq hlq hor hRs hB hK hD Hst hB0 bT bR hs0 hp
    gi_wp2
    refine ⟨by simp, .inl ⟨_, _, rfl, run_takeDeferred HK.out, ?_⟩⟩
    refine ⟨_, results_get _ _ g none 0 0 _ _ rfl rfl rfl HR2.out.l.cell HR2.out.a.cell HR2.out.e.cell, ?_⟩
    exact getQ_no HG.out (by rw [hg]; exact HB.out.trans (belowK_b (w := W0) HgW.out _ D _ _ HD.out HK.out rfl rfl))
theorem get_any (s : ByteArray) (w : World) : Calls Try.prog 11 #[.string s] w (GetQ s.toList w) := by
  by_cases h : 1496 < s.size
  · exact get_long s w h
  · exact callsIn_wide.1 (get_in s w (by omega))
end Go.Proofs.Ytbmifcfgpmgcpaa.Opt
