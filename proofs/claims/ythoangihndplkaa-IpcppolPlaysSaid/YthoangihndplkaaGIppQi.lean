/- Put together: IppQi, IppQj. -/
import Derived.Test.YthoangihndplkaaIppQg
import Derived.Test.YthoangihndplkaaIppQh
import Derived.Test.YthoangihndplkaaIppO
import Derived.Test.YthoangihndplkaaIppFa
import Derived.Test.YthoangihndplkaaOptsApp
import Derived.OwnWalk

/- A step of the law: which row it is of, what becomes of a policy; contract of 'row'. -/
set_option linter.unusedSimpArgs false
set_option linter.unusedVariables false
namespace Go.Proofs.Ythoangihndplkaa.Ipp
open Go.RowKit Go.Proofs.Ythoangihndplkaa.Oct Go.Proofs.Ythoangihndplkaa.Row Go.Proofs.Ythoangihndplkaa.Mem Go.Proofs.Ythoangihndplkaa.Opt Go.Proofs.Ythoangihndplkaa.Ipc

/-- The row of a step. -/
def stL (p : Po) (s : Stp) : List Opt := if s.o then (if s.d = 3 ∧ 0 < (req p).length then ((req p).drop (s.n.toNat % (req p).length)).take 1 else req p) else s.l
/-- What becomes of a policy. -/
def stP (p : Po) (d : Int) (l : List Opt) : Po := if d = 0 then jP p l else if d = 1 then akP p l else if d = 2 then nkP p l else if d = 3 then rjP p l else p
/-- What holds of a policy all the way. -/
structure Iv (c : Conf) (p : Po) : Prop where
  c : p.c = c
  m : may p.w = true
  n : (p.naks : Int) ≤ p.c.mn
  k : mayC p.c = true
theorem Iv.le {c : Conf} {p : Po} (h : Iv c p) : p.naks ≤ 1000 := by
  have h1 := h.k
  have h2 := h.n
  simp only [mayC, Bool.and_eq_true, decide_eq_true_eq] at h1
  omega
theorem Iv.pos {c : Conf} {p : Po} (h : Iv c p) : 0 ≤ p.c.mn := by
  have h1 := h.k
  simp only [mayC, Bool.and_eq_true, decide_eq_true_eq] at h1
  omega
theorem jP_c (p : Po) (l : List Opt) : (jP p l).c = p.c ∧ (jP p l).w = p.w := by unfold jP; split <;> exact ⟨rfl, rfl⟩
theorem foldl_dropP : ∀ (l : List Opt) (p : Po), may p.w = true → (l.foldl dropP p).c = p.c ∧ (l.foldl dropP p).naks = p.naks ∧ may (l.foldl dropP p).w = true
  | [], _, h => ⟨rfl, rfl, h⟩
  | o :: l, p, h => foldl_dropP l (dropP p o) (drop_may o.1 h)
theorem iv_judge {c : Conf} {p : Po} (h : Iv c p) (l : List Opt) : Iv c (jP p l) := by
  obtain ⟨e1, e2⟩ := jP_c p l
  exact ⟨e1.trans h.c, by rw [e2]; exact h.m, by rw [e1]; exact naks_le h.n h.pos, by rw [e1]; exact h.k⟩
theorem iv_acked {c : Conf} {p : Po} (h : Iv c p) (l : List Opt) : Iv c (akP p l) := by
  unfold akP
  split
  · exact ⟨h.c, h.m, h.n, h.k⟩
  · exact h
theorem iv_naked {c : Conf} {p : Po} (h : Iv c p) (l : List Opt) : Iv c (nkP p l) := by
  unfold nkP
  split
  · exact ⟨h.c, nkW_may h.m, h.n, h.k⟩
  · exact h
theorem iv_rejected {c : Conf} {p : Po} (h : Iv c p) (l : List Opt) : Iv c (rjP p l) := by
  unfold rjP
  split
  · obtain ⟨e1, e2, e3⟩ := foldl_dropP l p h.m
    exact ⟨e1.trans h.c, e3, by rw [e1, e2]; exact h.n, by rw [e1]; exact h.k⟩
  · exact h
theorem iv_step {c : Conf} {p : Po} (h : Iv c p) (d : Int) (l : List Opt) : Iv c (stP p d l) := by
  unfold stP
  split
  · exact iv_judge h l
  · split
    · exact iv_acked h l
    · split
      · exact iv_naked h l
      · split
        · exact iv_rejected h l
        · exact h
theorem iv_new {c : Conf} (h : mayC c = true) : Iv c (newP c) := by
  refine ⟨rfl, ?_, ?_, h⟩
  · show may (wish c) = true
    unfold may wish
    simp
  · simp only [mayC, Bool.and_eq_true, decide_eq_true_eq] at h
    show (0 : Int) ≤ c.mn
    omega
theorem req_small (p : Po) : (req p).length ≤ 3 := by
  unfold req put six
  exact Nat.le_trans (List.length_filterMap_le _ _) (by decide)
theorem stL_small (p : Po) (s : Stp) (h : s.l.length ≤ 70) : (stL p s).length ≤ 70 := by
  have := req_small p
  unfold stL
  split
  · split
    · rw [List.length_take]; omega
    · omega
  · exact h
/-- What 'row' answers: a row with its room. -/
def RwQ (l : List Opt) (w : World) (e : Ending) (w' : World) : Prop := ∃ A c, e = .returned (.slice A l.length c) ∧ Opts w' w'.heap.size A l.length l ∧ Below w.heap.size w w' ∧ l.length ≤ c ∧ (A = none → c = 0)
/-- A step in a variable's block. -/
theorem boxS (w : World) (d : Int) (A : Option Addr) (m c : Nat) (o : Bool) (n : UInt8) : ∃ W, w.alloc (.cells #[.int .i64 d, .slice A m c, .bool o, .int .u8 n.toNat] 46) = W ∧ W.cell? ⟨w.heap.size, 0, none⟩ = some (.int .i64 d) ∧ W.cell? ⟨w.heap.size, 1, none⟩ = some (.slice A m c) ∧ W.cell? ⟨w.heap.size, 2, none⟩ = some (.bool o) ∧ W.cell? ⟨w.heap.size, 3, none⟩ = some (.int .u8 n.toNat) ∧ Hid (Below w.heap.size w W) ∧ Hid (w.heap.size < W.heap.size) := by
  have h := blk_new w [.int .i64 d, .slice A m c, .bool o, .int .u8 n.toNat] 46
  exact ⟨_, rfl, h.at_ 0, h.at_ 1, h.at_ 2, h.at_ 3, (Below.refl w.heap.size w).alloc (Nat.le_refl _) _, h.lt⟩
theorem opt_at {w : World} {B n c k : Nat} {A : Option Addr} {l : List Opt} (h : Opts w B A n l) (hk : k < n) (hn : n ≤ c) (hA : A = none → c = 0) : ∃ A2, A2 = A.map (·.add (k * 2)) ∧ Opts w B A2 1 ((l.drop k).take 1) ∧ (A2 = none → c - k = 0) := by
  obtain ⟨h1, h2, h3⟩ := h
  obtain ⟨ad, e, hb, hc⟩ := h3 (by omega)
  subst e
  refine ⟨some (ad.add (k * 2)), rfl, ⟨by rw [List.length_take, List.length_drop]; omega, fun o ho => h2 o (List.mem_of_mem_drop (List.mem_of_mem_take ho)), fun _ => ⟨_, rfl, by rw [Oct.block_add]; exact hb, fun j hj => ?_⟩⟩, fun e => by cases e⟩
  have hj0 : j = 0 := by rw [List.length_take] at hj; omega
  subst hj0
  have hk' : k < l.length := by omega
  have e : ((l.drop k).take 1)[0] = l[k] := by rw [List.getElem_take, List.getElem_drop]; simp
  rw [e, Nat.zero_mul, add_zero']
  exact hc k hk'
set_option maxHeartbeats 4000000 in
set_option maxRecDepth 100000 in
theorem lrow_any (R : Nat) (p : Po) (s : Stp) (B : Nat) (A : Option Addr) (c : Nat) (w : World) (h : RAt w R p) (hl : Opts w B A s.l.length s.l) (hB : B ≤ w.heap.size) (hc : s.l.length ≤ c) (hA : A = none → c = 0) :
    Calls Try.prog 38 #[.pointer (some ⟨R, 0, none⟩), .agg #[.int .i64 s.d, .slice A s.l.length c, .bool s.o, .int .u8 s.n.toNat]] w (RwQ (stL p s) w) := by
  obtain ⟨d, l, o, n⟩ := s
  simp only at *
  obtain ⟨W, hW, c0, c1, c2, c3, HB, HL⟩ := boxS w d A l.length c o n
  have HR := Lib.hid (rrequest_room R p W (h.callee HB.out))
  have HO : Hid (RwQ l w (.returned (.slice A l.length c)) W) := ⟨A, c, rfl, (hl.below (HB.out.mono hB)).more (Nat.le_trans hB HB.out.size), HB.out, hc, hA⟩
  obtain ⟨m, hm⟩ : ∃ m, l.length = m := ⟨_, rfl⟩
  rw [hm] at hW c1 HO ⊢
  clear hm h hl hc hA
  cases o
  · have e : stL p ⟨d, l, false, n⟩ = l := rfl
    rw [e]
    clear HR e
    go_enter Try.func38, Try.ntmps38
    go_wp2
    go_ret
    exact HO.out
  · have e : stL p ⟨d, l, true, n⟩ = (if d = 3 ∧ 0 < (req p).length then ((req p).drop (n.toNat % (req p).length)).take 1 else req p) := rfl
    rw [e]
    clear HO e
    by_cases h3 : d = 3
    · subst h3
      have hz : Hid (put p.w = req p) := rfl
      obtain ⟨z, hz0⟩ : ∃ z, (req p).length = z := ⟨_, rfl⟩
      have HZ := Lib.hid hz0
      by_cases h0 : 0 < z
      · rw [if_pos ⟨rfl, by rw [HZ.out]; exact h0⟩, hz0]
        obtain ⟨K, hK⟩ : ∃ K, n.toNat % z = K := ⟨_, rfl⟩
        have hKz : K < z := by rw [← hK]; exact Nat.mod_lt _ h0
        have hK1 : (n.toNat : Int).tmod (z : Int) = (K : Int) := by rw [← hK]; rfl
        rw [hK]
        have hz1 : (0 : Int) < (z : Int) := by omega
        have hz2 : ¬ (z : Int) = 0 := by omega
        have hz3 : ((z : Int) == 0) = false := by rw [beq_eq_false_iff_ne]; omega
        have hzs : z ≤ 3 := by rw [← hz0]; exact req_small p
        have hK2 : (K : Int) ≤ 3 := by omega
        have hK3 : (0 : Int) ≤ (K : Int) := Int.natCast_nonneg _
        have hN0 : (0 : Int) ≤ (n.toNat : Int) := Int.natCast_nonneg _
        have hN1 : (n.toNat : Int) ≤ 255 := by have := n.toNat_lt; omega
        clear hK hz0
        go_enter Try.func38, Try.ntmps38
        go_wp2_with fail
        refine HR.out.mono ?_
        rintro e w2 ⟨A2, k2, rfl, hO, hb2, hr, hA⟩
        rw [hz.out] at hO hr ⊢
        rw [HZ.out] at hO hr ⊢
        obtain ⟨A3, hA3, hO3, hA3'⟩ := opt_at hO hKz hr hA
        have hrun : ∀ W, (Instr.slice 29 (.slice A2 z k2) (some (.int .i64 (K : Int))) (some (.int .i64 ((K : Int) + 1))) none).run Try.prog W = .ok (.slice A3 1 (k2 - K)) W := fun W => by
          rw [run_slice_lh W 29 A2 z k2 (by kernel_rfl) .i64 .i64 (K : Int) ((K : Int) + 1) (by omega) (by omega) (by omega)]
          have hsz : ∀ W, (sizeOf (Try.prog.elem 29)).run Try.prog W = .ok 2 W := fun W => by kernel_rfl
          rw [hsz]
          show Result.ok (sliced A2 (K : Int).toNat ((K : Int) + 1).toNat k2 2) W = _
          unfold sliced
          rw [hA3]
          have hne : ¬ k2 = K := by omega
          simp [hne]
        have HQ : Hid (RwQ (((req p).drop K).take 1) w (.returned (.slice A3 1 (k2 - K))) w2) := by
          have e1 : (((req p).drop K).take 1).length = 1 := hO3.1
          refine ⟨A3, k2 - K, by rw [e1], by rw [e1]; exact hO3, HB.out.trans (hb2.mono HB.out.size), by rw [e1]; omega, hA3'⟩
        have d0 := (hb2.cell (p := ⟨w.heap.size, 0, none⟩) HL.out).trans c0
        have d3 := (hb2.cell (p := ⟨w.heap.size, 3, none⟩) HL.out).trans c3
        clear hO hb2 hr hA HR hA3 hO3 hA3'
        go_wp2
        go_ret
        exact HQ.out
      · rw [if_neg (fun e => h0 (by rw [← HZ.out]; exact e.2))]
        obtain rfl : z = 0 := by omega
        clear h0 hz0
        go_enter Try.func38, Try.ntmps38
        go_wp2_with fail
        refine HR.out.mono ?_
        rintro e w2 ⟨A2, k2, rfl, hO, hb2, hr, hA⟩
        have HQ : Hid (RwQ (req p) w (.returned (.slice A2 (req p).length k2)) w2) := ⟨A2, k2, rfl, hO, HB.out.trans (hb2.mono HB.out.size), hr, hA⟩
        have d0 := (hb2.cell (p := ⟨w.heap.size, 0, none⟩) HL.out).trans c0
        rw [hz.out, HZ.out]
        rw [HZ.out] at HQ
        clear hO hb2 hr hA HR
        go_wp2
        go_ret
        exact HQ.out
    · have q3 : (d == 3) = false := by rw [beq_eq_false_iff_ne]; exact h3
      rw [if_neg (fun e => h3 e.1)]
      clear h3
      go_enter Try.func38, Try.ntmps38
      go_wp2_with fail
      refine HR.out.mono ?_
      rintro e w2 ⟨A2, k2, rfl, hO, hb2, hr, hA⟩
      have HQ : Hid (RwQ (req p) w (.returned (.slice A2 (req p).length k2)) w2) := ⟨A2, k2, rfl, hO, HB.out.trans (hb2.mono HB.out.size), hr, hA⟩
      have d0 := (hb2.cell (p := ⟨w.heap.size, 0, none⟩) HL.out).trans c0
      have hz : Hid (put p.w = req p) := rfl
      rw [hz.out]
      clear hO hb2 hr hA HR hz
      generalize (req p).length = z at *
      go_wp2
      go_ret
      exact HQ.out
end Go.Proofs.Ythoangihndplkaa.Ipp

/- The law's 'does': a step, of both policies. -/
set_option linter.unusedSimpArgs false
set_option linter.unusedVariables false
namespace Go.Proofs.Ythoangihndplkaa.Ipp
open Go.RowKit Go.Proofs.Ythoangihndplkaa.Oct Go.Proofs.Ythoangihndplkaa.Row Go.Proofs.Ythoangihndplkaa.Mem Go.Proofs.Ythoangihndplkaa.Opt Go.Proofs.Ythoangihndplkaa.Ipc

set_option maxRecDepth 100000 in
theorem infoO : (Try.prog.info? 48).map (fun i => (i.zero, i.size, i.bytes)) = some (some (.agg #[.int .u8 0, .string ⟨#[]⟩]), 2, 24) := by kernel_rfl
/-- Both policies, alike, in blocks of their own. -/
def Bo (w : World) (g R : Nat) (p : Po) : Prop := PAt w g p ∧ RAt w R p ∧ g ≠ R
theorem Bo.callee {w w' : World} {g R : Nat} {p : Po} (h : Bo w g R p) (hb : Below w.heap.size w w') : Bo w' g R p := ⟨h.1.callee hb, h.2.1.callee hb, h.2.2⟩
def DoQ (g R : Nat) (q : Po) (w : World) (e : Ending) (w' : World) : Prop := e = .returned (.bool true) ∧ Bo w' g R q ∧ Moves (fun k => k = g ∨ k = R) w w'
/-- Ahead of the switch: both rows. -/
structure Pre (w W : World) (g R : Nat) (p : Po) (l : List Opt) (A : Option Addr) (c : Nat) (A' : Option Addr) (c' : Nat) : Prop where
  b : Bo W g R p
  h : Below w.heap.size w W
  rl : Opts W W.heap.size A l.length l
  o : Opts W W.heap.size A' l.length l
  lc : l.length ≤ c ∧ (A = none → c = 0)
  oc : A' = none → c' = 0
theorem own_room {w : World} {base n size : Nat} {e : TypeId} {v : Value} {xs : List Value} (h : w.ownsRow base e size v n xs) : ∃ R rc, v = .slice R n rc ∧ (R = none → rc = 0) := by
  rcases h.2 with ⟨rfl, h0⟩ | ⟨g, cap, cur, rfl, _⟩
  · exact ⟨none, 0, by rw [h0], fun _ => rfl⟩
  · exact ⟨_, _, rfl, fun e => by cases e⟩
theorem moves_gR {g R : Nat} {w W w1 w2 : World} (hb : Below w.heap.size w W) (h1 : Moves (fun k => k = g) W w1) (h2 : Moves (fun k => k = R) w1 w2) : Moves (fun k => k = g ∨ k = R) w w2 :=
  ((Moves.of_below hb).trans (h1.mono (T := fun k => k = g ∨ k = R) fun _ _ e => .inl e) fun _ _ e => e).trans h2 fun _ _ e => .inr e
theorem blk_ne {w : World} {a b : Nat} {cs cs' : List Value} {t t' : TypeId} (h : Blk w a cs t) (h' : Blk w b cs' t') (ht : t ≠ t') : a ≠ b := by
  intro e
  subst e
  have := h.symm.trans h'
  simp at this
  exact ht this.2
theorem sm_self (l : List Opt) : sm l l = true := by simp [sm]
theorem jA_small (p : Po) (l : List Opt) (h : l.length ≤ 70) : (jA p l).length ≤ 80 := by
  have hr : ∀ f : Ver → Option Opt, ((vs p l).filterMap f).length ≤ 70 := fun f => Nat.le_trans (List.length_filterMap_le _ _) (by rw [vs_length]; exact h)
  unfold jA
  split
  · exact Nat.le_trans (hr _) (by decide)
  · unfold sugs
    rw [List.length_append]
    have h1 := hr (fun v => if poor v then some v.bet else none)
    have h2 := miss_len p l
    show (insts (vs p l)).length + _ ≤ 80
    unfold insts
    omega
  · exact Nat.le_trans (hr _) (by decide)
  · omega
theorem reply_two {w W w1 w2 : World} {g R : Nat} {p q : Po} {e : Bool} (h : Bo W g R p) (hb : Below w.heap.size w W) (h1 : PAt w1 g q) (m1 : Moves (fun k => k = g) W w1) (h2 : RAt w2 R q) (m2 : Moves (fun k => k = R) w1 w2) : DoQ g R q w (.returned (.bool true)) w2 :=
  ⟨rfl, ⟨h1.moves m2 h.2.2, h2, h.2.2⟩, moves_gR hb m1 m2⟩
theorem own_opts {w w' : World} {base n B : Nat} {e : TypeId} {A A' : Option Addr} {c' : Nat} {l : List Opt} (h : w.ownsRow base e 2 (.slice A' n c') n (optsV ([] ++ l))) (hl : Opts w' B A l.length l) : Opts w w.heap.size A' n l := by
  obtain ⟨A2, c2, e1, h1⟩ := opts_own (l := [] ++ l) h (fun o ho => hl.2.1 o (by simpa using ho))
  cases e1
  rw [List.nil_append] at h1
  exact h1
set_option maxHeartbeats 8000000 in
set_option maxRecDepth 100000 in
theorem does_acked (g R : Nat) (c0 : Conf) (p : Po) (s : Stp) (B : Nat) (A : Option Addr) (c : Nat) (w : World) (hg : PAt w g p) (hR : RAt w R p) (hv : Iv c0 p) (hl : Opts w B A s.l.length s.l) (hB : B ≤ w.heap.size) (hs : s.l.length ≤ 70) (hc : s.l.length ≤ c) (hA : A = none → c = 0) (hd : s.d = 1) :
    Calls Try.prog 20 #[.pointer (some ⟨g, 0, none⟩), .pointer (some ⟨R, 0, none⟩), .agg #[.int .i64 s.d, .slice A s.l.length c, .bool s.o, .int .u8 s.n.toNat]] w (DoQ g R (stP p s.d (stL p s)) w) := by
  obtain ⟨i0, hi, hz0, hz1, hz2⟩ := info_parts infoO
  obtain ⟨W, hW, c0', c1, c2, c3, HB, HL⟩ := boxS w s.d A s.l.length c s.o s.n
  have HR := Lib.hid (lrow_any R p s B A c W (hR.callee HB.out) (hl.below (HB.out.mono hB)) (Nat.le_trans hB HB.out.size) hc hA)
  have HBo : Hid (Bo W g R p) := ⟨hg.callee HB.out, hR.callee HB.out, blk_ne hg hR (by decide)⟩
  have Hsm := Lib.hid (stL_small p s hs)
  have HV := Lib.hid hv
  obtain ⟨d, sl, o, n⟩ := s
  simp only at *
  subst hd
  obtain ⟨l, hl'⟩ : ∃ l, stL p ⟨1, sl, o, n⟩ = l := ⟨_, rfl⟩
  rw [hl'] at HR Hsm ⊢
  obtain ⟨m, hm⟩ : ∃ m, sl.length = m := ⟨_, rfl⟩
  rw [hm] at hW c1 HR ⊢
  clear hg hR hv hl hB hs hc hA hm hl'
  rw [show stP p 1 l = akP p l from rfl]
  go_enter Try.func20, Try.ntmps20
  go_wp2_with fail
  refine HR.out.mono ?_
  rintro e w2 ⟨A2, k2, rfl, hO, hb2, hr, hA2⟩
  have HO2 := Lib.hid hO
  have HB2 := Lib.hid (HB.out.trans (hb2.mono HB.out.size))
  have HBo2 := Lib.hid (HBo.out.callee hb2)
  have HC2 := Lib.hid (And.intro hr hA2)
  have d0 := (hb2.cell (p := ⟨w.heap.size, 0, none⟩) HL.out).trans c0'
  have lw : w.heap.size < w2.heap.size := Nat.lt_of_lt_of_le HL.out hb2.size
  have hlm : l.length ≤ 70 := Hsm.out
  clear hO hb2 hr hA2 HR
  go_wp2_with (at_builtin; refine append_opts (w := w2) rfl _ _ 29 rfl w2.heap.size 48 i0 _ 24 Try.underlying29 hi hz0 hz1 hz2 rfl (.slice none 0 0) 0 [] rfl (World.ownsRow_nil _ _ _ _) w2.heap.size A2 l.length k2 l HC2.out.2 rfl HO2.out (by unfold maxLen; omega) (by omega) (Nat.le_refl _) ?_; intro v3 w3 hown hgr; obtain ⟨A3, k3, hv3, hA3⟩ := own_room hown; subst hv3; rw [Nat.zero_add] at hown ⊢; have hb3 : Below w2.heap.size w2 w3 := ⟨hgr.os, hgr.tape, hgr.output, hgr.size, fun k hk => hgr.block k hk (by intro e; cases e)⟩; have HP3 : Hid (Pre w w3 g R p l A2 k2 A3 k3) := ⟨HBo2.out.callee hb3, HB2.out.trans (hb3.mono HB2.out.size), HO2.out.next hb3, own_opts hown HO2.out, HC2.out, hA3⟩; have d3 := (hb3.cell (p := ⟨w.heap.size, 0, none⟩) lw).trans d0; clear hown hgr hb3 hA3 HO2 HB2 HBo2 HC2)
  have H1 := Lib.hid (acked_any g p l A3 l.length k3 w3 HP3.out.b.1 HV.out.m HP3.out.o (by omega))
  have H2 := Lib.hid (fun W (h : RAt W R p) (ho : Opts W W.heap.size A2 l.length l) => racked_any R p l A2 l.length k2 W h ho (by omega))
  go_wp2_with fail
  refine H1.out.mono ?_
  rintro e w4 ⟨rfl, h4, m4⟩
  have HG4 := Lib.hid h4
  have HM4 := Lib.hid m4
  have HR4 := Lib.hid (HP3.out.b.2.1.moves m4 (fun e => HP3.out.b.2.2 e.symm))
  have HO4 := Lib.hid ((opts_past HP3.out.rl HP3.out.b.1 (pv_no p) m4 (Nat.le_refl _)).more m4.size)
  clear h4 m4 H1
  go_wp2_with fail
  refine (H2.out _ HR4.out HO4.out).mono ?_
  rintro e w5 ⟨rfl, h5, m5⟩
  have HQ := Lib.hid (reply_two (e := true) HP3.out.b HP3.out.h HG4.out HM4.out h5 m5)
  clear h5 m5 H2
  go_wp2
  go_ret
  first | exact HQ.out | (refine ⟨by simp, HQ.out.2⟩)
set_option maxHeartbeats 8000000 in
set_option maxRecDepth 100000 in
theorem does_naked (g R : Nat) (c0 : Conf) (p : Po) (s : Stp) (B : Nat) (A : Option Addr) (c : Nat) (w : World) (hg : PAt w g p) (hR : RAt w R p) (hv : Iv c0 p) (hl : Opts w B A s.l.length s.l) (hB : B ≤ w.heap.size) (hs : s.l.length ≤ 70) (hc : s.l.length ≤ c) (hA : A = none → c = 0) (hd : s.d = 2) :
    Calls Try.prog 20 #[.pointer (some ⟨g, 0, none⟩), .pointer (some ⟨R, 0, none⟩), .agg #[.int .i64 s.d, .slice A s.l.length c, .bool s.o, .int .u8 s.n.toNat]] w (DoQ g R (stP p s.d (stL p s)) w) := by
  obtain ⟨i0, hi, hz0, hz1, hz2⟩ := info_parts infoO
  obtain ⟨W, hW, c0', c1, c2, c3, HB, HL⟩ := boxS w s.d A s.l.length c s.o s.n
  have HR := Lib.hid (lrow_any R p s B A c W (hR.callee HB.out) (hl.below (HB.out.mono hB)) (Nat.le_trans hB HB.out.size) hc hA)
  have HBo : Hid (Bo W g R p) := ⟨hg.callee HB.out, hR.callee HB.out, blk_ne hg hR (by decide)⟩
  have Hsm := Lib.hid (stL_small p s hs)
  have HV := Lib.hid hv
  obtain ⟨d, sl, o, n⟩ := s
  simp only at *
  subst hd
  obtain ⟨l, hl'⟩ : ∃ l, stL p ⟨2, sl, o, n⟩ = l := ⟨_, rfl⟩
  rw [hl'] at HR Hsm ⊢
  obtain ⟨m, hm⟩ : ∃ m, sl.length = m := ⟨_, rfl⟩
  rw [hm] at hW c1 HR ⊢
  clear hg hR hv hl hB hs hc hA hm hl'
  rw [show stP p 2 l = nkP p l from rfl]
  go_enter Try.func20, Try.ntmps20
  go_wp2_with fail
  refine HR.out.mono ?_
  rintro e w2 ⟨A2, k2, rfl, hO, hb2, hr, hA2⟩
  have HO2 := Lib.hid hO
  have HB2 := Lib.hid (HB.out.trans (hb2.mono HB.out.size))
  have HBo2 := Lib.hid (HBo.out.callee hb2)
  have HC2 := Lib.hid (And.intro hr hA2)
  have d0 := (hb2.cell (p := ⟨w.heap.size, 0, none⟩) HL.out).trans c0'
  have lw : w.heap.size < w2.heap.size := Nat.lt_of_lt_of_le HL.out hb2.size
  have hlm : l.length ≤ 70 := Hsm.out
  clear hO hb2 hr hA2 HR
  go_wp2_with (at_builtin; refine append_opts (w := w2) rfl _ _ 29 rfl w2.heap.size 48 i0 _ 24 Try.underlying29 hi hz0 hz1 hz2 rfl (.slice none 0 0) 0 [] rfl (World.ownsRow_nil _ _ _ _) w2.heap.size A2 l.length k2 l HC2.out.2 rfl HO2.out (by unfold maxLen; omega) (by omega) (Nat.le_refl _) ?_; intro v3 w3 hown hgr; obtain ⟨A3, k3, hv3, hA3⟩ := own_room hown; subst hv3; rw [Nat.zero_add] at hown ⊢; have hb3 : Below w2.heap.size w2 w3 := ⟨hgr.os, hgr.tape, hgr.output, hgr.size, fun k hk => hgr.block k hk (by intro e; cases e)⟩; have HP3 : Hid (Pre w w3 g R p l A2 k2 A3 k3) := ⟨HBo2.out.callee hb3, HB2.out.trans (hb3.mono HB2.out.size), HO2.out.next hb3, own_opts hown HO2.out, HC2.out, hA3⟩; have d3 := (hb3.cell (p := ⟨w.heap.size, 0, none⟩) lw).trans d0; clear hown hgr hb3 hA3 HO2 HB2 HBo2 HC2)
  have H1 := Lib.hid (naked_any g p l A3 l.length k3 w3 HP3.out.b.1 HV.out.m HP3.out.o (by omega))
  have H2 := Lib.hid (fun W (h : RAt W R p) (ho : Opts W W.heap.size A2 l.length l) => rnaked_any R p l A2 l.length k2 W h ho (by omega))
  go_wp2_with fail
  refine H1.out.mono ?_
  rintro e w4 ⟨rfl, h4, m4⟩
  have HG4 := Lib.hid h4
  have HM4 := Lib.hid m4
  have HR4 := Lib.hid (HP3.out.b.2.1.moves m4 (fun e => HP3.out.b.2.2 e.symm))
  have HO4 := Lib.hid ((opts_past HP3.out.rl HP3.out.b.1 (pv_no p) m4 (Nat.le_refl _)).more m4.size)
  clear h4 m4 H1
  go_wp2_with fail
  refine (H2.out _ HR4.out HO4.out).mono ?_
  rintro e w5 ⟨rfl, h5, m5⟩
  have HQ := Lib.hid (reply_two (e := true) HP3.out.b HP3.out.h HG4.out HM4.out h5 m5)
  clear h5 m5 H2
  go_wp2
  go_ret
  first | exact HQ.out | (refine ⟨by simp, HQ.out.2⟩)
set_option maxHeartbeats 8000000 in
set_option maxRecDepth 100000 in
theorem does_rejected (g R : Nat) (c0 : Conf) (p : Po) (s : Stp) (B : Nat) (A : Option Addr) (c : Nat) (w : World) (hg : PAt w g p) (hR : RAt w R p) (hv : Iv c0 p) (hl : Opts w B A s.l.length s.l) (hB : B ≤ w.heap.size) (hs : s.l.length ≤ 70) (hc : s.l.length ≤ c) (hA : A = none → c = 0) (hd : s.d = 3) :
    Calls Try.prog 20 #[.pointer (some ⟨g, 0, none⟩), .pointer (some ⟨R, 0, none⟩), .agg #[.int .i64 s.d, .slice A s.l.length c, .bool s.o, .int .u8 s.n.toNat]] w (DoQ g R (stP p s.d (stL p s)) w) := by
  obtain ⟨i0, hi, hz0, hz1, hz2⟩ := info_parts infoO
  obtain ⟨W, hW, c0', c1, c2, c3, HB, HL⟩ := boxS w s.d A s.l.length c s.o s.n
  have HR := Lib.hid (lrow_any R p s B A c W (hR.callee HB.out) (hl.below (HB.out.mono hB)) (Nat.le_trans hB HB.out.size) hc hA)
  have HBo : Hid (Bo W g R p) := ⟨hg.callee HB.out, hR.callee HB.out, blk_ne hg hR (by decide)⟩
  have Hsm := Lib.hid (stL_small p s hs)
  have HV := Lib.hid hv
  obtain ⟨d, sl, o, n⟩ := s
  simp only at *
  subst hd
  obtain ⟨l, hl'⟩ : ∃ l, stL p ⟨3, sl, o, n⟩ = l := ⟨_, rfl⟩
  rw [hl'] at HR Hsm ⊢
  obtain ⟨m, hm⟩ : ∃ m, sl.length = m := ⟨_, rfl⟩
  rw [hm] at hW c1 HR ⊢
  clear hg hR hv hl hB hs hc hA hm hl'
  rw [show stP p 3 l = rjP p l from rfl]
  go_enter Try.func20, Try.ntmps20
  go_wp2_with fail
  refine HR.out.mono ?_
  rintro e w2 ⟨A2, k2, rfl, hO, hb2, hr, hA2⟩
  have HO2 := Lib.hid hO
  have HB2 := Lib.hid (HB.out.trans (hb2.mono HB.out.size))
  have HBo2 := Lib.hid (HBo.out.callee hb2)
  have HC2 := Lib.hid (And.intro hr hA2)
  have d0 := (hb2.cell (p := ⟨w.heap.size, 0, none⟩) HL.out).trans c0'
  have lw : w.heap.size < w2.heap.size := Nat.lt_of_lt_of_le HL.out hb2.size
  have hlm : l.length ≤ 70 := Hsm.out
  clear hO hb2 hr hA2 HR
  go_wp2_with (at_builtin; refine append_opts (w := w2) rfl _ _ 29 rfl w2.heap.size 48 i0 _ 24 Try.underlying29 hi hz0 hz1 hz2 rfl (.slice none 0 0) 0 [] rfl (World.ownsRow_nil _ _ _ _) w2.heap.size A2 l.length k2 l HC2.out.2 rfl HO2.out (by unfold maxLen; omega) (by omega) (Nat.le_refl _) ?_; intro v3 w3 hown hgr; obtain ⟨A3, k3, hv3, hA3⟩ := own_room hown; subst hv3; rw [Nat.zero_add] at hown ⊢; have hb3 : Below w2.heap.size w2 w3 := ⟨hgr.os, hgr.tape, hgr.output, hgr.size, fun k hk => hgr.block k hk (by intro e; cases e)⟩; have HP3 : Hid (Pre w w3 g R p l A2 k2 A3 k3) := ⟨HBo2.out.callee hb3, HB2.out.trans (hb3.mono HB2.out.size), HO2.out.next hb3, own_opts hown HO2.out, HC2.out, hA3⟩; have d3 := (hb3.cell (p := ⟨w.heap.size, 0, none⟩) lw).trans d0; clear hown hgr hb3 hA3 HO2 HB2 HBo2 HC2)
  have H1 := Lib.hid (rejected_any g p l A3 l.length k3 w3 HP3.out.b.1 HV.out.m HP3.out.o (by omega))
  have H2 := Lib.hid (fun W (h : RAt W R p) (ho : Opts W W.heap.size A2 l.length l) => rrejected_any R p l A2 l.length k2 W h ho (by omega))
  go_wp2_with fail
  refine H1.out.mono ?_
  rintro e w4 ⟨rfl, h4, m4⟩
  have HG4 := Lib.hid h4
  have HM4 := Lib.hid m4
  have HR4 := Lib.hid (HP3.out.b.2.1.moves m4 (fun e => HP3.out.b.2.2 e.symm))
  have HO4 := Lib.hid ((opts_past HP3.out.rl HP3.out.b.1 (pv_no p) m4 (Nat.le_refl _)).more m4.size)
  clear h4 m4 H1
  go_wp2_with fail
  refine (H2.out _ HR4.out HO4.out).mono ?_
  rintro e w5 ⟨rfl, h5, m5⟩
  have HQ := Lib.hid (reply_two (e := true) HP3.out.b HP3.out.h HG4.out HM4.out h5 m5)
  clear h5 m5 H2
  go_wp2
  go_ret
  first | exact HQ.out | (refine ⟨by simp, HQ.out.2⟩)
set_option maxHeartbeats 8000000 in
set_option maxRecDepth 100000 in
theorem does_judge (g R : Nat) (c0 : Conf) (p : Po) (s : Stp) (B : Nat) (A : Option Addr) (c : Nat) (w : World) (hg : PAt w g p) (hR : RAt w R p) (hv : Iv c0 p) (hl : Opts w B A s.l.length s.l) (hB : B ≤ w.heap.size) (hs : s.l.length ≤ 70) (hc : s.l.length ≤ c) (hA : A = none → c = 0) (hd : s.d = 0) :
    Calls Try.prog 20 #[.pointer (some ⟨g, 0, none⟩), .pointer (some ⟨R, 0, none⟩), .agg #[.int .i64 s.d, .slice A s.l.length c, .bool s.o, .int .u8 s.n.toNat]] w (DoQ g R (stP p s.d (stL p s)) w) := by
  obtain ⟨i0, hi, hz0, hz1, hz2⟩ := info_parts infoO
  obtain ⟨W, hW, c0', c1, c2, c3, HB, HL⟩ := boxS w s.d A s.l.length c s.o s.n
  have HR := Lib.hid (lrow_any R p s B A c W (hR.callee HB.out) (hl.below (HB.out.mono hB)) (Nat.le_trans hB HB.out.size) hc hA)
  have HBo : Hid (Bo W g R p) := ⟨hg.callee HB.out, hR.callee HB.out, blk_ne hg hR (by decide)⟩
  have Hsm := Lib.hid (stL_small p s hs)
  have HV := Lib.hid hv
  obtain ⟨d, sl, o, n⟩ := s
  simp only at *
  subst hd
  obtain ⟨l, hl'⟩ : ∃ l, stL p ⟨0, sl, o, n⟩ = l := ⟨_, rfl⟩
  rw [hl'] at HR Hsm ⊢
  obtain ⟨m, hm⟩ : ∃ m, sl.length = m := ⟨_, rfl⟩
  rw [hm] at hW c1 HR ⊢
  clear hg hR hv hl hB hs hc hA hm hl'
  rw [show stP p 0 l = jP p l from rfl]
  go_enter Try.func20, Try.ntmps20
  go_wp2_with fail
  refine HR.out.mono ?_
  rintro e w2 ⟨A2, k2, rfl, hO, hb2, hr, hA2⟩
  have HO2 := Lib.hid hO
  have HB2 := Lib.hid (HB.out.trans (hb2.mono HB.out.size))
  have HBo2 := Lib.hid (HBo.out.callee hb2)
  have HC2 := Lib.hid (And.intro hr hA2)
  have d0 := (hb2.cell (p := ⟨w.heap.size, 0, none⟩) HL.out).trans c0'
  have lw : w.heap.size < w2.heap.size := Nat.lt_of_lt_of_le HL.out hb2.size
  have hlm : l.length ≤ 70 := Hsm.out
  clear hO hb2 hr hA2 HR
  go_wp2_with (at_builtin; refine append_opts (w := w2) rfl _ _ 29 rfl w2.heap.size 48 i0 _ 24 Try.underlying29 hi hz0 hz1 hz2 rfl (.slice none 0 0) 0 [] rfl (World.ownsRow_nil _ _ _ _) w2.heap.size A2 l.length k2 l HC2.out.2 rfl HO2.out (by unfold maxLen; omega) (by omega) (Nat.le_refl _) ?_; intro v3 w3 hown hgr; obtain ⟨A3, k3, hv3, hA3⟩ := own_room hown; subst hv3; rw [Nat.zero_add] at hown ⊢; have hb3 : Below w2.heap.size w2 w3 := ⟨hgr.os, hgr.tape, hgr.output, hgr.size, fun k hk => hgr.block k hk (by intro e; cases e)⟩; have HP3 : Hid (Pre w w3 g R p l A2 k2 A3 k3) := ⟨HBo2.out.callee hb3, HB2.out.trans (hb3.mono HB2.out.size), HO2.out.next hb3, own_opts hown HO2.out, HC2.out, hA3⟩; have d3 := (hb3.cell (p := ⟨w.heap.size, 0, none⟩) lw).trans d0; clear hown hgr hb3 hA3 HO2 HB2 HBo2 HC2)
  have H1 := Lib.hid (judge_any g p l A3 l.length k3 w3 HP3.out.b.1 HP3.out.o HP3.out.oc (by omega) HV.out.le)
  have H2 := Lib.hid (fun W (h : RAt W R p) (ho : Opts W W.heap.size A2 l.length l) => rjudge_any R p l A2 l.length k2 W h ho HP3.out.lc.2 (by omega) HP3.out.lc.1 HV.out.le)
  go_wp2_with fail
  refine H1.out.mono ?_
  rintro e w4 ⟨A4, k4, rfl, o4, h4, m4⟩
  have HG4 := Lib.hid h4
  have HM4 := Lib.hid m4
  have HR4 := Lib.hid (HP3.out.b.2.1.moves m4 (fun e => HP3.out.b.2.2 e.symm))
  have HO4 := Lib.hid ((opts_past HP3.out.rl HP3.out.b.1 (pv_no p) m4 (Nat.le_refl _)).more m4.size)
  have HW4 := Lib.hid ((opts_past HP3.out.o HP3.out.b.1 (pv_no p) m4 (Nat.le_refl _)).more m4.size)
  have HA4 := Lib.hid o4
  clear h4 m4 H1 o4
  go_wp2_with fail
  refine (H2.out _ HR4.out HO4.out).mono ?_
  rintro e w5 ⟨A5, k5, rfl, o5, h5, m5⟩
  have HQ := Lib.hid (reply_two (e := true) HP3.out.b HP3.out.h HG4.out HM4.out h5 m5)
  have HO5 := Lib.hid ((opts_past HO4.out HR4.out (dv_no p) m5 (Nat.le_refl _)).more m5.size)
  have HW5 := Lib.hid ((opts_past HW4.out HR4.out (dv_no p) m5 (Nat.le_refl _)).more m5.size)
  have HA5 := Lib.hid ((opts_past HA4.out HR4.out (dv_no p) m5 (Nat.le_refl _)).more m5.size)
  have HB5 := Lib.hid o5
  have hja := Lib.hid (jA_small p l hlm)
  have S1 : Hid (Calls Try.prog 21 #[.slice A4 (jA p l).length k4, .slice A5 (jA p l).length k5] w5 fun e w' => e = .returned (.bool true) ∧ Below w5.heap.size w5 w') := by
    have h := rsame_any (jA p l) (jA p l) w5.heap.size A4 A5 _ _ k4 k5 w5 HA5.out HB5.out (by unfold maxLen; have := hja.out; omega) (by unfold maxLen; have := hja.out; omega) (Nat.le_refl _)
    rw [sm_self] at h
    exact h
  have S2 : Hid (∀ W, Below w5.heap.size w5 W → Calls Try.prog 21 #[.slice A3 l.length k3, .slice A2 l.length k2] W fun e w' => e = .returned (.bool true) ∧ Below W.heap.size W w') := fun W hb => by
    have h := rsame_any l l W.heap.size A3 A2 _ _ k3 k2 W (HW5.out.next hb) (HO5.out.next hb) (by unfold maxLen; omega) (by unfold maxLen; omega) (Nat.le_refl _)
    rw [sm_self] at h
    exact h
  clear o5 h5 m5 H2 HA4 HW4 HO4 HA5 HB5
  generalize (jA p l).length = z at *
  generalize jC p l = C at *
  go_wp2_with fail
  refine S1.out.mono ?_
  rintro e w6 ⟨rfl, hb6⟩
  have HB6 := Lib.hid hb6
  clear hb6
  go_wp2_with fail
  refine (S2.out _ HB6.out).mono ?_
  rintro e w7 ⟨rfl, hb7⟩
  have HB7 := Lib.hid (HB6.out.trans (hb7.mono HB6.out.size))
  clear hb7
  go_wp2
  go_ret
  exact ⟨rfl, HQ.out.2.1.callee HB7.out, HQ.out.2.2.trans (Moves.of_below HB7.out) fun _ _ e => e⟩
set_option maxHeartbeats 8000000 in
set_option maxRecDepth 100000 in
theorem does_none (g R : Nat) (c0 : Conf) (p : Po) (s : Stp) (B : Nat) (A : Option Addr) (c : Nat) (w : World) (hg : PAt w g p) (hR : RAt w R p) (hv : Iv c0 p) (hl : Opts w B A s.l.length s.l) (hB : B ≤ w.heap.size) (hs : s.l.length ≤ 70) (hc : s.l.length ≤ c) (hA : A = none → c = 0) (h0 : s.d ≠ 0) (h1 : s.d ≠ 1) (h2 : s.d ≠ 2) (h3 : s.d ≠ 3) :
    Calls Try.prog 20 #[.pointer (some ⟨g, 0, none⟩), .pointer (some ⟨R, 0, none⟩), .agg #[.int .i64 s.d, .slice A s.l.length c, .bool s.o, .int .u8 s.n.toNat]] w (DoQ g R (stP p s.d (stL p s)) w) := by
  obtain ⟨i0, hi, hz0, hz1, hz2⟩ := info_parts infoO
  obtain ⟨W, hW, c0', c1, c2, c3, HB, HL⟩ := boxS w s.d A s.l.length c s.o s.n
  have HR := Lib.hid (lrow_any R p s B A c W (hR.callee HB.out) (hl.below (HB.out.mono hB)) (Nat.le_trans hB HB.out.size) hc hA)
  have HBo : Hid (Bo W g R p) := ⟨hg.callee HB.out, hR.callee HB.out, blk_ne hg hR (by decide)⟩
  have Hsm := Lib.hid (stL_small p s hs)
  have HV := Lib.hid hv
  obtain ⟨d, sl, o, n⟩ := s
  simp only at *
  obtain ⟨l, hl'⟩ : ∃ l, stL p ⟨d, sl, o, n⟩ = l := ⟨_, rfl⟩
  rw [hl'] at HR Hsm ⊢
  obtain ⟨m, hm⟩ : ∃ m, sl.length = m := ⟨_, rfl⟩
  rw [hm] at hW c1 HR ⊢
  clear hg hR hv hl hB hs hc hA hm hl'
  rw [show stP p d l = p from by unfold stP; rw [if_neg h0, if_neg h1, if_neg h2, if_neg h3]]
  have q0 : (d == 0) = false := by rw [beq_eq_false_iff_ne]; exact h0
  have q1 : (d == 1) = false := by rw [beq_eq_false_iff_ne]; exact h1
  have q2 : (d == 2) = false := by rw [beq_eq_false_iff_ne]; exact h2
  have q3 : (d == 3) = false := by rw [beq_eq_false_iff_ne]; exact h3
  clear h0 h1 h2 h3
  go_enter Try.func20, Try.ntmps20
  go_wp2_with fail
  refine HR.out.mono ?_
  rintro e w2 ⟨A2, k2, rfl, hO, hb2, hr, hA2⟩
  have HO2 := Lib.hid hO
  have HB2 := Lib.hid (HB.out.trans (hb2.mono HB.out.size))
  have HBo2 := Lib.hid (HBo.out.callee hb2)
  have HC2 := Lib.hid (And.intro hr hA2)
  have d0 := (hb2.cell (p := ⟨w.heap.size, 0, none⟩) HL.out).trans c0'
  have lw : w.heap.size < w2.heap.size := Nat.lt_of_lt_of_le HL.out hb2.size
  have hlm : l.length ≤ 70 := Hsm.out
  clear hO hb2 hr hA2 HR
  go_wp2_with (at_builtin; refine append_opts (w := w2) rfl _ _ 29 rfl w2.heap.size 48 i0 _ 24 Try.underlying29 hi hz0 hz1 hz2 rfl (.slice none 0 0) 0 [] rfl (World.ownsRow_nil _ _ _ _) w2.heap.size A2 l.length k2 l HC2.out.2 rfl HO2.out (by unfold maxLen; omega) (by omega) (Nat.le_refl _) ?_; intro v3 w3 hown hgr; obtain ⟨A3, k3, hv3, hA3⟩ := own_room hown; subst hv3; rw [Nat.zero_add] at hown ⊢; have hb3 : Below w2.heap.size w2 w3 := ⟨hgr.os, hgr.tape, hgr.output, hgr.size, fun k hk => hgr.block k hk (by intro e; cases e)⟩; have HP3 : Hid (Pre w w3 g R p l A2 k2 A3 k3) := ⟨HBo2.out.callee hb3, HB2.out.trans (hb3.mono HB2.out.size), HO2.out.next hb3, own_opts hown HO2.out, HC2.out, hA3⟩; have d3 := (hb3.cell (p := ⟨w.heap.size, 0, none⟩) lw).trans d0; clear hown hgr hb3 hA3 HO2 HB2 HBo2 HC2)
  go_wp2
  go_ret
  exact ⟨rfl, HP3.out.b, Moves.of_below HP3.out.h⟩
theorem does_any (g R : Nat) (c0 : Conf) (p : Po) (s : Stp) (B : Nat) (A : Option Addr) (c : Nat) (w : World) (hg : PAt w g p) (hR : RAt w R p) (hv : Iv c0 p) (hl : Opts w B A s.l.length s.l) (hB : B ≤ w.heap.size) (hs : s.l.length ≤ 70) (hc : s.l.length ≤ c) (hA : A = none → c = 0) :
    Calls Try.prog 20 #[.pointer (some ⟨g, 0, none⟩), .pointer (some ⟨R, 0, none⟩), .agg #[.int .i64 s.d, .slice A s.l.length c, .bool s.o, .int .u8 s.n.toNat]] w (DoQ g R (stP p s.d (stL p s)) w) := by
  by_cases h0 : s.d = 0
  · exact does_judge g R c0 p s B A c w hg hR hv hl hB hs hc hA h0
  · by_cases h1 : s.d = 1
    · exact does_acked g R c0 p s B A c w hg hR hv hl hB hs hc hA h1
    · by_cases h2 : s.d = 2
      · exact does_naked g R c0 p s B A c w hg hR hv hl hB hs hc hA h2
      · by_cases h3 : s.d = 3
        · exact does_rejected g R c0 p s B A c w hg hR hv hl hB hs hc hA h3
        · exact does_none g R c0 p s B A c w hg hR hv hl hB hs hc hA h0 h1 h2 h3
end Go.Proofs.Ythoangihndplkaa.Ipp
