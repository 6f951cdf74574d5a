/- Put together: PolQi, PolQj, PolQk. -/
import Derived.Test.YtpohcejgblahiaaGreatGPolQf
import Derived.Test.YtpohcejgblahiaaGreatPolQh
import Derived.Test.YtpohcejgblahiaaGreatOptsStep
import Derived.Test.YtpohcejgblahiaaGreatGPolDa
import Derived.Test.YtpohcejgblahiaaGreatGPolQa
import Derived.Test.YtpohcejgblahiaaGreatLcoSr
import Derived.Test.YtpohcejgblahiaaGreatOptsApp
import Derived.OwnWalk
import Derived.Test.YtpohcejgblahiaaGreatGLcoEq

/- A step of the law: which row it is of, what becomes of a policy; contract of 'row'. -/
set_option linter.unusedSimpArgs false
set_option linter.unusedVariables false
namespace Go.Proofs.YtpohcejgblahiaaGreat.Pol
open Go.RowKit Go.Proofs.YtpohcejgblahiaaGreat.Oct Go.Proofs.YtpohcejgblahiaaGreat.Row Go.Proofs.YtpohcejgblahiaaGreat.Mem Go.Proofs.YtpohcejgblahiaaGreat.Opt Go.Proofs.YtpohcejgblahiaaGreat.Lco

/-- The row of a step. -/
def stL (p : Po) (s : Stp5) : List Opt := if s.o then (if s.d = 3 ∧ 0 < (req p).length then ((req p).drop (s.n.toNat % (req p).length)).take 1 else req p) else s.l
/-- What becomes of a policy. -/
def stP (p : Po) (d : Int) (v : UInt32) (l : List Opt) : Po := if d = 0 then jP p l else if d = 1 then akP p l else if d = 2 then nkP p v l else if d = 3 then rjP p l else p
/-- What holds of a policy all the way, behind N steps. -/
structure Iv (c : Conf) (N : Nat) (p : Po) : Prop where
  c : p.c = c
  m : may p.w = true
  n : (p.naks : Int) ≤ p.c.mn
  k : mayC p.c = true
  l : p.loops ≤ N
theorem mayC_mn {c : Conf} (h : mayC c = true) : 1 ≤ c.mn ∧ c.mn ≤ 10 ∧ c.can ≤ 3 := by
  unfold mayC at h
  simp only [Bool.and_eq_true, decide_eq_true_eq] at h
  exact ⟨h.1.2, h.2, h.1.1.1.2⟩
theorem Iv.le {c : Conf} {N : Nat} {p : Po} (h : Iv c N p) : p.naks ≤ 1000 := by
  have h1 := mayC_mn h.k
  have h2 := h.n
  omega
theorem Iv.can {c : Conf} {N : Nat} {p : Po} (h : Iv c N p) : p.c.can ≤ 3 := (mayC_mn h.k).2.2
theorem jP_c (p : Po) (l : List Opt) : (jP p l).c = p.c ∧ (jP p l).w = p.w ∧ (jP p l).loops ≤ p.loops + 1 := by
  have e1 : (loopP p l).c = p.c := loop_c p l
  have e2 : (loopP p l).w = p.w := by unfold loopP; split <;> rfl
  have e3 : (loopP p l).loops ≤ p.loops + 1 := by
    unfold loopP
    split
    · exact Nat.le_refl _
    · exact Nat.le_succ _
  unfold jP
  split
  · exact ⟨e1, e2, e3⟩
  · split
    · split
      · exact ⟨e1, e2, e3⟩
      · exact ⟨e1, e2, e3⟩
    · exact ⟨e1, e2, e3⟩
theorem jP_naks {p : Po} (l : List Opt) (h : (p.naks : Int) ≤ p.c.mn) (h1 : 1 ≤ p.c.mn) : ((jP p l).naks : Int) ≤ p.c.mn := by
  unfold jP
  split
  · show ((0 : Nat) : Int) ≤ _; omega
  · split
    · split
      · show ((0 : Nat) : Int) ≤ _; omega
      · show ((p.naks + 1 : Nat) : Int) ≤ _; omega
    · show ((0 : Nat) : Int) ≤ _; omega
theorem foldl_dropP : ∀ (l : List Opt) (p : Po), may p.w = true → (l.foldl dropP p).c = p.c ∧ (l.foldl dropP p).naks = p.naks ∧ may (l.foldl dropP p).w = true ∧ (l.foldl dropP p).loops = p.loops
  | [], _, h => ⟨rfl, rfl, h, rfl⟩
  | o :: l, p, h => foldl_dropP l (dropP p o) (drop_may o.1 h)
theorem iv_judge {c : Conf} {N : Nat} {p : Po} (h : Iv c N p) (l : List Opt) : Iv c (N + 1) (jP p l) := by
  obtain ⟨e1, e2, e3⟩ := jP_c p l
  exact ⟨e1.trans h.c, by rw [e2]; exact h.m, by rw [e1]; exact jP_naks l h.n (mayC_mn h.k).1, by rw [e1]; exact h.k, Nat.le_trans e3 (Nat.succ_le_succ h.l)⟩
theorem Iv.next {c : Conf} {N : Nat} {p : Po} (h : Iv c N p) : Iv c (N + 1) p := ⟨h.c, h.m, h.n, h.k, Nat.le_succ_of_le h.l⟩
theorem iv_acked {c : Conf} {N : Nat} {p : Po} (h : Iv c N p) (l : List Opt) : Iv c N (akP p l) := by
  unfold akP
  split
  · exact ⟨h.c, h.m, h.n, h.k, h.l⟩
  · exact h
theorem iv_naked {c : Conf} {N : Nat} {p : Po} (h : Iv c N p) (d : UInt32) (l : List Opt) : Iv c N (nkP p d l) := by
  have hm := nkP_may d l h.m
  unfold nkP at hm ⊢
  split
  · rename_i e
    rw [if_pos e] at hm
    exact ⟨h.c, hm, h.n, h.k, h.l⟩
  · exact h
theorem iv_rejected {c : Conf} {N : Nat} {p : Po} (h : Iv c N p) (l : List Opt) : Iv c N (rjP p l) := by
  unfold rjP
  split
  · obtain ⟨e1, e2, e3, e4⟩ := foldl_dropP l p h.m
    exact ⟨e1.trans h.c, e3, by rw [e1, e2]; exact h.n, by rw [e1]; exact h.k, by rw [e4]; exact h.l⟩
  · exact h
theorem iv_step {c : Conf} {N : Nat} {p : Po} (h : Iv c N p) (d : Int) (v : UInt32) (l : List Opt) : Iv c (N + 1) (stP p d v l) := by
  unfold stP
  split
  · exact iv_judge h l
  · split
    · exact (iv_acked h l).next
    · split
      · exact (iv_naked h v l).next
      · split
        · exact (iv_rejected h l).next
        · exact h.next
theorem iv_new {c : Conf} (m : UInt32) (N : Nat) (h : mayC c = true) : Iv c N (newP c m) := by
  refine ⟨rfl, wish_may m h, ?_, h, Nat.zero_le _⟩
  have := mayC_mn h
  show ((0 : Nat) : Int) ≤ c.mn
  omega
theorem req_small (p : Po) : (req p).length ≤ 6 := put_len6 p.w
theorem stL_small (p : Po) (s : Stp5) (h : s.l.length ≤ 70) : (stL p s).length ≤ 70 := by
  have := req_small p
  unfold stL
  split
  · split
    · rw [List.length_take]; omega
    · omega
  · exact h
/-- What 'row' answers: a row with its room. -/
def RwQ (l : List Opt) (w : World) (e : Ending) (w' : World) : Prop := ∃ A c, e = .returned (.slice A l.length c) ∧ Opts w' w'.heap.size A l.length l ∧ Below w.heap.size w w' ∧ l.length ≤ c ∧ (A = none → c = 0)
/-- A step in a variable's block. -/
theorem boxS (w : World) (d : Int) (A : Option Addr) (m c : Nat) (o : Bool) (n : UInt8) (v : UInt32) : ∃ W, w.alloc (.cells #[.int .i64 d, .slice A m c, .bool o, .int .u8 n.toNat, .int .u32 v.toNat] 49) = W ∧ W.cell? ⟨w.heap.size, 0, none⟩ = some (.int .i64 d) ∧ W.cell? ⟨w.heap.size, 1, none⟩ = some (.slice A m c) ∧ W.cell? ⟨w.heap.size, 2, none⟩ = some (.bool o) ∧ W.cell? ⟨w.heap.size, 3, none⟩ = some (.int .u8 n.toNat) ∧ W.cell? ⟨w.heap.size, 4, none⟩ = some (.int .u32 v.toNat) ∧ Hid (Below w.heap.size w W) ∧ Hid (w.heap.size < W.heap.size) := by
  have h := blk_new w [.int .i64 d, .slice A m c, .bool o, .int .u8 n.toNat, .int .u32 v.toNat] 49
  exact ⟨_, rfl, h.at_ 0, h.at_ 1, h.at_ 2, h.at_ 3, h.at_ 4, (Below.refl w.heap.size w).alloc (Nat.le_refl _) _, h.lt⟩
theorem opt_at {w : World} {B n c k : Nat} {A : Option Addr} {l : List Opt} (h : Opts w B A n l) (hk : k < n) (hn : n ≤ c) (hA : A = none → c = 0) : ∃ A2, A2 = A.map (·.add (k * 2)) ∧ Opts w B A2 1 ((l.drop k).take 1) ∧ (A2 = none → c - k = 0) := by
  obtain ⟨h1, h2, h3⟩ := h
  obtain ⟨ad, e, hb, hc⟩ := h3 (by omega)
  subst e
  refine ⟨some (ad.add (k * 2)), rfl, ⟨by rw [List.length_take, List.length_drop]; omega, fun o ho => h2 o (List.mem_of_mem_drop (List.mem_of_mem_take ho)), fun _ => ⟨_, rfl, by rw [Oct.block_add]; exact hb, fun j hj => ?_⟩⟩, fun e => by cases e⟩
  have hj0 : j = 0 := by rw [List.length_take] at hj; omega
  subst hj0
  have hk' : k < l.length := by omega
  have e : ((l.drop k).take 1)[0] = l[k] := by rw [List.getElem_take, List.getElem_drop]; simp
  rw [e, Nat.zero_mul, add_zero']
  exact hc k hk'
set_option maxHeartbeats 4000000 in
set_option maxRecDepth 100000 in
theorem lrow_any (R : Nat) (p : Po) (s : Stp5) (B : Nat) (A : Option Addr) (c : Nat) (w : World) (h : RAt w R p) (hmy : may p.w = true) (hl : Opts w B A s.l.length s.l) (hB : B ≤ w.heap.size) (hc : s.l.length ≤ c) (hA : A = none → c = 0) :
    Calls Tryz.prog 45 #[.pointer (some ⟨R, 0, none⟩), .agg #[.int .i64 s.d, .slice A s.l.length c, .bool s.o, .int .u8 s.n.toNat, .int .u32 s.v.toNat]] w (RwQ (stL p s) w) := by
  obtain ⟨d, l, o, n, v⟩ := s
  simp only at *
  obtain ⟨W, hW, c0, c1, c2, c3, c4, HB, HL⟩ := boxS w d A l.length c o n v
  have HR := Lib.hid (rrequest_room R p W (h.callee HB.out) hmy)
  have HO : Hid (RwQ l w (.returned (.slice A l.length c)) W) := ⟨A, c, rfl, (hl.below (HB.out.mono hB)).more (Nat.le_trans hB HB.out.size), HB.out, hc, hA⟩
  obtain ⟨m, hm⟩ : ∃ m, l.length = m := ⟨_, rfl⟩
  rw [hm] at hW c1 HO ⊢
  clear hm h hmy hl hc hA
  cases o
  · have e : stL p ⟨d, l, false, n, v⟩ = l := rfl
    rw [e]
    clear HR e
    go_enter Tryz.func45, Tryz.ntmps45
    go_wp2
    go_ret
    exact HO.out
  · have e : stL p ⟨d, l, true, n, v⟩ = (if d = 3 ∧ 0 < (req p).length then ((req p).drop (n.toNat % (req p).length)).take 1 else req p) := rfl
    rw [e]
    clear HO e
    by_cases h3 : d = 3
    · subst h3
      have hz : Hid (put p.w = req p) := rfl
      obtain ⟨z, hz0⟩ : ∃ z, (req p).length = z := ⟨_, rfl⟩
      have HZ := Lib.hid hz0
      by_cases h0 : 0 < z
      · rw [if_pos ⟨rfl, by rw [HZ.out]; exact h0⟩, hz0]
        obtain ⟨K, hK⟩ : ∃ K, n.toNat % z = K := ⟨_, rfl⟩
        have hKz : K < z := by rw [← hK]; exact Nat.mod_lt _ h0
        have hK1 : (n.toNat : Int).tmod (z : Int) = (K : Int) := by rw [← hK]; rfl
        rw [hK]
        have hz1 : (0 : Int) < (z : Int) := by omega
        have hz2 : ¬ (z : Int) = 0 := by omega
        have hz3 : ((z : Int) == 0) = false := by rw [beq_eq_false_iff_ne]; omega
        have hzs : z ≤ 6 := by rw [← hz0]; exact req_small p
        have hK2 : (K : Int) ≤ 6 := by omega
        have hK3 : (0 : Int) ≤ (K : Int) := Int.natCast_nonneg _
        have hN0 : (0 : Int) ≤ (n.toNat : Int) := Int.natCast_nonneg _
        have hN1 : (n.toNat : Int) ≤ 255 := by have := n.toNat_lt; omega
        clear hK hz0
        go_enter Tryz.func45, Tryz.ntmps45
        go_wp2_with fail
        refine HR.out.mono ?_
        rintro e w2 ⟨A2, k2, rfl, hO, hb2, hr, hA⟩
        rw [hz.out] at hO hr ⊢
        rw [HZ.out] at hO hr ⊢
        obtain ⟨A3, hA3, hO3, hA3'⟩ := opt_at hO hKz hr hA
        have hrun : ∀ W, (Instr.slice 30 (.slice A2 z k2) (some (.int .i64 (K : Int))) (some (.int .i64 ((K : Int) + 1))) none).run Tryz.prog W = .ok (.slice A3 1 (k2 - K)) W := fun W => by
          rw [run_slice_lh W 30 A2 z k2 (by kernel_rfl) .i64 .i64 (K : Int) ((K : Int) + 1) (by omega) (by omega) (by omega)]
          have hsz : ∀ W, (sizeOf (Tryz.prog.elem 30)).run Tryz.prog W = .ok 2 W := fun W => by kernel_rfl
          rw [hsz]
          show Result.ok (sliced A2 (K : Int).toNat ((K : Int) + 1).toNat k2 2) W = _
          unfold sliced
          rw [hA3]
          have hne : ¬ k2 = K := by omega
          simp [hne]
        have HQ : Hid (RwQ (((req p).drop K).take 1) w (.returned (.slice A3 1 (k2 - K))) w2) := by
          have e1 : (((req p).drop K).take 1).length = 1 := hO3.1
          refine ⟨A3, k2 - K, by rw [e1], by rw [e1]; exact hO3, HB.out.trans (hb2.mono HB.out.size), by rw [e1]; omega, hA3'⟩
        have d0 := (hb2.cell (p := ⟨w.heap.size, 0, none⟩) HL.out).trans c0
        have d3 := (hb2.cell (p := ⟨w.heap.size, 3, none⟩) HL.out).trans c3
        clear hO hb2 hr hA HR hA3 hO3 hA3'
        go_wp2
        go_ret
        exact HQ.out
      · rw [if_neg (fun e => h0 (by rw [← HZ.out]; exact e.2))]
        obtain rfl : z = 0 := by omega
        clear h0 hz0
        go_enter Tryz.func45, Tryz.ntmps45
        go_wp2_with fail
        refine HR.out.mono ?_
        rintro e w2 ⟨A2, k2, rfl, hO, hb2, hr, hA⟩
        have HQ : Hid (RwQ (req p) w (.returned (.slice A2 (req p).length k2)) w2) := ⟨A2, k2, rfl, hO, HB.out.trans (hb2.mono HB.out.size), hr, hA⟩
        have d0 := (hb2.cell (p := ⟨w.heap.size, 0, none⟩) HL.out).trans c0
        rw [hz.out, HZ.out]
        rw [HZ.out] at HQ
        clear hO hb2 hr hA HR
        go_wp2
        go_ret
        exact HQ.out
    · have q3 : (d == 3) = false := by rw [beq_eq_false_iff_ne]; exact h3
      rw [if_neg (fun e => h3 e.1)]
      clear h3
      go_enter Tryz.func45, Tryz.ntmps45
      go_wp2_with fail
      refine HR.out.mono ?_
      rintro e w2 ⟨A2, k2, rfl, hO, hb2, hr, hA⟩
      have HQ : Hid (RwQ (req p) w (.returned (.slice A2 (req p).length k2)) w2) := ⟨A2, k2, rfl, hO, HB.out.trans (hb2.mono HB.out.size), hr, hA⟩
      have d0 := (hb2.cell (p := ⟨w.heap.size, 0, none⟩) HL.out).trans c0
      have hz : Hid (put p.w = req p) := rfl
      rw [hz.out]
      clear hO hb2 hr hA HR hz
      generalize (req p).length = z at *
      go_wp2
      go_ret
      exact HQ.out
end Go.Proofs.YtpohcejgblahiaaGreat.Pol

/- The law's 'does': a step, of both policies. -/
set_option linter.unusedSimpArgs false
set_option linter.unusedVariables false
namespace Go.Proofs.YtpohcejgblahiaaGreat.Pol
open Go.RowKit Go.Proofs.YtpohcejgblahiaaGreat.Oct Go.Proofs.YtpohcejgblahiaaGreat.Row Go.Proofs.YtpohcejgblahiaaGreat.Mem Go.Proofs.YtpohcejgblahiaaGreat.Opt Go.Proofs.YtpohcejgblahiaaGreat.Lco

set_option maxRecDepth 100000 in
theorem infoO : (Tryz.prog.info? 51).map (fun i => (i.zero, i.size, i.bytes)) = some (some (.agg #[.int .u8 0, .string ⟨#[]⟩]), 2, 24) := by kernel_rfl
/-- Both policies, alike, in blocks of their own. -/
def Bo (w : World) (g R : Nat) (p : Po) : Prop := PAt w g p ∧ RAt w R p ∧ g ≠ R
theorem Bo.callee {w w' : World} {g R : Nat} {p : Po} (h : Bo w g R p) (hb : Below w.heap.size w w') : Bo w' g R p := ⟨h.1.callee hb, h.2.1.callee hb, h.2.2⟩
def DoQ (g R : Nat) (q : Po) (w : World) (e : Ending) (w' : World) : Prop := e = .returned (.bool true) ∧ Bo w' g R q ∧ Moves (fun k => k = g ∨ k = R) w w'
/-- Ahead of the switch: both rows. -/
structure Pre (w W : World) (g R : Nat) (p : Po) (l : List Opt) (A : Option Addr) (c : Nat) (A' : Option Addr) (c' : Nat) : Prop where
  b : Bo W g R p
  h : Below w.heap.size w W
  rl : Opts W W.heap.size A l.length l
  o : Opts W W.heap.size A' l.length l
  lc : l.length ≤ c ∧ (A = none → c = 0)
  oc : A' = none → c' = 0
theorem own_room {w : World} {base n size : Nat} {e : TypeId} {v : Value} {xs : List Value} (h : w.ownsRow base e size v n xs) : ∃ R rc, v = .slice R n rc ∧ (R = none → rc = 0) := by
  rcases h.2 with ⟨rfl, h0⟩ | ⟨g, cap, cur, rfl, _⟩
  · exact ⟨none, 0, by rw [h0], fun _ => rfl⟩
  · exact ⟨_, _, rfl, fun e => by cases e⟩
theorem moves_gR {g R : Nat} {w W w1 w2 : World} (hb : Below w.heap.size w W) (h1 : Moves (fun k => k = g) W w1) (h2 : Moves (fun k => k = R) w1 w2) : Moves (fun k => k = g ∨ k = R) w w2 :=
  ((Moves.of_below hb).trans (h1.mono (T := fun k => k = g ∨ k = R) fun _ _ e => .inl e) fun _ _ e => e).trans h2 fun _ _ e => .inr e
theorem blk_ne {w : World} {a b : Nat} {cs cs' : List Value} {t t' : TypeId} (h : Blk w a cs t) (h' : Blk w b cs' t') (ht : t ≠ t') : a ≠ b := by
  intro e
  subst e
  have := h.symm.trans h'
  simp at this
  exact ht this.2
theorem sm_self (l : List Opt) : sm l l = true := by simp [sm]
theorem jA_small (p : Po) (l : List Opt) (h : l.length ≤ 70) : (jA p l).length ≤ 80 := by
  have hr : ∀ f : Ver → Option Opt, ((vs p l).filterMap f).length ≤ 70 := fun f => Nat.le_trans (List.length_filterMap_le _ _) (by rw [vs_length]; exact h)
  unfold jA
  split
  · exact Nat.le_trans (hr _) (by decide)
  · split
    · split
      · exact Nat.le_trans (hr _) (by decide)
      · exact Nat.le_trans (hr _) (by decide)
    · omega
theorem reply_two {w W w1 w2 : World} {g R : Nat} {p q : Po} {e : Bool} (h : Bo W g R p) (hb : Below w.heap.size w W) (h1 : PAt w1 g q) (m1 : Moves (fun k => k = g) W w1) (h2 : RAt w2 R q) (m2 : Moves (fun k => k = R) w1 w2) : DoQ g R q w (.returned (.bool true)) w2 :=
  ⟨rfl, ⟨h1.moves m2 h.2.2, h2, h.2.2⟩, moves_gR hb m1 m2⟩
theorem Pre.drew {w W : World} {g R : Nat} {p : Po} {l : List Opt} {A A' : Option Addr} {c c' : Nat} (h : Pre w W g R p l A c A' c') : Pre w W.drew g R p l A c A' c' := ⟨⟨h.b.1, h.b.2.1, h.b.2.2⟩, h.h.drew, h.rl, h.o, h.lc, h.oc⟩
theorem moves_cell {w w' : World} {g b i : Nat} {v : Value} (h : Moves (fun k => k = g) w w') (hb : b ≠ g) (hc : w.cell? ⟨b, i, none⟩ = some v) : w'.cell? ⟨b, i, none⟩ = w.cell? ⟨b, i, none⟩ := h.cell (World.block_lt_of_cell? _ _ hc) hb
theorem own_opts {w w' : World} {base n B : Nat} {e : TypeId} {A A' : Option Addr} {c' : Nat} {l : List Opt} (h : w.ownsRow base e 2 (.slice A' n c') n (optsV ([] ++ l))) (hl : Opts w' B A l.length l) : Opts w w.heap.size A' n l := by
  obtain ⟨A2, c2, e1, h1⟩ := opts_own (l := [] ++ l) h (fun o ho => hl.2.1 o (by simpa using ho))
  cases e1
  rw [List.nil_append] at h1
  exact h1
set_option maxHeartbeats 8000000 in
set_option maxRecDepth 100000 in
theorem does_acked (g R : Nat) (c0 : Conf) (N : Nat) (p : Po) (s : Stp5) (B : Nat) (A : Option Addr) (c : Nat) (w : World) (hg : PAt w g p) (hR : RAt w R p) (hv : Iv c0 N p) (hN : N ≤ 1000) (hl : Opts w B A s.l.length s.l) (hB : B ≤ w.heap.size) (hs : s.l.length ≤ 70) (hc : s.l.length ≤ c) (hA : A = none → c = 0) (hd : s.d = 1) :
    Calls Tryz.prog 22 #[.pointer (some ⟨g, 0, none⟩), .pointer (some ⟨R, 0, none⟩), .agg #[.int .i64 s.d, .slice A s.l.length c, .bool s.o, .int .u8 s.n.toNat, .int .u32 s.v.toNat]] w (DoQ g R (stP p s.d s.v (stL p s)) w) := by
  obtain ⟨i0, hi, hz0, hz1, hz2⟩ := info_parts infoO
  obtain ⟨W, hW, c0', c1, c2, c3, c4', HB, HL⟩ := boxS w s.d A s.l.length c s.o s.n s.v
  have HR := Lib.hid (lrow_any R p s B A c W (hR.callee HB.out) hv.m (hl.below (HB.out.mono hB)) (Nat.le_trans hB HB.out.size) hc hA)
  have HBo : Hid (Bo W g R p) := ⟨hg.callee HB.out, hR.callee HB.out, blk_ne hg hR (by decide)⟩
  have Hsm := Lib.hid (stL_small p s hs)
  have HV := Lib.hid hv
  have HLo : Hid (p.loops ≤ 1000000) := Nat.le_trans hv.l (Nat.le_trans hN (by decide))
  clear hN
  obtain ⟨d, sl, o, n, v⟩ := s
  simp only at *
  subst hd
  obtain ⟨l, hl'⟩ : ∃ l, stL p ⟨1, sl, o, n, v⟩ = l := ⟨_, rfl⟩
  rw [hl'] at HR Hsm ⊢
  obtain ⟨m, hm⟩ : ∃ m, sl.length = m := ⟨_, rfl⟩
  rw [hm] at hW c1 HR ⊢
  clear hg hR hv hl hB hs hc hA hm hl'
  rw [show stP p 1 v l = akP p l from rfl]
  go_enter Tryz.func22, Tryz.ntmps22
  go_wp2_with fail
  refine HR.out.mono ?_
  rintro e w2 ⟨A2, k2, rfl, hO, hb2, hr, hA2⟩
  have HO2 := Lib.hid hO
  have HB2 := Lib.hid (HB.out.trans (hb2.mono HB.out.size))
  have HBo2 := Lib.hid (HBo.out.callee hb2)
  have HC2 := Lib.hid (And.intro hr hA2)
  have d0 := (hb2.cell (p := ⟨w.heap.size, 0, none⟩) HL.out).trans c0'
  have lw : w.heap.size < w2.heap.size := Nat.lt_of_lt_of_le HL.out hb2.size
  have hlm : l.length ≤ 70 := Hsm.out
  clear hO hb2 hr hA2 HR
  go_wp2_with (at_builtin; refine append_opts (w := w2) rfl _ _ 30 rfl w2.heap.size 51 i0 _ 24 Tryz.underlying30 hi hz0 hz1 hz2 rfl (.slice none 0 0) 0 [] rfl (World.ownsRow_nil _ _ _ _) w2.heap.size A2 l.length k2 l HC2.out.2 rfl HO2.out (by unfold maxLen; omega) (by omega) (Nat.le_refl _) ?_; intro v3 w3 hown hgr; obtain ⟨A3, k3, hv3, hA3⟩ := own_room hown; subst hv3; rw [Nat.zero_add] at hown ⊢; have hb3 : Below w2.heap.size w2 w3 := ⟨hgr.os, hgr.tape, hgr.output, hgr.size, fun k hk => hgr.block k hk (by intro e; cases e)⟩; have HP3 : Hid (Pre w w3 g R p l A2 k2 A3 k3) := ⟨HBo2.out.callee hb3, HB2.out.trans (hb3.mono HB2.out.size), HO2.out.next hb3, own_opts hown HO2.out, HC2.out, hA3⟩; have d3 := (hb3.cell (p := ⟨w.heap.size, 0, none⟩) lw).trans d0; clear hown hgr hb3 hA3 HO2 HB2 HBo2 HC2)
  have H1 := Lib.hid (acked_any g p l A3 l.length k3 w3 HP3.out.b.1 HV.out.m HP3.out.o (by omega))
  have H2 := Lib.hid (fun W (h : RAt W R p) (ho : Opts W W.heap.size A2 l.length l) => racked_any R p l A2 l.length k2 W h HV.out.m ho (by omega))
  go_wp2_with fail
  refine H1.out.mono ?_
  rintro e w4 ⟨rfl, h4, m4⟩
  have HG4 := Lib.hid h4
  have HM4 := Lib.hid m4
  have HR4 := Lib.hid (HP3.out.b.2.1.moves m4 (fun e => HP3.out.b.2.2 e.symm))
  have HO4 := Lib.hid ((opts_past HP3.out.rl HP3.out.b.1 (pv_no p) m4 (Nat.le_refl _)).more m4.size)
  clear h4 m4 H1
  go_wp2_with fail
  refine (H2.out _ HR4.out HO4.out).mono ?_
  rintro e w5 ⟨rfl, h5, m5⟩
  have HQ := Lib.hid (reply_two (e := true) HP3.out.b HP3.out.h HG4.out HM4.out h5 m5)
  clear h5 m5 H2
  go_wp2
  go_ret
  first | exact HQ.out | (refine ⟨by simp, HQ.out.2⟩)
set_option maxHeartbeats 8000000 in
set_option maxRecDepth 100000 in
theorem does_naked (g R : Nat) (c0 : Conf) (N : Nat) (p : Po) (s : Stp5) (B : Nat) (A : Option Addr) (c : Nat) (w : World) (hg : PAt w g p) (hR : RAt w R p) (hv : Iv c0 N p) (hN : N ≤ 1000) (hl : Opts w B A s.l.length s.l) (hB : B ≤ w.heap.size) (hs : s.l.length ≤ 70) (hc : s.l.length ≤ c) (hA : A = none → c = 0) (hd : s.d = 2) :
    Calls Tryz.prog 22 #[.pointer (some ⟨g, 0, none⟩), .pointer (some ⟨R, 0, none⟩), .agg #[.int .i64 s.d, .slice A s.l.length c, .bool s.o, .int .u8 s.n.toNat, .int .u32 s.v.toNat]] w (DoQ g R (stP p s.d s.v (stL p s)) w) := by
  obtain ⟨i0, hi, hz0, hz1, hz2⟩ := info_parts infoO
  obtain ⟨W, hW, c0', c1, c2, c3, c4', HB, HL⟩ := boxS w s.d A s.l.length c s.o s.n s.v
  have HR := Lib.hid (lrow_any R p s B A c W (hR.callee HB.out) hv.m (hl.below (HB.out.mono hB)) (Nat.le_trans hB HB.out.size) hc hA)
  have HBo : Hid (Bo W g R p) := ⟨hg.callee HB.out, hR.callee HB.out, blk_ne hg hR (by decide)⟩
  have Hsm := Lib.hid (stL_small p s hs)
  have HV := Lib.hid hv
  have HLo : Hid (p.loops ≤ 1000000) := Nat.le_trans hv.l (Nat.le_trans hN (by decide))
  clear hN
  obtain ⟨d, sl, o, n, v⟩ := s
  simp only at *
  subst hd
  obtain ⟨l, hl'⟩ : ∃ l, stL p ⟨2, sl, o, n, v⟩ = l := ⟨_, rfl⟩
  rw [hl'] at HR Hsm ⊢
  obtain ⟨m, hm⟩ : ∃ m, sl.length = m := ⟨_, rfl⟩
  rw [hm] at hW c1 HR ⊢
  have Hgn0 : Hid (w.heap.size ≠ g ∧ w.heap.size ≠ R) := ⟨fun e => Nat.lt_irrefl _ (by have := hg.lt; rw [← e] at this; exact this), fun e => Nat.lt_irrefl _ (by have := hR.lt; rw [← e] at this; exact this)⟩
  clear hg hR hv hl hB hs hc hA hm hl'
  rw [show stP p 2 v l = nkP p v l from rfl]
  go_enter Tryz.func22, Tryz.ntmps22
  go_wp2_with fail
  refine HR.out.mono ?_
  rintro e w2 ⟨A2, k2, rfl, hO, hb2, hr, hA2⟩
  have HO2 := Lib.hid hO
  have HB2 := Lib.hid (HB.out.trans (hb2.mono HB.out.size))
  have HBo2 := Lib.hid (HBo.out.callee hb2)
  have HC2 := Lib.hid (And.intro hr hA2)
  have d0 := (hb2.cell (p := ⟨w.heap.size, 0, none⟩) HL.out).trans c0'
  have d4a := (hb2.cell (p := ⟨w.heap.size, 4, none⟩) HL.out).trans c4'
  have lw : w.heap.size < w2.heap.size := Nat.lt_of_lt_of_le HL.out hb2.size
  have hlm : l.length ≤ 70 := Hsm.out
  clear hO hb2 hr hA2 HR
  go_wp2_with (at_builtin; refine append_opts (w := w2) rfl _ _ 30 rfl w2.heap.size 51 i0 _ 24 Tryz.underlying30 hi hz0 hz1 hz2 rfl (.slice none 0 0) 0 [] rfl (World.ownsRow_nil _ _ _ _) w2.heap.size A2 l.length k2 l HC2.out.2 rfl HO2.out (by unfold maxLen; omega) (by omega) (Nat.le_refl _) ?_; intro v3 w3 hown hgr; obtain ⟨A3, k3, hv3, hA3⟩ := own_room hown; subst hv3; rw [Nat.zero_add] at hown ⊢; have hb3 : Below w2.heap.size w2 w3 := ⟨hgr.os, hgr.tape, hgr.output, hgr.size, fun k hk => hgr.block k hk (by intro e; cases e)⟩; have HP3 : Hid (Pre w w3 g R p l A2 k2 A3 k3) := ⟨HBo2.out.callee hb3, HB2.out.trans (hb3.mono HB2.out.size), HO2.out.next hb3, own_opts hown HO2.out, HC2.out, hA3⟩; have d3 := (hb3.cell (p := ⟨w.heap.size, 0, none⟩) lw).trans d0; have d4 := (hb3.cell (p := ⟨w.heap.size, 4, none⟩) lw).trans d4a; clear hown hgr hb3 hA3 HO2 HB2 HBo2 HC2)
  have hgn : w.heap.size ≠ g ∧ w.heap.size ≠ R := Hgn0.out
  have e4' : w3.cell? ⟨w.heap.size, 4, none⟩ = some (.int .u32 v.toNat) := d4
  clear Hgn0
  go_wp2_with fail
  have HPd : Hid (Pre w w3.drew g R p l A2 k2 A3 k3) := HP3.out.drew
  have e4 : w3.drew.cell? ⟨w.heap.size, 4, none⟩ = some (.int .u32 v.toNat) := e4'
  have Hgn : Hid (w.heap.size ≠ g ∧ w.heap.size ≠ R) := hgn
  clear hgn d3 e4' HP3 c4' d0 lw d4 d4a
  refine wp_region_held_drew (S := fun w' => w'.cell? ⟨w.heap.size, 4, none⟩ = some (.int .u32 v.toNat)) (by kernel_rfl) e4 (fun hHeld => ?_)
  generalize w3.drew = U at *
  refine wpAnyH_take (i := 0) (v := ?vv0_1) rfl (by kernel_rfl) (by kernel_rfl) (by kernel_rfl) (fun _ _ _ h => h) (Or.inl ⟨by rfl, ?yy0_1⟩) (by assumption) ?rr0_1
  case yy0_1 => (intro w hSw; (try dsimp only at hSw); (try simp only [List.getElem_toArray, List.getElem_cons_succ, List.getElem_cons_zero, Act.put, List.setIfInBounds_toArray, List.set_cons_zero, List.set_cons_succ]); go_simp; (try (with_reducible rfl)))
  try simp only [List.getElem_toArray, List.getElem_cons_succ, List.getElem_cons_zero, Act.put, List.setIfInBounds_toArray, List.set_cons_zero, List.set_cons_succ]
  refine wpAnyH_take (i := 1) (v := ?vv1_2) rfl (by kernel_rfl) (by kernel_rfl) (by kernel_rfl) (fun _ _ _ h => h) (Or.inl ⟨by rfl, ?yy1_2⟩) (by assumption) ?rr1_2
  case yy1_2 => (intro w hSw; (try dsimp only at hSw); (try simp only [List.getElem_toArray, List.getElem_cons_succ, List.getElem_cons_zero, Act.put, List.setIfInBounds_toArray, List.set_cons_zero, List.set_cons_succ]); go_simp; (try (with_reducible rfl)))
  try simp only [List.getElem_toArray, List.getElem_cons_succ, List.getElem_cons_zero, Act.put, List.setIfInBounds_toArray, List.set_cons_zero, List.set_cons_succ]
  refine wpAnyH_take (i := 2) (v := ?vv2_3) rfl (by kernel_rfl) (by kernel_rfl) (by kernel_rfl) (fun _ _ _ h => h) (Or.inl ⟨by rfl, ?yy2_3⟩) (by assumption) ?rr2_3
  case yy2_3 => (intro w hSw; (try dsimp only at hSw); (try simp only [List.getElem_toArray, List.getElem_cons_succ, List.getElem_cons_zero, Act.put, List.setIfInBounds_toArray, List.set_cons_zero, List.set_cons_succ]); go_simp; (try (with_reducible rfl)))
  try simp only [List.getElem_toArray, List.getElem_cons_succ, List.getElem_cons_zero, Act.put, List.setIfInBounds_toArray, List.set_cons_zero, List.set_cons_succ]
  refine wpAnyH_take (i := 3) (v := ?vv3_4) rfl (by kernel_rfl) (by kernel_rfl) (by kernel_rfl) (fun _ _ _ h => h) (Or.inl ⟨by rfl, ?yy3_4⟩) (by assumption) ?rr3_4
  case yy3_4 => (intro w hSw; (try dsimp only at hSw); (try simp only [List.getElem_toArray, List.getElem_cons_succ, List.getElem_cons_zero, Act.put, List.setIfInBounds_toArray, List.set_cons_zero, List.set_cons_succ]); go_simp; (try (with_reducible rfl)))
  try simp only [List.getElem_toArray, List.getElem_cons_succ, List.getElem_cons_zero, Act.put, List.setIfInBounds_toArray, List.set_cons_zero, List.set_cons_succ]
  refine wpAnyH_take (i := 5) (v := ?vv5_5) rfl (by kernel_rfl) (by kernel_rfl) (by kernel_rfl) (fun _ _ _ h => h) (Or.inl ⟨by rfl, ?yy5_5⟩) (by assumption) ?rr5_5
  case yy5_5 => (intro w hSw; (try dsimp only at hSw); (try simp only [List.getElem_toArray, List.getElem_cons_succ, List.getElem_cons_zero, Act.put, List.setIfInBounds_toArray, List.set_cons_zero, List.set_cons_succ]); go_simp; (try (with_reducible rfl)))
  try simp only [List.getElem_toArray, List.getElem_cons_succ, List.getElem_cons_zero, Act.put, List.setIfInBounds_toArray, List.set_cons_zero, List.set_cons_succ]
  refine wpAnyH_take (i := 6) (v := ?vv6_6) rfl (by kernel_rfl) (by kernel_rfl) (by kernel_rfl) (fun _ _ _ h => h) (Or.inl ⟨by rfl, ?yy6_6⟩) (by assumption) ?rr6_6
  case yy6_6 => (intro w hSw; (try dsimp only at hSw); (try simp only [List.getElem_toArray, List.getElem_cons_succ, List.getElem_cons_zero, Act.put, List.setIfInBounds_toArray, List.set_cons_zero, List.set_cons_succ]); go_simp; (try (with_reducible rfl)))
  try simp only [List.getElem_toArray, List.getElem_cons_succ, List.getElem_cons_zero, Act.put, List.setIfInBounds_toArray, List.set_cons_zero, List.set_cons_succ]
  refine wpAnyH_take (i := 7) (v := ?vv7_7) rfl (by kernel_rfl) (by kernel_rfl) (by kernel_rfl) (fun _ _ _ h => h) (Or.inl ⟨by rfl, ?yy7_7⟩) (by assumption) ?rr7_7
  case yy7_7 => (intro w hSw; (try dsimp only at hSw); (try simp only [List.getElem_toArray, List.getElem_cons_succ, List.getElem_cons_zero, Act.put, List.setIfInBounds_toArray, List.set_cons_zero, List.set_cons_succ]); go_simp; (try (with_reducible rfl)))
  try simp only [List.getElem_toArray, List.getElem_cons_succ, List.getElem_cons_zero, Act.put, List.setIfInBounds_toArray, List.set_cons_zero, List.set_cons_succ]
  refine wpAnyH_take (i := 8) (v := ?vv8_8) rfl (by kernel_rfl) (by kernel_rfl) (by kernel_rfl) (fun _ _ _ h => h) (Or.inl ⟨by rfl, ?yy8_8⟩) (by assumption) ?rr8_8
  case yy8_8 => (intro w hSw; (try dsimp only at hSw); (try simp only [List.getElem_toArray, List.getElem_cons_succ, List.getElem_cons_zero, Act.put, List.setIfInBounds_toArray, List.set_cons_zero, List.set_cons_succ]); go_simp; (try (with_reducible rfl)))
  try simp only [List.getElem_toArray, List.getElem_cons_succ, List.getElem_cons_zero, Act.put, List.setIfInBounds_toArray, List.set_cons_zero, List.set_cons_succ]
  refine wpAnyH_ready (rs := [4]) (by kernel_rfl) (by simp) ?_
  refine AllReadyH.cons (o := _) rfl (fun K hK => ?_) AllReadyH.nil
  try simp only [List.getElem_toArray, List.getElem_cons_succ, List.getElem_cons_zero, Act.put, List.setIfInBounds_toArray, List.set_cons_zero, List.set_cons_succ]
  go_simp
  refine (naked_any g p v l A3 l.length k3 U HPd.out.b.1 HV.out.m HPd.out.o (by omega)).mono ?_
  rintro e w4 ⟨rfl, h4, m4⟩
  have HG4 := Lib.hid h4
  have HM4 := Lib.hid m4
  have HR4 := Lib.hid (HPd.out.b.2.1.moves m4 (fun e => HPd.out.b.2.2 e.symm))
  have HO4 := Lib.hid ((opts_past HPd.out.rl HPd.out.b.1 (pv_no p) m4 (Nat.le_refl _)).more m4.size)
  have s4 : w4.cell? ⟨w.heap.size, 4, none⟩ = some (.int .u32 v.toNat) := (moves_cell m4 Hgn.out.1 e4).trans e4
  clear h4 m4
  refine hK.out _ _ s4 (fun hHeld => ?_)
  clear hK K
  try simp only [List.getElem_toArray, List.getElem_cons_succ, List.getElem_cons_zero, Act.put, List.setIfInBounds_toArray, List.set_cons_zero, List.set_cons_succ]
  refine wpAnyH_ready (rs := [9]) (by kernel_rfl) (by simp) ?_
  refine AllReadyH.cons (o := _) rfl (fun K hK => ?_) AllReadyH.nil
  try simp only [List.getElem_toArray, List.getElem_cons_succ, List.getElem_cons_zero, Act.put, List.setIfInBounds_toArray, List.set_cons_zero, List.set_cons_succ]
  go_simp
  refine (rnaked_any R p v l A2 l.length k2 _ HR4.out HO4.out (by omega)).mono ?_
  rintro e w5 ⟨rfl, h5, m5⟩
  have HQ := Lib.hid (reply_two (e := true) HPd.out.b HPd.out.h HG4.out HM4.out h5 m5)
  have s5 : w5.cell? ⟨w.heap.size, 4, none⟩ = some (.int .u32 v.toNat) := (moves_cell m5 Hgn.out.2 s4).trans s4
  clear h5 m5
  refine hK.out _ _ s5 (fun hHeld => ?_)
  clear hK K
  try simp only [List.getElem_toArray, List.getElem_cons_succ, List.getElem_cons_zero, Act.put, List.setIfInBounds_toArray, List.set_cons_zero, List.set_cons_succ]
  refine wpAnyH_take (i := 10) (v := ?vv10_9) rfl (by kernel_rfl) (by kernel_rfl) (by kernel_rfl) (fun _ _ _ h => h) (Or.inl ⟨by rfl, ?yy10_9⟩) (by assumption) ?rr10_9
  case yy10_9 => (intro w hSw; (try dsimp only at hSw); (try simp only [List.getElem_toArray, List.getElem_cons_succ, List.getElem_cons_zero, Act.put, List.setIfInBounds_toArray, List.set_cons_zero, List.set_cons_succ]); go_simp; (try (with_reducible rfl)))
  try simp only [List.getElem_toArray, List.getElem_cons_succ, List.getElem_cons_zero, Act.put, List.setIfInBounds_toArray, List.set_cons_zero, List.set_cons_succ]
  refine wpAnyH_take (i := 11) (v := ?vv11_10) rfl (by kernel_rfl) (by kernel_rfl) (by kernel_rfl) (fun _ _ _ h => h) (Or.inl ⟨by rfl, ?yy11_10⟩) (by assumption) ?rr11_10
  case yy11_10 => (intro w hSw; (try dsimp only at hSw); (try simp only [List.getElem_toArray, List.getElem_cons_succ, List.getElem_cons_zero, Act.put, List.setIfInBounds_toArray, List.set_cons_zero, List.set_cons_succ]); go_simp; (try (with_reducible rfl)))
  try simp only [List.getElem_toArray, List.getElem_cons_succ, List.getElem_cons_zero, Act.put, List.setIfInBounds_toArray, List.set_cons_zero, List.set_cons_succ]
  refine wpAnyH_done (by kernel_rfl) ?_ _
  go_wp2
  go_ret
  first | exact HQ.out | (refine ⟨by simp, HQ.out.2⟩)
set_option maxHeartbeats 8000000 in
set_option maxRecDepth 100000 in
theorem does_rejected (g R : Nat) (c0 : Conf) (N : Nat) (p : Po) (s : Stp5) (B : Nat) (A : Option Addr) (c : Nat) (w : World) (hg : PAt w g p) (hR : RAt w R p) (hv : Iv c0 N p) (hN : N ≤ 1000) (hl : Opts w B A s.l.length s.l) (hB : B ≤ w.heap.size) (hs : s.l.length ≤ 70) (hc : s.l.length ≤ c) (hA : A = none → c = 0) (hd : s.d = 3) :
    Calls Tryz.prog 22 #[.pointer (some ⟨g, 0, none⟩), .pointer (some ⟨R, 0, none⟩), .agg #[.int .i64 s.d, .slice A s.l.length c, .bool s.o, .int .u8 s.n.toNat, .int .u32 s.v.toNat]] w (DoQ g R (stP p s.d s.v (stL p s)) w) := by
  obtain ⟨i0, hi, hz0, hz1, hz2⟩ := info_parts infoO
  obtain ⟨W, hW, c0', c1, c2, c3, c4', HB, HL⟩ := boxS w s.d A s.l.length c s.o s.n s.v
  have HR := Lib.hid (lrow_any R p s B A c W (hR.callee HB.out) hv.m (hl.below (HB.out.mono hB)) (Nat.le_trans hB HB.out.size) hc hA)
  have HBo : Hid (Bo W g R p) := ⟨hg.callee HB.out, hR.callee HB.out, blk_ne hg hR (by decide)⟩
  have Hsm := Lib.hid (stL_small p s hs)
  have HV := Lib.hid hv
  have HLo : Hid (p.loops ≤ 1000000) := Nat.le_trans hv.l (Nat.le_trans hN (by decide))
  clear hN
  obtain ⟨d, sl, o, n, v⟩ := s
  simp only at *
  subst hd
  obtain ⟨l, hl'⟩ : ∃ l, stL p ⟨3, sl, o, n, v⟩ = l := ⟨_, rfl⟩
  rw [hl'] at HR Hsm ⊢
  obtain ⟨m, hm⟩ : ∃ m, sl.length = m := ⟨_, rfl⟩
  rw [hm] at hW c1 HR ⊢
  clear hg hR hv hl hB hs hc hA hm hl'
  rw [show stP p 3 v l = rjP p l from rfl]
  go_enter Tryz.func22, Tryz.ntmps22
  go_wp2_with fail
  refine HR.out.mono ?_
  rintro e w2 ⟨A2, k2, rfl, hO, hb2, hr, hA2⟩
  have HO2 := Lib.hid hO
  have HB2 := Lib.hid (HB.out.trans (hb2.mono HB.out.size))
  have HBo2 := Lib.hid (HBo.out.callee hb2)
  have HC2 := Lib.hid (And.intro hr hA2)
  have d0 := (hb2.cell (p := ⟨w.heap.size, 0, none⟩) HL.out).trans c0'
  have lw : w.heap.size < w2.heap.size := Nat.lt_of_lt_of_le HL.out hb2.size
  have hlm : l.length ≤ 70 := Hsm.out
  clear hO hb2 hr hA2 HR
  go_wp2_with (at_builtin; refine append_opts (w := w2) rfl _ _ 30 rfl w2.heap.size 51 i0 _ 24 Tryz.underlying30 hi hz0 hz1 hz2 rfl (.slice none 0 0) 0 [] rfl (World.ownsRow_nil _ _ _ _) w2.heap.size A2 l.length k2 l HC2.out.2 rfl HO2.out (by unfold maxLen; omega) (by omega) (Nat.le_refl _) ?_; intro v3 w3 hown hgr; obtain ⟨A3, k3, hv3, hA3⟩ := own_room hown; subst hv3; rw [Nat.zero_add] at hown ⊢; have hb3 : Below w2.heap.size w2 w3 := ⟨hgr.os, hgr.tape, hgr.output, hgr.size, fun k hk => hgr.block k hk (by intro e; cases e)⟩; have HP3 : Hid (Pre w w3 g R p l A2 k2 A3 k3) := ⟨HBo2.out.callee hb3, HB2.out.trans (hb3.mono HB2.out.size), HO2.out.next hb3, own_opts hown HO2.out, HC2.out, hA3⟩; have d3 := (hb3.cell (p := ⟨w.heap.size, 0, none⟩) lw).trans d0; clear hown hgr hb3 hA3 HO2 HB2 HBo2 HC2)
  have H1 := Lib.hid (rejected_any g p l A3 l.length k3 w3 HP3.out.b.1 HV.out.m HP3.out.o (by omega))
  have H2 := Lib.hid (fun W (h : RAt W R p) (ho : Opts W W.heap.size A2 l.length l) => rrejected_any R p l A2 l.length k2 W h HV.out.m ho (by omega))
  go_wp2_with fail
  refine H1.out.mono ?_
  rintro e w4 ⟨rfl, h4, m4⟩
  have HG4 := Lib.hid h4
  have HM4 := Lib.hid m4
  have HR4 := Lib.hid (HP3.out.b.2.1.moves m4 (fun e => HP3.out.b.2.2 e.symm))
  have HO4 := Lib.hid ((opts_past HP3.out.rl HP3.out.b.1 (pv_no p) m4 (Nat.le_refl _)).more m4.size)
  clear h4 m4 H1
  go_wp2_with fail
  refine (H2.out _ HR4.out HO4.out).mono ?_
  rintro e w5 ⟨rfl, h5, m5⟩
  have HQ := Lib.hid (reply_two (e := true) HP3.out.b HP3.out.h HG4.out HM4.out h5 m5)
  clear h5 m5 H2
  go_wp2
  go_ret
  first | exact HQ.out | (refine ⟨by simp, HQ.out.2⟩)
set_option maxHeartbeats 8000000 in
set_option maxRecDepth 100000 in
theorem does_judge (g R : Nat) (c0 : Conf) (N : Nat) (p : Po) (s : Stp5) (B : Nat) (A : Option Addr) (c : Nat) (w : World) (hg : PAt w g p) (hR : RAt w R p) (hv : Iv c0 N p) (hN : N ≤ 1000) (hl : Opts w B A s.l.length s.l) (hB : B ≤ w.heap.size) (hs : s.l.length ≤ 70) (hc : s.l.length ≤ c) (hA : A = none → c = 0) (hd : s.d = 0) :
    Calls Tryz.prog 22 #[.pointer (some ⟨g, 0, none⟩), .pointer (some ⟨R, 0, none⟩), .agg #[.int .i64 s.d, .slice A s.l.length c, .bool s.o, .int .u8 s.n.toNat, .int .u32 s.v.toNat]] w (DoQ g R (stP p s.d s.v (stL p s)) w) := by
  obtain ⟨i0, hi, hz0, hz1, hz2⟩ := info_parts infoO
  obtain ⟨W, hW, c0', c1, c2, c3, c4', HB, HL⟩ := boxS w s.d A s.l.length c s.o s.n s.v
  have HR := Lib.hid (lrow_any R p s B A c W (hR.callee HB.out) hv.m (hl.below (HB.out.mono hB)) (Nat.le_trans hB HB.out.size) hc hA)
  have HBo : Hid (Bo W g R p) := ⟨hg.callee HB.out, hR.callee HB.out, blk_ne hg hR (by decide)⟩
  have Hsm := Lib.hid (stL_small p s hs)
  have HV := Lib.hid hv
  have HLo : Hid (p.loops ≤ 1000000) := Nat.le_trans hv.l (Nat.le_trans hN (by decide))
  clear hN
  obtain ⟨d, sl, o, n, v⟩ := s
  simp only at *
  subst hd
  obtain ⟨l, hl'⟩ : ∃ l, stL p ⟨0, sl, o, n, v⟩ = l := ⟨_, rfl⟩
  rw [hl'] at HR Hsm ⊢
  obtain ⟨m, hm⟩ : ∃ m, sl.length = m := ⟨_, rfl⟩
  rw [hm] at hW c1 HR ⊢
  clear hg hR hv hl hB hs hc hA hm hl'
  rw [show stP p 0 v l = jP p l from rfl]
  go_enter Tryz.func22, Tryz.ntmps22
  go_wp2_with fail
  refine HR.out.mono ?_
  rintro e w2 ⟨A2, k2, rfl, hO, hb2, hr, hA2⟩
  have HO2 := Lib.hid hO
  have HB2 := Lib.hid (HB.out.trans (hb2.mono HB.out.size))
  have HBo2 := Lib.hid (HBo.out.callee hb2)
  have HC2 := Lib.hid (And.intro hr hA2)
  have d0 := (hb2.cell (p := ⟨w.heap.size, 0, none⟩) HL.out).trans c0'
  have lw : w.heap.size < w2.heap.size := Nat.lt_of_lt_of_le HL.out hb2.size
  have hlm : l.length ≤ 70 := Hsm.out
  clear hO hb2 hr hA2 HR
  go_wp2_with (at_builtin; refine append_opts (w := w2) rfl _ _ 30 rfl w2.heap.size 51 i0 _ 24 Tryz.underlying30 hi hz0 hz1 hz2 rfl (.slice none 0 0) 0 [] rfl (World.ownsRow_nil _ _ _ _) w2.heap.size A2 l.length k2 l HC2.out.2 rfl HO2.out (by unfold maxLen; omega) (by omega) (Nat.le_refl _) ?_; intro v3 w3 hown hgr; obtain ⟨A3, k3, hv3, hA3⟩ := own_room hown; subst hv3; rw [Nat.zero_add] at hown ⊢; have hb3 : Below w2.heap.size w2 w3 := ⟨hgr.os, hgr.tape, hgr.output, hgr.size, fun k hk => hgr.block k hk (by intro e; cases e)⟩; have HP3 : Hid (Pre w w3 g R p l A2 k2 A3 k3) := ⟨HBo2.out.callee hb3, HB2.out.trans (hb3.mono HB2.out.size), HO2.out.next hb3, own_opts hown HO2.out, HC2.out, hA3⟩; have d3 := (hb3.cell (p := ⟨w.heap.size, 0, none⟩) lw).trans d0; clear hown hgr hb3 hA3 HO2 HB2 HBo2 HC2)
  have H1 := Lib.hid (judge_any g p l A3 l.length k3 w3 HP3.out.b.1 HP3.out.o HP3.out.oc (by omega) HV.out.le HLo.out)
  have H2 := Lib.hid (fun W (h : RAt W R p) (ho : Opts W W.heap.size A2 l.length l) => rjudge_any R p l A2 l.length k2 W h ho HP3.out.lc.2 (by omega) HP3.out.lc.1 HV.out.le HLo.out HV.out.n HV.out.can)
  go_wp2_with fail
  refine H1.out.mono ?_
  rintro e w4 ⟨A4, k4, rfl, o4, h4, m4⟩
  have HG4 := Lib.hid h4
  have HM4 := Lib.hid m4
  have HR4 := Lib.hid (HP3.out.b.2.1.moves m4 (fun e => HP3.out.b.2.2 e.symm))
  have HO4 := Lib.hid ((opts_past HP3.out.rl HP3.out.b.1 (pv_no p) m4 (Nat.le_refl _)).more m4.size)
  have HW4 := Lib.hid ((opts_past HP3.out.o HP3.out.b.1 (pv_no p) m4 (Nat.le_refl _)).more m4.size)
  have HA4 := Lib.hid o4
  clear h4 m4 H1 o4
  go_wp2_with fail
  refine (H2.out _ HR4.out HO4.out).mono ?_
  rintro e w5 ⟨A5, k5, rfl, o5, h5, m5⟩
  have HQ := Lib.hid (reply_two (e := true) HP3.out.b HP3.out.h HG4.out HM4.out h5 m5)
  have HO5 := Lib.hid ((opts_past HO4.out HR4.out (dv_no p) m5 (Nat.le_refl _)).more m5.size)
  have HW5 := Lib.hid ((opts_past HW4.out HR4.out (dv_no p) m5 (Nat.le_refl _)).more m5.size)
  have HA5 := Lib.hid ((opts_past HA4.out HR4.out (dv_no p) m5 (Nat.le_refl _)).more m5.size)
  have HB5 := Lib.hid o5
  have hja := Lib.hid (jA_small p l hlm)
  have S1 : Hid (Calls Tryz.prog 25 #[.slice A4 (jA p l).length k4, .slice A5 (jA p l).length k5] w5 fun e w' => e = .returned (.bool true) ∧ Below w5.heap.size w5 w') := by
    have h := rsame_any (jA p l) (jA p l) w5.heap.size A4 A5 _ _ k4 k5 w5 HA5.out HB5.out (by unfold maxLen; have := hja.out; omega) (by unfold maxLen; have := hja.out; omega) (Nat.le_refl _)
    rw [sm_self] at h
    exact h
  have S2 : Hid (∀ W, Below w5.heap.size w5 W → Calls Tryz.prog 25 #[.slice A3 l.length k3, .slice A2 l.length k2] W fun e w' => e = .returned (.bool true) ∧ Below W.heap.size W w') := fun W hb => by
    have h := rsame_any l l W.heap.size A3 A2 _ _ k3 k2 W (HW5.out.next hb) (HO5.out.next hb) (by unfold maxLen; omega) (by unfold maxLen; omega) (Nat.le_refl _)
    rw [sm_self] at h
    exact h
  clear o5 h5 m5 H2 HA4 HW4 HO4 HA5 HB5
  generalize (jA p l).length = z at *
  generalize jC p l = C at *
  go_wp2_with fail
  refine S1.out.mono ?_
  rintro e w6 ⟨rfl, hb6⟩
  have HB6 := Lib.hid hb6
  clear hb6
  go_wp2_with fail
  refine (S2.out _ HB6.out).mono ?_
  rintro e w7 ⟨rfl, hb7⟩
  have HB7 := Lib.hid (HB6.out.trans (hb7.mono HB6.out.size))
  clear hb7
  go_wp2
  go_ret
  exact ⟨rfl, HQ.out.2.1.callee HB7.out, HQ.out.2.2.trans (Moves.of_below HB7.out) fun _ _ e => e⟩
set_option maxHeartbeats 8000000 in
set_option maxRecDepth 100000 in
theorem does_none (g R : Nat) (c0 : Conf) (N : Nat) (p : Po) (s : Stp5) (B : Nat) (A : Option Addr) (c : Nat) (w : World) (hg : PAt w g p) (hR : RAt w R p) (hv : Iv c0 N p) (hN : N ≤ 1000) (hl : Opts w B A s.l.length s.l) (hB : B ≤ w.heap.size) (hs : s.l.length ≤ 70) (hc : s.l.length ≤ c) (hA : A = none → c = 0) (h0 : s.d ≠ 0) (h1 : s.d ≠ 1) (h2 : s.d ≠ 2) (h3 : s.d ≠ 3) :
    Calls Tryz.prog 22 #[.pointer (some ⟨g, 0, none⟩), .pointer (some ⟨R, 0, none⟩), .agg #[.int .i64 s.d, .slice A s.l.length c, .bool s.o, .int .u8 s.n.toNat, .int .u32 s.v.toNat]] w (DoQ g R (stP p s.d s.v (stL p s)) w) := by
  obtain ⟨i0, hi, hz0, hz1, hz2⟩ := info_parts infoO
  obtain ⟨W, hW, c0', c1, c2, c3, c4', HB, HL⟩ := boxS w s.d A s.l.length c s.o s.n s.v
  have HR := Lib.hid (lrow_any R p s B A c W (hR.callee HB.out) hv.m (hl.below (HB.out.mono hB)) (Nat.le_trans hB HB.out.size) hc hA)
  have HBo : Hid (Bo W g R p) := ⟨hg.callee HB.out, hR.callee HB.out, blk_ne hg hR (by decide)⟩
  have Hsm := Lib.hid (stL_small p s hs)
  have HV := Lib.hid hv
  have HLo : Hid (p.loops ≤ 1000000) := Nat.le_trans hv.l (Nat.le_trans hN (by decide))
  clear hN
  obtain ⟨d, sl, o, n, v⟩ := s
  simp only at *
  obtain ⟨l, hl'⟩ : ∃ l, stL p ⟨d, sl, o, n, v⟩ = l := ⟨_, rfl⟩
  rw [hl'] at HR Hsm ⊢
  obtain ⟨m, hm⟩ : ∃ m, sl.length = m := ⟨_, rfl⟩
  rw [hm] at hW c1 HR ⊢
  clear hg hR hv hl hB hs hc hA hm hl'
  rw [show stP p d v l = p from by unfold stP; rw [if_neg h0, if_neg h1, if_neg h2, if_neg h3]]
  have q0 : (d == 0) = false := by rw [beq_eq_false_iff_ne]; exact h0
  have q1 : (d == 1) = false := by rw [beq_eq_false_iff_ne]; exact h1
  have q2 : (d == 2) = false := by rw [beq_eq_false_iff_ne]; exact h2
  have q3 : (d == 3) = false := by rw [beq_eq_false_iff_ne]; exact h3
  clear h0 h1 h2 h3
  go_enter Tryz.func22, Tryz.ntmps22
  go_wp2_with fail
  refine HR.out.mono ?_
  rintro e w2 ⟨A2, k2, rfl, hO, hb2, hr, hA2⟩
  have HO2 := Lib.hid hO
  have HB2 := Lib.hid (HB.out.trans (hb2.mono HB.out.size))
  have HBo2 := Lib.hid (HBo.out.callee hb2)
  have HC2 := Lib.hid (And.intro hr hA2)
  have d0 := (hb2.cell (p := ⟨w.heap.size, 0, none⟩) HL.out).trans c0'
  have lw : w.heap.size < w2.heap.size := Nat.lt_of_lt_of_le HL.out hb2.size
  have hlm : l.length ≤ 70 := Hsm.out
  clear hO hb2 hr hA2 HR
  go_wp2_with (at_builtin; refine append_opts (w := w2) rfl _ _ 30 rfl w2.heap.size 51 i0 _ 24 Tryz.underlying30 hi hz0 hz1 hz2 rfl (.slice none 0 0) 0 [] rfl (World.ownsRow_nil _ _ _ _) w2.heap.size A2 l.length k2 l HC2.out.2 rfl HO2.out (by unfold maxLen; omega) (by omega) (Nat.le_refl _) ?_; intro v3 w3 hown hgr; obtain ⟨A3, k3, hv3, hA3⟩ := own_room hown; subst hv3; rw [Nat.zero_add] at hown ⊢; have hb3 : Below w2.heap.size w2 w3 := ⟨hgr.os, hgr.tape, hgr.output, hgr.size, fun k hk => hgr.block k hk (by intro e; cases e)⟩; have HP3 : Hid (Pre w w3 g R p l A2 k2 A3 k3) := ⟨HBo2.out.callee hb3, HB2.out.trans (hb3.mono HB2.out.size), HO2.out.next hb3, own_opts hown HO2.out, HC2.out, hA3⟩; have d3 := (hb3.cell (p := ⟨w.heap.size, 0, none⟩) lw).trans d0; clear hown hgr hb3 hA3 HO2 HB2 HBo2 HC2)
  go_wp2
  go_ret
  exact ⟨rfl, HP3.out.b, Moves.of_below HP3.out.h⟩
theorem does_any (g R : Nat) (c0 : Conf) (N : Nat) (p : Po) (s : Stp5) (B : Nat) (A : Option Addr) (c : Nat) (w : World) (hg : PAt w g p) (hR : RAt w R p) (hv : Iv c0 N p) (hN : N ≤ 1000) (hl : Opts w B A s.l.length s.l) (hB : B ≤ w.heap.size) (hs : s.l.length ≤ 70) (hc : s.l.length ≤ c) (hA : A = none → c = 0) :
    Calls Tryz.prog 22 #[.pointer (some ⟨g, 0, none⟩), .pointer (some ⟨R, 0, none⟩), .agg #[.int .i64 s.d, .slice A s.l.length c, .bool s.o, .int .u8 s.n.toNat, .int .u32 s.v.toNat]] w (DoQ g R (stP p s.d s.v (stL p s)) w) := by
  by_cases h0 : s.d = 0
  · exact does_judge g R c0 N p s B A c w hg hR hv hN hl hB hs hc hA h0
  · by_cases h1 : s.d = 1
    · exact does_acked g R c0 N p s B A c w hg hR hv hN hl hB hs hc hA h1
    · by_cases h2 : s.d = 2
      · exact does_naked g R c0 N p s B A c w hg hR hv hN hl hB hs hc hA h2
      · by_cases h3 : s.d = 3
        · exact does_rejected g R c0 N p s B A c w hg hR hv hN hl hB hs hc hA h3
        · exact does_none g R c0 N p s B A c w hg hR hv hN hl hB hs hc hA h0 h1 h2 h3
end Go.Proofs.YtpohcejgblahiaaGreat.Pol

/- The law's 'same': both policies say the same. Written by gen/pol_qk.py. -/
set_option linter.unusedSimpArgs false
set_option linter.unusedVariables false
namespace Go.Proofs.YtpohcejgblahiaaGreat.Pol
open Go.RowKit Go.Proofs.YtpohcejgblahiaaGreat.Oct Go.Proofs.YtpohcejgblahiaaGreat.Row Go.Proofs.YtpohcejgblahiaaGreat.Mem Go.Proofs.YtpohcejgblahiaaGreat.Opt Go.Proofs.YtpohcejgblahiaaGreat.Lco

set_option maxHeartbeats 16000000 in
set_option maxRecDepth 100000 in
theorem same_any (g R : Nat) (p : Po) (w0 : World) (h : Bo w0 g R p) (hm : may p.w = true) : Calls Tryz.prog 23 #[.pointer (some ⟨g, 0, none⟩), .pointer (some ⟨R, 0, none⟩)] w0 fun e w' => e = .returned (.bool true) ∧ Bo w' g R p ∧ Below w0.heap.size w0 w' := by
  go_enter Tryz.func23, Tryz.ntmps23
  go_wp2_with fail
  refine wp_region_held_drew (S := fun w' => Bo w' g R p ∧ Below w0.heap.size w0 w') (by kernel_rfl) ⟨⟨h.1, h.2.1, h.2.2⟩, (Below.refl w0.heap.size w0).drew⟩ (fun hHeld => ?_)
  have h0 : Bo w0.drew g R p ∧ Below w0.heap.size w0 w0.drew := ⟨⟨h.1, h.2.1, h.2.2⟩, (Below.refl w0.heap.size w0).drew⟩
  clear h
  generalize w0.drew = y0 at *
  refine wpAnyH_take (i := 0) (v := ?vv0_1) rfl (by kernel_rfl) (by kernel_rfl) (by kernel_rfl) (fun _ _ _ h => h) (Or.inl ⟨by rfl, ?yy0_1⟩) (by assumption) ?rr0_1
  case yy0_1 => (intro w hSw; (try dsimp only at hSw); (try simp only [List.getElem_toArray, List.getElem_cons_succ, List.getElem_cons_zero, Act.put, List.setIfInBounds_toArray, List.set_cons_zero, List.set_cons_succ]); go_simp; (try (with_reducible rfl)))
  try simp only [List.getElem_toArray, List.getElem_cons_succ, List.getElem_cons_zero, Act.put, List.setIfInBounds_toArray, List.set_cons_zero, List.set_cons_succ]
  refine wpAnyH_take (i := 2) (v := ?vv2_2) rfl (by kernel_rfl) (by kernel_rfl) (by kernel_rfl) (fun _ _ _ h => h) (Or.inl ⟨by rfl, ?yy2_2⟩) (by assumption) ?rr2_2
  case yy2_2 => (intro w hSw; (try dsimp only at hSw); (try simp only [List.getElem_toArray, List.getElem_cons_succ, List.getElem_cons_zero, Act.put, List.setIfInBounds_toArray, List.set_cons_zero, List.set_cons_succ]); go_simp; (try (with_reducible rfl)))
  try simp only [List.getElem_toArray, List.getElem_cons_succ, List.getElem_cons_zero, Act.put, List.setIfInBounds_toArray, List.set_cons_zero, List.set_cons_succ]
  refine wpAnyH_ready (rs := [1]) (by kernel_rfl) (by simp) ?_
  refine AllReadyH.cons (o := _) rfl (fun K hK => ?_) AllReadyH.nil
  try simp only [List.getElem_toArray, List.getElem_cons_succ, List.getElem_cons_zero, Act.put, List.setIfInBounds_toArray, List.set_cons_zero, List.set_cons_succ]
  go_simp
  refine (request_any g p _ h0.1.1 hm).mono ?_
  rintro e y1 ⟨A1, c1, rfl, ho, hb, _, _⟩
  have h1 : Bo y1 g R p ∧ Below w0.heap.size w0 y1 := ⟨h0.1.callee hb, h0.2.trans (hb.mono h0.2.size)⟩
  have HO1 := Lib.hid ho
  clear ho hb
  refine hK.out _ _ h1 (fun hHeld => ?_)
  clear hK K
  try simp only [List.getElem_toArray, List.getElem_cons_succ, List.getElem_cons_zero, Act.put, List.setIfInBounds_toArray, List.set_cons_zero, List.set_cons_succ]
  refine wpAnyH_ready (rs := [3]) (by kernel_rfl) (by simp) ?_
  refine AllReadyH.cons (o := _) rfl (fun K hK => ?_) AllReadyH.nil
  try simp only [List.getElem_toArray, List.getElem_cons_succ, List.getElem_cons_zero, Act.put, List.setIfInBounds_toArray, List.set_cons_zero, List.set_cons_succ]
  go_simp
  refine (rrequest_any R p _ h1.1.2.1 hm).mono ?_
  rintro e y2 ⟨A2, c2, rfl, ho, hb⟩
  have h2 : Bo y2 g R p ∧ Below w0.heap.size w0 y2 := ⟨h1.1.callee hb, h1.2.trans (hb.mono h1.2.size)⟩
  have HO2 := Lib.hid ho
  have HOx := Lib.hid (HO1.out.next hb)
  clear ho hb
  refine hK.out _ _ h2 (fun hHeld => ?_)
  clear hK K
  try simp only [List.getElem_toArray, List.getElem_cons_succ, List.getElem_cons_zero, Act.put, List.setIfInBounds_toArray, List.set_cons_zero, List.set_cons_succ]
  have HS : Hid (Calls Tryz.prog 25 #[.slice A1 (req p).length c1, .slice A2 (put p.w).length c2] y2 fun e w' => e = .returned (.bool true) ∧ Below y2.heap.size y2 w') := same_self (req p) A1 A2 _ _ c1 c2 y2 HOx.out HO2.out (by unfold maxLen; have := put_len6 p.w; show (put p.w).length ≤ _; omega) (by unfold maxLen; have := put_len6 p.w; omega)
  refine wpAnyH_ready (rs := [4]) (by kernel_rfl) (by simp) ?_
  refine AllReadyH.cons (o := _) rfl (fun K hK => ?_) AllReadyH.nil
  try simp only [List.getElem_toArray, List.getElem_cons_succ, List.getElem_cons_zero, Act.put, List.setIfInBounds_toArray, List.set_cons_zero, List.set_cons_succ]
  go_simp
  refine HS.out.mono ?_
  rintro e y3 ⟨rfl, hb⟩
  have h3 : Bo y3 g R p ∧ Below w0.heap.size w0 y3 := ⟨h2.1.callee hb, h2.2.trans (hb.mono h2.2.size)⟩
  clear hb HS HO1 HO2 HOx
  refine hK.out _ _ h3 (fun hHeld => ?_)
  clear hK K
  try simp only [List.getElem_toArray, List.getElem_cons_succ, List.getElem_cons_zero, Act.put, List.setIfInBounds_toArray, List.set_cons_zero, List.set_cons_succ]
  refine wpAnyH_take (i := 5) (v := ?vv5_3) rfl (by kernel_rfl) (by kernel_rfl) (by kernel_rfl) (fun _ _ _ h => h) (Or.inl ⟨by rfl, ?yy5_3⟩) (by assumption) ?rr5_3
  case yy5_3 => (intro w hSw; (try dsimp only at hSw); (try simp only [List.getElem_toArray, List.getElem_cons_succ, List.getElem_cons_zero, Act.put, List.setIfInBounds_toArray, List.set_cons_zero, List.set_cons_succ]); go_simp; (try (with_reducible rfl)))
  try simp only [List.getElem_toArray, List.getElem_cons_succ, List.getElem_cons_zero, Act.put, List.setIfInBounds_toArray, List.set_cons_zero, List.set_cons_succ]
  refine wpAnyH_take (i := 6) (v := ?vv6_4) rfl (by kernel_rfl) (by kernel_rfl) (by kernel_rfl) (fun _ _ _ h => h) (Or.inl ⟨by rfl, ?yy6_4⟩) (by assumption) ?rr6_4
  case yy6_4 => (intro w hSw; (try dsimp only at hSw); (try simp only [List.getElem_toArray, List.getElem_cons_succ, List.getElem_cons_zero, Act.put, List.setIfInBounds_toArray, List.set_cons_zero, List.set_cons_succ]); go_simp; (try (with_reducible rfl)))
  try simp only [List.getElem_toArray, List.getElem_cons_succ, List.getElem_cons_zero, Act.put, List.setIfInBounds_toArray, List.set_cons_zero, List.set_cons_succ]
  refine wpAnyH_take (i := 8) (v := ?vv8_5) rfl (by kernel_rfl) (by kernel_rfl) (by kernel_rfl) (fun _ _ _ h => h) (Or.inl ⟨by rfl, ?yy8_5⟩) (by assumption) ?rr8_5
  case yy8_5 => (intro w hSw; (try dsimp only at hSw); (try simp only [List.getElem_toArray, List.getElem_cons_succ, List.getElem_cons_zero, Act.put, List.setIfInBounds_toArray, List.set_cons_zero, List.set_cons_succ]); go_simp; (try (with_reducible rfl)))
  try simp only [List.getElem_toArray, List.getElem_cons_succ, List.getElem_cons_zero, Act.put, List.setIfInBounds_toArray, List.set_cons_zero, List.set_cons_succ]
  refine wpAnyH_take (i := 9) (v := ?vv9_6) rfl (by kernel_rfl) (by kernel_rfl) (by kernel_rfl) (fun _ _ _ h => h) (Or.inl ⟨by rfl, ?yy9_6⟩) (by assumption) ?rr9_6
  case yy9_6 => (intro w hSw; (try dsimp only at hSw); (try simp only [List.getElem_toArray, List.getElem_cons_succ, List.getElem_cons_zero, Act.put, List.setIfInBounds_toArray, List.set_cons_zero, List.set_cons_succ]); go_simp; (try (with_reducible rfl)))
  try simp only [List.getElem_toArray, List.getElem_cons_succ, List.getElem_cons_zero, Act.put, List.setIfInBounds_toArray, List.set_cons_zero, List.set_cons_succ]
  refine wpAnyH_take (i := 10) (v := ?vv10_7) rfl (by kernel_rfl) (by kernel_rfl) (by kernel_rfl) (fun _ _ _ h => h) (Or.inl ⟨by rfl, ?yy10_7⟩) (by assumption) ?rr10_7
  case yy10_7 => (intro w hSw; (try dsimp only at hSw); (try simp only [List.getElem_toArray, List.getElem_cons_succ, List.getElem_cons_zero, Act.put, List.setIfInBounds_toArray, List.set_cons_zero, List.set_cons_succ]); go_simp; (try (with_reducible rfl)))
  try simp only [List.getElem_toArray, List.getElem_cons_succ, List.getElem_cons_zero, Act.put, List.setIfInBounds_toArray, List.set_cons_zero, List.set_cons_succ]
  refine wpAnyH_take (i := 11) (v := ?vv11_8) rfl (by kernel_rfl) (by kernel_rfl) (by kernel_rfl) (fun _ _ _ h => h) (Or.inl ⟨by rfl, ?yy11_8⟩) (by assumption) ?rr11_8
  case yy11_8 => (intro w hSw; (try dsimp only at hSw); (have hx0 : w.cell? ⟨R, 10, none⟩ = some (Value.bool p.w.hm) := hSw.1.2.1.c 10; have hx1 : w.cell? ⟨R, 11, none⟩ = some (Value.int .u16 p.w.mru.toNat) := hSw.1.2.1.c 11; have hx2 : w.cell? ⟨R, 12, none⟩ = some (Value.bool p.w.ha) := hSw.1.2.1.c 12; have hx3 : w.cell? ⟨R, 13, none⟩ = some (Value.int .u32 p.w.accm.toNat) := hSw.1.2.1.c 13; have hx4 : w.cell? ⟨R, 14, none⟩ = some (Value.int .u8 p.w.auth.toNat) := hSw.1.2.1.c 14; have hx5 : w.cell? ⟨R, 15, none⟩ = some (Value.bool p.w.hg) := hSw.1.2.1.c 15; have hx6 : w.cell? ⟨R, 16, none⟩ = some (Value.int .u32 p.w.magic.toNat) := hSw.1.2.1.c 16; have hx7 : w.cell? ⟨R, 17, none⟩ = some (Value.bool p.w.pfc) := hSw.1.2.1.c 17; have hx8 : w.cell? ⟨R, 18, none⟩ = some (Value.bool p.w.acfc) := hSw.1.2.1.c 18); (try simp only [List.getElem_toArray, List.getElem_cons_succ, List.getElem_cons_zero, Act.put, List.setIfInBounds_toArray, List.set_cons_zero, List.set_cons_succ]); go_simp; (try (with_reducible rfl)))
  try simp only [List.getElem_toArray, List.getElem_cons_succ, List.getElem_cons_zero, Act.put, List.setIfInBounds_toArray, List.set_cons_zero, List.set_cons_succ]
  refine wpAnyH_ready (rs := [7]) (by kernel_rfl) (by simp) ?_
  refine AllReadyH.cons (o := _) rfl (fun K hK => ?_) AllReadyH.nil
  try simp only [List.getElem_toArray, List.getElem_cons_succ, List.getElem_cons_zero, Act.put, List.setIfInBounds_toArray, List.set_cons_zero, List.set_cons_succ]
  go_simp
  refine (wish_any g p _ h3.1.1).mono ?_
  rintro e y4 ⟨he, hb⟩
  replace he : e = .returned (.agg #[Value.bool p.w.hm, Value.int .u16 p.w.mru.toNat, Value.bool p.w.ha, Value.int .u32 p.w.accm.toNat, Value.int .u8 p.w.auth.toNat, Value.bool p.w.hg, Value.int .u32 p.w.magic.toNat, Value.bool p.w.pfc, Value.bool p.w.acfc]) := he
  subst he
  have h4 : Bo y4 g R p ∧ Below w0.heap.size w0 y4 := ⟨h3.1.callee hb, h3.2.trans (hb.mono h3.2.size)⟩
  clear hb
  refine hK.out _ _ h4 (fun hHeld => ?_)
  clear hK K
  try simp only [List.getElem_toArray, List.getElem_cons_succ, List.getElem_cons_zero, Act.put, List.setIfInBounds_toArray, List.set_cons_zero, List.set_cons_succ]
  have heq3 := fun W => lcp_eql (x := p.w) (y := p.w) (r := true) (decide_eq_true rfl) W
  refine wpAnyH_take (i := 12) (v := ?vv12_9) rfl (by kernel_rfl) (by kernel_rfl) (by kernel_rfl) (fun _ _ _ h => h) (Or.inl ⟨by rfl, ?yy12_9⟩) (by assumption) ?rr12_9
  case yy12_9 => (intro w hSw; (try dsimp only at hSw); (try simp only [List.getElem_toArray, List.getElem_cons_succ, List.getElem_cons_zero, Act.put, List.setIfInBounds_toArray, List.set_cons_zero, List.set_cons_succ]); go_simp; (try (with_reducible rfl)))
  try simp only [List.getElem_toArray, List.getElem_cons_succ, List.getElem_cons_zero, Act.put, List.setIfInBounds_toArray, List.set_cons_zero, List.set_cons_succ]
  refine wpAnyH_take (i := 13) (v := ?vv13_10) rfl (by kernel_rfl) (by kernel_rfl) (by kernel_rfl) (fun _ _ _ h => h) (Or.inl ⟨by rfl, ?yy13_10⟩) (by assumption) ?rr13_10
  case yy13_10 => (intro w hSw; (try dsimp only at hSw); (try simp only [List.getElem_toArray, List.getElem_cons_succ, List.getElem_cons_zero, Act.put, List.setIfInBounds_toArray, List.set_cons_zero, List.set_cons_succ]); go_simp; (try (with_reducible rfl)))
  try simp only [List.getElem_toArray, List.getElem_cons_succ, List.getElem_cons_zero, Act.put, List.setIfInBounds_toArray, List.set_cons_zero, List.set_cons_succ]
  refine wpAnyH_take (i := 14) (v := ?vv14_11) rfl (by kernel_rfl) (by kernel_rfl) (by kernel_rfl) (fun _ _ _ h => h) (Or.inl ⟨by rfl, ?yy14_11⟩) (by assumption) ?rr14_11
  case yy14_11 => (intro w hSw; (try dsimp only at hSw); (try simp only [List.getElem_toArray, List.getElem_cons_succ, List.getElem_cons_zero, Act.put, List.setIfInBounds_toArray, List.set_cons_zero, List.set_cons_succ]); go_simp; (try (with_reducible rfl)))
  try simp only [List.getElem_toArray, List.getElem_cons_succ, List.getElem_cons_zero, Act.put, List.setIfInBounds_toArray, List.set_cons_zero, List.set_cons_succ]
  refine wpAnyH_take (i := 15) (v := ?vv15_12) rfl (by kernel_rfl) (by kernel_rfl) (by kernel_rfl) (fun _ _ _ h => h) (Or.inl ⟨by rfl, ?yy15_12⟩) (by assumption) ?rr15_12
  case yy15_12 => (intro w hSw; (try dsimp only at hSw); (try simp only [List.getElem_toArray, List.getElem_cons_succ, List.getElem_cons_zero, Act.put, List.setIfInBounds_toArray, List.set_cons_zero, List.set_cons_succ]); go_simp; (try (with_reducible rfl)))
  try simp only [List.getElem_toArray, List.getElem_cons_succ, List.getElem_cons_zero, Act.put, List.setIfInBounds_toArray, List.set_cons_zero, List.set_cons_succ]
  refine wpAnyH_take (i := 17) (v := ?vv17_13) rfl (by kernel_rfl) (by kernel_rfl) (by kernel_rfl) (fun _ _ _ h => h) (Or.inl ⟨by rfl, ?yy17_13⟩) (by assumption) ?rr17_13
  case yy17_13 => (intro w hSw; (try dsimp only at hSw); (try simp only [List.getElem_toArray, List.getElem_cons_succ, List.getElem_cons_zero, Act.put, List.setIfInBounds_toArray, List.set_cons_zero, List.set_cons_succ]); go_simp; (try (with_reducible rfl)))
  try simp only [List.getElem_toArray, List.getElem_cons_succ, List.getElem_cons_zero, Act.put, List.setIfInBounds_toArray, List.set_cons_zero, List.set_cons_succ]
  refine wpAnyH_take (i := 18) (v := ?vv18_14) rfl (by kernel_rfl) (by kernel_rfl) (by kernel_rfl) (fun _ _ _ h => h) (Or.inl ⟨by rfl, ?yy18_14⟩) (by assumption) ?rr18_14
  case yy18_14 => (intro w hSw; (try dsimp only at hSw); (try simp only [List.getElem_toArray, List.getElem_cons_succ, List.getElem_cons_zero, Act.put, List.setIfInBounds_toArray, List.set_cons_zero, List.set_cons_succ]); go_simp; (try (with_reducible rfl)))
  try simp only [List.getElem_toArray, List.getElem_cons_succ, List.getElem_cons_zero, Act.put, List.setIfInBounds_toArray, List.set_cons_zero, List.set_cons_succ]
  refine wpAnyH_take (i := 19) (v := ?vv19_15) rfl (by kernel_rfl) (by kernel_rfl) (by kernel_rfl) (fun _ _ _ h => h) (Or.inl ⟨by rfl, ?yy19_15⟩) (by assumption) ?rr19_15
  case yy19_15 => (intro w hSw; (try dsimp only at hSw); (try simp only [List.getElem_toArray, List.getElem_cons_succ, List.getElem_cons_zero, Act.put, List.setIfInBounds_toArray, List.set_cons_zero, List.set_cons_succ]); go_simp; (try (with_reducible rfl)))
  try simp only [List.getElem_toArray, List.getElem_cons_succ, List.getElem_cons_zero, Act.put, List.setIfInBounds_toArray, List.set_cons_zero, List.set_cons_succ]
  refine wpAnyH_take (i := 20) (v := ?vv20_16) rfl (by kernel_rfl) (by kernel_rfl) (by kernel_rfl) (fun _ _ _ h => h) (Or.inl ⟨by rfl, ?yy20_16⟩) (by assumption) ?rr20_16
  case yy20_16 => (intro w hSw; (try dsimp only at hSw); (have hx0 : w.cell? ⟨R, 19, none⟩ = some (Value.bool p.mine.hm) := hSw.1.2.1.c 19; have hx1 : w.cell? ⟨R, 20, none⟩ = some (Value.int .u16 p.mine.mru.toNat) := hSw.1.2.1.c 20; have hx2 : w.cell? ⟨R, 21, none⟩ = some (Value.bool p.mine.ha) := hSw.1.2.1.c 21; have hx3 : w.cell? ⟨R, 22, none⟩ = some (Value.int .u32 p.mine.accm.toNat) := hSw.1.2.1.c 22; have hx4 : w.cell? ⟨R, 23, none⟩ = some (Value.int .u8 p.mine.auth.toNat) := hSw.1.2.1.c 23; have hx5 : w.cell? ⟨R, 24, none⟩ = some (Value.bool p.mine.hg) := hSw.1.2.1.c 24; have hx6 : w.cell? ⟨R, 25, none⟩ = some (Value.int .u32 p.mine.magic.toNat) := hSw.1.2.1.c 25; have hx7 : w.cell? ⟨R, 26, none⟩ = some (Value.bool p.mine.pfc) := hSw.1.2.1.c 26; have hx8 : w.cell? ⟨R, 27, none⟩ = some (Value.bool p.mine.acfc) := hSw.1.2.1.c 27); (try simp only [List.getElem_toArray, List.getElem_cons_succ, List.getElem_cons_zero, Act.put, List.setIfInBounds_toArray, List.set_cons_zero, List.set_cons_succ]); go_simp; (try (with_reducible rfl)))
  try simp only [List.getElem_toArray, List.getElem_cons_succ, List.getElem_cons_zero, Act.put, List.setIfInBounds_toArray, List.set_cons_zero, List.set_cons_succ]
  refine wpAnyH_ready (rs := [16]) (by kernel_rfl) (by simp) ?_
  refine AllReadyH.cons (o := _) rfl (fun K hK => ?_) AllReadyH.nil
  try simp only [List.getElem_toArray, List.getElem_cons_succ, List.getElem_cons_zero, Act.put, List.setIfInBounds_toArray, List.set_cons_zero, List.set_cons_succ]
  go_simp
  refine (mine_any g p _ h4.1.1).mono ?_
  rintro e y5 ⟨he, hb⟩
  replace he : e = .returned (.agg #[Value.bool p.mine.hm, Value.int .u16 p.mine.mru.toNat, Value.bool p.mine.ha, Value.int .u32 p.mine.accm.toNat, Value.int .u8 p.mine.auth.toNat, Value.bool p.mine.hg, Value.int .u32 p.mine.magic.toNat, Value.bool p.mine.pfc, Value.bool p.mine.acfc]) := he
  subst he
  have h5 : Bo y5 g R p ∧ Below w0.heap.size w0 y5 := ⟨h4.1.callee hb, h4.2.trans (hb.mono h4.2.size)⟩
  clear hb
  refine hK.out _ _ h5 (fun hHeld => ?_)
  clear hK K
  try simp only [List.getElem_toArray, List.getElem_cons_succ, List.getElem_cons_zero, Act.put, List.setIfInBounds_toArray, List.set_cons_zero, List.set_cons_succ]
  have heq4 := fun W => lcp_eql (x := p.mine) (y := p.mine) (r := true) (decide_eq_true rfl) W
  refine wpAnyH_take (i := 21) (v := ?vv21_17) rfl (by kernel_rfl) (by kernel_rfl) (by kernel_rfl) (fun _ _ _ h => h) (Or.inl ⟨by rfl, ?yy21_17⟩) (by assumption) ?rr21_17
  case yy21_17 => (intro w hSw; (try dsimp only at hSw); (try simp only [List.getElem_toArray, List.getElem_cons_succ, List.getElem_cons_zero, Act.put, List.setIfInBounds_toArray, List.set_cons_zero, List.set_cons_succ]); go_simp; (try (with_reducible rfl)))
  try simp only [List.getElem_toArray, List.getElem_cons_succ, List.getElem_cons_zero, Act.put, List.setIfInBounds_toArray, List.set_cons_zero, List.set_cons_succ]
  refine wpAnyH_take (i := 22) (v := ?vv22_18) rfl (by kernel_rfl) (by kernel_rfl) (by kernel_rfl) (fun _ _ _ h => h) (Or.inl ⟨by rfl, ?yy22_18⟩) (by assumption) ?rr22_18
  case yy22_18 => (intro w hSw; (try dsimp only at hSw); (try simp only [List.getElem_toArray, List.getElem_cons_succ, List.getElem_cons_zero, Act.put, List.setIfInBounds_toArray, List.set_cons_zero, List.set_cons_succ]); go_simp; (try (with_reducible rfl)))
  try simp only [List.getElem_toArray, List.getElem_cons_succ, List.getElem_cons_zero, Act.put, List.setIfInBounds_toArray, List.set_cons_zero, List.set_cons_succ]
  refine wpAnyH_take (i := 23) (v := ?vv23_19) rfl (by kernel_rfl) (by kernel_rfl) (by kernel_rfl) (fun _ _ _ h => h) (Or.inl ⟨by rfl, ?yy23_19⟩) (by assumption) ?rr23_19
  case yy23_19 => (intro w hSw; (try dsimp only at hSw); (try simp only [List.getElem_toArray, List.getElem_cons_succ, List.getElem_cons_zero, Act.put, List.setIfInBounds_toArray, List.set_cons_zero, List.set_cons_succ]); go_simp; (try (with_reducible rfl)))
  try simp only [List.getElem_toArray, List.getElem_cons_succ, List.getElem_cons_zero, Act.put, List.setIfInBounds_toArray, List.set_cons_zero, List.set_cons_succ]
  refine wpAnyH_take (i := 24) (v := ?vv24_20) rfl (by kernel_rfl) (by kernel_rfl) (by kernel_rfl) (fun _ _ _ h => h) (Or.inl ⟨by rfl, ?yy24_20⟩) (by assumption) ?rr24_20
  case yy24_20 => (intro w hSw; (try dsimp only at hSw); (try simp only [List.getElem_toArray, List.getElem_cons_succ, List.getElem_cons_zero, Act.put, List.setIfInBounds_toArray, List.set_cons_zero, List.set_cons_succ]); go_simp; (try (with_reducible rfl)))
  try simp only [List.getElem_toArray, List.getElem_cons_succ, List.getElem_cons_zero, Act.put, List.setIfInBounds_toArray, List.set_cons_zero, List.set_cons_succ]
  refine wpAnyH_take (i := 26) (v := ?vv26_21) rfl (by kernel_rfl) (by kernel_rfl) (by kernel_rfl) (fun _ _ _ h => h) (Or.inl ⟨by rfl, ?yy26_21⟩) (by assumption) ?rr26_21
  case yy26_21 => (intro w hSw; (try dsimp only at hSw); (try simp only [List.getElem_toArray, List.getElem_cons_succ, List.getElem_cons_zero, Act.put, List.setIfInBounds_toArray, List.set_cons_zero, List.set_cons_succ]); go_simp; (try (with_reducible rfl)))
  try simp only [List.getElem_toArray, List.getElem_cons_succ, List.getElem_cons_zero, Act.put, List.setIfInBounds_toArray, List.set_cons_zero, List.set_cons_succ]
  refine wpAnyH_take (i := 27) (v := ?vv27_22) rfl (by kernel_rfl) (by kernel_rfl) (by kernel_rfl) (fun _ _ _ h => h) (Or.inl ⟨by rfl, ?yy27_22⟩) (by assumption) ?rr27_22
  case yy27_22 => (intro w hSw; (try dsimp only at hSw); (try simp only [List.getElem_toArray, List.getElem_cons_succ, List.getElem_cons_zero, Act.put, List.setIfInBounds_toArray, List.set_cons_zero, List.set_cons_succ]); go_simp; (try (with_reducible rfl)))
  try simp only [List.getElem_toArray, List.getElem_cons_succ, List.getElem_cons_zero, Act.put, List.setIfInBounds_toArray, List.set_cons_zero, List.set_cons_succ]
  refine wpAnyH_take (i := 28) (v := ?vv28_23) rfl (by kernel_rfl) (by kernel_rfl) (by kernel_rfl) (fun _ _ _ h => h) (Or.inl ⟨by rfl, ?yy28_23⟩) (by assumption) ?rr28_23
  case yy28_23 => (intro w hSw; (try dsimp only at hSw); (try simp only [List.getElem_toArray, List.getElem_cons_succ, List.getElem_cons_zero, Act.put, List.setIfInBounds_toArray, List.set_cons_zero, List.set_cons_succ]); go_simp; (try (with_reducible rfl)))
  try simp only [List.getElem_toArray, List.getElem_cons_succ, List.getElem_cons_zero, Act.put, List.setIfInBounds_toArray, List.set_cons_zero, List.set_cons_succ]
  refine wpAnyH_take (i := 29) (v := ?vv29_24) rfl (by kernel_rfl) (by kernel_rfl) (by kernel_rfl) (fun _ _ _ h => h) (Or.inl ⟨by rfl, ?yy29_24⟩) (by assumption) ?rr29_24
  case yy29_24 => (intro w hSw; (try dsimp only at hSw); (have hx0 : w.cell? ⟨R, 28, none⟩ = some (Value.bool p.peer.hm) := hSw.1.2.1.c 28; have hx1 : w.cell? ⟨R, 29, none⟩ = some (Value.int .u16 p.peer.mru.toNat) := hSw.1.2.1.c 29; have hx2 : w.cell? ⟨R, 30, none⟩ = some (Value.bool p.peer.ha) := hSw.1.2.1.c 30; have hx3 : w.cell? ⟨R, 31, none⟩ = some (Value.int .u32 p.peer.accm.toNat) := hSw.1.2.1.c 31; have hx4 : w.cell? ⟨R, 32, none⟩ = some (Value.int .u8 p.peer.auth.toNat) := hSw.1.2.1.c 32; have hx5 : w.cell? ⟨R, 33, none⟩ = some (Value.bool p.peer.hg) := hSw.1.2.1.c 33; have hx6 : w.cell? ⟨R, 34, none⟩ = some (Value.int .u32 p.peer.magic.toNat) := hSw.1.2.1.c 34; have hx7 : w.cell? ⟨R, 35, none⟩ = some (Value.bool p.peer.pfc) := hSw.1.2.1.c 35; have hx8 : w.cell? ⟨R, 36, none⟩ = some (Value.bool p.peer.acfc) := hSw.1.2.1.c 36); (try simp only [List.getElem_toArray, List.getElem_cons_succ, List.getElem_cons_zero, Act.put, List.setIfInBounds_toArray, List.set_cons_zero, List.set_cons_succ]); go_simp; (try (with_reducible rfl)))
  try simp only [List.getElem_toArray, List.getElem_cons_succ, List.getElem_cons_zero, Act.put, List.setIfInBounds_toArray, List.set_cons_zero, List.set_cons_succ]
  refine wpAnyH_ready (rs := [25]) (by kernel_rfl) (by simp) ?_
  refine AllReadyH.cons (o := _) rfl (fun K hK => ?_) AllReadyH.nil
  try simp only [List.getElem_toArray, List.getElem_cons_succ, List.getElem_cons_zero, Act.put, List.setIfInBounds_toArray, List.set_cons_zero, List.set_cons_succ]
  go_simp
  refine (peer_any g p _ h5.1.1).mono ?_
  rintro e y6 ⟨he, hb⟩
  replace he : e = .returned (.agg #[Value.bool p.peer.hm, Value.int .u16 p.peer.mru.toNat, Value.bool p.peer.ha, Value.int .u32 p.peer.accm.toNat, Value.int .u8 p.peer.auth.toNat, Value.bool p.peer.hg, Value.int .u32 p.peer.magic.toNat, Value.bool p.peer.pfc, Value.bool p.peer.acfc]) := he
  subst he
  have h6 : Bo y6 g R p ∧ Below w0.heap.size w0 y6 := ⟨h5.1.callee hb, h5.2.trans (hb.mono h5.2.size)⟩
  clear hb
  refine hK.out _ _ h6 (fun hHeld => ?_)
  clear hK K
  try simp only [List.getElem_toArray, List.getElem_cons_succ, List.getElem_cons_zero, Act.put, List.setIfInBounds_toArray, List.set_cons_zero, List.set_cons_succ]
  have heq5 := fun W => lcp_eql (x := p.peer) (y := p.peer) (r := true) (decide_eq_true rfl) W
  refine wpAnyH_take (i := 30) (v := ?vv30_25) rfl (by kernel_rfl) (by kernel_rfl) (by kernel_rfl) (fun _ _ _ h => h) (Or.inl ⟨by rfl, ?yy30_25⟩) (by assumption) ?rr30_25
  case yy30_25 => (intro w hSw; (try dsimp only at hSw); (try simp only [List.getElem_toArray, List.getElem_cons_succ, List.getElem_cons_zero, Act.put, List.setIfInBounds_toArray, List.set_cons_zero, List.set_cons_succ]); go_simp; (try (with_reducible rfl)))
  try simp only [List.getElem_toArray, List.getElem_cons_succ, List.getElem_cons_zero, Act.put, List.setIfInBounds_toArray, List.set_cons_zero, List.set_cons_succ]
  refine wpAnyH_take (i := 31) (v := ?vv31_26) rfl (by kernel_rfl) (by kernel_rfl) (by kernel_rfl) (fun _ _ _ h => h) (Or.inl ⟨by rfl, ?yy31_26⟩) (by assumption) ?rr31_26
  case yy31_26 => (intro w hSw; (try dsimp only at hSw); (try simp only [List.getElem_toArray, List.getElem_cons_succ, List.getElem_cons_zero, Act.put, List.setIfInBounds_toArray, List.set_cons_zero, List.set_cons_succ]); go_simp; (try (with_reducible rfl)))
  try simp only [List.getElem_toArray, List.getElem_cons_succ, List.getElem_cons_zero, Act.put, List.setIfInBounds_toArray, List.set_cons_zero, List.set_cons_succ]
  refine wpAnyH_take (i := 32) (v := ?vv32_27) rfl (by kernel_rfl) (by kernel_rfl) (by kernel_rfl) (fun _ _ _ h => h) (Or.inl ⟨by rfl, ?yy32_27⟩) (by assumption) ?rr32_27
  case yy32_27 => (intro w hSw; (try dsimp only at hSw); (try simp only [List.getElem_toArray, List.getElem_cons_succ, List.getElem_cons_zero, Act.put, List.setIfInBounds_toArray, List.set_cons_zero, List.set_cons_succ]); go_simp; (try (with_reducible rfl)))
  try simp only [List.getElem_toArray, List.getElem_cons_succ, List.getElem_cons_zero, Act.put, List.setIfInBounds_toArray, List.set_cons_zero, List.set_cons_succ]
  refine wpAnyH_take (i := 33) (v := ?vv33_28) rfl (by kernel_rfl) (by kernel_rfl) (by kernel_rfl) (fun _ _ _ h => h) (Or.inl ⟨by rfl, ?yy33_28⟩) (by assumption) ?rr33_28
  case yy33_28 => (intro w hSw; (try dsimp only at hSw); (try simp only [List.getElem_toArray, List.getElem_cons_succ, List.getElem_cons_zero, Act.put, List.setIfInBounds_toArray, List.set_cons_zero, List.set_cons_succ]); go_simp; (try (with_reducible rfl)))
  try simp only [List.getElem_toArray, List.getElem_cons_succ, List.getElem_cons_zero, Act.put, List.setIfInBounds_toArray, List.set_cons_zero, List.set_cons_succ]
  refine wpAnyH_take (i := 35) (v := ?vv35_29) rfl (by kernel_rfl) (by kernel_rfl) (by kernel_rfl) (fun _ _ _ h => h) (Or.inl ⟨by rfl, ?yy35_29⟩) (by assumption) ?rr35_29
  case yy35_29 => (intro w hSw; (try dsimp only at hSw); (try simp only [List.getElem_toArray, List.getElem_cons_succ, List.getElem_cons_zero, Act.put, List.setIfInBounds_toArray, List.set_cons_zero, List.set_cons_succ]); go_simp; (try (with_reducible rfl)))
  try simp only [List.getElem_toArray, List.getElem_cons_succ, List.getElem_cons_zero, Act.put, List.setIfInBounds_toArray, List.set_cons_zero, List.set_cons_succ]
  refine wpAnyH_take (i := 36) (v := ?vv36_30) rfl (by kernel_rfl) (by kernel_rfl) (by kernel_rfl) (fun _ _ _ h => h) (Or.inl ⟨by rfl, ?yy36_30⟩) (by assumption) ?rr36_30
  case yy36_30 => (intro w hSw; (try dsimp only at hSw); (try simp only [List.getElem_toArray, List.getElem_cons_succ, List.getElem_cons_zero, Act.put, List.setIfInBounds_toArray, List.set_cons_zero, List.set_cons_succ]); go_simp; (try (with_reducible rfl)))
  try simp only [List.getElem_toArray, List.getElem_cons_succ, List.getElem_cons_zero, Act.put, List.setIfInBounds_toArray, List.set_cons_zero, List.set_cons_succ]
  refine wpAnyH_take (i := 37) (v := ?vv37_31) rfl (by kernel_rfl) (by kernel_rfl) (by kernel_rfl) (fun _ _ _ h => h) (Or.inl ⟨by rfl, ?yy37_31⟩) (by assumption) ?rr37_31
  case yy37_31 => (intro w hSw; (try dsimp only at hSw); (try simp only [List.getElem_toArray, List.getElem_cons_succ, List.getElem_cons_zero, Act.put, List.setIfInBounds_toArray, List.set_cons_zero, List.set_cons_succ]); go_simp; (try (with_reducible rfl)))
  try simp only [List.getElem_toArray, List.getElem_cons_succ, List.getElem_cons_zero, Act.put, List.setIfInBounds_toArray, List.set_cons_zero, List.set_cons_succ]
  refine wpAnyH_take (i := 38) (v := ?vv38_32) rfl (by kernel_rfl) (by kernel_rfl) (by kernel_rfl) (fun _ _ _ h => h) (Or.inl ⟨by rfl, ?yy38_32⟩) (by assumption) ?rr38_32
  case yy38_32 => (intro w hSw; (try dsimp only at hSw); (have hx : w.cell? ⟨R, 38, none⟩ = some (.int .i64 p.loops) := hSw.1.2.1.c 38); (try simp only [List.getElem_toArray, List.getElem_cons_succ, List.getElem_cons_zero, Act.put, List.setIfInBounds_toArray, List.set_cons_zero, List.set_cons_succ]); go_simp; (try (with_reducible rfl)))
  try simp only [List.getElem_toArray, List.getElem_cons_succ, List.getElem_cons_zero, Act.put, List.setIfInBounds_toArray, List.set_cons_zero, List.set_cons_succ]
  refine wpAnyH_ready (rs := [34]) (by kernel_rfl) (by simp) ?_
  refine AllReadyH.cons (o := _) rfl (fun K hK => ?_) AllReadyH.nil
  try simp only [List.getElem_toArray, List.getElem_cons_succ, List.getElem_cons_zero, Act.put, List.setIfInBounds_toArray, List.set_cons_zero, List.set_cons_succ]
  go_simp
  refine (loops_any g p _ h6.1.1).mono ?_
  rintro e _ ⟨rfl, rfl⟩
  refine hK.out _ _ h6 (fun hHeld => ?_)
  clear hK K
  try simp only [List.getElem_toArray, List.getElem_cons_succ, List.getElem_cons_zero, Act.put, List.setIfInBounds_toArray, List.set_cons_zero, List.set_cons_succ]
  have hll : ((p.loops : Int) == (p.loops : Int)) = true := beq_self_eq_true _
  refine wpAnyH_take (i := 39) (v := ?vv39_33) rfl (by kernel_rfl) (by kernel_rfl) (by kernel_rfl) (fun _ _ _ h => h) (Or.inl ⟨by rfl, ?yy39_33⟩) (by assumption) ?rr39_33
  case yy39_33 => (intro w hSw; (try dsimp only at hSw); (try simp only [List.getElem_toArray, List.getElem_cons_succ, List.getElem_cons_zero, Act.put, List.setIfInBounds_toArray, List.set_cons_zero, List.set_cons_succ]); go_simp; (try (with_reducible rfl)))
  try simp only [List.getElem_toArray, List.getElem_cons_succ, List.getElem_cons_zero, Act.put, List.setIfInBounds_toArray, List.set_cons_zero, List.set_cons_succ]
  refine wpAnyH_take (i := 40) (v := ?vv40_34) rfl (by kernel_rfl) (by kernel_rfl) (by kernel_rfl) (fun _ _ _ h => h) (Or.inl ⟨by rfl, ?yy40_34⟩) (by assumption) ?rr40_34
  case yy40_34 => (intro w hSw; (try dsimp only at hSw); (try simp only [List.getElem_toArray, List.getElem_cons_succ, List.getElem_cons_zero, Act.put, List.setIfInBounds_toArray, List.set_cons_zero, List.set_cons_succ]); go_simp; (try (with_reducible rfl)))
  try simp only [List.getElem_toArray, List.getElem_cons_succ, List.getElem_cons_zero, Act.put, List.setIfInBounds_toArray, List.set_cons_zero, List.set_cons_succ]
  refine wpAnyH_take (i := 41) (v := ?vv41_35) rfl (by kernel_rfl) (by kernel_rfl) (by kernel_rfl) (fun _ _ _ h => h) (Or.inl ⟨by rfl, ?yy41_35⟩) (by assumption) ?rr41_35
  case yy41_35 => (intro w hSw; (try dsimp only at hSw); (try simp only [List.getElem_toArray, List.getElem_cons_succ, List.getElem_cons_zero, Act.put, List.setIfInBounds_toArray, List.set_cons_zero, List.set_cons_succ]); go_simp; (try (with_reducible rfl)))
  try simp only [List.getElem_toArray, List.getElem_cons_succ, List.getElem_cons_zero, Act.put, List.setIfInBounds_toArray, List.set_cons_zero, List.set_cons_succ]
  refine wpAnyH_take (i := 42) (v := ?vv42_36) rfl (by kernel_rfl) (by kernel_rfl) (by kernel_rfl) (fun _ _ _ h => h) (Or.inl ⟨by rfl, ?yy42_36⟩) (by assumption) ?rr42_36
  case yy42_36 => (intro w hSw; (try dsimp only at hSw); (try simp only [List.getElem_toArray, List.getElem_cons_succ, List.getElem_cons_zero, Act.put, List.setIfInBounds_toArray, List.set_cons_zero, List.set_cons_succ]); go_simp; (try (with_reducible rfl)))
  try simp only [List.getElem_toArray, List.getElem_cons_succ, List.getElem_cons_zero, Act.put, List.setIfInBounds_toArray, List.set_cons_zero, List.set_cons_succ]
  refine wpAnyH_take (i := 44) (v := ?vv44_37) rfl (by kernel_rfl) (by kernel_rfl) (by kernel_rfl) (fun _ _ _ h => h) (Or.inl ⟨by rfl, ?yy44_37⟩) (by assumption) ?rr44_37
  case yy44_37 => (intro w hSw; (try dsimp only at hSw); (try simp only [List.getElem_toArray, List.getElem_cons_succ, List.getElem_cons_zero, Act.put, List.setIfInBounds_toArray, List.set_cons_zero, List.set_cons_succ]); go_simp; (try (with_reducible rfl)))
  try simp only [List.getElem_toArray, List.getElem_cons_succ, List.getElem_cons_zero, Act.put, List.setIfInBounds_toArray, List.set_cons_zero, List.set_cons_succ]
  refine wpAnyH_take (i := 45) (v := ?vv45_38) rfl (by kernel_rfl) (by kernel_rfl) (by kernel_rfl) (fun _ _ _ h => h) (Or.inl ⟨by rfl, ?yy45_38⟩) (by assumption) ?rr45_38
  case yy45_38 => (intro w hSw; (try dsimp only at hSw); (try simp only [List.getElem_toArray, List.getElem_cons_succ, List.getElem_cons_zero, Act.put, List.setIfInBounds_toArray, List.set_cons_zero, List.set_cons_succ]); go_simp; (try (with_reducible rfl)))
  try simp only [List.getElem_toArray, List.getElem_cons_succ, List.getElem_cons_zero, Act.put, List.setIfInBounds_toArray, List.set_cons_zero, List.set_cons_succ]
  refine wpAnyH_take (i := 46) (v := ?vv46_39) rfl (by kernel_rfl) (by kernel_rfl) (by kernel_rfl) (fun _ _ _ h => h) (Or.inl ⟨by rfl, ?yy46_39⟩) (by assumption) ?rr46_39
  case yy46_39 => (intro w hSw; (try dsimp only at hSw); (try simp only [List.getElem_toArray, List.getElem_cons_succ, List.getElem_cons_zero, Act.put, List.setIfInBounds_toArray, List.set_cons_zero, List.set_cons_succ]); go_simp; (try (with_reducible rfl)))
  try simp only [List.getElem_toArray, List.getElem_cons_succ, List.getElem_cons_zero, Act.put, List.setIfInBounds_toArray, List.set_cons_zero, List.set_cons_succ]
  refine wpAnyH_take (i := 47) (v := ?vv47_40) rfl (by kernel_rfl) (by kernel_rfl) (by kernel_rfl) (fun _ _ _ h => h) (Or.inl ⟨by rfl, ?yy47_40⟩) (by assumption) ?rr47_40
  case yy47_40 => (intro w hSw; (try dsimp only at hSw); (have hx : w.cell? ⟨R, 39, none⟩ = some (.bool p.bad) := hSw.1.2.1.c 39); (try simp only [List.getElem_toArray, List.getElem_cons_succ, List.getElem_cons_zero, Act.put, List.setIfInBounds_toArray, List.set_cons_zero, List.set_cons_succ]); go_simp; (try (with_reducible rfl)))
  try simp only [List.getElem_toArray, List.getElem_cons_succ, List.getElem_cons_zero, Act.put, List.setIfInBounds_toArray, List.set_cons_zero, List.set_cons_succ]
  refine wpAnyH_ready (rs := [43]) (by kernel_rfl) (by simp) ?_
  refine AllReadyH.cons (o := _) rfl (fun K hK => ?_) AllReadyH.nil
  try simp only [List.getElem_toArray, List.getElem_cons_succ, List.getElem_cons_zero, Act.put, List.setIfInBounds_toArray, List.set_cons_zero, List.set_cons_succ]
  go_simp
  refine (bad_any g p _ h6.1.1).mono ?_
  rintro e _ ⟨rfl, rfl⟩
  refine hK.out _ _ h6 (fun hHeld => ?_)
  clear hK K
  try simp only [List.getElem_toArray, List.getElem_cons_succ, List.getElem_cons_zero, Act.put, List.setIfInBounds_toArray, List.set_cons_zero, List.set_cons_succ]
  have hbb : (p.bad == p.bad) = true := beq_self_eq_true _
  refine wpAnyH_take (i := 48) (v := ?vv48_41) rfl (by kernel_rfl) (by kernel_rfl) (by kernel_rfl) (fun _ _ _ h => h) (Or.inl ⟨by rfl, ?yy48_41⟩) (by assumption) ?rr48_41
  case yy48_41 => (intro w hSw; (try dsimp only at hSw); (try simp only [List.getElem_toArray, List.getElem_cons_succ, List.getElem_cons_zero, Act.put, List.setIfInBounds_toArray, List.set_cons_zero, List.set_cons_succ]); go_simp; (try (with_reducible rfl)))
  try simp only [List.getElem_toArray, List.getElem_cons_succ, List.getElem_cons_zero, Act.put, List.setIfInBounds_toArray, List.set_cons_zero, List.set_cons_succ]
  refine wpAnyH_take (i := 49) (v := ?vv49_42) rfl (by kernel_rfl) (by kernel_rfl) (by kernel_rfl) (fun _ _ _ h => h) (Or.inl ⟨by rfl, ?yy49_42⟩) (by assumption) ?rr49_42
  case yy49_42 => (intro w hSw; (try dsimp only at hSw); (try simp only [List.getElem_toArray, List.getElem_cons_succ, List.getElem_cons_zero, Act.put, List.setIfInBounds_toArray, List.set_cons_zero, List.set_cons_succ]); go_simp; (try (with_reducible rfl)))
  try simp only [List.getElem_toArray, List.getElem_cons_succ, List.getElem_cons_zero, Act.put, List.setIfInBounds_toArray, List.set_cons_zero, List.set_cons_succ]
  refine wpAnyH_take (i := 50) (v := ?vv50_43) rfl (by kernel_rfl) (by kernel_rfl) (by kernel_rfl) (fun _ _ _ h => h) (Or.inl ⟨by rfl, ?yy50_43⟩) (by assumption) ?rr50_43
  case yy50_43 => (intro w hSw; (try dsimp only at hSw); (try simp only [List.getElem_toArray, List.getElem_cons_succ, List.getElem_cons_zero, Act.put, List.setIfInBounds_toArray, List.set_cons_zero, List.set_cons_succ]); go_simp; (try (with_reducible rfl)))
  try simp only [List.getElem_toArray, List.getElem_cons_succ, List.getElem_cons_zero, Act.put, List.setIfInBounds_toArray, List.set_cons_zero, List.set_cons_succ]
  refine wpAnyH_done (by kernel_rfl) ?_ _
  go_wp2
  go_ret
  exact ⟨by simp, h6⟩
end Go.Proofs.YtpohcejgblahiaaGreat.Pol
