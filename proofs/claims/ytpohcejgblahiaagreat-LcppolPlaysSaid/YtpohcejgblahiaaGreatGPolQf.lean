/- Put together: PolQf, PolQg. -/
import Derived.Test.YtpohcejgblahiaaGreatGPolQcc
import Derived.Test.YtpohcejgblahiaaGreatGPolQd
import Derived.Test.YtpohcejgblahiaaGreatGPolR
import Derived.Test.YtpohcejgblahiaaGreatGPolV
import Derived.Maps.AppendAt
import Derived.Test.YtpohcejgblahiaaGreatGPolI
import Derived.Test.YtpohcejgblahiaaGreatOptRg
import Derived.Test.YtpohcejgblahiaaGreatOptsStep
import Derived.Test.YtpohcejgblahiaaGreatOptsSwp
import Derived.Test.YtpohcejgblahiaaGreatQuietS
import Derived.Deep.DeepCutAuto

/- The document's Judge: what a round keeps (three rows of the call's own), and what it adds. -/
namespace Go.Proofs.YtpohcejgblahiaaGreat.Pol
open Go.RowKit Go.Proofs.YtpohcejgblahiaaGreat.Oct Go.Proofs.YtpohcejgblahiaaGreat.Row Go.Proofs.YtpohcejgblahiaaGreat.Mem Go.Proofs.YtpohcejgblahiaaGreat.Opt Go.Proofs.YtpohcejgblahiaaGreat.Lco

/-! ### what a round adds -/
theorem seen_fB (l : List Opt) (t : UInt8) : Opt.fB t l = seen l t := by
  unfold Opt.fB fd seen
  rw [Bool.eq_iff_iff, List.any_eq_true]
  cases h : l.find? (fun o => o.1 == t) with
  | none =>
    refine ⟨fun h' => absurd h' (by decide), fun ⟨o, ho, e⟩ => ?_⟩
    have := List.find?_eq_none.1 h o ho
    exact absurd e (by simpa using this)
  | some o => exact ⟨fun _ => ⟨o, List.mem_of_find?_eq_some h, List.find?_some (p := fun o : Opt => o.1 == t) h⟩, fun _ => rfl⟩
theorem rows_next (p : Po) (l : List Opt) (k : Nat) (o : Opt) (h : l[k]? = some o) : refs (vs p (l.take (k + 1))) = refs (vs p (l.take k)) ++ refs [ver p (l.take k) o] ∧ insts (vs p (l.take (k + 1))) = insts (vs p (l.take k)) ++ insts [ver p (l.take k) o] ∧ poors (vs p (l.take (k + 1))) = poors (vs p (l.take k)) ++ poors [ver p (l.take k) o] := by
  rw [vs_snoc p l k o h, refs_append, insts_append, poors_append]
  exact ⟨rfl, rfl, rfl⟩
/-- Refused. -/
theorem next_two {p : Po} {l : List Opt} {k : Nat} {o : Opt} (h : l[k]? = some o) (hr : seen (l.take k) o.1 = true ∨ acc p o = false) : refs (vs p (l.take (k + 1))) = refs (vs p (l.take k)) ++ [o] ∧ insts (vs p (l.take (k + 1))) = insts (vs p (l.take k)) ∧ poors (vs p (l.take (k + 1))) = poors (vs p (l.take k)) := by
  obtain ⟨h1, h2, h3⟩ := rows_next p l k o h
  have e0 : (seen (l.take k) o.1 || !acc p o) = true := by rcases hr with hr | hr <;> rw [hr] <;> simp
  have e : ver p (l.take k) o = ⟨o, true, zo⟩ := by unfold ver; rw [if_pos e0]
  rw [h1, h2, h3, refs_one, insts_one, poors_one, e]
  refine ⟨rfl, ?_, ?_⟩ <;> (show _ ++ [] = _) <;> simp
/-- Good. -/
theorem next_zero {p : Po} {l : List Opt} {k : Nat} {o : Opt} (h : l[k]? = some o) (hs : seen (l.take k) o.1 = false) (ha : acc p o = true) (hg : sug p o = o) : refs (vs p (l.take (k + 1))) = refs (vs p (l.take k)) ∧ insts (vs p (l.take (k + 1))) = insts (vs p (l.take k)) ∧ poors (vs p (l.take (k + 1))) = poors (vs p (l.take k)) := by
  obtain ⟨h1, h2, h3⟩ := rows_next p l k o h
  rw [h1, h2, h3, refs_one, insts_one, poors_one, ver_clean hs ha, hg]
  have e : poor ⟨o, false, o⟩ = false := by show (!false && !decide (o = o)) = false; rw [decide_eq_true rfl]; rfl
  rw [e]
  refine ⟨by simp, by simp, by simp⟩
theorem kO_one {p : Po} {o : Opt} (ha : acc p o = true) (hg : ¬ sug p o = o) : kO p o = 1 := by unfold kO; rw [ha, if_pos rfl, if_neg hg]
theorem kO_zero {p : Po} {o : Opt} (ha : acc p o = true) (hg : sug p o = o) : kO p o = 0 := by unfold kO; rw [ha, if_pos rfl, if_pos hg]
/-- To be another one. -/
theorem next_one {p : Po} {l : List Opt} {k : Nat} {o : Opt} (h : l[k]? = some o) (hs : seen (l.take k) o.1 = false) (ha : acc p o = true) (hg : ¬ sug p o = o) : refs (vs p (l.take (k + 1))) = refs (vs p (l.take k)) ∧ insts (vs p (l.take (k + 1))) = insts (vs p (l.take k)) ++ [xO p o] ∧ poors (vs p (l.take (k + 1))) = poors (vs p (l.take k)) ++ [o] := by
  obtain ⟨h1, h2, h3⟩ := rows_next p l k o h
  have hx : xO p o = sug p o := by unfold xO; rw [kO_one ha hg, if_pos rfl]
  rw [h1, h2, h3, refs_one, insts_one, poors_one, ver_clean hs ha, hx]
  have e : poor ⟨o, false, sug p o⟩ = true := by show (!false && !decide (sug p o = o)) = true; rw [decide_eq_false hg]; rfl
  rw [e]
  refine ⟨by simp, by simp, by simp⟩

/-! ### whether one has the own number -/
theorem isOwn_iff (p : Po) (o : Opt) : isOwn p.w (lo o) = (o.1 == 5 && p.w.hg && good o && (lo o).magic == p.w.magic) := by
  by_cases h5 : o.1 = 5
  · cases hg : good o
    · rw [h5, lo_bad hg]
      unfold isOwn
      rw [show lz.hg = false from rfl]
      simp
    · rw [own_of (lo_hg h5 hg), h5]
      simp
  · rw [show (o.1 == 5) = false from beq_eq_false_iff_ne.2 h5]
    have : (lo o).hg = false := lo_other (u := 5) rfl (fun e => h5 e.symm)
    unfold isOwn
    rw [this]
    simp

/-! ### three rows of the call's own -/
def Apart (u v : Value) : Prop := u.ownBlock = none ∨ u.ownBlock ≠ v.ownBlock
theorem Apart.symm {u v : Value} (h : Apart u v) : Apart v u := by
  rcases h with h | h
  · by_cases hv : v.ownBlock = none
    · exact .inl hv
    · exact .inr (fun e => hv (e.trans h))
  · exact .inr (fun e => h e.symm)
theorem apart_nil (v : Value) : Apart (.slice none 0 0) v := .inl rfl
/-- An append's row lies in the old one's block, or in a new one. -/
theorem apart_new {W : World} {base n : Nat} {e : TypeId} {xs : List Value} {u v v' : Value} (hu : W.ownsRow base e 2 u n xs) (h : Apart u v) (hat : v'.ownBlock = v.ownBlock ∨ v'.ownBlock = some W.heap.size) : Apart u v' := by
  rcases hat with e' | e'
  · unfold Apart; rw [e']; exact h
  · cases hk : u.ownBlock with
    | none => exact .inl hk
    | some k =>
      refine .inr (fun e2 => ?_)
      rw [hk, e'] at e2
      have := (hu.lt k hk).2
      cases e2
      exact absurd this (Nat.lt_irrefl _)
/-- What a round keeps. -/
structure Tri (w wr : World) (R N C : Value) (rn nn cn : Nat) (rs ns cs : List Opt) : Prop where
  b : Below w.heap.size w wr
  r : wr.ownsRow w.heap.size 51 2 R rn (optsV rs)
  n : wr.ownsRow w.heap.size 51 2 N nn (optsV ns)
  c : wr.ownsRow w.heap.size 51 2 C cn (optsV cs)
  rn : Apart R N
  rc : Apart R C
  nc : Apart N C
theorem tri_start (w : World) : Tri w w (.slice none 0 0) (.slice none 0 0) (.slice none 0 0) 0 0 0 [] [] [] :=
  ⟨Below.refl _ _, World.ownsRow_nil _ _ _ _, World.ownsRow_nil _ _ _ _, World.ownsRow_nil _ _ _ _, apart_nil _, apart_nil _, apart_nil _⟩
section
variable {w wr w' : World} {R N C v' : Value} {rn nn cn : Nat} {rs ns cs : List Opt} {o : Opt}
theorem Tri.callee (h : Tri w wr R N C rn nn cn rs ns cs) (hb : Below wr.heap.size wr w') : Tri w w' R N C rn nn cn rs ns cs :=
  ⟨h.b.trans (hb.mono h.b.size), own_callee h.r hb, own_callee h.n hb, own_callee h.c hb, h.rn, h.rc, h.nc⟩
theorem Tri.alloc (h : Tri w wr R N C rn nn cn rs ns cs) (x : Obj) : Tri w (wr.alloc x) R N C rn nn cn rs ns cs := h.callee ((Below.refl _ _).alloc (Nat.le_refl _) x)
theorem Tri.growR (h : Tri w wr R N C rn nn cn rs ns cs) (hg : wr.grownBy w' R.ownBlock) (hr : w'.ownsRow w.heap.size 51 2 v' (rn + 1) (optsV rs ++ optsV [o])) (hat : v'.ownBlock = R.ownBlock ∨ v'.ownBlock = some wr.heap.size) : Tri w w' v' N C (rn + 1) nn cn (rs ++ [o]) ns cs :=
  ⟨h.b.grown hg h.b.size (fun q hq => (h.r.lt q hq).1), by rw [optsV_append]; exact hr, h.n.kept hg h.rn.symm, h.c.kept hg h.rc.symm, (apart_new h.n h.rn.symm hat).symm, (apart_new h.c h.rc.symm hat).symm, h.nc⟩
theorem Tri.growN (h : Tri w wr R N C rn nn cn rs ns cs) (hg : wr.grownBy w' N.ownBlock) (hr : w'.ownsRow w.heap.size 51 2 v' (nn + 1) (optsV ns ++ optsV [o])) (hat : v'.ownBlock = N.ownBlock ∨ v'.ownBlock = some wr.heap.size) : Tri w w' R v' C rn (nn + 1) cn rs (ns ++ [o]) cs :=
  ⟨h.b.grown hg h.b.size (fun q hq => (h.n.lt q hq).1), h.r.kept hg h.rn, by rw [optsV_append]; exact hr, h.c.kept hg h.nc.symm, apart_new h.r h.rn hat, h.rc, (apart_new h.c h.nc.symm hat).symm⟩
theorem Tri.growC (h : Tri w wr R N C rn nn cn rs ns cs) (hg : wr.grownBy w' C.ownBlock) (hr : w'.ownsRow w.heap.size 51 2 v' (cn + 1) (optsV cs ++ optsV [o])) (hat : v'.ownBlock = C.ownBlock ∨ v'.ownBlock = some wr.heap.size) : Tri w w' R N v' rn nn (cn + 1) rs ns (cs ++ [o]) :=
  ⟨h.b.grown hg h.b.size (fun q hq => (h.c.lt q hq).1), h.r.kept hg h.rc, h.n.kept hg h.nc, by rw [optsV_append]; exact hr, h.rn, apart_new h.r h.rc hat, apart_new h.n h.nc hat⟩
end
end Go.Proofs.YtpohcejgblahiaaGreat.Pol

/- Contract of the document's Judge. Written by gen/pol_qg.py. -/
set_option linter.unusedSimpArgs false
set_option linter.unusedVariables false
namespace Go.Proofs.YtpohcejgblahiaaGreat.Pol
open Go.RowKit Go.Joins Go.Deep Go.Proofs.YtpohcejgblahiaaGreat.Oct Go.Proofs.YtpohcejgblahiaaGreat.Row Go.Proofs.YtpohcejgblahiaaGreat.Mem Go.Proofs.YtpohcejgblahiaaGreat.Opt Go.Proofs.YtpohcejgblahiaaGreat.Lco

theorem u8_eqn (v : UInt8) : ((v.toNat : Int) == 5) = (v == 5) := by
  rw [Bool.eq_iff_iff, beq_iff_eq, beq_iff_eq]
  exact ⟨fun h => UInt8.toNat_inj.1 (by show v.toNat = 5; omega), fun h => by rw [h]; rfl⟩
theorem pi_len (L : List Ver) : (poors L).length = (insts L).length := by
  induction L with
  | nil => rfl
  | cons v L ih =>
    unfold poors insts at *
    rw [List.filterMap_cons, List.filterMap_cons]
    cases h : poor v <;> simp [ih]
/-- What the document's Judge answers. -/
def RJudQ (p : Po) (l : List Opt) (g : Nat) (w : World) (e : Ending) (w' : World) : Prop := ∃ A c, e = .returned (.tuple #[.int .u8 (jC p l), .slice A (jA p l).length c]) ∧ Opts w' w'.heap.size A (jA p l).length (jA p l) ∧ RAt w' g (jP p l) ∧ Moves (fun k => k = g) w w'
theorem insts_small {p : Po} {l : List Opt} {o : Opt} (h : o ∈ insts (vs p l)) : o.2.size ≤ 4 := by
  obtain ⟨v, hv, e⟩ := List.mem_filterMap.1 h
  split at e
  · cases e; exact (vs_mem hv).2
  · cases e
theorem rj_end {p q : Po} {l a : List Opt} {g C n' c' : Nat} {A' : Option Addr} {w W : World} (h : jC p l = C ∧ jA p l = a ∧ jP p l = q) (hn : a.length = n') (ho : Opts W W.heap.size A' n' a) (hp : RAt W g q) (hm : Moves (fun k => k = g) w W) : RJudQ p l g w (.returned (.tuple #[.int .u8 C, .slice A' n' c'])) W := by
  obtain ⟨h1, h2, h3⟩ := h
  subst hn
  refine ⟨A', c', ?_, ?_, ?_, hm⟩
  · rw [h1, h2]
  · rw [h2]; exact ho
  · rw [h3]; exact hp
set_option maxHeartbeats 16000000 in
set_option maxRecDepth 100000 in
theorem rjudge_any (g : Nat) (p : Po) (l : List Opt) (A : Option Addr) (n c : Nat) (w : World) (h : RAt w g p) (hl : Opts w w.heap.size A n l) (hA : A = none → c = 0) (hn : n ≤ 1000) (hnc : n ≤ c) (hni : p.naks ≤ 1000) (hlo : p.loops ≤ 1000000) (hle : (p.naks : Int) ≤ p.c.mn) (hc3 : p.c.can ≤ 3) :
    Calls Tryz.prog 46 #[.pointer (some ⟨g, 0, none⟩), .slice A n c] w (RJudQ p l g w) := by
  obtain ⟨i0, hi, hz0, hz1, hz2⟩ := info_parts Tryz.info51
  have HP := Lib.hid h
  have HL := Lib.hid hl
  have Hn := Lib.hid hl.1
  have HC3 := Lib.hid hc3
  clear h hl hc3
  go_enter Tryz.func46, Tryz.ntmps46
  go_wp2_with fail
  go_loopw [6, 7, 8, 9, 10] (fun R N C b i wr => ∃ (k rn nn cn : Nat) (lb : Bool), k ≤ n ∧ rn ≤ k ∧ nn ≤ k ∧ cn ≤ k ∧ b = .bool lb ∧ i = .int .i64 k ∧ Hid (lb = own p (l.take k)) ∧ Hid (Tri w wr R N C rn nn cn (refs (vs p (l.take k))) (insts (vs p (l.take k))) (poors (vs p (l.take k))))) (fun _ _ _ _ i _ => n - (intOf i).toNat)
  case atStart => exact ⟨0, 0, 0, 0, false, Nat.zero_le _, Nat.le_refl _, Nat.le_refl _, Nat.le_refl _, rfl, rfl, rfl, tri_start w⟩
  case round =>
    obtain ⟨k, rn, nn, cn, lb, hk, hrn, hnn, hcn, rfl, rfl, Hlb, HT⟩ := hrel
    by_cases hlt : k < n
    · obtain ⟨ad, o, hAA, hB, ho, hS1, hc0, hc1⟩ := (HL.out.below HT.out.b).at_ hlt
      subst hAA
      have Ho := Lib.hid ho
      have HSz := Lib.hid hS1
      have hlt' : (k : Int) < (n : Int) := by omega
      have hlt2 := decide_eq_true hlt'
      have HOw : Hid (own p (l.take (k + 1)) = (lb || isOwn p.w (lo o))) := by show _ = _; rw [own_snoc p l k o ho, ← Hlb.out]
      clear ho hS1 Hlb
      have d0 := hc0
      have d1 := hc1
      clear hc0 hc1
      obtain ⟨tw, htw⟩ : ∃ tw, seen (l.take k) o.1 = tw := ⟨_, rfl⟩
      obtain ⟨f, hf⟩ : ∃ f, fA o.1 (l.take k) = f := ⟨_, rfl⟩
      have HFi : Hid (∀ U, Below wr.heap.size wr U → Calls Tryz.prog 84 #[.int .u8 o.1.toNat, .slice (some ad) k c] U fun e w' => e = .returned (.tuple #[.agg #[.int .u8 f.1.toNat, .string f.2], .bool tw]) ∧ Below U.heap.size U w') := fun U hU => by
        have h1 := HT.out.b.trans (hU.mono HT.out.b.size)
        have h := rfind_any o.1 (l.take k) w.heap.size (some ad) k c U (opts_take (HL.out.below h1) (by omega)) (by unfold maxLen; omega) h1.size
        rw [seen_fB, htw, hf] at h
        exact h
      have hsl := fun W => run_front (P := Tryz.prog) 30 Tryz.underlying30 (fun W => by kernel_rfl) (some ad) n c k (by omega) W
      have Htw := Lib.hid htw
      clear htw hf
      go_upto_region 6 with (fail)
      go_cut [11, 12] from 24 to 35 (fun _ s wx => s = .bool tw ∧ Hid (Below wr.heap.size wr wx))
      case first =>
        refine wp_region_held_drew (S := fun w' => Below wr.heap.size wr w') (by kernel_rfl) (Below.refl _ wr).drew (fun hHeld => ?_)
        have HBu : Hid (Below wr.heap.size wr wr.drew) := (Below.refl _ wr).drew
        generalize wr.drew = U at *
        refine wpAnyH_take (i := 0) (v := ?vv0_1) rfl (by kernel_rfl) (by kernel_rfl) (by kernel_rfl) (fun _ _ _ h => h) (Or.inl ⟨by rfl, ?yy0_1⟩) (by assumption) ?rr0_1
        case yy0_1 => (intro w hSw; (try dsimp only at hSw); have hs0 := (hSw.cell (World.block_lt_of_cell? _ _ d0)).trans d0; (try simp only [List.getElem_toArray, List.getElem_cons_succ, List.getElem_cons_zero, Act.put, List.setIfInBounds_toArray, List.set_cons_zero, List.set_cons_succ]); go_simp; (try (with_reducible rfl)))
        try simp only [List.getElem_toArray, List.getElem_cons_succ, List.getElem_cons_zero, Act.put, List.setIfInBounds_toArray, List.set_cons_zero, List.set_cons_succ]
        refine wpAnyH_take (i := 1) (v := ?vv1_2) rfl (by kernel_rfl) (by kernel_rfl) (by kernel_rfl) (fun _ _ _ h => h) (Or.inl ⟨by rfl, ?yy1_2⟩) (by assumption) ?rr1_2
        case yy1_2 => (intro w hSw; (try dsimp only at hSw); have hs0 := (hSw.cell (World.block_lt_of_cell? _ _ d0)).trans d0; (try simp only [List.getElem_toArray, List.getElem_cons_succ, List.getElem_cons_zero, Act.put, List.setIfInBounds_toArray, List.set_cons_zero, List.set_cons_succ]); go_simp; (try (with_reducible rfl)))
        try simp only [List.getElem_toArray, List.getElem_cons_succ, List.getElem_cons_zero, Act.put, List.setIfInBounds_toArray, List.set_cons_zero, List.set_cons_succ]
        refine wpAnyH_take (i := 2) (v := ?vv2_3) rfl (by kernel_rfl) (by kernel_rfl) (by kernel_rfl) (fun _ _ _ h => h) (Or.inl ⟨by rfl, ?yy2_3⟩) (by assumption) ?rr2_3
        case yy2_3 => (intro w hSw; (try dsimp only at hSw); have hs0 := (hSw.cell (World.block_lt_of_cell? _ _ d0)).trans d0; (try simp only [List.getElem_toArray, List.getElem_cons_succ, List.getElem_cons_zero, Act.put, List.setIfInBounds_toArray, List.set_cons_zero, List.set_cons_succ]); go_simp; (try (with_reducible rfl)))
        try simp only [List.getElem_toArray, List.getElem_cons_succ, List.getElem_cons_zero, Act.put, List.setIfInBounds_toArray, List.set_cons_zero, List.set_cons_succ]
        refine wpAnyH_take (i := 3) (v := ?vv3_4) rfl (by kernel_rfl) (by kernel_rfl) (by kernel_rfl) (fun _ _ _ h => h) (Or.inl ⟨by rfl, ?yy3_4⟩) (by assumption) ?rr3_4
        case yy3_4 => (intro w hSw; (try dsimp only at hSw); have hs0 := (hSw.cell (World.block_lt_of_cell? _ _ d0)).trans d0; (try simp only [List.getElem_toArray, List.getElem_cons_succ, List.getElem_cons_zero, Act.put, List.setIfInBounds_toArray, List.set_cons_zero, List.set_cons_succ]); go_simp; (try (with_reducible rfl)))
        try simp only [List.getElem_toArray, List.getElem_cons_succ, List.getElem_cons_zero, Act.put, List.setIfInBounds_toArray, List.set_cons_zero, List.set_cons_succ]
        refine wpAnyH_take (i := 4) (v := ?vv4_5) rfl (by kernel_rfl) (by kernel_rfl) (by kernel_rfl) (fun _ _ _ h => h) (Or.inl ⟨by rfl, ?yy4_5⟩) (by assumption) ?rr4_5
        case yy4_5 => (intro w hSw; (try dsimp only at hSw); have hs0 := (hSw.cell (World.block_lt_of_cell? _ _ d0)).trans d0; (try simp only [List.getElem_toArray, List.getElem_cons_succ, List.getElem_cons_zero, Act.put, List.setIfInBounds_toArray, List.set_cons_zero, List.set_cons_succ]); go_simp; (try (with_reducible rfl)))
        try simp only [List.getElem_toArray, List.getElem_cons_succ, List.getElem_cons_zero, Act.put, List.setIfInBounds_toArray, List.set_cons_zero, List.set_cons_succ]
        refine wpAnyH_take (i := 5) (v := ?vv5_6) rfl (by kernel_rfl) (by kernel_rfl) (by kernel_rfl) (fun _ _ _ h => h) (Or.inl ⟨by rfl, ?yy5_6⟩) (by assumption) ?rr5_6
        case yy5_6 => (intro w hSw; (try dsimp only at hSw); have hs0 := (hSw.cell (World.block_lt_of_cell? _ _ d0)).trans d0; (try simp only [List.getElem_toArray, List.getElem_cons_succ, List.getElem_cons_zero, Act.put, List.setIfInBounds_toArray, List.set_cons_zero, List.set_cons_succ]); go_simp; (try (with_reducible rfl)))
        try simp only [List.getElem_toArray, List.getElem_cons_succ, List.getElem_cons_zero, Act.put, List.setIfInBounds_toArray, List.set_cons_zero, List.set_cons_succ]
        refine wpAnyH_take (i := 6) (v := ?vv6_7) rfl (by kernel_rfl) (by kernel_rfl) (by kernel_rfl) (fun _ _ _ h => h) (Or.inl ⟨by rfl, ?yy6_7⟩) (by assumption) ?rr6_7
        case yy6_7 => (intro w hSw; (try dsimp only at hSw); have hs0 := (hSw.cell (World.block_lt_of_cell? _ _ d0)).trans d0; (try simp only [List.getElem_toArray, List.getElem_cons_succ, List.getElem_cons_zero, Act.put, List.setIfInBounds_toArray, List.set_cons_zero, List.set_cons_succ]); go_simp; (try (with_reducible rfl)))
        try simp only [List.getElem_toArray, List.getElem_cons_succ, List.getElem_cons_zero, Act.put, List.setIfInBounds_toArray, List.set_cons_zero, List.set_cons_succ]
        refine wpAnyH_take (i := 7) (v := ?vv7_8) rfl (by kernel_rfl) (by kernel_rfl) (by kernel_rfl) (fun _ _ _ h => h) (Or.inl ⟨by rfl, ?yy7_8⟩) (by assumption) ?rr7_8
        case yy7_8 => (intro w hSw; (try dsimp only at hSw); have hs0 := (hSw.cell (World.block_lt_of_cell? _ _ d0)).trans d0; (try simp only [List.getElem_toArray, List.getElem_cons_succ, List.getElem_cons_zero, Act.put, List.setIfInBounds_toArray, List.set_cons_zero, List.set_cons_succ]); go_simp; (try (with_reducible rfl)))
        try simp only [List.getElem_toArray, List.getElem_cons_succ, List.getElem_cons_zero, Act.put, List.setIfInBounds_toArray, List.set_cons_zero, List.set_cons_succ]
        refine wpAnyH_ready (rs := [8, 12]) (by kernel_rfl) (by simp) ?_
        refine AllReadyH.cons (o := _) rfl (fun K hK => ?_) (AllReadyH.cons (o := _) rfl (fun K hK => ?_) AllReadyH.nil)
        · try simp only [List.getElem_toArray, List.getElem_cons_succ, List.getElem_cons_zero, Act.put, List.setIfInBounds_toArray, List.set_cons_zero, List.set_cons_succ]
          go_simp
          refine (HFi.out U HBu.out).mono ?_
          rintro e v2 ⟨rfl, hb2⟩
          have HB2 := Lib.hid (HBu.out.trans (hb2.mono HBu.out.size))
          refine hK.out _ _ HB2.out (fun hHeld => ?_)
          clear hK K
          try simp only [List.getElem_toArray, List.getElem_cons_succ, List.getElem_cons_zero, Act.put, List.setIfInBounds_toArray, List.set_cons_zero, List.set_cons_succ]
          refine wpAnyH_take (i := 9) (v := ?vv9_9) rfl (by kernel_rfl) (by kernel_rfl) (by kernel_rfl) (fun _ _ _ h => h) (Or.inl ⟨by rfl, ?yy9_9⟩) (by assumption) ?rr9_9
          case yy9_9 => (intro w hSw; (try dsimp only at hSw); have hs0 := (hSw.cell (World.block_lt_of_cell? _ _ d0)).trans d0; (try simp only [List.getElem_toArray, List.getElem_cons_succ, List.getElem_cons_zero, Act.put, List.setIfInBounds_toArray, List.set_cons_zero, List.set_cons_succ]); go_simp; (try (with_reducible rfl)))
          try simp only [List.getElem_toArray, List.getElem_cons_succ, List.getElem_cons_zero, Act.put, List.setIfInBounds_toArray, List.set_cons_zero, List.set_cons_succ]
          refine wpAnyH_take (i := 10) (v := ?vv10_10) rfl (by kernel_rfl) (by kernel_rfl) (by kernel_rfl) (fun _ _ _ h => h) (Or.inl ⟨by rfl, ?yy10_10⟩) (by assumption) ?rr10_10
          case yy10_10 => (intro w hSw; (try dsimp only at hSw); have hs0 := (hSw.cell (World.block_lt_of_cell? _ _ d0)).trans d0; (try simp only [List.getElem_toArray, List.getElem_cons_succ, List.getElem_cons_zero, Act.put, List.setIfInBounds_toArray, List.set_cons_zero, List.set_cons_succ]); go_simp; (try (with_reducible rfl)))
          try simp only [List.getElem_toArray, List.getElem_cons_succ, List.getElem_cons_zero, Act.put, List.setIfInBounds_toArray, List.set_cons_zero, List.set_cons_succ]
          refine wpAnyH_take (i := 11) (v := ?vv11_11) rfl (by kernel_rfl) (by kernel_rfl) (by kernel_rfl) (fun _ _ _ h => h) (Or.inl ⟨by rfl, ?yy11_11⟩) (by assumption) ?rr11_11
          case yy11_11 => (intro w hSw; (try dsimp only at hSw); have hs0 := (hSw.cell (World.block_lt_of_cell? _ _ d0)).trans d0; (try simp only [List.getElem_toArray, List.getElem_cons_succ, List.getElem_cons_zero, Act.put, List.setIfInBounds_toArray, List.set_cons_zero, List.set_cons_succ]); go_simp; (try (with_reducible rfl)))
          try simp only [List.getElem_toArray, List.getElem_cons_succ, List.getElem_cons_zero, Act.put, List.setIfInBounds_toArray, List.set_cons_zero, List.set_cons_succ]
          refine wpAnyH_ready (rs := [12]) (by kernel_rfl) (by simp) ?_
          refine AllReadyH.cons (o := _) rfl (fun K hK => ?_) AllReadyH.nil
          try simp only [List.getElem_toArray, List.getElem_cons_succ, List.getElem_cons_zero, Act.put, List.setIfInBounds_toArray, List.set_cons_zero, List.set_cons_succ]
          go_simp
          have HSa := Lib.hid (HB2.out.alloc HB2.out.size (.cells #[.int .u8 0, .string ⟨#[]⟩] 51))
          refine hK.out _ _ HSa.out (fun hHeld => ?_)
          clear hK K
          try simp only [List.getElem_toArray, List.getElem_cons_succ, List.getElem_cons_zero, Act.put, List.setIfInBounds_toArray, List.set_cons_zero, List.set_cons_succ]
          refine wpAnyH_ready (rs := [13]) (by kernel_rfl) (by simp) ?_
          refine AllReadyH.cons (o := _) rfl (fun K hK => ?_) AllReadyH.nil
          try simp only [List.getElem_toArray, List.getElem_cons_succ, List.getElem_cons_zero, Act.put, List.setIfInBounds_toArray, List.set_cons_zero, List.set_cons_succ]
          go_simp
          have HSe := Lib.hid (HB2.out.alloc HB2.out.size (.cells #[.int .u8 f.1.toNat, .string f.2] 51))
          refine hK.out _ _ HSe.out (fun hHeld => ?_)
          clear hK K
          try simp only [List.getElem_toArray, List.getElem_cons_succ, List.getElem_cons_zero, Act.put, List.setIfInBounds_toArray, List.set_cons_zero, List.set_cons_succ]
          refine wpAnyH_take (i := 14) (v := ?vv14_12) rfl (by kernel_rfl) (by kernel_rfl) (by kernel_rfl) (fun _ _ _ h => h) (Or.inl ⟨by rfl, ?yy14_12⟩) (by assumption) ?rr14_12
          case yy14_12 => (intro w hSw; (try dsimp only at hSw); have hs0 := (hSw.cell (World.block_lt_of_cell? _ _ d0)).trans d0; (try simp only [List.getElem_toArray, List.getElem_cons_succ, List.getElem_cons_zero, Act.put, List.setIfInBounds_toArray, List.set_cons_zero, List.set_cons_succ]); go_simp; (try (with_reducible rfl)))
          try simp only [List.getElem_toArray, List.getElem_cons_succ, List.getElem_cons_zero, Act.put, List.setIfInBounds_toArray, List.set_cons_zero, List.set_cons_succ]
          refine wpAnyH_done (by kernel_rfl) ?_ _
          go_wp2
          go_meet
          exact ⟨rfl, HSe⟩
        · try simp only [List.getElem_toArray, List.getElem_cons_succ, List.getElem_cons_zero, Act.put, List.setIfInBounds_toArray, List.set_cons_zero, List.set_cons_succ]
          go_simp
          have HSa := Lib.hid (HBu.out.alloc HBu.out.size (.cells #[.int .u8 0, .string ⟨#[]⟩] 51))
          have HZa : Hid (At (U.alloc (.cells #[.int .u8 0, .string ⟨#[]⟩] 51)) U.heap.size (0, ⟨#[]⟩)) := at_new U 0 ⟨#[]⟩
          refine hK.out _ _ HSa.out (fun hHeld => ?_)
          clear hK K
          try simp only [List.getElem_toArray, List.getElem_cons_succ, List.getElem_cons_zero, Act.put, List.setIfInBounds_toArray, List.set_cons_zero, List.set_cons_succ]
          refine wpAnyH_ready (rs := [8]) (by kernel_rfl) (by simp) ?_
          refine AllReadyH.cons (o := _) rfl (fun K hK => ?_) AllReadyH.nil
          try simp only [List.getElem_toArray, List.getElem_cons_succ, List.getElem_cons_zero, Act.put, List.setIfInBounds_toArray, List.set_cons_zero, List.set_cons_succ]
          go_simp
          refine (HFi.out _ HSa.out).mono ?_
          rintro e v2 ⟨rfl, hb2⟩
          have HB2 := Lib.hid (HSa.out.trans (hb2.mono HSa.out.size))
          have HZ2 := Lib.hid (HZa.out.callee hb2)
          refine hK.out _ _ HB2.out (fun hHeld => ?_)
          clear hK K
          try simp only [List.getElem_toArray, List.getElem_cons_succ, List.getElem_cons_zero, Act.put, List.setIfInBounds_toArray, List.set_cons_zero, List.set_cons_succ]
          refine wpAnyH_take (i := 9) (v := ?vv9_13) rfl (by kernel_rfl) (by kernel_rfl) (by kernel_rfl) (fun _ _ _ h => h) (Or.inl ⟨by rfl, ?yy9_13⟩) (by assumption) ?rr9_13
          case yy9_13 => (intro w hSw; (try dsimp only at hSw); have hs0 := (hSw.cell (World.block_lt_of_cell? _ _ d0)).trans d0; (try simp only [List.getElem_toArray, List.getElem_cons_succ, List.getElem_cons_zero, Act.put, List.setIfInBounds_toArray, List.set_cons_zero, List.set_cons_succ]); go_simp; (try (with_reducible rfl)))
          try simp only [List.getElem_toArray, List.getElem_cons_succ, List.getElem_cons_zero, Act.put, List.setIfInBounds_toArray, List.set_cons_zero, List.set_cons_succ]
          refine wpAnyH_take (i := 10) (v := ?vv10_14) rfl (by kernel_rfl) (by kernel_rfl) (by kernel_rfl) (fun _ _ _ h => h) (Or.inl ⟨by rfl, ?yy10_14⟩) (by assumption) ?rr10_14
          case yy10_14 => (intro w hSw; (try dsimp only at hSw); have hs0 := (hSw.cell (World.block_lt_of_cell? _ _ d0)).trans d0; (try simp only [List.getElem_toArray, List.getElem_cons_succ, List.getElem_cons_zero, Act.put, List.setIfInBounds_toArray, List.set_cons_zero, List.set_cons_succ]); go_simp; (try (with_reducible rfl)))
          try simp only [List.getElem_toArray, List.getElem_cons_succ, List.getElem_cons_zero, Act.put, List.setIfInBounds_toArray, List.set_cons_zero, List.set_cons_succ]
          refine wpAnyH_take (i := 11) (v := ?vv11_15) rfl (by kernel_rfl) (by kernel_rfl) (by kernel_rfl) (fun _ _ _ h => h) (Or.inl ⟨by rfl, ?yy11_15⟩) (by assumption) ?rr11_15
          case yy11_15 => (intro w hSw; (try dsimp only at hSw); have hs0 := (hSw.cell (World.block_lt_of_cell? _ _ d0)).trans d0; (try simp only [List.getElem_toArray, List.getElem_cons_succ, List.getElem_cons_zero, Act.put, List.setIfInBounds_toArray, List.set_cons_zero, List.set_cons_succ]); go_simp; (try (with_reducible rfl)))
          try simp only [List.getElem_toArray, List.getElem_cons_succ, List.getElem_cons_zero, Act.put, List.setIfInBounds_toArray, List.set_cons_zero, List.set_cons_succ]
          obtain ⟨y0, y1⟩ : _ ∧ _ := ⟨HZ2.out.c0, HZ2.out.c1⟩
          have x0 := Blk.frozen HZ2.out 0
          have x1 := Blk.frozen HZ2.out 1
          refine wpAnyH_ready (rs := [13]) (by kernel_rfl) (by simp) ?_
          refine AllReadyH.cons (o := _) rfl (fun K hK => ?_) AllReadyH.nil
          try simp only [List.getElem_toArray, List.getElem_cons_succ, List.getElem_cons_zero, Act.put, List.setIfInBounds_toArray, List.set_cons_zero, List.set_cons_succ]
          go_simp
          have hmv : Moves (fun j => j = U.heap.size) v2 ((v2.setCell ⟨U.heap.size, 0, none⟩ (.int .u8 f.1.toNat)).setCell ⟨U.heap.size, 1, none⟩ (.string f.2)) := (set_moves v2 U.heap.size 0 _).trans (set_moves _ U.heap.size 1 _) (fun _ _ h => h)
          have HSe := Lib.hid (HB2.out.trans (hmv.below HB2.out.size (fun k e => by rw [e]; exact HBu.out.size)))
          refine hK.out _ _ HSe.out (fun hHeld => ?_)
          clear hK K
          try simp only [List.getElem_toArray, List.getElem_cons_succ, List.getElem_cons_zero, Act.put, List.setIfInBounds_toArray, List.set_cons_zero, List.set_cons_succ]
          refine wpAnyH_take (i := 14) (v := ?vv14_16) rfl (by kernel_rfl) (by kernel_rfl) (by kernel_rfl) (fun _ _ _ h => h) (Or.inl ⟨by rfl, ?yy14_16⟩) (by assumption) ?rr14_16
          case yy14_16 => (intro w hSw; (try dsimp only at hSw); have hs0 := (hSw.cell (World.block_lt_of_cell? _ _ d0)).trans d0; (try simp only [List.getElem_toArray, List.getElem_cons_succ, List.getElem_cons_zero, Act.put, List.setIfInBounds_toArray, List.set_cons_zero, List.set_cons_succ]); go_simp; (try (with_reducible rfl)))
          try simp only [List.getElem_toArray, List.getElem_cons_succ, List.getElem_cons_zero, Act.put, List.setIfInBounds_toArray, List.set_cons_zero, List.set_cons_succ]
          refine wpAnyH_done (by kernel_rfl) ?_ _
          go_wp2
          go_meet
          exact ⟨rfl, HSe⟩
      case rest =>
        obtain ⟨rfl, HBx⟩ := hcut
        have HT1 := Lib.hid (HT.out.callee HBx.out)
        have g0 := (HBx.out.cell (World.block_lt_of_cell? _ _ d0)).trans d0
        have g1 := (HBx.out.cell (World.block_lt_of_cell? _ _ d1)).trans d1
        clear HT d0 d1 HBx HFi hsl
        generalize wc = Y at *
        go_wp2_with fail
        refine (one_any g p o Y (HP.out.below HT1.out.b HP.out.lt) HSz.out HC3.out).mono ?_
        rintro e w1 ⟨rfl, hb1⟩
        have HTa := Lib.hid (HT1.out.callee hb1)
        have e0 := (hb1.cell (World.block_lt_of_cell? _ _ g0)).trans g0
        have e1 := (hb1.cell (World.block_lt_of_cell? _ _ g1)).trans g1
        clear hb1 HT1 g0 g1
        obtain ⟨V, hV, HV⟩ := boxO w1 (xO p o)
        have HT1 := Lib.hid (HTa.out.callee HV.out.2.1)
        have d0 := (HV.out.2.1.cell (World.block_lt_of_cell? _ _ e0)).trans e0
        have d1 := (HV.out.2.1.cell (World.block_lt_of_cell? _ _ e1)).trans e1
        have HX := Lib.hid HV.out.1
        have HPV := Lib.hid (HP.out.below HT1.out.b HP.out.lt)
        clear HV HTa e0 e1
        obtain ⟨b, hb⟩ : ∃ b, w1.heap.size = b := ⟨_, rfl⟩
        obtain ⟨kk, hkk⟩ : ∃ kk : Int, (if tw then 2 else (kO p o : Int)) = kk := ⟨_, rfl⟩
        have Hkk := Lib.hid hkk
        go_upto_if 45 with (fail)
        rw [hb] at HX
        clear hV hb
        go_cut [13] (fun s wx => s = .int .i64 kk ∧ wx = V)
        case first =>
          cases tw
          · have hkk' : (kO p o : Int) = kk := hkk
            clear hkk
            go_wp2
            go_meet
            exact ⟨by rw [hkk'] <;> rfl, rfl⟩
          · have hkk' : (2 : Int) = kk := hkk
            subst hkk'
            clear hkk
            go_wp2
            go_meet
            exact ⟨rfl, rfl⟩
        case rest =>
        clear hkk
        obtain ⟨rfl, hwc⟩ := hcut
        rw [hwc]
        clear hwc
        have HGq : Hid (∀ z : HeldW (fun w' => Below V.heap.size V w'), Calls Tryz.prog 86 #[.agg #[.int .u8 o.1.toNat, .string o.2]] z.w fun e w' => e = .returned (.bool (good o)) ∧ Below V.heap.size V w') := fun z => (rgood_any o.1 o.2 z.w).mono fun e w' ⟨he, hb⟩ => ⟨he, z.h.trans (hb.mono z.h.size)⟩
        have HSq : Hid (∀ z : HeldW (fun w' => Below V.heap.size V w'), Calls Tryz.prog 87 #[.agg #[.int .u8 o.1.toNat, .string o.2]] z.w fun e w' => e = .returned (.agg #[Value.bool (lo o).hm, .int .u16 (lo o).mru.toNat, .bool (lo o).ha, .int .u32 (lo o).accm.toNat, .int .u8 (lo o).auth.toNat, .bool (lo o).hg, .int .u32 (lo o).magic.toNat, .bool (lo o).pfc, .bool (lo o).acfc]) ∧ Below V.heap.size V w') := fun z => (rsays_any o z.w HSz.out).mono fun e w' ⟨he, hb⟩ => ⟨he, z.h.trans (hb.mono z.h.size)⟩
        have HIs := Lib.hid (isOwn_iff p o)
        have ho5 := u8_eqn o.1
        have hmo := u32_eqq (lo o).magic p.w.magic
        generalize lo o = x at *
        have hfld : ∀ W, (Instr.field 37 (.agg #[Value.bool x.hm, .int .u16 x.mru.toNat, .bool x.ha, .int .u32 x.accm.toNat, .int .u8 x.auth.toNat, .bool x.hg, .int .u32 x.magic.toNat, .bool x.pfc, .bool x.acfc]) 6).run Tryz.prog W = .ok (.int .u32 x.magic.toNat) W := fun W => by kernel_rfl
        obtain ⟨x5, Hx5⟩ : ∃ z, Hid (z = (o.1 == 5)) := ⟨_, rfl⟩
        obtain ⟨ph, Hph⟩ : ∃ z, Hid (z = p.w.hg) := ⟨_, rfl⟩
        obtain ⟨gd, Hgd⟩ : ∃ z, Hid (z = good o) := ⟨_, rfl⟩
        obtain ⟨mb, Hmb⟩ : ∃ z, Hid (z = (x.magic == p.w.magic)) := ⟨_, rfl⟩
        rw [← Hx5.out] at ho5
        rw [← Hmb.out] at hmo
        rw [← Hgd.out] at HGq
        have HFl : Hid (own p (l.take (k + 1)) = (lb || (x5 && ph && gd && mb))) := by show _ = _; rw [HOw.out, HIs.out, ← Hx5.out, ← Hph.out, ← Hgd.out, ← Hmb.out]
        go_upto_region 10 with (fail)
        go_cut [9] from 46 to 82 (fun s wx => s = .bool (lb || (x5 && ph && gd && mb)) ∧ Hid (Below V.heap.size V wx))
        case first =>
          have d0' : ∀ z : HeldW (fun w' => Below V.heap.size V w'), z.w.cell? (ad.add (k * 2)) = some (.int .u8 o.1.toNat) := fun z => (z.h.cell (World.block_lt_of_cell? _ _ d0)).trans d0
          have d1' : ∀ z : HeldW (fun w' => Below V.heap.size V w'), z.w.cell? ⟨(ad.add (k * 2)).block, (ad.add (k * 2)).off + 1, none⟩ = some (.string o.2) := fun z => (z.h.cell (World.block_lt_of_cell? _ _ d1)).trans d1
          have p15 : ∀ z : HeldW (fun w' => Below V.heap.size V w'), z.w.cell? ⟨g, 15, none⟩ = some (.bool ph) := fun z => by rw [Hph.out]; exact (z.h.cell (p := ⟨g, 15, none⟩) HPV.out.lt).trans (HPV.out.c 15)
          have p16 : ∀ z : HeldW (fun w' => Below V.heap.size V w'), z.w.cell? ⟨g, 16, none⟩ = some (.int .u32 p.w.magic.toNat) := fun z => (z.h.cell (p := ⟨g, 16, none⟩) HPV.out.lt).trans (HPV.out.c 16)
          clear d0 d1
          cases lb
          · cases x5
            · have hne : Nonempty (HeldW (fun w' => Below V.heap.size V w')) := ⟨⟨V.drew, (Below.refl V.heap.size V).drew⟩⟩
              refine wp_region_quiet_shut (fun w' => Below V.heap.size V w') (by kernel_rfl) (by kernel_rfl) (Below.refl V.heap.size V).drew (fun G hst hnil => ?_)
              repeat (
                refine hst.out _ _ _ (fun K hK => ?_)
                go_simp
                first
                  | (refine hK _ ?_; clear hK K)
                  | (apply Exists.intro
                     refine ⟨fun _ => ?_, hK _ ?_⟩
                     fail
                     clear hK K))
              refine hnil.out _ (fun z => ?_)
              clear hnil hst
              have HZ := Lib.hid z.h
              go_wp2
              go_meet
              exact ⟨by simp, HZ⟩
            · cases ph
              · have hne : Nonempty (HeldW (fun w' => Below V.heap.size V w')) := ⟨⟨V.drew, (Below.refl V.heap.size V).drew⟩⟩
                refine wp_region_quiet_shut (fun w' => Below V.heap.size V w') (by kernel_rfl) (by kernel_rfl) (Below.refl V.heap.size V).drew (fun G hst hnil => ?_)
                repeat (
                  refine hst.out _ _ _ (fun K hK => ?_)
                  go_simp
                  first
                    | (refine hK _ ?_; clear hK K)
                    | (apply Exists.intro
                       refine ⟨fun _ => ?_, hK _ ?_⟩
                       fail
                       clear hK K))
                refine hnil.out _ (fun z => ?_)
                clear hnil hst
                have HZ := Lib.hid z.h
                go_wp2
                go_meet
                exact ⟨by simp, HZ⟩
              · cases gd
                · have hne : Nonempty (HeldW (fun w' => Below V.heap.size V w')) := ⟨⟨V.drew, (Below.refl V.heap.size V).drew⟩⟩
                  refine wp_region_quiet_shut (fun w' => Below V.heap.size V w') (by kernel_rfl) (by kernel_rfl) (Below.refl V.heap.size V).drew (fun G hst hnil => ?_)
                  repeat (
                    refine hst.out _ _ _ (fun K hK => ?_)
                    go_simp
                    first
                      | (refine hK _ ?_; clear hK K)
                      | (apply Exists.intro
                         refine ⟨fun _ => ?_, hK _ ?_⟩
                         (first
                           | (go_at_call 86; exact held_of (HGq.out _)))
                         clear hK K))
                  refine hnil.out _ (fun z => ?_)
                  clear hnil hst
                  have HZ := Lib.hid z.h
                  go_wp2
                  go_meet
                  exact ⟨by simp, HZ⟩
                · have hne : Nonempty (HeldW (fun w' => Below V.heap.size V w')) := ⟨⟨V.drew, (Below.refl V.heap.size V).drew⟩⟩
                  refine wp_region_quiet_shut (fun w' => Below V.heap.size V w') (by kernel_rfl) (by kernel_rfl) (Below.refl V.heap.size V).drew (fun G hst hnil => ?_)
                  repeat (
                    refine hst.out _ _ _ (fun K hK => ?_)
                    go_simp
                    first
                      | (refine hK _ ?_; clear hK K)
                      | (apply Exists.intro
                         refine ⟨fun _ => ?_, hK _ ?_⟩
                         (first
                           | (go_at_call 86; exact held_of (HGq.out _))
                           | (go_at_call 87; exact held_of (HSq.out _)))
                         clear hK K))
                  refine hnil.out _ (fun z => ?_)
                  clear hnil hst
                  have HZ := Lib.hid z.h
                  go_wp2
                  go_meet
                  exact ⟨by simp, HZ⟩
          · have hne : Nonempty (HeldW (fun w' => Below V.heap.size V w')) := ⟨⟨V.drew, (Below.refl V.heap.size V).drew⟩⟩
            refine wp_region_quiet_shut (fun w' => Below V.heap.size V w') (by kernel_rfl) (by kernel_rfl) (Below.refl V.heap.size V).drew (fun G hst hnil => ?_)
            repeat (
              refine hst.out _ _ _ (fun K hK => ?_)
              go_simp
              first
                | (refine hK _ ?_; clear hK K)
                | (apply Exists.intro
                   refine ⟨fun _ => ?_, hK _ ?_⟩
                   fail
                   clear hK K))
            refine hnil.out _ (fun z => ?_)
            clear hnil hst
            have HZ := Lib.hid z.h
            go_wp2
            go_meet
            exact ⟨by simp, HZ⟩
        case rest =>
        obtain ⟨rfl, HBx⟩ := hcut
        have HT2 := Lib.hid (HT1.out.callee HBx.out)
        have HX2 := Lib.hid (HX.out.callee HBx.out)
        have g0 := (HBx.out.cell (World.block_lt_of_cell? _ _ d0)).trans d0
        have g1 := (HBx.out.cell (World.block_lt_of_cell? _ _ d1)).trans d1
        have b0 := HX2.out.c0
        have b1 := HX2.out.c1
        clear HT1 HX d0 d1 HBx HGq HSq ho5 hmo hfld HPV
        generalize wc = Y at *
        generalize (lb || (x5 && ph && gd && mb)) = lb2 at *
        have HFl2 : Hid (lb2 = own p (l.take (k + 1))) := HFl.out.symm
        clear HFl
        cases tw
        · have HSe : Hid (seen (l.take k) o.1 = false) := Htw.out
          cases ha : acc p o
          · obtain rfl : kk = 2 := by have h := Hkk.out; rw [(kO_no ha).1] at h; exact h.symm
            have HN := Lib.hid (next_two (p := p) Ho.out (.inr ha))
            go_wp2_with (at_builtin; refine wpList_append_own_at _ rfl _ _ 30 rfl w.heap.size 51 i0 _ 2 24 Tryz.underlying30 hi hz0 hz1 hz2 rfl (by decide) _ _ _ rfl (HT2.out.alloc _).r ⟨Y.heap.size, 0, none⟩ 1 1 (optsV [o]) rfl rfl (by rw [optsV_one]; exact cells_new Y _ _) (optsV_ones _) (by unfold maxLen; omega) (by omega) (HT2.out.alloc _).b.size ?_; intro v1 w9 hown1 hgr1 _ hat1; have Hown1 := Lib.hid hown1; have Hgr1 := Lib.hid hgr1; have Hat1 := Lib.hid hat1; clear hown1 hgr1 hat1)
            go_roundw
            case rel => exact ⟨k + 1, rn + 1, nn, cn, lb2, by omega, by omega, by omega, by omega, rfl, by go_num, HFl2, by rw [HN.out.1, HN.out.2.1, HN.out.2.2]; exact (HT2.out.alloc _).growR Hgr1.out Hown1.out Hat1.out⟩
            case measure => simp [intOf]; omega
          · by_cases hg : sug p o = o
            · obtain rfl : kk = 0 := by have h := Hkk.out; rw [kO_zero ha hg] at h; exact h.symm
              have HN := Lib.hid (next_zero (p := p) Ho.out HSe.out ha hg)
              go_wp2
              go_roundw
              case rel => exact ⟨k + 1, rn, nn, cn, lb2, by omega, by omega, by omega, by omega, rfl, by go_num, HFl2, by rw [HN.out.1, HN.out.2.1, HN.out.2.2]; exact HT2.out⟩
              case measure => simp [intOf]; omega
            · obtain rfl : kk = 1 := by have h := Hkk.out; rw [kO_one ha hg] at h; exact h.symm
              have HN := Lib.hid (next_one (p := p) Ho.out HSe.out ha hg)
              go_wp2_with (first | (at_builtin; refine wpList_append_own_at _ rfl _ _ 30 rfl w.heap.size 51 i0 _ 2 24 Tryz.underlying30 hi hz0 hz1 hz2 rfl (by decide) _ _ _ rfl (HT2.out.alloc _).n ⟨Y.heap.size, 0, none⟩ 1 1 (optsV [xO p o]) rfl rfl (by rw [optsV_one]; exact cells_new Y _ _) (optsV_ones _) (by unfold maxLen; omega) (by omega) (HT2.out.alloc _).b.size ?_; intro v1 w9 hown1 hgr1 _ hat1; have Hown1 := Lib.hid hown1; have Hgr1 := Lib.hid hgr1; have Hat1 := Lib.hid hat1; clear hown1 hgr1 hat1; have HT3 := Lib.hid ((HT2.out.alloc _).growN Hgr1.out Hown1.out Hat1.out); obtain ⟨ad2, o2, hA2, _, ho2, _, g0, g1⟩ := (HL.out.below HT3.out.b).at_ hlt; cases hA2; obtain rfl : o = o2 := Option.some.inj (Ho.out.symm.trans ho2); clear ho2) | (at_builtin; refine wpList_append_own_at _ rfl _ _ 30 rfl w.heap.size 51 i0 _ 2 24 Tryz.underlying30 hi hz0 hz1 hz2 rfl (by decide) _ _ _ rfl (HT3.out.alloc _).c ⟨w9.heap.size, 0, none⟩ 1 1 (optsV [o]) rfl rfl (by rw [optsV_one]; exact cells_new w9 _ _) (optsV_ones _) (by unfold maxLen; omega) (by omega) (HT3.out.alloc _).b.size ?_; intro v2 w10 hown2 hgr2 _ hat2; have Hown2 := Lib.hid hown2; have Hgr2 := Lib.hid hgr2; have Hat2 := Lib.hid hat2; clear hown2 hgr2 hat2))
              go_roundw
              case rel => exact ⟨k + 1, rn, nn + 1, cn + 1, lb2, by omega, by omega, by omega, by omega, rfl, by go_num, HFl2, by rw [HN.out.1, HN.out.2.1, HN.out.2.2]; exact (HT3.out.alloc _).growC Hgr2.out Hown2.out Hat2.out⟩
              case measure => simp [intOf]; omega
        · obtain rfl : kk = 2 := by have h := Hkk.out; exact h.symm
          have HN := Lib.hid (next_two (p := p) Ho.out (.inl Htw.out))
          go_wp2_with (at_builtin; refine wpList_append_own_at _ rfl _ _ 30 rfl w.heap.size 51 i0 _ 2 24 Tryz.underlying30 hi hz0 hz1 hz2 rfl (by decide) _ _ _ rfl (HT2.out.alloc _).r ⟨Y.heap.size, 0, none⟩ 1 1 (optsV [o]) rfl rfl (by rw [optsV_one]; exact cells_new Y _ _) (optsV_ones _) (by unfold maxLen; omega) (by omega) (HT2.out.alloc _).b.size ?_; intro v1 w9 hown1 hgr1 _ hat1; have Hown1 := Lib.hid hown1; have Hgr1 := Lib.hid hgr1; have Hat1 := Lib.hid hat1; clear hown1 hgr1 hat1)
          go_roundw
          case rel => exact ⟨k + 1, rn + 1, nn, cn, lb2, by omega, by omega, by omega, by omega, rfl, by go_num, HFl2, by rw [HN.out.1, HN.out.2.1, HN.out.2.2]; exact (HT2.out.alloc _).growR Hgr1.out Hown1.out Hat1.out⟩
          case measure => simp [intOf]; omega
    · obtain rfl : k = n := by omega
      have hlt2 : decide ((k : Int) < (k : Int)) = false := decide_eq_false (by omega)
      have HT0 : Hid (Tri w wr u6 u7 u8 rn nn cn (refs (vs p l)) (insts (vs p l)) (poors (vs p l))) := by
        have h := HT.out
        rw [List.take_of_length_le (by rw [Hn.out]; exact Nat.le_refl _)] at h
        exact h
      have HLb : Hid (own p l = lb) := by
        have h := Hlb.out
        rw [List.take_of_length_le (by rw [Hn.out]; exact Nat.le_refl _)] at h
        exact h.symm
      obtain ⟨AR, cR, rfl, hOR⟩ := opts_own HT0.out.r (fun o ho => HL.out.2.1 o ((refs_sub p l).subset ho))
      obtain ⟨AN, cN, rfl, hON⟩ := opts_own HT0.out.n (fun o ho => Nat.le_trans (insts_small ho) (by decide))
      obtain ⟨AC, cC, rfl, hOC⟩ := opts_own HT0.out.c (fun o ho => HL.out.2.1 o ((poors_sub p l).subset ho))
      have hrn' := hOR.1
      have hcn' := hOC.1
      have hnn' := hON.1
      have Hnc : Hid (nn = cn) := by show _ = _; rw [← hnn', ← hcn']; exact (pi_len _).symm
      have HOR := Lib.hid hOR
      have HON := Lib.hid hON
      have HOC := Lib.hid hOC
      have H7 : Hid (Rd w wr g p A k l) := ⟨HP.out.below HT0.out.b HP.out.lt, Moves.of_below HT0.out.b, HL.out.below HT0.out.b⟩
      clear HT HT0 hOR hON hOC Hlb
      have Hrn := Lib.hid hrn'
      have Hcn := Lib.hid hcn'
      have Hnn := Lib.hid hnn'
      clear hrn' hcn' hnn'
      obtain ⟨p1, hp1⟩ : ∃ p1, loopP p l = p1 := ⟨_, rfl⟩
      have hpn : p1.naks = p.naks := by rw [← hp1]; exact loop_naks p l
      have hpc : p1.c = p.c := by rw [← hp1]; exact loop_c p l
      go_upto_if 106 with (fail)
      have k38 : wr.cell? ⟨g, 38, none⟩ = some (.int .i64 p.loops) := H7.out.p.c 38
      have f38 := H7.out.p.f 38
      go_cut [4] (fun v wx => v = .int .u8 0 ∧ Hid (Rd w wx g p1 A k l ∧ Opts wx wx.heap.size AR rn (refs (vs p l)) ∧ Opts wx wx.heap.size AN nn (insts (vs p l)) ∧ Opts wx wx.heap.size AC cn (poors (vs p l))))
      case first =>
        cases lb
        · have HLP : Hid (p1 = p) := by show _ = _; rw [← hp1]; unfold loopP; rw [HLb.out]; rfl
          clear hp1 hpn hpc
          go_wp2
          go_meet
          exact ⟨rfl, by show _ ∧ _; rw [HLP.out]; exact ⟨H7.out, HOR.out, HON.out, HOC.out⟩⟩
        · have HLP : Hid (p1 = { p with loops := p.loops + 1 }) := by show _ = _; rw [← hp1]; unfold loopP; rw [HLb.out]; rfl
          clear hp1 hpn hpc
          have HM := Lib.hid (set_moves wr g 38 (.int .i64 ((p.loops : Int) + 1)))
          have HS := Lib.hid (H7.out.turn HM.out (H7.out.p.setLoops (p.loops + 1)))
          have f1 := Lib.hid ((opts_past HOR.out H7.out.p (dv_no _) HM.out (Nat.le_refl _)).more HM.out.size)
          have f2 := Lib.hid ((opts_past HON.out H7.out.p (dv_no _) HM.out (Nat.le_refl _)).more HM.out.size)
          have f3 := Lib.hid ((opts_past HOC.out H7.out.p (dv_no _) HM.out (Nat.le_refl _)).more HM.out.size)
          go_wp2
          go_meet
          exact ⟨rfl, by show _ ∧ _; rw [HLP.out]; exact ⟨HS.out, f1.out, f2.out, f3.out⟩⟩
      case rest =>
      obtain ⟨rfl, HH⟩ := hcut
      clear k38 f38 H7 HOR HON HOC HLb
      have k37 : wc.cell? ⟨g, 37, none⟩ = some (.int .i64 p1.naks) := HH.out.1.p.c 37
      have k9 : wc.cell? ⟨g, 9, none⟩ = some (.int .i64 p1.c.mn) := HH.out.1.p.c 9
      have f37 := HH.out.1.p.f 37
      by_cases h0 : 0 < rn
      · have h0' : (0 : Int) < (rn : Int) := by omega
        have h02 := decide_eq_true h0'
        have HC := Lib.hid (ref_of (p := p) (l := l) (fun e => by have h := Hrn.out; rw [e] at h; simp at h; omega))
        rw [hp1] at HC
        clear hp1 hpn hpc
        have H6 : Hid (Rd w (wc.setCell ⟨g, 37, none⟩ (.int .i64 0)) g { p1 with naks := 0 } A k l) := HH.out.1.turn (set_moves _ _ _ _) (HH.out.1.p.setNaks 0)
        have HO6 : Hid (Opts (wc.setCell ⟨g, 37, none⟩ (.int .i64 0)) (wc.setCell ⟨g, 37, none⟩ (.int .i64 0)).heap.size AR rn (refs (vs p l))) := (opts_past HH.out.2.1 HH.out.1.p (dv_no _) (set_moves _ _ _ _) (Nat.le_refl _)).more (set_moves _ _ _ _).size
        go_wp2
        go_ret2
        exact rj_end HC.out Hrn.out HO6.out H6.out.p H6.out.m
      · have h0' : ¬ (0 : Int) < (rn : Int) := by omega
        have h02 := decide_eq_false h0'
        have HR0 : Hid (refs (vs p l) = []) := List.eq_nil_of_length_eq_zero (by have := Hrn.out; omega)
        have hle1 : (p1.naks : Int) ≤ p1.c.mn := by rw [hpn, hpc]; exact hle
        by_cases h1 : 0 < nn
        · have h1' : (0 : Int) < (nn : Int) := by omega
          have h12 := decide_eq_true h1'
          have HNE : Hid (¬ poors (vs p l) = []) := fun e => by have h3 := Hnc.out; have h := Hcn.out; rw [e] at h; simp at h; omega
          by_cases h2 : (p1.naks : Int) = p1.c.mn
          · have h22 := decide_eq_true (show (p1.naks : Int) ≥ p1.c.mn by omega)
            have HC := Lib.hid (rej_of (p := p) (l := l) HR0.out HNE.out (by rw [← hpn, ← hpc]; exact h2))
            rw [hp1] at HC
            clear hp1 hpn hpc h2 hle1 hle
            go_wp2_with fail
            go_quiet (fail)
            have H8 : Hid (Rd w (wc.drewN nq) g p1 A k l) := ⟨HH.out.1.p, HH.out.1.m.drewN nq, HH.out.1.o⟩
            have HN8 : Hid (Opts (wc.drewN nq) (wc.drewN nq).heap.size AN nn (insts (vs p l))) := HH.out.2.2.1
            have HP8 : Hid (Opts (wc.drewN nq) (wc.drewN nq).heap.size AC cn (poors (vs p l))) := HH.out.2.2.2
            clear HH k37 f37 k9
            generalize wc.drewN nq = Y at *
            have k37 : Y.cell? ⟨g, 37, none⟩ = some (.int .i64 p1.naks) := H8.out.p.c 37
            have f37 := H8.out.p.f 37
            have H6 : Hid (Rd w (Y.setCell ⟨g, 37, none⟩ (.int .i64 (0))) g { p1 with naks := 0 } A k l) := H8.out.turn (set_moves _ _ _ _) (H8.out.p.setNaks (0))
            have HO6 : Hid (Opts (Y.setCell ⟨g, 37, none⟩ (.int .i64 (0))) (Y.setCell ⟨g, 37, none⟩ (.int .i64 (0))).heap.size AC cn (poors (vs p l))) := (opts_past HP8.out H8.out.p (dv_no _) (set_moves _ _ _ _) (Nat.le_refl _)).more (set_moves _ _ _ _).size
            go_wp2
            go_ret2
            exact rj_end HC.out Hcn.out HO6.out H6.out.p H6.out.m
          · have h22 := decide_eq_false (show ¬ (p1.naks : Int) ≥ p1.c.mn by omega)
            have HC := Lib.hid (nak_of (p := p) (l := l) HR0.out HNE.out (by rw [← hpn, ← hpc]; exact h2))
            rw [hp1, ← hpn] at HC
            have hsm : p1.naks ≤ 1000 := by rw [hpn]; exact hni
            clear hp1 hpn hpc h2 hle1 hle
            go_wp2_with fail
            go_quiet (fail)
            have H8 : Hid (Rd w (wc.drewN nq) g p1 A k l) := ⟨HH.out.1.p, HH.out.1.m.drewN nq, HH.out.1.o⟩
            have HN8 : Hid (Opts (wc.drewN nq) (wc.drewN nq).heap.size AN nn (insts (vs p l))) := HH.out.2.2.1
            have HP8 : Hid (Opts (wc.drewN nq) (wc.drewN nq).heap.size AC cn (poors (vs p l))) := HH.out.2.2.2
            clear HH k37 f37 k9
            generalize wc.drewN nq = Y at *
            have k37 : Y.cell? ⟨g, 37, none⟩ = some (.int .i64 p1.naks) := H8.out.p.c 37
            have f37 := H8.out.p.f 37
            have H6 : Hid (Rd w (Y.setCell ⟨g, 37, none⟩ (.int .i64 ((p1.naks : Int) + 1))) g { p1 with naks := p1.naks + 1 } A k l) := H8.out.turn (set_moves _ _ _ _) (H8.out.p.setNaks (p1.naks + 1))
            have HO6 : Hid (Opts (Y.setCell ⟨g, 37, none⟩ (.int .i64 ((p1.naks : Int) + 1))) (Y.setCell ⟨g, 37, none⟩ (.int .i64 ((p1.naks : Int) + 1))).heap.size AN nn (insts (vs p l))) := (opts_past HN8.out H8.out.p (dv_no _) (set_moves _ _ _ _) (Nat.le_refl _)).more (set_moves _ _ _ _).size
            go_wp2
            go_ret2
            exact rj_end HC.out Hnn.out HO6.out H6.out.p H6.out.m
        · obtain rfl : nn = 0 := by omega
          obtain rfl : cn = 0 := Hnc.out.symm
          have HC := Lib.hid (ack_of (p := p) (l := l) HR0.out (List.eq_nil_of_length_eq_zero Hcn.out))
          rw [hp1] at HC
          clear hp1 hpn hpc hle1 hle
          go_wp2_with fail
          go_quiet (fail)
          have H8 : Hid (Rd w (wc.drewN nq) g p1 A k l) := ⟨HH.out.1.p, HH.out.1.m.drewN nq, HH.out.1.o⟩
          have HN8 : Hid (Opts (wc.drewN nq) (wc.drewN nq).heap.size AN 0 (insts (vs p l))) := HH.out.2.2.1
          have HP8 : Hid (Opts (wc.drewN nq) (wc.drewN nq).heap.size AC 0 (poors (vs p l))) := HH.out.2.2.2
          clear HH k37 f37 k9
          generalize wc.drewN nq = Y at *
          have k37 : Y.cell? ⟨g, 37, none⟩ = some (.int .i64 p1.naks) := H8.out.p.c 37
          have f37 := H8.out.p.f 37
          have H5 : Hid (Rd w (Y.setCell ⟨g, 37, none⟩ (.int .i64 0)) g { p1 with naks := 0 } A k l) := H8.out.turn (set_moves _ _ _ _) (H8.out.p.setNaks 0)
          have HG := Lib.hid (rget_any l w.heap.size A k c _ H5.out.o (by omega) H5.out.m.size)
          go_wp2_with fail
          refine HG.out.mono ?_
          rintro e w8 ⟨A5, c5, rfl, _, hb5⟩
          have H6 := Lib.hid (H5.out.callee hb5)
          clear hb5 HG H5 k37 f37
          obtain ⟨x, hx⟩ : ∃ x, Lco.gL l = x := ⟨_, rfl⟩
          rw [hx] at HC ⊢
          clear hx
          generalize (Lco.gO l).length = n1
          generalize Lco.gE l = e1
          obtain ⟨V8, hV8, HV8⟩ := boxL w8 x
          have H6b := Lib.hid (H6.out.callee HV8.out.2.1)
          obtain ⟨l0, l1, l2, l3, l4, l5, l6, l7, l8⟩ := lall9 HV8.out.1
          have p28 : V8.cell? ⟨g, 28, none⟩ = some (Value.bool p1.peer.hm) := H6b.out.p.c 28
          have q28 := H6b.out.p.f 28
          have p29 : V8.cell? ⟨g, 29, none⟩ = some (.int .u16 p1.peer.mru.toNat) := H6b.out.p.c 29
          have q29 := H6b.out.p.f 29
          have p30 : V8.cell? ⟨g, 30, none⟩ = some (Value.bool p1.peer.ha) := H6b.out.p.c 30
          have q30 := H6b.out.p.f 30
          have p31 : V8.cell? ⟨g, 31, none⟩ = some (.int .u32 p1.peer.accm.toNat) := H6b.out.p.c 31
          have q31 := H6b.out.p.f 31
          have p32 : V8.cell? ⟨g, 32, none⟩ = some (.int .u8 p1.peer.auth.toNat) := H6b.out.p.c 32
          have q32 := H6b.out.p.f 32
          have p33 : V8.cell? ⟨g, 33, none⟩ = some (Value.bool p1.peer.hg) := H6b.out.p.c 33
          have q33 := H6b.out.p.f 33
          have p34 : V8.cell? ⟨g, 34, none⟩ = some (.int .u32 p1.peer.magic.toNat) := H6b.out.p.c 34
          have q34 := H6b.out.p.f 34
          have p35 : V8.cell? ⟨g, 35, none⟩ = some (Value.bool p1.peer.pfc) := H6b.out.p.c 35
          have q35 := H6b.out.p.f 35
          have p36 : V8.cell? ⟨g, 36, none⟩ = some (Value.bool p1.peer.acfc) := H6b.out.p.c 36
          have q36 := H6b.out.p.f 36
          obtain ⟨Z, hZ⟩ : ∃ Z, V8.setCells g 28 (lv x) = Z := ⟨_, rfl⟩
          have H9 : Hid (Rd w Z g { p1 with naks := 0, peer := x } A k l) := by show Rd _ _ _ _ _ _ _; rw [← hZ]; exact H6b.out.turn (sets_moves _ _ _ _) (H6b.out.p.setPeer x)
          have HLZ : Hid (Opts Z Z.heap.size A k l) := H9.out.o.more H9.out.m.size
          simp only [World.setCells, lv] at hZ
          unfold lv
          clear H6 H6b HV8
          go_wp2_with (at_builtin; refine append_opts rfl _ _ 30 rfl Z.heap.size 51 i0 _ 24 Tryz.underlying30 hi hz0 hz1 hz2 rfl (.slice none 0 0) 0 [] rfl (World.ownsRow_nil _ _ _ _) Z.heap.size A k c l hA rfl HLZ.out (by unfold maxLen; omega) (by omega) (Nat.le_refl _) ?_; intro va wa howna hgra; rw [List.nil_append, Nat.zero_add] at howna; obtain ⟨A6, c6, rfl, hO6⟩ := opts_own howna HL.out.2.1; have HO6 := Lib.hid hO6; have H10 := Lib.hid (H9.out.callee ((Below.refl Z.heap.size Z).grown hgra (Nat.le_refl _) (fun j hj => by cases hj))); clear howna hgra hO6)
          go_ret2
          exact rj_end HC.out Hn.out HO6.out H10.out.p H10.out.m
end Go.Proofs.YtpohcejgblahiaaGreat.Pol
