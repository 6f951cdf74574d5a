/- Put together: PolQc, PolQca, PolQcb, PolQcd. -/
import Derived.Test.YtpohcejgblahiaaGreatPolQb
import Derived.Test.YtpohcejgblahiaaGreatGPolR
import Derived.Test.YtpohcejgblahiaaGreatGLcoA
import Derived.Test.YtpohcejgblahiaaGreatQuietS

/- Contract of the document's one: what is said of an option. Written by gen/pol_qc.py. -/
set_option linter.unusedSimpArgs false
set_option linter.unusedVariables false
namespace Go.Proofs.YtpohcejgblahiaaGreat.Pol
open Go.RowKit Go.Proofs.YtpohcejgblahiaaGreat.Oct Go.Proofs.YtpohcejgblahiaaGreat.Row Go.Proofs.YtpohcejgblahiaaGreat.Mem Go.Proofs.YtpohcejgblahiaaGreat.Opt Go.Proofs.YtpohcejgblahiaaGreat.Lco

/-! ### mathematics -/
def kO (p : Po) (o : Opt) : Nat := if acc p o then (if sug p o = o then 0 else 1) else 2
def xO (p : Po) (o : Opt) : Opt := if kO p o = 1 then sug p o else o
theorem kO_no {p : Po} {o : Opt} (h : acc p o = false) : kO p o = 2 ∧ xO p o = o := by
  have e : kO p o = 2 := by unfold kO; rw [h]; rfl
  refine ⟨e, ?_⟩
  unfold xO; rw [e]; rfl
theorem kO_same {p : Po} {o : Opt} (h : acc p o = true) (hg : good o = true) (hb : bet p o.1 (lo o) = lo o) : kO p o = 0 ∧ xO p o = o := by
  have e1 : sug p o = o := by
    show (o.1, dat o.1 (bet p o.1 (lo o))) = o
    rw [hb, lo_dat hg]
  have e : kO p o = 0 := by unfold kO; rw [h, if_pos rfl, if_pos e1]
  refine ⟨e, ?_⟩
  unfold xO; rw [e]; rfl
theorem kO_else {p : Po} {o : Opt} {y : Lcp} (h : acc p o = true) (hb : bet p o.1 (lo o) = y) (hn : ¬ y = lo o) : kO p o = 1 ∧ xO p o = (o.1, dat o.1 y) := by
  have e1 : ¬ sug p o = o := fun e => hn (by rw [← hb, ← lo_sug h, e])
  have e : kO p o = 1 := by unfold kO; rw [h, if_pos rfl, if_neg e1]
  refine ⟨e, ?_⟩
  unfold xO; rw [e, if_pos rfl]
  show (o.1, dat o.1 (bet p o.1 (lo o))) = _
  rw [hb]
theorem acc_unknown {p : Po} {o : Opt} (h : known o.1 = false) : acc p o = false ∧ good o = false := by
  have hg : good o = false := by
    cases hg : good o
    · rfl
    · have := good_known hg
      rw [h] at this
      cases this
  refine ⟨?_, hg⟩
  unfold acc
  rw [if_neg (fun e => by rw [e] at h; cases h)]
  exact hg
theorem acc_odd {p : Po} {o : Opt} (hg : good o = false) (h3 : ¬ o.1 = 3) : acc p o = false := by unfold acc; rw [if_neg h3]; exact hg
theorem acc_off {p : Po} {o : Opt} (h3 : o.1 = 3) (hc : (p.c.can == 0) = true) : acc p o = false := by unfold acc; rw [if_pos h3, bne, hc]; rfl
theorem acc_on {p : Po} {o : Opt} (h3 : o.1 = 3) (hc : (p.c.can == 0) = false) : acc p o = true := by unfold acc; rw [if_pos h3, bne, hc]; rfl
theorem acc_yes {p : Po} {o : Opt} (hg : good o = true) (h3 : ¬ o.1 = 3) : acc p o = true := by unfold acc; rw [if_neg h3]; exact hg
/-- The kind that is suggested. -/
def kd (c : UInt8) : UInt8 := if c &&& 2 != 0 then 2 else 1
theorem auth_else {p : Po} {o : Opt} (h3 : o.1 = 3) (hc : (p.c.can == 0) = false) (hm : p.c.can ≤ 3) (ha : (p.c.can &&& (lo o).auth == 0) = true) : kO p o = 1 ∧ xO p o = (3, authD (kd p.c.can)) := by
  have e : bet p o.1 (lo o) = { lo o with auth := kd p.c.can } := by
    rw [h3]
    unfold bet
    rw [if_neg (by decide), if_pos rfl, bne, ha]
    rfl
  have hcn : (p.c.can != 0) = true := by rw [bne, hc]; rfl
  have hk : (p.c.can &&& kd p.c.can != 0) = true := by
    unfold kd
    cases h2 : (p.c.can &&& 2 != 0)
    · exact canbit hcn hm h2
    · exact h2
  have h := kO_else (acc_on h3 hc) e (fun e2 => by
    have h4 : kd p.c.can = (lo o).auth := congrArg Lcp.auth e2
    rw [h4, bne, ha] at hk
    cases hk)
  rw [h3] at h
  exact h
theorem auth_same {p : Po} {o : Opt} (h3 : o.1 = 3) (hc : (p.c.can == 0) = false) (hg : good o = true) (ha : (p.c.can &&& (lo o).auth == 0) = false) : kO p o = 0 ∧ xO p o = o := by
  refine kO_same (acc_on h3 hc) hg ?_
  rw [h3]
  unfold bet
  rw [if_neg (by decide), if_pos rfl, bne, ha]
  rfl
theorem mru_else {p : Po} {o : Opt} (h1 : o.1 = 1) (hg : good o = true) (hl : (lo o).mru < 64) : kO p o = 1 ∧ xO p o = (1, bOf (numS 64 2)) := by
  have e : bet p o.1 (lo o) = { lo o with mru := 64 } := by
    rw [h1]
    unfold bet
    rw [if_pos rfl]
    simp only [hl, if_true]
  have h := kO_else (acc_yes hg (by rw [h1]; decide)) e (fun e2 => by
    have h4 : (64 : UInt16) = (lo o).mru := congrArg Lcp.mru e2
    rw [← h4] at hl
    exact absurd hl (by decide))
  rw [h1] at h
  exact h
theorem mru_same {p : Po} {o : Opt} (h1 : o.1 = 1) (hg : good o = true) (hl : ¬ (lo o).mru < 64) : kO p o = 0 ∧ xO p o = o := by
  refine kO_same (acc_yes hg (by rw [h1]; decide)) hg ?_
  rw [h1]
  unfold bet
  rw [if_pos rfl]
  simp only [hl, if_false]
theorem plain_same {p : Po} {o : Opt} (hg : good o = true) (h1 : ¬ o.1 = 1) (h3 : ¬ o.1 = 3) (h5 : ¬ o.1 = 5) : kO p o = 0 ∧ xO p o = o :=
  kO_same (acc_yes hg h3) hg (bet_same _ h1 h3 h5)
theorem lo_hg {o : Opt} (h5 : o.1 = 5) (hg : good o = true) : (lo o).hg = true := by
  have := lo_has hg
  rw [h5] at this
  exact this
theorem own_of {w x : Lcp} (hx : x.hg = true) : isOwn w x = (w.hg && x.magic == w.magic) := by unfold isOwn; rw [hx, Bool.and_true]
theorem magic_same {p : Po} {o : Opt} (h5 : o.1 = 5) (hg : good o = true) (hz : ((lo o).magic == 0) = false) (ho : (p.w.hg && (lo o).magic == p.w.magic) = false) : kO p o = 0 ∧ xO p o = o := by
  refine kO_same (acc_yes hg (by rw [h5]; decide)) hg ?_
  rw [h5]
  unfold bet
  rw [if_neg (by decide), if_neg (by decide), if_pos rfl, own_of (lo_hg h5 hg), ho, bne, hz]
  rfl
/-- The number that is suggested. -/
def mgO (w x : Lcp) : UInt32 := nz (if w.hg && ~~~ x.magic == w.magic then 1 else ~~~ x.magic)
theorem magic_else {p : Po} {o : Opt} (h5 : o.1 = 5) (hg : good o = true) (hz : ((lo o).magic == 0) = true ∨ (p.w.hg && (lo o).magic == p.w.magic) = true) : kO p o = 1 ∧ xO p o = (5, bOf (numS (mgO p.w (lo o)).toNat 4)) := by
  have hx := lo_hg h5 hg
  have hnot : ((lo o).magic != 0 && !isOwn p.w (lo o)) = false := by
    rw [own_of hx]
    rcases hz with h | h
    · rw [bne, h]; rfl
    · rw [h, Bool.not_true, Bool.and_false]
  have e : bet p o.1 (lo o) = { lo o with magic := mgO p.w (lo o) } := by
    rw [h5]
    unfold bet
    rw [if_neg (by decide), if_neg (by decide), if_pos rfl, hnot]
    have ho : isOwn p.w { lo o with magic := nz (~~~ (lo o).magic) } = (p.w.hg && nz (~~~ (lo o).magic) == p.w.magic) := own_of hx
    rw [ho]
    unfold mgO
    by_cases hw : p.w.hg = true
    · rw [hw, Bool.true_and, Bool.true_and]
      by_cases h1 : nz (~~~ (lo o).magic) = p.w.magic
      · rw [show (nz (~~~ (lo o).magic) == p.w.magic) = true from beq_iff_eq.2 h1]
        by_cases h2 : ~~~ (lo o).magic = p.w.magic
        · rw [show (~~~ (lo o).magic == p.w.magic) = true from beq_iff_eq.2 h2]
          rfl
        · rw [show (~~~ (lo o).magic == p.w.magic) = false from beq_eq_false_iff_ne.2 h2]
          have h0 : ~~~ (lo o).magic = 0 := by
            by_cases h0 : ~~~ (lo o).magic = 0
            · exact h0
            · exact absurd (by rw [← h1]; exact (nz_id h0).symm) h2
          rw [h0]
          rfl
      · rw [show (nz (~~~ (lo o).magic) == p.w.magic) = false from beq_eq_false_iff_ne.2 h1]
        by_cases h2 : ~~~ (lo o).magic = p.w.magic
        · rw [show (~~~ (lo o).magic == p.w.magic) = true from beq_iff_eq.2 h2]
          have h0 : ~~~ (lo o).magic = 0 := by
            by_cases h0 : ~~~ (lo o).magic = 0
            · exact h0
            · exact absurd (by rw [nz_id h0]; exact h2) h1
          rw [h0]
          rfl
        · rw [show (~~~ (lo o).magic == p.w.magic) = false from beq_eq_false_iff_ne.2 h2]
          rfl
    · rw [Bool.not_eq_true] at hw
      rw [hw]
      rfl
  have h := kO_else (acc_yes hg (by rw [h5]; decide)) e (fun e2 => by
    have h4 : mgO p.w (lo o) = (lo o).magic := congrArg Lcp.magic e2
    have hnz : mgO p.w (lo o) ≠ 0 := nz_ne _
    rcases hz with h | h
    · exact hnz (h4.trans (beq_iff_eq.1 h))
    · rw [Bool.and_eq_true, beq_iff_eq] at h
      unfold mgO at h4
      rw [h.1, Bool.true_and, h.2] at h4
      by_cases hs : ~~~ p.w.magic = p.w.magic
      · exact u32_not_ne _ hs
      · rw [show (~~~ p.w.magic == p.w.magic) = false from beq_eq_false_iff_ne.2 hs] at h4
        have h4' : nz (~~~ p.w.magic) = p.w.magic := h4
        by_cases h0 : ~~~ p.w.magic = 0
        · rw [h0] at h4'
          have h6 : p.w.magic = 1 := h4'.symm
          rw [h6] at h0
          exact absurd h0 (by decide)
        · rw [nz_id h0] at h4'
          exact hs h4')
  rw [h5] at h
  exact h

/-! ### the walk -/
structure Ot (w : World) (g : Nat) (p : Po) (o : Opt) (W : World) : Prop where
  o : At W w.heap.size o
  z : At W (w.heap.size + 1) (0, ⟨#[]⟩)
  p : RAt W g p
  B : Below w.heap.size w W
theorem Ot.callee {w W W' : World} {g : Nat} {p : Po} {o : Opt} (h : Ot w g p o W) (hb : Below W.heap.size W W') : Ot w g p o W' := ⟨h.o.callee hb, h.z.callee hb, h.p.callee hb, h.B.trans (hb.mono h.B.size)⟩
structure Os (w : World) (g : Nat) (p : Po) (o : Opt) (j : Nat) (x : Lcp) (W : World) : Prop where
  o : At W w.heap.size o
  z : At W (w.heap.size + 1) (0, ⟨#[]⟩)
  y : LAt W j x
  p : RAt W g p
  B : Below w.heap.size w W
theorem Os.callee {w W W' : World} {g j : Nat} {p : Po} {o : Opt} {x : Lcp} (h : Os w g p o j x W) (hb : Below W.heap.size W W') : Os w g p o j x W' := ⟨h.o.callee hb, h.z.callee hb, h.y.callee hb, h.p.callee hb, h.B.trans (hb.mono h.B.size)⟩
theorem Os.drew {w W : World} {g j : Nat} {p : Po} {o : Opt} {x : Lcp} (h : Os w g p o j x W) : Os w g p o j x W.drew := ⟨h.o, h.z, h.y, h.p, h.B.drew⟩
theorem boxOn (w : World) (g : Nat) (p : Po) (o : Opt) (h : RAt w g p) : ∃ W, (w.alloc (.cells #[.int .u8 o.1.toNat, .string o.2] 51)).alloc (.cells #[.int .u8 0, .string ⟨#[]⟩] 51) = W ∧ Hid (Ot w g p o W) :=
  ⟨_, rfl, (at_new w o.1 o.2).alloc _, by have := at_new (w.alloc (.cells #[.int .u8 o.1.toNat, .string o.2] 51)) 0 ⟨#[]⟩; rw [World.size_alloc] at this; exact this, (h.alloc _).alloc _, ((Below.refl w.heap.size w).alloc (Nat.le_refl _) _).alloc (by simp) _⟩
theorem results_row0 {P : Program} {fn : Func} {p t : Tmp} {ty : TypeId} (h : fn.results = #[.tmp t, .cell p ty]) (tmps : Array Value) (w : World) (g : Nat) (cs : List Value) (tb : TypeId) (d : TypeDesc)
    (hp : tmps.getD p undef = .pointer (some ⟨g, 0, none⟩)) (hg : Blk w g cs tb) (hu : P.underlying ty = some d) (hd : (match d with | .struct _ | .array _ _ => true | _ => false) = true) (hi : (P.info? ty).map (·.size) = some cs.toArray.size) :
    (results fn tmps).run P w = .ok (.tuple #[tmps.getD t undef, .agg cs.toArray]) w := by
  have hp' : tmps[p]?.getD undef = .pointer (some ⟨g, 0, none⟩) := by simpa using hp
  simp only [List.size_toArray] at hi
  simp [results, h, hp', asAddr, run_loadVar_row w g tb ty cs.toArray (0, 0) d hg hu hd (by simpa using hi)]
/-- What one answers. -/
def OneQ (p : Po) (o : Opt) (w : World) (e : Ending) (w' : World) : Prop := e = .returned (.tuple #[.int .i64 (kO p o), .agg #[.int .u8 (xO p o).1.toNat, .string (xO p o).2]]) ∧ Below w.heap.size w w'
theorem hO_auth (k : UInt8) (h : k = 1 ∨ k = 2) : Hid (∀ w, Calls Tryz.prog 112 #[.agg #[Value.bool false, .int .u16 0, .bool false, .int .u32 0, .int .u8 k.toNat, .bool false, .int .u32 0, .bool false, .bool false]] w fun e w' => e = .returned (.agg #[.int .u8 3, .string (authD k)]) ∧ Below w.heap.size w w') := fun w =>
  ronly_any ⟨false, 0, false, 0, k, false, 0, false, false⟩ (3, authD k) w (by rcases h with rfl | rfl <;> rfl) (by rcases h with rfl | rfl <;> rfl)
theorem hO_mru : Hid (∀ w, Calls Tryz.prog 112 #[.agg #[Value.bool true, .int .u16 64, .bool false, .int .u32 0, .int .u8 0, .bool false, .int .u32 0, .bool false, .bool false]] w fun e w' => e = .returned (.agg #[.int .u8 1, .string (bOf (numS 64 2))]) ∧ Below w.heap.size w w') := fun w =>
  ronly_any ⟨true, 64, false, 0, 0, false, 0, false, false⟩ (1, bOf (numS 64 2)) w rfl rfl
theorem hO_magic (m : UInt32) : Hid (∀ w, Calls Tryz.prog 112 #[.agg #[Value.bool false, .int .u16 0, .bool false, .int .u32 0, .int .u8 0, .bool true, .int .u32 m.toNat, .bool false, .bool false]] w fun e w' => e = .returned (.agg #[.int .u8 5, .string (bOf (numS m.toNat 4))]) ∧ Below w.heap.size w w') := fun w =>
  ronly_any ⟨false, 0, false, 0, 0, true, m, false, false⟩ (5, bOf (numS m.toNat 4)) w rfl rfl
theorem u32_eqq (a b : UInt32) : ((a.toNat : Int) == (b.toNat : Int)) = (a == b) := by
  rw [Bool.eq_iff_iff, beq_iff_eq, beq_iff_eq]
  exact ⟨fun h => UInt32.toNat_inj.1 (by omega), fun h => by rw [h]⟩
end Go.Proofs.YtpohcejgblahiaaGreat.Pol

/- The document's one, further cases. Written by gen/pol_qc.py. -/
set_option linter.unusedSimpArgs false
set_option linter.unusedVariables false
namespace Go.Proofs.YtpohcejgblahiaaGreat.Pol
open Go.RowKit Go.Proofs.YtpohcejgblahiaaGreat.Oct Go.Proofs.YtpohcejgblahiaaGreat.Row Go.Proofs.YtpohcejgblahiaaGreat.Mem Go.Proofs.YtpohcejgblahiaaGreat.Opt Go.Proofs.YtpohcejgblahiaaGreat.Lco

set_option maxHeartbeats 8000000 in
set_option maxRecDepth 100000 in
theorem one_unknown (g : Nat) (p : Po) (o : Opt) (w : World) (h : RAt w g p) (hd : o.2.size ≤ 140737488351232) (hk : known o.1 = false) : Calls Tryz.prog 85 #[.pointer (some ⟨g, 0, none⟩), .agg #[.int .u8 o.1.toNat, .string o.2]] w (OneQ p o w) := by
  have HG : Hid (∀ w, Calls Tryz.prog 86 #[.agg #[.int .u8 o.1.toNat, .string o.2]] w fun e w' => e = .returned (.bool (good o)) ∧ Below w.heap.size w w') := fun w => rgood_any o.1 o.2 w
  have HS : Hid (∀ w, Calls Tryz.prog 87 #[.agg #[.int .u8 o.1.toNat, .string o.2]] w (BetQ (lo o) w)) := fun w => rsays_any o w hd
  have HK : Hid (∀ w, Calls Tryz.prog 111 #[.int .u8 o.1.toNat] w fun e w' => e = .returned (.bool (known o.1)) ∧ Below w.heap.size w w') := fun w => rknown_any o.1 w
  obtain ⟨W, hW, H0⟩ := boxOn w g p o h
  have c0 : W.cell? ⟨w.heap.size, 0, none⟩ = some (.int .u8 o.1.toNat) := H0.out.o.c0
  have c1 : W.cell? ⟨w.heap.size, 1, none⟩ = some (.string o.2) := H0.out.o.c1
  have z0 : W.cell? ⟨w.heap.size + 1, 0, none⟩ = some (.int .u8 0) := H0.out.z.c0
  have z1 : W.cell? ⟨w.heap.size + 1, 1, none⟩ = some (.string ⟨#[]⟩) := H0.out.z.c1
  have f0 : W.frozen? ⟨w.heap.size + 1, 0, none⟩ = false := Blk.frozen H0.out.z 0
  have f1 : W.frozen? ⟨w.heap.size + 1, 1, none⟩ = false := Blk.frozen H0.out.z 1
  clear h hd
  have HE := Lib.hid (kO_no (p := p) (acc_unknown (p := p) hk).1)
  rw [(acc_unknown (p := p) hk).2] at HG
  rw [hk] at HK
  clear hk
  generalize lo o = x at *
  go_enter Tryz.func85, Tryz.ntmps85
  go_wp2_with fail
  clear hW c0 c1 z0 z1 f0 f1
  refine (HG.out _).mono ?_
  rintro e w1 ⟨rfl, hb1⟩
  have H1 := Lib.hid (H0.out.callee hb1)
  clear hb1 HG H0
  have c0 : w1.cell? ⟨w.heap.size, 0, none⟩ = some (.int .u8 o.1.toNat) := H1.out.o.c0
  have c1 : w1.cell? ⟨w.heap.size, 1, none⟩ = some (.string o.2) := H1.out.o.c1
  have z0 : w1.cell? ⟨w.heap.size + 1, 0, none⟩ = some (.int .u8 0) := H1.out.z.c0
  have z1 : w1.cell? ⟨w.heap.size + 1, 1, none⟩ = some (.string ⟨#[]⟩) := H1.out.z.c1
  have f0 : w1.frozen? ⟨w.heap.size + 1, 0, none⟩ = false := Blk.frozen H1.out.z 0
  have f1 : w1.frozen? ⟨w.heap.size + 1, 1, none⟩ = false := Blk.frozen H1.out.z 1
  go_wp2_with fail
  clear c0 c1 z0 z1 f0 f1
  refine (HS.out _).mono ?_
  rintro e w2 ⟨rfl, hb2⟩
  have H2 := Lib.hid (H1.out.callee hb2)
  clear hb2 HS H1
  obtain ⟨V, hV, HV⟩ := boxL w2 x
  have H3 : Hid (Os w g p o w2.heap.size x V) := ⟨H2.out.o.callee HV.out.2.1, H2.out.z.callee HV.out.2.1, HV.out.1, H2.out.p.callee HV.out.2.1, H2.out.B.trans (HV.out.2.1.mono H2.out.B.size)⟩
  clear HV H2
  generalize hj : w2.heap.size = j at *
  unfold lv
  have c0 : V.cell? ⟨w.heap.size, 0, none⟩ = some (.int .u8 o.1.toNat) := H3.out.o.c0
  have c1 : V.cell? ⟨w.heap.size, 1, none⟩ = some (.string o.2) := H3.out.o.c1
  have z0 : V.cell? ⟨w.heap.size + 1, 0, none⟩ = some (.int .u8 0) := H3.out.z.c0
  have z1 : V.cell? ⟨w.heap.size + 1, 1, none⟩ = some (.string ⟨#[]⟩) := H3.out.z.c1
  have f0 : V.frozen? ⟨w.heap.size + 1, 0, none⟩ = false := Blk.frozen H3.out.z 0
  have f1 : V.frozen? ⟨w.heap.size + 1, 1, none⟩ = false := Blk.frozen H3.out.z 1
  have y1 : V.cell? ⟨j, 1, none⟩ = some (.int .u16 x.mru.toNat) := H3.out.y.c 1
  have y4 : V.cell? ⟨j, 4, none⟩ = some (.int .u8 x.auth.toNat) := H3.out.y.c 4
  have y6 : V.cell? ⟨j, 6, none⟩ = some (.int .u32 x.magic.toNat) := H3.out.y.c 6
  have p5 : V.cell? ⟨g, 5, none⟩ = some (.int .u8 p.c.can.toNat) := H3.out.p.c 5
  have p15 : V.cell? ⟨g, 15, none⟩ = some (.bool p.w.hg) := H3.out.p.c 15
  have p16 : V.cell? ⟨g, 16, none⟩ = some (.int .u32 p.w.magic.toNat) := H3.out.p.c 16
  go_wp2_with fail
  clear hV hj c0 c1 z0 z1 f0 f1 y1 y4 y6 p5 p15 p16
  refine (HK.out _).mono ?_
  rintro e w3 ⟨rfl, hb3⟩
  have H4 := Lib.hid (H3.out.callee hb3)
  clear hb3 HK H3
  have c0 : w3.cell? ⟨w.heap.size, 0, none⟩ = some (.int .u8 o.1.toNat) := H4.out.o.c0
  have c1 : w3.cell? ⟨w.heap.size, 1, none⟩ = some (.string o.2) := H4.out.o.c1
  have z0 : w3.cell? ⟨w.heap.size + 1, 0, none⟩ = some (.int .u8 0) := H4.out.z.c0
  have z1 : w3.cell? ⟨w.heap.size + 1, 1, none⟩ = some (.string ⟨#[]⟩) := H4.out.z.c1
  have f0 : w3.frozen? ⟨w.heap.size + 1, 0, none⟩ = false := Blk.frozen H4.out.z 0
  have f1 : w3.frozen? ⟨w.heap.size + 1, 1, none⟩ = false := Blk.frozen H4.out.z 1
  have y1 : w3.cell? ⟨j, 1, none⟩ = some (.int .u16 x.mru.toNat) := H4.out.y.c 1
  have y4 : w3.cell? ⟨j, 4, none⟩ = some (.int .u8 x.auth.toNat) := H4.out.y.c 4
  have y6 : w3.cell? ⟨j, 6, none⟩ = some (.int .u32 x.magic.toNat) := H4.out.y.c 6
  have p5 : w3.cell? ⟨g, 5, none⟩ = some (.int .u8 p.c.can.toNat) := H4.out.p.c 5
  have p15 : w3.cell? ⟨g, 15, none⟩ = some (.bool p.w.hg) := H4.out.p.c 15
  have p16 : w3.cell? ⟨g, 16, none⟩ = some (.int .u32 p.w.magic.toNat) := H4.out.p.c 16
  go_wp2_with fail
  go_region
  go_wp2
  (try simp only [Exit.inBlock, Exit.then])
  refine bodyPost_ret (results_row0 rfl _ _ (w.heap.size + 1) _ _ _ rfl (H4.out.drew.z.set (o)) Tryz.underlying51 rfl (by kernel_rfl)) rfl ?_
  unfold OneQ
  rw [HE.out.1, HE.out.2]
  exact ⟨rfl, (H4.out.drew.B.setCell (p := ⟨w.heap.size + 1, 0, none⟩) (Nat.le_succ _) _).setCell (p := ⟨w.heap.size + 1, 1, none⟩) (Nat.le_succ _) _⟩
set_option maxHeartbeats 8000000 in
set_option maxRecDepth 100000 in
theorem one_odd (g : Nat) (p : Po) (o : Opt) (w : World) (h : RAt w g p) (hd : o.2.size ≤ 140737488351232) (hk : known o.1 = true) (hg : good o = false) (h3 : ¬ o.1 = 3) : Calls Tryz.prog 85 #[.pointer (some ⟨g, 0, none⟩), .agg #[.int .u8 o.1.toNat, .string o.2]] w (OneQ p o w) := by
  have HG : Hid (∀ w, Calls Tryz.prog 86 #[.agg #[.int .u8 o.1.toNat, .string o.2]] w fun e w' => e = .returned (.bool (good o)) ∧ Below w.heap.size w w') := fun w => rgood_any o.1 o.2 w
  have HS : Hid (∀ w, Calls Tryz.prog 87 #[.agg #[.int .u8 o.1.toNat, .string o.2]] w (BetQ (lo o) w)) := fun w => rsays_any o w hd
  have HK : Hid (∀ w, Calls Tryz.prog 111 #[.int .u8 o.1.toNat] w fun e w' => e = .returned (.bool (known o.1)) ∧ Below w.heap.size w w') := fun w => rknown_any o.1 w
  obtain ⟨W, hW, H0⟩ := boxOn w g p o h
  have c0 : W.cell? ⟨w.heap.size, 0, none⟩ = some (.int .u8 o.1.toNat) := H0.out.o.c0
  have c1 : W.cell? ⟨w.heap.size, 1, none⟩ = some (.string o.2) := H0.out.o.c1
  have z0 : W.cell? ⟨w.heap.size + 1, 0, none⟩ = some (.int .u8 0) := H0.out.z.c0
  have z1 : W.cell? ⟨w.heap.size + 1, 1, none⟩ = some (.string ⟨#[]⟩) := H0.out.z.c1
  have f0 : W.frozen? ⟨w.heap.size + 1, 0, none⟩ = false := Blk.frozen H0.out.z 0
  have f1 : W.frozen? ⟨w.heap.size + 1, 1, none⟩ = false := Blk.frozen H0.out.z 1
  clear h hd
  have HE := Lib.hid (kO_no (p := p) (acc_odd (p := p) hg h3))
  rw [hg] at HG
  rw [hk] at HK
  have e3 : ((o.1.toNat : Int) == 3) = false := u8_not (u8_isnt (n := 3) (by decide) h3)
  have n3 : ((o.1.toNat : Int) != 3) = true := by rw [bne, e3]; rfl
  clear hk hg h3
  generalize lo o = x at *
  go_enter Tryz.func85, Tryz.ntmps85
  go_wp2_with fail
  clear hW c0 c1 z0 z1 f0 f1
  refine (HG.out _).mono ?_
  rintro e w1 ⟨rfl, hb1⟩
  have H1 := Lib.hid (H0.out.callee hb1)
  clear hb1 HG H0
  have c0 : w1.cell? ⟨w.heap.size, 0, none⟩ = some (.int .u8 o.1.toNat) := H1.out.o.c0
  have c1 : w1.cell? ⟨w.heap.size, 1, none⟩ = some (.string o.2) := H1.out.o.c1
  have z0 : w1.cell? ⟨w.heap.size + 1, 0, none⟩ = some (.int .u8 0) := H1.out.z.c0
  have z1 : w1.cell? ⟨w.heap.size + 1, 1, none⟩ = some (.string ⟨#[]⟩) := H1.out.z.c1
  have f0 : w1.frozen? ⟨w.heap.size + 1, 0, none⟩ = false := Blk.frozen H1.out.z 0
  have f1 : w1.frozen? ⟨w.heap.size + 1, 1, none⟩ = false := Blk.frozen H1.out.z 1
  go_wp2_with fail
  clear c0 c1 z0 z1 f0 f1
  refine (HS.out _).mono ?_
  rintro e w2 ⟨rfl, hb2⟩
  have H2 := Lib.hid (H1.out.callee hb2)
  clear hb2 HS H1
  obtain ⟨V, hV, HV⟩ := boxL w2 x
  have H3 : Hid (Os w g p o w2.heap.size x V) := ⟨H2.out.o.callee HV.out.2.1, H2.out.z.callee HV.out.2.1, HV.out.1, H2.out.p.callee HV.out.2.1, H2.out.B.trans (HV.out.2.1.mono H2.out.B.size)⟩
  clear HV H2
  generalize hj : w2.heap.size = j at *
  unfold lv
  have c0 : V.cell? ⟨w.heap.size, 0, none⟩ = some (.int .u8 o.1.toNat) := H3.out.o.c0
  have c1 : V.cell? ⟨w.heap.size, 1, none⟩ = some (.string o.2) := H3.out.o.c1
  have z0 : V.cell? ⟨w.heap.size + 1, 0, none⟩ = some (.int .u8 0) := H3.out.z.c0
  have z1 : V.cell? ⟨w.heap.size + 1, 1, none⟩ = some (.string ⟨#[]⟩) := H3.out.z.c1
  have f0 : V.frozen? ⟨w.heap.size + 1, 0, none⟩ = false := Blk.frozen H3.out.z 0
  have f1 : V.frozen? ⟨w.heap.size + 1, 1, none⟩ = false := Blk.frozen H3.out.z 1
  have y1 : V.cell? ⟨j, 1, none⟩ = some (.int .u16 x.mru.toNat) := H3.out.y.c 1
  have y4 : V.cell? ⟨j, 4, none⟩ = some (.int .u8 x.auth.toNat) := H3.out.y.c 4
  have y6 : V.cell? ⟨j, 6, none⟩ = some (.int .u32 x.magic.toNat) := H3.out.y.c 6
  have p5 : V.cell? ⟨g, 5, none⟩ = some (.int .u8 p.c.can.toNat) := H3.out.p.c 5
  have p15 : V.cell? ⟨g, 15, none⟩ = some (.bool p.w.hg) := H3.out.p.c 15
  have p16 : V.cell? ⟨g, 16, none⟩ = some (.int .u32 p.w.magic.toNat) := H3.out.p.c 16
  go_wp2_with fail
  clear hV hj c0 c1 z0 z1 f0 f1 y1 y4 y6 p5 p15 p16
  refine (HK.out _).mono ?_
  rintro e w3 ⟨rfl, hb3⟩
  have H4 := Lib.hid (H3.out.callee hb3)
  clear hb3 HK H3
  have c0 : w3.cell? ⟨w.heap.size, 0, none⟩ = some (.int .u8 o.1.toNat) := H4.out.o.c0
  have c1 : w3.cell? ⟨w.heap.size, 1, none⟩ = some (.string o.2) := H4.out.o.c1
  have z0 : w3.cell? ⟨w.heap.size + 1, 0, none⟩ = some (.int .u8 0) := H4.out.z.c0
  have z1 : w3.cell? ⟨w.heap.size + 1, 1, none⟩ = some (.string ⟨#[]⟩) := H4.out.z.c1
  have f0 : w3.frozen? ⟨w.heap.size + 1, 0, none⟩ = false := Blk.frozen H4.out.z 0
  have f1 : w3.frozen? ⟨w.heap.size + 1, 1, none⟩ = false := Blk.frozen H4.out.z 1
  have y1 : w3.cell? ⟨j, 1, none⟩ = some (.int .u16 x.mru.toNat) := H4.out.y.c 1
  have y4 : w3.cell? ⟨j, 4, none⟩ = some (.int .u8 x.auth.toNat) := H4.out.y.c 4
  have y6 : w3.cell? ⟨j, 6, none⟩ = some (.int .u32 x.magic.toNat) := H4.out.y.c 6
  have p5 : w3.cell? ⟨g, 5, none⟩ = some (.int .u8 p.c.can.toNat) := H4.out.p.c 5
  have p15 : w3.cell? ⟨g, 15, none⟩ = some (.bool p.w.hg) := H4.out.p.c 15
  have p16 : w3.cell? ⟨g, 16, none⟩ = some (.int .u32 p.w.magic.toNat) := H4.out.p.c 16
  go_wp2_with fail
  go_region
  go_wp2
  (try simp only [Exit.inBlock, Exit.then])
  refine bodyPost_ret (results_row0 rfl _ _ (w.heap.size + 1) _ _ _ rfl (H4.out.drew.z.set (o)) Tryz.underlying51 rfl (by kernel_rfl)) rfl ?_
  unfold OneQ
  rw [HE.out.1, HE.out.2]
  exact ⟨rfl, (H4.out.drew.B.setCell (p := ⟨w.heap.size + 1, 0, none⟩) (Nat.le_succ _) _).setCell (p := ⟨w.heap.size + 1, 1, none⟩) (Nat.le_succ _) _⟩
set_option maxHeartbeats 8000000 in
set_option maxRecDepth 100000 in
theorem one_off (g : Nat) (p : Po) (o : Opt) (w : World) (h : RAt w g p) (hd : o.2.size ≤ 140737488351232) (h3 : o.1 = 3) (hc : (p.c.can == 0) = true) : Calls Tryz.prog 85 #[.pointer (some ⟨g, 0, none⟩), .agg #[.int .u8 o.1.toNat, .string o.2]] w (OneQ p o w) := by
  have HG : Hid (∀ w, Calls Tryz.prog 86 #[.agg #[.int .u8 o.1.toNat, .string o.2]] w fun e w' => e = .returned (.bool (good o)) ∧ Below w.heap.size w w') := fun w => rgood_any o.1 o.2 w
  have HS : Hid (∀ w, Calls Tryz.prog 87 #[.agg #[.int .u8 o.1.toNat, .string o.2]] w (BetQ (lo o) w)) := fun w => rsays_any o w hd
  have HK : Hid (∀ w, Calls Tryz.prog 111 #[.int .u8 o.1.toNat] w fun e w' => e = .returned (.bool (known o.1)) ∧ Below w.heap.size w w') := fun w => rknown_any o.1 w
  obtain ⟨W, hW, H0⟩ := boxOn w g p o h
  have c0 : W.cell? ⟨w.heap.size, 0, none⟩ = some (.int .u8 o.1.toNat) := H0.out.o.c0
  have c1 : W.cell? ⟨w.heap.size, 1, none⟩ = some (.string o.2) := H0.out.o.c1
  have z0 : W.cell? ⟨w.heap.size + 1, 0, none⟩ = some (.int .u8 0) := H0.out.z.c0
  have z1 : W.cell? ⟨w.heap.size + 1, 1, none⟩ = some (.string ⟨#[]⟩) := H0.out.z.c1
  have f0 : W.frozen? ⟨w.heap.size + 1, 0, none⟩ = false := Blk.frozen H0.out.z 0
  have f1 : W.frozen? ⟨w.heap.size + 1, 1, none⟩ = false := Blk.frozen H0.out.z 1
  clear h hd
  have HE := Lib.hid (kO_no (p := p) (acc_off h3 hc))
  rw [show known o.1 = true from by rw [h3]; rfl] at HK
  have e3 : ((o.1.toNat : Int) == 3) = true := by rw [h3]; rfl
  have n3 : ((o.1.toNat : Int) != 3) = false := by rw [h3]; rfl
  have cz : ((p.c.can.toNat : Int) == 0) = true := by rw [u8_eq0]; exact hc
  clear h3 hc
  generalize lo o = x at *
  cases hg : good o
  · rw [hg] at HG
    clear hg
    go_enter Tryz.func85, Tryz.ntmps85
    go_wp2_with fail
    clear hW c0 c1 z0 z1 f0 f1
    refine (HG.out _).mono ?_
    rintro e w1 ⟨rfl, hb1⟩
    have H1 := Lib.hid (H0.out.callee hb1)
    clear hb1 HG H0
    have c0 : w1.cell? ⟨w.heap.size, 0, none⟩ = some (.int .u8 o.1.toNat) := H1.out.o.c0
    have c1 : w1.cell? ⟨w.heap.size, 1, none⟩ = some (.string o.2) := H1.out.o.c1
    have z0 : w1.cell? ⟨w.heap.size + 1, 0, none⟩ = some (.int .u8 0) := H1.out.z.c0
    have z1 : w1.cell? ⟨w.heap.size + 1, 1, none⟩ = some (.string ⟨#[]⟩) := H1.out.z.c1
    have f0 : w1.frozen? ⟨w.heap.size + 1, 0, none⟩ = false := Blk.frozen H1.out.z 0
    have f1 : w1.frozen? ⟨w.heap.size + 1, 1, none⟩ = false := Blk.frozen H1.out.z 1
    go_wp2_with fail
    clear c0 c1 z0 z1 f0 f1
    refine (HS.out _).mono ?_
    rintro e w2 ⟨rfl, hb2⟩
    have H2 := Lib.hid (H1.out.callee hb2)
    clear hb2 HS H1
    obtain ⟨V, hV, HV⟩ := boxL w2 x
    have H3 : Hid (Os w g p o w2.heap.size x V) := ⟨H2.out.o.callee HV.out.2.1, H2.out.z.callee HV.out.2.1, HV.out.1, H2.out.p.callee HV.out.2.1, H2.out.B.trans (HV.out.2.1.mono H2.out.B.size)⟩
    clear HV H2
    generalize hj : w2.heap.size = j at *
    unfold lv
    have c0 : V.cell? ⟨w.heap.size, 0, none⟩ = some (.int .u8 o.1.toNat) := H3.out.o.c0
    have c1 : V.cell? ⟨w.heap.size, 1, none⟩ = some (.string o.2) := H3.out.o.c1
    have z0 : V.cell? ⟨w.heap.size + 1, 0, none⟩ = some (.int .u8 0) := H3.out.z.c0
    have z1 : V.cell? ⟨w.heap.size + 1, 1, none⟩ = some (.string ⟨#[]⟩) := H3.out.z.c1
    have f0 : V.frozen? ⟨w.heap.size + 1, 0, none⟩ = false := Blk.frozen H3.out.z 0
    have f1 : V.frozen? ⟨w.heap.size + 1, 1, none⟩ = false := Blk.frozen H3.out.z 1
    have y1 : V.cell? ⟨j, 1, none⟩ = some (.int .u16 x.mru.toNat) := H3.out.y.c 1
    have y4 : V.cell? ⟨j, 4, none⟩ = some (.int .u8 x.auth.toNat) := H3.out.y.c 4
    have y6 : V.cell? ⟨j, 6, none⟩ = some (.int .u32 x.magic.toNat) := H3.out.y.c 6
    have p5 : V.cell? ⟨g, 5, none⟩ = some (.int .u8 p.c.can.toNat) := H3.out.p.c 5
    have p15 : V.cell? ⟨g, 15, none⟩ = some (.bool p.w.hg) := H3.out.p.c 15
    have p16 : V.cell? ⟨g, 16, none⟩ = some (.int .u32 p.w.magic.toNat) := H3.out.p.c 16
    go_wp2_with fail
    clear hV hj c0 c1 z0 z1 f0 f1 y1 y4 y6 p5 p15 p16
    refine (HK.out _).mono ?_
    rintro e w3 ⟨rfl, hb3⟩
    have H4 := Lib.hid (H3.out.callee hb3)
    clear hb3 HK H3
    have c0 : w3.cell? ⟨w.heap.size, 0, none⟩ = some (.int .u8 o.1.toNat) := H4.out.o.c0
    have c1 : w3.cell? ⟨w.heap.size, 1, none⟩ = some (.string o.2) := H4.out.o.c1
    have z0 : w3.cell? ⟨w.heap.size + 1, 0, none⟩ = some (.int .u8 0) := H4.out.z.c0
    have z1 : w3.cell? ⟨w.heap.size + 1, 1, none⟩ = some (.string ⟨#[]⟩) := H4.out.z.c1
    have f0 : w3.frozen? ⟨w.heap.size + 1, 0, none⟩ = false := Blk.frozen H4.out.z 0
    have f1 : w3.frozen? ⟨w.heap.size + 1, 1, none⟩ = false := Blk.frozen H4.out.z 1
    have y1 : w3.cell? ⟨j, 1, none⟩ = some (.int .u16 x.mru.toNat) := H4.out.y.c 1
    have y4 : w3.cell? ⟨j, 4, none⟩ = some (.int .u8 x.auth.toNat) := H4.out.y.c 4
    have y6 : w3.cell? ⟨j, 6, none⟩ = some (.int .u32 x.magic.toNat) := H4.out.y.c 6
    have p5 : w3.cell? ⟨g, 5, none⟩ = some (.int .u8 p.c.can.toNat) := H4.out.p.c 5
    have p15 : w3.cell? ⟨g, 15, none⟩ = some (.bool p.w.hg) := H4.out.p.c 15
    have p16 : w3.cell? ⟨g, 16, none⟩ = some (.int .u32 p.w.magic.toNat) := H4.out.p.c 16
    go_wp2_with fail
    go_region
    go_wp2
    (try simp only [Exit.inBlock, Exit.then])
    refine bodyPost_ret (results_row0 rfl _ _ (w.heap.size + 1) _ _ _ rfl (H4.out.drew.z.set (o)) Tryz.underlying51 rfl (by kernel_rfl)) rfl ?_
    unfold OneQ
    rw [HE.out.1, HE.out.2]
    exact ⟨rfl, (H4.out.drew.B.setCell (p := ⟨w.heap.size + 1, 0, none⟩) (Nat.le_succ _) _).setCell (p := ⟨w.heap.size + 1, 1, none⟩) (Nat.le_succ _) _⟩
  · rw [hg] at HG
    clear hg
    go_enter Tryz.func85, Tryz.ntmps85
    go_wp2_with fail
    clear hW c0 c1 z0 z1 f0 f1
    refine (HG.out _).mono ?_
    rintro e w1 ⟨rfl, hb1⟩
    have H1 := Lib.hid (H0.out.callee hb1)
    clear hb1 HG H0
    have c0 : w1.cell? ⟨w.heap.size, 0, none⟩ = some (.int .u8 o.1.toNat) := H1.out.o.c0
    have c1 : w1.cell? ⟨w.heap.size, 1, none⟩ = some (.string o.2) := H1.out.o.c1
    have z0 : w1.cell? ⟨w.heap.size + 1, 0, none⟩ = some (.int .u8 0) := H1.out.z.c0
    have z1 : w1.cell? ⟨w.heap.size + 1, 1, none⟩ = some (.string ⟨#[]⟩) := H1.out.z.c1
    have f0 : w1.frozen? ⟨w.heap.size + 1, 0, none⟩ = false := Blk.frozen H1.out.z 0
    have f1 : w1.frozen? ⟨w.heap.size + 1, 1, none⟩ = false := Blk.frozen H1.out.z 1
    go_wp2_with fail
    clear c0 c1 z0 z1 f0 f1
    refine (HS.out _).mono ?_
    rintro e w2 ⟨rfl, hb2⟩
    have H2 := Lib.hid (H1.out.callee hb2)
    clear hb2 HS H1
    obtain ⟨V, hV, HV⟩ := boxL w2 x
    have H3 : Hid (Os w g p o w2.heap.size x V) := ⟨H2.out.o.callee HV.out.2.1, H2.out.z.callee HV.out.2.1, HV.out.1, H2.out.p.callee HV.out.2.1, H2.out.B.trans (HV.out.2.1.mono H2.out.B.size)⟩
    clear HV H2
    generalize hj : w2.heap.size = j at *
    unfold lv
    have c0 : V.cell? ⟨w.heap.size, 0, none⟩ = some (.int .u8 o.1.toNat) := H3.out.o.c0
    have c1 : V.cell? ⟨w.heap.size, 1, none⟩ = some (.string o.2) := H3.out.o.c1
    have z0 : V.cell? ⟨w.heap.size + 1, 0, none⟩ = some (.int .u8 0) := H3.out.z.c0
    have z1 : V.cell? ⟨w.heap.size + 1, 1, none⟩ = some (.string ⟨#[]⟩) := H3.out.z.c1
    have f0 : V.frozen? ⟨w.heap.size + 1, 0, none⟩ = false := Blk.frozen H3.out.z 0
    have f1 : V.frozen? ⟨w.heap.size + 1, 1, none⟩ = false := Blk.frozen H3.out.z 1
    have y1 : V.cell? ⟨j, 1, none⟩ = some (.int .u16 x.mru.toNat) := H3.out.y.c 1
    have y4 : V.cell? ⟨j, 4, none⟩ = some (.int .u8 x.auth.toNat) := H3.out.y.c 4
    have y6 : V.cell? ⟨j, 6, none⟩ = some (.int .u32 x.magic.toNat) := H3.out.y.c 6
    have p5 : V.cell? ⟨g, 5, none⟩ = some (.int .u8 p.c.can.toNat) := H3.out.p.c 5
    have p15 : V.cell? ⟨g, 15, none⟩ = some (.bool p.w.hg) := H3.out.p.c 15
    have p16 : V.cell? ⟨g, 16, none⟩ = some (.int .u32 p.w.magic.toNat) := H3.out.p.c 16
    go_wp2_with fail
    clear hV hj c0 c1 z0 z1 f0 f1 y1 y4 y6 p5 p15 p16
    refine (HK.out _).mono ?_
    rintro e w3 ⟨rfl, hb3⟩
    have H4 := Lib.hid (H3.out.callee hb3)
    clear hb3 HK H3
    have c0 : w3.cell? ⟨w.heap.size, 0, none⟩ = some (.int .u8 o.1.toNat) := H4.out.o.c0
    have c1 : w3.cell? ⟨w.heap.size, 1, none⟩ = some (.string o.2) := H4.out.o.c1
    have z0 : w3.cell? ⟨w.heap.size + 1, 0, none⟩ = some (.int .u8 0) := H4.out.z.c0
    have z1 : w3.cell? ⟨w.heap.size + 1, 1, none⟩ = some (.string ⟨#[]⟩) := H4.out.z.c1
    have f0 : w3.frozen? ⟨w.heap.size + 1, 0, none⟩ = false := Blk.frozen H4.out.z 0
    have f1 : w3.frozen? ⟨w.heap.size + 1, 1, none⟩ = false := Blk.frozen H4.out.z 1
    have y1 : w3.cell? ⟨j, 1, none⟩ = some (.int .u16 x.mru.toNat) := H4.out.y.c 1
    have y4 : w3.cell? ⟨j, 4, none⟩ = some (.int .u8 x.auth.toNat) := H4.out.y.c 4
    have y6 : w3.cell? ⟨j, 6, none⟩ = some (.int .u32 x.magic.toNat) := H4.out.y.c 6
    have p5 : w3.cell? ⟨g, 5, none⟩ = some (.int .u8 p.c.can.toNat) := H4.out.p.c 5
    have p15 : w3.cell? ⟨g, 15, none⟩ = some (.bool p.w.hg) := H4.out.p.c 15
    have p16 : w3.cell? ⟨g, 16, none⟩ = some (.int .u32 p.w.magic.toNat) := H4.out.p.c 16
    go_wp2_with fail
    go_region
    go_wp2
    (try simp only [Exit.inBlock, Exit.then])
    refine bodyPost_ret (results_row0 rfl _ _ (w.heap.size + 1) _ _ _ rfl (H4.out.drew.z.set (o)) Tryz.underlying51 rfl (by kernel_rfl)) rfl ?_
    unfold OneQ
    rw [HE.out.1, HE.out.2]
    exact ⟨rfl, (H4.out.drew.B.setCell (p := ⟨w.heap.size + 1, 0, none⟩) (Nat.le_succ _) _).setCell (p := ⟨w.heap.size + 1, 1, none⟩) (Nat.le_succ _) _⟩
set_option maxHeartbeats 8000000 in
set_option maxRecDepth 100000 in
theorem one_auth_bad (g : Nat) (p : Po) (o : Opt) (w : World) (h : RAt w g p) (hd : o.2.size ≤ 140737488351232) (h3 : o.1 = 3) (hc : (p.c.can == 0) = false) (hm : p.c.can ≤ 3) (hg : good o = false) : Calls Tryz.prog 85 #[.pointer (some ⟨g, 0, none⟩), .agg #[.int .u8 o.1.toNat, .string o.2]] w (OneQ p o w) := by
  have HG : Hid (∀ w, Calls Tryz.prog 86 #[.agg #[.int .u8 o.1.toNat, .string o.2]] w fun e w' => e = .returned (.bool (good o)) ∧ Below w.heap.size w w') := fun w => rgood_any o.1 o.2 w
  have HS : Hid (∀ w, Calls Tryz.prog 87 #[.agg #[.int .u8 o.1.toNat, .string o.2]] w (BetQ (lo o) w)) := fun w => rsays_any o w hd
  have HK : Hid (∀ w, Calls Tryz.prog 111 #[.int .u8 o.1.toNat] w fun e w' => e = .returned (.bool (known o.1)) ∧ Below w.heap.size w w') := fun w => rknown_any o.1 w
  obtain ⟨W, hW, H0⟩ := boxOn w g p o h
  have c0 : W.cell? ⟨w.heap.size, 0, none⟩ = some (.int .u8 o.1.toNat) := H0.out.o.c0
  have c1 : W.cell? ⟨w.heap.size, 1, none⟩ = some (.string o.2) := H0.out.o.c1
  have z0 : W.cell? ⟨w.heap.size + 1, 0, none⟩ = some (.int .u8 0) := H0.out.z.c0
  have z1 : W.cell? ⟨w.heap.size + 1, 1, none⟩ = some (.string ⟨#[]⟩) := H0.out.z.c1
  have f0 : W.frozen? ⟨w.heap.size + 1, 0, none⟩ = false := Blk.frozen H0.out.z 0
  have f1 : W.frozen? ⟨w.heap.size + 1, 1, none⟩ = false := Blk.frozen H0.out.z 1
  clear h hd
  have HE := Lib.hid (auth_else h3 hc hm (by rw [lo_bad hg]; have := and_zero8 p.c.can; rw [bne, Bool.not_eq_false'] at this; exact this))
  rw [show known o.1 = true from by rw [h3]; rfl] at HK
  rw [hg] at HG
  have e3 : ((o.1.toNat : Int) == 3) = true := by rw [h3]; rfl
  have n3 : ((o.1.toNat : Int) != 3) = false := by rw [h3]; rfl
  have cz : ((p.c.can.toNat : Int) == 0) = false := by rw [u8_eq0]; exact hc
  have u2 := u8_bits p.c.can 2
  rw [show (((2 : UInt8).toNat : Nat) : Int) = 2 from rfl] at u2
  clear h3 hc hm hg
  generalize lo o = x at *
  go_enter Tryz.func85, Tryz.ntmps85
  go_wp2_with fail
  clear hW c0 c1 z0 z1 f0 f1
  refine (HG.out _).mono ?_
  rintro e w1 ⟨rfl, hb1⟩
  have H1 := Lib.hid (H0.out.callee hb1)
  clear hb1 HG H0
  have c0 : w1.cell? ⟨w.heap.size, 0, none⟩ = some (.int .u8 o.1.toNat) := H1.out.o.c0
  have c1 : w1.cell? ⟨w.heap.size, 1, none⟩ = some (.string o.2) := H1.out.o.c1
  have z0 : w1.cell? ⟨w.heap.size + 1, 0, none⟩ = some (.int .u8 0) := H1.out.z.c0
  have z1 : w1.cell? ⟨w.heap.size + 1, 1, none⟩ = some (.string ⟨#[]⟩) := H1.out.z.c1
  have f0 : w1.frozen? ⟨w.heap.size + 1, 0, none⟩ = false := Blk.frozen H1.out.z 0
  have f1 : w1.frozen? ⟨w.heap.size + 1, 1, none⟩ = false := Blk.frozen H1.out.z 1
  go_wp2_with fail
  clear c0 c1 z0 z1 f0 f1
  refine (HS.out _).mono ?_
  rintro e w2 ⟨rfl, hb2⟩
  have H2 := Lib.hid (H1.out.callee hb2)
  clear hb2 HS H1
  obtain ⟨V, hV, HV⟩ := boxL w2 x
  have H3 : Hid (Os w g p o w2.heap.size x V) := ⟨H2.out.o.callee HV.out.2.1, H2.out.z.callee HV.out.2.1, HV.out.1, H2.out.p.callee HV.out.2.1, H2.out.B.trans (HV.out.2.1.mono H2.out.B.size)⟩
  clear HV H2
  generalize hj : w2.heap.size = j at *
  unfold lv
  have c0 : V.cell? ⟨w.heap.size, 0, none⟩ = some (.int .u8 o.1.toNat) := H3.out.o.c0
  have c1 : V.cell? ⟨w.heap.size, 1, none⟩ = some (.string o.2) := H3.out.o.c1
  have z0 : V.cell? ⟨w.heap.size + 1, 0, none⟩ = some (.int .u8 0) := H3.out.z.c0
  have z1 : V.cell? ⟨w.heap.size + 1, 1, none⟩ = some (.string ⟨#[]⟩) := H3.out.z.c1
  have f0 : V.frozen? ⟨w.heap.size + 1, 0, none⟩ = false := Blk.frozen H3.out.z 0
  have f1 : V.frozen? ⟨w.heap.size + 1, 1, none⟩ = false := Blk.frozen H3.out.z 1
  have y1 : V.cell? ⟨j, 1, none⟩ = some (.int .u16 x.mru.toNat) := H3.out.y.c 1
  have y4 : V.cell? ⟨j, 4, none⟩ = some (.int .u8 x.auth.toNat) := H3.out.y.c 4
  have y6 : V.cell? ⟨j, 6, none⟩ = some (.int .u32 x.magic.toNat) := H3.out.y.c 6
  have p5 : V.cell? ⟨g, 5, none⟩ = some (.int .u8 p.c.can.toNat) := H3.out.p.c 5
  have p15 : V.cell? ⟨g, 15, none⟩ = some (.bool p.w.hg) := H3.out.p.c 15
  have p16 : V.cell? ⟨g, 16, none⟩ = some (.int .u32 p.w.magic.toNat) := H3.out.p.c 16
  go_wp2_with fail
  clear hV hj c0 c1 z0 z1 f0 f1 y1 y4 y6 p5 p15 p16
  refine (HK.out _).mono ?_
  rintro e w3 ⟨rfl, hb3⟩
  have H4 := Lib.hid (H3.out.callee hb3)
  clear hb3 HK H3
  have c0 : w3.cell? ⟨w.heap.size, 0, none⟩ = some (.int .u8 o.1.toNat) := H4.out.o.c0
  have c1 : w3.cell? ⟨w.heap.size, 1, none⟩ = some (.string o.2) := H4.out.o.c1
  have z0 : w3.cell? ⟨w.heap.size + 1, 0, none⟩ = some (.int .u8 0) := H4.out.z.c0
  have z1 : w3.cell? ⟨w.heap.size + 1, 1, none⟩ = some (.string ⟨#[]⟩) := H4.out.z.c1
  have f0 : w3.frozen? ⟨w.heap.size + 1, 0, none⟩ = false := Blk.frozen H4.out.z 0
  have f1 : w3.frozen? ⟨w.heap.size + 1, 1, none⟩ = false := Blk.frozen H4.out.z 1
  have y1 : w3.cell? ⟨j, 1, none⟩ = some (.int .u16 x.mru.toNat) := H4.out.y.c 1
  have y4 : w3.cell? ⟨j, 4, none⟩ = some (.int .u8 x.auth.toNat) := H4.out.y.c 4
  have y6 : w3.cell? ⟨j, 6, none⟩ = some (.int .u32 x.magic.toNat) := H4.out.y.c 6
  have p5 : w3.cell? ⟨g, 5, none⟩ = some (.int .u8 p.c.can.toNat) := H4.out.p.c 5
  have p15 : w3.cell? ⟨g, 15, none⟩ = some (.bool p.w.hg) := H4.out.p.c 15
  have p16 : w3.cell? ⟨g, 16, none⟩ = some (.int .u32 p.w.magic.toNat) := H4.out.p.c 16
  go_wp2_with fail
  clear c0 c1 z0 z1 f0 f1 y1 y4 y6 p5 p15 p16
  have c0 : ∀ q : HeldW (fun w' => Os w g p o j x w'), q.w.cell? ⟨w.heap.size, 0, none⟩ = some (.int .u8 o.1.toNat) := fun q => q.h.o.c0
  have y4 : ∀ q : HeldW (fun w' => Os w g p o j x w'), q.w.cell? ⟨j, 4, none⟩ = some (.int .u8 x.auth.toNat) := fun q => q.h.y.c 4
  have y6 : ∀ q : HeldW (fun w' => Os w g p o j x w'), q.w.cell? ⟨j, 6, none⟩ = some (.int .u32 x.magic.toNat) := fun q => q.h.y.c 6
  have p5 : ∀ q : HeldW (fun w' => Os w g p o j x w'), q.w.cell? ⟨g, 5, none⟩ = some (.int .u8 p.c.can.toNat) := fun q => q.h.p.c 5
  have p15 : ∀ q : HeldW (fun w' => Os w g p o j x w'), q.w.cell? ⟨g, 15, none⟩ = some (.bool p.w.hg) := fun q => q.h.p.c 15
  have p16 : ∀ q : HeldW (fun w' => Os w g p o j x w'), q.w.cell? ⟨g, 16, none⟩ = some (.int .u32 p.w.magic.toNat) := fun q => q.h.p.c 16
  have hne : Nonempty (HeldW (fun w' => Os w g p o j x w')) := ⟨⟨w3.drew, H4.out.drew⟩⟩
  refine wp_region_quiet_shut (fun w' => Os w g p o j x w') (by kernel_rfl) (by kernel_rfl) H4.out.drew (fun G hst hnil => ?_)
  repeat (
    refine hst.out _ _ _ (fun K hK => ?_)
    go_simp
    first
      | (refine hK _ ?_; clear hK K)
      | (apply Exists.intro
         refine ⟨fun _ => ?_, hK _ ?_⟩
         fail
         clear hK K))
  refine hnil.out _ (fun q => ?_)
  clear hnil hst
  have HQ := Lib.hid q.h
  clear c0 y4 y6 p5 p15 p16 hne
  have c0 : q.w.cell? ⟨w.heap.size, 0, none⟩ = some (.int .u8 o.1.toNat) := HQ.out.o.c0
  have c1 : q.w.cell? ⟨w.heap.size, 1, none⟩ = some (.string o.2) := HQ.out.o.c1
  have z0 : q.w.cell? ⟨w.heap.size + 1, 0, none⟩ = some (.int .u8 0) := HQ.out.z.c0
  have z1 : q.w.cell? ⟨w.heap.size + 1, 1, none⟩ = some (.string ⟨#[]⟩) := HQ.out.z.c1
  have f0 : q.w.frozen? ⟨w.heap.size + 1, 0, none⟩ = false := Blk.frozen HQ.out.z 0
  have f1 : q.w.frozen? ⟨w.heap.size + 1, 1, none⟩ = false := Blk.frozen HQ.out.z 1
  have y1 : q.w.cell? ⟨j, 1, none⟩ = some (.int .u16 x.mru.toNat) := HQ.out.y.c 1
  have y4 : q.w.cell? ⟨j, 4, none⟩ = some (.int .u8 x.auth.toNat) := HQ.out.y.c 4
  have y6 : q.w.cell? ⟨j, 6, none⟩ = some (.int .u32 x.magic.toNat) := HQ.out.y.c 6
  have p5 : q.w.cell? ⟨g, 5, none⟩ = some (.int .u8 p.c.can.toNat) := HQ.out.p.c 5
  have p15 : q.w.cell? ⟨g, 15, none⟩ = some (.bool p.w.hg) := HQ.out.p.c 15
  have p16 : q.w.cell? ⟨g, 16, none⟩ = some (.int .u32 p.w.magic.toNat) := HQ.out.p.c 16
  cases h2 : (p.c.can &&& 2 != 0)
  · rw [h2] at u2
    have HOn : Hid (∀ w, Calls Tryz.prog 112 #[.agg #[Value.bool false, .int .u16 0, .bool false, .int .u32 0, .int .u8 1, .bool false, .int .u32 0, .bool false, .bool false]] w fun e w' => e = .returned (.agg #[.int .u8 3, .string (authD 1)]) ∧ Below w.heap.size w w') := hO_auth 1 (by decide)
    replace HE : Hid (kO p o = 1 ∧ xO p o = (3, authD 1)) := by have h := HE.out; unfold kd at h; rw [h2] at h; exact h
    generalize authD 1 = ad at *
    clear h2
    go_wp2_with fail
    clear c0 c1 z0 z1 f0 f1 y1 y4 y6 p5 p15 p16
    refine (HOn.out _).mono ?_
    rintro e w8 ⟨rfl, hb8⟩
    have H8 := Lib.hid (HQ.out.callee hb8)
    clear hb8 HQ HOn
    have c0 : w8.cell? ⟨w.heap.size, 0, none⟩ = some (.int .u8 o.1.toNat) := H8.out.o.c0
    have c1 : w8.cell? ⟨w.heap.size, 1, none⟩ = some (.string o.2) := H8.out.o.c1
    have z0 : w8.cell? ⟨w.heap.size + 1, 0, none⟩ = some (.int .u8 0) := H8.out.z.c0
    have z1 : w8.cell? ⟨w.heap.size + 1, 1, none⟩ = some (.string ⟨#[]⟩) := H8.out.z.c1
    have f0 : w8.frozen? ⟨w.heap.size + 1, 0, none⟩ = false := Blk.frozen H8.out.z 0
    have f1 : w8.frozen? ⟨w.heap.size + 1, 1, none⟩ = false := Blk.frozen H8.out.z 1
    have y1 : w8.cell? ⟨j, 1, none⟩ = some (.int .u16 x.mru.toNat) := H8.out.y.c 1
    have y4 : w8.cell? ⟨j, 4, none⟩ = some (.int .u8 x.auth.toNat) := H8.out.y.c 4
    have y6 : w8.cell? ⟨j, 6, none⟩ = some (.int .u32 x.magic.toNat) := H8.out.y.c 6
    have p5 : w8.cell? ⟨g, 5, none⟩ = some (.int .u8 p.c.can.toNat) := H8.out.p.c 5
    have p15 : w8.cell? ⟨g, 15, none⟩ = some (.bool p.w.hg) := H8.out.p.c 15
    have p16 : w8.cell? ⟨g, 16, none⟩ = some (.int .u32 p.w.magic.toNat) := H8.out.p.c 16
    go_wp2
    (try simp only [Exit.inBlock, Exit.then])
    refine bodyPost_ret (results_row0 rfl _ _ (w.heap.size + 1) _ _ _ rfl (H8.out.z.set (3, ad)) Tryz.underlying51 rfl (by kernel_rfl)) rfl ?_
    unfold OneQ
    rw [HE.out.1, HE.out.2]
    exact ⟨rfl, (H8.out.B.setCell (p := ⟨w.heap.size + 1, 0, none⟩) (Nat.le_succ _) _).setCell (p := ⟨w.heap.size + 1, 1, none⟩) (Nat.le_succ _) _⟩
  · rw [h2] at u2
    have HOn : Hid (∀ w, Calls Tryz.prog 112 #[.agg #[Value.bool false, .int .u16 0, .bool false, .int .u32 0, .int .u8 2, .bool false, .int .u32 0, .bool false, .bool false]] w fun e w' => e = .returned (.agg #[.int .u8 3, .string (authD 2)]) ∧ Below w.heap.size w w') := hO_auth 2 (by decide)
    replace HE : Hid (kO p o = 1 ∧ xO p o = (3, authD 2)) := by have h := HE.out; unfold kd at h; rw [h2] at h; exact h
    generalize authD 2 = ad at *
    clear h2
    go_wp2_with fail
    clear c0 c1 z0 z1 f0 f1 y1 y4 y6 p5 p15 p16
    refine (HOn.out _).mono ?_
    rintro e w8 ⟨rfl, hb8⟩
    have H8 := Lib.hid (HQ.out.callee hb8)
    clear hb8 HQ HOn
    have c0 : w8.cell? ⟨w.heap.size, 0, none⟩ = some (.int .u8 o.1.toNat) := H8.out.o.c0
    have c1 : w8.cell? ⟨w.heap.size, 1, none⟩ = some (.string o.2) := H8.out.o.c1
    have z0 : w8.cell? ⟨w.heap.size + 1, 0, none⟩ = some (.int .u8 0) := H8.out.z.c0
    have z1 : w8.cell? ⟨w.heap.size + 1, 1, none⟩ = some (.string ⟨#[]⟩) := H8.out.z.c1
    have f0 : w8.frozen? ⟨w.heap.size + 1, 0, none⟩ = false := Blk.frozen H8.out.z 0
    have f1 : w8.frozen? ⟨w.heap.size + 1, 1, none⟩ = false := Blk.frozen H8.out.z 1
    have y1 : w8.cell? ⟨j, 1, none⟩ = some (.int .u16 x.mru.toNat) := H8.out.y.c 1
    have y4 : w8.cell? ⟨j, 4, none⟩ = some (.int .u8 x.auth.toNat) := H8.out.y.c 4
    have y6 : w8.cell? ⟨j, 6, none⟩ = some (.int .u32 x.magic.toNat) := H8.out.y.c 6
    have p5 : w8.cell? ⟨g, 5, none⟩ = some (.int .u8 p.c.can.toNat) := H8.out.p.c 5
    have p15 : w8.cell? ⟨g, 15, none⟩ = some (.bool p.w.hg) := H8.out.p.c 15
    have p16 : w8.cell? ⟨g, 16, none⟩ = some (.int .u32 p.w.magic.toNat) := H8.out.p.c 16
    go_wp2
    (try simp only [Exit.inBlock, Exit.then])
    refine bodyPost_ret (results_row0 rfl _ _ (w.heap.size + 1) _ _ _ rfl (H8.out.z.set (3, ad)) Tryz.underlying51 rfl (by kernel_rfl)) rfl ?_
    unfold OneQ
    rw [HE.out.1, HE.out.2]
    exact ⟨rfl, (H8.out.B.setCell (p := ⟨w.heap.size + 1, 0, none⟩) (Nat.le_succ _) _).setCell (p := ⟨w.heap.size + 1, 1, none⟩) (Nat.le_succ _) _⟩
end Go.Proofs.YtpohcejgblahiaaGreat.Pol

/- The document's one, further cases. Written by gen/pol_qc.py. -/
set_option linter.unusedSimpArgs false
set_option linter.unusedVariables false
namespace Go.Proofs.YtpohcejgblahiaaGreat.Pol
open Go.RowKit Go.Proofs.YtpohcejgblahiaaGreat.Oct Go.Proofs.YtpohcejgblahiaaGreat.Row Go.Proofs.YtpohcejgblahiaaGreat.Mem Go.Proofs.YtpohcejgblahiaaGreat.Opt Go.Proofs.YtpohcejgblahiaaGreat.Lco

set_option maxHeartbeats 8000000 in
set_option maxRecDepth 100000 in
theorem one_auth_other (g : Nat) (p : Po) (o : Opt) (w : World) (h : RAt w g p) (hd : o.2.size ≤ 140737488351232) (h3 : o.1 = 3) (hc : (p.c.can == 0) = false) (hm : p.c.can ≤ 3) (hg : good o = true) (ha : (p.c.can &&& (lo o).auth == 0) = true) : Calls Tryz.prog 85 #[.pointer (some ⟨g, 0, none⟩), .agg #[.int .u8 o.1.toNat, .string o.2]] w (OneQ p o w) := by
  have HG : Hid (∀ w, Calls Tryz.prog 86 #[.agg #[.int .u8 o.1.toNat, .string o.2]] w fun e w' => e = .returned (.bool (good o)) ∧ Below w.heap.size w w') := fun w => rgood_any o.1 o.2 w
  have HS : Hid (∀ w, Calls Tryz.prog 87 #[.agg #[.int .u8 o.1.toNat, .string o.2]] w (BetQ (lo o) w)) := fun w => rsays_any o w hd
  have HK : Hid (∀ w, Calls Tryz.prog 111 #[.int .u8 o.1.toNat] w fun e w' => e = .returned (.bool (known o.1)) ∧ Below w.heap.size w w') := fun w => rknown_any o.1 w
  obtain ⟨W, hW, H0⟩ := boxOn w g p o h
  have c0 : W.cell? ⟨w.heap.size, 0, none⟩ = some (.int .u8 o.1.toNat) := H0.out.o.c0
  have c1 : W.cell? ⟨w.heap.size, 1, none⟩ = some (.string o.2) := H0.out.o.c1
  have z0 : W.cell? ⟨w.heap.size + 1, 0, none⟩ = some (.int .u8 0) := H0.out.z.c0
  have z1 : W.cell? ⟨w.heap.size + 1, 1, none⟩ = some (.string ⟨#[]⟩) := H0.out.z.c1
  have f0 : W.frozen? ⟨w.heap.size + 1, 0, none⟩ = false := Blk.frozen H0.out.z 0
  have f1 : W.frozen? ⟨w.heap.size + 1, 1, none⟩ = false := Blk.frozen H0.out.z 1
  clear h hd
  have HE := Lib.hid (auth_else h3 hc hm ha)
  have HA2 := Lib.hid ((may_iff _).1 (lo_may o)).1
  rw [show known o.1 = true from by rw [h3]; rfl] at HK
  rw [hg] at HG
  have e3 : ((o.1.toNat : Int) == 3) = true := by rw [h3]; rfl
  have n3 : ((o.1.toNat : Int) != 3) = false := by rw [h3]; rfl
  have cz : ((p.c.can.toNat : Int) == 0) = false := by rw [u8_eq0]; exact hc
  have u2 := u8_bits p.c.can 2
  rw [show (((2 : UInt8).toNat : Nat) : Int) = 2 from rfl] at u2
  have ua : (bits .and .u8 (p.c.can.toNat : Int) ((lo o).auth.toNat : Int) == 0) = true := by have h := u8_bits p.c.can (lo o).auth; rw [bne, bne] at h; have h' := Bool.not_inj h; rw [h']; exact ha
  clear h3 hc hm hg ha
  generalize lo o = x at *
  go_enter Tryz.func85, Tryz.ntmps85
  go_wp2_with fail
  clear hW c0 c1 z0 z1 f0 f1
  refine (HG.out _).mono ?_
  rintro e w1 ⟨rfl, hb1⟩
  have H1 := Lib.hid (H0.out.callee hb1)
  clear hb1 HG H0
  have c0 : w1.cell? ⟨w.heap.size, 0, none⟩ = some (.int .u8 o.1.toNat) := H1.out.o.c0
  have c1 : w1.cell? ⟨w.heap.size, 1, none⟩ = some (.string o.2) := H1.out.o.c1
  have z0 : w1.cell? ⟨w.heap.size + 1, 0, none⟩ = some (.int .u8 0) := H1.out.z.c0
  have z1 : w1.cell? ⟨w.heap.size + 1, 1, none⟩ = some (.string ⟨#[]⟩) := H1.out.z.c1
  have f0 : w1.frozen? ⟨w.heap.size + 1, 0, none⟩ = false := Blk.frozen H1.out.z 0
  have f1 : w1.frozen? ⟨w.heap.size + 1, 1, none⟩ = false := Blk.frozen H1.out.z 1
  go_wp2_with fail
  clear c0 c1 z0 z1 f0 f1
  refine (HS.out _).mono ?_
  rintro e w2 ⟨rfl, hb2⟩
  have H2 := Lib.hid (H1.out.callee hb2)
  clear hb2 HS H1
  obtain ⟨V, hV, HV⟩ := boxL w2 x
  have H3 : Hid (Os w g p o w2.heap.size x V) := ⟨H2.out.o.callee HV.out.2.1, H2.out.z.callee HV.out.2.1, HV.out.1, H2.out.p.callee HV.out.2.1, H2.out.B.trans (HV.out.2.1.mono H2.out.B.size)⟩
  clear HV H2
  generalize hj : w2.heap.size = j at *
  unfold lv
  have c0 : V.cell? ⟨w.heap.size, 0, none⟩ = some (.int .u8 o.1.toNat) := H3.out.o.c0
  have c1 : V.cell? ⟨w.heap.size, 1, none⟩ = some (.string o.2) := H3.out.o.c1
  have z0 : V.cell? ⟨w.heap.size + 1, 0, none⟩ = some (.int .u8 0) := H3.out.z.c0
  have z1 : V.cell? ⟨w.heap.size + 1, 1, none⟩ = some (.string ⟨#[]⟩) := H3.out.z.c1
  have f0 : V.frozen? ⟨w.heap.size + 1, 0, none⟩ = false := Blk.frozen H3.out.z 0
  have f1 : V.frozen? ⟨w.heap.size + 1, 1, none⟩ = false := Blk.frozen H3.out.z 1
  have y1 : V.cell? ⟨j, 1, none⟩ = some (.int .u16 x.mru.toNat) := H3.out.y.c 1
  have y4 : V.cell? ⟨j, 4, none⟩ = some (.int .u8 x.auth.toNat) := H3.out.y.c 4
  have y6 : V.cell? ⟨j, 6, none⟩ = some (.int .u32 x.magic.toNat) := H3.out.y.c 6
  have p5 : V.cell? ⟨g, 5, none⟩ = some (.int .u8 p.c.can.toNat) := H3.out.p.c 5
  have p15 : V.cell? ⟨g, 15, none⟩ = some (.bool p.w.hg) := H3.out.p.c 15
  have p16 : V.cell? ⟨g, 16, none⟩ = some (.int .u32 p.w.magic.toNat) := H3.out.p.c 16
  go_wp2_with fail
  clear hV hj c0 c1 z0 z1 f0 f1 y1 y4 y6 p5 p15 p16
  refine (HK.out _).mono ?_
  rintro e w3 ⟨rfl, hb3⟩
  have H4 := Lib.hid (H3.out.callee hb3)
  clear hb3 HK H3
  have c0 : w3.cell? ⟨w.heap.size, 0, none⟩ = some (.int .u8 o.1.toNat) := H4.out.o.c0
  have c1 : w3.cell? ⟨w.heap.size, 1, none⟩ = some (.string o.2) := H4.out.o.c1
  have z0 : w3.cell? ⟨w.heap.size + 1, 0, none⟩ = some (.int .u8 0) := H4.out.z.c0
  have z1 : w3.cell? ⟨w.heap.size + 1, 1, none⟩ = some (.string ⟨#[]⟩) := H4.out.z.c1
  have f0 : w3.frozen? ⟨w.heap.size + 1, 0, none⟩ = false := Blk.frozen H4.out.z 0
  have f1 : w3.frozen? ⟨w.heap.size + 1, 1, none⟩ = false := Blk.frozen H4.out.z 1
  have y1 : w3.cell? ⟨j, 1, none⟩ = some (.int .u16 x.mru.toNat) := H4.out.y.c 1
  have y4 : w3.cell? ⟨j, 4, none⟩ = some (.int .u8 x.auth.toNat) := H4.out.y.c 4
  have y6 : w3.cell? ⟨j, 6, none⟩ = some (.int .u32 x.magic.toNat) := H4.out.y.c 6
  have p5 : w3.cell? ⟨g, 5, none⟩ = some (.int .u8 p.c.can.toNat) := H4.out.p.c 5
  have p15 : w3.cell? ⟨g, 15, none⟩ = some (.bool p.w.hg) := H4.out.p.c 15
  have p16 : w3.cell? ⟨g, 16, none⟩ = some (.int .u32 p.w.magic.toNat) := H4.out.p.c 16
  go_wp2_with fail
  have HBq : Hid (∀ q : HeldW (fun w' => Os w g p o j x w'), Calls Tryz.prog 43 #[.int .u8 x.auth.toNat] q.w fun e w' => e = .returned (.int .u8 x.auth.toNat) ∧ Os w g p o j x w') := fun q => (rbit_any x.auth HA2.out q.w).mono fun e w' ⟨he, hw⟩ => ⟨he, hw ▸ q.h⟩
  clear c0 c1 z0 z1 f0 f1 y1 y4 y6 p5 p15 p16
  have c0 : ∀ q : HeldW (fun w' => Os w g p o j x w'), q.w.cell? ⟨w.heap.size, 0, none⟩ = some (.int .u8 o.1.toNat) := fun q => q.h.o.c0
  have y4 : ∀ q : HeldW (fun w' => Os w g p o j x w'), q.w.cell? ⟨j, 4, none⟩ = some (.int .u8 x.auth.toNat) := fun q => q.h.y.c 4
  have y6 : ∀ q : HeldW (fun w' => Os w g p o j x w'), q.w.cell? ⟨j, 6, none⟩ = some (.int .u32 x.magic.toNat) := fun q => q.h.y.c 6
  have p5 : ∀ q : HeldW (fun w' => Os w g p o j x w'), q.w.cell? ⟨g, 5, none⟩ = some (.int .u8 p.c.can.toNat) := fun q => q.h.p.c 5
  have p15 : ∀ q : HeldW (fun w' => Os w g p o j x w'), q.w.cell? ⟨g, 15, none⟩ = some (.bool p.w.hg) := fun q => q.h.p.c 15
  have p16 : ∀ q : HeldW (fun w' => Os w g p o j x w'), q.w.cell? ⟨g, 16, none⟩ = some (.int .u32 p.w.magic.toNat) := fun q => q.h.p.c 16
  have hne : Nonempty (HeldW (fun w' => Os w g p o j x w')) := ⟨⟨w3.drew, H4.out.drew⟩⟩
  refine wp_region_quiet_shut (fun w' => Os w g p o j x w') (by kernel_rfl) (by kernel_rfl) H4.out.drew (fun G hst hnil => ?_)
  repeat (
    refine hst.out _ _ _ (fun K hK => ?_)
    go_simp
    first
      | (refine hK _ ?_; clear hK K)
      | (apply Exists.intro
         refine ⟨fun _ => ?_, hK _ ?_⟩
         (first
           | (go_at_call 43; exact held_of (HBq.out _)))
         clear hK K))
  refine hnil.out _ (fun q => ?_)
  clear hnil hst
  have HQ := Lib.hid q.h
  clear c0 y4 y6 p5 p15 p16 hne
  have c0 : q.w.cell? ⟨w.heap.size, 0, none⟩ = some (.int .u8 o.1.toNat) := HQ.out.o.c0
  have c1 : q.w.cell? ⟨w.heap.size, 1, none⟩ = some (.string o.2) := HQ.out.o.c1
  have z0 : q.w.cell? ⟨w.heap.size + 1, 0, none⟩ = some (.int .u8 0) := HQ.out.z.c0
  have z1 : q.w.cell? ⟨w.heap.size + 1, 1, none⟩ = some (.string ⟨#[]⟩) := HQ.out.z.c1
  have f0 : q.w.frozen? ⟨w.heap.size + 1, 0, none⟩ = false := Blk.frozen HQ.out.z 0
  have f1 : q.w.frozen? ⟨w.heap.size + 1, 1, none⟩ = false := Blk.frozen HQ.out.z 1
  have y1 : q.w.cell? ⟨j, 1, none⟩ = some (.int .u16 x.mru.toNat) := HQ.out.y.c 1
  have y4 : q.w.cell? ⟨j, 4, none⟩ = some (.int .u8 x.auth.toNat) := HQ.out.y.c 4
  have y6 : q.w.cell? ⟨j, 6, none⟩ = some (.int .u32 x.magic.toNat) := HQ.out.y.c 6
  have p5 : q.w.cell? ⟨g, 5, none⟩ = some (.int .u8 p.c.can.toNat) := HQ.out.p.c 5
  have p15 : q.w.cell? ⟨g, 15, none⟩ = some (.bool p.w.hg) := HQ.out.p.c 15
  have p16 : q.w.cell? ⟨g, 16, none⟩ = some (.int .u32 p.w.magic.toNat) := HQ.out.p.c 16
  cases h2 : (p.c.can &&& 2 != 0)
  · rw [h2] at u2
    have HOn : Hid (∀ w, Calls Tryz.prog 112 #[.agg #[Value.bool false, .int .u16 0, .bool false, .int .u32 0, .int .u8 1, .bool false, .int .u32 0, .bool false, .bool false]] w fun e w' => e = .returned (.agg #[.int .u8 3, .string (authD 1)]) ∧ Below w.heap.size w w') := hO_auth 1 (by decide)
    replace HE : Hid (kO p o = 1 ∧ xO p o = (3, authD 1)) := by have h := HE.out; unfold kd at h; rw [h2] at h; exact h
    generalize authD 1 = ad at *
    clear h2
    go_wp2_with fail
    clear c0 c1 z0 z1 f0 f1 y1 y4 y6 p5 p15 p16
    refine (HOn.out _).mono ?_
    rintro e w8 ⟨rfl, hb8⟩
    have H8 := Lib.hid (HQ.out.callee hb8)
    clear hb8 HQ HOn
    have c0 : w8.cell? ⟨w.heap.size, 0, none⟩ = some (.int .u8 o.1.toNat) := H8.out.o.c0
    have c1 : w8.cell? ⟨w.heap.size, 1, none⟩ = some (.string o.2) := H8.out.o.c1
    have z0 : w8.cell? ⟨w.heap.size + 1, 0, none⟩ = some (.int .u8 0) := H8.out.z.c0
    have z1 : w8.cell? ⟨w.heap.size + 1, 1, none⟩ = some (.string ⟨#[]⟩) := H8.out.z.c1
    have f0 : w8.frozen? ⟨w.heap.size + 1, 0, none⟩ = false := Blk.frozen H8.out.z 0
    have f1 : w8.frozen? ⟨w.heap.size + 1, 1, none⟩ = false := Blk.frozen H8.out.z 1
    have y1 : w8.cell? ⟨j, 1, none⟩ = some (.int .u16 x.mru.toNat) := H8.out.y.c 1
    have y4 : w8.cell? ⟨j, 4, none⟩ = some (.int .u8 x.auth.toNat) := H8.out.y.c 4
    have y6 : w8.cell? ⟨j, 6, none⟩ = some (.int .u32 x.magic.toNat) := H8.out.y.c 6
    have p5 : w8.cell? ⟨g, 5, none⟩ = some (.int .u8 p.c.can.toNat) := H8.out.p.c 5
    have p15 : w8.cell? ⟨g, 15, none⟩ = some (.bool p.w.hg) := H8.out.p.c 15
    have p16 : w8.cell? ⟨g, 16, none⟩ = some (.int .u32 p.w.magic.toNat) := H8.out.p.c 16
    go_wp2
    (try simp only [Exit.inBlock, Exit.then])
    refine bodyPost_ret (results_row0 rfl _ _ (w.heap.size + 1) _ _ _ rfl (H8.out.z.set (3, ad)) Tryz.underlying51 rfl (by kernel_rfl)) rfl ?_
    unfold OneQ
    rw [HE.out.1, HE.out.2]
    exact ⟨rfl, (H8.out.B.setCell (p := ⟨w.heap.size + 1, 0, none⟩) (Nat.le_succ _) _).setCell (p := ⟨w.heap.size + 1, 1, none⟩) (Nat.le_succ _) _⟩
  · rw [h2] at u2
    have HOn : Hid (∀ w, Calls Tryz.prog 112 #[.agg #[Value.bool false, .int .u16 0, .bool false, .int .u32 0, .int .u8 2, .bool false, .int .u32 0, .bool false, .bool false]] w fun e w' => e = .returned (.agg #[.int .u8 3, .string (authD 2)]) ∧ Below w.heap.size w w') := hO_auth 2 (by decide)
    replace HE : Hid (kO p o = 1 ∧ xO p o = (3, authD 2)) := by have h := HE.out; unfold kd at h; rw [h2] at h; exact h
    generalize authD 2 = ad at *
    clear h2
    go_wp2_with fail
    clear c0 c1 z0 z1 f0 f1 y1 y4 y6 p5 p15 p16
    refine (HOn.out _).mono ?_
    rintro e w8 ⟨rfl, hb8⟩
    have H8 := Lib.hid (HQ.out.callee hb8)
    clear hb8 HQ HOn
    have c0 : w8.cell? ⟨w.heap.size, 0, none⟩ = some (.int .u8 o.1.toNat) := H8.out.o.c0
    have c1 : w8.cell? ⟨w.heap.size, 1, none⟩ = some (.string o.2) := H8.out.o.c1
    have z0 : w8.cell? ⟨w.heap.size + 1, 0, none⟩ = some (.int .u8 0) := H8.out.z.c0
    have z1 : w8.cell? ⟨w.heap.size + 1, 1, none⟩ = some (.string ⟨#[]⟩) := H8.out.z.c1
    have f0 : w8.frozen? ⟨w.heap.size + 1, 0, none⟩ = false := Blk.frozen H8.out.z 0
    have f1 : w8.frozen? ⟨w.heap.size + 1, 1, none⟩ = false := Blk.frozen H8.out.z 1
    have y1 : w8.cell? ⟨j, 1, none⟩ = some (.int .u16 x.mru.toNat) := H8.out.y.c 1
    have y4 : w8.cell? ⟨j, 4, none⟩ = some (.int .u8 x.auth.toNat) := H8.out.y.c 4
    have y6 : w8.cell? ⟨j, 6, none⟩ = some (.int .u32 x.magic.toNat) := H8.out.y.c 6
    have p5 : w8.cell? ⟨g, 5, none⟩ = some (.int .u8 p.c.can.toNat) := H8.out.p.c 5
    have p15 : w8.cell? ⟨g, 15, none⟩ = some (.bool p.w.hg) := H8.out.p.c 15
    have p16 : w8.cell? ⟨g, 16, none⟩ = some (.int .u32 p.w.magic.toNat) := H8.out.p.c 16
    go_wp2
    (try simp only [Exit.inBlock, Exit.then])
    refine bodyPost_ret (results_row0 rfl _ _ (w.heap.size + 1) _ _ _ rfl (H8.out.z.set (3, ad)) Tryz.underlying51 rfl (by kernel_rfl)) rfl ?_
    unfold OneQ
    rw [HE.out.1, HE.out.2]
    exact ⟨rfl, (H8.out.B.setCell (p := ⟨w.heap.size + 1, 0, none⟩) (Nat.le_succ _) _).setCell (p := ⟨w.heap.size + 1, 1, none⟩) (Nat.le_succ _) _⟩
set_option maxHeartbeats 8000000 in
set_option maxRecDepth 100000 in
theorem one_auth_same (g : Nat) (p : Po) (o : Opt) (w : World) (h : RAt w g p) (hd : o.2.size ≤ 140737488351232) (h3 : o.1 = 3) (hc : (p.c.can == 0) = false) (hg : good o = true) (ha : (p.c.can &&& (lo o).auth == 0) = false) : Calls Tryz.prog 85 #[.pointer (some ⟨g, 0, none⟩), .agg #[.int .u8 o.1.toNat, .string o.2]] w (OneQ p o w) := by
  have HG : Hid (∀ w, Calls Tryz.prog 86 #[.agg #[.int .u8 o.1.toNat, .string o.2]] w fun e w' => e = .returned (.bool (good o)) ∧ Below w.heap.size w w') := fun w => rgood_any o.1 o.2 w
  have HS : Hid (∀ w, Calls Tryz.prog 87 #[.agg #[.int .u8 o.1.toNat, .string o.2]] w (BetQ (lo o) w)) := fun w => rsays_any o w hd
  have HK : Hid (∀ w, Calls Tryz.prog 111 #[.int .u8 o.1.toNat] w fun e w' => e = .returned (.bool (known o.1)) ∧ Below w.heap.size w w') := fun w => rknown_any o.1 w
  obtain ⟨W, hW, H0⟩ := boxOn w g p o h
  have c0 : W.cell? ⟨w.heap.size, 0, none⟩ = some (.int .u8 o.1.toNat) := H0.out.o.c0
  have c1 : W.cell? ⟨w.heap.size, 1, none⟩ = some (.string o.2) := H0.out.o.c1
  have z0 : W.cell? ⟨w.heap.size + 1, 0, none⟩ = some (.int .u8 0) := H0.out.z.c0
  have z1 : W.cell? ⟨w.heap.size + 1, 1, none⟩ = some (.string ⟨#[]⟩) := H0.out.z.c1
  have f0 : W.frozen? ⟨w.heap.size + 1, 0, none⟩ = false := Blk.frozen H0.out.z 0
  have f1 : W.frozen? ⟨w.heap.size + 1, 1, none⟩ = false := Blk.frozen H0.out.z 1
  clear h hd
  have HE := Lib.hid (auth_same h3 hc hg ha)
  have HA2 := Lib.hid ((may_iff _).1 (lo_may o)).1
  rw [show known o.1 = true from by rw [h3]; rfl] at HK
  rw [hg] at HG
  have e3 : ((o.1.toNat : Int) == 3) = true := by rw [h3]; rfl
  have n3 : ((o.1.toNat : Int) != 3) = false := by rw [h3]; rfl
  have h1 : ¬ o.1 = 1 := by rw [h3]; decide
  have e1 : ((o.1.toNat : Int) == 1) = false := u8_not (u8_isnt (n := 1) (by decide) h1)
  have n1 : ((o.1.toNat : Int) != 1) = true := by rw [bne, e1]; rfl
  have h5 : ¬ o.1 = 5 := by rw [h3]; decide
  have e5 : ((o.1.toNat : Int) == 5) = false := u8_not (u8_isnt (n := 5) (by decide) h5)
  have n5 : ((o.1.toNat : Int) != 5) = true := by rw [bne, e5]; rfl
  have cz : ((p.c.can.toNat : Int) == 0) = false := by rw [u8_eq0]; exact hc
  have ua : (bits .and .u8 (p.c.can.toNat : Int) ((lo o).auth.toNat : Int) == 0) = false := by have h := u8_bits p.c.can (lo o).auth; rw [bne, bne] at h; have h' := Bool.not_inj h; rw [h']; exact ha
  clear h1 h5 h3 hc hg ha
  generalize lo o = x at *
  go_enter Tryz.func85, Tryz.ntmps85
  go_wp2_with fail
  clear hW c0 c1 z0 z1 f0 f1
  refine (HG.out _).mono ?_
  rintro e w1 ⟨rfl, hb1⟩
  have H1 := Lib.hid (H0.out.callee hb1)
  clear hb1 HG H0
  have c0 : w1.cell? ⟨w.heap.size, 0, none⟩ = some (.int .u8 o.1.toNat) := H1.out.o.c0
  have c1 : w1.cell? ⟨w.heap.size, 1, none⟩ = some (.string o.2) := H1.out.o.c1
  have z0 : w1.cell? ⟨w.heap.size + 1, 0, none⟩ = some (.int .u8 0) := H1.out.z.c0
  have z1 : w1.cell? ⟨w.heap.size + 1, 1, none⟩ = some (.string ⟨#[]⟩) := H1.out.z.c1
  have f0 : w1.frozen? ⟨w.heap.size + 1, 0, none⟩ = false := Blk.frozen H1.out.z 0
  have f1 : w1.frozen? ⟨w.heap.size + 1, 1, none⟩ = false := Blk.frozen H1.out.z 1
  go_wp2_with fail
  clear c0 c1 z0 z1 f0 f1
  refine (HS.out _).mono ?_
  rintro e w2 ⟨rfl, hb2⟩
  have H2 := Lib.hid (H1.out.callee hb2)
  clear hb2 HS H1
  obtain ⟨V, hV, HV⟩ := boxL w2 x
  have H3 : Hid (Os w g p o w2.heap.size x V) := ⟨H2.out.o.callee HV.out.2.1, H2.out.z.callee HV.out.2.1, HV.out.1, H2.out.p.callee HV.out.2.1, H2.out.B.trans (HV.out.2.1.mono H2.out.B.size)⟩
  clear HV H2
  generalize hj : w2.heap.size = j at *
  unfold lv
  have c0 : V.cell? ⟨w.heap.size, 0, none⟩ = some (.int .u8 o.1.toNat) := H3.out.o.c0
  have c1 : V.cell? ⟨w.heap.size, 1, none⟩ = some (.string o.2) := H3.out.o.c1
  have z0 : V.cell? ⟨w.heap.size + 1, 0, none⟩ = some (.int .u8 0) := H3.out.z.c0
  have z1 : V.cell? ⟨w.heap.size + 1, 1, none⟩ = some (.string ⟨#[]⟩) := H3.out.z.c1
  have f0 : V.frozen? ⟨w.heap.size + 1, 0, none⟩ = false := Blk.frozen H3.out.z 0
  have f1 : V.frozen? ⟨w.heap.size + 1, 1, none⟩ = false := Blk.frozen H3.out.z 1
  have y1 : V.cell? ⟨j, 1, none⟩ = some (.int .u16 x.mru.toNat) := H3.out.y.c 1
  have y4 : V.cell? ⟨j, 4, none⟩ = some (.int .u8 x.auth.toNat) := H3.out.y.c 4
  have y6 : V.cell? ⟨j, 6, none⟩ = some (.int .u32 x.magic.toNat) := H3.out.y.c 6
  have p5 : V.cell? ⟨g, 5, none⟩ = some (.int .u8 p.c.can.toNat) := H3.out.p.c 5
  have p15 : V.cell? ⟨g, 15, none⟩ = some (.bool p.w.hg) := H3.out.p.c 15
  have p16 : V.cell? ⟨g, 16, none⟩ = some (.int .u32 p.w.magic.toNat) := H3.out.p.c 16
  go_wp2_with fail
  clear hV hj c0 c1 z0 z1 f0 f1 y1 y4 y6 p5 p15 p16
  refine (HK.out _).mono ?_
  rintro e w3 ⟨rfl, hb3⟩
  have H4 := Lib.hid (H3.out.callee hb3)
  clear hb3 HK H3
  have c0 : w3.cell? ⟨w.heap.size, 0, none⟩ = some (.int .u8 o.1.toNat) := H4.out.o.c0
  have c1 : w3.cell? ⟨w.heap.size, 1, none⟩ = some (.string o.2) := H4.out.o.c1
  have z0 : w3.cell? ⟨w.heap.size + 1, 0, none⟩ = some (.int .u8 0) := H4.out.z.c0
  have z1 : w3.cell? ⟨w.heap.size + 1, 1, none⟩ = some (.string ⟨#[]⟩) := H4.out.z.c1
  have f0 : w3.frozen? ⟨w.heap.size + 1, 0, none⟩ = false := Blk.frozen H4.out.z 0
  have f1 : w3.frozen? ⟨w.heap.size + 1, 1, none⟩ = false := Blk.frozen H4.out.z 1
  have y1 : w3.cell? ⟨j, 1, none⟩ = some (.int .u16 x.mru.toNat) := H4.out.y.c 1
  have y4 : w3.cell? ⟨j, 4, none⟩ = some (.int .u8 x.auth.toNat) := H4.out.y.c 4
  have y6 : w3.cell? ⟨j, 6, none⟩ = some (.int .u32 x.magic.toNat) := H4.out.y.c 6
  have p5 : w3.cell? ⟨g, 5, none⟩ = some (.int .u8 p.c.can.toNat) := H4.out.p.c 5
  have p15 : w3.cell? ⟨g, 15, none⟩ = some (.bool p.w.hg) := H4.out.p.c 15
  have p16 : w3.cell? ⟨g, 16, none⟩ = some (.int .u32 p.w.magic.toNat) := H4.out.p.c 16
  go_wp2_with fail
  have HBq : Hid (∀ q : HeldW (fun w' => Os w g p o j x w'), Calls Tryz.prog 43 #[.int .u8 x.auth.toNat] q.w fun e w' => e = .returned (.int .u8 x.auth.toNat) ∧ Os w g p o j x w') := fun q => (rbit_any x.auth HA2.out q.w).mono fun e w' ⟨he, hw⟩ => ⟨he, hw ▸ q.h⟩
  clear c0 c1 z0 z1 f0 f1 y1 y4 y6 p5 p15 p16
  have c0 : ∀ q : HeldW (fun w' => Os w g p o j x w'), q.w.cell? ⟨w.heap.size, 0, none⟩ = some (.int .u8 o.1.toNat) := fun q => q.h.o.c0
  have y4 : ∀ q : HeldW (fun w' => Os w g p o j x w'), q.w.cell? ⟨j, 4, none⟩ = some (.int .u8 x.auth.toNat) := fun q => q.h.y.c 4
  have y6 : ∀ q : HeldW (fun w' => Os w g p o j x w'), q.w.cell? ⟨j, 6, none⟩ = some (.int .u32 x.magic.toNat) := fun q => q.h.y.c 6
  have p5 : ∀ q : HeldW (fun w' => Os w g p o j x w'), q.w.cell? ⟨g, 5, none⟩ = some (.int .u8 p.c.can.toNat) := fun q => q.h.p.c 5
  have p15 : ∀ q : HeldW (fun w' => Os w g p o j x w'), q.w.cell? ⟨g, 15, none⟩ = some (.bool p.w.hg) := fun q => q.h.p.c 15
  have p16 : ∀ q : HeldW (fun w' => Os w g p o j x w'), q.w.cell? ⟨g, 16, none⟩ = some (.int .u32 p.w.magic.toNat) := fun q => q.h.p.c 16
  have hne : Nonempty (HeldW (fun w' => Os w g p o j x w')) := ⟨⟨w3.drew, H4.out.drew⟩⟩
  refine wp_region_quiet_shut (fun w' => Os w g p o j x w') (by kernel_rfl) (by kernel_rfl) H4.out.drew (fun G hst hnil => ?_)
  repeat (
    refine hst.out _ _ _ (fun K hK => ?_)
    go_simp
    first
      | (refine hK _ ?_; clear hK K)
      | (apply Exists.intro
         refine ⟨fun _ => ?_, hK _ ?_⟩
         (first
           | (go_at_call 43; exact held_of (HBq.out _)))
         clear hK K))
  refine hnil.out _ (fun q => ?_)
  clear hnil hst
  have HQ := Lib.hid q.h
  clear c0 y4 y6 p5 p15 p16 hne
  obtain ⟨w5, hq_⟩ : ∃ W, q.w = W := ⟨_, rfl⟩
  rw [hq_] at HQ ⊢
  have H5 := HQ
  clear hq_ HQ HBq
  have c0 : w5.cell? ⟨w.heap.size, 0, none⟩ = some (.int .u8 o.1.toNat) := H5.out.o.c0
  have c1 : w5.cell? ⟨w.heap.size, 1, none⟩ = some (.string o.2) := H5.out.o.c1
  have z0 : w5.cell? ⟨w.heap.size + 1, 0, none⟩ = some (.int .u8 0) := H5.out.z.c0
  have z1 : w5.cell? ⟨w.heap.size + 1, 1, none⟩ = some (.string ⟨#[]⟩) := H5.out.z.c1
  have f0 : w5.frozen? ⟨w.heap.size + 1, 0, none⟩ = false := Blk.frozen H5.out.z 0
  have f1 : w5.frozen? ⟨w.heap.size + 1, 1, none⟩ = false := Blk.frozen H5.out.z 1
  have y1 : w5.cell? ⟨j, 1, none⟩ = some (.int .u16 x.mru.toNat) := H5.out.y.c 1
  have y4 : w5.cell? ⟨j, 4, none⟩ = some (.int .u8 x.auth.toNat) := H5.out.y.c 4
  have y6 : w5.cell? ⟨j, 6, none⟩ = some (.int .u32 x.magic.toNat) := H5.out.y.c 6
  have p5 : w5.cell? ⟨g, 5, none⟩ = some (.int .u8 p.c.can.toNat) := H5.out.p.c 5
  have p15 : w5.cell? ⟨g, 15, none⟩ = some (.bool p.w.hg) := H5.out.p.c 15
  have p16 : w5.cell? ⟨g, 16, none⟩ = some (.int .u32 p.w.magic.toNat) := H5.out.p.c 16
  go_wp2_with fail
  clear c0 c1 z0 z1 f0 f1 y1 y4 y6 p5 p15 p16
  have c0 : ∀ q : HeldW (fun w' => Os w g p o j x w'), q.w.cell? ⟨w.heap.size, 0, none⟩ = some (.int .u8 o.1.toNat) := fun q => q.h.o.c0
  have y4 : ∀ q : HeldW (fun w' => Os w g p o j x w'), q.w.cell? ⟨j, 4, none⟩ = some (.int .u8 x.auth.toNat) := fun q => q.h.y.c 4
  have y6 : ∀ q : HeldW (fun w' => Os w g p o j x w'), q.w.cell? ⟨j, 6, none⟩ = some (.int .u32 x.magic.toNat) := fun q => q.h.y.c 6
  have p5 : ∀ q : HeldW (fun w' => Os w g p o j x w'), q.w.cell? ⟨g, 5, none⟩ = some (.int .u8 p.c.can.toNat) := fun q => q.h.p.c 5
  have p15 : ∀ q : HeldW (fun w' => Os w g p o j x w'), q.w.cell? ⟨g, 15, none⟩ = some (.bool p.w.hg) := fun q => q.h.p.c 15
  have p16 : ∀ q : HeldW (fun w' => Os w g p o j x w'), q.w.cell? ⟨g, 16, none⟩ = some (.int .u32 p.w.magic.toNat) := fun q => q.h.p.c 16
  have hne : Nonempty (HeldW (fun w' => Os w g p o j x w')) := ⟨⟨w5.drew, H5.out.drew⟩⟩
  refine wp_region_quiet_shut (fun w' => Os w g p o j x w') (by kernel_rfl) (by kernel_rfl) H5.out.drew (fun G hst hnil => ?_)
  repeat (
    refine hst.out _ _ _ (fun K hK => ?_)
    go_simp
    first
      | (refine hK _ ?_; clear hK K)
      | (apply Exists.intro
         refine ⟨fun _ => ?_, hK _ ?_⟩
         fail
         clear hK K))
  refine hnil.out _ (fun q => ?_)
  clear hnil hst
  have HQ := Lib.hid q.h
  clear c0 y4 y6 p5 p15 p16 hne
  obtain ⟨w6, hq_⟩ : ∃ W, q.w = W := ⟨_, rfl⟩
  rw [hq_] at HQ ⊢
  have H6 := HQ
  clear hq_ HQ
  have c0 : w6.cell? ⟨w.heap.size, 0, none⟩ = some (.int .u8 o.1.toNat) := H6.out.o.c0
  have c1 : w6.cell? ⟨w.heap.size, 1, none⟩ = some (.string o.2) := H6.out.o.c1
  have z0 : w6.cell? ⟨w.heap.size + 1, 0, none⟩ = some (.int .u8 0) := H6.out.z.c0
  have z1 : w6.cell? ⟨w.heap.size + 1, 1, none⟩ = some (.string ⟨#[]⟩) := H6.out.z.c1
  have f0 : w6.frozen? ⟨w.heap.size + 1, 0, none⟩ = false := Blk.frozen H6.out.z 0
  have f1 : w6.frozen? ⟨w.heap.size + 1, 1, none⟩ = false := Blk.frozen H6.out.z 1
  have y1 : w6.cell? ⟨j, 1, none⟩ = some (.int .u16 x.mru.toNat) := H6.out.y.c 1
  have y4 : w6.cell? ⟨j, 4, none⟩ = some (.int .u8 x.auth.toNat) := H6.out.y.c 4
  have y6 : w6.cell? ⟨j, 6, none⟩ = some (.int .u32 x.magic.toNat) := H6.out.y.c 6
  have p5 : w6.cell? ⟨g, 5, none⟩ = some (.int .u8 p.c.can.toNat) := H6.out.p.c 5
  have p15 : w6.cell? ⟨g, 15, none⟩ = some (.bool p.w.hg) := H6.out.p.c 15
  have p16 : w6.cell? ⟨g, 16, none⟩ = some (.int .u32 p.w.magic.toNat) := H6.out.p.c 16
  go_wp2_with fail
  go_region
  go_wp2
  (try simp only [Exit.inBlock, Exit.then])
  refine bodyPost_ret (results_row0 rfl _ _ (w.heap.size + 1) _ _ _ rfl (H6.out.drew.z.set (o)) Tryz.underlying51 rfl (by kernel_rfl)) rfl ?_
  unfold OneQ
  rw [HE.out.1, HE.out.2]
  exact ⟨rfl, (H6.out.drew.B.setCell (p := ⟨w.heap.size + 1, 0, none⟩) (Nat.le_succ _) _).setCell (p := ⟨w.heap.size + 1, 1, none⟩) (Nat.le_succ _) _⟩
end Go.Proofs.YtpohcejgblahiaaGreat.Pol

/- The document's one, further cases. Written by gen/pol_qc.py. -/
set_option linter.unusedSimpArgs false
set_option linter.unusedVariables false
namespace Go.Proofs.YtpohcejgblahiaaGreat.Pol
open Go.RowKit Go.Proofs.YtpohcejgblahiaaGreat.Oct Go.Proofs.YtpohcejgblahiaaGreat.Row Go.Proofs.YtpohcejgblahiaaGreat.Mem Go.Proofs.YtpohcejgblahiaaGreat.Opt Go.Proofs.YtpohcejgblahiaaGreat.Lco

set_option maxHeartbeats 8000000 in
set_option maxRecDepth 100000 in
theorem one_magic_same (g : Nat) (p : Po) (o : Opt) (w : World) (h : RAt w g p) (hd : o.2.size ≤ 140737488351232) (h5 : o.1 = 5) (hg : good o = true) (hz : ((lo o).magic == 0) = false) (ho : (p.w.hg && (lo o).magic == p.w.magic) = false) : Calls Tryz.prog 85 #[.pointer (some ⟨g, 0, none⟩), .agg #[.int .u8 o.1.toNat, .string o.2]] w (OneQ p o w) := by
  have HG : Hid (∀ w, Calls Tryz.prog 86 #[.agg #[.int .u8 o.1.toNat, .string o.2]] w fun e w' => e = .returned (.bool (good o)) ∧ Below w.heap.size w w') := fun w => rgood_any o.1 o.2 w
  have HS : Hid (∀ w, Calls Tryz.prog 87 #[.agg #[.int .u8 o.1.toNat, .string o.2]] w (BetQ (lo o) w)) := fun w => rsays_any o w hd
  have HK : Hid (∀ w, Calls Tryz.prog 111 #[.int .u8 o.1.toNat] w fun e w' => e = .returned (.bool (known o.1)) ∧ Below w.heap.size w w') := fun w => rknown_any o.1 w
  obtain ⟨W, hW, H0⟩ := boxOn w g p o h
  have c0 : W.cell? ⟨w.heap.size, 0, none⟩ = some (.int .u8 o.1.toNat) := H0.out.o.c0
  have c1 : W.cell? ⟨w.heap.size, 1, none⟩ = some (.string o.2) := H0.out.o.c1
  have z0 : W.cell? ⟨w.heap.size + 1, 0, none⟩ = some (.int .u8 0) := H0.out.z.c0
  have z1 : W.cell? ⟨w.heap.size + 1, 1, none⟩ = some (.string ⟨#[]⟩) := H0.out.z.c1
  have f0 : W.frozen? ⟨w.heap.size + 1, 0, none⟩ = false := Blk.frozen H0.out.z 0
  have f1 : W.frozen? ⟨w.heap.size + 1, 1, none⟩ = false := Blk.frozen H0.out.z 1
  clear h hd
  rw [good_known hg] at HK
  rw [hg] at HG
  have h3 : ¬ o.1 = 3 := by rw [h5]; decide
  have e3 : ((o.1.toNat : Int) == 3) = false := u8_not (u8_isnt (n := 3) (by decide) h3)
  have n3 : ((o.1.toNat : Int) != 3) = true := by rw [bne, e3]; rfl
  have h1 : ¬ o.1 = 1 := by rw [h5]; decide
  have e1 : ((o.1.toNat : Int) == 1) = false := u8_not (u8_isnt (n := 1) (by decide) h1)
  have n1 : ((o.1.toNat : Int) != 1) = true := by rw [bne, e1]; rfl
  have e5 : ((o.1.toNat : Int) == 5) = true := by rw [h5]; rfl
  have n5 : ((o.1.toNat : Int) != 5) = false := by rw [h5]; rfl
  have mz : (((lo o).magic.toNat : Int) == 0) = ((lo o).magic == 0) := u32_eq0 _
  have mo : (((lo o).magic.toNat : Int) == (p.w.magic.toNat : Int)) = ((lo o).magic == p.w.magic) := u32_eqq _ _
  have mn : (bits .xor .u32 (if IntKind.u32.signed = true then -1 else IntKind.u32.max) ((lo o).magic.toNat : Int) == (p.w.magic.toNat : Int)) = (~~~ (lo o).magic == p.w.magic) := by show (bits .xor .u32 IntKind.u32.max ((lo o).magic.toNat : Int) == (p.w.magic.toNat : Int)) = _; rw [u32_not]; exact u32_eqq _ _
  have HE := Lib.hid (magic_same (p := p) h5 hg hz ho)
  rw [hz] at mz
  have HH : Hid (∀ b : Bool, (p.w.hg && b) = false → p.w.hg = true → b = false) := fun b h1 h2 => by rw [h2] at h1; exact h1
  cases hgw : p.w.hg
  · clear h1 h3 h5 hg hz ho mn mo
    generalize lo o = x at *
    go_enter Tryz.func85, Tryz.ntmps85
    go_wp2_with fail
    clear hW c0 c1 z0 z1 f0 f1
    refine (HG.out _).mono ?_
    rintro e w1 ⟨rfl, hb1⟩
    have H1 := Lib.hid (H0.out.callee hb1)
    clear hb1 HG H0
    have c0 : w1.cell? ⟨w.heap.size, 0, none⟩ = some (.int .u8 o.1.toNat) := H1.out.o.c0
    have c1 : w1.cell? ⟨w.heap.size, 1, none⟩ = some (.string o.2) := H1.out.o.c1
    have z0 : w1.cell? ⟨w.heap.size + 1, 0, none⟩ = some (.int .u8 0) := H1.out.z.c0
    have z1 : w1.cell? ⟨w.heap.size + 1, 1, none⟩ = some (.string ⟨#[]⟩) := H1.out.z.c1
    have f0 : w1.frozen? ⟨w.heap.size + 1, 0, none⟩ = false := Blk.frozen H1.out.z 0
    have f1 : w1.frozen? ⟨w.heap.size + 1, 1, none⟩ = false := Blk.frozen H1.out.z 1
    go_wp2_with fail
    clear c0 c1 z0 z1 f0 f1
    refine (HS.out _).mono ?_
    rintro e w2 ⟨rfl, hb2⟩
    have H2 := Lib.hid (H1.out.callee hb2)
    clear hb2 HS H1
    obtain ⟨V, hV, HV⟩ := boxL w2 x
    have H3 : Hid (Os w g p o w2.heap.size x V) := ⟨H2.out.o.callee HV.out.2.1, H2.out.z.callee HV.out.2.1, HV.out.1, H2.out.p.callee HV.out.2.1, H2.out.B.trans (HV.out.2.1.mono H2.out.B.size)⟩
    clear HV H2
    generalize hj : w2.heap.size = j at *
    unfold lv
    have c0 : V.cell? ⟨w.heap.size, 0, none⟩ = some (.int .u8 o.1.toNat) := H3.out.o.c0
    have c1 : V.cell? ⟨w.heap.size, 1, none⟩ = some (.string o.2) := H3.out.o.c1
    have z0 : V.cell? ⟨w.heap.size + 1, 0, none⟩ = some (.int .u8 0) := H3.out.z.c0
    have z1 : V.cell? ⟨w.heap.size + 1, 1, none⟩ = some (.string ⟨#[]⟩) := H3.out.z.c1
    have f0 : V.frozen? ⟨w.heap.size + 1, 0, none⟩ = false := Blk.frozen H3.out.z 0
    have f1 : V.frozen? ⟨w.heap.size + 1, 1, none⟩ = false := Blk.frozen H3.out.z 1
    have y1 : V.cell? ⟨j, 1, none⟩ = some (.int .u16 x.mru.toNat) := H3.out.y.c 1
    have y4 : V.cell? ⟨j, 4, none⟩ = some (.int .u8 x.auth.toNat) := H3.out.y.c 4
    have y6 : V.cell? ⟨j, 6, none⟩ = some (.int .u32 x.magic.toNat) := H3.out.y.c 6
    have p5 : V.cell? ⟨g, 5, none⟩ = some (.int .u8 p.c.can.toNat) := H3.out.p.c 5
    have p15 : V.cell? ⟨g, 15, none⟩ = some (.bool p.w.hg) := H3.out.p.c 15
    have p16 : V.cell? ⟨g, 16, none⟩ = some (.int .u32 p.w.magic.toNat) := H3.out.p.c 16
    go_wp2_with fail
    clear hV hj c0 c1 z0 z1 f0 f1 y1 y4 y6 p5 p15 p16
    refine (HK.out _).mono ?_
    rintro e w3 ⟨rfl, hb3⟩
    have H4 := Lib.hid (H3.out.callee hb3)
    clear hb3 HK H3
    have c0 : w3.cell? ⟨w.heap.size, 0, none⟩ = some (.int .u8 o.1.toNat) := H4.out.o.c0
    have c1 : w3.cell? ⟨w.heap.size, 1, none⟩ = some (.string o.2) := H4.out.o.c1
    have z0 : w3.cell? ⟨w.heap.size + 1, 0, none⟩ = some (.int .u8 0) := H4.out.z.c0
    have z1 : w3.cell? ⟨w.heap.size + 1, 1, none⟩ = some (.string ⟨#[]⟩) := H4.out.z.c1
    have f0 : w3.frozen? ⟨w.heap.size + 1, 0, none⟩ = false := Blk.frozen H4.out.z 0
    have f1 : w3.frozen? ⟨w.heap.size + 1, 1, none⟩ = false := Blk.frozen H4.out.z 1
    have y1 : w3.cell? ⟨j, 1, none⟩ = some (.int .u16 x.mru.toNat) := H4.out.y.c 1
    have y4 : w3.cell? ⟨j, 4, none⟩ = some (.int .u8 x.auth.toNat) := H4.out.y.c 4
    have y6 : w3.cell? ⟨j, 6, none⟩ = some (.int .u32 x.magic.toNat) := H4.out.y.c 6
    have p5 : w3.cell? ⟨g, 5, none⟩ = some (.int .u8 p.c.can.toNat) := H4.out.p.c 5
    have p15 : w3.cell? ⟨g, 15, none⟩ = some (.bool p.w.hg) := H4.out.p.c 15
    have p16 : w3.cell? ⟨g, 16, none⟩ = some (.int .u32 p.w.magic.toNat) := H4.out.p.c 16
    go_wp2_with fail
    clear c0 c1 z0 z1 f0 f1 y1 y4 y6 p5 p15 p16
    have c0 : ∀ q : HeldW (fun w' => Os w g p o j x w'), q.w.cell? ⟨w.heap.size, 0, none⟩ = some (.int .u8 o.1.toNat) := fun q => q.h.o.c0
    have y4 : ∀ q : HeldW (fun w' => Os w g p o j x w'), q.w.cell? ⟨j, 4, none⟩ = some (.int .u8 x.auth.toNat) := fun q => q.h.y.c 4
    have y6 : ∀ q : HeldW (fun w' => Os w g p o j x w'), q.w.cell? ⟨j, 6, none⟩ = some (.int .u32 x.magic.toNat) := fun q => q.h.y.c 6
    have p5 : ∀ q : HeldW (fun w' => Os w g p o j x w'), q.w.cell? ⟨g, 5, none⟩ = some (.int .u8 p.c.can.toNat) := fun q => q.h.p.c 5
    have p15 : ∀ q : HeldW (fun w' => Os w g p o j x w'), q.w.cell? ⟨g, 15, none⟩ = some (.bool p.w.hg) := fun q => q.h.p.c 15
    have p16 : ∀ q : HeldW (fun w' => Os w g p o j x w'), q.w.cell? ⟨g, 16, none⟩ = some (.int .u32 p.w.magic.toNat) := fun q => q.h.p.c 16
    have hne : Nonempty (HeldW (fun w' => Os w g p o j x w')) := ⟨⟨w3.drew, H4.out.drew⟩⟩
    refine wp_region_quiet_shut (fun w' => Os w g p o j x w') (by kernel_rfl) (by kernel_rfl) H4.out.drew (fun G hst hnil => ?_)
    repeat (
      refine hst.out _ _ _ (fun K hK => ?_)
      go_simp
      first
        | (refine hK _ ?_; clear hK K)
        | (apply Exists.intro
           refine ⟨fun _ => ?_, hK _ ?_⟩
           fail
           clear hK K))
    refine hnil.out _ (fun q => ?_)
    clear hnil hst
    have HQ := Lib.hid q.h
    clear c0 y4 y6 p5 p15 p16 hne
    obtain ⟨w5, hq_⟩ : ∃ W, q.w = W := ⟨_, rfl⟩
    rw [hq_] at HQ ⊢
    have H5 := HQ
    clear hq_ HQ
    have c0 : w5.cell? ⟨w.heap.size, 0, none⟩ = some (.int .u8 o.1.toNat) := H5.out.o.c0
    have c1 : w5.cell? ⟨w.heap.size, 1, none⟩ = some (.string o.2) := H5.out.o.c1
    have z0 : w5.cell? ⟨w.heap.size + 1, 0, none⟩ = some (.int .u8 0) := H5.out.z.c0
    have z1 : w5.cell? ⟨w.heap.size + 1, 1, none⟩ = some (.string ⟨#[]⟩) := H5.out.z.c1
    have f0 : w5.frozen? ⟨w.heap.size + 1, 0, none⟩ = false := Blk.frozen H5.out.z 0
    have f1 : w5.frozen? ⟨w.heap.size + 1, 1, none⟩ = false := Blk.frozen H5.out.z 1
    have y1 : w5.cell? ⟨j, 1, none⟩ = some (.int .u16 x.mru.toNat) := H5.out.y.c 1
    have y4 : w5.cell? ⟨j, 4, none⟩ = some (.int .u8 x.auth.toNat) := H5.out.y.c 4
    have y6 : w5.cell? ⟨j, 6, none⟩ = some (.int .u32 x.magic.toNat) := H5.out.y.c 6
    have p5 : w5.cell? ⟨g, 5, none⟩ = some (.int .u8 p.c.can.toNat) := H5.out.p.c 5
    have p15 : w5.cell? ⟨g, 15, none⟩ = some (.bool false) := by rw [← hgw]; exact H5.out.p.c 15
    have p16 : w5.cell? ⟨g, 16, none⟩ = some (.int .u32 p.w.magic.toNat) := H5.out.p.c 16
    go_wp2_with fail
    clear c0 c1 z0 z1 f0 f1 y1 y4 y6 p5 p15 p16
    have c0 : ∀ q : HeldW (fun w' => Os w g p o j x w'), q.w.cell? ⟨w.heap.size, 0, none⟩ = some (.int .u8 o.1.toNat) := fun q => q.h.o.c0
    have y4 : ∀ q : HeldW (fun w' => Os w g p o j x w'), q.w.cell? ⟨j, 4, none⟩ = some (.int .u8 x.auth.toNat) := fun q => q.h.y.c 4
    have y6 : ∀ q : HeldW (fun w' => Os w g p o j x w'), q.w.cell? ⟨j, 6, none⟩ = some (.int .u32 x.magic.toNat) := fun q => q.h.y.c 6
    have p5 : ∀ q : HeldW (fun w' => Os w g p o j x w'), q.w.cell? ⟨g, 5, none⟩ = some (.int .u8 p.c.can.toNat) := fun q => q.h.p.c 5
    have p15 : ∀ q : HeldW (fun w' => Os w g p o j x w'), q.w.cell? ⟨g, 15, none⟩ = some (.bool false) := fun q => by rw [← hgw]; exact q.h.p.c 15
    have p16 : ∀ q : HeldW (fun w' => Os w g p o j x w'), q.w.cell? ⟨g, 16, none⟩ = some (.int .u32 p.w.magic.toNat) := fun q => q.h.p.c 16
    have hne : Nonempty (HeldW (fun w' => Os w g p o j x w')) := ⟨⟨w5.drew, H5.out.drew⟩⟩
    refine wp_region_quiet_shut (fun w' => Os w g p o j x w') (by kernel_rfl) (by kernel_rfl) H5.out.drew (fun G hst hnil => ?_)
    repeat (
      refine hst.out _ _ _ (fun K hK => ?_)
      go_simp
      first
        | (refine hK _ ?_; clear hK K)
        | (apply Exists.intro
           refine ⟨fun _ => ?_, hK _ ?_⟩
           fail
           clear hK K))
    refine hnil.out _ (fun q => ?_)
    clear hnil hst
    have HQ := Lib.hid q.h
    clear c0 y4 y6 p5 p15 p16 hne
    obtain ⟨w6, hq_⟩ : ∃ W, q.w = W := ⟨_, rfl⟩
    rw [hq_] at HQ ⊢
    have H6 := HQ
    clear hq_ HQ
    have c0 : w6.cell? ⟨w.heap.size, 0, none⟩ = some (.int .u8 o.1.toNat) := H6.out.o.c0
    have c1 : w6.cell? ⟨w.heap.size, 1, none⟩ = some (.string o.2) := H6.out.o.c1
    have z0 : w6.cell? ⟨w.heap.size + 1, 0, none⟩ = some (.int .u8 0) := H6.out.z.c0
    have z1 : w6.cell? ⟨w.heap.size + 1, 1, none⟩ = some (.string ⟨#[]⟩) := H6.out.z.c1
    have f0 : w6.frozen? ⟨w.heap.size + 1, 0, none⟩ = false := Blk.frozen H6.out.z 0
    have f1 : w6.frozen? ⟨w.heap.size + 1, 1, none⟩ = false := Blk.frozen H6.out.z 1
    have y1 : w6.cell? ⟨j, 1, none⟩ = some (.int .u16 x.mru.toNat) := H6.out.y.c 1
    have y4 : w6.cell? ⟨j, 4, none⟩ = some (.int .u8 x.auth.toNat) := H6.out.y.c 4
    have y6 : w6.cell? ⟨j, 6, none⟩ = some (.int .u32 x.magic.toNat) := H6.out.y.c 6
    have p5 : w6.cell? ⟨g, 5, none⟩ = some (.int .u8 p.c.can.toNat) := H6.out.p.c 5
    have p15 : w6.cell? ⟨g, 15, none⟩ = some (.bool p.w.hg) := H6.out.p.c 15
    have p16 : w6.cell? ⟨g, 16, none⟩ = some (.int .u32 p.w.magic.toNat) := H6.out.p.c 16
    go_wp2_with fail
    go_region
    go_wp2
    (try simp only [Exit.inBlock, Exit.then])
    refine bodyPost_ret (results_row0 rfl _ _ (w.heap.size + 1) _ _ _ rfl (H6.out.drew.z.set (o)) Tryz.underlying51 rfl (by kernel_rfl)) rfl ?_
    unfold OneQ
    rw [HE.out.1, HE.out.2]
    exact ⟨rfl, (H6.out.drew.B.setCell (p := ⟨w.heap.size + 1, 0, none⟩) (Nat.le_succ _) _).setCell (p := ⟨w.heap.size + 1, 1, none⟩) (Nat.le_succ _) _⟩
  · rw [show ((lo o).magic == p.w.magic) = false from HH.out _ ho hgw] at mo
    clear h1 h3 h5 hg hz ho mn HH
    generalize lo o = x at *
    go_enter Tryz.func85, Tryz.ntmps85
    go_wp2_with fail
    clear hW c0 c1 z0 z1 f0 f1
    refine (HG.out _).mono ?_
    rintro e w1 ⟨rfl, hb1⟩
    have H1 := Lib.hid (H0.out.callee hb1)
    clear hb1 HG H0
    have c0 : w1.cell? ⟨w.heap.size, 0, none⟩ = some (.int .u8 o.1.toNat) := H1.out.o.c0
    have c1 : w1.cell? ⟨w.heap.size, 1, none⟩ = some (.string o.2) := H1.out.o.c1
    have z0 : w1.cell? ⟨w.heap.size + 1, 0, none⟩ = some (.int .u8 0) := H1.out.z.c0
    have z1 : w1.cell? ⟨w.heap.size + 1, 1, none⟩ = some (.string ⟨#[]⟩) := H1.out.z.c1
    have f0 : w1.frozen? ⟨w.heap.size + 1, 0, none⟩ = false := Blk.frozen H1.out.z 0
    have f1 : w1.frozen? ⟨w.heap.size + 1, 1, none⟩ = false := Blk.frozen H1.out.z 1
    go_wp2_with fail
    clear c0 c1 z0 z1 f0 f1
    refine (HS.out _).mono ?_
    rintro e w2 ⟨rfl, hb2⟩
    have H2 := Lib.hid (H1.out.callee hb2)
    clear hb2 HS H1
    obtain ⟨V, hV, HV⟩ := boxL w2 x
    have H3 : Hid (Os w g p o w2.heap.size x V) := ⟨H2.out.o.callee HV.out.2.1, H2.out.z.callee HV.out.2.1, HV.out.1, H2.out.p.callee HV.out.2.1, H2.out.B.trans (HV.out.2.1.mono H2.out.B.size)⟩
    clear HV H2
    generalize hj : w2.heap.size = j at *
    unfold lv
    have c0 : V.cell? ⟨w.heap.size, 0, none⟩ = some (.int .u8 o.1.toNat) := H3.out.o.c0
    have c1 : V.cell? ⟨w.heap.size, 1, none⟩ = some (.string o.2) := H3.out.o.c1
    have z0 : V.cell? ⟨w.heap.size + 1, 0, none⟩ = some (.int .u8 0) := H3.out.z.c0
    have z1 : V.cell? ⟨w.heap.size + 1, 1, none⟩ = some (.string ⟨#[]⟩) := H3.out.z.c1
    have f0 : V.frozen? ⟨w.heap.size + 1, 0, none⟩ = false := Blk.frozen H3.out.z 0
    have f1 : V.frozen? ⟨w.heap.size + 1, 1, none⟩ = false := Blk.frozen H3.out.z 1
    have y1 : V.cell? ⟨j, 1, none⟩ = some (.int .u16 x.mru.toNat) := H3.out.y.c 1
    have y4 : V.cell? ⟨j, 4, none⟩ = some (.int .u8 x.auth.toNat) := H3.out.y.c 4
    have y6 : V.cell? ⟨j, 6, none⟩ = some (.int .u32 x.magic.toNat) := H3.out.y.c 6
    have p5 : V.cell? ⟨g, 5, none⟩ = some (.int .u8 p.c.can.toNat) := H3.out.p.c 5
    have p15 : V.cell? ⟨g, 15, none⟩ = some (.bool p.w.hg) := H3.out.p.c 15
    have p16 : V.cell? ⟨g, 16, none⟩ = some (.int .u32 p.w.magic.toNat) := H3.out.p.c 16
    go_wp2_with fail
    clear hV hj c0 c1 z0 z1 f0 f1 y1 y4 y6 p5 p15 p16
    refine (HK.out _).mono ?_
    rintro e w3 ⟨rfl, hb3⟩
    have H4 := Lib.hid (H3.out.callee hb3)
    clear hb3 HK H3
    have c0 : w3.cell? ⟨w.heap.size, 0, none⟩ = some (.int .u8 o.1.toNat) := H4.out.o.c0
    have c1 : w3.cell? ⟨w.heap.size, 1, none⟩ = some (.string o.2) := H4.out.o.c1
    have z0 : w3.cell? ⟨w.heap.size + 1, 0, none⟩ = some (.int .u8 0) := H4.out.z.c0
    have z1 : w3.cell? ⟨w.heap.size + 1, 1, none⟩ = some (.string ⟨#[]⟩) := H4.out.z.c1
    have f0 : w3.frozen? ⟨w.heap.size + 1, 0, none⟩ = false := Blk.frozen H4.out.z 0
    have f1 : w3.frozen? ⟨w.heap.size + 1, 1, none⟩ = false := Blk.frozen H4.out.z 1
    have y1 : w3.cell? ⟨j, 1, none⟩ = some (.int .u16 x.mru.toNat) := H4.out.y.c 1
    have y4 : w3.cell? ⟨j, 4, none⟩ = some (.int .u8 x.auth.toNat) := H4.out.y.c 4
    have y6 : w3.cell? ⟨j, 6, none⟩ = some (.int .u32 x.magic.toNat) := H4.out.y.c 6
    have p5 : w3.cell? ⟨g, 5, none⟩ = some (.int .u8 p.c.can.toNat) := H4.out.p.c 5
    have p15 : w3.cell? ⟨g, 15, none⟩ = some (.bool p.w.hg) := H4.out.p.c 15
    have p16 : w3.cell? ⟨g, 16, none⟩ = some (.int .u32 p.w.magic.toNat) := H4.out.p.c 16
    go_wp2_with fail
    clear c0 c1 z0 z1 f0 f1 y1 y4 y6 p5 p15 p16
    have c0 : ∀ q : HeldW (fun w' => Os w g p o j x w'), q.w.cell? ⟨w.heap.size, 0, none⟩ = some (.int .u8 o.1.toNat) := fun q => q.h.o.c0
    have y4 : ∀ q : HeldW (fun w' => Os w g p o j x w'), q.w.cell? ⟨j, 4, none⟩ = some (.int .u8 x.auth.toNat) := fun q => q.h.y.c 4
    have y6 : ∀ q : HeldW (fun w' => Os w g p o j x w'), q.w.cell? ⟨j, 6, none⟩ = some (.int .u32 x.magic.toNat) := fun q => q.h.y.c 6
    have p5 : ∀ q : HeldW (fun w' => Os w g p o j x w'), q.w.cell? ⟨g, 5, none⟩ = some (.int .u8 p.c.can.toNat) := fun q => q.h.p.c 5
    have p15 : ∀ q : HeldW (fun w' => Os w g p o j x w'), q.w.cell? ⟨g, 15, none⟩ = some (.bool p.w.hg) := fun q => q.h.p.c 15
    have p16 : ∀ q : HeldW (fun w' => Os w g p o j x w'), q.w.cell? ⟨g, 16, none⟩ = some (.int .u32 p.w.magic.toNat) := fun q => q.h.p.c 16
    have hne : Nonempty (HeldW (fun w' => Os w g p o j x w')) := ⟨⟨w3.drew, H4.out.drew⟩⟩
    refine wp_region_quiet_shut (fun w' => Os w g p o j x w') (by kernel_rfl) (by kernel_rfl) H4.out.drew (fun G hst hnil => ?_)
    repeat (
      refine hst.out _ _ _ (fun K hK => ?_)
      go_simp
      first
        | (refine hK _ ?_; clear hK K)
        | (apply Exists.intro
           refine ⟨fun _ => ?_, hK _ ?_⟩
           fail
           clear hK K))
    refine hnil.out _ (fun q => ?_)
    clear hnil hst
    have HQ := Lib.hid q.h
    clear c0 y4 y6 p5 p15 p16 hne
    obtain ⟨w5, hq_⟩ : ∃ W, q.w = W := ⟨_, rfl⟩
    rw [hq_] at HQ ⊢
    have H5 := HQ
    clear hq_ HQ
    have c0 : w5.cell? ⟨w.heap.size, 0, none⟩ = some (.int .u8 o.1.toNat) := H5.out.o.c0
    have c1 : w5.cell? ⟨w.heap.size, 1, none⟩ = some (.string o.2) := H5.out.o.c1
    have z0 : w5.cell? ⟨w.heap.size + 1, 0, none⟩ = some (.int .u8 0) := H5.out.z.c0
    have z1 : w5.cell? ⟨w.heap.size + 1, 1, none⟩ = some (.string ⟨#[]⟩) := H5.out.z.c1
    have f0 : w5.frozen? ⟨w.heap.size + 1, 0, none⟩ = false := Blk.frozen H5.out.z 0
    have f1 : w5.frozen? ⟨w.heap.size + 1, 1, none⟩ = false := Blk.frozen H5.out.z 1
    have y1 : w5.cell? ⟨j, 1, none⟩ = some (.int .u16 x.mru.toNat) := H5.out.y.c 1
    have y4 : w5.cell? ⟨j, 4, none⟩ = some (.int .u8 x.auth.toNat) := H5.out.y.c 4
    have y6 : w5.cell? ⟨j, 6, none⟩ = some (.int .u32 x.magic.toNat) := H5.out.y.c 6
    have p5 : w5.cell? ⟨g, 5, none⟩ = some (.int .u8 p.c.can.toNat) := H5.out.p.c 5
    have p15 : w5.cell? ⟨g, 15, none⟩ = some (.bool true) := by rw [← hgw]; exact H5.out.p.c 15
    have p16 : w5.cell? ⟨g, 16, none⟩ = some (.int .u32 p.w.magic.toNat) := H5.out.p.c 16
    go_wp2_with fail
    clear c0 c1 z0 z1 f0 f1 y1 y4 y6 p5 p15 p16
    have c0 : ∀ q : HeldW (fun w' => Os w g p o j x w'), q.w.cell? ⟨w.heap.size, 0, none⟩ = some (.int .u8 o.1.toNat) := fun q => q.h.o.c0
    have y4 : ∀ q : HeldW (fun w' => Os w g p o j x w'), q.w.cell? ⟨j, 4, none⟩ = some (.int .u8 x.auth.toNat) := fun q => q.h.y.c 4
    have y6 : ∀ q : HeldW (fun w' => Os w g p o j x w'), q.w.cell? ⟨j, 6, none⟩ = some (.int .u32 x.magic.toNat) := fun q => q.h.y.c 6
    have p5 : ∀ q : HeldW (fun w' => Os w g p o j x w'), q.w.cell? ⟨g, 5, none⟩ = some (.int .u8 p.c.can.toNat) := fun q => q.h.p.c 5
    have p15 : ∀ q : HeldW (fun w' => Os w g p o j x w'), q.w.cell? ⟨g, 15, none⟩ = some (.bool true) := fun q => by rw [← hgw]; exact q.h.p.c 15
    have p16 : ∀ q : HeldW (fun w' => Os w g p o j x w'), q.w.cell? ⟨g, 16, none⟩ = some (.int .u32 p.w.magic.toNat) := fun q => q.h.p.c 16
    have hne : Nonempty (HeldW (fun w' => Os w g p o j x w')) := ⟨⟨w5.drew, H5.out.drew⟩⟩
    refine wp_region_quiet_shut (fun w' => Os w g p o j x w') (by kernel_rfl) (by kernel_rfl) H5.out.drew (fun G hst hnil => ?_)
    repeat (
      refine hst.out _ _ _ (fun K hK => ?_)
      go_simp
      first
        | (refine hK _ ?_; clear hK K)
        | (apply Exists.intro
           refine ⟨fun _ => ?_, hK _ ?_⟩
           fail
           clear hK K))
    refine hnil.out _ (fun q => ?_)
    clear hnil hst
    have HQ := Lib.hid q.h
    clear c0 y4 y6 p5 p15 p16 hne
    obtain ⟨w6, hq_⟩ : ∃ W, q.w = W := ⟨_, rfl⟩
    rw [hq_] at HQ ⊢
    have H6 := HQ
    clear hq_ HQ
    have c0 : w6.cell? ⟨w.heap.size, 0, none⟩ = some (.int .u8 o.1.toNat) := H6.out.o.c0
    have c1 : w6.cell? ⟨w.heap.size, 1, none⟩ = some (.string o.2) := H6.out.o.c1
    have z0 : w6.cell? ⟨w.heap.size + 1, 0, none⟩ = some (.int .u8 0) := H6.out.z.c0
    have z1 : w6.cell? ⟨w.heap.size + 1, 1, none⟩ = some (.string ⟨#[]⟩) := H6.out.z.c1
    have f0 : w6.frozen? ⟨w.heap.size + 1, 0, none⟩ = false := Blk.frozen H6.out.z 0
    have f1 : w6.frozen? ⟨w.heap.size + 1, 1, none⟩ = false := Blk.frozen H6.out.z 1
    have y1 : w6.cell? ⟨j, 1, none⟩ = some (.int .u16 x.mru.toNat) := H6.out.y.c 1
    have y4 : w6.cell? ⟨j, 4, none⟩ = some (.int .u8 x.auth.toNat) := H6.out.y.c 4
    have y6 : w6.cell? ⟨j, 6, none⟩ = some (.int .u32 x.magic.toNat) := H6.out.y.c 6
    have p5 : w6.cell? ⟨g, 5, none⟩ = some (.int .u8 p.c.can.toNat) := H6.out.p.c 5
    have p15 : w6.cell? ⟨g, 15, none⟩ = some (.bool p.w.hg) := H6.out.p.c 15
    have p16 : w6.cell? ⟨g, 16, none⟩ = some (.int .u32 p.w.magic.toNat) := H6.out.p.c 16
    go_wp2_with fail
    go_region
    go_wp2
    (try simp only [Exit.inBlock, Exit.then])
    refine bodyPost_ret (results_row0 rfl _ _ (w.heap.size + 1) _ _ _ rfl (H6.out.drew.z.set (o)) Tryz.underlying51 rfl (by kernel_rfl)) rfl ?_
    unfold OneQ
    rw [HE.out.1, HE.out.2]
    exact ⟨rfl, (H6.out.drew.B.setCell (p := ⟨w.heap.size + 1, 0, none⟩) (Nat.le_succ _) _).setCell (p := ⟨w.heap.size + 1, 1, none⟩) (Nat.le_succ _) _⟩
end Go.Proofs.YtpohcejgblahiaaGreat.Pol
