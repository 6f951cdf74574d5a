/- Put together: PolA, PolB, PolC. -/
import Derived.Test.YtikcgcgbcolndaaGreatGLcoA
import Derived.Laws.BitsAllLaws

/- Contracts: nonZero, isOwn, good, betterMru, betterAuth, betterMagic. -/
namespace Go.Proofs.YtikcgcgbcolndaaGreat.Pol
open Go.RowKit Go.Proofs.YtikcgcgbcolndaaGreat.Oct Go.Proofs.YtikcgcgbcolndaaGreat.Row Go.Proofs.YtikcgcgbcolndaaGreat.Mem Go.Proofs.YtikcgcgbcolndaaGreat.Opt Go.Proofs.YtikcgcgbcolndaaGreat.Lco

set_option maxHeartbeats 400000 in
set_option maxRecDepth 100000 in
theorem nz_any (v : UInt32) (w : World) : Calls Tryz.prog 62 #[.int .u32 v.toNat] w fun e w' => e = .returned (.int .u32 (nz v).toNat) ∧ w = w' := by
  by_cases h : v = 0
  · subst h
    go_enter Tryz.func62, Tryz.ntmps62
    go_wp2
    go_ret
    exact ⟨rfl, rfl⟩
  · have HE : Hid (nz v = v) := if_neg h
    have h1 : 1 ≤ v.toNat := by
      rcases Nat.eq_zero_or_pos v.toNat with h0 | h0
      · exact absurd (UInt32.toNat_inj.1 h0) h
      · exact h0
    have hd : decide ((v.toNat : Int) < 1) = false := decide_eq_false (by omega)
    have hd2 : ¬ ((v.toNat : Int) < 1) := by omega
    clear h h1
    go_enter Tryz.func62, Tryz.ntmps62
    go_wp2
    go_ret
    exact ⟨by rw [HE.out] <;> rfl, rfl⟩
set_option maxHeartbeats 2000000 in
set_option maxRecDepth 100000 in
theorem own_any (g : Nat) (p : Po) (x : Lcp) (w : World) (h : PAt w g p) : Calls Tryz.prog 161 #[.pointer (some ⟨g, 0, none⟩), .agg (lv x).toArray] w fun e w' => e = .returned (.bool (isOwn p.w x)) ∧ Below w.heap.size w w' := by
  show Calls Tryz.prog 161 #[.pointer (some ⟨g, 0, none⟩), .agg #[Value.bool x.hm, .int .u16 x.mru.toNat, .bool x.ha, .int .u32 x.accm.toNat, .int .u8 x.auth.toNat, .bool x.hg, .int .u32 x.magic.toNat, .bool x.pfc, .bool x.acfc]] w fun e w' => e = .returned (.bool (isOwn p.w x)) ∧ Below w.heap.size w w'
  obtain ⟨W, hW, HW⟩ := boxL w x
  have HP : Hid (PAt W g p) := h.callee HW.out.2.1
  have p5 : W.cell? ⟨g, 5, none⟩ = some (.bool p.w.hg) := HP.out.c 5
  have p6 : W.cell? ⟨g, 6, none⟩ = some (.int .u32 p.w.magic.toNat) := HP.out.c 6
  have x5 : W.cell? ⟨w.heap.size, 5, none⟩ = some (.bool x.hg) := HW.out.1.c 5
  have x6 : W.cell? ⟨w.heap.size, 6, none⟩ = some (.int .u32 x.magic.toNat) := HW.out.1.c 6
  have HB := Lib.hid HW.out.2.1
  have he : ((x.magic.toNat : Int) == (p.w.magic.toNat : Int)) = (x.magic == p.w.magic) := by
    rw [Bool.eq_iff_iff, beq_iff_eq, beq_iff_eq]
    exact ⟨fun e => UInt32.toNat_inj.1 (by omega), fun e => by rw [e]⟩
  have HO : Hid (isOwn p.w x = (p.w.hg && x.hg && (x.magic == p.w.magic))) := rfl
  rw [HO.out]
  generalize (x.magic == p.w.magic) = b at *
  generalize p.w.hg = b1 at *
  generalize x.hg = b2 at *
  clear h HO
  cases b1
  · go_enter Tryz.func161, Tryz.ntmps161
    go_wp2
    clear hW
    go_quiet (fail)
    go_wp2
    go_ret
    exact ⟨rfl, HB.out.drewN' _⟩
  · cases b2
    · go_enter Tryz.func161, Tryz.ntmps161
      go_wp2
      clear hW
      go_quiet (fail)
      go_wp2
      go_ret
      exact ⟨rfl, HB.out.drewN' _⟩
    · go_enter Tryz.func161, Tryz.ntmps161
      go_wp2
      clear hW
      go_quiet (fail)
      go_wp2
      go_ret
      exact ⟨rfl, HB.out.drewN' _⟩

/-- What a function of the map says: a struct. -/
def BetQ (y : Lcp) (w : World) (e : Ending) (w' : World) : Prop := e = .returned (.agg (lv y).toArray) ∧ Below w.heap.size w w'
set_option maxRecDepth 100000 in
theorem lcp_size (x : Lcp) : (Tryz.prog.info? 42).map (·.size) = some (lv x).toArray.size := by
  rw [List.size_toArray]
  kernel_rfl
theorem lv_one (x : Lcp) : (lv x).toArray.all (·.oneCell') = true := by
  refine all_oneCell_toArray fun v hv => ?_
  unfold lv at hv
  simp only [List.mem_cons, List.not_mem_nil, or_false] at hv
  rcases hv with rfl | rfl | rfl | rfl | rfl | rfl | rfl | rfl | rfl <;> rfl
theorem LAt.setMru {W : World} {g : Nat} {x : Lcp} (h : LAt W g x) (v : UInt16) : LAt (W.setCell ⟨g, 1, none⟩ (.int .u16 v.toNat)) g { x with mru := v } := Blk.set h 1 (.int .u16 v.toNat)
theorem LAt.setAuth {W : World} {g : Nat} {x : Lcp} (h : LAt W g x) (v : UInt8) : LAt (W.setCell ⟨g, 4, none⟩ (.int .u8 v.toNat)) g { x with auth := v } := Blk.set h 4 (.int .u8 v.toNat)
theorem LAt.setMagic {W : World} {g : Nat} {x : Lcp} (h : LAt W g x) (v : UInt32) : LAt (W.setCell ⟨g, 6, none⟩ (.int .u32 v.toNat)) g { x with magic := v } := Blk.set h 6 (.int .u32 v.toNat)
theorem LAt.moves {S : Nat → Prop} {w w' : World} {g : Nat} {x : Lcp} (h : LAt w g x) (hm : Moves S w w') (hs : ¬ S g) : LAt w' g x := Blk.moves h hm hs
theorem lat_row {W : World} {g : Nat} {x : Lcp} (h : LAt W g x) (y : Lcp) : LAt (W.setRow g (lv y).toArray) g y := Blk.setRow h (lv y)
set_option maxRecDepth 100000 in
/-- The end: the struct was laid over the named result's. -/
theorem bet_res {f : Func} {p g0 : Nat} (hf : f.results = #[.cell p 42]) (tmps : Array Value) {W : World} {z : Lcp} (y : Lcp) (h : LAt W g0 z) (hp : tmps.getD p undef = .pointer (some ⟨g0, 0, none⟩)) :
    (results f tmps).run Tryz.prog (W.setRow g0 (lv y).toArray) = .ok (.agg (lv y).toArray) (W.setRow g0 (lv y).toArray) := res_lcp hf tmps _ g0 y hp (lat_row h y) rfl (by kernel_rfl)
theorem bet_q {w W : World} {g0 : Nat} (y : Lcp) (hB : Below w.heap.size w W) (hg : w.heap.size ≤ g0) : BetQ y w (.returned (.agg (lv y).toArray)) (W.setRow g0 (lv y).toArray) :=
  ⟨rfl, hB.trans ((moves_row W g0 _).below hB.size fun k e => by rw [e]; exact hg)⟩
set_option maxHeartbeats 1000000 in
set_option maxRecDepth 100000 in
theorem good_bet (v : Value) (x : Lcp) (w : World) : Calls Tryz.prog 171 #[v, .agg (lv x).toArray] w (BetQ x w) := by
  show Calls Tryz.prog 171 #[v, .agg #[Value.bool x.hm, .int .u16 x.mru.toNat, .bool x.ha, .int .u32 x.accm.toNat, .int .u8 x.auth.toNat, .bool x.hg, .int .u32 x.magic.toNat, .bool x.pfc, .bool x.acfc]] w (BetQ x w)
  obtain ⟨W, hW, HW⟩ := boxL2 w x
  have HL := Lib.hid HW.out.1
  have HZ := Lib.hid HW.out.2.1
  have HB := Lib.hid HW.out.2.2
  have HN := Lib.hid (lcp_size x)
  go_enter Tryz.func171, Tryz.ntmps171
  go_wp2_with (first
    | (refine wpList_load_row rfl 42 _ rfl w.heap.size rfl 42 (lv x).toArray (0, 0) _ HL.out Tryz.underlying42 rfl HN.out ?_)
    | (refine wpList_store_row rfl 42 _ _ rfl (w.heap.size + 1) (lv x).toArray rfl rfl 42 _ HZ.out HN.out rfl (lv_one x) ?_))
  (try simp only [Exit.inBlock, Exit.then])
  refine bodyPost_ret (bet_res rfl _ x HZ.out rfl) rfl ?_
  exact bet_q x HB.out (Nat.le_succ _)

set_option maxHeartbeats 1000000 in
set_option maxRecDepth 100000 in
theorem bet_mru (v : Value) (p : Po) (x : Lcp) (w : World) : Calls Tryz.prog 168 #[v, .agg (lv x).toArray] w (BetQ (bet p 1 x) w) := by
  show Calls Tryz.prog 168 #[v, .agg #[Value.bool x.hm, .int .u16 x.mru.toNat, .bool x.ha, .int .u32 x.accm.toNat, .int .u8 x.auth.toNat, .bool x.hg, .int .u32 x.magic.toNat, .bool x.pfc, .bool x.acfc]] w (BetQ { x with mru := if x.mru < 64 then 64 else x.mru } w)
  obtain ⟨r, hr⟩ : ∃ r : UInt16, (if x.mru < 64 then 64 else x.mru) = r := ⟨_, rfl⟩
  rw [hr]
  obtain ⟨y, hy⟩ : ∃ y : Lcp, { x with mru := r } = y := ⟨_, rfl⟩
  rw [hy]
  have HN := Lib.hid (lcp_size y)
  obtain ⟨W, hW, HW⟩ := boxL2 w x
  have HL := Lib.hid HW.out.1
  have HZ := Lib.hid HW.out.2.1
  have HB := Lib.hid HW.out.2.2
  have c1 : W.cell? ⟨w.heap.size, 1, none⟩ = some (.int .u16 x.mru.toNat) := HL.out.c 1
  have f1 := HL.out.f 1
  have HLY := Lib.hid (LAt.setMru HL.out r)
  have HZY : Hid (LAt (W.setCell ⟨w.heap.size, 1, none⟩ (.int .u16 r.toNat)) (w.heap.size + 1) lz) := LAt.moves HZ.out (set_moves _ _ _ _) (by omega)
  have HBY : Hid (Below w.heap.size w (W.setCell ⟨w.heap.size, 1, none⟩ (.int .u16 r.toNat))) := HB.out.trans ((set_moves _ _ _ _).below HB.out.size (fun k e => by omega))
  rw [hy] at HLY
  clear hy
  by_cases hlt : x.mru < 64
  · rw [if_pos hlt] at hr
    subst hr
    have h1 : x.mru.toNat < 64 := UInt16.lt_iff_toNat_lt.1 hlt
    have h2 : (x.mru.toNat : Int) < 64 := by omega
    have h3 := decide_eq_true h2
    rw [show (64 : UInt16).toNat = 64 from rfl] at HLY HZY HBY
    clear h1 hlt
    go_enter Tryz.func168, Tryz.ntmps168
    go_wp2_with (first
    | (refine wpList_load_row rfl 42 _ rfl w.heap.size rfl 42 (lv y).toArray (0, 0) _ HLY.out Tryz.underlying42 rfl HN.out ?_)
    | (refine wpList_store_row rfl 42 _ _ rfl (w.heap.size + 1) (lv y).toArray rfl rfl 42 _ HZY.out HN.out rfl (lv_one _) ?_))
    (try simp only [Exit.inBlock, Exit.then])
    refine bodyPost_ret (bet_res rfl _ y HZY.out rfl) rfl ?_
    exact bet_q y HBY.out (Nat.le_succ _)
  · rw [if_neg hlt] at hr
    by_cases he : x.mru = 64
    · rw [he] at c1
      rw [he] at hr
      subst hr
      rw [show (64 : UInt16).toNat = 64 from rfl] at HLY HZY HBY c1
      clear he hlt
      go_enter Tryz.func168, Tryz.ntmps168
      go_wp2_with (first
    | (refine wpList_load_row rfl 42 _ rfl w.heap.size rfl 42 (lv y).toArray (0, 0) _ HLY.out Tryz.underlying42 rfl HN.out ?_)
    | (refine wpList_store_row rfl 42 _ _ rfl (w.heap.size + 1) (lv y).toArray rfl rfl 42 _ HZY.out HN.out rfl (lv_one _) ?_))
      (try simp only [Exit.inBlock, Exit.then])
      refine bodyPost_ret (bet_res rfl _ y HZY.out rfl) rfl ?_
      exact bet_q y HBY.out (Nat.le_succ _)
    · have h1 : 64 < x.mru.toNat := by
        rcases Nat.lt_trichotomy x.mru.toNat 64 with h | h | h
        · exact absurd (UInt16.lt_iff_toNat_lt.2 h) hlt
        · exact absurd (UInt16.toNat_inj.1 h) he
        · exact h
      have h2 : (64 : Int) < (x.mru.toNat : Int) := by omega
      have h3 := decide_eq_true h2
      have h5 : decide ((x.mru.toNat : Int) < 64) = false := decide_eq_false (by omega)
      rw [← hr] at HLY HZY HBY
      clear h1 hlt he hr
      generalize x.mru.toNat = m at *
      go_enter Tryz.func168, Tryz.ntmps168
      go_wp2_with (first
    | (refine wpList_load_row rfl 42 _ rfl w.heap.size rfl 42 (lv y).toArray (0, 0) _ HLY.out Tryz.underlying42 rfl HN.out ?_)
    | (refine wpList_store_row rfl 42 _ _ rfl (w.heap.size + 1) (lv y).toArray rfl rfl 42 _ HZY.out HN.out rfl (lv_one _) ?_))
      (try simp only [Exit.inBlock, Exit.then])
      refine bodyPost_ret (bet_res rfl _ y HZY.out rfl) rfl ?_
      exact bet_q y HBY.out (Nat.le_succ _)
end Go.Proofs.YtikcgcgbcolndaaGreat.Pol

/- Contracts of betterAuth and betterMagic. -/
namespace Go.Proofs.YtikcgcgbcolndaaGreat.Pol
open Go.RowKit Go.Proofs.YtikcgcgbcolndaaGreat.Oct Go.Proofs.YtikcgcgbcolndaaGreat.Row Go.Proofs.YtikcgcgbcolndaaGreat.Mem Go.Proofs.YtikcgcgbcolndaaGreat.Opt Go.Proofs.YtikcgcgbcolndaaGreat.Lco

theorem u8_bits (a b : UInt8) : (bits .and .u8 (a.toNat : Int) (b.toNat : Int) != 0) = (a &&& b != 0) := by
  rw [u8_and_nat _ _ a.toNat_lt b.toNat_lt, ← UInt8.toNat_and]
  generalize a &&& b = q
  rw [Bool.eq_iff_iff, bne_iff_ne, bne_iff_ne]
  exact ⟨fun h e => h (by rw [e]; rfl), fun h e => h (UInt8.toNat_inj.1 (by show q.toNat = 0; omega))⟩

set_option maxHeartbeats 2000000 in
set_option maxRecDepth 100000 in
theorem bet_auth (g : Nat) (p : Po) (x : Lcp) (w : World) (h : PAt w g p) : Calls Tryz.prog 174 #[.pointer (some ⟨g, 0, none⟩), .agg (lv x).toArray] w (BetQ (bet p 3 x) w) := by
  show Calls Tryz.prog 174 #[.pointer (some ⟨g, 0, none⟩), .agg #[Value.bool x.hm, .int .u16 x.mru.toNat, .bool x.ha, .int .u32 x.accm.toNat, .int .u8 x.auth.toNat, .bool x.hg, .int .u32 x.magic.toNat, .bool x.pfc, .bool x.acfc]] w (BetQ { x with auth := if p.c.can &&& x.auth != 0 then x.auth else if p.c.can &&& 2 != 0 then 2 else 1 } w)
  obtain ⟨r, hr⟩ : ∃ r : UInt8, (if p.c.can &&& x.auth != 0 then x.auth else if p.c.can &&& 2 != 0 then 2 else 1) = r := ⟨_, rfl⟩
  rw [hr]
  obtain ⟨y, hy⟩ : ∃ y : Lcp, { x with auth := r } = y := ⟨_, rfl⟩
  rw [hy]
  have HN := Lib.hid (lcp_size y)
  obtain ⟨W, hW, HW⟩ := boxL2 w x
  have HL := Lib.hid HW.out.1
  have HZ := Lib.hid HW.out.2.1
  have HB := Lib.hid HW.out.2.2
  have hP : PAt W g p := h.callee HB.out
  have p14 : W.cell? ⟨g, 14, none⟩ = some (.int .u8 p.c.can.toNat) := hP.c 14
  have c4 : W.cell? ⟨w.heap.size, 4, none⟩ = some (.int .u8 x.auth.toNat) := HL.out.c 4
  have f4 := HL.out.f 4
  have HLY := Lib.hid (LAt.setAuth HL.out r)
  have HZY : Hid (LAt (W.setCell ⟨w.heap.size, 4, none⟩ (.int .u8 r.toNat)) (w.heap.size + 1) lz) := LAt.moves HZ.out (set_moves _ _ _ _) (by omega)
  have HBY : Hid (Below w.heap.size w (W.setCell ⟨w.heap.size, 4, none⟩ (.int .u8 r.toNat))) := HB.out.trans ((set_moves _ _ _ _).below HB.out.size (fun k e => by omega))
  have u1 := u8_bits p.c.can x.auth
  have u2 := u8_bits p.c.can 2
  rw [show (((2 : UInt8).toNat : Nat) : Int) = 2 from rfl] at u2
  rw [hy] at HLY
  clear h hP
  cases h1 : (p.c.can &&& x.auth != 0)
  · rw [h1] at hr u1
    cases h2 : (p.c.can &&& 2 != 0)
    · rw [h2] at hr u2
      simp only [Bool.false_eq_true, if_false] at hr
      subst hr
      rw [show (1 : UInt8).toNat = 1 from rfl] at HLY HZY HBY
      clear h1 h2 hy
      go_enter Tryz.func174, Tryz.ntmps174
      go_wp2_with (first
    | (refine wpList_load_row rfl 42 _ rfl w.heap.size rfl 42 (lv y).toArray (0, 0) _ HLY.out Tryz.underlying42 rfl HN.out ?_)
    | (refine wpList_store_row rfl 42 _ _ rfl (w.heap.size + 1) (lv y).toArray rfl rfl 42 _ HZY.out HN.out rfl (lv_one _) ?_))
      (try simp only [Exit.inBlock, Exit.then])
      refine bodyPost_ret (bet_res rfl _ y HZY.out rfl) rfl ?_
      exact bet_q y HBY.out (Nat.le_succ _)
    · rw [h2] at hr u2
      simp only [Bool.false_eq_true, if_false, if_true] at hr
      subst hr
      rw [show (2 : UInt8).toNat = 2 from rfl] at HLY HZY HBY
      clear h1 h2 hy
      go_enter Tryz.func174, Tryz.ntmps174
      go_wp2_with (first
    | (refine wpList_load_row rfl 42 _ rfl w.heap.size rfl 42 (lv y).toArray (0, 0) _ HLY.out Tryz.underlying42 rfl HN.out ?_)
    | (refine wpList_store_row rfl 42 _ _ rfl (w.heap.size + 1) (lv y).toArray rfl rfl 42 _ HZY.out HN.out rfl (lv_one _) ?_))
      (try simp only [Exit.inBlock, Exit.then])
      refine bodyPost_ret (bet_res rfl _ y HZY.out rfl) rfl ?_
      exact bet_q y HBY.out (Nat.le_succ _)
  · rw [h1] at hr u1
    simp only [if_true] at hr
    subst hr
    have HLX : Hid (LAt W w.heap.size y) := by show LAt _ _ _; rw [← hy]; exact HL.out
    clear h1 hy HLY HZY HBY
    go_enter Tryz.func174, Tryz.ntmps174
    go_wp2_with (first
    | (refine wpList_load_row rfl 42 _ rfl w.heap.size rfl 42 (lv y).toArray (0, 0) _ HLX.out Tryz.underlying42 rfl HN.out ?_)
    | (refine wpList_store_row rfl 42 _ _ rfl (w.heap.size + 1) (lv y).toArray rfl rfl 42 _ HZ.out HN.out rfl (lv_one _) ?_))
    (try simp only [Exit.inBlock, Exit.then])
    refine bodyPost_ret (bet_res rfl _ y HZ.out rfl) rfl ?_
    exact bet_q y HB.out (Nat.le_succ _)
end Go.Proofs.YtikcgcgbcolndaaGreat.Pol

/- Contract of betterMagic. -/
namespace Go.Proofs.YtikcgcgbcolndaaGreat.Pol
open Go.RowKit Go.Proofs.YtikcgcgbcolndaaGreat.Oct Go.Proofs.YtikcgcgbcolndaaGreat.Row Go.Proofs.YtikcgcgbcolndaaGreat.Mem Go.Proofs.YtikcgcgbcolndaaGreat.Opt Go.Proofs.YtikcgcgbcolndaaGreat.Lco

theorem u32_zero (v : UInt32) : ((v.toNat : Int) != 0) = (v != 0) := by
  rw [Bool.eq_iff_iff, bne_iff_ne, bne_iff_ne]
  exact ⟨fun h e => h (by rw [e]; rfl), fun h e => h (UInt32.toNat_inj.1 (by show v.toNat = 0; omega))⟩
theorem u32_not (v : UInt32) : bits .xor .u32 IntKind.u32.max (v.toNat : Int) = ((~~~ v).toNat : Int) := by
  have e : ~~~ v = 4294967295 ^^^ v := by
    apply UInt32.eq_of_toBitVec_eq
    exact (BitVec.allOnes_xor (x := v.toBitVec)).symm
  rw [e, UInt32.toNat_xor]
  exact u32_xor_nat 4294967295 v.toNat (by decide) v.toNat_lt
/-- The argument's block, the named result's, and the policy. -/
structure Mg (w W : World) (g : Nat) (p : Po) (x : Lcp) : Prop where
  a : LAt W w.heap.size x
  z : LAt W (w.heap.size + 1) lz
  p : PAt W g p
  b : Below w.heap.size w W
theorem Mg.callee {w W W' : World} {g : Nat} {p : Po} {x : Lcp} (h : Mg w W g p x) (hb : Below W.heap.size W W') : Mg w W' g p x :=
  ⟨h.a.callee hb, h.z.callee hb, h.p.callee hb, h.b.trans (hb.mono h.b.size)⟩
theorem Mg.set {w W : World} {g : Nat} {p : Po} {x : Lcp} (h : Mg w W g p x) (v : UInt32) (hg : g < w.heap.size) : Mg w (W.setCell ⟨w.heap.size, 6, none⟩ (.int .u32 v.toNat)) g p { x with magic := v } :=
  ⟨LAt.setMagic h.a v, LAt.moves h.z (set_moves _ _ _ _) (by omega), h.p.moves (set_moves _ _ _ _) (by omega), h.b.trans ((set_moves _ _ _ _).below h.b.size (fun k e => by omega))⟩
theorem cells8 {W : World} {g : Nat} {x : Lcp} (h : LAt W g x) : W.cell? ⟨g, 0, none⟩ = some (Value.bool x.hm) ∧ W.cell? ⟨g, 1, none⟩ = some (.int .u16 x.mru.toNat) ∧ W.cell? ⟨g, 2, none⟩ = some (.bool x.ha) ∧ W.cell? ⟨g, 3, none⟩ = some (.int .u32 x.accm.toNat) ∧ W.cell? ⟨g, 4, none⟩ = some (.int .u8 x.auth.toNat) ∧ W.cell? ⟨g, 5, none⟩ = some (.bool x.hg) ∧ W.cell? ⟨g, 7, none⟩ = some (.bool x.pfc) ∧ W.cell? ⟨g, 8, none⟩ = some (.bool x.acfc) := ⟨h.c 0, h.c 1, h.c 2, h.c 3, h.c 4, h.c 5, h.c 7, h.c 8⟩
set_option maxHeartbeats 4000000 in
set_option maxRecDepth 100000 in
theorem bet_magic (g : Nat) (p : Po) (x : Lcp) (w : World) (h : PAt w g p) : Calls Tryz.prog 177 #[.pointer (some ⟨g, 0, none⟩), .agg (lv x).toArray] w (BetQ (bet p 5 x) w) := by
  show Calls Tryz.prog 177 #[.pointer (some ⟨g, 0, none⟩), .agg #[Value.bool x.hm, .int .u16 x.mru.toNat, .bool x.ha, .int .u32 x.accm.toNat, .int .u8 x.auth.toNat, .bool x.hg, .int .u32 x.magic.toNat, .bool x.pfc, .bool x.acfc]] w (BetQ (if x.magic != 0 && !isOwn p.w x then x else if isOwn p.w { x with magic := nz (~~~ x.magic) } then { x with magic := 1 } else { x with magic := nz (~~~ x.magic) }) w)
  have hgl := h.lt
  obtain ⟨W, hW, HW⟩ := boxL2 w x
  have HM : Hid (Mg w W g p x) := ⟨HW.out.1, HW.out.2.1, h.callee HW.out.2.2, HW.out.2.2⟩
  have c6 : W.cell? ⟨w.heap.size, 6, none⟩ = some (.int .u32 x.magic.toNat) := HM.out.a.c 6
  have f6 := HM.out.a.f 6
  have hz := u32_zero x.magic
  have hn := u32_not x.magic
  have HNZ : Hid (∀ w, Calls Tryz.prog 62 #[.int .u32 (~~~ x.magic).toNat] w fun e w' => e = .returned (.int .u32 (nz (~~~ x.magic)).toNat) ∧ w = w') := fun w => nz_any _ w
  obtain ⟨m, hm⟩ : ∃ m, nz (~~~ x.magic) = m := ⟨_, rfl⟩
  rw [hm] at HNZ ⊢
  rw [show (((~~~ x.magic).toNat : Nat) : Int) = bits .xor .u32 IntKind.u32.max (x.magic.toNat : Int) from hn.symm] at HNZ
  obtain ⟨y, hy⟩ : ∃ y, (if x.magic != 0 && !isOwn p.w x then x else if isOwn p.w { x with magic := m } then { x with magic := 1 } else { x with magic := m }) = y := ⟨_, rfl⟩
  rw [hy]
  have HY := Lib.hid hy.symm
  have HO := Lib.hid (own_any g p x)
  clear h HW hn hm hy
  cases h1 : (x.magic != 0)
  · rw [h1] at hz HY
    simp only [Bool.false_and, Bool.false_eq_true, if_false] at HY
    have HS := Lib.hid (HM.out.set m hgl)
    have s6 := HS.out.a.f 6
    clear h1
    go_enter Tryz.func177, Tryz.ntmps177
    go_wp2_with fail
    refine (HNZ.out _).mono ?_
    rintro e _ ⟨rfl, rfl⟩
    go_wp2_with (first
            | (refine wpList_load_row rfl 42 _ rfl w.heap.size rfl 42 (lv { x with magic := m }).toArray (0, 0) _ HS.out.a Tryz.underlying42 rfl (lcp_size _) ?_))
    refine (own_any g p { x with magic := m } _ HS.out.p).mono ?_
    rintro e w2 ⟨rfl, hb2⟩
    have H2 := Lib.hid (HS.out.callee hb2)
    clear hb2
    cases h2 : isOwn p.w { x with magic := m }
    · rw [h2] at HY
      have hy : y = { x with magic := m } := HY.out
      subst hy
      go_wp2_with (first
            | (refine wpList_load_row rfl 42 _ rfl w.heap.size rfl 42 (lv { x with magic := m }).toArray (0, 0) _ H2.out.a Tryz.underlying42 rfl (lcp_size _) ?_)
            | (refine wpList_store_row rfl 42 _ _ rfl (w.heap.size + 1) (lv { x with magic := m }).toArray rfl rfl 42 _ H2.out.z (lcp_size _) rfl (lv_one _) ?_))
      (try simp only [Exit.inBlock, Exit.then])
      refine bodyPost_ret (bet_res rfl _ _ H2.out.z rfl) rfl ?_
      exact bet_q _ H2.out.b (Nat.le_succ _)
    · rw [h2] at HY
      have hy : y = { x with magic := 1 } := HY.out
      subst hy
      have f6' := H2.out.a.f 6
      have H3 : Hid (Mg w (w2.setCell ⟨w.heap.size, 6, none⟩ (.int .u32 1)) g p { x with magic := 1 }) := H2.out.set 1 hgl
      have c6' : w2.cell? ⟨w.heap.size, 6, none⟩ = some (.int .u32 m.toNat) := H2.out.a.c 6
      go_wp2_with (first
            | (refine wpList_load_row rfl 42 _ rfl w.heap.size rfl 42 (lv { x with magic := 1 }).toArray (0, 0) _ H3.out.a Tryz.underlying42 rfl (lcp_size _) ?_)
            | (refine wpList_store_row rfl 42 _ _ rfl (w.heap.size + 1) (lv { x with magic := 1 }).toArray rfl rfl 42 _ H3.out.z (lcp_size _) rfl (lv_one _) ?_))
      (try simp only [Exit.inBlock, Exit.then])
      refine bodyPost_ret (bet_res rfl _ _ H3.out.z rfl) rfl ?_
      exact bet_q _ H3.out.b (Nat.le_succ _)
  · rw [h1] at hz HY
    obtain ⟨d0, d1, d2, d3, d4, d5, d7, d8⟩ := cells8 HM.out.a
    go_enter Tryz.func177, Tryz.ntmps177
    go_wp2_with fail
    refine (HO.out W HM.out.p).mono ?_
    rintro e w1 ⟨rfl, hb1⟩
    have H1 := Lib.hid (HM.out.callee hb1)
    clear hb1 hW HM c6 f6 d0 d1 d2 d3 d4 d5 d7 d8
    cases h3 : isOwn p.w x
    · rw [h3] at HY
      have hy : y = x := HY.out
      subst hy
      go_wp2_with (first
        | (refine wpList_load_row rfl 42 _ rfl w.heap.size rfl 42 (lv y).toArray (0, 0) _ H1.out.a Tryz.underlying42 rfl (lcp_size _) ?_)
        | (refine wpList_store_row rfl 42 _ _ rfl (w.heap.size + 1) (lv y).toArray rfl rfl 42 _ H1.out.z (lcp_size _) rfl (lv_one _) ?_))
      (try simp only [Exit.inBlock, Exit.then])
      refine bodyPost_ret (bet_res rfl _ _ H1.out.z rfl) rfl ?_
      exact bet_q _ H1.out.b (Nat.le_succ _)
    · rw [h3] at HY
      simp only [Bool.not_true, Bool.and_false, Bool.false_eq_true, if_false] at HY
      have c6 : w1.cell? ⟨w.heap.size, 6, none⟩ = some (.int .u32 x.magic.toNat) := H1.out.a.c 6
      have f6 := H1.out.a.f 6
      have HS := Lib.hid (H1.out.set m hgl)
      have s6 := HS.out.a.f 6
      clear h1 h3
      go_wp2_with fail
      refine (HNZ.out _).mono ?_
      rintro e _ ⟨rfl, rfl⟩
      go_wp2_with (first
              | (refine wpList_load_row rfl 42 _ rfl w.heap.size rfl 42 (lv { x with magic := m }).toArray (0, 0) _ HS.out.a Tryz.underlying42 rfl (lcp_size _) ?_))
      refine (own_any g p { x with magic := m } _ HS.out.p).mono ?_
      rintro e w2 ⟨rfl, hb2⟩
      have H2 := Lib.hid (HS.out.callee hb2)
      clear hb2
      cases h2 : isOwn p.w { x with magic := m }
      · rw [h2] at HY
        have hy : y = { x with magic := m } := HY.out
        subst hy
        go_wp2_with (first
              | (refine wpList_load_row rfl 42 _ rfl w.heap.size rfl 42 (lv { x with magic := m }).toArray (0, 0) _ H2.out.a Tryz.underlying42 rfl (lcp_size _) ?_)
              | (refine wpList_store_row rfl 42 _ _ rfl (w.heap.size + 1) (lv { x with magic := m }).toArray rfl rfl 42 _ H2.out.z (lcp_size _) rfl (lv_one _) ?_))
        (try simp only [Exit.inBlock, Exit.then])
        refine bodyPost_ret (bet_res rfl _ _ H2.out.z rfl) rfl ?_
        exact bet_q _ H2.out.b (Nat.le_succ _)
      · rw [h2] at HY
        have hy : y = { x with magic := 1 } := HY.out
        subst hy
        have f6' := H2.out.a.f 6
        have H3 : Hid (Mg w (w2.setCell ⟨w.heap.size, 6, none⟩ (.int .u32 1)) g p { x with magic := 1 }) := H2.out.set 1 hgl
        have c6' : w2.cell? ⟨w.heap.size, 6, none⟩ = some (.int .u32 m.toNat) := H2.out.a.c 6
        go_wp2_with (first
              | (refine wpList_load_row rfl 42 _ rfl w.heap.size rfl 42 (lv { x with magic := 1 }).toArray (0, 0) _ H3.out.a Tryz.underlying42 rfl (lcp_size _) ?_)
              | (refine wpList_store_row rfl 42 _ _ rfl (w.heap.size + 1) (lv { x with magic := 1 }).toArray rfl rfl 42 _ H3.out.z (lcp_size _) rfl (lv_one _) ?_))
        (try simp only [Exit.inBlock, Exit.then])
        refine bodyPost_ret (bet_res rfl _ _ H3.out.z rfl) rfl ?_
        exact bet_q _ H3.out.b (Nat.le_succ _)
end Go.Proofs.YtikcgcgbcolndaaGreat.Pol
