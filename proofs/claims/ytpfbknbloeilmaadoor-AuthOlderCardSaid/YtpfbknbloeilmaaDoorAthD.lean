/- A server in memory; what it answers; its challenge. -/
import Derived.Test.YtpfbknbloeilmaaDoorGAthA
import Derived.Test.YtpfbknbloeilmaaDoorChpB
import Derived.Test.YtpfbknbloeilmaaDoorPapE
import Derived.Test.YtpfbknbloeilmaaDoorPapG
import Derived.OrdersHeld
import Derived.Deep.RegionHeld3
import Derived.Deep.DeepCutAuto
namespace Go.Proofs.YtpfbknbloeilmaaDoor.Ath
open Go.RowKit Go.Proofs.YtpfbknbloeilmaaDoor.Oct Go.Proofs.YtpfbknbloeilmaaDoor.Row Go.Proofs.YtpfbknbloeilmaaDoor.Mem Go.Proofs.YtpfbknbloeilmaaDoor.Md5

/-- The machine of a server; what else it has. -/
def mcS (s : Sv) : Mc := ⟨s.c.kind, s.c.tries, s.c.wait, s.own, s.st, s.id, if pap s.c then s.bad else s.sent, s.clock⟩
def rS (s : Sv) : List Value := [.int .i64 s.c.again, .string (if s.opn then s.value else bOf []), .string s.who, .int .u8 s.last.c.toNat, .int .u8 s.last.i.toNat, .string s.last.d]
def pv (s : Sv) : List Value := mV (mcS s) ++ rS s
def SAt (w : World) (g : Nat) (s : Sv) : Prop := Blk w g (pv s) 67
/-- What stays so of a server. -/
structure Inv (s : Sv) : Prop where
  kd : s.c.kind = 1 ∨ s.c.kind = 2
  tr1 : 1 ≤ s.c.tries
  tr2 : s.c.tries ≤ 20
  wt1 : 1 ≤ s.c.wait
  wt2 : s.c.wait ≤ 1000
  ag1 : 0 ≤ s.c.again
  ag2 : s.c.again ≤ 100000
  own : s.own.size ≤ 255
  st : s.st ≤ 3
  po : pap s.c = true → s.opn = false
  vl : s.opn = true → s.value.size = 16
  op : s.opn = true → s.st = 1 ∨ s.st = 2
  bs : s.st = 1 → pap s.c = false → s.opn = true
  se0 : 0 ≤ s.sent
  se1 : s.sent ≤ 20
  bd0 : 0 ≤ s.bad
  bd1 : s.bad ≤ 20
  bd2 : pap s.c = true → s.st = 1 → s.bad < s.c.tries
  bd3 : pap s.c = false → s.st ≠ 3 → s.bad = 0
  bd4 : s.st = 0 → s.bad = 0
  ck0 : goes s = true → 1 ≤ s.clock
  ck1 : s.clock ≤ 100000
  rp : s.st = 2 → s.reply = ans s.c s.last.i true
theorem pap_kind {s : Sv} (h : Inv s) : pap s.c = false → s.c.kind = 2 := fun e => by
  rcases h.kd with k | k
  · unfold pap at e; rw [k] at e; cases e
  · exact k
theorem kind_pap {c : Cf} (h : pap c = true) : c.kind = 1 := by
  unfold pap at h
  exact eq_of_beq h
/-- The tables stay where they are. -/
theorem globs_server {w w' : World} {g : Nat} {s : Sv} (hG : Globs w) (h : SAt w g s) (hm : Moves (fun k => k = g) w w') : Globs w' := by
  have c3 : w.cell? ⟨g, 3, none⟩ = some (.string s.own) := Blk.at_ h 3
  refine hG.moves hm (fun e => ?_) (fun e => ?_)
  · subst e
    rw [hG.1 3 (by omega)] at c3
    cases c3
  · subst e
    rw [hG.2 3 (by omega)] at c3
    cases c3

/-! ### the answer to a packet -/
theorem results_pk {fn : Func} {p : Tmp} (h : fn.results = #[.cell p 46]) {tmps : Array Value} {w : World} {b : Nat} {x0 x1 x2 : Value} (hp : tmps.getD p undef = .pointer (some ⟨b, 0, none⟩)) (hg : Blk w b [x0, x1, x2] 46) :
    (results fn tmps).run Tryd.prog w = .ok (.agg #[x0, x1, x2]) w :=
  results_cell_row h tmps w b _ #[x0, x1, x2] _ _ hp hg Tryd.underlying46 rfl (by kernel_rfl)
def pkA (p : Pk) : Value := .agg #[.int .u8 p.c.toNat, .int .u8 p.i.toNat, .string p.d]
def AnsQ (p : Pk) (w : World) (e : Ending) (w' : World) : Prop := e = .returned (pkA p) ∧ Below w.heap.size w w'
theorem join_none : joinE [bOf []] = 0 ∧ joinS [bOf []] = bOf [0] := by
  have hj : joinE [bOf []] = 0 := by decide
  refine ⟨hj, ?_⟩
  rw [(Pap.join_zero hj).2]
  simp only [List.map_cons, List.map_nil, toList_bOf]
  rfl
theorem ansC' {c : Cf} (hp : pap c = false) (i : UInt8) (w : Bool) : ans c i w = ⟨if w then 3 else 4, i, bOf []⟩ := by unfold ans; rw [if_neg (by rw [hp]; decide)]
theorem ans_made (c : Cf) (i : UInt8) (b : Bool) : (pap c = true → pkO (joinE [bOf []]) (if b then 2 else 3) i (joinS [bOf []]) = ans c i b) ∧ (pap c = false → pkO (Chp.laE (bOf [])) (if b = true then 3 else 4) i (bOf []) = ans c i b) := by
  constructor
  · intro h
    rw [join_none.1, join_none.2, pkO, if_pos rfl, ans, if_pos h]
  · intro h
    rw [show Chp.laE (bOf []) = 0 from rfl, pkO, if_pos rfl, ansC' h]
set_option maxHeartbeats 1000000 in
set_option maxRecDepth 100000 in
theorem answer_any (g : Nat) (s : Sv) (i : UInt8) (b : Bool) (w : World) (h : SAt w g s) :
    Calls Tryd.prog 70 #[ptr g, .int .u8 i.toNat, .bool b] w (AnsQ (ans s.c i b) w) := by
  obtain ⟨V, hV, HR⟩ := res_one w
  have q0 : V.cell? ⟨g, 0, none⟩ = some (.int .u8 s.c.kind.toNat) := (HR.out.2.1.cell (p := ⟨g, 0, none⟩) (Blk.lt h)).trans (Blk.at_ h 0)
  have hm := ans_made s.c i b
  clear h
  cases hp : pap s.c
  · have HC := Lib.hid (Chp.answer_any i b (bOf []) V (by decide))
    rw [chp_pkV, hm.2 hp] at HC
    have k0 : ((s.c.kind.toNat : Int) == 1) = false := by
      have : s.c.kind ≠ 1 := fun e => by unfold pap at hp; rw [e] at hp; cases hp
      rw [beq_eq_false_iff_ne]
      intro e
      exact this (UInt8.toNat_inj.1 (by show _ = 1; omega))
    generalize ans s.c i b = P at *
    generalize s.c.kind = kd at *
    clear hm hp
    unfold ptr
    go_enter Tryd.func70, Tryd.ntmps70
    go_wp2_with fail
    refine HC.out.mono ?_
    rintro e w1 ⟨rfl, hb⟩
    have HR2 := Lib.hid ((HR.out.callee hb).alloc (.cells #[.int .u8 P.c.toNat, .int .u8 P.i.toNat, .string P.d] 46))
    clear hb hV
    have c0 := HR2.out.c0
    have c1 := HR2.out.c1
    have c2 := HR2.out.c2
    have f0 := HR2.out.f 0
    have f1 := HR2.out.f 1
    have f2 := HR2.out.f 2
    go_wp2
    have HP := HR2.out.put P.c.toNat P.i.toNat P.d
    (try simp only [Exit.inBlock, Exit.then])
    refine bodyPost_ret (results_pk rfl rfl (by exact HP.1)) rfl ?_
    exact ⟨rfl, HP.2⟩
  · have HC := Lib.hid (Pap.answer_any i b (bOf []) V (by decide))
    rw [pap_pkV, hm.1 hp] at HC
    have k0 : ((s.c.kind.toNat : Int) == 1) = true := by rw [kind_pap hp]; rfl
    generalize ans s.c i b = P at *
    generalize s.c.kind = kd at *
    generalize joinE [bOf []] = E at *
    clear hm hp
    unfold ptr
    go_enter Tryd.func70, Tryd.ntmps70
    go_wp2_with fail
    refine HC.out.mono ?_
    rintro e w1 ⟨rfl, hb⟩
    have HR2 := Lib.hid ((HR.out.callee hb).alloc (.cells #[.int .u8 P.c.toNat, .int .u8 P.i.toNat, .string P.d] 46))
    clear hb hV
    have c0 := HR2.out.c0
    have c1 := HR2.out.c1
    have c2 := HR2.out.c2
    have f0 := HR2.out.f 0
    have f1 := HR2.out.f 1
    have f2 := HR2.out.f 2
    go_wp2
    have HP := HR2.out.put P.c.toNat P.i.toNat P.d
    (try simp only [Exit.inBlock, Exit.then])
    refine bodyPost_ret (results_pk rfl rfl (by exact HP.1)) rfl ?_
    exact ⟨rfl, HP.2⟩

/-! ### a challenge -/
theorem pv_chal {s : Sv} (ho : s.opn = true) (hp : pap s.c = false) : mV (numberM (mcS s)) ++ rS s = pv (chalS s) := by
  unfold pv mcS rS numberM chalS
  simp only [hp, ho, Bool.false_eq_true, if_false, if_true]
set_option maxHeartbeats 4000000 in
set_option maxRecDepth 100000 in
theorem challenge_any (g : Nat) (s : Sv) (w : World) (h : SAt w g s) (h0 : 0 ≤ s.sent) (h1 : s.sent ≤ 20) (hv : s.value.size ≤ 255) (hw : s.own.size ≤ 255) (ho : s.opn = true) (hp : pap s.c = false) :
    Calls Tryd.prog 74 #[ptr g] w (OutQ g (pv (chalS s)) 67 (sends [chalP s]) w) := by
  obtain ⟨V, hV, hs, HP, HB⟩ := start_one h
  have HN := Lib.hid (number_any g (mcS s) (rS s) _ V HP.out.blk (by show 0 ≤ (if pap s.c then s.bad else s.sent); rw [hp]; exact h0) (by show (if pap s.c then s.bad else s.sent) ≤ 1000; rw [hp]; simp only [Bool.false_eq_true, if_false]; omega))
  have HC' : Hid (∀ W, Calls Tryd.prog 89 #[.int .u8 (s.id + 1).toNat, .string s.value, .string s.own] W fun e w' => e = .returned (.tuple #[.agg #[.int .u8 (chalP s).c.toNat, .int .u8 (chalP s).i.toNat, .string (chalP s).d], .int .i64 (Chp.chE s.value s.own)]) ∧ Below W.heap.size W w') := fun W => by
    have := Chp.challenge_any (s.id + 1) s.value s.own W (by unfold maxLen; omega) (by omega)
    rw [chp_pkV] at this
    exact this
  rw [pv_chal ho hp] at HN
  have t0 : (pv (chalS s))[5]? = some (.int .u8 (s.id + 1).toNat) := rfl
  have t1 : (pv (chalS s))[9]? = some (.string s.value) := rfl
  have t2 : (pv (chalS s))[3]? = some (.string s.own) := rfl
  generalize chalP s = P at *
  generalize Chp.chE s.value s.own = E at *
  generalize pv (chalS s) = cs at *
  clear h hs h0 h1 ho hp hw hv
  unfold ptr at *
  go_enter Tryd.func74, Tryd.ntmps74
  go_wp2_with fail
  refine HN.out.mono ?_
  rintro e w1 ⟨rfl, hx, hm⟩
  have HP1 := Lib.hid (HP.out.moves hm hx)
  have HM1 := Lib.hid hm
  have s0 : w1.drew.cell? ⟨g, 5, none⟩ = some (.int .u8 (s.id + 1).toNat) := (Blk.at_ hx 5).trans t0
  have s1 : w1.drew.cell? ⟨g, 9, none⟩ = some (.string s.value) := (Blk.at_ hx 9).trans t1
  have s2 : w1.drew.cell? ⟨g, 3, none⟩ = some (.string s.own) := (Blk.at_ hx 3).trans t2
  have lg : g < w1.heap.size := hx.lt
  have HC : Hid (∀ W, Below w1.heap.size w1 W → Calls Tryd.prog 89 #[.int .u8 (s.id + 1).toNat, .string s.value, .string s.own] W fun e w' => e = .returned (.tuple #[.agg #[.int .u8 P.c.toNat, .int .u8 P.i.toNat, .string P.d], .int .i64 E]) ∧ Below W.heap.size W w') := fun W _ => HC'.out W
  clear hx hm HN HC' hV HP t0 t1 t2
  go_upto_region 2 with (fail)
  go_cut [3] from 4 to 26 (fun b wx => ∃ bb, b = .pointer (some ⟨bb, 0, none⟩) ∧ Hid (PkB w1 wx bb P))
  case first =>
    refine wp_region_held_drew (S := fun w' => w'.cell? ⟨g, 5, none⟩ = some (.int .u8 (s.id + 1).toNat) ∧ w'.cell? ⟨g, 9, none⟩ = some (.string s.value) ∧ w'.cell? ⟨g, 3, none⟩ = some (.string s.own)) (by kernel_rfl) ⟨s0, s1, s2⟩ (fun hHeld => ?_)
    refine wpAnyH_take (i := 0) (v := ?vv0_1) rfl (by kernel_rfl) (by kernel_rfl) (by kernel_rfl) (fun _ _ _ h => h) (Or.inl ⟨by rfl, ?yy0_1⟩) (by assumption) ?rr0_1
    case yy0_1 => (intro w hSw; (try dsimp only at hSw); (try simp only [List.getElem_toArray, List.getElem_cons_succ, List.getElem_cons_zero, Act.put, List.setIfInBounds_toArray, List.set_cons_zero, List.set_cons_succ]); go_simp; (try (with_reducible rfl)))
    try simp only [List.getElem_toArray, List.getElem_cons_succ, List.getElem_cons_zero, Act.put, List.setIfInBounds_toArray, List.set_cons_zero, List.set_cons_succ]
    refine wpAnyH_take (i := 1) (v := ?vv1_2) rfl (by kernel_rfl) (by kernel_rfl) (by kernel_rfl) (fun _ _ _ h => h) (Or.inl ⟨by rfl, ?yy1_2⟩) (by assumption) ?rr1_2
    case yy1_2 => (intro w hSw; (try dsimp only at hSw); (try simp only [List.getElem_toArray, List.getElem_cons_succ, List.getElem_cons_zero, Act.put, List.setIfInBounds_toArray, List.set_cons_zero, List.set_cons_succ]); go_simp; (try (with_reducible rfl)))
    try simp only [List.getElem_toArray, List.getElem_cons_succ, List.getElem_cons_zero, Act.put, List.setIfInBounds_toArray, List.set_cons_zero, List.set_cons_succ]
    refine wpAnyH_take (i := 2) (v := ?vv2_3) rfl (by kernel_rfl) (by kernel_rfl) (by kernel_rfl) (fun _ _ _ h => h) (Or.inl ⟨by rfl, ?yy2_3⟩) (by assumption) ?rr2_3
    case yy2_3 => (intro w hSw; (try dsimp only at hSw); (try simp only [List.getElem_toArray, List.getElem_cons_succ, List.getElem_cons_zero, Act.put, List.setIfInBounds_toArray, List.set_cons_zero, List.set_cons_succ]); go_simp; (try (with_reducible rfl)))
    try simp only [List.getElem_toArray, List.getElem_cons_succ, List.getElem_cons_zero, Act.put, List.setIfInBounds_toArray, List.set_cons_zero, List.set_cons_succ]
    refine wpAnyH_take (i := 3) (v := ?vv3_4) rfl (by kernel_rfl) (by kernel_rfl) (by kernel_rfl) (fun _ _ _ h => h) (Or.inl ⟨by rfl, ?yy3_4⟩) (by assumption) ?rr3_4
    case yy3_4 => (intro w hSw; (try dsimp only at hSw); (try simp only [List.getElem_toArray, List.getElem_cons_succ, List.getElem_cons_zero, Act.put, List.setIfInBounds_toArray, List.set_cons_zero, List.set_cons_succ]); go_simp; (try (with_reducible rfl)))
    try simp only [List.getElem_toArray, List.getElem_cons_succ, List.getElem_cons_zero, Act.put, List.setIfInBounds_toArray, List.set_cons_zero, List.set_cons_succ]
    refine wpAnyH_take (i := 4) (v := ?vv4_5) rfl (by kernel_rfl) (by kernel_rfl) (by kernel_rfl) (fun _ _ _ h => h) (Or.inl ⟨by rfl, ?yy4_5⟩) (by assumption) ?rr4_5
    case yy4_5 => (intro w hSw; (try dsimp only at hSw); (try simp only [List.getElem_toArray, List.getElem_cons_succ, List.getElem_cons_zero, Act.put, List.setIfInBounds_toArray, List.set_cons_zero, List.set_cons_succ]); go_simp; (try (with_reducible rfl)))
    try simp only [List.getElem_toArray, List.getElem_cons_succ, List.getElem_cons_zero, Act.put, List.setIfInBounds_toArray, List.set_cons_zero, List.set_cons_succ]
    refine wpAnyH_take (i := 5) (v := ?vv5_6) rfl (by kernel_rfl) (by kernel_rfl) (by kernel_rfl) (fun _ _ _ h => h) (Or.inl ⟨by rfl, ?yy5_6⟩) (by assumption) ?rr5_6
    case yy5_6 => (intro w hSw; (try dsimp only at hSw); (try simp only [List.getElem_toArray, List.getElem_cons_succ, List.getElem_cons_zero, Act.put, List.setIfInBounds_toArray, List.set_cons_zero, List.set_cons_succ]); go_simp; (try (with_reducible rfl)))
    try simp only [List.getElem_toArray, List.getElem_cons_succ, List.getElem_cons_zero, Act.put, List.setIfInBounds_toArray, List.set_cons_zero, List.set_cons_succ]
    refine wpAnyH_take (i := 6) (v := ?vv6_7) rfl (by kernel_rfl) (by kernel_rfl) (by kernel_rfl) (fun _ _ _ h => h) (Or.inl ⟨by rfl, ?yy6_7⟩) (by assumption) ?rr6_7
    case yy6_7 => (intro w hSw; (try dsimp only at hSw); (try simp only [List.getElem_toArray, List.getElem_cons_succ, List.getElem_cons_zero, Act.put, List.setIfInBounds_toArray, List.set_cons_zero, List.set_cons_succ]); go_simp; (try (with_reducible rfl)))
    try simp only [List.getElem_toArray, List.getElem_cons_succ, List.getElem_cons_zero, Act.put, List.setIfInBounds_toArray, List.set_cons_zero, List.set_cons_succ]
    refine wpAnyH_take (i := 7) (v := ?vv7_8) rfl (by kernel_rfl) (by kernel_rfl) (by kernel_rfl) (fun _ _ _ h => h) (Or.inl ⟨by rfl, ?yy7_8⟩) (by assumption) ?rr7_8
    case yy7_8 => (intro w hSw; (try dsimp only at hSw); (try simp only [List.getElem_toArray, List.getElem_cons_succ, List.getElem_cons_zero, Act.put, List.setIfInBounds_toArray, List.set_cons_zero, List.set_cons_succ]); go_simp; (try (with_reducible rfl)))
    try simp only [List.getElem_toArray, List.getElem_cons_succ, List.getElem_cons_zero, Act.put, List.setIfInBounds_toArray, List.set_cons_zero, List.set_cons_succ]
    refine wpAnyH_take (i := 8) (v := ?vv8_9) rfl (by kernel_rfl) (by kernel_rfl) (by kernel_rfl) (fun _ _ _ h => h) (Or.inl ⟨by rfl, ?yy8_9⟩) (by assumption) ?rr8_9
    case yy8_9 => (intro w hSw; (try dsimp only at hSw); (try simp only [List.getElem_toArray, List.getElem_cons_succ, List.getElem_cons_zero, Act.put, List.setIfInBounds_toArray, List.set_cons_zero, List.set_cons_succ]); go_simp; (try (with_reducible rfl)))
    try simp only [List.getElem_toArray, List.getElem_cons_succ, List.getElem_cons_zero, Act.put, List.setIfInBounds_toArray, List.set_cons_zero, List.set_cons_succ]
    refine wpAnyH_take (i := 9) (v := ?vv9_10) rfl (by kernel_rfl) (by kernel_rfl) (by kernel_rfl) (fun _ _ _ h => h) (Or.inl ⟨by rfl, ?yy9_10⟩) (by assumption) ?rr9_10
    case yy9_10 => (intro w hSw; (try dsimp only at hSw); (try simp only [List.getElem_toArray, List.getElem_cons_succ, List.getElem_cons_zero, Act.put, List.setIfInBounds_toArray, List.set_cons_zero, List.set_cons_succ]); go_simp; (try (with_reducible rfl)))
    try simp only [List.getElem_toArray, List.getElem_cons_succ, List.getElem_cons_zero, Act.put, List.setIfInBounds_toArray, List.set_cons_zero, List.set_cons_succ]
    refine wpAnyH_take (i := 10) (v := ?vv10_11) rfl (by kernel_rfl) (by kernel_rfl) (by kernel_rfl) (fun _ _ _ h => h) (Or.inl ⟨by rfl, ?yy10_11⟩) (by assumption) ?rr10_11
    case yy10_11 => (intro w hSw; (try dsimp only at hSw); (try simp only [List.getElem_toArray, List.getElem_cons_succ, List.getElem_cons_zero, Act.put, List.setIfInBounds_toArray, List.set_cons_zero, List.set_cons_succ]); go_simp; (try (with_reducible rfl)))
    try simp only [List.getElem_toArray, List.getElem_cons_succ, List.getElem_cons_zero, Act.put, List.setIfInBounds_toArray, List.set_cons_zero, List.set_cons_succ]
    refine wpAnyH_take (i := 11) (v := ?vv11_12) rfl (by kernel_rfl) (by kernel_rfl) (by kernel_rfl) (fun _ _ _ h => h) (Or.inl ⟨by rfl, ?yy11_12⟩) (by assumption) ?rr11_12
    case yy11_12 => (intro w hSw; (try dsimp only at hSw); (try simp only [List.getElem_toArray, List.getElem_cons_succ, List.getElem_cons_zero, Act.put, List.setIfInBounds_toArray, List.set_cons_zero, List.set_cons_succ]); go_simp; (try (with_reducible rfl)))
    try simp only [List.getElem_toArray, List.getElem_cons_succ, List.getElem_cons_zero, Act.put, List.setIfInBounds_toArray, List.set_cons_zero, List.set_cons_succ]
    refine wpAnyH_take (i := 12) (v := ?vv12_13) rfl (by kernel_rfl) (by kernel_rfl) (by kernel_rfl) (fun _ _ _ h => h) (Or.inl ⟨by rfl, ?yy12_13⟩) (by assumption) ?rr12_13
    case yy12_13 => (intro w hSw; (try dsimp only at hSw); (try simp only [List.getElem_toArray, List.getElem_cons_succ, List.getElem_cons_zero, Act.put, List.setIfInBounds_toArray, List.set_cons_zero, List.set_cons_succ]); go_simp; (try (with_reducible rfl)))
    try simp only [List.getElem_toArray, List.getElem_cons_succ, List.getElem_cons_zero, Act.put, List.setIfInBounds_toArray, List.set_cons_zero, List.set_cons_succ]
    refine wpAnyH_take (i := 13) (v := ?vv13_14) rfl (by kernel_rfl) (by kernel_rfl) (by kernel_rfl) (fun _ _ _ h => h) (Or.inl ⟨by rfl, ?yy13_14⟩) (by assumption) ?rr13_14
    case yy13_14 => (intro w hSw; (try dsimp only at hSw); (try simp only [List.getElem_toArray, List.getElem_cons_succ, List.getElem_cons_zero, Act.put, List.setIfInBounds_toArray, List.set_cons_zero, List.set_cons_succ]); go_simp; (try (with_reducible rfl)))
    try simp only [List.getElem_toArray, List.getElem_cons_succ, List.getElem_cons_zero, Act.put, List.setIfInBounds_toArray, List.set_cons_zero, List.set_cons_succ]
    refine wpAnyH_ready (rs := [14, 18]) (by kernel_rfl) (by simp) ?_
    refine AllReadyH.cons (o := _) rfl (fun K hK => ?_) (AllReadyH.cons (o := _) rfl (fun K hK => ?_) AllReadyH.nil)
    · skip
      try simp only [List.getElem_toArray, List.getElem_cons_succ, List.getElem_cons_zero, Act.put, List.setIfInBounds_toArray, List.set_cons_zero, List.set_cons_succ]
      go_simp
      refine (HC.out _ (Below.drewN' (Below.refl _ w1) 1)).mono ?_
      rintro o w7 ⟨rfl, hb0⟩
      have hb1 : Below w1.heap.size w1 w7 := ⟨hb0.os, hb0.tape, hb0.output, hb0.size, hb0.block⟩
      clear hb0
      have a0 := (hb1.cell (p := ⟨g, 5, none⟩) lg).trans s0
      have a1 := (hb1.cell (p := ⟨g, 9, none⟩) lg).trans s1
      have a2 := (hb1.cell (p := ⟨g, 3, none⟩) lg).trans s2
      refine hK.out _ _ ⟨a0, a1, a2⟩ (fun hHeld => ?_)
      clear hK K
      try simp only [List.getElem_toArray, List.getElem_cons_succ, List.getElem_cons_zero, Act.put, List.setIfInBounds_toArray, List.set_cons_zero, List.set_cons_succ]
      refine wpAnyH_take (i := 15) (v := ?vv15_15) rfl (by kernel_rfl) (by kernel_rfl) (by kernel_rfl) (fun _ _ _ h => h) (Or.inl ⟨by rfl, ?yy15_15⟩) (by assumption) ?rr15_15
      case yy15_15 => (intro w hSw; (try dsimp only at hSw); (try simp only [List.getElem_toArray, List.getElem_cons_succ, List.getElem_cons_zero, Act.put, List.setIfInBounds_toArray, List.set_cons_zero, List.set_cons_succ]); go_simp; (try (with_reducible rfl)))
      try simp only [List.getElem_toArray, List.getElem_cons_succ, List.getElem_cons_zero, Act.put, List.setIfInBounds_toArray, List.set_cons_zero, List.set_cons_succ]
      refine wpAnyH_take (i := 16) (v := ?vv16_16) rfl (by kernel_rfl) (by kernel_rfl) (by kernel_rfl) (fun _ _ _ h => h) (Or.inl ⟨by rfl, ?yy16_16⟩) (by assumption) ?rr16_16
      case yy16_16 => (intro w hSw; (try dsimp only at hSw); (try simp only [List.getElem_toArray, List.getElem_cons_succ, List.getElem_cons_zero, Act.put, List.setIfInBounds_toArray, List.set_cons_zero, List.set_cons_succ]); go_simp; (try (with_reducible rfl)))
      try simp only [List.getElem_toArray, List.getElem_cons_succ, List.getElem_cons_zero, Act.put, List.setIfInBounds_toArray, List.set_cons_zero, List.set_cons_succ]
      refine wpAnyH_take (i := 17) (v := ?vv17_17) rfl (by kernel_rfl) (by kernel_rfl) (by kernel_rfl) (fun _ _ _ h => h) (Or.inl ⟨by rfl, ?yy17_17⟩) (by assumption) ?rr17_17
      case yy17_17 => (intro w hSw; (try dsimp only at hSw); (try simp only [List.getElem_toArray, List.getElem_cons_succ, List.getElem_cons_zero, Act.put, List.setIfInBounds_toArray, List.set_cons_zero, List.set_cons_succ]); go_simp; (try (with_reducible rfl)))
      try simp only [List.getElem_toArray, List.getElem_cons_succ, List.getElem_cons_zero, Act.put, List.setIfInBounds_toArray, List.set_cons_zero, List.set_cons_succ]
      have hA := hb1.alloc hb1.size (.cells #[.int .u8 0, .int .u8 0, .string ⟨#[]⟩] 46)
      have b0 := (hA.cell (p := ⟨g, 5, none⟩) lg).trans s0
      have b1 := (hA.cell (p := ⟨g, 9, none⟩) lg).trans s1
      have b2 := (hA.cell (p := ⟨g, 3, none⟩) lg).trans s2
      have HU : Hid (Blk (w7.alloc (.cells #[.int .u8 0, .int .u8 0, .string ⟨#[]⟩] 46)) w7.heap.size [.int .u8 0, .int .u8 0, .string ⟨#[]⟩] 46) := blk_new w7 [.int .u8 0, .int .u8 0, .string ⟨#[]⟩] 46
      refine wpAnyH_ready (rs := [18]) (by kernel_rfl) (by simp) ?_
      refine AllReadyH.cons (o := _) rfl (fun K hK => ?_) AllReadyH.nil
      try simp only [List.getElem_toArray, List.getElem_cons_succ, List.getElem_cons_zero, Act.put, List.setIfInBounds_toArray, List.set_cons_zero, List.set_cons_succ]
      go_simp
      refine hK.out _ _ ⟨b0, b1, b2⟩ (fun hHeld => ?_)
      clear hK K
      try simp only [List.getElem_toArray, List.getElem_cons_succ, List.getElem_cons_zero, Act.put, List.setIfInBounds_toArray, List.set_cons_zero, List.set_cons_succ]
      have z0 := HU.out.at_ 0
      have y0 := HU.out.frozen 0
      have z1 := HU.out.at_ 1
      have y1 := HU.out.frozen 1
      have z2 := HU.out.at_ 2
      have y2 := HU.out.frozen 2
      have hA2 := hb1.alloc hb1.size (.cells #[.int .u8 P.c.toNat, .int .u8 P.i.toNat, .string P.d] 46)
      have HQ : Hid (PkB w1 (w7.alloc (.cells #[.int .u8 P.c.toNat, .int .u8 P.i.toNat, .string P.d] 46)) w7.heap.size P) := ⟨blk_new w7 [.int .u8 P.c.toNat, .int .u8 P.i.toNat, .string P.d] 46, hA2, hb1.size⟩
      have g0 := (hA2.cell (p := ⟨g, 5, none⟩) lg).trans s0
      have g1 := (hA2.cell (p := ⟨g, 9, none⟩) lg).trans s1
      have g2 := (hA2.cell (p := ⟨g, 3, none⟩) lg).trans s2
      refine wpAnyH_ready (rs := [19]) (by kernel_rfl) (by simp) ?_
      refine AllReadyH.cons (o := _) rfl (fun K hK => ?_) AllReadyH.nil
      try simp only [List.getElem_toArray, List.getElem_cons_succ, List.getElem_cons_zero, Act.put, List.setIfInBounds_toArray, List.set_cons_zero, List.set_cons_succ]
      go_simp
      refine hK.out _ _ ⟨g0, g1, g2⟩ (fun hHeld => ?_)
      clear hK K
      try simp only [List.getElem_toArray, List.getElem_cons_succ, List.getElem_cons_zero, Act.put, List.setIfInBounds_toArray, List.set_cons_zero, List.set_cons_succ]
      refine wpAnyH_take (i := 20) (v := ?vv20_18) rfl (by kernel_rfl) (by kernel_rfl) (by kernel_rfl) (fun _ _ _ h => h) (Or.inl ⟨by rfl, ?yy20_18⟩) (by assumption) ?rr20_18
      case yy20_18 => (intro w hSw; (try dsimp only at hSw); (try simp only [List.getElem_toArray, List.getElem_cons_succ, List.getElem_cons_zero, Act.put, List.setIfInBounds_toArray, List.set_cons_zero, List.set_cons_succ]); go_simp; (try (with_reducible rfl)))
      try simp only [List.getElem_toArray, List.getElem_cons_succ, List.getElem_cons_zero, Act.put, List.setIfInBounds_toArray, List.set_cons_zero, List.set_cons_succ]
      refine wpAnyH_done (by kernel_rfl) ?_ _
      go_wp2_with fail
      go_meet
      case rel => exact ⟨_, rfl, HQ⟩
    · skip
      have hA := (show Below w1.heap.size w1 w1.drew from Below.drewN' (Below.refl _ w1) 1).alloc (Nat.le_refl _) (.cells #[.int .u8 0, .int .u8 0, .string ⟨#[]⟩] 46)
      have b0 := (hA.cell (p := ⟨g, 5, none⟩) lg).trans s0
      have b1 := (hA.cell (p := ⟨g, 9, none⟩) lg).trans s1
      have b2 := (hA.cell (p := ⟨g, 3, none⟩) lg).trans s2
      have HU0 : Hid (Blk (w1.drew.alloc (.cells #[.int .u8 0, .int .u8 0, .string ⟨#[]⟩] 46)) w1.heap.size [.int .u8 0, .int .u8 0, .string ⟨#[]⟩] 46 ∧ Below w1.heap.size w1 (w1.drew.alloc (.cells #[.int .u8 0, .int .u8 0, .string ⟨#[]⟩] 46))) := ⟨blk_new w1.drew [.int .u8 0, .int .u8 0, .string ⟨#[]⟩] 46, hA⟩
      try simp only [List.getElem_toArray, List.getElem_cons_succ, List.getElem_cons_zero, Act.put, List.setIfInBounds_toArray, List.set_cons_zero, List.set_cons_succ]
      go_simp
      refine hK.out _ _ ⟨b0, b1, b2⟩ (fun hHeld => ?_)
      clear hK K
      try simp only [List.getElem_toArray, List.getElem_cons_succ, List.getElem_cons_zero, Act.put, List.setIfInBounds_toArray, List.set_cons_zero, List.set_cons_succ]
      refine wpAnyH_ready (rs := [14]) (by kernel_rfl) (by simp) ?_
      refine AllReadyH.cons (o := _) rfl (fun K hK => ?_) AllReadyH.nil
      try simp only [List.getElem_toArray, List.getElem_cons_succ, List.getElem_cons_zero, Act.put, List.setIfInBounds_toArray, List.set_cons_zero, List.set_cons_succ]
      go_simp
      refine (HC.out _ HU0.out.2).mono ?_
      rintro o w7 ⟨rfl, hb0⟩
      have HU : Hid (Blk w7 w1.heap.size [.int .u8 0, .int .u8 0, .string ⟨#[]⟩] 46 ∧ Below w1.heap.size w1 w7 ∧ w1.heap.size ≤ w1.heap.size) := ⟨HU0.out.1.callee hb0, HU0.out.2.trans (hb0.mono HU0.out.2.size), Nat.le_refl _⟩
      clear hb0
      have a0 := (HU.out.2.1.cell (p := ⟨g, 5, none⟩) lg).trans s0
      have a1 := (HU.out.2.1.cell (p := ⟨g, 9, none⟩) lg).trans s1
      have a2 := (HU.out.2.1.cell (p := ⟨g, 3, none⟩) lg).trans s2
      refine hK.out _ _ ⟨a0, a1, a2⟩ (fun hHeld => ?_)
      clear hK K
      try simp only [List.getElem_toArray, List.getElem_cons_succ, List.getElem_cons_zero, Act.put, List.setIfInBounds_toArray, List.set_cons_zero, List.set_cons_succ]
      refine wpAnyH_take (i := 15) (v := ?vv15_19) rfl (by kernel_rfl) (by kernel_rfl) (by kernel_rfl) (fun _ _ _ h => h) (Or.inl ⟨by rfl, ?yy15_19⟩) (by assumption) ?rr15_19
      case yy15_19 => (intro w hSw; (try dsimp only at hSw); (try simp only [List.getElem_toArray, List.getElem_cons_succ, List.getElem_cons_zero, Act.put, List.setIfInBounds_toArray, List.set_cons_zero, List.set_cons_succ]); go_simp; (try (with_reducible rfl)))
      try simp only [List.getElem_toArray, List.getElem_cons_succ, List.getElem_cons_zero, Act.put, List.setIfInBounds_toArray, List.set_cons_zero, List.set_cons_succ]
      refine wpAnyH_take (i := 16) (v := ?vv16_20) rfl (by kernel_rfl) (by kernel_rfl) (by kernel_rfl) (fun _ _ _ h => h) (Or.inl ⟨by rfl, ?yy16_20⟩) (by assumption) ?rr16_20
      case yy16_20 => (intro w hSw; (try dsimp only at hSw); (try simp only [List.getElem_toArray, List.getElem_cons_succ, List.getElem_cons_zero, Act.put, List.setIfInBounds_toArray, List.set_cons_zero, List.set_cons_succ]); go_simp; (try (with_reducible rfl)))
      try simp only [List.getElem_toArray, List.getElem_cons_succ, List.getElem_cons_zero, Act.put, List.setIfInBounds_toArray, List.set_cons_zero, List.set_cons_succ]
      refine wpAnyH_take (i := 17) (v := ?vv17_21) rfl (by kernel_rfl) (by kernel_rfl) (by kernel_rfl) (fun _ _ _ h => h) (Or.inl ⟨by rfl, ?yy17_21⟩) (by assumption) ?rr17_21
      case yy17_21 => (intro w hSw; (try dsimp only at hSw); (try simp only [List.getElem_toArray, List.getElem_cons_succ, List.getElem_cons_zero, Act.put, List.setIfInBounds_toArray, List.set_cons_zero, List.set_cons_succ]); go_simp; (try (with_reducible rfl)))
      try simp only [List.getElem_toArray, List.getElem_cons_succ, List.getElem_cons_zero, Act.put, List.setIfInBounds_toArray, List.set_cons_zero, List.set_cons_succ]
      have z0 := HU.out.1.at_ 0
      have y0 := HU.out.1.frozen 0
      have z1 := HU.out.1.at_ 1
      have y1 := HU.out.1.frozen 1
      have z2 := HU.out.1.at_ 2
      have y2 := HU.out.1.frozen 2
      have HQ := Lib.hid (pkb_put HU.out P)
      have g0 := (HQ.out.2.1.cell (p := ⟨g, 5, none⟩) lg).trans s0
      have g1 := (HQ.out.2.1.cell (p := ⟨g, 9, none⟩) lg).trans s1
      have g2 := (HQ.out.2.1.cell (p := ⟨g, 3, none⟩) lg).trans s2
      refine wpAnyH_ready (rs := [19]) (by kernel_rfl) (by simp) ?_
      refine AllReadyH.cons (o := _) rfl (fun K hK => ?_) AllReadyH.nil
      try simp only [List.getElem_toArray, List.getElem_cons_succ, List.getElem_cons_zero, Act.put, List.setIfInBounds_toArray, List.set_cons_zero, List.set_cons_succ]
      go_simp
      refine hK.out _ _ ⟨g0, g1, g2⟩ (fun hHeld => ?_)
      clear hK K
      try simp only [List.getElem_toArray, List.getElem_cons_succ, List.getElem_cons_zero, Act.put, List.setIfInBounds_toArray, List.set_cons_zero, List.set_cons_succ]
      refine wpAnyH_take (i := 20) (v := ?vv20_22) rfl (by kernel_rfl) (by kernel_rfl) (by kernel_rfl) (fun _ _ _ h => h) (Or.inl ⟨by rfl, ?yy20_22⟩) (by assumption) ?rr20_22
      case yy20_22 => (intro w hSw; (try dsimp only at hSw); (try simp only [List.getElem_toArray, List.getElem_cons_succ, List.getElem_cons_zero, Act.put, List.setIfInBounds_toArray, List.set_cons_zero, List.set_cons_succ]); go_simp; (try (with_reducible rfl)))
      try simp only [List.getElem_toArray, List.getElem_cons_succ, List.getElem_cons_zero, Act.put, List.setIfInBounds_toArray, List.set_cons_zero, List.set_cons_succ]
      refine wpAnyH_done (by kernel_rfl) ?_ _
      go_wp2_with fail
      go_meet
      case rel => exact ⟨_, rfl, HQ⟩
  case rest =>
    obtain ⟨bb, rfl, HU⟩ := hcut
    have u0 : wc.cell? ⟨bb, 0, none⟩ = some (.int .u8 P.c.toNat) := HU.out.1.at_ 0
    have u1 : wc.cell? ⟨bb, 1, none⟩ = some (.int .u8 P.i.toNat) := HU.out.1.at_ 1
    have u2 : wc.cell? ⟨bb, 2, none⟩ = some (.string P.d) := HU.out.1.at_ 2
    have HP2 := Lib.hid ((HP1.out.below HU.out.2.1).alloc (.cells #[.int .u8 P.c.toNat, .int .u8 P.i.toNat, .string P.d] 46))
    have HS := Lib.hid (send_any _ HP2.out.blk (sn_new wc g P 46 1 (Nat.lt_of_lt_of_le lg HU.out.2.1.size)))
    clear s0 s1 s2 HC
    go_wp2_with fail
    refine HS.out.mono ?_
    rintro e w5 ⟨A, c, rfl, hr, hx, hm⟩
    have HP3 := Lib.hid (HP2.out.moves hm hx)
    have HF := HP2.out.fin (sends [P]) (n := 1) (d := false) (f := false) (nm := bOf []) rfl rfl rfl rfl hr hx hm
    unfold outV outC sends
    simp only [List.length_cons, List.length_nil]
    clear hr hx hm
    have c0 := HP3.out.o0
    have c1 := HP3.out.o1
    have c2 := HP3.out.o2
    have c3 := HP3.out.o3
    have f0 := HP3.out.of 0
    have f1 := HP3.out.of 1
    have f2 := HP3.out.of 2
    have f3 := HP3.out.of 3
    go_wp2
    (try simp only [Exit.inBlock, Exit.then])
    refine bodyPost_ret (results_out rfl rfl (by exact HF.out.1)) rfl ?_
    exact HF.out.2
end Go.Proofs.YtpfbknbloeilmaaDoor.Ath
