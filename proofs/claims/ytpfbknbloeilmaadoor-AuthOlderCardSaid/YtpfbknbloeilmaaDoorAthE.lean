/- A server: a draw's challenge; how it fails; what is done when its timer has run out. -/
import Derived.Test.YtpfbknbloeilmaaDoorAthD
import Derived.Test.YtpfbknbloeilmaaDoorGConvNew
import Derived.Test.YtpfbknbloeilmaaDoorMd5So
namespace Go.Proofs.YtpfbknbloeilmaaDoor.Ath
open Go.RowKit Go.Proofs.YtpfbknbloeilmaaDoor.Oct Go.Proofs.YtpfbknbloeilmaaDoor.Row Go.Proofs.YtpfbknbloeilmaaDoor.Mem Go.Proofs.YtpfbknbloeilmaaDoor.Md5

/-- It fails. -/
def loseS (s : Sv) : Sv := { s with st := 3, opn := false }
theorem pv_lose (s : Sv) : mV { mcS s with st := 3 } ++ (rS s).set 1 (.string ⟨#[]⟩) = pv (loseS s) := rfl
set_option maxHeartbeats 1000000 in
set_option maxRecDepth 100000 in
theorem lose_any (g : Nat) (s : Sv) (w : World) (h : SAt w g s) {v : Value} {l : List Pk} (hv : Sn w g v l) :
    Calls Tryd.prog 83 #[ptr g, v] w (OutQ g (pv (loseS s)) 67 (fails l) w) := by
  obtain ⟨V, hV, hs, HP, HB⟩ := start_one h
  have f9 := HP.out.f 9
  have q9 : V.cell? ⟨g, 9, none⟩ = some (.string (if s.opn then s.value else bOf [])) := HP.out.c 9
  have HP2 : Hid (Pt w (V.setCell ⟨g, 9, none⟩ (.string ⟨#[]⟩)) g w.heap.size (mV (mcS s) ++ (rS s).set 1 (.string ⟨#[]⟩)) 67) := HP.out.set 9 (.string ⟨#[]⟩)
  have HC := Lib.hid (fail_any g (mcS s) ((rS s).set 1 (.string ⟨#[]⟩)) _ _ HP2.out.blk ((hv.below HB.out).moves (set1_moves V g 9 (.string ⟨#[]⟩))))
  rw [pv_lose] at HC
  generalize pv (loseS s) = cs at *
  generalize (if s.opn then s.value else bOf []) = x at *
  clear h hv hs
  unfold ptr at *
  go_enter Tryd.func83, Tryd.ntmps83
  go_wp2_with fail
  refine HC.out.mono ?_
  rintro e w5 ⟨A, c, rfl, hr, hx, hm⟩
  have HP9 := Lib.hid (HP2.out.moves hm hx)
  have HF := HP2.out.fin (fails l) (n := l.length) (d := false) (f := true) (nm := bOf []) rfl rfl rfl rfl hr hx hm
  unfold outV outC fails
  (try simp only [List.length_cons, List.length_nil])
  clear hr hx hm
  have c0 := HP9.out.o0
  have c1 := HP9.out.o1
  have c2 := HP9.out.o2
  have c3 := HP9.out.o3
  have f0 := HP9.out.of 0
  have f1 := HP9.out.of 1
  have f2 := HP9.out.of 2
  have f3 := HP9.out.of 3
  go_wp2
  (try simp only [Exit.inBlock, Exit.then])
  refine bodyPost_ret (results_out rfl rfl (by exact HF.out.1)) rfl ?_
  exact HF.out.2
set_option maxHeartbeats 1000000 in
set_option maxRecDepth 100000 in
theorem giveUp_any (g : Nat) (s : Sv) (i : In) (w : World) (h : SAt w g s) :
    Calls Tryd.prog 62 #[ptr g, inV i] w (OutQ g (pv { s with st := 3 }) 67 (fails []) w) := by
  obtain ⟨V, hV, hs, HP, HB, HX⟩ := start_two h (inC i) 77
  unfold inC at hV
  have HC : Hid (Calls Tryd.prog 82 #[ptr g, .slice none 0 0] V (OutQ g (pv { s with st := 3 }) 67 (fails []) V)) := fail_any g (mcS s) (rS s) _ V HP.out.blk (sn_none V g)
  generalize pv { s with st := 3 } = cs at *
  clear h hs
  unfold ptr inV inC at *
  go_enter Tryd.func62, Tryd.ntmps62
  go_wp2_with fail
  refine HC.out.mono ?_
  rintro e w5 ⟨A, c, rfl, hr, hx, hm⟩
  have HP9 := Lib.hid (HP.out.moves hm hx)
  have HF := HP.out.fin (fails []) (n := 0) (d := false) (f := true) (nm := bOf []) rfl rfl rfl rfl hr hx hm
  unfold outV outC fails
  (try simp only [List.length_cons, List.length_nil])
  clear hr hx hm
  have c0 := HP9.out.o0
  have c1 := HP9.out.o1
  have c2 := HP9.out.o2
  have c3 := HP9.out.o3
  have f0 := HP9.out.of 0
  have f1 := HP9.out.of 1
  have f2 := HP9.out.of 2
  have f3 := HP9.out.of 3
  go_wp2
  (try simp only [Exit.inBlock, Exit.then])
  refine bodyPost_ret (results_out rfl rfl (by exact HF.out.1)) rfl ?_
  exact HF.out.2
set_option maxHeartbeats 1000000 in
set_option maxRecDepth 100000 in
theorem ask_any (g : Nat) (s : Sv) (i : In) (w : World) (h : SAt w g s) (hG : Globs w) (hw : s.own.size ≤ 255) (hp : pap s.c = false) :
    Calls Tryd.prog 51 #[ptr g, inV i] w (OutQ g (pv (chalS (ofDraw s i.draw))) 67 (sends [chalP (ofDraw s i.draw)]) w) := by
  obtain ⟨V, hV, hs, HP, HB, HX⟩ := start_two h (inC i) 77
  unfold inC at hV
  have HGV := Lib.hid (hG.below HB.out)
  have HU : Hid (∀ W, Calls Tryd.prog 73 #[.int .u32 i.draw.toNat] W fun e w' => e = .returned (.string (bOf (numS i.draw.toNat 4))) ∧ Below W.heap.size W w') := fun W => put32_any i.draw.toNat W (UInt32.toNat_lt i.draw)
  have HU2 : Hid (∀ W, Globs W → Calls Tryd.prog 11 #[.slice (some ⟨W.heap.size, 0, none⟩) 1 1] (W.alloc (.cells #[.string (bOf (numS i.draw.toNat 4))] 9)) fun e w' => e = .returned (.string (valueD i.draw)) ∧ Below W.heap.size W w') := fun W hW => by
    have hb := blk_new W [.string (bOf (numS i.draw.toNat 4))] 9
    have hB := (Below.refl _ W).alloc (Nat.le_refl _) (.cells #[.string (bOf (numS i.draw.toNat 4))] 9)
    have := sum_one W.heap.size (bOf (numS i.draw.toNat 4)) _ (hb.at_ 0) (by rw [size_bOf, numS_length]; decide) (hW.below hB)
    rw [toList_bOf] at this
    refine this.mono ?_
    rintro e w' ⟨rfl, h2⟩
    exact ⟨rfl, hB.trans (h2.mono hB.size)⟩
  have hz : (valueD i.draw).size ≤ 255 := by rw [value_size]; decide
  have HC : Hid (∀ W, SAt W g { s with value := valueD i.draw, sent := 0, opn := true } → Calls Tryd.prog 74 #[ptr g] W (OutQ g (pv (chalS (ofDraw s i.draw))) 67 (sends [chalP (ofDraw s i.draw)]) W)) := fun W hW =>
    challenge_any g { s with value := valueD i.draw, sent := 0, opn := true } W hW (Int.le_refl 0) (by show (0 : Int) ≤ 20; decide) hz hw rfl hp
  have x0 : V.cell? ⟨w.heap.size, 0, none⟩ = some (.int .u32 i.draw.toNat) := HX.out.at_ 0
  have t9 : ∃ v, V.cell? ⟨g, 9, none⟩ = some (.string v) := ⟨_, HP.out.c 9⟩
  have e1 : ((pv s).set 9 (.string (valueD i.draw))).set 6 (.int .i64 0) = pv { s with value := valueD i.draw, sent := 0, opn := true } := by
    show mV { mcS s with tried := 0 } ++ (rS s).set 1 (.string (valueD i.draw)) = _
    unfold pv mcS rS
    simp only [hp, Bool.false_eq_true, if_false, if_true]
    rfl
  have HT : Hid (∃ a, (pv s)[6]? = some (.int .i64 a)) := ⟨_, rfl⟩
  have HT9 : Hid (∃ a, (pv s)[9]? = some (.string a)) := ⟨_, rfl⟩
  unfold SAt at HC
  rw [← e1] at HC
  generalize pv (chalS (ofDraw s i.draw)) = cs at *
  generalize chalP (ofDraw s i.draw) = P at *
  generalize valueD i.draw = D at *
  have hz2 : (bOf (numS i.draw.toNat 4)).size ≤ 4 := by rw [size_bOf, numS_length]; decide
  generalize bOf (numS i.draw.toNat 4) = B at *
  clear h hG hw hp hs t9 e1
  generalize pv s = ps at *
  unfold ptr inV inC at *
  go_enter Tryd.func51, Tryd.ntmps51
  go_wp2_with fail
  refine (HU.out _).mono ?_
  rintro e w1 ⟨rfl, hb1⟩
  have HP1 := Lib.hid (HP.out.below hb1)
  have HG1 := Lib.hid (HGV.out.below hb1)
  clear hb1
  go_wp2_with fail
  refine (HU2.out _ HG1.out).mono ?_
  rintro e w2 ⟨rfl, hb2⟩
  have HP2 := Lib.hid (HP1.out.below hb2)
  have HP3 := Lib.hid ((HP2.out.set 9 (.string D)).set 6 (.int .i64 0))
  obtain ⟨a6, ha6⟩ := HT.out
  obtain ⟨a9, ha9⟩ := HT9.out
  have q9 : w2.cell? ⟨g, 9, none⟩ = some (.string a9) := (HP2.out.c 9).trans ha9
  have q6 : w2.cell? ⟨g, 6, none⟩ = some (.int .i64 a6) := (HP2.out.c 6).trans ha6
  have f9 := HP2.out.f 9
  have f6 := HP2.out.f 6
  clear hb2
  go_wp2_with fail
  refine (HC.out _ HP3.out.blk).mono ?_
  rintro e w5 ⟨A, c, rfl, hr, hx, hm⟩
  have HP9 := Lib.hid (HP3.out.moves hm hx)
  have HF := HP3.out.fin (sends [P]) (n := 1) (d := false) (f := false) (nm := bOf []) rfl rfl rfl rfl hr hx hm
  unfold outV outC sends
  (try simp only [List.length_cons, List.length_nil])
  clear hr hx hm
  have c0 := HP9.out.o0
  have c1 := HP9.out.o1
  have c2 := HP9.out.o2
  have c3 := HP9.out.o3
  have f0 := HP9.out.of 0
  have f1 := HP9.out.of 1
  have f2 := HP9.out.of 2
  have f3 := HP9.out.of 3
  go_wp2
  (try simp only [Exit.inBlock, Exit.then])
  refine bodyPost_ret (results_out rfl rfl (by exact HF.out.1)) rfl ?_
  exact HF.out.2
set_option maxHeartbeats 1000000 in
set_option maxRecDepth 100000 in
theorem repeat_any (g : Nat) (s : Sv) (i : In) (w : World) (h : SAt w g s) (h0 : 0 ≤ s.sent) (h1 : s.sent ≤ 20) (hv : s.value.size ≤ 255) (hw : s.own.size ≤ 255) (ho : s.opn = true) (hp : pap s.c = false) :
    Calls Tryd.prog 63 #[ptr g, inV i] w (OutQ g (pv (if s.sent < s.c.tries then chalS s else loseS s)) 67 (if s.sent < s.c.tries then sends [chalP s] else fails []) w) := by
  obtain ⟨V, hV, hs, HP, HB, HX⟩ := start_two h (inC i) 77
  unfold inC at hV
  have HE : Hid (Calls Tryd.prog 81 #[ptr g] V fun e w' => e = .returned (.bool (decide (s.c.tries ≤ s.sent))) ∧ ∃ k, w' = V.drewN k) := by
    have := exhausted_any g (mcS s) (rS s) _ V HP.out.blk
    rw [show (mcS s).tried = s.sent from by show (if pap s.c then s.bad else s.sent) = s.sent; rw [hp]; rfl] at this
    exact this
  have HC : Hid (∀ W, SAt W g s → Calls Tryd.prog 74 #[ptr g] W (OutQ g (pv (chalS s)) 67 (sends [chalP s]) W)) := fun W hW => challenge_any g s W hW h0 h1 hv hw ho hp
  have HL : Hid (∀ W, SAt W g s → Calls Tryd.prog 83 #[ptr g, .slice none 0 0] W (OutQ g (pv (loseS s)) 67 (fails []) W)) := fun W hW => lose_any g s W hW (sn_none W g)
  unfold SAt at HC HL
  clear h hs h0 h1 hv hw ho hp
  by_cases hlt : s.sent < s.c.tries
  · rw [if_pos hlt, if_pos hlt]
    have hd : decide (s.c.tries ≤ s.sent) = false := decide_eq_false (by omega)
    rw [hd] at HE
    generalize pv (chalS s) = cs at *
    generalize chalP s = P at *
    generalize pv s = ps at *
    clear hlt hd HL
    unfold ptr inV inC at *
    go_enter Tryd.func63, Tryd.ntmps63
    go_wp2_with fail
    refine HE.out.mono ?_
    rintro e w1 ⟨rfl, k, rfl⟩
    have HP1 := Lib.hid (HP.out.drewN k)
    go_wp2_with fail
    refine (HC.out _ HP1.out.blk).mono ?_
    rintro e w5 ⟨A, c, rfl, hr, hx, hm⟩
    have HP9 := Lib.hid (HP1.out.moves hm hx)
    have HF := HP1.out.fin (sends [P]) (n := 1) (d := false) (f := false) (nm := bOf []) rfl rfl rfl rfl hr hx hm
    unfold outV outC sends
    (try simp only [List.length_cons, List.length_nil])
    clear hr hx hm
    have c0 := HP9.out.o0
    have c1 := HP9.out.o1
    have c2 := HP9.out.o2
    have c3 := HP9.out.o3
    have f0 := HP9.out.of 0
    have f1 := HP9.out.of 1
    have f2 := HP9.out.of 2
    have f3 := HP9.out.of 3
    go_wp2
    (try simp only [Exit.inBlock, Exit.then])
    refine bodyPost_ret (results_out rfl rfl (by exact HF.out.1)) rfl ?_
    exact HF.out.2
  · rw [if_neg hlt, if_neg hlt]
    have hd : decide (s.c.tries ≤ s.sent) = true := decide_eq_true (by omega)
    rw [hd] at HE
    generalize pv (loseS s) = cs at *
    generalize pv s = ps at *
    clear hlt hd HC
    unfold ptr inV inC at *
    go_enter Tryd.func63, Tryd.ntmps63
    go_wp2_with fail
    refine HE.out.mono ?_
    rintro e w1 ⟨rfl, k, rfl⟩
    have HP1 := Lib.hid (HP.out.drewN k)
    go_wp2_with fail
    refine (HL.out _ HP1.out.blk).mono ?_
    rintro e w5 ⟨A, c, rfl, hr, hx, hm⟩
    have HP9 := Lib.hid (HP1.out.moves hm hx)
    have HF := HP1.out.fin (fails []) (n := 0) (d := false) (f := true) (nm := bOf []) rfl rfl rfl rfl hr hx hm
    unfold outV outC fails
    (try simp only [List.length_cons, List.length_nil])
    clear hr hx hm
    have c0 := HP9.out.o0
    have c1 := HP9.out.o1
    have c2 := HP9.out.o2
    have c3 := HP9.out.o3
    have f0 := HP9.out.of 0
    have f1 := HP9.out.of 1
    have f2 := HP9.out.of 2
    have f3 := HP9.out.of 3
    go_wp2
    (try simp only [Exit.inBlock, Exit.then])
    refine bodyPost_ret (results_out rfl rfl (by exact HF.out.1)) rfl ?_
    exact HF.out.2
/-- What a server that is done does when its timer has run out. -/
def againS (s : Sv) (d : UInt32) : Sv := if s.opn then (if s.sent < s.c.tries then chalS s else loseS s) else chalS (ofDraw s d)
def againO (s : Sv) (d : UInt32) : Ot := if s.opn then (if s.sent < s.c.tries then sends [chalP s] else fails []) else sends [chalP (ofDraw s d)]
theorem str_full {s : ByteArray} (h : s.size = 16) : s.toList.isEmpty = false := by
  have h1 : s.toList.length = 16 := by rw [← size_toList]; exact h
  cases hs : s.toList with
  | nil => rw [hs] at h1; cases h1
  | cons => rfl
theorem str_none : (bOf []).toList.isEmpty = true := by rw [toList_bOf]; rfl
set_option maxHeartbeats 1000000 in
set_option maxRecDepth 100000 in
theorem recheck_any (g : Nat) (s : Sv) (i : In) (w : World) (h : SAt w g s) (hG : Globs w) (h0 : 0 ≤ s.sent) (h1 : s.sent ≤ 20) (hv : s.opn = true → s.value.size = 16) (hw : s.own.size ≤ 255) (hp : pap s.c = false) :
    Calls Tryd.prog 64 #[ptr g, inV i] w (OutQ g (pv (againS s i.draw)) 67 (againO s i.draw) w) := by
  obtain ⟨V, hV, hs, HP, HB, HX⟩ := start_two h (inC i) 77
  unfold inC at hV
  have x0 := HX.out.at_ 0
  have x1 := HX.out.at_ 1
  have x2 := HX.out.at_ 2
  have x3 := HX.out.at_ 3
  have x4 := HX.out.at_ 4
  have x5 := HX.out.at_ 5
  unfold inC at x0 x1 x2 x3 x4 x5
  simp only [List.getElem?_cons_zero, List.getElem?_cons_succ] at x0 x1 x2 x3 x4 x5
  have q9 : V.cell? ⟨g, 9, none⟩ = some (.string (if s.opn then s.value else bOf [])) := HP.out.c 9
  have HA : Hid (Calls Tryd.prog 51 #[ptr g, inV i] V (OutQ g (pv (chalS (ofDraw s i.draw))) 67 (sends [chalP (ofDraw s i.draw)]) V)) := ask_any g s i V HP.out.blk (hG.below HB.out) hw hp
  unfold againS againO
  cases ho : s.opn
  · rw [ho] at q9
    simp only [Bool.false_eq_true, if_false] at q9 ⊢
    have k0 := str_none
    generalize pv (chalS (ofDraw s i.draw)) = cs at *
    generalize chalP (ofDraw s i.draw) = P at *
    clear h hs hG h0 h1 hv hw hp ho
    generalize bOf [] = nl at q9 k0
    unfold ptr inV inC at *
    go_enter Tryd.func64, Tryd.ntmps64
    go_wp2_with fail
    refine HA.out.mono ?_
    rintro e w5 ⟨A, c, rfl, hr, hx, hm⟩
    have HP9 := Lib.hid (HP.out.moves hm hx)
    have HF := HP.out.fin (sends [P]) (n := 1) (d := false) (f := false) (nm := bOf []) rfl rfl rfl rfl hr hx hm
    unfold outV outC sends
    (try simp only [List.length_cons, List.length_nil])
    clear hr hx hm
    have c0 := HP9.out.o0
    have c1 := HP9.out.o1
    have c2 := HP9.out.o2
    have c3 := HP9.out.o3
    have f0 := HP9.out.of 0
    have f1 := HP9.out.of 1
    have f2 := HP9.out.of 2
    have f3 := HP9.out.of 3
    go_wp2
    (try simp only [Exit.inBlock, Exit.then])
    refine bodyPost_ret (results_out rfl rfl (by exact HF.out.1)) rfl ?_
    exact HF.out.2
  · rw [ho] at q9
    simp only [if_true] at q9 ⊢
    have k0 := str_full (hv ho)
    have HR := Lib.hid (repeat_any g s i V HP.out.blk h0 h1 (by rw [hv ho]; decide) hw ho hp)
    generalize pv (if s.sent < s.c.tries then chalS s else loseS s) = cs at *
    generalize hO : (if s.sent < s.c.tries then sends [chalP s] else fails []) = O at *
    generalize s.value = vl at *
    clear h hs hG h0 h1 hv hw hp ho HA hO
    unfold ptr inV inC at *
    go_enter Tryd.func64, Tryd.ntmps64
    go_wp2_with fail
    refine HR.out.mono ?_
    rintro e w5 ⟨A, c, rfl, hr, hx, hm⟩
    have HP9 := Lib.hid (HP.out.moves hm hx)
    have HF := HP.out.fin O rfl rfl rfl rfl hr hx hm
    unfold outV outC
    generalize O.pkts.length = n at *
    clear hr hx hm
    have c0 := HP9.out.o0
    have c1 := HP9.out.o1
    have c2 := HP9.out.o2
    have c3 := HP9.out.o3
    have f0 := HP9.out.of 0
    have f1 := HP9.out.of 1
    have f2 := HP9.out.of 2
    have f3 := HP9.out.of 3
    go_wp2
    (try simp only [Exit.inBlock, Exit.then])
    refine bodyPost_ret (results_out rfl rfl (by exact HF.out.1)) rfl ?_
    exact HF.out.2
end Go.Proofs.YtpfbknbloeilmaaDoor.Ath
