/- Contract of layer 20's alive. -/
import Derived.Test.YtpfbknbloeilmaaDoorAthEx
import Derived.Test.YtpfbknbloeilmaaDoorGAthH
import Derived.Test.YtpfbknbloeilmaaDoorAthN
import Derived.BigQuiet
namespace Go.Proofs.YtpfbknbloeilmaaDoor.Ath
open Go.RowKit Go.Proofs.YtpfbknbloeilmaaDoor.Oct Go.Proofs.YtpfbknbloeilmaaDoor.Row Go.Proofs.YtpfbknbloeilmaaDoor.Mem Go.Proofs.YtpfbknbloeilmaaDoor.Md5

/-- Two servers in memory. -/
structure Tw (w W : World) (gs gt : Nat) (S T : Sv) : Prop where
  gl : Globs W
  s : SAt W gs S
  t : SAt W gt T
  hb : Below w.heap.size w W
  ls : w.heap.size ≤ gs
  lt : gs < gt
def Two (gs gt k : Nat) : Prop := k = gs ∨ k = gt
theorem Tw.below {w W W' : World} {gs gt : Nat} {S T : Sv} (h : Tw w W gs gt S T) (hb : Below W.heap.size W W') : Tw w W' gs gt S T := ⟨h.gl.below hb, Blk.callee h.s hb, Blk.callee h.t hb, h.hb.trans (hb.mono h.hb.size), h.ls, h.lt⟩
theorem Tw.gt_lt {w W : World} {gs gt : Nat} {S T : Sv} (h : Tw w W gs gt S T) : gt < W.heap.size := Blk.lt h.t
theorem Tw.callS {w W w1 : World} {gs gt : Nat} {S T S' : Sv} {o : Ot} {e : Ending} (h : Tw w W gs gt S T) (q : OutQ gs (pv S') 67 o W e w1) : ∃ A c, e = .returned (outV A c o) ∧ RowP w1 W.heap.size A c o.pkts ∧ Tw w w1 gs gt S' T ∧ Moves (Two gs gt) W w1 := by
  obtain ⟨A, c, rfl, hr, hx, hm⟩ := q
  exact ⟨A, c, rfl, hr, ⟨globs_server h.gl h.s hm, hx, Blk.moves h.t hm (fun e => by have := h.lt; omega), h.hb.trans (hm.below h.hb.size (fun k e => by have := h.ls; omega)), h.ls, h.lt⟩, hm.mono fun _ _ e => .inl e⟩
theorem Tw.callT {w W w1 : World} {gs gt : Nat} {S T T' : Sv} {o : Ot} {e : Ending} (h : Tw w W gs gt S T) (q : OutQ gt (pv T') 67 o W e w1) : ∃ A c, e = .returned (outV A c o) ∧ RowP w1 W.heap.size A c o.pkts ∧ Tw w w1 gs gt S T' ∧ Moves (Two gs gt) W w1 := by
  obtain ⟨A, c, rfl, hr, hx, hm⟩ := q
  exact ⟨A, c, rfl, hr, ⟨globs_server h.gl h.t hm, Blk.moves h.s hm (fun e => by have := h.lt; omega), hx, h.hb.trans (hm.below h.hb.size (fun k e => by have := h.ls; have := h.lt; omega)), h.ls, h.lt⟩, hm.mono fun _ _ e => .inr e⟩
/-- An outcome in a variable's block. -/
def OBox (W : World) (gt b : Nat) (A : Option Addr) (c : Nat) (o : Ot) : Prop := Blk W b (outC A c o) 39 ∧ Pks W A o.pkts ∧ gt < b ∧ ∀ ad, A = some ad → gt < ad.block
theorem OBox.moves {W W' : World} {gs gt b c : Nat} {A : Option Addr} {o : Ot} (h : OBox W gt b A c o) (hl : gs < gt) (hm : Moves (Two gs gt) W W') : OBox W' gt b A c o :=
  ⟨h.1.moves hm (fun e => by have := h.2.2.1; rcases e with e | e <;> omega), h.2.1.moves hm (fun ad e e' => by have := h.2.2.2 ad e; rcases e' with e' | e' <;> omega), h.2.2⟩
theorem OBox.below {W W' : World} {gt b c : Nat} {A : Option Addr} {o : Ot} (h : OBox W gt b A c o) (hb : Below W.heap.size W W') : OBox W' gt b A c o := ⟨h.1.callee hb, h.2.1.below hb, h.2.2⟩
theorem obox_new {w1 : World} {gt n0 c : Nat} {A : Option Addr} {o : Ot} (hr : RowP w1 n0 A c o.pkts) (h1 : gt < n0) (h2 : n0 ≤ w1.heap.size) (t : Array Value) (ht : t = (outC A c o).toArray) : OBox (w1.alloc (.cells t 39)) gt w1.heap.size A c o := by
  subst ht
  refine ⟨blk_new w1 (outC A c o) _, (pks_own hr).below ((Below.refl _ w1).alloc (Nat.le_refl _) _), by omega, fun ad e => ?_⟩
  subst e
  have := (hr.lt ad.block (by rfl)).1
  omega
theorem pks_first {W : World} {A : Option Addr} {p : Pk} (h : Pks W A [p]) : ∃ ad, A = some ad ∧ W.cell? ad = some (.int .u8 p.c.toNat) ∧ W.cell? ⟨ad.block, ad.off + 1, none⟩ = some (.int .u8 p.i.toNat) := by
  obtain ⟨ad, q, hA, hq, d0, d1, _⟩ := h.at_ (k := 0) (by simp)
  cases hq
  rw [Nat.zero_mul, show ad.add 0 = ad from by unfold Addr.add; simp] at d0 d1
  exact ⟨ad, hA, d0, d1⟩
theorem join_sz (a b : ByteArray) (ha : a.size ≤ 255) (hb : b.size ≤ 255) : (joinS [a, b]).size ≤ maxLen := by
  rw [(Pap.join_zero (join_small ha hb)).2, size_bOf]
  have h1 : a.toList.length ≤ 255 := by rw [← size_toList]; exact ha
  have h2 : b.toList.length ≤ 255 := by rw [← size_toList]; exact hb
  simp only [List.map_cons, List.map_nil, jn8, List.length_cons, List.length_append, List.length_nil]
  unfold maxLen
  omega
set_option maxHeartbeats 8000000 in
set_option maxRecDepth 100000 in
theorem alive_any (w : World) (hG : Globs w) : Calls Tryd.prog 7 #[] w fun e w' => e = .returned (.bool true) ∧ Below w.heap.size w w' := by
  have N1 : Hid (∀ W, Calls Tryd.prog 5 #[.agg #[.int .u8 1, .int .i64 2, .int .i64 3, .int .i64 0], .string ⟨#[109, 101]⟩] W (NewQ (newS xP tMe) W)) := fun W => newServer_ok xP tMe W (by decide) xP_may
  have N2 : Hid (∀ W, Calls Tryd.prog 5 #[.agg #[.int .u8 2, .int .i64 2, .int .i64 3, .int .i64 0], .string ⟨#[109, 101]⟩] W (NewQ (newS xC tMe) W)) := fun W => newServer_ok xC tMe W (by decide) xC_may
  have N3 : Hid (∀ W, Calls Tryd.prog 5 #[.agg #[.int .u8 0, .int .i64 0, .int .i64 0, .int .i64 0], .string ⟨#[109, 101]⟩] W fun e w' => e = .returned (.tuple #[.pointer none, .int .i64 2]) ∧ Below W.heap.size W w') := fun W => newServer_no ⟨0, 0, 0, 0⟩ tMe W (by decide) (by rw [x0_may]; rfl)
  have S0 : Hid (∀ g W, SAt W g (newS xP tMe) → Globs W → Calls Tryd.prog 9 #[.pointer (some ⟨g, 0, none⟩), .int .u32 1] W (OutQ g (pv exS1) 67 no W)) := fun g W h hG => by
    have := start_any g _ 1 W h ex_inv.1 hG
    rw [ex_start.1, ex_start.2] at this
    exact this
  have R1 : Hid (∀ W, Calls Tryd.prog 24 #[.int .u8 1, .string ⟨#[117]⟩, .string ⟨#[98, 97, 100]⟩] W fun e w' => e = .returned (.tuple #[.agg #[.int .u8 1, .int .u8 1, .string (joinS [tU, tBad])], .int .i64 0]) ∧ Below W.heap.size W w') := fun W => by
    have := Pap.request_any 1 tU tBad W (by decide) (by decide)
    rw [pap_pkV, join_small (a := tU) (b := tBad) (by decide) (by decide), pkO_ok rfl] at this
    exact this
  have R2 : Hid (∀ W, Calls Tryd.prog 24 #[.int .u8 2, .string ⟨#[117]⟩, .string ⟨#[103, 111, 111, 100]⟩] W fun e w' => e = .returned (.tuple #[.agg #[.int .u8 1, .int .u8 2, .string (joinS [tU, tGood])], .int .i64 0]) ∧ Below W.heap.size W w') := fun W => by
    have := Pap.request_any 2 tU tGood W (by decide) (by decide)
    rw [pap_pkV, join_small (a := tU) (b := tGood) (by decide) (by decide), pkO_ok rfl] at this
    exact this
  have P1 : Hid (∀ g W, SAt W g exS1 → Globs W → Calls Tryd.prog 21 #[.pointer (some ⟨g, 0, none⟩), .agg #[.int .u8 1, .int .u8 1, .string (joinS [tU, tBad])], .string ⟨#[103, 111, 111, 100]⟩, .bool true] W (OutQ g (pv exS2) 67 (sends [⟨3, 1, bOf [0]⟩]) W)) := fun g W h hG => by
    have := packet_any g _ ⟨1, 1, joinS [tU, tBad]⟩ tGood true W h ex_inv.2.1 hG (join_sz tU tBad (by decide) (by decide)) (by decide)
    rw [ex_bad.1, ex_bad.2] at this
    exact this
  have P2 : Hid (∀ g W, SAt W g exS2 → Globs W → Calls Tryd.prog 21 #[.pointer (some ⟨g, 0, none⟩), .agg #[.int .u8 1, .int .u8 2, .string (joinS [tU, tGood])], .string ⟨#[103, 111, 111, 100]⟩, .bool true] W (OutQ g (pv (packS exS2 ⟨1, 2, joinS [tU, tGood]⟩ tGood true)) 67 ⟨true, false, tU, [⟨2, 2, bOf [0]⟩]⟩ W)) := fun g W h hG => by
    have := packet_any g _ ⟨1, 2, joinS [tU, tGood]⟩ tGood true W h ex_inv.2.2.1 hG (join_sz tU tGood (by decide) (by decide)) (by decide)
    rw [ex_good] at this
    exact this
  have C0 : Hid (∀ g W, SAt W g (newS xC tMe) → Globs W → Calls Tryd.prog 9 #[.pointer (some ⟨g, 0, none⟩), .int .u32 1] W (OutQ g (pv (exT 1 1 3)) 67 (sends [⟨1, 1, Chp.vn (valueD 1) tMe⟩]) W)) := fun g W h hG => by
    have := start_any g _ 1 W h ex_inv.2.2.2.1 hG
    rw [ex_chal.1, ex_chal.2] at this
    exact this
  have K1 : Hid (∀ g W, SAt W g (exT 1 1 3) → Globs W → Calls Tryd.prog 17 #[.pointer (some ⟨g, 0, none⟩), .int .u32 2] W (OutQ g (pv (exT 1 1 2)) 67 no W)) := fun g W h hG => by
    have := stick_any g _ 2 W h ex_inv.2.2.2.2.1 hG
    rw [ex_t1.1, ex_t1.2] at this
    exact this
  have K2 : Hid (∀ g W, SAt W g (exT 1 1 2) → Globs W → Calls Tryd.prog 17 #[.pointer (some ⟨g, 0, none⟩), .int .u32 2] W (OutQ g (pv (exT 1 1 1)) 67 no W)) := fun g W h hG => by
    have := stick_any g _ 2 W h ex_inv.2.2.2.2.2.1 hG
    rw [ex_t2.1, ex_t2.2] at this
    exact this
  have K3 : Hid (∀ g W, SAt W g (exT 1 1 1) → Globs W → Calls Tryd.prog 17 #[.pointer (some ⟨g, 0, none⟩), .int .u32 2] W (OutQ g (pv (exT 2 2 3)) 67 (sends [⟨1, 2, Chp.vn (valueD 1) tMe⟩]) W)) := fun g W h hG => by
    have := stick_any g _ 2 W h ex_inv.2.2.2.2.2.2.1 hG
    rw [ex_t3.1, ex_t3.2] at this
    exact this
  have K4 : Hid (∀ g W, SAt W g (exT 2 2 3) → Globs W → Calls Tryd.prog 17 #[.pointer (some ⟨g, 0, none⟩), .int .u32 2] W (OutQ g (pv (exT 2 2 2)) 67 no W)) := fun g W h hG => by
    have := stick_any g _ 2 W h ex_inv.2.2.2.2.2.2.2.1 hG
    rw [ex_t4.1, ex_t4.2] at this
    exact this
  have K5 : Hid (∀ g W, SAt W g (exT 2 2 2) → Globs W → Calls Tryd.prog 17 #[.pointer (some ⟨g, 0, none⟩), .int .u32 2] W (OutQ g (pv (exT 2 2 1)) 67 no W)) := fun g W h hG => by
    have := stick_any g _ 2 W h ex_inv.2.2.2.2.2.2.2.2.1 hG
    rw [ex_t5.1, ex_t5.2] at this
    exact this
  have K6 : Hid (∀ g W, SAt W g (exT 2 2 1) → Globs W → Calls Tryd.prog 17 #[.pointer (some ⟨g, 0, none⟩), .int .u32 2] W (OutQ g (pv (tickS (exT 2 2 1) 2)) 67 (fails []) W)) := fun g W h hG => by
    have := stick_any g _ 2 W h ex_inv.2.2.2.2.2.2.2.2.2 hG
    rw [ex_t6] at this
    exact this
  generalize joinS [tU, tBad] = d1 at *
  generalize joinS [tU, tGood] = d2 at *
  generalize Chp.vn (valueD 1) tMe = d3 at *
  generalize packS exS2 ⟨1, 2, d2⟩ tGood true = sE at *
  generalize newS xP tMe = s0 at *
  generalize exS1 = s1 at *
  generalize exS2 = s2 at *
  generalize newS xC tMe = t0 at *
  generalize exT 1 1 3 = t1 at *
  generalize exT 1 1 2 = t2 at *
  generalize exT 1 1 1 = t3 at *
  generalize exT 2 2 3 = t4 at *
  generalize exT 2 2 2 = t5 at *
  generalize exT 2 2 1 = t6 at *
  generalize tickS t6 2 = t7 at *
  have HG := Lib.hid hG
  clear hG
  go_enter Tryd.func7, Tryd.ntmps7
  go_wp2_with fail
  refine (N1.out _).mono ?_
  rintro e w1 ⟨gs, rfl, hs1, hs2, hs3⟩
  have HG1 := Lib.hid (HG.out.below hs3)
  have HB1 := Lib.hid hs3
  have HS1 := Lib.hid hs2
  have Hgs := Lib.hid hs1
  clear hs1 hs2 hs3 N1
  unfold ptr
  go_wp2_with fail
  refine (N2.out _).mono ?_
  rintro e w2 ⟨gt, rfl, hs1, hs2, hs3⟩
  have HT : Hid (Tw w w2 gs gt s0 t0) := ⟨HG1.out.below hs3, Blk.callee HS1.out hs3, hs2, HB1.out.trans (hs3.mono HB1.out.size), Hgs.out, Nat.lt_of_lt_of_le (Blk.lt HS1.out) hs1⟩
  clear hs1 hs2 hs3 N2 HG1 HB1 HS1 Hgs HG
  unfold ptr
  go_wp2_with fail
  refine (N3.out _).mono ?_
  rintro e w3 ⟨rfl, hb⟩
  replace HT := Lib.hid (HT.out.below hb)
  have HL : Hid (gs < gt) := HT.out.lt
  clear hb N3
  go_wp2_with fail
  refine (S0.out gs _ HT.out.s HT.out.gl).mono ?_
  intro e w4 hq
  obtain ⟨A4, c4, rfl, hr, ht, hm⟩ := HT.out.callS hq
  have HGt : Hid (gt < _) := HT.out.gt_lt
  have HZ4 := Lib.hid hm.size
  replace HT := Lib.hid ht
  have OA := Lib.hid (obox_new hr HGt.out HZ4.out #[.slice A4 0 c4, .bool false, .bool false, .string (bOf [])] rfl)
  clear HGt HZ4
  have hbx := ((Below.refl _ w4).alloc (Nat.le_refl _) (.cells #[.slice A4 0 c4, .bool false, .bool false, .string (bOf [])] 39))
  replace HT := Lib.hid (HT.out.below hbx)
  clear hbx
  clear hq hr ht hm S0
  unfold outV outC no
  (try simp only [List.length_cons, List.length_nil])
  go_wp2_with fail
  refine (R1.out _).mono ?_
  rintro e w5 ⟨rfl, hb⟩
  replace OA := Lib.hid (OA.out.below hb)
  replace HT := Lib.hid (HT.out.below hb)
  have Q1 : Hid (Blk (w5.alloc (.cells #[.int .u8 1, .int .u8 1, .string d1] 46)) w5.heap.size [.int .u8 1, .int .u8 1, .string d1] 46) := blk_new w5 [.int .u8 1, .int .u8 1, .string d1] 46
  have hbx := (Below.refl _ w5).alloc (Nat.le_refl _) (.cells #[.int .u8 1, .int .u8 1, .string d1] 46)
  replace OA := Lib.hid (OA.out.below hbx)
  replace HT := Lib.hid (HT.out.below hbx)
  clear hb hbx R1
  go_wp2_with fail
  refine (R2.out _).mono ?_
  rintro e w6 ⟨rfl, hb⟩
  replace OA := Lib.hid (OA.out.below hb)
  replace HT := Lib.hid (HT.out.below hb)
  have HTg := Lib.hid HT.out.gt_lt
  have Q2 : Hid (Blk (w6.alloc (.cells #[.int .u8 1, .int .u8 2, .string d2] 46)) w6.heap.size [.int .u8 1, .int .u8 2, .string d2] 46) := blk_new w6 [.int .u8 1, .int .u8 2, .string d2] 46
  have hbx := (Below.refl _ w6).alloc (Nat.le_refl _) (.cells #[.int .u8 1, .int .u8 2, .string d2] 46)
  replace OA := Lib.hid (OA.out.below hbx)
  replace HT := Lib.hid (HT.out.below hbx)
  replace Q1 := Lib.hid ((Q1.out.callee hb).callee hbx)
  clear hb hbx R2
  have y0 := Q1.out.at_ 0
  have y1 := Q1.out.at_ 1
  have y2 := Q1.out.at_ 2
  simp only [List.getElem?_cons_zero, List.getElem?_cons_succ] at y0 y1 y2
  have HQ2 : Hid (¬ Two gs gt w6.heap.size) := fun e => by have h1 := HL.out; have h2 := HTg.out; rcases e with e | e <;> omega
  go_wp2_with fail
  refine (P1.out gs _ HT.out.s HT.out.gl).mono ?_
  intro e w7 hq
  obtain ⟨A7, c7, rfl, hr, ht, hm⟩ := HT.out.callS hq
  have HGt : Hid (gt < _) := HT.out.gt_lt
  have HZ7 := Lib.hid hm.size
  replace OA := Lib.hid (OA.out.moves HL.out hm)
  replace Q2 := Lib.hid (Q2.out.moves hm HQ2.out)
  replace HT := Lib.hid ht
  have OB := Lib.hid (obox_new hr HGt.out HZ7.out #[.slice A7 1 c7, .bool false, .bool false, .string (bOf [])] rfl)
  clear HGt HZ7
  have hbx := ((Below.refl _ w7).alloc (Nat.le_refl _) (.cells #[.slice A7 1 c7, .bool false, .bool false, .string (bOf [])] 39))
  replace OA := Lib.hid (OA.out.below hbx)
  replace HT := Lib.hid (HT.out.below hbx)
  replace Q2 := Lib.hid (Q2.out.callee hbx)
  clear hbx y0 y1 y2 HQ2 HTg
  clear hq hr ht hm P1
  unfold outV outC sends
  (try simp only [List.length_cons, List.length_nil])
  have y0 := Q2.out.at_ 0
  have y1 := Q2.out.at_ 1
  have y2 := Q2.out.at_ 2
  simp only [List.getElem?_cons_zero, List.getElem?_cons_succ] at y0 y1 y2
  go_wp2_with fail
  refine (P2.out gs _ HT.out.s HT.out.gl).mono ?_
  intro e w8 hq
  obtain ⟨A8, c8, rfl, hr, ht, hm⟩ := HT.out.callS hq
  have HGt : Hid (gt < _) := HT.out.gt_lt
  have HZ8 := Lib.hid hm.size
  replace OA := Lib.hid (OA.out.moves HL.out hm)
  replace OB := Lib.hid (OB.out.moves HL.out hm)
  replace HT := Lib.hid ht
  have OC := Lib.hid (obox_new hr HGt.out HZ8.out #[.slice A8 1 c8, .bool true, .bool false, .string tU] rfl)
  clear HGt HZ8
  have hbx := ((Below.refl _ w8).alloc (Nat.le_refl _) (.cells #[.slice A8 1 c8, .bool true, .bool false, .string tU] 39))
  replace OA := Lib.hid (OA.out.below hbx)
  replace OB := Lib.hid (OB.out.below hbx)
  replace HT := Lib.hid (HT.out.below hbx)
  clear hbx
  clear hq hr ht hm P2 y0 y1 y2
  unfold outV outC 
  (try simp only [List.length_cons, List.length_nil])
  go_wp2_with fail
  refine (C0.out gt _ HT.out.t HT.out.gl).mono ?_
  intro e w9 hq
  obtain ⟨A9, c9, rfl, hr, ht, hm⟩ := HT.out.callT hq
  have HGt : Hid (gt < _) := HT.out.gt_lt
  have HZ9 := Lib.hid hm.size
  replace OA := Lib.hid (OA.out.moves HL.out hm)
  replace OB := Lib.hid (OB.out.moves HL.out hm)
  replace OC := Lib.hid (OC.out.moves HL.out hm)
  replace HT := Lib.hid ht
  have OD := Lib.hid (obox_new hr HGt.out HZ9.out #[.slice A9 1 c9, .bool false, .bool false, .string (bOf [])] rfl)
  clear HGt HZ9
  have hbx := ((Below.refl _ w9).alloc (Nat.le_refl _) (.cells #[.slice A9 1 c9, .bool false, .bool false, .string (bOf [])] 39))
  replace OA := Lib.hid (OA.out.below hbx)
  replace OB := Lib.hid (OB.out.below hbx)
  replace OC := Lib.hid (OC.out.below hbx)
  replace HT := Lib.hid (HT.out.below hbx)
  clear hbx
  clear hq hr ht hm C0
  unfold outV outC sends
  (try simp only [List.length_cons, List.length_nil])
  go_wp2_with fail
  refine (K1.out gt _ HT.out.t HT.out.gl).mono ?_
  intro e w10 hq
  obtain ⟨A10, c10, rfl, hr, ht, hm⟩ := HT.out.callT hq
  replace OA := Lib.hid (OA.out.moves HL.out hm)
  replace OB := Lib.hid (OB.out.moves HL.out hm)
  replace OC := Lib.hid (OC.out.moves HL.out hm)
  replace OD := Lib.hid (OD.out.moves HL.out hm)
  replace HT := Lib.hid ht
  clear hq hr ht hm K1
  unfold outV outC no
  (try simp only [List.length_cons, List.length_nil])
  go_wp2_with fail
  refine (K2.out gt _ HT.out.t HT.out.gl).mono ?_
  intro e w11 hq
  obtain ⟨A11, c11, rfl, hr, ht, hm⟩ := HT.out.callT hq
  have HGt : Hid (gt < _) := HT.out.gt_lt
  have HZ11 := Lib.hid hm.size
  replace OA := Lib.hid (OA.out.moves HL.out hm)
  replace OB := Lib.hid (OB.out.moves HL.out hm)
  replace OC := Lib.hid (OC.out.moves HL.out hm)
  replace OD := Lib.hid (OD.out.moves HL.out hm)
  replace HT := Lib.hid ht
  have OH := Lib.hid (obox_new hr HGt.out HZ11.out #[.slice A11 0 c11, .bool false, .bool false, .string (bOf [])] rfl)
  clear HGt HZ11
  have hbx := ((Below.refl _ w11).alloc (Nat.le_refl _) (.cells #[.slice A11 0 c11, .bool false, .bool false, .string (bOf [])] 39))
  replace OA := Lib.hid (OA.out.below hbx)
  replace OB := Lib.hid (OB.out.below hbx)
  replace OC := Lib.hid (OC.out.below hbx)
  replace OD := Lib.hid (OD.out.below hbx)
  replace HT := Lib.hid (HT.out.below hbx)
  clear hbx
  clear hq hr ht hm K2
  unfold outV outC no
  (try simp only [List.length_cons, List.length_nil])
  go_wp2_with fail
  refine (K3.out gt _ HT.out.t HT.out.gl).mono ?_
  intro e w12 hq
  obtain ⟨A12, c12, rfl, hr, ht, hm⟩ := HT.out.callT hq
  have HGt : Hid (gt < _) := HT.out.gt_lt
  have HZ12 := Lib.hid hm.size
  replace OA := Lib.hid (OA.out.moves HL.out hm)
  replace OB := Lib.hid (OB.out.moves HL.out hm)
  replace OC := Lib.hid (OC.out.moves HL.out hm)
  replace OD := Lib.hid (OD.out.moves HL.out hm)
  replace OH := Lib.hid (OH.out.moves HL.out hm)
  replace HT := Lib.hid ht
  have OI := Lib.hid (obox_new hr HGt.out HZ12.out #[.slice A12 1 c12, .bool false, .bool false, .string (bOf [])] rfl)
  clear HGt HZ12
  have hbx := ((Below.refl _ w12).alloc (Nat.le_refl _) (.cells #[.slice A12 1 c12, .bool false, .bool false, .string (bOf [])] 39))
  replace OA := Lib.hid (OA.out.below hbx)
  replace OB := Lib.hid (OB.out.below hbx)
  replace OC := Lib.hid (OC.out.below hbx)
  replace OD := Lib.hid (OD.out.below hbx)
  replace OH := Lib.hid (OH.out.below hbx)
  replace HT := Lib.hid (HT.out.below hbx)
  clear hbx
  clear hq hr ht hm K3
  unfold outV outC sends
  (try simp only [List.length_cons, List.length_nil])
  go_wp2_with fail
  refine (K4.out gt _ HT.out.t HT.out.gl).mono ?_
  intro e w13 hq
  obtain ⟨A13, c13, rfl, hr, ht, hm⟩ := HT.out.callT hq
  replace OA := Lib.hid (OA.out.moves HL.out hm)
  replace OB := Lib.hid (OB.out.moves HL.out hm)
  replace OC := Lib.hid (OC.out.moves HL.out hm)
  replace OD := Lib.hid (OD.out.moves HL.out hm)
  replace OH := Lib.hid (OH.out.moves HL.out hm)
  replace OI := Lib.hid (OI.out.moves HL.out hm)
  replace HT := Lib.hid ht
  clear hq hr ht hm K4
  unfold outV outC no
  (try simp only [List.length_cons, List.length_nil])
  go_wp2_with fail
  refine (K5.out gt _ HT.out.t HT.out.gl).mono ?_
  intro e w14 hq
  obtain ⟨A14, c14, rfl, hr, ht, hm⟩ := HT.out.callT hq
  replace OA := Lib.hid (OA.out.moves HL.out hm)
  replace OB := Lib.hid (OB.out.moves HL.out hm)
  replace OC := Lib.hid (OC.out.moves HL.out hm)
  replace OD := Lib.hid (OD.out.moves HL.out hm)
  replace OH := Lib.hid (OH.out.moves HL.out hm)
  replace OI := Lib.hid (OI.out.moves HL.out hm)
  replace HT := Lib.hid ht
  clear hq hr ht hm K5
  unfold outV outC no
  (try simp only [List.length_cons, List.length_nil])
  go_wp2_with fail
  refine (K6.out gt _ HT.out.t HT.out.gl).mono ?_
  intro e w15 hq
  obtain ⟨A15, c15, rfl, hr, ht, hm⟩ := HT.out.callT hq
  have HGt : Hid (gt < _) := HT.out.gt_lt
  have HZ15 := Lib.hid hm.size
  replace OA := Lib.hid (OA.out.moves HL.out hm)
  replace OB := Lib.hid (OB.out.moves HL.out hm)
  replace OC := Lib.hid (OC.out.moves HL.out hm)
  replace OD := Lib.hid (OD.out.moves HL.out hm)
  replace OH := Lib.hid (OH.out.moves HL.out hm)
  replace OI := Lib.hid (OI.out.moves HL.out hm)
  replace HT := Lib.hid ht
  have OJ := Lib.hid (obox_new hr HGt.out HZ15.out #[.slice A15 0 c15, .bool false, .bool true, .string (bOf [])] rfl)
  clear HGt HZ15
  have hbx := ((Below.refl _ w15).alloc (Nat.le_refl _) (.cells #[.slice A15 0 c15, .bool false, .bool true, .string (bOf [])] 39))
  replace OA := Lib.hid (OA.out.below hbx)
  replace OB := Lib.hid (OB.out.below hbx)
  replace OC := Lib.hid (OC.out.below hbx)
  replace OD := Lib.hid (OD.out.below hbx)
  replace OH := Lib.hid (OH.out.below hbx)
  replace OI := Lib.hid (OI.out.below hbx)
  replace HT := Lib.hid (HT.out.below hbx)
  clear hbx
  clear hq hr ht hm K6
  unfold outV outC fails
  (try simp only [List.length_cons, List.length_nil])
  have b0 := OA.out.1.at_ 0
  have b1 := OB.out.1.at_ 0
  have b2 := OB.out.1.at_ 2
  have b3 := OC.out.1.at_ 1
  have b4 := OC.out.1.at_ 3
  have b5 := OD.out.1.at_ 0
  have b6 := OH.out.1.at_ 0
  have b7 := OI.out.1.at_ 0
  have b8 := OJ.out.1.at_ 2
  unfold outC at b0 b1 b2 b3 b4 b5 b6 b7 b8
  simp only [List.getElem?_cons_zero, List.getElem?_cons_succ] at b0 b1 b2 b3 b4 b5 b6 b7 b8
  unfold no at b0 b6
  unfold sends at b1 b2 b5 b7
  unfold fails at b8
  simp only [List.length_cons, List.length_nil] at b0 b1 b2 b3 b4 b5 b6 b7 b8
  have hu : tU.toList = [117] := toList_bOf [117]
  obtain ⟨ad1, e1, d10, d11⟩ := pks_first OB.out.2.1
  obtain ⟨ad2, e2, d20, d21⟩ := pks_first OD.out.2.1
  obtain ⟨ad3, e3, d30, d31⟩ := pks_first OI.out.2.1
  subst e1 e2 e3
  have HBz : Hid (Below w.heap.size w _) := HT.out.hb
  go_wp2
  go_ret
  exact ⟨rfl, HBz.out⟩
end Go.Proofs.YtpfbknbloeilmaaDoor.Ath
