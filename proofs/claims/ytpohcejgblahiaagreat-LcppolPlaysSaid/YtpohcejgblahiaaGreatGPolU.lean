/- Put together: PolU, PolW. -/
import Derived.Test.YtpohcejgblahiaaGreatGPolP
import Derived.Test.YtpohcejgblahiaaGreatGPolR
import Derived.Test.YtpohcejgblahiaaGreatGLcoK
import Derived.Test.YtpohcejgblahiaaGreatLcoSr

/- Contracts of auth, alive. -/
namespace Go.Proofs.YtpohcejgblahiaaGreat.Pol
open Go.RowKit Go.Proofs.YtpohcejgblahiaaGreat.Oct Go.Proofs.YtpohcejgblahiaaGreat.Row Go.Proofs.YtpohcejgblahiaaGreat.Mem Go.Proofs.YtpohcejgblahiaaGreat.Opt Go.Proofs.YtpohcejgblahiaaGreat.Lco

/-! ### the chapter's examples -/
def oP : Opt := (3, bOf [192, 35])
def oC : Opt := (3, bOf [194, 35, 5])
def oM : Opt := (1, bOf [0, 10])
def oN : Opt := (1, bOf [0, 64])
theorem oP_k : authK (bOf [192, 35]) = 1 := if_pos rfl
theorem oP_good : good oP = true := by show (authK (bOf [192, 35]) != 0) = true; rw [oP_k]; rfl
theorem oM_good : good oM = true := by show decide ((bOf [0, 10]).size = 2) = true; rw [size_bOf]; rfl
theorem sugP {p : Po} (h : p.c.can = 2) : sug p oP = oC := by
  unfold sug
  rw [lo_good oP_good]
  show ((3 : UInt8), dat 3 (bet p 3 (say lz oP))) = oC
  have e : (say lz oP).auth = 1 := oP_k
  unfold bet
  rw [if_neg (by decide), if_pos rfl, e, h]
  rfl
theorem sugM (p : Po) : sug p oM = oN := by
  unfold sug
  rw [lo_good oM_good]
  show ((1 : UInt8), dat 1 (bet p 1 (say lz oM))) = oN
  have e : (say lz oM).mru = 10 := by
    show UInt16.ofNat (val (bOf [0, 10]).toList) = 10
    rw [toList_bOf]
    rfl
  unfold bet
  rw [if_pos rfl, e]
  rfl
theorem oC_ne : ¬ oC = oP := fun e => by have := congrArg List.length (bOf_inj (congrArg (fun z : Opt => z.2) e)); cases this
theorem oN_ne : ¬ oN = oM := fun e => by
  have h : ([0, 64] : List UInt8) = [0, 10] := bOf_inj (show bOf [0, 64] = bOf [0, 10] from congrArg (fun z : Opt => z.2) e)
  exact absurd h (by decide)
theorem vs_one (p : Po) (o : Opt) : vs p [o] = [ver p [] o] := rfl
theorem one_rej {p : Po} {o : Opt} (ha : acc p o = false) : jC p [o] = 4 ∧ jA p [o] = [o] ∧ (jP p [o]).naks = 0 := by
  have h1 : refs (vs p [o]) = [o] := by
    rw [vs_one, refs_one]
    unfold ver
    rw [ha]
    simp
  obtain ⟨a, b, c⟩ := ref_of (p := p) (l := [o]) (by rw [h1]; simp)
  exact ⟨a, by rw [b, h1], by rw [c]⟩
theorem one_nak {p : Po} {o : Opt} (ha : acc p o = true) (hs : ¬ sug p o = o) (hn : ¬ (p.naks : Int) = p.c.mn) : jC p [o] = 3 ∧ jA p [o] = [sug p o] := by
  have hv : ver p [] o = ⟨o, false, sug p o⟩ := ver_clean rfl ha
  have hp : poor ⟨o, false, sug p o⟩ = true := by show (!decide (sug p o = o)) = true; rw [decide_eq_false hs]; rfl
  have h1 : refs (vs p [o]) = [] := by rw [vs_one, refs_one, hv]; rfl
  have h2 : poors (vs p [o]) = [o] := by rw [vs_one, poors_one, hv, hp]; rfl
  have h3 : insts (vs p [o]) = [sug p o] := by rw [vs_one, insts_one, hv, hp]; rfl
  obtain ⟨a, b, _⟩ := nak_of (p := p) (l := [o]) h1 (by rw [h2]; simp) hn
  exact ⟨a, by rw [b, h3]⟩
theorem none_ack (p : Po) : jC p [] = 2 ∧ jA p [] = [] := ⟨rfl, rfl⟩
set_option maxHeartbeats 1000000 in
set_option maxRecDepth 100000 in
theorem authP_any (w : World) : Calls Tryz.prog 21 #[.int .u8 1] w fun e w' => e = .returned (.agg #[.int .u8 3, .string ⟨#[192, 35]⟩]) ∧ Below w.heap.size w w' := by
  obtain ⟨W, hW, HW⟩ : ∃ W, w.alloc (.cells #[.int .u8 0, .string ⟨#[]⟩] 51) = W ∧ Hid (At W w.heap.size (0, ⟨#[]⟩) ∧ Below w.heap.size w W) := ⟨_, rfl, at_new w 0 ⟨#[]⟩, (Below.refl w.heap.size w).alloc (Nat.le_refl _) _⟩
  have f0 := Blk.frozen HW.out.1 0
  have f1 := Blk.frozen HW.out.1 1
  have c0 := HW.out.1.c0
  have c1 := HW.out.1.c1
  go_enter Tryz.func21, Tryz.ntmps21
  go_wp2
  (try simp only [Exit.inBlock, Exit.then])
  refine bodyPost_ret (opt_end rfl _ (3, ⟨#[192, 35]⟩) (HW.out.1.set (3, ⟨#[192, 35]⟩)) rfl) rfl ?_
  exact ⟨rfl, (HW.out.2.setCell (p := ⟨w.heap.size, 0, none⟩) (Nat.le_refl _) _).setCell (p := ⟨w.heap.size, 1, none⟩) (Nat.le_refl _) _⟩
set_option maxHeartbeats 1000000 in
set_option maxRecDepth 100000 in
theorem authC_any (w : World) : Calls Tryz.prog 21 #[.int .u8 2] w fun e w' => e = .returned (.agg #[.int .u8 3, .string ⟨#[194, 35, 5]⟩]) ∧ Below w.heap.size w w' := by
  obtain ⟨W, hW, HW⟩ : ∃ W, w.alloc (.cells #[.int .u8 0, .string ⟨#[]⟩] 51) = W ∧ Hid (At W w.heap.size (0, ⟨#[]⟩) ∧ Below w.heap.size w W) := ⟨_, rfl, at_new w 0 ⟨#[]⟩, (Below.refl w.heap.size w).alloc (Nat.le_refl _) _⟩
  have f0 := Blk.frozen HW.out.1 0
  have f1 := Blk.frozen HW.out.1 1
  have c0 := HW.out.1.c0
  have c1 := HW.out.1.c1
  go_enter Tryz.func21, Tryz.ntmps21
  go_wp2
  (try simp only [Exit.inBlock, Exit.then])
  refine bodyPost_ret (opt_end rfl _ (3, ⟨#[194, 35, 5]⟩) (HW.out.1.set (3, ⟨#[194, 35, 5]⟩)) rfl) rfl ?_
  exact ⟨rfl, (HW.out.2.setCell (p := ⟨w.heap.size, 0, none⟩) (Nat.le_refl _) _).setCell (p := ⟨w.heap.size, 1, none⟩) (Nat.le_refl _) _⟩
/-- Judge, told at one input. -/
def JudA (g C n : Nat) (a : List Opt) (q : Po) (w : World) (e : Ending) (w' : World) : Prop := ∃ A c, e = .returned (.tuple #[.int .u8 (C : Nat), .slice A n c]) ∧ Opts w' w'.heap.size A n a ∧ PAt w' g q ∧ Moves (fun k => k = g) w w'
theorem judge_at {g C m : Nat} {p : Po} {l a : List Opt} {A : Option Addr} {n c : Nat} {w : World} (h : PAt w g p) (hl : Opts w w.heap.size A n l) (hA : A = none → c = 0) (hn : n ≤ 1000) (hni : p.naks ≤ 1000) (hlo : p.loops ≤ 1000000) (hC : jC p l = C) (ha : jA p l = a) (hm : a.length = m) :
    Calls Tryz.prog 6 #[.pointer (some ⟨g, 0, none⟩), .slice A n c] w (JudA g C m a (jP p l) w) := by
  subst hC ha hm
  exact judge_any g p l A n c w h hl hA hn hni hlo
def ec (k : UInt8) (m : Int) : Conf := ⟨0, false, 0, 0, 0, k, false, false, false, m⟩
theorem newA (w : World) : Calls Tryz.prog 18 #[.agg #[Value.int .u16 0, .bool false, .int .u32 0, .int .u8 0, .int .u8 0, .int .u8 0, .bool false, .bool false, .bool false, .int .i64 3], .int .u32 7] w (NewQ (newP (ec 0 3) 7) w) := new_ok (ec 0 3) 7 w rfl
theorem newB (w : World) : Calls Tryz.prog 18 #[.agg #[Value.int .u16 0, .bool false, .int .u32 0, .int .u8 0, .int .u8 0, .int .u8 2, .bool false, .bool false, .bool false, .int .i64 3], .int .u32 7] w (NewQ (newP (ec 2 3) 7) w) := new_ok (ec 2 3) 7 w rfl
theorem newN (w : World) : Calls Tryz.prog 18 #[.agg #[Value.int .u16 0, .bool false, .int .u32 0, .int .u8 0, .int .u8 0, .int .u8 0, .bool false, .bool false, .bool false, .int .i64 0], .int .u32 7] w fun e w' => e = .returned (.tuple #[.pointer none, .int .i64 2]) ∧ Below w.heap.size w w' := new_no (ec 0 0) 7 w rfl
/-- Two policies of the call's own. -/
structure Al (w W : World) (g1 g2 : Nat) (p q : Po) : Prop where
  p : PAt W g1 p
  q : PAt W g2 q
  n : g1 ≠ g2
  b : Below w.heap.size w W
  l1 : w.heap.size ≤ g1
  l2 : w.heap.size ≤ g2
theorem Al.callee {w W W' : World} {g1 g2 : Nat} {p q : Po} (h : Al w W g1 g2 p q) (hb : Below W.heap.size W W') : Al w W' g1 g2 p q := ⟨h.p.callee hb, h.q.callee hb, h.n, h.b.trans (hb.mono h.b.size), h.l1, h.l2⟩
theorem Al.m1 {w W W' : World} {g1 g2 : Nat} {p q p' : Po} (h : Al w W g1 g2 p q) (hm : Moves (fun k => k = g1) W W') (hp : PAt W' g1 p') : Al w W' g1 g2 p' q :=
  ⟨hp, h.q.moves hm h.n.symm, h.n, h.b.trans (hm.below h.b.size (fun k e => by rw [e]; exact h.l1)), h.l1, h.l2⟩
theorem Al.m2 {w W W' : World} {g1 g2 : Nat} {p q q' : Po} (h : Al w W g1 g2 p q) (hm : Moves (fun k => k = g2) W W') (hp : PAt W' g2 q') : Al w W' g1 g2 p q' :=
  ⟨h.p.moves hm h.n, hp, h.n, h.b.trans (hm.below h.b.size (fun k e => by rw [e]; exact h.l2)), h.l1, h.l2⟩
theorem Al.x1 {w W W' : World} {g1 g2 : Nat} {p q : Po} {A : Option Addr} {n : Nat} {l : List Opt} (h : Al w W g1 g2 p q) (hm : Moves (fun k => k = g1) W W') (ho : Opts W W.heap.size A n l) : Opts W' W'.heap.size A n l := (opts_past ho h.p (pv_no _) hm (Nat.le_refl _)).more hm.size
theorem Al.x2 {w W W' : World} {g1 g2 : Nat} {p q : Po} {A : Option Addr} {n : Nat} {l : List Opt} (h : Al w W g1 g2 p q) (hm : Moves (fun k => k = g2) W W') (ho : Opts W W.heap.size A n l) : Opts W' W'.heap.size A n l := (opts_past ho h.q (pv_no _) hm (Nat.le_refl _)).more hm.size
end Go.Proofs.YtpohcejgblahiaaGreat.Pol

/- Contract of alive. -/
namespace Go.Proofs.YtpohcejgblahiaaGreat.Pol
open Go.RowKit Go.Proofs.YtpohcejgblahiaaGreat.Oct Go.Proofs.YtpohcejgblahiaaGreat.Row Go.Proofs.YtpohcejgblahiaaGreat.Mem Go.Proofs.YtpohcejgblahiaaGreat.Opt Go.Proofs.YtpohcejgblahiaaGreat.Lco

theorem rowP (w : World) : Opts (w.alloc (.cells #[.int .u8 3, .string ⟨#[192, 35]⟩] 51)) (w.alloc (.cells #[.int .u8 3, .string ⟨#[192, 35]⟩] 51)).heap.size (some ⟨w.heap.size, 0, none⟩) 1 [oP] := one_opt w oP (by show (bOf [192, 35]).size ≤ _; rw [size_bOf]; decide)
theorem rowC (w : World) : Opts (w.alloc (.cells #[.int .u8 3, .string ⟨#[194, 35, 5]⟩] 51)) (w.alloc (.cells #[.int .u8 3, .string ⟨#[194, 35, 5]⟩] 51)).heap.size (some ⟨w.heap.size, 0, none⟩) 1 [oC] := one_opt w oC (by show (bOf [194, 35, 5]).size ≤ _; rw [size_bOf]; decide)
theorem rowM (w : World) : Opts (w.alloc (.cells #[.int .u8 1, .string ⟨#[0, 10]⟩] 51)) (w.alloc (.cells #[.int .u8 1, .string ⟨#[0, 10]⟩] 51)).heap.size (some ⟨w.heap.size, 0, none⟩) 1 [oM] := one_opt w oM (by show (bOf [0, 10]).size ≤ _; rw [size_bOf]; decide)
theorem rowN (w : World) : Opts (w.alloc (.cells #[.int .u8 1, .string ⟨#[0, 64]⟩] 51)) (w.alloc (.cells #[.int .u8 1, .string ⟨#[0, 64]⟩] 51)).heap.size (some ⟨w.heap.size, 0, none⟩) 1 [oN] := one_opt w oN (by show (bOf [0, 64]).size ≤ _; rw [size_bOf]; decide)
set_option maxHeartbeats 8000000 in
set_option maxRecDepth 100000 in
theorem alive_any (w : World) : Calls Tryz.prog 5 #[] w fun e w' => e = .returned (.bool true) ∧ Below w.heap.size w w' := by
  go_enter Tryz.func5, Tryz.ntmps5
  go_wp2_with fail
  refine (newA _).mono ?_
  rintro e w1 ⟨g1, rfl, hg1, hp1, hb1⟩
  have HP1 := Lib.hid hp1
  have HB1 := Lib.hid hb1
  have HG1 := Lib.hid hg1
  clear hg1 hp1 hb1
  go_wp2_with fail
  refine (newB _).mono ?_
  rintro e w2 ⟨g2, rfl, hg2, hp2, hb2⟩
  have H2 : Hid (Al w w2 g1 g2 (newP (ec 0 3) 7) (newP (ec 2 3) 7)) := ⟨HP1.out.callee hb2, hp2, Nat.ne_of_lt (Nat.lt_of_lt_of_le HP1.out.lt hg2), HB1.out.trans (hb2.mono HB1.out.size), HG1.out, Nat.le_trans HB1.out.size hg2⟩
  clear hg2 hp2 hb2 HP1 HB1 HG1
  have Hp : Hid ((newP (ec 0 3) 7).c = ec 0 3 ∧ (newP (ec 0 3) 7).naks = 0 ∧ (newP (ec 0 3) 7).loops = 0) := ⟨rfl, rfl, rfl⟩
  have Hq : Hid ((newP (ec 2 3) 7).c = ec 2 3 ∧ (newP (ec 2 3) 7).naks = 0 ∧ (newP (ec 2 3) 7).loops = 0) := ⟨rfl, rfl, rfl⟩
  generalize newP (ec 0 3) 7 = p at *
  generalize newP (ec 2 3) 7 = q at *
  go_wp2_with fail
  refine (newN _).mono ?_
  rintro e w3 ⟨rfl, hb3⟩
  have H3 := Lib.hid (H2.out.callee hb3)
  clear hb3 H2
  go_wp2_with fail
  refine (authP_any _).mono ?_
  rintro e w4 ⟨rfl, hb4⟩
  have H4 := Lib.hid ((H3.out.callee hb4).callee ((Below.refl _ _).alloc (Nat.le_refl _) (.cells #[.int .u8 3, .string ⟨#[192, 35]⟩] 51)))
  clear hb4 H3
  have Hr := Lib.hid (one_rej (p := p) (o := oP) (by show (p.c.can != 0) = false; rw [Hp.out.1]; rfl))
  go_wp2_with fail
  refine (judge_at (C := 4) (m := 1) (a := [oP]) H4.out.p (rowP w4) (fun e => by cases e) (by omega) (by rw [Hp.out.2.1]; omega) (by rw [Hp.out.2.2]; omega) Hr.out.1 Hr.out.2.1 rfl).mono ?_
  rintro e w5 ⟨A5, c5, rfl, ho5, hp5, hm5⟩
  have H5 := Lib.hid (H4.out.m1 hm5 hp5)
  have HX := Lib.hid ho5
  have Hp5 : Hid ((jP p [oP]).c = ec 0 3 ∧ (jP p [oP]).naks = 0 ∧ (jP p [oP]).loops ≤ 1) := ⟨(jP_w p [oP]).2.1.trans Hp.out.1, Hr.out.2.2, by have := (jP_w p [oP]).2.2.2; rw [Hp.out.2.2] at this; exact this⟩
  clear hp5 hm5 ho5 H4 Hr Hp
  generalize jP p [oP] = p5 at *
  go_wp2_with fail
  refine (authP_any _).mono ?_
  rintro e w6 ⟨rfl, hb6⟩
  have H6 := Lib.hid ((H5.out.callee hb6).callee ((Below.refl _ _).alloc (Nat.le_refl _) (.cells #[.int .u8 3, .string ⟨#[192, 35]⟩] 51)))
  have HX6 := Lib.hid ((HX.out.next hb6).laid (.cells #[.int .u8 3, .string ⟨#[192, 35]⟩] 51))
  clear hb6 H5 HX
  have Hs := Lib.hid (one_nak (p := q) (o := oP) (by show (q.c.can != 0) = true; rw [Hq.out.1]; rfl) (by rw [sugP (by rw [Hq.out.1]; rfl)]; exact oC_ne) (by rw [Hq.out.1, Hq.out.2.1]; decide))
  go_wp2_with fail
  refine (judge_at (C := 3) (m := 1) (a := [oC]) H6.out.q (rowP w6) (fun e => by cases e) (by omega) (by rw [Hq.out.2.1]; omega) (by rw [Hq.out.2.2]; omega) Hs.out.1 (by rw [Hs.out.2, sugP (by rw [Hq.out.1]; rfl)]) rfl).mono ?_
  rintro e w7 ⟨A7, c7, rfl, ho7, hp7, hm7⟩
  have H7 := Lib.hid (H6.out.m2 hm7 hp7)
  have HX7 := Lib.hid (H6.out.x2 hm7 HX6.out)
  have HY7 := Lib.hid ho7
  clear hp7 hm7 ho7 H6 HX6 Hs Hq
  have H8 := Lib.hid (H7.out.callee ((Below.refl _ _).alloc (Nat.le_refl _) (.cells #[.int .u8 1, .string ⟨#[0, 10]⟩] 51)))
  have HX8 := Lib.hid (HX7.out.laid (.cells #[.int .u8 1, .string ⟨#[0, 10]⟩] 51))
  have HY8 := Lib.hid (HY7.out.laid (.cells #[.int .u8 1, .string ⟨#[0, 10]⟩] 51))
  clear H7 HX7 HY7
  have Ht := Lib.hid (one_nak (p := p5) (o := oM) (by show good oM = true; exact oM_good) (by rw [sugM]; exact oN_ne) (by rw [Hp5.out.1, Hp5.out.2.1]; decide))
  have Hn5 : Hid ((jP p5 [oM]).naks ≤ 1 ∧ (jP p5 [oM]).loops ≤ 2) := ⟨by have := (jP_w p5 [oM]).2.2.1; rw [Hp5.out.2.1] at this; exact this, by have := (jP_w p5 [oM]).2.2.2; have := Hp5.out.2.2; omega⟩
  go_wp2_with fail
  refine (judge_at (C := 3) (m := 1) (a := [oN]) H8.out.p (rowM w7) (fun e => by cases e) (by omega) (by rw [Hp5.out.2.1]; omega) (by have := Hp5.out.2.2; omega) Ht.out.1 (by rw [Ht.out.2, sugM]) rfl).mono ?_
  rintro e w9 ⟨A9, c9, rfl, ho9, hp9, hm9⟩
  have H9 := Lib.hid (H8.out.m1 hm9 hp9)
  have HX9 := Lib.hid (H8.out.x1 hm9 HX8.out)
  have HY9 := Lib.hid (H8.out.x1 hm9 HY8.out)
  have HZ9 := Lib.hid ho9
  clear hp9 hm9 ho9 H8 HX8 HY8 Ht Hp5
  generalize jP p5 [oM] = p9 at *
  go_wp2_with fail
  refine (judge_at (C := 2) (m := 0) (a := []) H9.out.p (opts_nil w9 _) (fun _ => rfl) (by omega) (by have := Hn5.out.1; omega) (by have := Hn5.out.2; omega) (none_ack p9).1 (none_ack p9).2 rfl).mono ?_
  rintro e w10 ⟨A10, c10, rfl, _, hp10, hm10⟩
  have H10 := Lib.hid (H9.out.m1 hm10 hp10)
  have HX10 := Lib.hid (H9.out.x1 hm10 HX9.out)
  have HY10 := Lib.hid (H9.out.x1 hm10 HY9.out)
  have HZ10 := Lib.hid (H9.out.x1 hm10 HZ9.out)
  clear hp10 hm10 H9 HX9 HY9 HZ9 Hn5
  have HB := Lib.hid H10.out.b
  clear H10
  go_wp2_with fail
  refine (authP_any _).mono ?_
  rintro e w11 ⟨rfl, hb11⟩
  have HX11 := Lib.hid ((HX10.out.next hb11).laid (.cells #[.int .u8 3, .string ⟨#[192, 35]⟩] 51))
  have HY11 := Lib.hid ((HY10.out.next hb11).laid (.cells #[.int .u8 3, .string ⟨#[192, 35]⟩] 51))
  have HZ11 := Lib.hid ((HZ10.out.next hb11).laid (.cells #[.int .u8 3, .string ⟨#[192, 35]⟩] 51))
  have HB11 := Lib.hid ((HB.out.trans (hb11.mono HB.out.size)).alloc (HB.out.trans (hb11.mono HB.out.size)).size (.cells #[.int .u8 3, .string ⟨#[192, 35]⟩] 51))
  clear hb11 HX10 HY10 HZ10 HB
  go_wp2_with fail
  refine (same_self [oP] _ _ 1 1 _ _ _ HX11.out (rowP w11) (by unfold maxLen; omega) (by unfold maxLen; omega)).mono ?_
  rintro e w12 ⟨rfl, hb12⟩
  have HY12 := Lib.hid (HY11.out.next hb12)
  have HZ12 := Lib.hid (HZ11.out.next hb12)
  have HB12 := Lib.hid (HB11.out.trans (hb12.mono HB11.out.size))
  clear hb12 HX11 HY11 HZ11 HB11
  go_wp2_with fail
  refine (authC_any _).mono ?_
  rintro e w13 ⟨rfl, hb13⟩
  have HY13 := Lib.hid ((HY12.out.next hb13).laid (.cells #[.int .u8 3, .string ⟨#[194, 35, 5]⟩] 51))
  have HZ13 := Lib.hid ((HZ12.out.next hb13).laid (.cells #[.int .u8 3, .string ⟨#[194, 35, 5]⟩] 51))
  have HB13 := Lib.hid ((HB12.out.trans (hb13.mono HB12.out.size)).alloc (HB12.out.trans (hb13.mono HB12.out.size)).size (.cells #[.int .u8 3, .string ⟨#[194, 35, 5]⟩] 51))
  clear hb13 HY12 HZ12 HB12
  go_wp2_with fail
  refine (same_self [oC] _ _ 1 1 _ _ _ HY13.out (rowC w13) (by unfold maxLen; omega) (by unfold maxLen; omega)).mono ?_
  rintro e w14 ⟨rfl, hb14⟩
  have HZ14 := Lib.hid ((HZ13.out.next hb14).laid (.cells #[.int .u8 1, .string ⟨#[0, 64]⟩] 51))
  have HB14 := Lib.hid ((HB13.out.trans (hb14.mono HB13.out.size)).alloc (HB13.out.trans (hb14.mono HB13.out.size)).size (.cells #[.int .u8 1, .string ⟨#[0, 64]⟩] 51))
  clear hb14 HY13 HZ13 HB13
  go_wp2_with fail
  refine (same_self [oN] _ _ 1 1 _ _ _ HZ14.out (rowN w14) (by unfold maxLen; omega) (by unfold maxLen; omega)).mono ?_
  rintro e w15 ⟨rfl, hb15⟩
  have HB15 := Lib.hid (HB14.out.trans (hb15.mono HB14.out.size))
  clear hb15 HZ14 HB14
  go_wp2
  go_ret
  exact ⟨rfl, HB15.out⟩
end Go.Proofs.YtpohcejgblahiaaGreat.Pol
