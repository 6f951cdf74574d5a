/- Put together: PolG, PolI, PolJ, PolL, PolM. -/
import Derived.Test.YtpppggicihfbgaaGreatGLcoC
import Derived.Test.YtpppggicihfbgaaGreatGPolQ
import Derived.Test.YtpppggicihfbgaaGreatGOptRf
import Derived.Test.YtpppggicihfbgaaGreatGLcoK
import Derived.Test.YtpppggicihfbgaaGreatGLcoH
import Derived.Deep.CutRange
import Derived.Deep.LoopGhost
import Derived.Deep.RegionHeld3
import Derived.OrdersHeld
import Derived.Test.YtpppggicihfbgaaGreatPolK

/- Contracts of acceptable and improved. -/
namespace Go.Proofs.YtpppggicihfbgaaGreat.Pol
open Go.RowKit Go.Proofs.YtpppggicihfbgaaGreat.Oct Go.Proofs.YtpppggicihfbgaaGreat.Row Go.Proofs.YtpppggicihfbgaaGreat.Mem Go.Proofs.YtpppggicihfbgaaGreat.Opt Go.Proofs.YtpppggicihfbgaaGreat.Lco

theorem boxO (w : World) (o : Opt) : ∃ W, w.alloc (.cells #[.int .u8 o.1.toNat, .string o.2] 177) = W ∧ Hid (At W w.heap.size o ∧ Below w.heap.size w W ∧ W.heap.size = w.heap.size + 1) :=
  ⟨_, rfl, at_new w o.1 o.2, (Below.refl w.heap.size w).alloc (Nat.le_refl _) _, by simp⟩
theorem u8_ne0 (v : UInt8) : ((v.toNat : Int) != 0) = (v != 0) := by
  rw [Bool.eq_iff_iff, bne_iff_ne, bne_iff_ne]
  exact ⟨fun h e => h (by rw [e]; rfl), fun h e => h (UInt8.toNat_inj.1 (by show v.toNat = 0; omega))⟩
set_option maxHeartbeats 1000000 in
set_option maxRecDepth 100000 in
theorem acceptable_any (g : Nat) (p : Po) (o : Opt) (w : World) (h : PAt w g p) (hd : o.2.size ≤ 140737488351232) : Calls Tryz.prog 138 #[.pointer (some ⟨g, 0, none⟩), .agg #[.int .u8 o.1.toNat, .string o.2]] w fun e w' => e = .returned (.bool (acc p o)) ∧ Below w.heap.size w w' := by
  obtain ⟨W, hW, HW⟩ := boxO w o
  have HB := Lib.hid HW.out.2.1
  have c0 := HW.out.1.c0
  have c1 := HW.out.1.c1
  have hP : PAt W g p := h.callee HB.out
  have p14 : W.cell? ⟨g, 14, none⟩ = some (.int .u8 p.c.can.toNat) := hP.c 14
  by_cases h3 : o.1 = 3
  · have hx : ((o.1.toNat : Int) == 3) = true := u8_is (n := 3) (by rw [h3]; rfl)
    have hz := u8_ne0 p.c.can
    have HE : Hid (acc p o = (p.c.can != 0)) := if_pos h3
    clear h3 hP h HW
    go_enter Tryz.func138, Tryz.ntmps138
    go_wp2
    go_ret
    exact ⟨by rw [HE.out] <;> simp, HB.out⟩
  · have hx : ((o.1.toNat : Int) == 3) = false := u8_not (n := 3) (u8_isnt (by omega) h3)
    have HE : Hid (acc p o = good o) := if_neg h3
    have C1 := Lib.hid (good_any o.1 o.2 W (by unfold maxLen; omega))
    clear h3 hP h HW
    go_enter Tryz.func138, Tryz.ntmps138
    go_wp2_with fail
    refine C1.out.mono ?_
    rintro e w1 ⟨rfl, hb1⟩
    have HB1 := Lib.hid (HB.out.trans (hb1.mono HB.out.size))
    clear hb1
    go_wp2
    go_ret
    exact ⟨by rw [HE.out] <;> rfl, HB1.out⟩
theorem boxI (w : World) (o : Opt) (a b c : Value) : ∃ W, ((w.alloc (.cells #[.int .u8 o.1.toNat, .string o.2] 177)).alloc (.cells #[a, b, c] 238)).alloc (.cells #[.int .u8 0, .string ⟨#[]⟩] 177) = W ∧ Hid (At W w.heap.size o ∧ Blk W (w.heap.size + 1) [a, b, c] 238 ∧ At W (w.heap.size + 1 + 1) (0, ⟨#[]⟩) ∧ Below w.heap.size w W ∧ W.heap.size = w.heap.size + 1 + 1 + 1) := by
  refine ⟨_, rfl, ((at_new w o.1 o.2).alloc _).alloc _, ?_, ?_, (((Below.refl w.heap.size w).alloc (Nat.le_refl _) _).alloc (by simp) _).alloc (by simp; omega) _, by simp⟩
  · have := (blk_new (w.alloc (.cells #[.int .u8 o.1.toNat, .string o.2] 177)) [a, b, c] 238).alloc (.cells #[.int .u8 0, .string ⟨#[]⟩] 177)
    rw [World.size_alloc] at this
    exact this
  · have := at_new ((w.alloc (.cells #[.int .u8 o.1.toNat, .string o.2] 177)).alloc (.cells #[a, b, c] 238)) 0 ⟨#[]⟩
    rw [World.size_alloc, World.size_alloc] at this
    exact this
set_option maxRecDepth 100000 in
theorem opt_end {f : Func} {p : Nat} (hf : f.results = #[.cell p 177]) (tmps : Array Value) {W : World} {g : Nat} (o : Opt) (h : At W g o) (hp : tmps.getD p undef = .pointer (some ⟨g, 0, none⟩)) :
    (results f tmps).run Tryz.prog W = .ok (.agg #[.int .u8 o.1.toNat, .string o.2]) W := results_cell_row hf tmps W g _ _ _ _ hp h Tryz.underlying177 rfl (by kernel_rfl)
set_option maxHeartbeats 4000000 in
set_option maxRecDepth 100000 in
theorem improved_any (g : Nat) (p : Po) (o : Opt) (w : World) (h : PAt w g p) (ha : acc p o = true) (hd : o.2.size ≤ 140737488351232) :
    Calls Tryz.prog 139 #[.pointer (some ⟨g, 0, none⟩), .agg #[.int .u8 o.1.toNat, .string o.2], .agg #[.func (.func (fB o.1)) #[] #[], .func (.func (fN o.1)) #[] #[], .func (.func (fX o.1)) #[] #[]]] w fun e w' => e = .returned (.agg #[.int .u8 (sug p o).1.toNat, .string (sug p o).2]) ∧ Below w.heap.size w w' := by
  have hk := acc_known ha
  have HT := Lib.hid (fun g p x w h => bet_any hk g p x w h)
  have hE := fB_enters hk
  have HM := Lib.hid (bet_ok ha).1
  have HS := Lib.hid (sug_found ha)
  have HQ : Hid (lo o = lo o) := rfl
  clear ha hk
  obtain ⟨W, hW, HW⟩ := boxI w o (.func (.func (fB o.1)) #[] #[]) (.func (.func (fN o.1)) #[] #[]) (.func (.func (fX o.1)) #[] #[])
  generalize fB o.1 = F1 at *
  generalize fN o.1 = F2 at *
  generalize fX o.1 = F3 at *
  have HB := Lib.hid HW.out.2.2.2.1
  have HP := Lib.hid (h.callee HB.out)
  have c0 := HW.out.1.c0
  have c1 := HW.out.1.c1
  have HO := Lib.hid HW.out.1
  have HF := Lib.hid HW.out.2.1
  have HR := Lib.hid HW.out.2.2.1
  have HSZ := Lib.hid HW.out.2.2.2.2
  have HG := Lib.hid (get_row [o] (some ⟨W.heap.size, 0, none⟩) 1 1 (W.alloc (.cells #[.int .u8 o.1.toNat, .string o.2] 177)) (one_opt W o hd) (by omega))
  clear h HW
  go_enter Tryz.func139, Tryz.ntmps139
  go_wp2_with fail
  refine HG.out.mono ?_
  rintro e w1 ⟨A, c, rfl, _, hb1⟩
  clear hW
  have HB1 := Lib.hid (((Below.refl W.heap.size W).alloc (Nat.le_refl _) (.cells #[.int .u8 o.1.toNat, .string o.2] 177)).trans (hb1.mono (by simp)))
  clear hb1 HG
  rw [show Lco.gL [o] = lo o from rfl]
  generalize (gO [o]).length = n1
  generalize gE [o] = e1
  generalize lo o = x at *
  obtain ⟨V, hV, HV⟩ := boxL w1 x
  have HB2 : Hid (Below W.heap.size W V) := HB1.out.trans (HV.out.2.1.mono HB1.out.size)
  have HB3 := Lib.hid (HB.out.trans (HB2.out.mono HB.out.size))
  have HP2 := Lib.hid (HP.out.callee HB2.out)
  have HO2 := Lib.hid (HO.out.callee HB2.out)
  have HR2 := Lib.hid (HR.out.callee HB2.out)
  have HF2 := Lib.hid (Blk.callee HF.out HB2.out)
  have k0 : V.cell? ⟨w.heap.size + 1, 0, none⟩ = some (.func (.func F1) #[] #[]) := Blk.at_ HF2.out 0
  obtain ⟨d0, d1, d2, d3, d4, d5, d7, d8⟩ := cells8 HV.out.1
  have d6 : V.cell? ⟨w1.heap.size, 6, none⟩ = some (.int .u32 x.magic.toNat) := HV.out.1.c 6
  unfold lv
  go_wp2_with fail
  refine (HT.out g p x _ HP2.out).mono ?_
  rintro e w2 ⟨rfl, hb2⟩
  have HB4 := Lib.hid (HB3.out.trans (hb2.mono HB3.out.size))
  have HO4 := Lib.hid (HO2.out.callee hb2)
  have HR4 := Lib.hid (HR2.out.callee hb2)
  clear hb2 HT hE k0 HF2 HP2 HO2 HR2 HB2 HB3 HB1 HF HO HR hV HV d0 d1 d2 d3 d4 d5 d6 d7 d8
  generalize bet p o.1 x = y at *
  go_wp2_with fail
  refine (put_yes y _ HM.out).mono ?_
  rintro e w3 ⟨A2, c2, rfl, hO3, hb3⟩
  have HB5 := Lib.hid (HB4.out.trans (hb3.mono HB4.out.size))
  have HO5 := Lib.hid (HO4.out.callee hb3)
  have HR5 := Lib.hid (HR4.out.callee hb3)
  have HL5 := Lib.hid hO3
  have t0 := HO5.out.c0
  clear hb3 hO3 HO4 HR4 HB4
  go_wp2_with fail
  refine (find_any o.1 (put y) _ A2 _ c2 w3 HL5.out (by have := put_len6 y; unfold maxLen; omega) (Nat.le_refl _)).mono ?_
  rintro e w4 ⟨rfl, hb4⟩
  rw [HS.out]
  have HB6 := Lib.hid (HB5.out.trans (hb4.mono HB5.out.size))
  have HR6 := Lib.hid (HR5.out.callee hb4)
  clear hb4 HL5 HS HB5 HR5 HO5 t0 c0 c1
  obtain ⟨V, hV, HV⟩ := boxO w4 (sug p o)
  generalize hr : sug p o = r at *
  have HRR := Lib.hid hr
  clear hr
  have HR7 := Lib.hid (HR6.out.callee HV.out.2.1)
  have v0 := HV.out.1.c0
  have v1 := HV.out.1.c1
  have f0 := Blk.frozen HR7.out 0
  have f1 := Blk.frozen HR7.out 1
  have z0 := HR7.out.c0
  have z1 := HR7.out.c1
  have HB7 := Lib.hid (HB6.out.trans (HV.out.2.1.mono HB6.out.size))
  go_wp2
  (try simp only [Exit.inBlock, Exit.then])
  refine bodyPost_ret (opt_end rfl _ r (HR7.out.set r) rfl) rfl ?_
  exact ⟨by rw [HRR.out], (HB7.out.setCell (p := ⟨w.heap.size + 1 + 1, 0, none⟩) (by show w.heap.size ≤ w.heap.size + 1 + 1; omega) _).setCell (p := ⟨w.heap.size + 1 + 1, 1, none⟩) (by show w.heap.size ≤ w.heap.size + 1 + 1; omega) _⟩
end Go.Proofs.YtpppggicihfbgaaGreat.Pol

/- Contract of evaluate. -/
set_option linter.unusedSimpArgs false
set_option linter.unusedVariables false
namespace Go.Proofs.YtpppggicihfbgaaGreat.Pol
open List (getElem_toArray getElem_cons_succ getElem_cons_zero setIfInBounds_toArray set_cons_zero set_cons_succ)
open Go.RowKit Go.Proofs.YtpppggicihfbgaaGreat.Oct Go.Proofs.YtpppggicihfbgaaGreat.Row Go.Proofs.YtpppggicihfbgaaGreat.Mem Go.Proofs.YtpppggicihfbgaaGreat.Opt Go.Proofs.YtpppggicihfbgaaGreat.Lco

structure Eh (w wx : World) (g : Nat) (p : Po) (m ge bo b : Nat) (v : Value) (l : List Opt) (k : Nat) (o : Opt) (r : Bool) : Prop where
  E : Ev w wx g p m ge v l k
  O : At wx bo o
  V : VAt wx b ⟨o, r, zo⟩
  n : bo ≠ b
  q : ∀ q, v.ownBlock = some q → ¬ q = b
  l : w.heap.size ≤ b
theorem Eh.drew {w wx : World} {g : Nat} {p : Po} {m ge bo b : Nat} {v : Value} {l : List Opt} {k : Nat} {o : Opt} {r : Bool} (h : Eh w wx g p m ge bo b v l k o r) : Eh w wx.drew g p m ge bo b v l k o r :=
  ⟨⟨h.E.hp, h.E.hm, h.E.ht, h.E.hr, h.E.hb.drew, h.E.he⟩, h.O, h.V, h.n, h.q, h.l⟩
def setV (W : World) (b : Nat) (v : Ver) : World := ((((W.setCell ⟨b, 0, none⟩ (.int .u8 v.got.1.toNat)).setCell ⟨b, 1, none⟩ (.string v.got.2)).setCell ⟨b, 2, none⟩ (.bool v.rej)).setCell ⟨b, 3, none⟩ (.int .u8 v.bet.1.toNat)).setCell ⟨b, 4, none⟩ (.string v.bet.2)
theorem setV_at {W : World} {b : Nat} {v : Ver} (h : VAt W b v) (v' : Ver) : VAt (setV W b v') b v' := ((((Blk.set h 0 (.int .u8 v'.got.1.toNat)).set 1 (.string v'.got.2)).set 2 (.bool v'.rej)).set 3 (.int .u8 v'.bet.1.toNat)).set 4 (.string v'.bet.2)
theorem setV_moves (W : World) (b : Nat) (v : Ver) : Moves (fun j => j = b) W (setV W b v) :=
  ((((set_moves W b 0 _).trans (set_moves _ b 1 _) (fun _ _ h => h)).trans (set_moves _ b 2 _) (fun _ _ h => h)).trans (set_moves _ b 3 _) (fun _ _ h => h)).trans (set_moves _ b 4 _) (fun _ _ h => h)
theorem VAt.ne {w : World} {b g : Nat} {v : Ver} {cs : List Value} {t : TypeId} (h : VAt w b v) (h2 : Blk w g cs t) (ht : t ≠ 225) : g ≠ b := by
  rintro rfl
  have h1 : w.heap[g]? = _ := h
  have h3 : w.heap[g]? = _ := h2
  rw [h1] at h3
  simp only [Option.some.injEq, Obj.cells.injEq] at h3
  exact ht h3.2.1.symm
theorem Ev.ne {w wx : World} {g : Nat} {p : Po} {m ge b : Nat} {v : Value} {l : List Opt} {k : Nat} {x : Ver} (h : Ev w wx g p m ge v l k) (hV : VAt wx b x) : g ≠ b ∧ m ≠ b ∧ ge ≠ b := by
  refine ⟨hV.ne h.hp (by decide), sy_blk h.hm hV, ?_⟩
  rintro rfl
  have h1 : wx.heap[ge]? = _ := hV
  have h3 : wx.heap[ge]? = _ := h.ht
  rw [h1] at h3
  simp only [Option.some.injEq, Obj.cells.injEq] at h3
  exact absurd h3.2.1 (by decide)
theorem Eh.setV {w wx : World} {g : Nat} {p : Po} {m ge bo b : Nat} {v : Value} {l : List Opt} {k : Nat} {o : Opt} {x : Ver} (h : Ev w wx g p m ge v l k) (hO : At wx bo o) (hV : VAt wx b x) (r : Bool) (hn : bo ≠ b) (hq : ∀ q, v.ownBlock = some q → ¬ q = b) (hl : w.heap.size ≤ b) : Eh w (setV wx b ⟨o, r, zo⟩) g p m ge bo b v l k o r :=
  ⟨h.moved (setV_moves _ _ _) (h.ne hV).1 (h.ne hV).2.1 (h.ne hV).2.2 hq hl, Blk.moves hO (setV_moves _ _ _) hn, setV_at hV _, hn, hq, hl⟩
set_option maxHeartbeats 8000000 in
set_option maxRecDepth 100000 in
theorem evaluate_any (g : Nat) (p : Po) (l : List Opt) (A : Option Addr) (n c : Nat) (w : World) (h : PAt w g p) (hl : Opts w w.heap.size A n l) (hn : n ≤ 1000) :
    Calls Tryz.prog 123 #[.pointer (some ⟨g, 0, none⟩), .slice A n c] w (EvQ p l n w) := by
  obtain ⟨i1, hi, hz0, hz1, hz2⟩ := info_parts Tryz.info225
  have Hn := Lib.hid hl.1
  have Hl := Lib.hid hl; clear hl
  have HP := Lib.hid h; clear h
  have hz := zero_tabB
  go_enter Tryz.func123, Tryz.ntmps123
  go_wp2_with fail
  refine (sayings_any w).mono ?_
  rintro e w1 ⟨m, rfl, hm1, hs1, hb1⟩
  have HB1 := Lib.hid hb1
  have HP1 := Lib.hid (HP.out.callee hb1)
  have HS1 := Lib.hid hs1
  have HT1 : Hid (TabB (w1.alloc (.cells (arrB fun _ => false) 244)) w1.heap.size (sn [])) := World.alloc_heap_new w1 _
  have HE1 := Lib.hid hb1.size
  clear hb1 hs1 HP
  have HE2 : Hid (w.heap.size ≤ (w1.alloc (.cells (arrB fun _ => false) 244)).heap.size) := by show _ ≤ _; rw [World.size_alloc]; exact Nat.le_succ_of_le HE1.out
  go_wp2_with (at_make; refine wpList_make_own _ rfl _ _ 221 rfl w.heap.size 225 i1 _ 5 Tryz.underlying221 hi hz0 hz1 .i64 .i64 _ n rfl rfl rfl (by rw [hz2]; omega) (by unfold maxLen; omega) HE2.out ?_; intro w2 hown2 hgr2; have Hown2 := Lib.hid hown2; have Hgr2 := Lib.hid hgr2; clear hown2 hgr2)
  have HG2 : Hid (Below (w1.alloc (.cells (arrB fun _ => false) 244)).heap.size (w1.alloc (.cells (arrB fun _ => false) 244)) w2) := (Below.refl _ _).grown Hgr2.out (Nat.le_refl _) (fun q e => by cases e)
  have HF2 : Hid (Below w1.heap.size w1 w2) := ((Below.refl _ _).alloc (Nat.le_refl _) _).trans (HG2.out.mono (by rw [World.size_alloc]; exact Nat.le_succ _))
  have H0 : Hid (∃ v, v = .slice (some ⟨(w1.alloc (.cells (arrB fun _ => false) 244)).heap.size, 0, none⟩) 0 n ∧ Ev w w2 g p m w1.heap.size v l 0) :=
    ⟨_, rfl, HP1.out.callee HF2.out, HS1.out.callee HF2.out, HT1.out.callee HG2.out, Hown2.out, HB1.out.trans (HF2.out.mono HB1.out.size), HE1.out⟩
  clear HP1 HS1 HT1 Hown2 Hgr2 HG2 HF2 HB1 hz HE2
  rw [World.size_alloc] at H0
  generalize w1.heap.size = ge at *
  go_loopg [7, 17] n (fun gk v i wr => ∃ k : Nat, k ≤ n ∧ gk = n - k ∧ i = .int .i64 k ∧ Hid (Ev w wr g p m ge v l k))
  case atStart => obtain ⟨v, rfl, hv⟩ := H0.out; exact ⟨0, Nat.zero_le _, rfl, rfl, hv⟩
  case round =>
    obtain ⟨k, hk, hgk, rfl, HE⟩ := hrel
    have Hgk := Lib.hid hgk; clear hgk
    by_cases hlt : k < n
    · obtain ⟨ad, o, rfl, hB, ho, hS1, hc0, hc1⟩ := (Hl.out.below HE.out.hb).at_ hlt
      have Hvs := Lib.hid (vs_snoc p l k o ho)
      have Hsn := Lib.hid (sn_next l k o ho)
      clear ho
      obtain ⟨W, hW, HW⟩ := boxO wr o
      have HEW := Lib.hid (HE.out.callee HW.out.2.1)
      have HOW := Lib.hid HW.out.1
      have HR : Hid (∀ q, u7.ownBlock = some q → q < wr.heap.size) := fun q hq => (HE.out.hr.lt q hq).2
      have HBW : Hid (w.heap.size ≤ wr.heap.size ∧ W.heap.size = wr.heap.size + 1) := ⟨HE.out.hb.size, HW.out.2.2⟩
      go_upto_region 7 with (fail)
      clear hW HW hc0 hc1
      generalize wr.heap.size = bo at *
      have hq : o.1.toNat < 256 := o.1.toNat_lt
      go_cut [10] from 18 to 51 (fun s10 wx => ∃ b : Nat, s10 = .pointer (some ⟨b, 0, none⟩) ∧ Hid (Eh w wx g p m ge bo b u7 l k o (seen (l.take k) o.1 || !acc p o)))
      case first =>
        have a0 := HOW.out.c0
        have a1 := HOW.out.c1
        have t0 : W.cell? ⟨ge, o.1.toNat, none⟩ = some (.bool (seen (l.take k) o.1)) := by rw [← sn_at]; exact HEW.out.ht.cell _ hq
        have q0 : (0 : Int) ≤ (o.1.toNat : Int) := Int.natCast_nonneg _
        have q1 : (o.1.toNat : Int) < 256 := by omega
        have HAc := Lib.hid (fun W' h => acceptable_any g p o W' h hS1)
        have sb : bo < W.heap.size := Blk.lt HOW.out
        have sg : ge < W.heap.size := HEW.out.ht.lt
        cases hs : seen (l.take k) o.1
        · rw [hs] at t0
          have HAr : Hid ((seen (l.take k) o.1 || !acc p o) = !acc p o) := by show _ = _; rw [hs]; rfl
          have d0 : W.drew.cell? ⟨bo, 0, none⟩ = some (.int .u8 o.1.toNat) := a0
          have d1 : W.drew.cell? ⟨bo, 1, none⟩ = some (.string o.2) := a1
          have d2 : W.drew.cell? ⟨ge, o.1.toNat, none⟩ = some (.bool false) := t0
          have HED : Hid (Ev w W.drew g p m ge u7 l k) := ⟨HEW.out.hp, HEW.out.hm, HEW.out.ht, HEW.out.hr, HEW.out.hb.drew, HEW.out.he⟩
          have HOD : Hid (At W.drew bo o) := HOW.out
          have HZD : Hid (VAt (W.drew.alloc (.cells #[.int .u8 0, .string ⟨#[]⟩, .bool false, .int .u8 0, .string ⟨#[]⟩] 225)) W.heap.size ⟨zo, false, zo⟩) := vat_new W.drew ⟨zo, false, zo⟩
          have Hs0 : Hid (sn (l.take k) o.1.toNat = false) := by show _ = _; rw [sn_at]; exact hs
          have HOA := Lib.hid (HOD.out.alloc (.cells #[.int .u8 0, .string ⟨#[]⟩, .bool false, .int .u8 0, .string ⟨#[]⟩] 225))
          have HEA := Lib.hid (HED.out.alloc (.cells #[.int .u8 0, .string ⟨#[]⟩, .bool false, .int .u8 0, .string ⟨#[]⟩] 225))
          have nb : W.heap.size ≠ bo := Nat.ne_of_gt sb
          have ng : W.heap.size ≠ ge := Nat.ne_of_gt sg
          have z0 := HOA.out.c0
          have z1 := HOA.out.c1
          have z2 := HEA.out.ht.cell o.1.toNat hq
          rw [Hs0.out] at z2
          clear hs
          cases ha : acc p o
          · have HAR : Hid ((seen (l.take k) o.1 || !acc p o) = true) := by show _ = _; rw [HAr.out, ha]; rfl
            rw [ha] at HAc
            clear ha HAr
            refine wp_region_held_drew (S := (fun w' => w'.cell? ⟨bo, 0, none⟩ = some (.int .u8 o.1.toNat) ∧ w'.cell? ⟨bo, 1, none⟩ = some (.string o.2) ∧ w'.cell? ⟨ge, o.1.toNat, none⟩ = some (.bool false))) (by kernel_rfl) ⟨d0, d1, d2⟩ (fun hHeld => ?_)
            refine wpAnyH_take (i := 0) (v := ?vv0_1) rfl (by kernel_rfl) (by kernel_rfl) (by kernel_rfl) (fun _ _ _ h => h) (Or.inl ⟨by rfl, ?yy0_1⟩) (by assumption) ?rr0_1
            case yy0_1 => (intro w hSw; (try dsimp only at hSw); obtain ⟨hS1', hS2', hS3'⟩ := hSw; (try simp only [getElem_toArray, getElem_cons_succ, getElem_cons_zero, Act.put, setIfInBounds_toArray, set_cons_zero, set_cons_succ]); go_simp; (try (with_reducible rfl)))
            try simp only [getElem_toArray, getElem_cons_succ, getElem_cons_zero, Act.put, setIfInBounds_toArray, set_cons_zero, set_cons_succ]
            refine wpAnyH_take (i := 1) (v := ?vv1_2) rfl (by kernel_rfl) (by kernel_rfl) (by kernel_rfl) (fun _ _ _ h => h) (Or.inl ⟨by rfl, ?yy1_2⟩) (by assumption) ?rr1_2
            case yy1_2 => (intro w hSw; (try dsimp only at hSw); obtain ⟨hS1', hS2', hS3'⟩ := hSw; (try simp only [getElem_toArray, getElem_cons_succ, getElem_cons_zero, Act.put, setIfInBounds_toArray, set_cons_zero, set_cons_succ]); go_simp; (try (with_reducible rfl)))
            try simp only [getElem_toArray, getElem_cons_succ, getElem_cons_zero, Act.put, setIfInBounds_toArray, set_cons_zero, set_cons_succ]
            refine wpAnyH_take (i := 2) (v := ?vv2_3) rfl (by kernel_rfl) (by kernel_rfl) (by kernel_rfl) (fun _ _ _ h => h) (Or.inl ⟨by rfl, ?yy2_3⟩) (by assumption) ?rr2_3
            case yy2_3 => (intro w hSw; (try dsimp only at hSw); obtain ⟨hS1', hS2', hS3'⟩ := hSw; (try simp only [getElem_toArray, getElem_cons_succ, getElem_cons_zero, Act.put, setIfInBounds_toArray, set_cons_zero, set_cons_succ]); go_simp; (try (with_reducible rfl)))
            try simp only [getElem_toArray, getElem_cons_succ, getElem_cons_zero, Act.put, setIfInBounds_toArray, set_cons_zero, set_cons_succ]
            refine wpAnyH_take (i := 3) (v := ?vv3_4) rfl (by kernel_rfl) (by kernel_rfl) (by kernel_rfl) (fun _ _ _ h => h) (Or.inl ⟨by rfl, ?yy3_4⟩) (by assumption) ?rr3_4
            case yy3_4 => (intro w hSw; (try dsimp only at hSw); obtain ⟨hS1', hS2', hS3'⟩ := hSw; (try simp only [getElem_toArray, getElem_cons_succ, getElem_cons_zero, Act.put, setIfInBounds_toArray, set_cons_zero, set_cons_succ]); go_simp; (try (with_reducible rfl)))
            try simp only [getElem_toArray, getElem_cons_succ, getElem_cons_zero, Act.put, setIfInBounds_toArray, set_cons_zero, set_cons_succ]
            refine wpAnyH_take (i := 4) (v := ?vv4_5) rfl (by kernel_rfl) (by kernel_rfl) (by kernel_rfl) (fun _ _ _ h => h) (Or.inl ⟨by rfl, ?yy4_5⟩) (by assumption) ?rr4_5
            case yy4_5 => (intro w hSw; (try dsimp only at hSw); obtain ⟨hS1', hS2', hS3'⟩ := hSw; (try simp only [getElem_toArray, getElem_cons_succ, getElem_cons_zero, Act.put, setIfInBounds_toArray, set_cons_zero, set_cons_succ]); go_simp; (try (with_reducible rfl)))
            try simp only [getElem_toArray, getElem_cons_succ, getElem_cons_zero, Act.put, setIfInBounds_toArray, set_cons_zero, set_cons_succ]
            refine wpAnyH_take (i := 5) (v := ?vv5_6) rfl (by kernel_rfl) (by kernel_rfl) (by kernel_rfl) (fun _ _ _ h => h) (Or.inl ⟨by rfl, ?yy5_6⟩) (by assumption) ?rr5_6
            case yy5_6 => (intro w hSw; (try dsimp only at hSw); obtain ⟨hS1', hS2', hS3'⟩ := hSw; (try simp only [getElem_toArray, getElem_cons_succ, getElem_cons_zero, Act.put, setIfInBounds_toArray, set_cons_zero, set_cons_succ]); go_simp; (try (with_reducible rfl)))
            try simp only [getElem_toArray, getElem_cons_succ, getElem_cons_zero, Act.put, setIfInBounds_toArray, set_cons_zero, set_cons_succ]
            refine wpAnyH_take (i := 6) (v := ?vv6_7) rfl (by kernel_rfl) (by kernel_rfl) (by kernel_rfl) (fun _ _ _ h => h) (Or.inl ⟨by rfl, ?yy6_7⟩) (by assumption) ?rr6_7
            case yy6_7 => (intro w hSw; (try dsimp only at hSw); obtain ⟨hS1', hS2', hS3'⟩ := hSw; (try simp only [getElem_toArray, getElem_cons_succ, getElem_cons_zero, Act.put, setIfInBounds_toArray, set_cons_zero, set_cons_succ]); go_simp; (try (with_reducible rfl)))
            try simp only [getElem_toArray, getElem_cons_succ, getElem_cons_zero, Act.put, setIfInBounds_toArray, set_cons_zero, set_cons_succ]
            refine wpAnyH_take (i := 7) (v := ?vv7_8) rfl (by kernel_rfl) (by kernel_rfl) (by kernel_rfl) (fun _ _ _ h => h) (Or.inl ⟨by rfl, ?yy7_8⟩) (by assumption) ?rr7_8
            case yy7_8 => (intro w hSw; (try dsimp only at hSw); obtain ⟨hS1', hS2', hS3'⟩ := hSw; (try simp only [getElem_toArray, getElem_cons_succ, getElem_cons_zero, Act.put, setIfInBounds_toArray, set_cons_zero, set_cons_succ]); go_simp; (try (with_reducible rfl)))
            try simp only [getElem_toArray, getElem_cons_succ, getElem_cons_zero, Act.put, setIfInBounds_toArray, set_cons_zero, set_cons_succ]
            refine wpAnyH_ready (rs := [8, 12]) (by kernel_rfl) (by simp) ?_
            refine AllReadyH.cons (o := _) rfl (fun K hK => ?_) (AllReadyH.cons (o := _) rfl (fun K hK => ?_) AllReadyH.nil)
            · try simp only [getElem_toArray, getElem_cons_succ, getElem_cons_zero, Act.put, setIfInBounds_toArray, set_cons_zero, set_cons_succ]
              go_simp
              refine (HAc.out W.drew HED.out.hp).mono ?_
              rintro e w3 ⟨rfl, hb3⟩
              have HE3 := Lib.hid (HED.out.callee hb3)
              have HO3 := Lib.hid (HOD.out.callee hb3)
              have e0 := (HO3.out).c0
              have e1 := (HO3.out).c1
              have e2 := HE3.out.ht.cell o.1.toNat hq
              rw [Hs0.out] at e2
              have HS3 : Hid (W.heap.size ≤ w3.heap.size) := hb3.size
              clear hb3
              refine hK.out _ _ ⟨e0, e1, e2⟩ (fun hHeld => ?_)
              clear hK K
              try simp only [getElem_toArray, getElem_cons_succ, getElem_cons_zero, Act.put, setIfInBounds_toArray, set_cons_zero, set_cons_succ]
              refine wpAnyH_take (i := 9) (v := ?vv9_9) rfl (by kernel_rfl) (by kernel_rfl) (by kernel_rfl) (fun _ _ _ h => h) (Or.inl ⟨by rfl, ?yy9_9⟩) (by assumption) ?rr9_9
              case yy9_9 => (intro w hSw; (try dsimp only at hSw); obtain ⟨hS1', hS2', hS3'⟩ := hSw; (try simp only [getElem_toArray, getElem_cons_succ, getElem_cons_zero, Act.put, setIfInBounds_toArray, set_cons_zero, set_cons_succ]); go_simp; (try (with_reducible rfl)))
              try simp only [getElem_toArray, getElem_cons_succ, getElem_cons_zero, Act.put, setIfInBounds_toArray, set_cons_zero, set_cons_succ]
              refine wpAnyH_take (i := 10) (v := ?vv10_10) rfl (by kernel_rfl) (by kernel_rfl) (by kernel_rfl) (fun _ _ _ h => h) (Or.inl ⟨by rfl, ?yy10_10⟩) (by assumption) ?rr10_10
              case yy10_10 => (intro w hSw; (try dsimp only at hSw); obtain ⟨hS1', hS2', hS3'⟩ := hSw; (try simp only [getElem_toArray, getElem_cons_succ, getElem_cons_zero, Act.put, setIfInBounds_toArray, set_cons_zero, set_cons_succ]); go_simp; (try (with_reducible rfl)))
              try simp only [getElem_toArray, getElem_cons_succ, getElem_cons_zero, Act.put, setIfInBounds_toArray, set_cons_zero, set_cons_succ]
              refine wpAnyH_take (i := 11) (v := ?vv11_11) rfl (by kernel_rfl) (by kernel_rfl) (by kernel_rfl) (fun _ _ _ h => h) (Or.inl ⟨by rfl, ?yy11_11⟩) (by assumption) ?rr11_11
              case yy11_11 => (intro w hSw; (try dsimp only at hSw); obtain ⟨hS1', hS2', hS3'⟩ := hSw; (try simp only [getElem_toArray, getElem_cons_succ, getElem_cons_zero, Act.put, setIfInBounds_toArray, set_cons_zero, set_cons_succ]); go_simp; (try (with_reducible rfl)))
              try simp only [getElem_toArray, getElem_cons_succ, getElem_cons_zero, Act.put, setIfInBounds_toArray, set_cons_zero, set_cons_succ]
              refine wpAnyH_ready (rs := [12]) (by kernel_rfl) (by simp) ?_
              refine AllReadyH.cons (o := _) rfl (fun K hK => ?_) AllReadyH.nil
              try simp only [getElem_toArray, getElem_cons_succ, getElem_cons_zero, Act.put, setIfInBounds_toArray, set_cons_zero, set_cons_succ]
              go_simp
              have HA3 := Lib.hid (HO3.out.alloc (.cells #[.int .u8 0, .string ⟨#[]⟩, .bool false, .int .u8 0, .string ⟨#[]⟩] 225))
              have HB3 := Lib.hid (HE3.out.alloc (.cells #[.int .u8 0, .string ⟨#[]⟩, .bool false, .int .u8 0, .string ⟨#[]⟩] 225))
              have f0 := (HA3.out).c0
              have f1 := (HA3.out).c1
              have f2 := HB3.out.ht.cell o.1.toNat hq
              rw [Hs0.out] at f2
              refine hK.out _ _ ⟨f0, f1, f2⟩ (fun hHeld => ?_)
              clear hK K
              try simp only [getElem_toArray, getElem_cons_succ, getElem_cons_zero, Act.put, setIfInBounds_toArray, set_cons_zero, set_cons_succ]
              refine wpAnyH_ready (rs := [13]) (by kernel_rfl) (by simp) ?_
              refine AllReadyH.cons (o := _) rfl (fun K hK => ?_) AllReadyH.nil
              try simp only [getElem_toArray, getElem_cons_succ, getElem_cons_zero, Act.put, setIfInBounds_toArray, set_cons_zero, set_cons_succ]
              go_simp
              have HX : Hid (Eh w (w3.alloc (.cells #[.int .u8 o.1.toNat, .string o.2, .bool true, .int .u8 0, .string ⟨#[]⟩] 225)) g p m ge bo w3.heap.size u7 l k o true) := ⟨HE3.out.alloc _, HO3.out.alloc _, vat_new w3 ⟨o, true, zo⟩, (by have := Blk.lt HO3.out; omega), (fun q hq => by have := HR.out q hq; have := HBW.out.2; have := HS3.out; omega), (by have := HBW.out; have := HS3.out; omega)⟩
              have y0 := HX.out.O.c0
              have y1 := HX.out.O.c1
              have y2 := HX.out.E.ht.cell o.1.toNat hq
              rw [Hs0.out] at y2
              refine hK.out _ _ ⟨y0, y1, y2⟩ (fun hHeld => ?_)
              clear hK K
              try simp only [getElem_toArray, getElem_cons_succ, getElem_cons_zero, Act.put, setIfInBounds_toArray, set_cons_zero, set_cons_succ]
              refine wpAnyH_done (by kernel_rfl) ?_ _
              go_wp2_with fail
              go_meet
              exact ⟨_, rfl, by rw [HAR.out]; exact HX.out⟩
            · try simp only [getElem_toArray, getElem_cons_succ, getElem_cons_zero, Act.put, setIfInBounds_toArray, set_cons_zero, set_cons_succ]
              go_simp
              refine hK.out _ _ ⟨z0, z1, z2⟩ (fun hHeld => ?_)
              clear hK K
              try simp only [getElem_toArray, getElem_cons_succ, getElem_cons_zero, Act.put, setIfInBounds_toArray, set_cons_zero, set_cons_succ]
              refine wpAnyH_ready (rs := [8]) (by kernel_rfl) (by simp) ?_
              refine AllReadyH.cons (o := _) rfl (fun K hK => ?_) AllReadyH.nil
              try simp only [getElem_toArray, getElem_cons_succ, getElem_cons_zero, Act.put, setIfInBounds_toArray, set_cons_zero, set_cons_succ]
              go_simp
              refine (HAc.out (W.drew.alloc (.cells #[.int .u8 0, .string ⟨#[]⟩, .bool false, .int .u8 0, .string ⟨#[]⟩] 225)) HEA.out.hp).mono ?_
              rintro e w4 ⟨rfl, hb4⟩
              have HE4 := Lib.hid (HEA.out.callee hb4)
              have HO4 := Lib.hid (HOA.out.callee hb4)
              have HV4 := Lib.hid (HZD.out.callee hb4)
              have e0 := (HO4.out).c0
              have e1 := (HO4.out).c1
              have e2 := HE4.out.ht.cell o.1.toNat hq
              rw [Hs0.out] at e2
              clear hb4
              refine hK.out _ _ ⟨e0, e1, e2⟩ (fun hHeld => ?_)
              clear hK K
              try simp only [getElem_toArray, getElem_cons_succ, getElem_cons_zero, Act.put, setIfInBounds_toArray, set_cons_zero, set_cons_succ]
              refine wpAnyH_take (i := 9) (v := ?vv9_12) rfl (by kernel_rfl) (by kernel_rfl) (by kernel_rfl) (fun _ _ _ h => h) (Or.inl ⟨by rfl, ?yy9_12⟩) (by assumption) ?rr9_12
              case yy9_12 => (intro w hSw; (try dsimp only at hSw); obtain ⟨hS1', hS2', hS3'⟩ := hSw; (try simp only [getElem_toArray, getElem_cons_succ, getElem_cons_zero, Act.put, setIfInBounds_toArray, set_cons_zero, set_cons_succ]); go_simp; (try (with_reducible rfl)))
              try simp only [getElem_toArray, getElem_cons_succ, getElem_cons_zero, Act.put, setIfInBounds_toArray, set_cons_zero, set_cons_succ]
              refine wpAnyH_take (i := 10) (v := ?vv10_13) rfl (by kernel_rfl) (by kernel_rfl) (by kernel_rfl) (fun _ _ _ h => h) (Or.inl ⟨by rfl, ?yy10_13⟩) (by assumption) ?rr10_13
              case yy10_13 => (intro w hSw; (try dsimp only at hSw); obtain ⟨hS1', hS2', hS3'⟩ := hSw; (try simp only [getElem_toArray, getElem_cons_succ, getElem_cons_zero, Act.put, setIfInBounds_toArray, set_cons_zero, set_cons_succ]); go_simp; (try (with_reducible rfl)))
              try simp only [getElem_toArray, getElem_cons_succ, getElem_cons_zero, Act.put, setIfInBounds_toArray, set_cons_zero, set_cons_succ]
              refine wpAnyH_take (i := 11) (v := ?vv11_14) rfl (by kernel_rfl) (by kernel_rfl) (by kernel_rfl) (fun _ _ _ h => h) (Or.inl ⟨by rfl, ?yy11_14⟩) (by assumption) ?rr11_14
              case yy11_14 => (intro w hSw; (try dsimp only at hSw); obtain ⟨hS1', hS2', hS3'⟩ := hSw; (try simp only [getElem_toArray, getElem_cons_succ, getElem_cons_zero, Act.put, setIfInBounds_toArray, set_cons_zero, set_cons_succ]); go_simp; (try (with_reducible rfl)))
              try simp only [getElem_toArray, getElem_cons_succ, getElem_cons_zero, Act.put, setIfInBounds_toArray, set_cons_zero, set_cons_succ]
              refine wpAnyH_ready (rs := [13]) (by kernel_rfl) (by simp) ?_
              obtain ⟨y0, y1, y2, y3, y4⟩ := HV4.out.all
              have x0 := Blk.frozen HV4.out 0
              have x1 := Blk.frozen HV4.out 1
              have x2 := Blk.frozen HV4.out 2
              have x3 := Blk.frozen HV4.out 3
              have x4 := Blk.frozen HV4.out 4
              refine AllReadyH.cons (o := _) rfl (fun K hK => ?_) AllReadyH.nil
              try simp only [getElem_toArray, getElem_cons_succ, getElem_cons_zero, Act.put, setIfInBounds_toArray, set_cons_zero, set_cons_succ]
              go_simp
              have HX : Hid (Eh w (setV w4 W.heap.size ⟨o, true, zo⟩) g p m ge bo W.heap.size u7 l k o true) := Eh.setV HE4.out HO4.out HV4.out true (by have := Blk.lt HOW.out; omega) (fun q hq => by have := HR.out q hq; have := HBW.out.2; omega) (by have := HBW.out; omega)
              have a0 := HX.out.O.c0
              have a1 := HX.out.O.c1
              have a2 := HX.out.E.ht.cell o.1.toNat hq
              rw [Hs0.out] at a2
              refine hK.out _ _ ⟨a0, a1, a2⟩ (fun hHeld => ?_)
              clear hK K
              try simp only [getElem_toArray, getElem_cons_succ, getElem_cons_zero, Act.put, setIfInBounds_toArray, set_cons_zero, set_cons_succ]
              refine wpAnyH_done (by kernel_rfl) ?_ _
              go_wp2_with fail
              go_meet
              exact ⟨_, rfl, by rw [HAR.out]; exact HX.out⟩
          · have HAR : Hid ((seen (l.take k) o.1 || !acc p o) = false) := by show _ = _; rw [HAr.out, ha]; rfl
            rw [ha] at HAc
            clear ha HAr
            refine wp_region_held_drew (S := (fun w' => w'.cell? ⟨bo, 0, none⟩ = some (.int .u8 o.1.toNat) ∧ w'.cell? ⟨bo, 1, none⟩ = some (.string o.2) ∧ w'.cell? ⟨ge, o.1.toNat, none⟩ = some (.bool false))) (by kernel_rfl) ⟨d0, d1, d2⟩ (fun hHeld => ?_)
            refine wpAnyH_take (i := 0) (v := ?vv0_15) rfl (by kernel_rfl) (by kernel_rfl) (by kernel_rfl) (fun _ _ _ h => h) (Or.inl ⟨by rfl, ?yy0_15⟩) (by assumption) ?rr0_15
            case yy0_15 => (intro w hSw; (try dsimp only at hSw); obtain ⟨hS1', hS2', hS3'⟩ := hSw; (try simp only [getElem_toArray, getElem_cons_succ, getElem_cons_zero, Act.put, setIfInBounds_toArray, set_cons_zero, set_cons_succ]); go_simp; (try (with_reducible rfl)))
            try simp only [getElem_toArray, getElem_cons_succ, getElem_cons_zero, Act.put, setIfInBounds_toArray, set_cons_zero, set_cons_succ]
            refine wpAnyH_take (i := 1) (v := ?vv1_16) rfl (by kernel_rfl) (by kernel_rfl) (by kernel_rfl) (fun _ _ _ h => h) (Or.inl ⟨by rfl, ?yy1_16⟩) (by assumption) ?rr1_16
            case yy1_16 => (intro w hSw; (try dsimp only at hSw); obtain ⟨hS1', hS2', hS3'⟩ := hSw; (try simp only [getElem_toArray, getElem_cons_succ, getElem_cons_zero, Act.put, setIfInBounds_toArray, set_cons_zero, set_cons_succ]); go_simp; (try (with_reducible rfl)))
            try simp only [getElem_toArray, getElem_cons_succ, getElem_cons_zero, Act.put, setIfInBounds_toArray, set_cons_zero, set_cons_succ]
            refine wpAnyH_take (i := 2) (v := ?vv2_17) rfl (by kernel_rfl) (by kernel_rfl) (by kernel_rfl) (fun _ _ _ h => h) (Or.inl ⟨by rfl, ?yy2_17⟩) (by assumption) ?rr2_17
            case yy2_17 => (intro w hSw; (try dsimp only at hSw); obtain ⟨hS1', hS2', hS3'⟩ := hSw; (try simp only [getElem_toArray, getElem_cons_succ, getElem_cons_zero, Act.put, setIfInBounds_toArray, set_cons_zero, set_cons_succ]); go_simp; (try (with_reducible rfl)))
            try simp only [getElem_toArray, getElem_cons_succ, getElem_cons_zero, Act.put, setIfInBounds_toArray, set_cons_zero, set_cons_succ]
            refine wpAnyH_take (i := 3) (v := ?vv3_18) rfl (by kernel_rfl) (by kernel_rfl) (by kernel_rfl) (fun _ _ _ h => h) (Or.inl ⟨by rfl, ?yy3_18⟩) (by assumption) ?rr3_18
            case yy3_18 => (intro w hSw; (try dsimp only at hSw); obtain ⟨hS1', hS2', hS3'⟩ := hSw; (try simp only [getElem_toArray, getElem_cons_succ, getElem_cons_zero, Act.put, setIfInBounds_toArray, set_cons_zero, set_cons_succ]); go_simp; (try (with_reducible rfl)))
            try simp only [getElem_toArray, getElem_cons_succ, getElem_cons_zero, Act.put, setIfInBounds_toArray, set_cons_zero, set_cons_succ]
            refine wpAnyH_take (i := 4) (v := ?vv4_19) rfl (by kernel_rfl) (by kernel_rfl) (by kernel_rfl) (fun _ _ _ h => h) (Or.inl ⟨by rfl, ?yy4_19⟩) (by assumption) ?rr4_19
            case yy4_19 => (intro w hSw; (try dsimp only at hSw); obtain ⟨hS1', hS2', hS3'⟩ := hSw; (try simp only [getElem_toArray, getElem_cons_succ, getElem_cons_zero, Act.put, setIfInBounds_toArray, set_cons_zero, set_cons_succ]); go_simp; (try (with_reducible rfl)))
            try simp only [getElem_toArray, getElem_cons_succ, getElem_cons_zero, Act.put, setIfInBounds_toArray, set_cons_zero, set_cons_succ]
            refine wpAnyH_take (i := 5) (v := ?vv5_20) rfl (by kernel_rfl) (by kernel_rfl) (by kernel_rfl) (fun _ _ _ h => h) (Or.inl ⟨by rfl, ?yy5_20⟩) (by assumption) ?rr5_20
            case yy5_20 => (intro w hSw; (try dsimp only at hSw); obtain ⟨hS1', hS2', hS3'⟩ := hSw; (try simp only [getElem_toArray, getElem_cons_succ, getElem_cons_zero, Act.put, setIfInBounds_toArray, set_cons_zero, set_cons_succ]); go_simp; (try (with_reducible rfl)))
            try simp only [getElem_toArray, getElem_cons_succ, getElem_cons_zero, Act.put, setIfInBounds_toArray, set_cons_zero, set_cons_succ]
            refine wpAnyH_take (i := 6) (v := ?vv6_21) rfl (by kernel_rfl) (by kernel_rfl) (by kernel_rfl) (fun _ _ _ h => h) (Or.inl ⟨by rfl, ?yy6_21⟩) (by assumption) ?rr6_21
            case yy6_21 => (intro w hSw; (try dsimp only at hSw); obtain ⟨hS1', hS2', hS3'⟩ := hSw; (try simp only [getElem_toArray, getElem_cons_succ, getElem_cons_zero, Act.put, setIfInBounds_toArray, set_cons_zero, set_cons_succ]); go_simp; (try (with_reducible rfl)))
            try simp only [getElem_toArray, getElem_cons_succ, getElem_cons_zero, Act.put, setIfInBounds_toArray, set_cons_zero, set_cons_succ]
            refine wpAnyH_take (i := 7) (v := ?vv7_22) rfl (by kernel_rfl) (by kernel_rfl) (by kernel_rfl) (fun _ _ _ h => h) (Or.inl ⟨by rfl, ?yy7_22⟩) (by assumption) ?rr7_22
            case yy7_22 => (intro w hSw; (try dsimp only at hSw); obtain ⟨hS1', hS2', hS3'⟩ := hSw; (try simp only [getElem_toArray, getElem_cons_succ, getElem_cons_zero, Act.put, setIfInBounds_toArray, set_cons_zero, set_cons_succ]); go_simp; (try (with_reducible rfl)))
            try simp only [getElem_toArray, getElem_cons_succ, getElem_cons_zero, Act.put, setIfInBounds_toArray, set_cons_zero, set_cons_succ]
            refine wpAnyH_ready (rs := [8, 12]) (by kernel_rfl) (by simp) ?_
            refine AllReadyH.cons (o := _) rfl (fun K hK => ?_) (AllReadyH.cons (o := _) rfl (fun K hK => ?_) AllReadyH.nil)
            · try simp only [getElem_toArray, getElem_cons_succ, getElem_cons_zero, Act.put, setIfInBounds_toArray, set_cons_zero, set_cons_succ]
              go_simp
              refine (HAc.out W.drew HED.out.hp).mono ?_
              rintro e w3 ⟨rfl, hb3⟩
              have HE3 := Lib.hid (HED.out.callee hb3)
              have HO3 := Lib.hid (HOD.out.callee hb3)
              have e0 := (HO3.out).c0
              have e1 := (HO3.out).c1
              have e2 := HE3.out.ht.cell o.1.toNat hq
              rw [Hs0.out] at e2
              have HS3 : Hid (W.heap.size ≤ w3.heap.size) := hb3.size
              clear hb3
              refine hK.out _ _ ⟨e0, e1, e2⟩ (fun hHeld => ?_)
              clear hK K
              try simp only [getElem_toArray, getElem_cons_succ, getElem_cons_zero, Act.put, setIfInBounds_toArray, set_cons_zero, set_cons_succ]
              refine wpAnyH_take (i := 9) (v := ?vv9_23) rfl (by kernel_rfl) (by kernel_rfl) (by kernel_rfl) (fun _ _ _ h => h) (Or.inl ⟨by rfl, ?yy9_23⟩) (by assumption) ?rr9_23
              case yy9_23 => (intro w hSw; (try dsimp only at hSw); obtain ⟨hS1', hS2', hS3'⟩ := hSw; (try simp only [getElem_toArray, getElem_cons_succ, getElem_cons_zero, Act.put, setIfInBounds_toArray, set_cons_zero, set_cons_succ]); go_simp; (try (with_reducible rfl)))
              try simp only [getElem_toArray, getElem_cons_succ, getElem_cons_zero, Act.put, setIfInBounds_toArray, set_cons_zero, set_cons_succ]
              refine wpAnyH_take (i := 10) (v := ?vv10_24) rfl (by kernel_rfl) (by kernel_rfl) (by kernel_rfl) (fun _ _ _ h => h) (Or.inl ⟨by rfl, ?yy10_24⟩) (by assumption) ?rr10_24
              case yy10_24 => (intro w hSw; (try dsimp only at hSw); obtain ⟨hS1', hS2', hS3'⟩ := hSw; (try simp only [getElem_toArray, getElem_cons_succ, getElem_cons_zero, Act.put, setIfInBounds_toArray, set_cons_zero, set_cons_succ]); go_simp; (try (with_reducible rfl)))
              try simp only [getElem_toArray, getElem_cons_succ, getElem_cons_zero, Act.put, setIfInBounds_toArray, set_cons_zero, set_cons_succ]
              refine wpAnyH_take (i := 11) (v := ?vv11_25) rfl (by kernel_rfl) (by kernel_rfl) (by kernel_rfl) (fun _ _ _ h => h) (Or.inl ⟨by rfl, ?yy11_25⟩) (by assumption) ?rr11_25
              case yy11_25 => (intro w hSw; (try dsimp only at hSw); obtain ⟨hS1', hS2', hS3'⟩ := hSw; (try simp only [getElem_toArray, getElem_cons_succ, getElem_cons_zero, Act.put, setIfInBounds_toArray, set_cons_zero, set_cons_succ]); go_simp; (try (with_reducible rfl)))
              try simp only [getElem_toArray, getElem_cons_succ, getElem_cons_zero, Act.put, setIfInBounds_toArray, set_cons_zero, set_cons_succ]
              refine wpAnyH_ready (rs := [12]) (by kernel_rfl) (by simp) ?_
              refine AllReadyH.cons (o := _) rfl (fun K hK => ?_) AllReadyH.nil
              try simp only [getElem_toArray, getElem_cons_succ, getElem_cons_zero, Act.put, setIfInBounds_toArray, set_cons_zero, set_cons_succ]
              go_simp
              have HA3 := Lib.hid (HO3.out.alloc (.cells #[.int .u8 0, .string ⟨#[]⟩, .bool false, .int .u8 0, .string ⟨#[]⟩] 225))
              have HB3 := Lib.hid (HE3.out.alloc (.cells #[.int .u8 0, .string ⟨#[]⟩, .bool false, .int .u8 0, .string ⟨#[]⟩] 225))
              have f0 := (HA3.out).c0
              have f1 := (HA3.out).c1
              have f2 := HB3.out.ht.cell o.1.toNat hq
              rw [Hs0.out] at f2
              refine hK.out _ _ ⟨f0, f1, f2⟩ (fun hHeld => ?_)
              clear hK K
              try simp only [getElem_toArray, getElem_cons_succ, getElem_cons_zero, Act.put, setIfInBounds_toArray, set_cons_zero, set_cons_succ]
              refine wpAnyH_ready (rs := [13]) (by kernel_rfl) (by simp) ?_
              refine AllReadyH.cons (o := _) rfl (fun K hK => ?_) AllReadyH.nil
              try simp only [getElem_toArray, getElem_cons_succ, getElem_cons_zero, Act.put, setIfInBounds_toArray, set_cons_zero, set_cons_succ]
              go_simp
              have HX : Hid (Eh w (w3.alloc (.cells #[.int .u8 o.1.toNat, .string o.2, .bool false, .int .u8 0, .string ⟨#[]⟩] 225)) g p m ge bo w3.heap.size u7 l k o false) := ⟨HE3.out.alloc _, HO3.out.alloc _, vat_new w3 ⟨o, false, zo⟩, (by have := Blk.lt HO3.out; omega), (fun q hq => by have := HR.out q hq; have := HBW.out.2; have := HS3.out; omega), (by have := HBW.out; have := HS3.out; omega)⟩
              have y0 := HX.out.O.c0
              have y1 := HX.out.O.c1
              have y2 := HX.out.E.ht.cell o.1.toNat hq
              rw [Hs0.out] at y2
              refine hK.out _ _ ⟨y0, y1, y2⟩ (fun hHeld => ?_)
              clear hK K
              try simp only [getElem_toArray, getElem_cons_succ, getElem_cons_zero, Act.put, setIfInBounds_toArray, set_cons_zero, set_cons_succ]
              refine wpAnyH_done (by kernel_rfl) ?_ _
              go_wp2_with fail
              go_meet
              exact ⟨_, rfl, by rw [HAR.out]; exact HX.out⟩
            · try simp only [getElem_toArray, getElem_cons_succ, getElem_cons_zero, Act.put, setIfInBounds_toArray, set_cons_zero, set_cons_succ]
              go_simp
              refine hK.out _ _ ⟨z0, z1, z2⟩ (fun hHeld => ?_)
              clear hK K
              try simp only [getElem_toArray, getElem_cons_succ, getElem_cons_zero, Act.put, setIfInBounds_toArray, set_cons_zero, set_cons_succ]
              refine wpAnyH_ready (rs := [8]) (by kernel_rfl) (by simp) ?_
              refine AllReadyH.cons (o := _) rfl (fun K hK => ?_) AllReadyH.nil
              try simp only [getElem_toArray, getElem_cons_succ, getElem_cons_zero, Act.put, setIfInBounds_toArray, set_cons_zero, set_cons_succ]
              go_simp
              refine (HAc.out (W.drew.alloc (.cells #[.int .u8 0, .string ⟨#[]⟩, .bool false, .int .u8 0, .string ⟨#[]⟩] 225)) HEA.out.hp).mono ?_
              rintro e w4 ⟨rfl, hb4⟩
              have HE4 := Lib.hid (HEA.out.callee hb4)
              have HO4 := Lib.hid (HOA.out.callee hb4)
              have HV4 := Lib.hid (HZD.out.callee hb4)
              have e0 := (HO4.out).c0
              have e1 := (HO4.out).c1
              have e2 := HE4.out.ht.cell o.1.toNat hq
              rw [Hs0.out] at e2
              clear hb4
              refine hK.out _ _ ⟨e0, e1, e2⟩ (fun hHeld => ?_)
              clear hK K
              try simp only [getElem_toArray, getElem_cons_succ, getElem_cons_zero, Act.put, setIfInBounds_toArray, set_cons_zero, set_cons_succ]
              refine wpAnyH_take (i := 9) (v := ?vv9_26) rfl (by kernel_rfl) (by kernel_rfl) (by kernel_rfl) (fun _ _ _ h => h) (Or.inl ⟨by rfl, ?yy9_26⟩) (by assumption) ?rr9_26
              case yy9_26 => (intro w hSw; (try dsimp only at hSw); obtain ⟨hS1', hS2', hS3'⟩ := hSw; (try simp only [getElem_toArray, getElem_cons_succ, getElem_cons_zero, Act.put, setIfInBounds_toArray, set_cons_zero, set_cons_succ]); go_simp; (try (with_reducible rfl)))
              try simp only [getElem_toArray, getElem_cons_succ, getElem_cons_zero, Act.put, setIfInBounds_toArray, set_cons_zero, set_cons_succ]
              refine wpAnyH_take (i := 10) (v := ?vv10_27) rfl (by kernel_rfl) (by kernel_rfl) (by kernel_rfl) (fun _ _ _ h => h) (Or.inl ⟨by rfl, ?yy10_27⟩) (by assumption) ?rr10_27
              case yy10_27 => (intro w hSw; (try dsimp only at hSw); obtain ⟨hS1', hS2', hS3'⟩ := hSw; (try simp only [getElem_toArray, getElem_cons_succ, getElem_cons_zero, Act.put, setIfInBounds_toArray, set_cons_zero, set_cons_succ]); go_simp; (try (with_reducible rfl)))
              try simp only [getElem_toArray, getElem_cons_succ, getElem_cons_zero, Act.put, setIfInBounds_toArray, set_cons_zero, set_cons_succ]
              refine wpAnyH_take (i := 11) (v := ?vv11_28) rfl (by kernel_rfl) (by kernel_rfl) (by kernel_rfl) (fun _ _ _ h => h) (Or.inl ⟨by rfl, ?yy11_28⟩) (by assumption) ?rr11_28
              case yy11_28 => (intro w hSw; (try dsimp only at hSw); obtain ⟨hS1', hS2', hS3'⟩ := hSw; (try simp only [getElem_toArray, getElem_cons_succ, getElem_cons_zero, Act.put, setIfInBounds_toArray, set_cons_zero, set_cons_succ]); go_simp; (try (with_reducible rfl)))
              try simp only [getElem_toArray, getElem_cons_succ, getElem_cons_zero, Act.put, setIfInBounds_toArray, set_cons_zero, set_cons_succ]
              refine wpAnyH_ready (rs := [13]) (by kernel_rfl) (by simp) ?_
              obtain ⟨y0, y1, y2, y3, y4⟩ := HV4.out.all
              have x0 := Blk.frozen HV4.out 0
              have x1 := Blk.frozen HV4.out 1
              have x2 := Blk.frozen HV4.out 2
              have x3 := Blk.frozen HV4.out 3
              have x4 := Blk.frozen HV4.out 4
              refine AllReadyH.cons (o := _) rfl (fun K hK => ?_) AllReadyH.nil
              try simp only [getElem_toArray, getElem_cons_succ, getElem_cons_zero, Act.put, setIfInBounds_toArray, set_cons_zero, set_cons_succ]
              go_simp
              have HX : Hid (Eh w (setV w4 W.heap.size ⟨o, false, zo⟩) g p m ge bo W.heap.size u7 l k o false) := Eh.setV HE4.out HO4.out HV4.out false (by have := Blk.lt HOW.out; omega) (fun q hq => by have := HR.out q hq; have := HBW.out.2; omega) (by have := HBW.out; omega)
              have a0 := HX.out.O.c0
              have a1 := HX.out.O.c1
              have a2 := HX.out.E.ht.cell o.1.toNat hq
              rw [Hs0.out] at a2
              refine hK.out _ _ ⟨a0, a1, a2⟩ (fun hHeld => ?_)
              clear hK K
              try simp only [getElem_toArray, getElem_cons_succ, getElem_cons_zero, Act.put, setIfInBounds_toArray, set_cons_zero, set_cons_succ]
              refine wpAnyH_done (by kernel_rfl) ?_ _
              go_wp2_with fail
              go_meet
              exact ⟨_, rfl, by rw [HAR.out]; exact HX.out⟩
        · rw [hs] at t0
          have HX : Hid (Eh w (W.alloc (.cells #[.int .u8 o.1.toNat, .string o.2, .bool true, .int .u8 0, .string ⟨#[]⟩] 225)) g p m ge bo W.heap.size u7 l k o true) :=
            ⟨HEW.out.alloc _, HOW.out.alloc _, vat_new W ⟨o, true, zo⟩, (by have := Blk.lt HOW.out; omega), (fun q hq => by have := HR.out q hq; have := HBW.out.2; omega), by have := HBW.out; omega⟩
          have Hs : Hid ((seen (l.take k) o.1 || !acc p o) = true) := by show _ = _; rw [hs]; rfl
          clear HAc hs
          have d0 : W.drew.cell? ⟨bo, 0, none⟩ = some (.int .u8 o.1.toNat) := a0
          have d1 : W.drew.cell? ⟨bo, 1, none⟩ = some (.string o.2) := a1
          have d2 : W.drew.cell? ⟨ge, o.1.toNat, none⟩ = some (.bool true) := t0
          go_region
          all_goals (go_wp2_with fail; go_meet; exact ⟨_, rfl, by rw [Hs.out]; exact HX.out.drew⟩)
      case rest =>
        obtain ⟨b, rfl, HC⟩ := hcut
        obtain ⟨w5, rfl⟩ : ∃ x, x = wc := ⟨_, rfl⟩
        clear HE HEW HOW HR HBW
        cases hr : (seen (l.take k) o.1 || !acc p o)
        · rw [hr] at HC
          have ha : acc p o = true := by
            cases h1 : acc p o
            · rw [h1] at hr; simp at hr
            · rfl
          have Hv : Hid (vs p (l.take (k + 1)) = vs p (l.take k) ++ [⟨o, false, sug p o⟩]) := by
            show _ = _
            rw [Hvs.out]
            unfold ver
            rw [hr]
            rfl
          have hl := say_look (acc_known ha) HC.out.E.hm
          simp only [trip] at hl
          have HI := Lib.hid (fun W h => improved_any g p o W h ha hS1)
          clear ha hr Hvs
          have b2 : w5.cell? ⟨b, 2, none⟩ = some (.bool false) := HC.out.V.c 2
          have o0 := HC.out.O.c0
          have o1 := HC.out.O.c1
          go_wp2_with fail
          refine (HI.out w5 HC.out.E.hp).mono ?_
          rintro e w6 ⟨rfl, hb6⟩
          have HE6 := Lib.hid (HC.out.E.callee hb6)
          have HO6 := Lib.hid (HC.out.O.callee hb6)
          have HV6 := Lib.hid (HC.out.V.callee hb6)
          have HQ := Lib.hid (HC.out.q)
          have HL := Lib.hid (HC.out.l)
          have HNN := Lib.hid (HC.out.n)
          clear hb6 HC hl b2 o0 o1 HI
          obtain ⟨y0, y1, y2, y3, y4⟩ := HV6.out.all
          have x3 := Blk.frozen HV6.out 3
          have x4 := Blk.frozen HV6.out 4
          obtain ⟨Y, hY⟩ : ∃ Y, (w6.setCell ⟨b, 3, none⟩ (.int .u8 (sug p o).1.toNat)).setCell ⟨b, 4, none⟩ (.string (sug p o).2) = Y := ⟨_, rfl⟩
          have hmv : Moves (fun j => j = b) w6 Y := by rw [← hY]; exact (set_moves w6 b 3 _).trans (set_moves _ b 4 _) (fun _ _ h => h)
          have HV7 : Hid (VAt Y b ⟨o, false, sug p o⟩) := by show VAt _ _ _; rw [← hY]; exact (Blk.set HV6.out 3 (.int .u8 (sug p o).1.toNat)).set 4 (.string (sug p o).2)
          have HE7 : Hid (Ev w Y g p m ge u7 l k) := HE6.out.moved hmv (HE6.out.ne HV6.out).1 (HE6.out.ne HV6.out).2.1 (HE6.out.ne HV6.out).2.2 HQ.out HL.out
          have HO7 : Hid (At Y bo o) := Blk.moves HO6.out hmv HNN.out
          clear hmv HV6 HE6 HO6
          generalize sug p o = r at *
          have m0 := HO7.out.c0
          have hq2 : o.1.toNat < 256 := o.1.toNat_lt
          have q0 : (0 : Int) ≤ (o.1.toNat : Int) := Int.natCast_nonneg _
          have q1 : (o.1.toNat : Int) < 256 := by omega
          have m1 := HE7.out.ht.cell o.1.toNat hq2
          have m2 := HE7.out.ht.frozen o.1.toNat
          obtain ⟨X, hX⟩ : ∃ X, Y.setCell ⟨ge, o.1.toNat, none⟩ (.bool true) = X := ⟨_, rfl⟩
          have HM : Hid (Ew w X g p m ge u7 l k) := by show Ew _ _ _ _ _ _ _ _ _; rw [← hX]; exact HE7.out.mark hq2 Hsn.out
          have HV : Hid (VAt X b ⟨o, false, r⟩) := by show VAt _ _ _; rw [← hX]; exact HV7.out.moves (set_moves _ _ _ _) (fun e => (HE7.out.ne HV7.out).2.2 e.symm)
          obtain ⟨n0, n1, n2, n3, n4⟩ := HV.out.all
          have HBs : Hid (w.heap.size ≤ X.heap.size) := HM.out.hb.size
          go_wp2_with (at_builtin; refine wpList_append_own _ rfl _ _ 221 rfl w.heap.size 225 i1 _ 5 56 Tryz.underlying221 hi hz0 hz1 hz2 rfl (by decide) _ _ _ rfl (own_callee HM.out.hr ((Below.refl _ _).alloc (Nat.le_refl _) _)) ⟨X.heap.size, 0, none⟩ 1 1 (verV ⟨o, false, r⟩) rfl rfl (cells_new X (verV ⟨o, false, r⟩).toArray 225) (verV_ones ⟨o, false, r⟩) (by unfold maxLen; omega) (by omega) (by rw [World.size_alloc]; exact Nat.le_succ_of_le HBs.out) ?_; intro v1 w9 hown1 hgr1 _; have Hown1 := Lib.hid hown1; have Hgr1 := Lib.hid hgr1; clear hown1 hgr1)
          have HN : Hid (Ev w w9 g p m ge v1 l (k + 1)) := HM.out.grown Hgr1.out Hown1.out Hv.out
          go_roundg (n - (k + 1))
          case measure => rw [Hgk.out]; omega
          case rel => exact ⟨k + 1, by omega, rfl, by go_num, HN⟩
        · rw [hr] at HC
          have Hv : Hid (vs p (l.take (k + 1)) = vs p (l.take k) ++ [⟨o, true, zo⟩]) := by
            show _ = _
            rw [Hvs.out]
            unfold ver
            rw [hr]
            rfl
          clear hr Hvs
          have b2 : w5.cell? ⟨b, 2, none⟩ = some (.bool true) := HC.out.V.c 2
          have HE7 := Lib.hid HC.out.E
          have HO7 := Lib.hid HC.out.O
          have HV7 := Lib.hid HC.out.V
          clear HC
          have m0 := HO7.out.c0
          have hq2 : o.1.toNat < 256 := o.1.toNat_lt
          have q0 : (0 : Int) ≤ (o.1.toNat : Int) := Int.natCast_nonneg _
          have q1 : (o.1.toNat : Int) < 256 := by omega
          have m1 := HE7.out.ht.cell o.1.toNat hq2
          have m2 := HE7.out.ht.frozen o.1.toNat
          obtain ⟨X, hX⟩ : ∃ X, w5.setCell ⟨ge, o.1.toNat, none⟩ (.bool true) = X := ⟨_, rfl⟩
          have HM : Hid (Ew w X g p m ge u7 l k) := by show Ew _ _ _ _ _ _ _ _ _; rw [← hX]; exact HE7.out.mark hq2 Hsn.out
          have HV : Hid (VAt X b ⟨o, true, zo⟩) := by show VAt _ _ _; rw [← hX]; exact HV7.out.moves (set_moves _ _ _ _) (fun e => (HE7.out.ne HV7.out).2.2 e.symm)
          obtain ⟨n0, n1, n2, n3, n4⟩ := HV.out.all
          have HBs : Hid (w.heap.size ≤ X.heap.size) := HM.out.hb.size
          go_wp2_with (at_builtin; refine wpList_append_own _ rfl _ _ 221 rfl w.heap.size 225 i1 _ 5 56 Tryz.underlying221 hi hz0 hz1 hz2 rfl (by decide) _ _ _ rfl (own_callee HM.out.hr ((Below.refl _ _).alloc (Nat.le_refl _) _)) ⟨X.heap.size, 0, none⟩ 1 1 (verV ⟨o, true, zo⟩) rfl rfl (cells_new X (verV ⟨o, true, zo⟩).toArray 225) (verV_ones ⟨o, true, zo⟩) (by unfold maxLen; omega) (by omega) (by rw [World.size_alloc]; exact Nat.le_succ_of_le HBs.out) ?_; intro v1 w9 hown1 hgr1 _; have Hown1 := Lib.hid hown1; have Hgr1 := Lib.hid hgr1; clear hown1 hgr1)
          have HN : Hid (Ev w w9 g p m ge v1 l (k + 1)) := HM.out.grown Hgr1.out Hown1.out Hv.out
          go_roundg (n - (k + 1))
          case measure => rw [Hgk.out]; omega
          case rel => exact ⟨k + 1, by omega, rfl, by go_num, HN⟩
    · obtain rfl : k = n := by omega
      have HEnd : Hid (EvQ p l k w (.returned u7) wr) := by
        have h1 := HE.out.hr
        rw [List.take_of_length_le (by rw [Hn.out]; exact Nat.le_refl _)] at h1
        obtain ⟨A1, c1, e1, hv⟩ := vers_own h1
        exact ⟨A1, c1, by rw [e1], hv, HE.out.hb⟩
      go_wp2
      go_ret
      exact HEnd.out
end Go.Proofs.YtpppggicihfbgaaGreat.Pol

/- Contracts of hasOwn, Clone, rejects. -/
namespace Go.Proofs.YtpppggicihfbgaaGreat.Pol
open Go.RowKit Go.Proofs.YtpppggicihfbgaaGreat.Oct Go.Proofs.YtpppggicihfbgaaGreat.Row Go.Proofs.YtpppggicihfbgaaGreat.Mem Go.Proofs.YtpppggicihfbgaaGreat.Opt Go.Proofs.YtpppggicihfbgaaGreat.Lco

set_option maxHeartbeats 4000000 in
set_option maxRecDepth 100000 in
theorem ownc_any (o : Opt) (bx g : Nat) (p : Po) (w : World) (hb : Boxed w bx 39 (.pointer (some ⟨g, 0, none⟩))) (h : PAt w g p) (hd : o.2.size ≤ 140737488351232) :
    Calls Tryz.prog 136 #[.agg #[.int .u8 o.1.toNat, .string o.2], .pointer (some ⟨bx, 0, none⟩)] w fun e w' => e = .returned (.bool (isOwn p.w (lo o))) ∧ Below w.heap.size w w' := by
  obtain ⟨W, hW, HW⟩ := boxO w o
  have HB := Lib.hid HW.out.2.1
  have HP := Lib.hid (h.callee HB.out)
  have HX : Hid (Boxed W bx 39 (.pointer (some ⟨g, 0, none⟩))) := (HB.out.block bx hb.lt).trans hb
  have c0 := HW.out.1.c0
  have c1 := HW.out.1.c1
  have HG := Lib.hid (get_row [o] (some ⟨W.heap.size, 0, none⟩) 1 1 (W.alloc (.cells #[.int .u8 o.1.toNat, .string o.2] 177)) (one_opt W o hd) (by omega))
  have HO := Lib.hid (own_any g p (lo o))
  clear h HW hb
  go_enter Tryz.func136, Tryz.ntmps136
  go_wp2_with fail
  refine HG.out.mono ?_
  rintro e w1 ⟨A, c, rfl, _, hb1⟩
  clear hW
  have HB1 := Lib.hid (((Below.refl W.heap.size W).alloc (Nat.le_refl _) (.cells #[.int .u8 o.1.toNat, .string o.2] 177)).trans (hb1.mono (by simp)))
  clear hb1 HG
  rw [show Lco.gL [o] = lo o from rfl]
  generalize (gO [o]).length = n1
  generalize gE [o] = e1
  generalize hlo : lo o = x at *
  have HLO := Lib.hid hlo
  clear hlo
  obtain ⟨V, hV, HV⟩ := boxL w1 x
  have HB2 : Hid (Below W.heap.size W V) := HB1.out.trans (HV.out.2.1.mono HB1.out.size)
  have HB3 := Lib.hid (HB.out.trans (HB2.out.mono HB.out.size))
  have HP2 := Lib.hid (HP.out.callee HB2.out)
  have k0 : V.cell? ⟨bx, 0, none⟩ = some (.pointer (some ⟨g, 0, none⟩)) := Boxed.cell (show Boxed V bx 39 (.pointer (some ⟨g, 0, none⟩)) from (HB2.out.block bx HX.out.lt).trans HX.out)
  obtain ⟨d0, d1, d2, d3, d4, d5, d7, d8⟩ := cells8 HV.out.1
  have d6 : V.cell? ⟨w1.heap.size, 6, none⟩ = some (.int .u32 x.magic.toNat) := HV.out.1.c 6
  unfold lv
  go_wp2_with fail
  refine (HO.out V HP2.out).mono ?_
  rintro e w2 ⟨rfl, hb2⟩
  have HB4 := Lib.hid (HB3.out.trans (hb2.mono HB3.out.size))
  clear hb2
  go_wp2
  go_ret
  exact ⟨by rw [HLO.out] <;> rfl, HB4.out⟩
def OwnQ (p : Po) (l : List Opt) (w : World) (e : Ending) (w' : World) : Prop := ((∃ k : Nat, own p l = true ∧ e = .returned (.int .i64 (k : Nat))) ∨ (own p l = false ∧ e = .returned (.int .i64 (-1)))) ∧ Below w.heap.size w w'
theorem own_take {p : Po} {l : List Opt} {k : Nat} (h : own p (l.take k) = true) : own p l = true := by
  unfold own at *
  rw [List.any_eq_true] at *
  obtain ⟨x, hx, h2⟩ := h
  exact ⟨x, List.mem_of_mem_take hx, h2⟩
set_option maxHeartbeats 2000000 in
set_option maxRecDepth 100000 in
theorem ownIndex_any (bx g : Nat) (p : Po) (l : List Opt) (A : Option Addr) (n c : Nat) (w : World) (hb : Boxed w bx 39 (.pointer (some ⟨g, 0, none⟩))) (h : PAt w g p) (hl : Opts w w.heap.size A n l) (hn : n ≤ maxLen) :
    Calls Tryz.prog 163 #[.slice A n c, .func (.func 136) #[] #[.pointer (some ⟨bx, 0, none⟩)]] w (OwnQ p l w) := by
  have Hn := Lib.hid hl.1
  have Hl := Lib.hid hl; clear hl
  have Hg := Lib.hid hb; clear hb
  have HP := Lib.hid h; clear h
  unfold maxLen at hn
  go_enter Tryz.func163, Tryz.ntmps163
  go_wp2
  go_loopw [8] (fun i wr => ∃ k : Nat, k ≤ n ∧ i = .int .i64 k ∧ Hid (own p (l.take k) = false) ∧ Below w.heap.size w wr) (fun i _ => n - (intOf i).toNat)
  case atStart => exact ⟨0, Nat.zero_le _, rfl, rfl, Below.refl _ _⟩
  case round =>
    obtain ⟨k, hk, rfl, HT, hb⟩ := hrel
    by_cases hlt : k < n
    · obtain ⟨ad, o, rfl, hB, ho, hS1, hc0, hc1⟩ := (Hl.out.below hb).at_ hlt
      have Hst := Lib.hid (own_snoc p l k o ho)
      have HC := Lib.hid (ownc_any o bx g p wr ((hb.block bx Hg.out.lt).trans Hg.out) (HP.out.callee hb) hS1)
      clear ho
      cases e1 : isOwn p.w (lo o)
      · have HT2 : Hid (own p (l.take (k + 1)) = false) := by show _ = _; rw [Hst.out, HT.out, e1]; rfl
        rw [e1] at HC
        clear e1
        go_wp2_with fail
        refine HC.out.mono ?_
        rintro e w1 ⟨rfl, hb1⟩
        have HB1 := Lib.hid (hb.trans (hb1.mono hb.size)); clear hb1
        go_wp2
        go_roundw
        case rel => exact ⟨k + 1, by omega, by go_num, HT2, HB1.out⟩
        case measure => simp [intOf]; omega
      · have HT2 : Hid (own p l = true) := own_take (k := k + 1) (by rw [Hst.out, HT.out, e1]; rfl)
        rw [e1] at HC
        clear e1
        go_wp2_with fail
        refine HC.out.mono ?_
        rintro e w1 ⟨rfl, hb1⟩
        have HB1 := Lib.hid (hb.trans (hb1.mono hb.size)); clear hb1
        go_wp2
        go_ret
        exact ⟨.inl ⟨k, HT2.out, rfl⟩, HB1.out⟩
    · obtain rfl : k = n := by omega
      have HF : Hid (own p l = false) := by
        have h := HT.out
        rw [List.take_of_length_le (by rw [Hn.out]; exact Nat.le_refl _)] at h
        exact h
      go_wp2
      go_ret
      exact ⟨.inr ⟨HF.out, rfl⟩, hb⟩
set_option maxHeartbeats 1000000 in
set_option maxRecDepth 100000 in
theorem hasOwn_any (g : Nat) (p : Po) (l : List Opt) (A : Option Addr) (n c : Nat) (w : World) (h : PAt w g p) (hl : Opts w w.heap.size A n l) (hn : n ≤ maxLen) :
    Calls Tryz.prog 122 #[.pointer (some ⟨g, 0, none⟩), .slice A n c] w fun e w' => e = .returned (.bool (own p l)) ∧ Below w.heap.size w w' := by
  have HC : Hid (∀ W, Boxed W w.heap.size 39 (.pointer (some ⟨g, 0, none⟩)) → PAt W g p → Opts W W.heap.size A n l → Calls Tryz.prog 135 #[.slice A n c, .func (.func 136) #[] #[.pointer (some ⟨w.heap.size, 0, none⟩)]] W fun e w' => e = .returned (.bool (own p l)) ∧ Below W.heap.size W w') := by
    intro W hbx hP hO
    have HI := Lib.hid (ownIndex_any w.heap.size g p l A n c W hbx hP hO hn)
    clear hbx hP hO h hl
    go_enter Tryz.func135, Tryz.ntmps135
    go_wp2_with fail
    refine HI.out.mono ?_
    rintro e w1 ⟨⟨k, ho, rfl⟩ | ⟨ho, rfl⟩, hb1⟩
    · have HO := Lib.hid ho
      have HB := Lib.hid hb1
      have hk0 : (0 : Int) ≤ (k : Int) := Int.natCast_nonneg k
      clear ho hb1
      go_wp2
      go_ret
      exact ⟨by rw [HO.out] <;> rfl, HB.out⟩
    · have HO := Lib.hid ho
      have HB := Lib.hid hb1
      clear ho hb1
      go_wp2
      go_ret
      exact ⟨by rw [HO.out] <;> rfl, HB.out⟩
  have hb := (Below.refl w.heap.size w).alloc (Nat.le_refl _) (.cells #[.pointer (some ⟨g, 0, none⟩)] 39)
  have HB := Lib.hid hb
  have HCC := Lib.hid (HC.out _ (Boxed.new w _ _) (h.alloc _) (hl.laid _))
  clear hb h hl HC
  go_enter Tryz.func122, Tryz.ntmps122
  go_wp2_with fail
  refine HCC.out.mono ?_
  rintro e w1 ⟨rfl, hb1⟩
  have HB1 := Lib.hid (HB.out.trans (hb1.mono HB.out.size))
  clear hb1
  go_wp2
  go_ret
  exact ⟨rfl, HB1.out⟩
end Go.Proofs.YtpppggicihfbgaaGreat.Pol

/- What Judge keeps: rows past a turn of the policy. -/
namespace Go.Proofs.YtpppggicihfbgaaGreat.Pol
open Go.RowKit Go.Proofs.YtpppggicihfbgaaGreat.Oct Go.Proofs.YtpppggicihfbgaaGreat.Row Go.Proofs.YtpppggicihfbgaaGreat.Mem Go.Proofs.YtpppggicihfbgaaGreat.Opt Go.Proofs.YtpppggicihfbgaaGreat.Lco

theorem lv_no (x : Lcp) (s : ByteArray) : Value.string s ∉ lv x := by unfold lv; simp
theorem cv_no (c : Conf) (s : ByteArray) : Value.string s ∉ cv c := by unfold cv; simp
theorem pv_no (p : Po) (s : ByteArray) : Value.string s ∉ pv p := by
  unfold pv
  simp only [List.mem_append, not_or]
  exact ⟨lv_no _ s, cv_no _ s, lv_no _ s, lv_no _ s, by simp⟩
theorem str_apart {w : World} {g b i : Nat} {t : TypeId} {cs : List Value} {s : ByteArray} (h : Blk w g cs t) (hn : Value.string s ∉ cs) (hc : w.cell? ⟨b, i, none⟩ = some (.string s)) : b ≠ g := by
  rintro rfl
  rw [Blk.at_ h i] at hc
  exact hn (List.mem_of_getElem? hc)
theorem opts_past {w w' : World} {g B n : Nat} {t : TypeId} {cs : List Value} {A : Option Addr} {l : List Opt} (h : Opts w B A n l) (hP : Blk w g cs t) (hs : ∀ s, Value.string s ∉ cs) (hm : Moves (fun k => k = g) w w') (hB : B ≤ w.heap.size) : Opts w' B A n l :=
  ⟨h.1, h.2.1, fun hn => by
    obtain ⟨ad, e, hb, hc⟩ := h.2.2 hn
    refine ⟨ad, e, hb, fun j hj => ?_⟩
    have hk : (ad.add (j * 2)).block = ad.block := Oct.block_add _ _
    have hne : (ad.add (j * 2)).block ≠ g := str_apart hP (hs _) (hc j hj).2
    exact ⟨(hm.cell (by rw [hk]; omega) (by exact hne)).trans (hc j hj).1, (hm.cell (by show (ad.add (j * 2)).block < _; rw [hk]; omega) (by exact hne)).trans (hc j hj).2⟩⟩
theorem vers_past {w w' : World} {g B n : Nat} {t : TypeId} {cs : List Value} {A : Option Addr} {l : List Ver} (h : Vers w B A n l) (hP : Blk w g cs t) (hs : ∀ s, Value.string s ∉ cs) (hm : Moves (fun k => k = g) w w') (hB : B ≤ w.heap.size) : Vers w' B A n l :=
  ⟨h.1, fun hn => by
    obtain ⟨ad, e, hb, hc⟩ := h.2 hn
    refine ⟨ad, e, hb, fun j hj => ?_⟩
    have hk : (ad.add (j * 5)).block = ad.block := Oct.block_add _ _
    obtain ⟨c0, c1, c2, c3, c4⟩ := hc j hj
    have hne : (ad.add (j * 5)).block ≠ g := str_apart hP (hs _) c1
    have hl : (ad.add (j * 5)).block < w.heap.size := by rw [hk]; omega
    exact ⟨(hm.cell hl hne).trans c0, (hm.cell (by exact hl) (by exact hne)).trans c1, (hm.cell (by exact hl) (by exact hne)).trans c2, (hm.cell (by exact hl) (by exact hne)).trans c3, (hm.cell (by exact hl) (by exact hne)).trans c4⟩⟩
theorem vs_loop (p : Po) (l l' : List Opt) : vs (loopP p l) l' = vs p l' := by unfold loopP; split <;> rfl
theorem ver_got (p : Po) (l : List Opt) (o : Opt) : (ver p l o).got = o := by unfold ver; split <;> rfl
theorem vs_mem {p : Po} {l : List Opt} {v : Ver} (h : v ∈ vs p l) : v.got ∈ l ∧ v.bet.2.size ≤ 4 := by
  unfold vs at h
  obtain ⟨i, hi, rfl⟩ := List.mem_map.1 h
  have hi' : i < l.length := List.mem_range.1 hi
  rw [List.getD_eq_getElem?_getD, List.getElem?_eq_getElem hi']
  refine ⟨by rw [ver_got]; exact List.getElem_mem hi', ?_⟩
  unfold ver
  split
  · exact Nat.zero_le _
  · rename_i h1
    simp only [Bool.or_eq_true, Bool.not_eq_true', not_or] at h1
    exact sug_size (by simpa using h1.2)
def JudQ (p : Po) (l : List Opt) (g : Nat) (w : World) (e : Ending) (w' : World) : Prop := ∃ A c, e = .returned (.tuple #[.int .u8 (jC p l), .slice A (jA p l).length c]) ∧ Opts w' w'.heap.size A (jA p l).length (jA p l) ∧ PAt w' g (jP p l) ∧ Moves (fun k => k = g) w w'
structure Jd (w wr : World) (g : Nat) (p : Po) (A : Option Addr) (n : Nat) (l : List Opt) : Prop where
  hp : PAt wr g p
  hm : Moves (fun k => k = g) w wr
  ho : Opts wr w.heap.size A n l
theorem Jd.callee {w wr w' : World} {g : Nat} {p : Po} {A : Option Addr} {n : Nat} {l : List Opt} (h : Jd w wr g p A n l) (hb : Below wr.heap.size wr w') : Jd w w' g p A n l :=
  ⟨h.hp.callee hb, h.hm.trans (Moves.of_below hb) (fun j hj e => e), h.ho.callee hb h.hm.size⟩
theorem Jd.turn {w wr w' : World} {g : Nat} {p p' : Po} {A : Option Addr} {n : Nat} {l : List Opt} (h : Jd w wr g p A n l) (hm : Moves (fun k => k = g) wr w') (hp : PAt w' g p') : Jd w w' g p' A n l :=
  ⟨hp, h.hm.trans hm (fun j hj e => e), opts_past h.ho h.hp (pv_no p) hm h.hm.size⟩
end Go.Proofs.YtpppggicihfbgaaGreat.Pol

/- Contract of Judge. -/
namespace Go.Proofs.YtpppggicihfbgaaGreat.Pol
open Go.RowKit Go.Proofs.YtpppggicihfbgaaGreat.Oct Go.Proofs.YtpppggicihfbgaaGreat.Row Go.Proofs.YtpppggicihfbgaaGreat.Mem Go.Proofs.YtpppggicihfbgaaGreat.Opt Go.Proofs.YtpppggicihfbgaaGreat.Lco

theorem PAt.peers {w : World} {g : Nat} {p : Po} (h : PAt w g p) : w.cell? ⟨g, 28, none⟩ = some (Value.bool p.peer.hm) ∧ w.cell? ⟨g, 29, none⟩ = some (.int .u16 p.peer.mru.toNat) ∧ w.cell? ⟨g, 30, none⟩ = some (.bool p.peer.ha) ∧ w.cell? ⟨g, 31, none⟩ = some (.int .u32 p.peer.accm.toNat) ∧ w.cell? ⟨g, 32, none⟩ = some (.int .u8 p.peer.auth.toNat) ∧ w.cell? ⟨g, 33, none⟩ = some (.bool p.peer.hg) ∧ w.cell? ⟨g, 34, none⟩ = some (.int .u32 p.peer.magic.toNat) ∧ w.cell? ⟨g, 35, none⟩ = some (.bool p.peer.pfc) ∧ w.cell? ⟨g, 36, none⟩ = some (.bool p.peer.acfc) ∧ w.frozen? ⟨g, 28, none⟩ = false ∧ w.frozen? ⟨g, 29, none⟩ = false ∧ w.frozen? ⟨g, 30, none⟩ = false ∧ w.frozen? ⟨g, 31, none⟩ = false ∧ w.frozen? ⟨g, 32, none⟩ = false ∧ w.frozen? ⟨g, 33, none⟩ = false ∧ w.frozen? ⟨g, 34, none⟩ = false ∧ w.frozen? ⟨g, 35, none⟩ = false ∧ w.frozen? ⟨g, 36, none⟩ = false := ⟨h.c 28, h.c 29, h.c 30, h.c 31, h.c 32, h.c 33, h.c 34, h.c 35, h.c 36, h.f 28, h.f 29, h.f 30, h.f 31, h.f 32, h.f 33, h.f 34, h.f 35, h.f 36⟩
theorem Jd.drewN {w wr : World} {g : Nat} {p : Po} {A : Option Addr} {n : Nat} {l : List Opt} (h : Jd w wr g p A n l) (k : Nat) : Jd w (wr.drewN k) g p A n l := ⟨h.hp, h.hm.drewN k, h.ho⟩
theorem loop_naks (p : Po) (l : List Opt) : (loopP p l).naks = p.naks := by unfold loopP; split <;> rfl
theorem loop_c (p : Po) (l : List Opt) : (loopP p l).c = p.c := by unfold loopP; split <;> rfl
theorem ref_of {p : Po} {l : List Opt} (h : ¬ refs (vs p l) = []) : jC p l = 4 ∧ jA p l = refs (vs p l) ∧ jP p l = { loopP p l with naks := 0 } := by
  unfold jC jA jP
  rw [if_pos h, if_pos h, if_pos h]
  exact ⟨rfl, rfl, rfl⟩
theorem rej_of {p : Po} {l : List Opt} (h : refs (vs p l) = []) (h2 : ¬ poors (vs p l) = []) (hx : (p.naks : Int) = p.c.mn) : jC p l = 4 ∧ jA p l = poors (vs p l) ∧ jP p l = { loopP p l with naks := 0 } := by
  refine ⟨?_, ?_, ?_⟩ <;> simp [jC, jA, jP, h, h2, hx]
theorem nak_of {p : Po} {l : List Opt} (h : refs (vs p l) = []) (h2 : ¬ poors (vs p l) = []) (hx : ¬ (p.naks : Int) = p.c.mn) : jC p l = 3 ∧ jA p l = insts (vs p l) ∧ jP p l = { loopP p l with naks := p.naks + 1 } := by
  refine ⟨?_, ?_, ?_⟩ <;> simp [jC, jA, jP, h, h2, hx]
theorem ack_of {p : Po} {l : List Opt} (h : refs (vs p l) = []) (h2 : poors (vs p l) = []) : jC p l = 2 ∧ jA p l = l ∧ jP p l = { loopP p l with naks := 0, peer := Lco.gL l } := by
  refine ⟨?_, ?_, ?_⟩ <;> simp [jC, jA, jP, h, h2]
theorem judQ_of {p : Po} {l a : List Opt} {g C m : Nat} {w w' : World} {A A' : Option Addr} {n c : Nat} {q : Po} (h : Jd w w' g q A n l) (ha : Opts w' w'.heap.size A' m a) (hC : jC p l = C) (hA : jA p l = a) (hP : jP p l = q) :
    JudQ p l g w (.returned (.tuple #[.int .u8 (C : Nat), .slice A' m c])) w' := by
  have e := ha.1
  subst e hC hA hP
  exact ⟨A', c, rfl, ha, h.hp, h.hm⟩
set_option maxHeartbeats 8000000 in
set_option maxRecDepth 100000 in
theorem judge_any (g : Nat) (p : Po) (l : List Opt) (A : Option Addr) (n c : Nat) (w : World) (h : PAt w g p) (hl : Opts w w.heap.size A n l) (hA : A = none → c = 0) (hn : n ≤ 1000) (hni : p.naks ≤ 1000) (hlo : p.loops ≤ 1000000) :
    Calls Tryz.prog 117 #[.pointer (some ⟨g, 0, none⟩), .slice A n c] w (JudQ p l g w) := by
  have HJ : Hid (Jd w w g p A n l) := ⟨h, Moves.refl _ _, hl⟩
  have HZ := Lib.hid hl.2.1
  have HO := Lib.hid (hasOwn_any g p l A n c w h hl (by unfold maxLen; omega))
  have hni1 : (p.naks : Int) ≤ 1000 := by omega
  have hni0 : (0 : Int) ≤ (p.naks : Int) := Int.natCast_nonneg _
  have hlo1 : (p.loops : Int) ≤ 1000000 := by omega
  have hlo0 : (0 : Int) ≤ (p.loops : Int) := Int.natCast_nonneg _
  clear h hl hni hlo
  go_enter Tryz.func117, Tryz.ntmps117
  go_wp2_with fail
  refine HO.out.mono ?_
  rintro e w1 ⟨rfl, hb1⟩
  have H1 := Lib.hid (HJ.out.callee hb1)
  clear hb1 HO HJ
  cases ho : own p l
  · have HQ : Hid (Jd w w1 g (loopP p l) A n l) := by show Jd _ _ _ _ _ _ _; rw [show loopP p l = p from by unfold loopP; rw [ho]; rfl]; exact H1.out
    clear H1 ho
    have HE := Lib.hid (evaluate_any g (loopP p l) l A n c w1 HQ.out.hp (HQ.out.ho.more HQ.out.hm.size) hn)
    go_wp2_with fail
    refine HE.out.mono ?_
    rintro e w2 ⟨A2, c2, rfl, hv2, hb2⟩
    rw [vs_loop] at hv2
    have H2 := Lib.hid (HQ.out.callee hb2)
    have HV2 := Lib.hid hv2
    clear hv2 hb2 HE HQ
    have HR := Lib.hid (row_any 125 (fun v => (v.got, v.rej)) (fun v w => refused_any v w) (enters_of Tryz.func125 (by kernel_rfl) rfl) (vs p l) A2 n c2 w2 HV2.out hn (fun v hv => HZ.out _ (vs_mem hv).1))
    go_wp2_with fail
    refine HR.out.mono ?_
    rintro e w3 ⟨A3, c3, rfl, hO3, hb3⟩
    have H3 := Lib.hid (H2.out.callee hb3)
    have HV3 := Lib.hid (HV2.out.next hb3)
    obtain ⟨m, hm⟩ : ∃ m, (pick (fun v => (v.got, v.rej)) (vs p l)).length = m := ⟨_, rfl⟩
    rw [hm] at hO3 ⊢
    have HO3 := Lib.hid hO3
    have HM : Hid ((refs (vs p l)).length = m) := hm
    clear hO3 hb3 HR H2 HV2 hm
    by_cases hr : refs (vs p l) = []
    · have hm0 : m = 0 := by rw [← HM.out, hr]; rfl
      subst hm0
      have Hr := Lib.hid hr
      clear hr HM HO3
      have HR := Lib.hid (row_any 127 (fun v => (v.got, poor v)) (fun v w => poor_any v w) (enters_of Tryz.func127 (by kernel_rfl) rfl) (vs p l) A2 n c2 w3 HV3.out hn (fun v hv => HZ.out _ (vs_mem hv).1))
      go_wp2_with fail
      refine HR.out.mono ?_
      rintro e w4 ⟨A4, c4, rfl, hO4, hb4⟩
      have H4 := Lib.hid (H3.out.callee hb4)
      have HV4 := Lib.hid (HV3.out.next hb4)
      obtain ⟨m, hm⟩ : ∃ m, (pick (fun v => (v.got, poor v)) (vs p l)).length = m := ⟨_, rfl⟩
      rw [hm] at hO4 ⊢
      have HO4 := Lib.hid hO4
      have HM : Hid ((poors (vs p l)).length = m) := hm
      clear hO4 hb4 HR H3 HV3 hm
      have k37 : w4.cell? ⟨g, 37, none⟩ = some (.int .i64 (loopP p l).naks) := H4.out.hp.c 37
      have f37 := H4.out.hp.f 37
      by_cases hr : poors (vs p l) = []
      · have hm0 : m = 0 := by rw [← HM.out, hr]; rfl
        subst hm0
        have HC := Lib.hid (ack_of Hr.out hr)
        clear hr HM HO4 HV4
        have H5 : Hid (Jd w (w4.setCell ⟨g, 37, none⟩ (.int .i64 0)) g { loopP p l with naks := 0 } A n l) := H4.out.turn (set_moves _ _ _ _) (H4.out.hp.setNaks 0)
        have HG := Lib.hid (get_row l A n c _ (H5.out.ho.more H5.out.hm.size) hn)
        go_wp2_with fail
        refine HG.out.mono ?_
        rintro e w5 ⟨A5, c5, rfl, _, hb5⟩
        have H6 := Lib.hid (H5.out.callee hb5)
        clear hb5 HG H5 H4 k37 f37
        obtain ⟨x, hx⟩ : ∃ x, Lco.gL l = x := ⟨_, rfl⟩
        rw [hx]
        have HX := Lib.hid hx
        clear hx
        generalize (gO l).length = n1
        generalize gE l = e1
        obtain ⟨p28, p29, p30, p31, p32, p33, p34, p35, p36, q28, q29, q30, q31, q32, q33, q34, q35, q36⟩ := H6.out.hp.peers
        obtain ⟨V, hV⟩ : ∃ V, w5.setCells g 28 (lv x) = V := ⟨_, rfl⟩
        have H7 : Hid (Jd w V g { loopP p l with naks := 0, peer := x } A n l) := by show Jd _ _ _ _ _ _ _; rw [← hV]; exact H6.out.turn (sets_moves _ _ _ _) (H6.out.hp.setPeer x)
        simp only [World.setCells, lv] at hV
        unfold lv
        have HK := Lib.hid (clone_any l A n c V (H7.out.ho.more H7.out.hm.size) hA hn)
        clear H6
        go_wp2_with fail
        refine HK.out.mono ?_
        rintro e w6 ⟨A6, c6, rfl, hO6, _, hb6⟩
        have H8 := Lib.hid (H7.out.callee hb6)
        have HO6 := Lib.hid hO6
        clear hO6 hb6 HK H7 hV p28 p29 p30 p31 p32 p33 p34 p35 p36 q28 q29 q30 q31 q32 q33 q34 q35 q36
        go_wp2
        go_ret2
        exact judQ_of (C := 2) H8.out HO6.out HC.out.1 HC.out.2.1 (by rw [HC.out.2.2, HX.out])
      · have hm0 : 0 < m := by rw [← HM.out]; exact List.length_pos_iff.2 hr
        have hm1 : (0 : Int) < (m : Int) := by omega
        have hm2 := decide_eq_true hm1
        rw [loop_naks] at k37
        have k18 : w4.cell? ⟨g, 18, none⟩ = some (.int .i64 (loopP p l).c.mn) := H4.out.hp.c 18
        rw [loop_c] at k18
        by_cases hx : (p.naks : Int) = p.c.mn
        · have hx1 : ((p.naks : Int) == p.c.mn) = true := by rw [beq_iff_eq]; exact hx
          have HC := Lib.hid (rej_of Hr.out hr hx)
          clear hm0 hr hx
          go_wp2_with fail
          go_quiet (fail)
          have H5 : Hid (Jd w (w4.drewN nq) g (loopP p l) A n l) := H4.out.drewN nq
          have HO5 : Hid (Opts (w4.drewN nq) (w4.drewN nq).heap.size A4 m (poors (vs p l))) := HO4.out
          generalize w4.drewN nq = w5 at *
          go_wp2_with fail
          refine (rejects_any g (loopP p l) _ w5 H5.out.hp).mono ?_
          rintro e w6 ⟨rfl, rfl⟩
          have H6 : Hid (Jd w (w5.setCell ⟨g, 37, none⟩ (.int .i64 0)) g { loopP p l with naks := 0 } A n l) := H5.out.turn (set_moves _ _ _ _) (H5.out.hp.setNaks 0)
          have HO6 : Hid (Opts (w5.setCell ⟨g, 37, none⟩ (.int .i64 0)) (w5.setCell ⟨g, 37, none⟩ (.int .i64 0)).heap.size A4 m (poors (vs p l))) := (opts_past HO5.out H5.out.hp (pv_no _) (set_moves _ _ _ _) (Nat.le_refl _)).more (set_moves w5 g 37 _).size
          clear H4 k37 k18 f37
          go_wp2
          go_ret2
          exact judQ_of (C := 4) H6.out HO6.out HC.out.1 HC.out.2.1 HC.out.2.2
        · have hx1 : ((p.naks : Int) == p.c.mn) = false := by rw [beq_eq_false_iff_ne]; exact hx
          have HC := Lib.hid (nak_of Hr.out hr hx)
          clear hm0 hr hx
          go_wp2_with fail
          go_quiet (fail)
          have H5 : Hid (Jd w (w4.drewN nq) g (loopP p l) A n l) := H4.out.drewN nq
          have HV5 : Hid (Vers (w4.drewN nq) (w4.drewN nq).heap.size A2 n (vs p l)) := HV4.out
          have k37 : (w4.drewN nq).cell? ⟨g, 37, none⟩ = some (.int .i64 p.naks) := k37
          have f37 : (w4.drewN nq).frozen? ⟨g, 37, none⟩ = false := f37
          generalize w4.drewN nq = w5 at *
          obtain ⟨V, hV⟩ : ∃ V, w5.setCell ⟨g, 37, none⟩ (.int .i64 ((p.naks : Int) + 1)) = V := ⟨_, rfl⟩
          have hmv : Moves (fun k => k = g) w5 V := by rw [← hV]; exact set_moves _ _ _ _
          have H6 : Hid (Jd w V g { loopP p l with naks := p.naks + 1 } A n l) := H5.out.turn hmv (by rw [← hV]; exact H5.out.hp.setNaks (p.naks + 1))
          have HV6 : Hid (Vers V V.heap.size A2 n (vs p l)) := (vers_past HV5.out H5.out.hp (pv_no _) hmv (Nat.le_refl _)).more hmv.size
          have HR := Lib.hid (row_any 128 (fun v => (v.bet, poor v)) (fun v w => instead_any v w) (enters_of Tryz.func128 (by kernel_rfl) rfl) (vs p l) A2 n c2 V HV6.out hn (fun v hv => Nat.le_trans (vs_mem hv).2 (by omega)))
          clear hmv H4 HO4 HV4 H5 HV5
          go_wp2_with fail
          refine HR.out.mono ?_
          rintro e w6 ⟨A6, c6, rfl, hO6, hb6⟩
          have H7 := Lib.hid (H6.out.callee hb6)
          have HO7 := Lib.hid hO6
          clear hO6 hb6 HR
          go_wp2
          go_ret2
          exact judQ_of (C := 3) H7.out HO7.out HC.out.1 HC.out.2.1 HC.out.2.2
    · have hm0 : 0 < m := by rw [← HM.out]; exact List.length_pos_iff.2 hr
      have hm1 : (0 : Int) < (m : Int) := by omega
      have hm2 := decide_eq_true hm1
      have HC := Lib.hid (ref_of hr)
      clear hm0 hr
      go_wp2_with fail
      refine (rejects_any g (loopP p l) _ w3 H3.out.hp).mono ?_
      rintro e w6 ⟨rfl, rfl⟩
      have H6 : Hid (Jd w (w3.setCell ⟨g, 37, none⟩ (.int .i64 0)) g { loopP p l with naks := 0 } A n l) := H3.out.turn (set_moves _ _ _ _) (H3.out.hp.setNaks 0)
      have HO6 : Hid (Opts (w3.setCell ⟨g, 37, none⟩ (.int .i64 0)) (w3.setCell ⟨g, 37, none⟩ (.int .i64 0)).heap.size A3 m (refs (vs p l))) := (opts_past HO3.out H3.out.hp (pv_no _) (set_moves _ _ _ _) (Nat.le_refl _)).more (set_moves w3 g 37 _).size
      go_wp2
      go_ret2
      exact judQ_of (C := 4) H6.out HO6.out HC.out.1 HC.out.2.1 HC.out.2.2
  · have c38 : w1.cell? ⟨g, 38, none⟩ = some (.int .i64 p.loops) := H1.out.hp.c 38
    have f38 := H1.out.hp.f 38
    obtain ⟨W, hW⟩ : ∃ W, w1.setCell ⟨g, 38, none⟩ (.int .i64 ((p.loops : Int) + 1)) = W := ⟨_, rfl⟩
    have HQ : Hid (Jd w W g (loopP p l) A n l) := by
      show Jd _ _ _ _ _ _ _
      rw [show loopP p l = { p with loops := p.loops + 1 } from by unfold loopP; rw [ho]; rfl, ← hW]
      exact H1.out.turn (set_moves _ _ _ _) (H1.out.hp.setLoops (p.loops + 1))
    clear H1 ho
    have HE := Lib.hid (evaluate_any g (loopP p l) l A n c W HQ.out.hp (HQ.out.ho.more HQ.out.hm.size) hn)
    go_wp2_with fail
    refine HE.out.mono ?_
    rintro e w2 ⟨A2, c2, rfl, hv2, hb2⟩
    rw [vs_loop] at hv2
    have H2 := Lib.hid (HQ.out.callee hb2)
    have HV2 := Lib.hid hv2
    clear hv2 hb2 HE HQ hW
    have HR := Lib.hid (row_any 125 (fun v => (v.got, v.rej)) (fun v w => refused_any v w) (enters_of Tryz.func125 (by kernel_rfl) rfl) (vs p l) A2 n c2 w2 HV2.out hn (fun v hv => HZ.out _ (vs_mem hv).1))
    go_wp2_with fail
    refine HR.out.mono ?_
    rintro e w3 ⟨A3, c3, rfl, hO3, hb3⟩
    have H3 := Lib.hid (H2.out.callee hb3)
    have HV3 := Lib.hid (HV2.out.next hb3)
    obtain ⟨m, hm⟩ : ∃ m, (pick (fun v => (v.got, v.rej)) (vs p l)).length = m := ⟨_, rfl⟩
    rw [hm] at hO3 ⊢
    have HO3 := Lib.hid hO3
    have HM : Hid ((refs (vs p l)).length = m) := hm
    clear hO3 hb3 HR H2 HV2 hm
    by_cases hr : refs (vs p l) = []
    · have hm0 : m = 0 := by rw [← HM.out, hr]; rfl
      subst hm0
      have Hr := Lib.hid hr
      clear hr HM HO3
      have HR := Lib.hid (row_any 127 (fun v => (v.got, poor v)) (fun v w => poor_any v w) (enters_of Tryz.func127 (by kernel_rfl) rfl) (vs p l) A2 n c2 w3 HV3.out hn (fun v hv => HZ.out _ (vs_mem hv).1))
      go_wp2_with fail
      refine HR.out.mono ?_
      rintro e w4 ⟨A4, c4, rfl, hO4, hb4⟩
      have H4 := Lib.hid (H3.out.callee hb4)
      have HV4 := Lib.hid (HV3.out.next hb4)
      obtain ⟨m, hm⟩ : ∃ m, (pick (fun v => (v.got, poor v)) (vs p l)).length = m := ⟨_, rfl⟩
      rw [hm] at hO4 ⊢
      have HO4 := Lib.hid hO4
      have HM : Hid ((poors (vs p l)).length = m) := hm
      clear hO4 hb4 HR H3 HV3 hm
      have k37 : w4.cell? ⟨g, 37, none⟩ = some (.int .i64 (loopP p l).naks) := H4.out.hp.c 37
      have f37 := H4.out.hp.f 37
      by_cases hr : poors (vs p l) = []
      · have hm0 : m = 0 := by rw [← HM.out, hr]; rfl
        subst hm0
        have HC := Lib.hid (ack_of Hr.out hr)
        clear hr HM HO4 HV4
        have H5 : Hid (Jd w (w4.setCell ⟨g, 37, none⟩ (.int .i64 0)) g { loopP p l with naks := 0 } A n l) := H4.out.turn (set_moves _ _ _ _) (H4.out.hp.setNaks 0)
        have HG := Lib.hid (get_row l A n c _ (H5.out.ho.more H5.out.hm.size) hn)
        go_wp2_with fail
        refine HG.out.mono ?_
        rintro e w5 ⟨A5, c5, rfl, _, hb5⟩
        have H6 := Lib.hid (H5.out.callee hb5)
        clear hb5 HG H5 H4 k37 f37
        obtain ⟨x, hx⟩ : ∃ x, Lco.gL l = x := ⟨_, rfl⟩
        rw [hx]
        have HX := Lib.hid hx
        clear hx
        generalize (gO l).length = n1
        generalize gE l = e1
        obtain ⟨p28, p29, p30, p31, p32, p33, p34, p35, p36, q28, q29, q30, q31, q32, q33, q34, q35, q36⟩ := H6.out.hp.peers
        obtain ⟨V, hV⟩ : ∃ V, w5.setCells g 28 (lv x) = V := ⟨_, rfl⟩
        have H7 : Hid (Jd w V g { loopP p l with naks := 0, peer := x } A n l) := by show Jd _ _ _ _ _ _ _; rw [← hV]; exact H6.out.turn (sets_moves _ _ _ _) (H6.out.hp.setPeer x)
        simp only [World.setCells, lv] at hV
        unfold lv
        have HK := Lib.hid (clone_any l A n c V (H7.out.ho.more H7.out.hm.size) hA hn)
        clear H6
        go_wp2_with fail
        refine HK.out.mono ?_
        rintro e w6 ⟨A6, c6, rfl, hO6, _, hb6⟩
        have H8 := Lib.hid (H7.out.callee hb6)
        have HO6 := Lib.hid hO6
        clear hO6 hb6 HK H7 hV p28 p29 p30 p31 p32 p33 p34 p35 p36 q28 q29 q30 q31 q32 q33 q34 q35 q36
        go_wp2
        go_ret2
        exact judQ_of (C := 2) H8.out HO6.out HC.out.1 HC.out.2.1 (by rw [HC.out.2.2, HX.out])
      · have hm0 : 0 < m := by rw [← HM.out]; exact List.length_pos_iff.2 hr
        have hm1 : (0 : Int) < (m : Int) := by omega
        have hm2 := decide_eq_true hm1
        rw [loop_naks] at k37
        have k18 : w4.cell? ⟨g, 18, none⟩ = some (.int .i64 (loopP p l).c.mn) := H4.out.hp.c 18
        rw [loop_c] at k18
        by_cases hx : (p.naks : Int) = p.c.mn
        · have hx1 : ((p.naks : Int) == p.c.mn) = true := by rw [beq_iff_eq]; exact hx
          have HC := Lib.hid (rej_of Hr.out hr hx)
          clear hm0 hr hx
          go_wp2_with fail
          go_quiet (fail)
          have H5 : Hid (Jd w (w4.drewN nq) g (loopP p l) A n l) := H4.out.drewN nq
          have HO5 : Hid (Opts (w4.drewN nq) (w4.drewN nq).heap.size A4 m (poors (vs p l))) := HO4.out
          generalize w4.drewN nq = w5 at *
          go_wp2_with fail
          refine (rejects_any g (loopP p l) _ w5 H5.out.hp).mono ?_
          rintro e w6 ⟨rfl, rfl⟩
          have H6 : Hid (Jd w (w5.setCell ⟨g, 37, none⟩ (.int .i64 0)) g { loopP p l with naks := 0 } A n l) := H5.out.turn (set_moves _ _ _ _) (H5.out.hp.setNaks 0)
          have HO6 : Hid (Opts (w5.setCell ⟨g, 37, none⟩ (.int .i64 0)) (w5.setCell ⟨g, 37, none⟩ (.int .i64 0)).heap.size A4 m (poors (vs p l))) := (opts_past HO5.out H5.out.hp (pv_no _) (set_moves _ _ _ _) (Nat.le_refl _)).more (set_moves w5 g 37 _).size
          clear H4 k37 k18 f37
          go_wp2
          go_ret2
          exact judQ_of (C := 4) H6.out HO6.out HC.out.1 HC.out.2.1 HC.out.2.2
        · have hx1 : ((p.naks : Int) == p.c.mn) = false := by rw [beq_eq_false_iff_ne]; exact hx
          have HC := Lib.hid (nak_of Hr.out hr hx)
          clear hm0 hr hx
          go_wp2_with fail
          go_quiet (fail)
          have H5 : Hid (Jd w (w4.drewN nq) g (loopP p l) A n l) := H4.out.drewN nq
          have HV5 : Hid (Vers (w4.drewN nq) (w4.drewN nq).heap.size A2 n (vs p l)) := HV4.out
          have k37 : (w4.drewN nq).cell? ⟨g, 37, none⟩ = some (.int .i64 p.naks) := k37
          have f37 : (w4.drewN nq).frozen? ⟨g, 37, none⟩ = false := f37
          generalize w4.drewN nq = w5 at *
          obtain ⟨V, hV⟩ : ∃ V, w5.setCell ⟨g, 37, none⟩ (.int .i64 ((p.naks : Int) + 1)) = V := ⟨_, rfl⟩
          have hmv : Moves (fun k => k = g) w5 V := by rw [← hV]; exact set_moves _ _ _ _
          have H6 : Hid (Jd w V g { loopP p l with naks := p.naks + 1 } A n l) := H5.out.turn hmv (by rw [← hV]; exact H5.out.hp.setNaks (p.naks + 1))
          have HV6 : Hid (Vers V V.heap.size A2 n (vs p l)) := (vers_past HV5.out H5.out.hp (pv_no _) hmv (Nat.le_refl _)).more hmv.size
          have HR := Lib.hid (row_any 128 (fun v => (v.bet, poor v)) (fun v w => instead_any v w) (enters_of Tryz.func128 (by kernel_rfl) rfl) (vs p l) A2 n c2 V HV6.out hn (fun v hv => Nat.le_trans (vs_mem hv).2 (by omega)))
          clear hmv H4 HO4 HV4 H5 HV5
          go_wp2_with fail
          refine HR.out.mono ?_
          rintro e w6 ⟨A6, c6, rfl, hO6, hb6⟩
          have H7 := Lib.hid (H6.out.callee hb6)
          have HO7 := Lib.hid hO6
          clear hO6 hb6 HR
          go_wp2
          go_ret2
          exact judQ_of (C := 3) H7.out HO7.out HC.out.1 HC.out.2.1 HC.out.2.2
    · have hm0 : 0 < m := by rw [← HM.out]; exact List.length_pos_iff.2 hr
      have hm1 : (0 : Int) < (m : Int) := by omega
      have hm2 := decide_eq_true hm1
      have HC := Lib.hid (ref_of hr)
      clear hm0 hr
      go_wp2_with fail
      refine (rejects_any g (loopP p l) _ w3 H3.out.hp).mono ?_
      rintro e w6 ⟨rfl, rfl⟩
      have H6 : Hid (Jd w (w3.setCell ⟨g, 37, none⟩ (.int .i64 0)) g { loopP p l with naks := 0 } A n l) := H3.out.turn (set_moves _ _ _ _) (H3.out.hp.setNaks 0)
      have HO6 : Hid (Opts (w3.setCell ⟨g, 37, none⟩ (.int .i64 0)) (w3.setCell ⟨g, 37, none⟩ (.int .i64 0)).heap.size A3 m (refs (vs p l))) := (opts_past HO3.out H3.out.hp (pv_no _) (set_moves _ _ _ _) (Nat.le_refl _)).more (set_moves w3 g 37 _).size
      go_wp2
      go_ret2
      exact judQ_of (C := 4) H6.out HO6.out HC.out.1 HC.out.2.1 HC.out.2.2
end Go.Proofs.YtpppggicihfbgaaGreat.Pol
