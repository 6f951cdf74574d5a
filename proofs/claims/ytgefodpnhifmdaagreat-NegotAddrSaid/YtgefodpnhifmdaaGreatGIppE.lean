/- Put together: IppE, IppV, IppH. -/
import Derived.Test.YtgefodpnhifmdaaGreatGIpcA
import Derived.Test.YtgefodpnhifmdaaGreatOptEq
import Derived.Test.YtgefodpnhifmdaaGreatGOptRf
import Derived.OwnWalk
import Derived.Deep.Slices
import Derived.Lib.SmallJoins
import Derived.Maps.AppendAt
import Derived.Deep.WholeRow

/- A verdict; contracts of isPoor, refused, poor, instead. -/
namespace Go.Proofs.YtgefodpnhifmdaaGreat.Ipp
open Go.RowKit Go.Proofs.YtgefodpnhifmdaaGreat.Oct Go.Proofs.YtgefodpnhifmdaaGreat.Row Go.Proofs.YtgefodpnhifmdaaGreat.Mem Go.Proofs.YtgefodpnhifmdaaGreat.Opt Go.Proofs.YtgefodpnhifmdaaGreat.Ipc

/-- A verdict's cells. -/
def verV (v : Ver) : List Value := [.int .u8 v.got.1.toNat, .string v.got.2, .bool v.rej, .int .u8 v.bet.1.toNat, .string v.bet.2]
/-- It lies in block g. -/
def VAt (w : World) (g : Nat) (v : Ver) : Prop := Blk w g (verV v) 204
theorem VAt.callee {w w' : World} {g : Nat} {v : Ver} (h : VAt w g v) (hb : Below w.heap.size w w') : VAt w' g v := Blk.callee h hb
theorem VAt.alloc {w : World} {g : Nat} {v : Ver} (h : VAt w g v) (o : Obj) : VAt (w.alloc o) g v := Blk.alloc h o
theorem VAt.c {w : World} {g : Nat} {v : Ver} (h : VAt w g v) (i : Nat) : w.cell? ⟨g, i, none⟩ = (verV v)[i]? := Blk.at_ h i
theorem VAt.moves {S : Nat → Prop} {w w' : World} {g : Nat} {v : Ver} (h : VAt w g v) (hm : Moves S w w') (hs : ¬ S g) : VAt w' g v := Blk.moves h hm hs
theorem vat_new (w : World) (v : Ver) : VAt (w.alloc (.cells (verV v).toArray 204)) w.heap.size v := blk_new w (verV v) _
theorem VAt.all {w : World} {g : Nat} {v : Ver} (h : VAt w g v) : w.cell? ⟨g, 0, none⟩ = some (.int .u8 v.got.1.toNat) ∧ w.cell? ⟨g, 1, none⟩ = some (.string v.got.2) ∧ w.cell? ⟨g, 2, none⟩ = some (.bool v.rej) ∧ w.cell? ⟨g, 3, none⟩ = some (.int .u8 v.bet.1.toNat) ∧ w.cell? ⟨g, 4, none⟩ = some (.string v.bet.2) := ⟨h.c 0, h.c 1, h.c 2, h.c 3, h.c 4⟩
theorem opt_neq {o p : Opt} {r : Bool} (h : decide (o = p) = r) (w : World) : (binOp .neq 157 (.agg #[.int .u8 o.1.toNat, .string o.2]) (.agg #[.int .u8 p.1.toNat, .string p.2])).run Tryz.prog w = .ok (.bool (!r)) w := by rw [run_neq_struct, opt_eq h]; rfl
theorem boxV (w : World) (v : Ver) : ∃ W, w.alloc (.cells #[.int .u8 v.got.1.toNat, .string v.got.2, .bool v.rej, .int .u8 v.bet.1.toNat, .string v.bet.2] 204) = W ∧ Hid (VAt W w.heap.size v ∧ Below w.heap.size w W ∧ W.heap.size = w.heap.size + 1) :=
  ⟨_, rfl, vat_new w v, (Below.refl w.heap.size w).alloc (Nat.le_refl _) _, by simp⟩
theorem boxVO (w : World) (v : Ver) : ∃ W, (w.alloc (.cells #[.int .u8 v.got.1.toNat, .string v.got.2, .bool v.rej, .int .u8 v.bet.1.toNat, .string v.bet.2] 204)).alloc (.cells #[.int .u8 0, .string ⟨#[]⟩] 157) = W ∧ Hid (VAt W w.heap.size v ∧ At W (w.heap.size + 1) (0, ⟨#[]⟩) ∧ Below w.heap.size w W ∧ W.heap.size = w.heap.size + 1 + 1) :=
  ⟨_, rfl, (vat_new w v).alloc _, by have := at_new (w.alloc (.cells (verV v).toArray 204)) 0 ⟨#[]⟩; rw [World.size_alloc] at this; exact this, ((Below.refl w.heap.size w).alloc (Nat.le_refl _) _).alloc (by simp) _, by simp⟩
set_option maxHeartbeats 1000000 in
set_option maxRecDepth 100000 in
theorem isPoor_any (v : Ver) (w : World) : Calls Tryz.prog 127 #[.agg #[.int .u8 v.got.1.toNat, .string v.got.2, .bool v.rej, .int .u8 v.bet.1.toNat, .string v.bet.2]] w fun e w' => e = .returned (.bool (poor v)) ∧ Below w.heap.size w w' := by
  obtain ⟨W, hW, HW⟩ := boxV w v
  obtain ⟨c0, c1, c2, c3, c4⟩ := HW.out.1.all
  have HB := Lib.hid HW.out.2.1
  have HE : Hid (poor v = (!v.rej && !decide (v.bet = v.got))) := rfl
  cases hr : v.rej
  · rw [hr] at c2 HE hW
    obtain ⟨r, hd⟩ : ∃ r, decide (v.bet = v.got) = r := ⟨_, rfl⟩
    have hN := fun w => opt_neq hd w
    have HF : Hid (poor v = !r) := by
      show _ = _
      rw [HE.out, hd]
      rfl
    clear HW hd HE
    go_enter Tryz.func127, Tryz.ntmps127
    go_wp2
    go_ret
    exact ⟨by rw [HF.out] <;> rfl, HB.out⟩
  · rw [hr] at c2 HE hW
    clear HW
    go_enter Tryz.func127, Tryz.ntmps127
    go_wp2
    go_ret
    exact ⟨by rw [HE.out] <;> rfl, HB.out⟩
/-- What a choice answers. -/
def PickQ (o : Opt) (b : Bool) (w : World) (e : Ending) (w' : World) : Prop := e = .returned (.tuple #[.agg #[.int .u8 o.1.toNat, .string o.2], .bool b]) ∧ Below w.heap.size w w'
set_option maxRecDepth 100000 in
theorem pick_end {f : Func} {p t : Nat} (hf : f.results = #[.cell p 157, .tmp t]) (tmps : Array Value) {W : World} {g : Nat} (o : Opt) (h : At W g o) (hp : tmps.getD p undef = .pointer (some ⟨g, 0, none⟩)) :
    (results f tmps).run Tryz.prog W = .ok (.tuple #[.agg #[.int .u8 o.1.toNat, .string o.2], tmps.getD t undef]) W := results_row1 hf tmps W g _ _ _ hp h Tryz.underlying157 rfl (by kernel_rfl)
set_option maxHeartbeats 1000000 in
set_option maxRecDepth 100000 in
theorem refused_any (v : Ver) (w : World) : Calls Tryz.prog 115 #[.agg #[.int .u8 v.got.1.toNat, .string v.got.2, .bool v.rej, .int .u8 v.bet.1.toNat, .string v.bet.2]] w (PickQ v.got v.rej w) := by
  obtain ⟨W, hW, HW⟩ := boxVO w v
  obtain ⟨c0, c1, c2, c3, c4⟩ := HW.out.1.all
  have f0 := Blk.frozen HW.out.2.1 0
  have f1 := Blk.frozen HW.out.2.1 1
  have z0 := HW.out.2.1.c0
  have z1 := HW.out.2.1.c1
  have HB := Lib.hid HW.out.2.2.1
  have HR := Lib.hid (HW.out.2.1.set v.got)
  go_enter Tryz.func115, Tryz.ntmps115
  go_wp2
  clear hW
  go_region
  go_wp2
  (try simp only [Exit.inBlock, Exit.then])
  refine bodyPost_ret (pick_end rfl _ v.got HR.out rfl) rfl ?_
  exact ⟨rfl, ((HB.out.setCell (p := ⟨w.heap.size + 1, 0, none⟩) (Nat.le_succ _) _).setCell (p := ⟨w.heap.size + 1, 1, none⟩) (Nat.le_succ _) _).drew⟩
set_option maxHeartbeats 2000000 in
set_option maxRecDepth 100000 in
theorem poor_any (v : Ver) (w : World) : Calls Tryz.prog 116 #[.agg #[.int .u8 v.got.1.toNat, .string v.got.2, .bool v.rej, .int .u8 v.bet.1.toNat, .string v.bet.2]] w (PickQ v.got (poor v) w) := by
  obtain ⟨W, hW, HW⟩ := boxVO w v
  obtain ⟨c0, c1, c2, c3, c4⟩ := HW.out.1.all
  have f0 := Blk.frozen HW.out.2.1 0
  have f1 := Blk.frozen HW.out.2.1 1
  have z0 := HW.out.2.1.c0
  have z1 := HW.out.2.1.c1
  have HV : Hid (VAt W.drew w.heap.size v) := HW.out.1
  have HZ : Hid (At W.drew (w.heap.size + 1) (0, ⟨#[]⟩)) := HW.out.2.1
  have HB : Hid (Below w.heap.size w W.drew) := HW.out.2.2.1.drew
  have HS : Hid (At ((W.drew.setCell ⟨w.heap.size + 1, 0, none⟩ (.int .u8 v.got.1.toNat)).setCell ⟨w.heap.size + 1, 1, none⟩ (.string v.got.2)) (w.heap.size + 1) v.got) := HZ.out.set v.got
  have HBS : Hid (Below w.heap.size w ((W.drew.setCell ⟨w.heap.size + 1, 0, none⟩ (.int .u8 v.got.1.toNat)).setCell ⟨w.heap.size + 1, 1, none⟩ (.string v.got.2))) := (HB.out.setCell (p := ⟨w.heap.size + 1, 0, none⟩) (Nat.le_succ _) _).setCell (p := ⟨w.heap.size + 1, 1, none⟩) (Nat.le_succ _) _
  have HVS : Hid (VAt ((W.drew.setCell ⟨w.heap.size + 1, 0, none⟩ (.int .u8 v.got.1.toNat)).setCell ⟨w.heap.size + 1, 1, none⟩ (.string v.got.2)) w.heap.size v) := ((HV.out.moves (set_moves _ (w.heap.size + 1) 0 _) (by omega)).moves (set_moves _ (w.heap.size + 1) 1 _) (by omega))
  have C1 := Lib.hid (isPoor_any v)
  go_enter Tryz.func116, Tryz.ntmps116
  go_wp2
  clear hW
  go_region_with (first
    | (go_at_call 127; refine (C1.out W.drew).mono ?_; rintro e w1 ⟨rfl, hb1⟩; have HZ1 := Lib.hid (HZ.out.callee hb1); have HB1 := Lib.hid (HB.out.trans (hb1.mono HB.out.size)); obtain ⟨d0, d1, d2, d3, d4⟩ := (HV.out.callee hb1).all; have g0 := Blk.frozen HZ1.out 0; have g1 := Blk.frozen HZ1.out 1; have y0 := HZ1.out.c0; have y1 := HZ1.out.c1; clear hb1)
    | (go_at_call 127; refine (C1.out _).mono ?_; rintro e w1 ⟨rfl, hb1⟩; have HS1 := Lib.hid (HS.out.callee hb1); have HB2 := Lib.hid (HBS.out.trans (hb1.mono HBS.out.size)); obtain ⟨d0, d1, d2, d3, d4⟩ := (HVS.out.callee hb1).all; clear hb1)
    | fail)
  all_goals go_wp2
  all_goals (try simp only [Exit.inBlock, Exit.then])
  all_goals first
    | (refine bodyPost_ret (pick_end rfl _ v.got HS1.out rfl) rfl ?_; exact ⟨rfl, HB2.out⟩)
    | (refine bodyPost_ret (pick_end rfl _ v.got (HZ1.out.set v.got) rfl) rfl ?_; exact ⟨rfl, (HB1.out.setCell (p := ⟨w.heap.size + 1, 0, none⟩) (Nat.le_succ _) _).setCell (p := ⟨w.heap.size + 1, 1, none⟩) (Nat.le_succ _) _⟩)
set_option maxHeartbeats 2000000 in
set_option maxRecDepth 100000 in
theorem instead_any (v : Ver) (w : World) : Calls Tryz.prog 117 #[.agg #[.int .u8 v.got.1.toNat, .string v.got.2, .bool v.rej, .int .u8 v.bet.1.toNat, .string v.bet.2]] w (PickQ v.bet (poor v) w) := by
  obtain ⟨W, hW, HW⟩ := boxVO w v
  obtain ⟨c0, c1, c2, c3, c4⟩ := HW.out.1.all
  have f0 := Blk.frozen HW.out.2.1 0
  have f1 := Blk.frozen HW.out.2.1 1
  have z0 := HW.out.2.1.c0
  have z1 := HW.out.2.1.c1
  have HV : Hid (VAt W.drew w.heap.size v) := HW.out.1
  have HZ : Hid (At W.drew (w.heap.size + 1) (0, ⟨#[]⟩)) := HW.out.2.1
  have HB : Hid (Below w.heap.size w W.drew) := HW.out.2.2.1.drew
  have HS : Hid (At ((W.drew.setCell ⟨w.heap.size + 1, 0, none⟩ (.int .u8 v.bet.1.toNat)).setCell ⟨w.heap.size + 1, 1, none⟩ (.string v.bet.2)) (w.heap.size + 1) v.bet) := HZ.out.set v.bet
  have HBS : Hid (Below w.heap.size w ((W.drew.setCell ⟨w.heap.size + 1, 0, none⟩ (.int .u8 v.bet.1.toNat)).setCell ⟨w.heap.size + 1, 1, none⟩ (.string v.bet.2))) := (HB.out.setCell (p := ⟨w.heap.size + 1, 0, none⟩) (Nat.le_succ _) _).setCell (p := ⟨w.heap.size + 1, 1, none⟩) (Nat.le_succ _) _
  have HVS : Hid (VAt ((W.drew.setCell ⟨w.heap.size + 1, 0, none⟩ (.int .u8 v.bet.1.toNat)).setCell ⟨w.heap.size + 1, 1, none⟩ (.string v.bet.2)) w.heap.size v) := ((HV.out.moves (set_moves _ (w.heap.size + 1) 0 _) (by omega)).moves (set_moves _ (w.heap.size + 1) 1 _) (by omega))
  have C1 := Lib.hid (isPoor_any v)
  go_enter Tryz.func117, Tryz.ntmps117
  go_wp2
  clear hW
  go_region_with (first
    | (go_at_call 127; refine (C1.out W.drew).mono ?_; rintro e w1 ⟨rfl, hb1⟩; have HZ1 := Lib.hid (HZ.out.callee hb1); have HB1 := Lib.hid (HB.out.trans (hb1.mono HB.out.size)); obtain ⟨d0, d1, d2, d3, d4⟩ := (HV.out.callee hb1).all; have g0 := Blk.frozen HZ1.out 0; have g1 := Blk.frozen HZ1.out 1; have y0 := HZ1.out.c0; have y1 := HZ1.out.c1; clear hb1)
    | (go_at_call 127; refine (C1.out _).mono ?_; rintro e w1 ⟨rfl, hb1⟩; have HS1 := Lib.hid (HS.out.callee hb1); have HB2 := Lib.hid (HBS.out.trans (hb1.mono HBS.out.size)); obtain ⟨d0, d1, d2, d3, d4⟩ := (HVS.out.callee hb1).all; clear hb1)
    | fail)
  all_goals go_wp2
  all_goals (try simp only [Exit.inBlock, Exit.then])
  all_goals first
    | (refine bodyPost_ret (pick_end rfl _ v.bet HS1.out rfl) rfl ?_; exact ⟨rfl, HB2.out⟩)
    | (refine bodyPost_ret (pick_end rfl _ v.bet (HZ1.out.set v.bet) rfl) rfl ?_; exact ⟨rfl, (HB1.out.setCell (p := ⟨w.heap.size + 1, 0, none⟩) (Nat.le_succ _) _).setCell (p := ⟨w.heap.size + 1, 1, none⟩) (Nat.le_succ _) _⟩)
end Go.Proofs.YtgefodpnhifmdaaGreat.Ipp

/- A row of verdicts; the generic row: what a choice takes of them. -/
namespace Go.Proofs.YtgefodpnhifmdaaGreat.Ipp
open Go.RowKit Go.Joins Go.Deep Go.Proofs.YtgefodpnhifmdaaGreat.Oct Go.Proofs.YtgefodpnhifmdaaGreat.Row Go.Proofs.YtgefodpnhifmdaaGreat.Mem Go.Proofs.YtgefodpnhifmdaaGreat.Opt Go.Proofs.YtgefodpnhifmdaaGreat.Ipc

def versV (l : List Ver) : List Value := l.flatMap verV
theorem versV_length : ∀ l : List Ver, (versV l).length = l.length * 5
  | [] => rfl
  | v :: l => by
    show (verV v ++ versV l).length = _
    rw [List.length_append, versV_length l, List.length_cons]
    simp [verV]; omega
theorem versV_snoc (l : List Ver) (v : Ver) : versV (l ++ [v]) = versV l ++ verV v := by unfold versV; rw [List.flatMap_append]; simp
theorem verV_ones (v : Ver) : ∀ u ∈ verV v, u.oneCell' = true := by
  intro u hu
  simp only [verV, List.mem_cons, List.not_mem_nil, or_false] at hu
  rcases hu with rfl | rfl | rfl | rfl | rfl <;> rfl
theorem versV_at : ∀ (l : List Ver) (j : Nat) (h : j < l.length), (versV l)[j * 5]? = some (.int .u8 l[j].got.1.toNat) ∧ (versV l)[j * 5 + 1]? = some (.string l[j].got.2) ∧ (versV l)[j * 5 + 2]? = some (.bool l[j].rej) ∧ (versV l)[j * 5 + 3]? = some (.int .u8 l[j].bet.1.toNat) ∧ (versV l)[j * 5 + 4]? = some (.string l[j].bet.2)
  | v :: l, 0, _ => ⟨rfl, rfl, rfl, rfl, rfl⟩
  | v :: l, j + 1, h => by
    have := versV_at l j (by simpa using h)
    have e : versV (v :: l) = .int .u8 v.got.1.toNat :: .string v.got.2 :: .bool v.rej :: .int .u8 v.bet.1.toNat :: .string v.bet.2 :: versV l := rfl
    rw [e, show (j + 1) * 5 = j * 5 + 1 + 1 + 1 + 1 + 1 by omega]
    simpa using this
/-- The slice '.slice A n c' holds the verdicts l, in blocks below B. -/
def Vers (w : World) (B : Nat) (A : Option Addr) (n : Nat) (l : List Ver) : Prop :=
  l.length = n ∧ (0 < n → ∃ ad, A = some ad ∧ ad.block < B ∧ ∀ j (h : j < l.length), w.cell? (ad.add (j * 5)) = some (.int .u8 l[j].got.1.toNat) ∧ w.cell? ⟨(ad.add (j * 5)).block, (ad.add (j * 5)).off + 1, none⟩ = some (.string l[j].got.2) ∧ w.cell? ⟨(ad.add (j * 5)).block, (ad.add (j * 5)).off + 2, none⟩ = some (.bool l[j].rej) ∧ w.cell? ⟨(ad.add (j * 5)).block, (ad.add (j * 5)).off + 3, none⟩ = some (.int .u8 l[j].bet.1.toNat) ∧ w.cell? ⟨(ad.add (j * 5)).block, (ad.add (j * 5)).off + 4, none⟩ = some (.string l[j].bet.2))
theorem Vers.below {w w' : World} {B : Nat} {A : Option Addr} {n : Nat} {l : List Ver} (h : Vers w B A n l) (hb : Below B w w') : Vers w' B A n l :=
  ⟨h.1, fun hn => by
    obtain ⟨ad, e, hB, hc⟩ := h.2 hn
    refine ⟨ad, e, hB, fun j hj => ?_⟩
    have hk : (ad.add (j * 5)).block < B := by rw [Oct.block_add]; exact hB
    obtain ⟨c0, c1, c2, c3, c4⟩ := hc j hj
    exact ⟨(hb.cell hk).trans c0, (hb.cell (by exact hk)).trans c1, (hb.cell (by exact hk)).trans c2, (hb.cell (by exact hk)).trans c3, (hb.cell (by exact hk)).trans c4⟩⟩
theorem Vers.more {w : World} {B B' : Nat} {A : Option Addr} {n : Nat} {l : List Ver} (h : Vers w B A n l) (hb : B ≤ B') : Vers w B' A n l :=
  ⟨h.1, fun hn => by
    obtain ⟨ad, e, hB, hc⟩ := h.2 hn
    exact ⟨ad, e, by omega, hc⟩⟩
theorem Vers.next {w w' : World} {A : Option Addr} {n : Nat} {l : List Ver} (h : Vers w w.heap.size A n l) (hb : Below w.heap.size w w') : Vers w' w'.heap.size A n l := (h.below hb).more hb.size
theorem Vers.at_ {w : World} {B : Nat} {A : Option Addr} {n k : Nat} {l : List Ver} (h : Vers w B A n l) (hk : k < n) :
    ∃ ad v, A = some ad ∧ ad.block < B ∧ l[k]? = some v ∧ w.cell? (ad.add (k * 5)) = some (.int .u8 v.got.1.toNat) ∧ w.cell? ⟨(ad.add (k * 5)).block, (ad.add (k * 5)).off + 1, none⟩ = some (.string v.got.2) ∧ w.cell? ⟨(ad.add (k * 5)).block, (ad.add (k * 5)).off + 2, none⟩ = some (.bool v.rej) ∧ w.cell? ⟨(ad.add (k * 5)).block, (ad.add (k * 5)).off + 3, none⟩ = some (.int .u8 v.bet.1.toNat) ∧ w.cell? ⟨(ad.add (k * 5)).block, (ad.add (k * 5)).off + 4, none⟩ = some (.string v.bet.2) := by
  obtain ⟨ad, e, hB, hc⟩ := h.2 (by omega)
  have hl : k < l.length := by rw [h.1]; exact hk
  exact ⟨ad, l[k], e, hB, List.getElem?_eq_getElem hl, hc k hl⟩
theorem vers_own {w : World} {base n : Nat} {e : TypeId} {v : Value} {l : List Ver} (h : w.ownsRow base e 5 v n (versV l)) : ∃ A c, v = .slice A n c ∧ Vers w w.heap.size A n l := by
  have hl : l.length = n := by have := h.1; rw [versV_length] at this; omega
  rcases h.2 with ⟨rfl, rfl⟩ | ⟨g, cap, cur, rfl, hg, hh, _⟩
  · exact ⟨none, 0, rfl, hl, fun h0 => absurd h0 (by omega)⟩
  · have hlt : g < w.heap.size := (Array.getElem?_eq_some_iff.1 hh).1
    refine ⟨some ⟨g, 0, none⟩, cap, rfl, hl, fun _ => ⟨_, rfl, hlt, fun j hj => ?_⟩⟩
    obtain ⟨v0, v1, v2, v3, v4⟩ := versV_at l j hj
    have c0 := h.cells (g := g) rfl (j * 5) _ v0
    have c1 := h.cells (g := g) rfl (j * 5 + 1) _ v1
    have c2 := h.cells (g := g) rfl (j * 5 + 2) _ v2
    have c3 := h.cells (g := g) rfl (j * 5 + 3) _ v3
    have c4 := h.cells (g := g) rfl (j * 5 + 4) _ v4
    rw [← add_add] at c1 c2 c3 c4
    exact ⟨c0, c1, c2, c3, c4⟩
/-- What a choice takes. -/
def pick (pk : Ver → Opt × Bool) (l : List Ver) : List Opt := l.filterMap fun v => if (pk v).2 then some (pk v).1 else none
theorem pick_snoc (pk : Ver → Opt × Bool) (l : List Ver) (k : Nat) (v : Ver) (h : l[k]? = some v) : pick pk (l.take (k + 1)) = if (pk v).2 then pick pk (l.take k) ++ [(pk v).1] else pick pk (l.take k) := by
  obtain ⟨hk, rfl⟩ := List.getElem?_eq_some_iff.1 h
  unfold pick
  rw [List.take_succ_eq_append_getElem hk, List.filterMap_append]
  cases hb : (pk l[k]).2 <;> simp [hb]
theorem pick_len (pk : Ver → Opt × Bool) (l : List Ver) (k : Nat) : (pick pk (l.take k)).length ≤ k := Nat.le_trans (List.length_filterMap_le _ _) (List.length_take_le _ _)
/-- A row of options of the call's own. -/
def OutQ (l : List Opt) (w : World) (e : Ending) (w' : World) : Prop := ∃ A c, e = .returned (.slice A l.length c) ∧ Opts w' w'.heap.size A l.length l ∧ Below w.heap.size w w' ∧ w'.ownsRow w.heap.size 157 2 (.slice A l.length c) l.length (optsV l)
theorem pick_mem {pk : Ver → Opt × Bool} {l : List Ver} {o : Opt} (h : o ∈ pick pk l) : ∃ v ∈ l, (pk v).1 = o := by
  obtain ⟨v, hv, e⟩ := List.mem_filterMap.1 h
  split at e
  · exact ⟨v, hv, Option.some.inj e⟩
  · cases e
theorem pick_end' {pk : Ver → Opt × Bool} {l : List Ver} {n : Nat} {w wr : World} {v : Value} (hn : l.length = n) (hz : ∀ v ∈ l, (pk v).1.2.size ≤ 140737488351232) (h : wr.ownsRow w.heap.size 157 2 v (pick pk (l.take n)).length (optsV (pick pk (l.take n)))) (hb : Below w.heap.size w wr) : OutQ (pick pk l) w (.returned v) wr := by
  rw [List.take_of_length_le (by rw [hn]; exact Nat.le_refl _)] at h
  obtain ⟨A, c, rfl, hO⟩ := opts_own h (fun o ho => by obtain ⟨v, hv, rfl⟩ := pick_mem ho; exact hz v hv)
  exact ⟨A, c, rfl, hO, hb, h⟩
theorem two_new (w : World) (x : Obj) (o : Opt) : ∀ j u, [Value.int .u8 o.1.toNat, .string o.2][j]? = some u → ((w.alloc x).alloc (.cells #[Value.int .u8 o.1.toNat, .string o.2] 157)).cell? ((⟨w.heap.size + 1, 0, none⟩ : Addr).add j) = some u := by
  have := cells_new (w.alloc x) #[Value.int .u8 o.1.toNat, .string o.2] 157
  rw [World.size_alloc] at this
  exact this
set_option maxHeartbeats 4000000 in
set_option maxRecDepth 100000 in
theorem row_any (F : Nat) (pk : Ver → Opt × Bool) (hF : ∀ v w, Calls Tryz.prog F #[.agg #[.int .u8 v.got.1.toNat, .string v.got.2, .bool v.rej, .int .u8 v.bet.1.toNat, .string v.bet.2]] w (PickQ (pk v).1 (pk v).2 w)) (hE : ∀ args w, (callFunc F args).run Tryz.prog w = .ok (.enter F args) w)
    (l : List Ver) (A : Option Addr) (n c : Nat) (w : World) (hl : Vers w w.heap.size A n l) (hn : n ≤ 1000) (hz : ∀ v ∈ l, (pk v).1.2.size ≤ 140737488351232) :
    Calls Tryz.prog 114 #[.slice A n c, .func (.func F) #[] #[]] w (OutQ (pick pk l) w) := by
  obtain ⟨i0, hi, hz0, hz1, hz2⟩ := info_parts Tryz.info157
  have Hn := Lib.hid hl.1
  have Hl := Lib.hid hl; clear hl
  have HF := Lib.hid hF; clear hF
  have HZ := Lib.hid hz; clear hz
  go_enter Tryz.func114, Tryz.ntmps114
  go_wp2
  go_loopw [5, 12] (fun v i wr => ∃ (k m : Nat), k ≤ n ∧ i = .int .i64 k ∧ m ≤ k ∧ Hid (m = (pick pk (l.take k)).length ∧ wr.ownsRow w.heap.size 157 2 v m (optsV (pick pk (l.take k)))) ∧ Below w.heap.size w wr)
    (fun _ i _ => n - (intOf i).toNat)
  case atStart => exact ⟨0, 0, Nat.zero_le _, rfl, Nat.le_refl _, ⟨rfl, World.ownsRow_nil _ _ _ _⟩, Below.refl _ _⟩
  case round =>
    obtain ⟨k, m, hk, rfl, hm, Hown, hb⟩ := hrel
    by_cases hlt : k < n
    · obtain ⟨ad, v, rfl, hB, hv, e0, e1, e2, e3, e4⟩ := (Hl.out.below hb).at_ hlt
      have hst := pick_snoc pk l k v hv
      have HB0 := Lib.hid (hb.alloc hb.size (.cells #[.int .u8 v.got.1.toNat, .string v.got.2, .bool v.rej, .int .u8 v.bet.1.toNat, .string v.bet.2] 204))
      have HC := Lib.hid (HF.out v (wr.alloc (.cells #[.int .u8 v.got.1.toNat, .string v.got.2, .bool v.rej, .int .u8 v.bet.1.toNat, .string v.bet.2] 204)))
      have hzr := hb.size
      clear hv
      cases hp : (pk v).2
      · rw [hp] at hst HC
        simp only [Bool.false_eq_true, if_false] at hst
        have HT := Lib.hid hst
        clear hst hp
        go_wp2_with fail
        refine HC.out.mono ?_
        rintro e w1 ⟨rfl, hb1⟩
        have HB1 := Lib.hid (HB0.out.trans (hb1.mono HB0.out.size))
        have HO1 := Lib.hid (own_callee (Hown.out.2.alloc (.cells #[.int .u8 v.got.1.toNat, .string v.got.2, .bool v.rej, .int .u8 v.bet.1.toNat, .string v.bet.2] 204)) hb1)
        clear hb1
        have HB2 := Lib.hid (HB1.out.alloc HB1.out.size (.cells #[.int .u8 (pk v).1.1.toNat, .string (pk v).1.2] 157))
        go_wp2
        go_roundw
        case rel => exact ⟨k + 1, m, by omega, by go_num, by omega, by rw [HT.out]; exact ⟨Hown.out.1, HO1.out.alloc _⟩, HB2.out⟩
        case measure => simp [intOf]; omega
      · rw [hp] at hst HC
        rw [if_pos rfl] at hst
        have HT := Lib.hid hst
        clear hst hp
        go_wp2_with fail
        refine HC.out.mono ?_
        rintro e w1 ⟨rfl, hb1⟩
        have HB1 := Lib.hid (HB0.out.trans (hb1.mono HB0.out.size))
        have HO1 := Lib.hid (own_callee (Hown.out.2.alloc (.cells #[.int .u8 v.got.1.toNat, .string v.got.2, .bool v.rej, .int .u8 v.bet.1.toNat, .string v.bet.2] 204)) hb1)
        clear hb1
        generalize (pk v).1 = o at *
        have HB2 := Lib.hid (HB1.out.alloc HB1.out.size (.cells #[.int .u8 o.1.toNat, .string o.2] 157))
        have hs1 := HB1.out.size
        have HA := Lib.hid (at_new w1 o.1 o.2)
        go_wp2_with (at_builtin; refine wpList_append_own _ rfl _ _ 76 rfl w.heap.size 157 i0 _ 2 24 Tryz.underlying76 hi hz0 hz1 hz2 rfl (by decide) _ _ _ rfl ((HO1.out.alloc _).alloc _) ⟨w1.heap.size + 1, 0, none⟩ 1 1 (optsV [o]) rfl rfl (by rw [optsV_one]; exact two_new w1 _ o) (optsV_ones _) (by unfold maxLen; omega) (by omega) (by simp; omega) ?_; intro v1 w2 hown1 hgr1 _; have Hown1 := Lib.hid hown1; clear hown1; have hb2 := (HB2.out.alloc HB2.out.size (.cells #[.int .u8 o.1.toNat, .string o.2] 157)).grown hgr1 (by simp; omega) (fun q hq => (HO1.out.lt q hq).1))
        go_roundw
        case rel => exact ⟨k + 1, m + 1, by omega, by go_num, by omega, by rw [HT.out, List.length_append, optsV_append]; exact ⟨by rw [Hown.out.1]; rfl, Hown1.out⟩, hb2⟩
        case measure => simp [intOf]; omega
    · obtain rfl : k = n := by omega
      have HE := Lib.hid (pick_end' Hn.out HZ.out (by have h := Hown.out.2; rw [Hown.out.1] at h; exact h) hb)
      go_wp2
      go_ret
      exact HE.out
end Go.Proofs.YtgefodpnhifmdaaGreat.Ipp

/- What evaluate keeps: the types that were there, the verdicts. -/
namespace Go.Proofs.YtgefodpnhifmdaaGreat.Ipp
open Go.RowKit Go.Proofs.YtgefodpnhifmdaaGreat.Oct Go.Proofs.YtgefodpnhifmdaaGreat.Row Go.Proofs.YtgefodpnhifmdaaGreat.Mem Go.Proofs.YtgefodpnhifmdaaGreat.Opt Go.Proofs.YtgefodpnhifmdaaGreat.Ipc

/-- The array of 256 Bools. -/
def arrB (f : Nat → Bool) : Array Value := (Array.range 256).map fun j => Value.bool (f j)
theorem arrB_size (f : Nat → Bool) : (arrB f).size = 256 := by simp [arrB]
theorem arrB_at (f : Nat → Bool) (j : Nat) (h : j < 256) : (arrB f)[j]? = some (.bool (f j)) := by simp [arrB, h]
theorem arrB_zero : Array.replicate 256 (Value.bool false) = arrB (fun _ => false) := by
  apply Array.ext_getElem?
  intro i
  by_cases h : i < 256
  · rw [arrB_at _ _ h]; simp [h]
  · simp [arrB, h]
def TabB (w : World) (g : Nat) (f : Nat → Bool) : Prop := w.heap[g]? = some (.cells (arrB f) 219 (0, 0))
theorem TabB.lt {w : World} {g : Nat} {f : Nat → Bool} (h : TabB w g f) : g < w.heap.size := (Array.getElem?_eq_some_iff.1 h).1
theorem TabB.cell {w : World} {g : Nat} {f : Nat → Bool} (h : TabB w g f) (j : Nat) (hj : j < 256) : w.cell? ⟨g, j, none⟩ = some (.bool (f j)) := by
  rw [cell_of_row w g j _ _ _ h, arrB_at f j hj]
theorem TabB.frozen {w : World} {g : Nat} {f : Nat → Bool} (h : TabB w g f) (j : Nat) : w.frozen? ⟨g, j, none⟩ = false := by
  unfold World.frozen?
  have h' : w.heap[g]? = _ := h
  simp [h']
theorem TabB.callee {w w' : World} {g : Nat} {f : Nat → Bool} (h : TabB w g f) (hb : Below w.heap.size w w') : TabB w' g f := (hb.block g h.lt).trans h
theorem TabB.moves {S : Nat → Prop} {w w' : World} {g : Nat} {f : Nat → Bool} (h : TabB w g f) (hm : Moves S w w') (hs : ¬ S g) : TabB w' g f := (hm.block g h.lt hs).trans h
theorem TabB.set {w : World} {g : Nat} {f f' : Nat → Bool} (h : TabB w g f) (k : Nat) (hk : k < 256) (hf : ∀ j, j < 256 → f' j = if j = k then true else f j) : TabB (w.setCell ⟨g, k, none⟩ (.bool true)) g f' := by
  have h' : w.heap[g]? = _ := h
  unfold TabB World.setCell
  simp only [Array.getElem?_modify, if_true, h', Option.map_some, Option.isSome_none, Bool.false_eq_true, if_false]
  congr 2
  apply Array.ext_getElem?
  intro i
  rw [Array.getElem?_setIfInBounds, arrB_size]
  by_cases e : k = i
  · subst e; rw [if_pos rfl, if_pos hk, arrB_at _ _ hk, hf k hk, if_pos rfl]
  · rw [if_neg e]
    by_cases hi : i < 256
    · rw [arrB_at _ _ hi, arrB_at _ _ hi, hf i hi, if_neg (fun x => e x.symm)]
    · rw [Array.getElem?_eq_none (by rw [arrB_size]; omega), Array.getElem?_eq_none (by rw [arrB_size]; omega)]
set_option maxRecDepth 100000 in
theorem info_tabB : (Tryz.prog.info? 219).map (fun i => (i.zero, i.size)) = some (some (.agg (Array.replicate 256 (.bool false))), 256) := by kernel_rfl
theorem zero_tabB (w : World) : (zeroValue 219).run Tryz.prog w = .ok (.agg (arrB fun _ => false)) w := by
  rw [← arrB_zero]; exact (zero_of_info info_tabB).1 w
set_option maxRecDepth 100000 in
theorem Tryz.info204 : (Tryz.prog.info? 204).map (fun i => (i.zero, i.size, i.bytes)) = some (some (.agg #[.int .u8 0, .string ByteArray.empty, .bool false, .int .u8 0, .string ByteArray.empty]), 5, 56) := by kernel_rfl
/-- The types that were there, by number. -/
def sn (l : List Opt) (j : Nat) : Bool := seen l (UInt8.ofNat j)
theorem sn_nil : sn [] = fun _ => false := rfl
theorem sn_at (l : List Opt) (t : UInt8) : sn l t.toNat = seen l t := by unfold sn; rw [UInt8.ofNat_toNat]
theorem sn_next (l : List Opt) (k : Nat) (o : Opt) (h : l[k]? = some o) : ∀ j, j < 256 → sn (l.take (k + 1)) j = if j = o.1.toNat then true else sn (l.take k) j := by
  intro j hj
  unfold sn
  rw [seen_snoc l k o h]
  by_cases e : j = o.1.toNat
  · subst e
    rw [if_pos rfl, UInt8.ofNat_toNat]
    simp
  · rw [if_neg e, show (o.1 == UInt8.ofNat j) = false from beq_eq_false_iff_ne.2 fun x => e (by rw [x, UInt8.toNat_ofNat']; omega), Bool.or_false]
/-- What a round keeps. -/
structure Ev (w wr : World) (g : Nat) (p : Po) (m ge : Nat) (v : Value) (l : List Opt) (k : Nat) : Prop where
  hp : PAt wr g p
  hm : Sy wr m
  ht : TabB wr ge (sn (l.take k))
  hr : wr.ownsRow w.heap.size 204 5 v k (versV (vs p (l.take k)))
  hb : Below w.heap.size w wr
  he : w.heap.size ≤ ge
theorem Ev.callee {w wr w' : World} {g : Nat} {p : Po} {m ge : Nat} {v : Value} {l : List Opt} {k : Nat} (h : Ev w wr g p m ge v l k) (hb : Below wr.heap.size wr w') : Ev w w' g p m ge v l k :=
  ⟨h.hp.callee hb, h.hm.callee hb, h.ht.callee hb, own_callee h.hr hb, h.hb.trans (hb.mono h.hb.size), h.he⟩
theorem Ev.alloc {w wr : World} {g : Nat} {p : Po} {m ge : Nat} {v : Value} {l : List Opt} {k : Nat} (h : Ev w wr g p m ge v l k) (o : Obj) : Ev w (wr.alloc o) g p m ge v l k := h.callee ((Below.refl _ _).alloc (Nat.le_refl _) o)
/-- A new block of the call's own is turned. -/
theorem Ev.moved {w wr w' : World} {g : Nat} {p : Po} {m ge b : Nat} {v : Value} {l : List Opt} {k : Nat} (h : Ev w wr g p m ge v l k) (hm : Moves (fun j => j = b) wr w') (hg : g ≠ b) (hm2 : m ≠ b) (he : ge ≠ b) (hr : ∀ q, v.ownBlock = some q → ¬ q = b) (hb : w.heap.size ≤ b) : Ev w w' g p m ge v l k :=
  ⟨h.hp.moves hm hg, h.hm.moves hm hm2, h.ht.moves hm he, hm.row h.hr hr, h.hb.trans (hm.below h.hb.size (fun j e => by rw [e]; exact hb)), h.he⟩
/-- .. once the verdict stands in the row. -/
structure Ew (w wr : World) (g : Nat) (p : Po) (m ge : Nat) (v : Value) (l : List Opt) (k : Nat) : Prop where
  hp : PAt wr g p
  hm : Sy wr m
  ht : TabB wr ge (sn (l.take k))
  hr : wr.ownsRow w.heap.size 204 5 v (k + 1) (versV (vs p (l.take (k + 1))))
  hb : Below w.heap.size w wr
  he : w.heap.size ≤ ge
theorem tab_not_row {W : World} {ge base n : Nat} {f : Nat → Bool} {v : Value} {xs : List Value} (h : TabB W ge f) (hr : W.ownsRow base 204 5 v n xs) : v.ownBlock ≠ some ge := cells_not_row h (by decide) hr
theorem say_not_row {W : World} {m base n : Nat} {v : Value} {xs : List Value} (h : Sy W m) (hr : W.ownsRow base 204 5 v n xs) : v.ownBlock ≠ some m := by
  intro e
  rcases hr.2 with ⟨rfl, _⟩ | ⟨g, cap, cur, rfl, _, hgb, _⟩
  · cases e
  · obtain rfl : g = m := by simpa [Value.ownBlock] using e
    have h1 : W.heap[g]? = _ := h
    rw [h1] at hgb
    cases hgb
theorem Ew.mark {w wr : World} {g : Nat} {p : Po} {m ge : Nat} {v : Value} {l : List Opt} {k q : Nat} (h : Ew w wr g p m ge v l k) (hq : q < 256) (hs : ∀ j, j < 256 → sn (l.take (k + 1)) j = if j = q then true else sn (l.take k) j) : Ev w (wr.setCell ⟨ge, q, none⟩ (.bool true)) g p m ge v l (k + 1) := by
  have hm : Moves (fun j => j = ge) wr (wr.setCell ⟨ge, q, none⟩ (.bool true)) := set_moves wr ge q _
  refine ⟨h.hp.moves hm ?_, h.hm.moves hm ?_, h.ht.set q hq hs, hm.row h.hr (fun j hj e => tab_not_row h.ht h.hr (by rw [hj, e])), h.hb.trans (hm.below h.hb.size (fun j e => by rw [e]; exact h.he)), h.he⟩
  · rintro rfl
    have h1 : wr.heap[g]? = _ := h.hp
    have h3 : wr.heap[g]? = _ := h.ht
    rw [h1] at h3
    simp only [Option.some.injEq, Obj.cells.injEq] at h3
    exact absurd h3.2.1 (by decide)
  · rintro rfl
    have h1 : wr.heap[m]? = _ := h.hm
    have h3 : wr.heap[m]? = _ := h.ht
    rw [h1] at h3
    cases h3
theorem Ev.grown {w wr w' : World} {g : Nat} {p : Po} {m ge : Nat} {v v' : Value} {l : List Opt} {k : Nat} {x : Obj} {vv : Ver} (h : Ev w wr g p m ge v l k) (hg : (wr.alloc x).grownBy w' v.ownBlock) (hr : w'.ownsRow w.heap.size 204 5 v' (k + 1) (versV (vs p (l.take k)) ++ verV vv)) (hv : vs p (l.take (k + 1)) = vs p (l.take k) ++ [vv]) : Ew w w' g p m ge v' l k := by
  have h1 : Moves (fun j => v.ownBlock = some j) (wr.alloc x) w' := Moves.of_grown hg (fun j e _ => e)
  have h0 : Below wr.heap.size wr (wr.alloc x) := (Below.refl _ _).alloc (Nat.le_refl _) x
  have hn := own_callee h.hr h0
  refine ⟨(h.hp.callee h0).moves h1 (cells_not_row (h.hp.callee h0) (by decide) hn), (h.hm.callee h0).moves h1 (say_not_row (h.hm.callee h0) hn), (h.ht.callee h0).moves h1 (tab_not_row (h.ht.callee h0) hn), ?_, ?_, h.he⟩
  · rw [hv, versV_snoc]; exact hr
  · exact (h.hb.trans (h0.mono h.hb.size)).trans (h1.below (Nat.le_trans h.hb.size h0.size) (fun j e => (hn.lt j e).1))
/-- What evaluate answers. -/
def EvQ (p : Po) (l : List Opt) (n : Nat) (w : World) (e : Ending) (w' : World) : Prop := ∃ A c, e = .returned (.slice A n c) ∧ Vers w' w'.heap.size A n (vs p l) ∧ Below w.heap.size w w'
end Go.Proofs.YtgefodpnhifmdaaGreat.Ipp
