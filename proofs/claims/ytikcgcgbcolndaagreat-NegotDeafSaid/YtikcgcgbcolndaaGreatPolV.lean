/- A row of verdicts; the generic row: what a choice takes of them. -/
import Derived.Test.YtikcgcgbcolndaaGreatGLcoEq
import Derived.Test.YtikcgcgbcolndaaGreatGOptRf
import Derived.OwnWalk
import Derived.Deep.Slices
import Derived.Lib.SmallJoins
import Derived.Maps.AppendAt
namespace Go.Proofs.YtikcgcgbcolndaaGreat.Pol
open Go.RowKit Go.Joins Go.Deep Go.Proofs.YtikcgcgbcolndaaGreat.Oct Go.Proofs.YtikcgcgbcolndaaGreat.Row Go.Proofs.YtikcgcgbcolndaaGreat.Mem Go.Proofs.YtikcgcgbcolndaaGreat.Opt Go.Proofs.YtikcgcgbcolndaaGreat.Lco

def versV (l : List Ver) : List Value := l.flatMap verV
theorem versV_length : ∀ l : List Ver, (versV l).length = l.length * 5
  | [] => rfl
  | v :: l => by
    show (verV v ++ versV l).length = _
    rw [List.length_append, versV_length l, List.length_cons]
    simp [verV]; omega
theorem versV_snoc (l : List Ver) (v : Ver) : versV (l ++ [v]) = versV l ++ verV v := by unfold versV; rw [List.flatMap_append]; simp
theorem verV_ones (v : Ver) : ∀ u ∈ verV v, u.oneCell' = true := by
  intro u hu
  simp only [verV, List.mem_cons, List.not_mem_nil, or_false] at hu
  rcases hu with rfl | rfl | rfl | rfl | rfl <;> rfl
theorem versV_at : ∀ (l : List Ver) (j : Nat) (h : j < l.length), (versV l)[j * 5]? = some (.int .u8 l[j].got.1.toNat) ∧ (versV l)[j * 5 + 1]? = some (.string l[j].got.2) ∧ (versV l)[j * 5 + 2]? = some (.bool l[j].rej) ∧ (versV l)[j * 5 + 3]? = some (.int .u8 l[j].bet.1.toNat) ∧ (versV l)[j * 5 + 4]? = some (.string l[j].bet.2)
  | v :: l, 0, _ => ⟨rfl, rfl, rfl, rfl, rfl⟩
  | v :: l, j + 1, h => by
    have := versV_at l j (by simpa using h)
    have e : versV (v :: l) = .int .u8 v.got.1.toNat :: .string v.got.2 :: .bool v.rej :: .int .u8 v.bet.1.toNat :: .string v.bet.2 :: versV l := rfl
    rw [e, show (j + 1) * 5 = j * 5 + 1 + 1 + 1 + 1 + 1 by omega]
    simpa using this
/-- The slice '.slice A n c' holds the verdicts l, in blocks below B. -/
def Vers (w : World) (B : Nat) (A : Option Addr) (n : Nat) (l : List Ver) : Prop :=
  l.length = n ∧ (0 < n → ∃ ad, A = some ad ∧ ad.block < B ∧ ∀ j (h : j < l.length), w.cell? (ad.add (j * 5)) = some (.int .u8 l[j].got.1.toNat) ∧ w.cell? ⟨(ad.add (j * 5)).block, (ad.add (j * 5)).off + 1, none⟩ = some (.string l[j].got.2) ∧ w.cell? ⟨(ad.add (j * 5)).block, (ad.add (j * 5)).off + 2, none⟩ = some (.bool l[j].rej) ∧ w.cell? ⟨(ad.add (j * 5)).block, (ad.add (j * 5)).off + 3, none⟩ = some (.int .u8 l[j].bet.1.toNat) ∧ w.cell? ⟨(ad.add (j * 5)).block, (ad.add (j * 5)).off + 4, none⟩ = some (.string l[j].bet.2))
theorem Vers.below {w w' : World} {B : Nat} {A : Option Addr} {n : Nat} {l : List Ver} (h : Vers w B A n l) (hb : Below B w w') : Vers w' B A n l :=
  ⟨h.1, fun hn => by
    obtain ⟨ad, e, hB, hc⟩ := h.2 hn
    refine ⟨ad, e, hB, fun j hj => ?_⟩
    have hk : (ad.add (j * 5)).block < B := by rw [Oct.block_add]; exact hB
    obtain ⟨c0, c1, c2, c3, c4⟩ := hc j hj
    exact ⟨(hb.cell hk).trans c0, (hb.cell (by exact hk)).trans c1, (hb.cell (by exact hk)).trans c2, (hb.cell (by exact hk)).trans c3, (hb.cell (by exact hk)).trans c4⟩⟩
theorem Vers.more {w : World} {B B' : Nat} {A : Option Addr} {n : Nat} {l : List Ver} (h : Vers w B A n l) (hb : B ≤ B') : Vers w B' A n l :=
  ⟨h.1, fun hn => by
    obtain ⟨ad, e, hB, hc⟩ := h.2 hn
    exact ⟨ad, e, by omega, hc⟩⟩
theorem Vers.next {w w' : World} {A : Option Addr} {n : Nat} {l : List Ver} (h : Vers w w.heap.size A n l) (hb : Below w.heap.size w w') : Vers w' w'.heap.size A n l := (h.below hb).more hb.size
theorem Vers.at_ {w : World} {B : Nat} {A : Option Addr} {n k : Nat} {l : List Ver} (h : Vers w B A n l) (hk : k < n) :
    ∃ ad v, A = some ad ∧ ad.block < B ∧ l[k]? = some v ∧ w.cell? (ad.add (k * 5)) = some (.int .u8 v.got.1.toNat) ∧ w.cell? ⟨(ad.add (k * 5)).block, (ad.add (k * 5)).off + 1, none⟩ = some (.string v.got.2) ∧ w.cell? ⟨(ad.add (k * 5)).block, (ad.add (k * 5)).off + 2, none⟩ = some (.bool v.rej) ∧ w.cell? ⟨(ad.add (k * 5)).block, (ad.add (k * 5)).off + 3, none⟩ = some (.int .u8 v.bet.1.toNat) ∧ w.cell? ⟨(ad.add (k * 5)).block, (ad.add (k * 5)).off + 4, none⟩ = some (.string v.bet.2) := by
  obtain ⟨ad, e, hB, hc⟩ := h.2 (by omega)
  have hl : k < l.length := by rw [h.1]; exact hk
  exact ⟨ad, l[k], e, hB, List.getElem?_eq_getElem hl, hc k hl⟩
theorem vers_own {w : World} {base n : Nat} {e : TypeId} {v : Value} {l : List Ver} (h : w.ownsRow base e 5 v n (versV l)) : ∃ A c, v = .slice A n c ∧ Vers w w.heap.size A n l := by
  have hl : l.length = n := by have := h.1; rw [versV_length] at this; omega
  rcases h.2 with ⟨rfl, rfl⟩ | ⟨g, cap, cur, rfl, hg, hh, _⟩
  · exact ⟨none, 0, rfl, hl, fun h0 => absurd h0 (by omega)⟩
  · have hlt : g < w.heap.size := (Array.getElem?_eq_some_iff.1 hh).1
    refine ⟨some ⟨g, 0, none⟩, cap, rfl, hl, fun _ => ⟨_, rfl, hlt, fun j hj => ?_⟩⟩
    obtain ⟨v0, v1, v2, v3, v4⟩ := versV_at l j hj
    have c0 := h.cells (g := g) rfl (j * 5) _ v0
    have c1 := h.cells (g := g) rfl (j * 5 + 1) _ v1
    have c2 := h.cells (g := g) rfl (j * 5 + 2) _ v2
    have c3 := h.cells (g := g) rfl (j * 5 + 3) _ v3
    have c4 := h.cells (g := g) rfl (j * 5 + 4) _ v4
    rw [← add_add] at c1 c2 c3 c4
    exact ⟨c0, c1, c2, c3, c4⟩
/-- What a choice takes. -/
def pick (pk : Ver → Opt × Bool) (l : List Ver) : List Opt := l.filterMap fun v => if (pk v).2 then some (pk v).1 else none
theorem pick_snoc (pk : Ver → Opt × Bool) (l : List Ver) (k : Nat) (v : Ver) (h : l[k]? = some v) : pick pk (l.take (k + 1)) = if (pk v).2 then pick pk (l.take k) ++ [(pk v).1] else pick pk (l.take k) := by
  obtain ⟨hk, rfl⟩ := List.getElem?_eq_some_iff.1 h
  unfold pick
  rw [List.take_succ_eq_append_getElem hk, List.filterMap_append]
  cases hb : (pk l[k]).2 <;> simp [hb]
theorem pick_len (pk : Ver → Opt × Bool) (l : List Ver) (k : Nat) : (pick pk (l.take k)).length ≤ k := Nat.le_trans (List.length_filterMap_le _ _) (List.length_take_le _ _)
/-- A row of options of the call's own. -/
def OutQ (l : List Opt) (w : World) (e : Ending) (w' : World) : Prop := ∃ A c, e = .returned (.slice A l.length c) ∧ Opts w' w'.heap.size A l.length l ∧ Below w.heap.size w w'
theorem pick_mem {pk : Ver → Opt × Bool} {l : List Ver} {o : Opt} (h : o ∈ pick pk l) : ∃ v ∈ l, (pk v).1 = o := by
  obtain ⟨v, hv, e⟩ := List.mem_filterMap.1 h
  split at e
  · exact ⟨v, hv, Option.some.inj e⟩
  · cases e
theorem pick_end' {pk : Ver → Opt × Bool} {l : List Ver} {n : Nat} {w wr : World} {e : TypeId} {v : Value} (hn : l.length = n) (hz : ∀ v ∈ l, (pk v).1.2.size ≤ 140737488351232) (h : wr.ownsRow w.heap.size e 2 v (pick pk (l.take n)).length (optsV (pick pk (l.take n)))) (hb : Below w.heap.size w wr) : OutQ (pick pk l) w (.returned v) wr := by
  rw [List.take_of_length_le (by rw [hn]; exact Nat.le_refl _)] at h
  obtain ⟨A, c, rfl, hO⟩ := opts_own h (fun o ho => by obtain ⟨v, hv, rfl⟩ := pick_mem ho; exact hz v hv)
  exact ⟨A, c, rfl, hO, hb⟩
theorem two_new (w : World) (x : Obj) (o : Opt) : ∀ j u, [Value.int .u8 o.1.toNat, .string o.2][j]? = some u → ((w.alloc x).alloc (.cells #[Value.int .u8 o.1.toNat, .string o.2] 110)).cell? ((⟨w.heap.size + 1, 0, none⟩ : Addr).add j) = some u := by
  have := cells_new (w.alloc x) #[Value.int .u8 o.1.toNat, .string o.2] 110
  rw [World.size_alloc] at this
  exact this
set_option maxHeartbeats 4000000 in
set_option maxRecDepth 100000 in
theorem row_any (F : Nat) (pk : Ver → Opt × Bool) (hF : ∀ v w, Calls Tryz.prog F #[.agg #[.int .u8 v.got.1.toNat, .string v.got.2, .bool v.rej, .int .u8 v.bet.1.toNat, .string v.bet.2]] w (PickQ (pk v).1 (pk v).2 w)) (hE : ∀ args w, (callFunc F args).run Tryz.prog w = .ok (.enter F args) w)
    (l : List Ver) (A : Option Addr) (n c : Nat) (w : World) (hl : Vers w w.heap.size A n l) (hn : n ≤ 1000) (hz : ∀ v ∈ l, (pk v).1.2.size ≤ 140737488351232) :
    Calls Tryz.prog 148 #[.slice A n c, .func (.func F) #[] #[]] w (OutQ (pick pk l) w) := by
  obtain ⟨i0, hi, hz0, hz1, hz2⟩ := info_parts Tryz.info110
  have Hn := Lib.hid hl.1
  have Hl := Lib.hid hl; clear hl
  have HF := Lib.hid hF; clear hF
  have HZ := Lib.hid hz; clear hz
  go_enter Tryz.func148, Tryz.ntmps148
  go_wp2
  go_loopw [5, 12] (fun v i wr => ∃ (k m : Nat), k ≤ n ∧ i = .int .i64 k ∧ m ≤ k ∧ Hid (m = (pick pk (l.take k)).length ∧ wr.ownsRow w.heap.size 110 2 v m (optsV (pick pk (l.take k)))) ∧ Below w.heap.size w wr)
    (fun _ i _ => n - (intOf i).toNat)
  case atStart => exact ⟨0, 0, Nat.zero_le _, rfl, Nat.le_refl _, ⟨rfl, World.ownsRow_nil _ _ _ _⟩, Below.refl _ _⟩
  case round =>
    obtain ⟨k, m, hk, rfl, hm, Hown, hb⟩ := hrel
    by_cases hlt : k < n
    · obtain ⟨ad, v, rfl, hB, hv, e0, e1, e2, e3, e4⟩ := (Hl.out.below hb).at_ hlt
      have hst := pick_snoc pk l k v hv
      have HB0 := Lib.hid (hb.alloc hb.size (.cells #[.int .u8 v.got.1.toNat, .string v.got.2, .bool v.rej, .int .u8 v.bet.1.toNat, .string v.bet.2] 246))
      have HC := Lib.hid (HF.out v (wr.alloc (.cells #[.int .u8 v.got.1.toNat, .string v.got.2, .bool v.rej, .int .u8 v.bet.1.toNat, .string v.bet.2] 246)))
      have hzr := hb.size
      clear hv
      cases hp : (pk v).2
      · rw [hp] at hst HC
        simp only [Bool.false_eq_true, if_false] at hst
        have HT := Lib.hid hst
        clear hst hp
        go_wp2_with fail
        refine HC.out.mono ?_
        rintro e w1 ⟨rfl, hb1⟩
        have HB1 := Lib.hid (HB0.out.trans (hb1.mono HB0.out.size))
        have HO1 := Lib.hid (own_callee (Hown.out.2.alloc (.cells #[.int .u8 v.got.1.toNat, .string v.got.2, .bool v.rej, .int .u8 v.bet.1.toNat, .string v.bet.2] 246)) hb1)
        clear hb1
        have HB2 := Lib.hid (HB1.out.alloc HB1.out.size (.cells #[.int .u8 (pk v).1.1.toNat, .string (pk v).1.2] 110))
        go_wp2
        go_roundw
        case rel => exact ⟨k + 1, m, by omega, by go_num, by omega, by rw [HT.out]; exact ⟨Hown.out.1, HO1.out.alloc _⟩, HB2.out⟩
        case measure => simp [intOf]; omega
      · rw [hp] at hst HC
        rw [if_pos rfl] at hst
        have HT := Lib.hid hst
        clear hst hp
        go_wp2_with fail
        refine HC.out.mono ?_
        rintro e w1 ⟨rfl, hb1⟩
        have HB1 := Lib.hid (HB0.out.trans (hb1.mono HB0.out.size))
        have HO1 := Lib.hid (own_callee (Hown.out.2.alloc (.cells #[.int .u8 v.got.1.toNat, .string v.got.2, .bool v.rej, .int .u8 v.bet.1.toNat, .string v.bet.2] 246)) hb1)
        clear hb1
        generalize (pk v).1 = o at *
        have HB2 := Lib.hid (HB1.out.alloc HB1.out.size (.cells #[.int .u8 o.1.toNat, .string o.2] 110))
        have hs1 := HB1.out.size
        have HA := Lib.hid (at_new w1 o.1 o.2)
        go_wp2_with (at_builtin; refine wpList_append_own _ rfl _ _ 71 rfl w.heap.size 110 i0 _ 2 24 Tryz.underlying71 hi hz0 hz1 hz2 rfl (by decide) _ _ _ rfl ((HO1.out.alloc _).alloc _) ⟨w1.heap.size + 1, 0, none⟩ 1 1 (optsV [o]) rfl rfl (by rw [optsV_one]; exact two_new w1 _ o) (optsV_ones _) (by unfold maxLen; omega) (by omega) (by simp; omega) ?_; intro v1 w2 hown1 hgr1 _; have Hown1 := Lib.hid hown1; clear hown1; have hb2 := (HB2.out.alloc HB2.out.size (.cells #[.int .u8 o.1.toNat, .string o.2] 110)).grown hgr1 (by simp; omega) (fun q hq => (HO1.out.lt q hq).1))
        go_roundw
        case rel => exact ⟨k + 1, m + 1, by omega, by go_num, by omega, by rw [HT.out, List.length_append, optsV_append]; exact ⟨by rw [Hown.out.1]; rfl, Hown1.out⟩, hb2⟩
        case measure => simp [intOf]; omega
    · obtain rfl : k = n := by omega
      have HE := Lib.hid (pick_end' Hn.out HZ.out (by have h := Hown.out.2; rw [Hown.out.1] at h; exact h) hb)
      go_wp2
      go_ret
      exact HE.out
end Go.Proofs.YtikcgcgbcolndaaGreat.Pol
