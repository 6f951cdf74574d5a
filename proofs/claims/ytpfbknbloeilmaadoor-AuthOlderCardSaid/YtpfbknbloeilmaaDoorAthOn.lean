/- A server that is asked again and again, in memory (AuthOlder): what is kept from round to round. -/
import Derived.Test.YtpfbknbloeilmaaDoorGAthRun
import Derived.Test.YtpfbknbloeilmaaDoorAthAl
import Derived.Test.YtpfbknbloeilmaaDoorAthSm
import Derived.OwnWalk
namespace Go.Proofs.YtpfbknbloeilmaaDoor.Ath
open Go.RowKit Go.Proofs.YtpfbknbloeilmaaDoor.Oct Go.Proofs.YtpfbknbloeilmaaDoor.Row Go.Proofs.YtpfbknbloeilmaaDoor.Mem Go.Proofs.YtpfbknbloeilmaaDoor.Md5

/-- A server in memory, made since w. -/
structure On (w W : World) (g : Nat) (S : Sv) : Prop where
  gl : Globs W
  s : SAt W g S
  hb : Below w.heap.size w W
  ls : w.heap.size ≤ g
theorem On.below {w W W' : World} {g : Nat} {S : Sv} (h : On w W g S) (hb : Below W.heap.size W W') : On w W' g S := ⟨h.gl.below hb, Blk.callee h.s hb, h.hb.trans (hb.mono h.hb.size), h.ls⟩
theorem On.turn {w W w1 : World} {g : Nat} {S S' : Sv} (h : On w W g S) (hm : Moves (fun k => k = g) W w1) (hx : SAt w1 g S') : On w w1 g S' := ⟨globs_server h.gl h.s hm, hx, h.hb.trans (hm.below h.hb.size (fun k e => by have := h.ls; omega)), h.ls⟩
theorem On.lt {w W : World} {g : Nat} {S : Sv} (h : On w W g S) : g < W.heap.size := Blk.lt h.s
theorem OBox.move1 {W W' : World} {g b c : Nat} {A : Option Addr} {o : Ot} (h : OBox W g b A c o) (hm : Moves (fun k => k = g) W W') : OBox W' g b A c o :=
  ⟨h.1.moves hm (fun e => by have := h.2.2.1; omega), h.2.1.moves hm (fun ad e e' => by have := h.2.2.2 ad e; omega), h.2.2⟩

def tS : ByteArray := ⟨#[115]⟩
def chO (d : UInt32) (j : Nat) : Pk := ⟨1, UInt8.ofNat (j + 1), Chp.vn (valueD d) tS⟩
def olds (sec name : ByteArray) (d : UInt32) (k : Nat) : List Pk := (List.range k).map (rO sec name d)
theorem olds_len (sec name : ByteArray) (d : UInt32) (k : Nat) : (olds sec name d k).length = k := by unfold olds; simp
theorem olds_at {sec name : ByteArray} {d : UInt32} {k j : Nat} (h : j < k) : (olds sec name d k)[j]? = some (rO sec name d j) := by
  unfold olds
  rw [List.getElem?_map, List.getElem?_range h]
  rfl
theorem olds_next (sec name : ByteArray) (d : UInt32) (k : Nat) : olds sec name d k ++ [rO sec name d k] = olds sec name d (k + 1) := by
  unfold olds
  rw [List.range_succ, List.map_append]
  rfl
theorem inv_sO {n : Nat} (h1 : 1 ≤ n) (h2 : n ≤ 19) (d : UInt32) {i : Nat} (hi : i ≤ n) : Inv (sO n tS d i) := by
  have hm := may_of (cO_may h1 h2)
  refine ⟨hm.kd, hm.tr1, hm.tr2, hm.wt1, hm.wt2, hm.ag1, hm.ag2, (by show tS.size ≤ 255; decide), by show 1 ≤ 3; omega, fun e => (by cases e), fun _ => value_size d, fun _ => .inl rfl, fun _ _ => rfl, ?_, ?_, by show (0 : Int) ≤ 0; omega, by show (0 : Int) ≤ 20; omega, fun e => (by cases e), fun _ _ => rfl, fun _ => rfl, fun _ => by show (1 : Int) ≤ 1; omega, by show (1 : Int) ≤ 100000; omega, fun e => (by cases e)⟩
  · show (0 : Int) ≤ (i : Int) + 1; omega
  · show (i : Int) + 1 ≤ 20; omega
theorem vn_sz (x n : ByteArray) (hx : x.size ≤ 255) (hn : n.size ≤ 255) : (Chp.vn x n).size ≤ 600 := by
  unfold Chp.vn
  rw [ByteArray.size_append, ByteArray.size_append, size_bOf, numS_length]
  omega
theorem rO_sz {sec name : ByteArray} (hn : name.size ≤ 255) (d : UInt32) (k : Nat) : (rO sec name d k).d.size ≤ 600 := vn_sz _ _ (by rw [Chp.dg_size]; omega) hn

theorem globs_ob {W : World} {b c : Nat} {A : Option Addr} {o : Ot} (hG : Globs W) (h : Blk W b (outC A c o) 39) : b ≠ 0 ∧ b ≠ 1 := by
  have c3 : W.cell? ⟨b, 3, none⟩ = some (.string o.name) := h.at_ 3
  constructor
  · rintro rfl
    rw [hG.1 3 (by omega)] at c3
    cases c3
  · rintro rfl
    rw [hG.2 3 (by omega)] at c3
    cases c3
/-- What is kept from round to round: the server, the last outcome's block, the row of the older responses. -/
structure Iv (w wr : World) (g ob n : Nat) (d : UInt32) (sec name : ByteArray) (j k : Nat) (A : Option Addr) (c : Nat) : Prop where
  on : On w wr g (sO n tS d j)
  bx : ∃ q co, Blk wr ob (outC (some ⟨q, 0, none⟩) co (sends [chO d j])) 39 ∧ Pks wr (some ⟨q, 0, none⟩) [chO d j] ∧ q ≠ g ∧ q ≠ ob
  old : wr.ownsRow w.heap.size 46 3 (.slice A k c) k (pksV (olds sec name d k))
  z : k = 0 → A = none
  lo : g < ob
theorem Iv.pks {w wr : World} {g ob n : Nat} {d : UInt32} {sec name : ByteArray} {j k : Nat} {A : Option Addr} {c : Nat} (h : Iv w wr g ob n d sec name j k A c) : Pks wr A (olds sec name d k) := by
  have h1 : wr.ownsRow w.heap.size 46 3 (.slice A (olds sec name d k).length c) (olds sec name d k).length (pksV (olds sec name d k)) := by rw [olds_len]; exact h.old
  exact pks_own h1
theorem Iv.below {w wr W' : World} {g ob n : Nat} {d : UInt32} {sec name : ByteArray} {j k : Nat} {A : Option Addr} {c : Nat} (h : Iv w wr g ob n d sec name j k A c) (hb : Below wr.heap.size wr W') : Iv w W' g ob n d sec name j k A c := by
  obtain ⟨q, co, h1, h2, h3⟩ := h.bx
  exact ⟨h.on.below hb, ⟨q, co, h1.callee hb, h2.below hb, h3⟩, (Moves.of_below (S := fun _ => False) hb).row h.old (fun _ _ e => e), h.z, h.lo⟩
/-- A call of the server that changes nothing. -/
theorem Iv.same {w wr W' : World} {g ob n : Nat} {d : UInt32} {sec name : ByteArray} {j k : Nat} {A : Option Addr} {c : Nat} (h : Iv w wr g ob n d sec name j k A c) (hm : Moves (fun k => k = g) wr W') (hx : SAt W' g (sO n tS d j)) : Iv w W' g ob n d sec name j k A c := by
  obtain ⟨q, co, h1, h2, h3, h4⟩ := h.bx
  exact ⟨h.on.turn hm hx, ⟨q, co, h1.moves hm (fun e => by have := h.lo; omega), h2.moves hm (fun ad e e' => by cases e; exact h3 e'), h3, h4⟩, hm.row h.old (fun q hq e => cells_not_row (show wr.heap[g]? = some (.cells (pv (sO n tS d j)).toArray 67 (0, 0)) from h.on.s) (by decide) h.old (by rw [hq, e])), h.z, h.lo⟩
theorem Iv.ad_ne {w wr : World} {g ob n : Nat} {d : UInt32} {sec name : ByteArray} {j k i : Nat} {ad : Addr} {c : Nat} (h : Iv w wr g ob n d sec name j k (some ad) c) (hi : i < k) (e : ad.block = g) : False := by
  refine cells_not_row (show wr.heap[g]? = some (.cells (pv (sO n tS d j)).toArray 67 (0, 0)) from h.on.s) (by decide) h.old ?_
  rcases h.old.2 with ⟨e1, h1⟩ | ⟨g', cap, cur, e1, _⟩
  · omega
  · cases e1
    rw [← e]
    rfl
/-- One more response is kept. -/
theorem Iv.more {w wr W' : World} {g ob n : Nat} {d : UInt32} {sec name : ByteArray} {j k : Nat} {A A' : Option Addr} {c c' : Nat} (h : Iv w wr g ob n d sec name j k A c) (hw : 2 ≤ w.heap.size) (hg : wr.grownBy W' (Value.slice A k c).ownBlock) (ho : W'.ownsRow w.heap.size 46 3 (.slice A' (k + 1) c') (k + 1) (pksV (olds sec name d k ++ [rO sec name d k]))) : Iv w W' g ob n d sec name j (k + 1) A' c' := by
  obtain ⟨q, co, h1, h2, h3, h4⟩ := h.bx
  have hm : Moves (fun q => (Value.slice A k c).ownBlock = some q) wr W' := Moves.of_grown hg (fun k e _ => e)
  have nb : ∀ {b : Nat} {cs : List Value} {t : TypeId}, Blk wr b cs t → t ≠ 46 → ¬ (Value.slice A k c).ownBlock = some b := fun hb ht e => cells_not_row hb ht h.old e
  have hq : ¬ (Value.slice A k c).ownBlock = some q := fun e => by
    rcases Nat.eq_zero_or_pos k with h0 | h0
    · rw [h.z h0] at e; cases e
    · have hA : A = some ⟨q, 0, none⟩ := by
        rcases h.old.2 with ⟨e1, h1⟩ | ⟨g', cap, cur, e1, _⟩
        · omega
        · rw [e1] at e; cases e; cases e1; rfl
      have hc := h.old.cells (g := q) (by rw [e]) 0 (.int .u8 2) (by
        have := (pksV_at (olds sec name d k) 0 (by rw [olds_len]; exact h0)).1
        rw [Nat.zero_mul] at this
        rw [this]
        have h5 := olds_at (sec := sec) (name := name) (d := d) h0
        rw [List.getElem?_eq_getElem (by rw [olds_len]; exact h0)] at h5
        rw [Option.some.inj h5]
        rfl)
      obtain ⟨ad, p, e2, hp, d0, _⟩ := h2.at_ (k := 0) (by simp)
      cases e2; cases hp
      rw [Nat.zero_mul, show (⟨q, 0, none⟩ : Addr).add 0 = ⟨q, 0, none⟩ from by unfold Addr.add; simp] at d0
      rw [show wr.cell? ⟨q, 0, none⟩ = some (.int .u8 2) from by rw [← hc]; congr 1] at d0
      cases d0
  refine ⟨⟨?_, Blk.moves h.on.s hm (nb h.on.s (by decide)), h.on.hb.trans (hm.below h.on.hb.size (fun b e => (h.old.lt b e).1)), h.on.ls⟩, ⟨q, co, h1.moves hm (nb h1 (by decide)), h2.moves hm (fun ad e e' => by cases e; exact hq e'), h3, h4⟩, by rw [← olds_next]; exact ho, fun e => by omega, h.lo⟩
  exact h.on.gl.moves hm (fun e => by have := (h.old.lt _ e).1; omega) (fun e => by have := (h.old.lt _ e).1; omega)
/-- A challenge more, in the outcome's block. -/
theorem Iv.next {w wr W' : World} {g ob n : Nat} {d : UInt32} {sec name : ByteArray} {j k : Nat} {A Ao : Option Addr} {c co : Nat} (h : Iv w wr g ob n d sec name j k A c) (hm : Moves (fun k => k = g) wr W') (hx : SAt W' g (sO n tS d (j + 1))) (hr : RowP W' wr.heap.size Ao co [chO d (j + 1)]) :
    Iv w ((((W'.setCell ⟨ob, 0, none⟩ (.slice Ao 1 co)).setCell ⟨ob, 1, none⟩ (.bool false)).setCell ⟨ob, 2, none⟩ (.bool false)).setCell ⟨ob, 3, none⟩ (.string (bOf []))) g ob n d sec name (j + 1) k A c := by
  obtain ⟨q, co', h1, h2, h3, h4⟩ := h.bx
  have hob : Blk W' ob _ _ := h1.moves hm (fun e => by have := h.lo; omega)
  have hM : Moves (fun k => k = ob) W' ((((W'.setCell ⟨ob, 0, none⟩ (.slice Ao 1 co)).setCell ⟨ob, 1, none⟩ (.bool false)).setCell ⟨ob, 2, none⟩ (.bool false)).setCell ⟨ob, 3, none⟩ (.string (bOf []))) :=
    (((set1_moves W' ob 0 _).trans (set1_moves _ ob 1 _) fun _ _ x => x).trans (set1_moves _ ob 2 _) fun _ _ x => x).trans (set1_moves _ ob 3 _) fun _ _ x => x
  have hlt : ob < wr.heap.size := h1.lt
  have hlg : g < wr.heap.size := h.on.lt
  have ho1 := hm.row h.old (fun q hq e => cells_not_row (show wr.heap[g]? = some (.cells (pv (sO n tS d j)).toArray 67 (0, 0)) from h.on.s) (by decide) h.old (by rw [hq, e]))
  have hon := h.on.turn hm hx
  have hA : ∃ q', Ao = some ⟨q', 0, none⟩ ∧ wr.heap.size ≤ q' := by
    rcases hr.2 with ⟨_, h0⟩ | ⟨g', cap, cur, e1, hg', _⟩
    · cases h0
    · cases e1; exact ⟨g', rfl, hg'⟩
  obtain ⟨q', rfl, hq'⟩ := hA
  refine ⟨⟨?_, Blk.moves hon.s hM (by have := h.lo; omega), hon.hb.trans (hM.below hon.hb.size (fun k e => by have := h.lo; have := h.on.ls; omega)), h.on.ls⟩, ⟨q', co, (((hob.set 0 _).set 1 _).set 2 _).set 3 _, (pks_own hr).moves hM (fun ad e e' => by cases e; have e2 : q' = ob := e'; omega), by omega, by omega⟩, hM.row ho1 (fun b hb e => cells_not_row (show W'.heap[ob]? = some (.cells (outC (some ⟨q, 0, none⟩) co' (sends [chO d j])).toArray 39 (0, 0)) from hob) (by decide) ho1 (by rw [hb, e])), h.z, h.lo⟩
  exact hon.gl.moves hM (fun e => (globs_ob hon.gl hob).1 e.symm) (fun e => (globs_ob hon.gl hob).2 e.symm)
end Go.Proofs.YtpfbknbloeilmaaDoor.Ath
