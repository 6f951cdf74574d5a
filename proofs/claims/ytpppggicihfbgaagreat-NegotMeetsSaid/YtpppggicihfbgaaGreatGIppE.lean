/- Put together: IppE, IppV, IppH. -/
import Derived.Test.YtpppggicihfbgaaGreatGIpcA
import Derived.Test.YtpppggicihfbgaaGreatOptEq
import Derived.Test.YtpppggicihfbgaaGreatGOptRf
import Derived.OwnWalk
import Derived.Deep.Slices
import Derived.Lib.SmallJoins
import Derived.Maps.AppendAt
import Derived.Deep.WholeRow

/- A verdict; contracts of isPoor, refused, poor, instead. -/
namespace Go.Proofs.YtpppggicihfbgaaGreat.Ipp
open Go.RowKit Go.Proofs.YtpppggicihfbgaaGreat.Oct Go.Proofs.YtpppggicihfbgaaGreat.Row Go.Proofs.YtpppggicihfbgaaGreat.Mem Go.Proofs.YtpppggicihfbgaaGreat.Opt Go.Proofs.YtpppggicihfbgaaGreat.Ipc

def verV (v : Ver) : List Value := [.int .u8 v.got.1.toNat, .string v.got.2, .bool v.rej, .int .u8 v.bet.1.toNat, .string v.bet.2]
def VAt (w : World) (g : Nat) (v : Ver) : Prop := Blk w g (verV v) 300
theorem VAt.callee {w w' : World} {g : Nat} {v : Ver} (h : VAt w g v) (hb : Below w.heap.size w w') : VAt w' g v := Blk.callee h hb
theorem VAt.alloc {w : World} {g : Nat} {v : Ver} (h : VAt w g v) (o : Obj) : VAt (w.alloc o) g v := Blk.alloc h o
theorem VAt.c {w : World} {g : Nat} {v : Ver} (h : VAt w g v) (i : Nat) : w.cell? ⟨g, i, none⟩ = (verV v)[i]? := Blk.at_ h i
theorem VAt.moves {S : Nat → Prop} {w w' : World} {g : Nat} {v : Ver} (h : VAt w g v) (hm : Moves S w w') (hs : ¬ S g) : VAt w' g v := Blk.moves h hm hs
theorem VAt.all {w : World} {g : Nat} {v : Ver} (h : VAt w g v) : w.cell? ⟨g, 0, none⟩ = some (.int .u8 v.got.1.toNat) ∧ w.cell? ⟨g, 1, none⟩ = some (.string v.got.2) ∧ w.cell? ⟨g, 2, none⟩ = some (.bool v.rej) ∧ w.cell? ⟨g, 3, none⟩ = some (.int .u8 v.bet.1.toNat) ∧ w.cell? ⟨g, 4, none⟩ = some (.string v.bet.2) := ⟨h.c 0, h.c 1, h.c 2, h.c 3, h.c 4⟩
end Go.Proofs.YtpppggicihfbgaaGreat.Ipp

/- A row of verdicts; the generic row: what a choice takes of them. -/
namespace Go.Proofs.YtpppggicihfbgaaGreat.Ipp
open Go.RowKit Go.Joins Go.Deep Go.Proofs.YtpppggicihfbgaaGreat.Oct Go.Proofs.YtpppggicihfbgaaGreat.Row Go.Proofs.YtpppggicihfbgaaGreat.Mem Go.Proofs.YtpppggicihfbgaaGreat.Opt Go.Proofs.YtpppggicihfbgaaGreat.Ipc

def versV (l : List Ver) : List Value := l.flatMap verV
def Vers (w : World) (B : Nat) (A : Option Addr) (n : Nat) (l : List Ver) : Prop :=
  l.length = n ∧ (0 < n → ∃ ad, A = some ad ∧ ad.block < B ∧ ∀ j (h : j < l.length), w.cell? (ad.add (j * 5)) = some (.int .u8 l[j].got.1.toNat) ∧ w.cell? ⟨(ad.add (j * 5)).block, (ad.add (j * 5)).off + 1, none⟩ = some (.string l[j].got.2) ∧ w.cell? ⟨(ad.add (j * 5)).block, (ad.add (j * 5)).off + 2, none⟩ = some (.bool l[j].rej) ∧ w.cell? ⟨(ad.add (j * 5)).block, (ad.add (j * 5)).off + 3, none⟩ = some (.int .u8 l[j].bet.1.toNat) ∧ w.cell? ⟨(ad.add (j * 5)).block, (ad.add (j * 5)).off + 4, none⟩ = some (.string l[j].bet.2))
theorem Vers.below {w w' : World} {B : Nat} {A : Option Addr} {n : Nat} {l : List Ver} (h : Vers w B A n l) (hb : Below B w w') : Vers w' B A n l :=
  ⟨h.1, fun hn => by
    obtain ⟨ad, e, hB, hc⟩ := h.2 hn
    refine ⟨ad, e, hB, fun j hj => ?_⟩
    have hk : (ad.add (j * 5)).block < B := by rw [Oct.block_add]; exact hB
    obtain ⟨c0, c1, c2, c3, c4⟩ := hc j hj
    exact ⟨(hb.cell hk).trans c0, (hb.cell (by exact hk)).trans c1, (hb.cell (by exact hk)).trans c2, (hb.cell (by exact hk)).trans c3, (hb.cell (by exact hk)).trans c4⟩⟩
theorem Vers.at_ {w : World} {B : Nat} {A : Option Addr} {n k : Nat} {l : List Ver} (h : Vers w B A n l) (hk : k < n) :
    ∃ ad v, A = some ad ∧ ad.block < B ∧ l[k]? = some v ∧ w.cell? (ad.add (k * 5)) = some (.int .u8 v.got.1.toNat) ∧ w.cell? ⟨(ad.add (k * 5)).block, (ad.add (k * 5)).off + 1, none⟩ = some (.string v.got.2) ∧ w.cell? ⟨(ad.add (k * 5)).block, (ad.add (k * 5)).off + 2, none⟩ = some (.bool v.rej) ∧ w.cell? ⟨(ad.add (k * 5)).block, (ad.add (k * 5)).off + 3, none⟩ = some (.int .u8 v.bet.1.toNat) ∧ w.cell? ⟨(ad.add (k * 5)).block, (ad.add (k * 5)).off + 4, none⟩ = some (.string v.bet.2) := by
  obtain ⟨ad, e, hB, hc⟩ := h.2 (by omega)
  have hl : k < l.length := by rw [h.1]; exact hk
  exact ⟨ad, l[k], e, hB, List.getElem?_eq_getElem hl, hc k hl⟩
end Go.Proofs.YtpppggicihfbgaaGreat.Ipp

/- What evaluate keeps: the types that were there, the verdicts. -/
namespace Go.Proofs.YtpppggicihfbgaaGreat.Ipp
open Go.RowKit Go.Proofs.YtpppggicihfbgaaGreat.Oct Go.Proofs.YtpppggicihfbgaaGreat.Row Go.Proofs.YtpppggicihfbgaaGreat.Mem Go.Proofs.YtpppggicihfbgaaGreat.Opt Go.Proofs.YtpppggicihfbgaaGreat.Ipc

def arrB (f : Nat → Bool) : Array Value := (Array.range 256).map fun j => Value.bool (f j)
theorem arrB_at (f : Nat → Bool) (j : Nat) (h : j < 256) : (arrB f)[j]? = some (.bool (f j)) := by simp [arrB, h]
def TabB (w : World) (g : Nat) (f : Nat → Bool) : Prop := w.heap[g]? = some (.cells (arrB f) 244 (0, 0))
theorem TabB.lt {w : World} {g : Nat} {f : Nat → Bool} (h : TabB w g f) : g < w.heap.size := (Array.getElem?_eq_some_iff.1 h).1
theorem TabB.cell {w : World} {g : Nat} {f : Nat → Bool} (h : TabB w g f) (j : Nat) (hj : j < 256) : w.cell? ⟨g, j, none⟩ = some (.bool (f j)) := by
  rw [cell_of_row w g j _ _ _ h, arrB_at f j hj]
theorem TabB.frozen {w : World} {g : Nat} {f : Nat → Bool} (h : TabB w g f) (j : Nat) : w.frozen? ⟨g, j, none⟩ = false := by
  unfold World.frozen?
  have h' : w.heap[g]? = _ := h
  simp [h']
theorem TabB.callee {w w' : World} {g : Nat} {f : Nat → Bool} (h : TabB w g f) (hb : Below w.heap.size w w') : TabB w' g f := (hb.block g h.lt).trans h
theorem TabB.moves {S : Nat → Prop} {w w' : World} {g : Nat} {f : Nat → Bool} (h : TabB w g f) (hm : Moves S w w') (hs : ¬ S g) : TabB w' g f := (hm.block g h.lt hs).trans h
def sn (l : List Opt) (j : Nat) : Bool := seen l (UInt8.ofNat j)
structure Ev (w wr : World) (g : Nat) (p : Po) (m ge : Nat) (v : Value) (l : List Opt) (k : Nat) : Prop where
  hp : PAt wr g p
  hm : Sy wr m
  ht : TabB wr ge (sn (l.take k))
  hr : wr.ownsRow w.heap.size 300 5 v k (versV (vs p (l.take k)))
  hb : Below w.heap.size w wr
  he : w.heap.size ≤ ge
theorem Ev.callee {w wr w' : World} {g : Nat} {p : Po} {m ge : Nat} {v : Value} {l : List Opt} {k : Nat} (h : Ev w wr g p m ge v l k) (hb : Below wr.heap.size wr w') : Ev w w' g p m ge v l k :=
  ⟨h.hp.callee hb, h.hm.callee hb, h.ht.callee hb, own_callee h.hr hb, h.hb.trans (hb.mono h.hb.size), h.he⟩
theorem Ev.alloc {w wr : World} {g : Nat} {p : Po} {m ge : Nat} {v : Value} {l : List Opt} {k : Nat} (h : Ev w wr g p m ge v l k) (o : Obj) : Ev w (wr.alloc o) g p m ge v l k := h.callee ((Below.refl _ _).alloc (Nat.le_refl _) o)
end Go.Proofs.YtpppggicihfbgaaGreat.Ipp
