/- Put together: OptF, OptG, OptH, OptI. -/
import Derived.Test.YtpppggicihfbgaaGreatGOpts
import Derived.OwnWalk
import Derived.Maps.AppendAt
import Derived.StillTailTactics
import Derived.Deep.RegionHeld3
import Derived.RangeFuncNested
import Derived.RangeFuncBound
import Derived.RangeFuncCalls
import Derived.RangeFuncLeaves
import Derived.Shelf.Abstract
import Derived.Shelf.RegionOpen
import Derived.OwnWalkIn
import Derived.TacticsInMore
import Derived.LoopNIn
import Derived.LoopIn

/- Contract of the document's Get. -/
namespace Go.Proofs.YtpppggicihfbgaaGreat.Opt
open Go.RowKit Go.Proofs.YtpppggicihfbgaaGreat.Oct Go.Proofs.YtpppggicihfbgaaGreat.Row Go.Proofs.YtpppggicihfbgaaGreat.Mem

def GetQ (s : List UInt8) (w : World) (e : Ending) (w' : World) : Prop :=
  ∃ A c, e = .returned (.tuple #[.slice A (gL s).length c, .int .i64 (gN s), .int .i64 (gE s)]) ∧ Opts w' w'.heap.size A (gL s).length (gL s) ∧ Below w.heap.size w w'

def GetR (s : List UInt8) (w : World) (e : Ending) (w' : World) : Prop :=
  ∃ A c, e = .returned (.tuple #[.slice A (gL s).length c, .int .i64 (gN s), .int .i64 (gE s)]) ∧ Opts w' w'.heap.size A (gL s).length (gL s) ∧ (A = none → c = 0) ∧ Below w.heap.size w w'
theorem GetR.q {s : List UInt8} {w w' : World} {e : Ending} (h : GetR s w e w') : GetQ s w e w' := by
  obtain ⟨A, c, h1, h2, _, h3⟩ := h
  exact ⟨A, c, h1, h2, h3⟩
theorem getR_no {s : List UInt8} {w w' : World} {a e : Nat} (h : got s = ([], a, e)) (hb : Below w.heap.size w w') : GetR s w (.returned (.tuple #[.slice none 0 0, .int .i64 a, .int .i64 e])) w' := by
  have h1 : gL s = [] := by unfold gL; rw [h]
  have h2 : gN s = a := by unfold gN; rw [h]
  have h3 : gE s = e := by unfold gE; rw [h]
  refine ⟨none, 0, by rw [h1, h2, h3]; rfl, ?_, fun _ => rfl, hb⟩
  rw [h1]
  exact opts_nil _ _
theorem getR_yes {s : List UInt8} {w w' : World} {L : List Opt} {N m base : Nat} {v : Value} {e : TypeId} (h : got s = (L, N, 0)) (hm : m = L.length) (hr : w'.ownsRow base e 2 v m (optsV L)) (hb : Below w.heap.size w w') : GetR s w (.returned (.tuple #[v, .int .i64 N, .int .i64 0])) w' := by
  subst hm
  have h1 : gL s = L := by unfold gL; rw [h]
  have h2 : gN s = N := by unfold gN; rw [h]
  have h3 : gE s = 0 := by unfold gE; rw [h]
  have hz := gL_size s
  rw [h1] at hz
  obtain ⟨A, c, rfl, hO⟩ := opts_own hr (fun o ho => Nat.le_trans (hz o ho) (by decide))
  refine ⟨A, c, by rw [h1, h2, h3]; rfl, by rw [h1]; exact hO, fun e1 => ?_, hb⟩
  subst e1
  rcases hr.2 with ⟨e2, _⟩ | ⟨g, cap, cur, e2, _⟩
  · simp only [Value.slice.injEq] at e2
    exact e2.2.2
  · simp only [Value.slice.injEq] at e2
    exact absurd e2.1 (by simp)

theorem drop_ne {s : ByteArray} {k : Nat} (h : k < s.size) : s.toList.drop k ≠ [] := by
  intro e
  have := congrArg List.length e
  rw [List.length_drop, ← size_toList] at this
  simp at this
  omega
theorem getD_drop (l : List UInt8) (k i : Nat) (h : k + i < l.length) : (l.drop k).getD i 0 = l[k + i] := by
  rw [List.getD_eq_getElem?_getD, List.getElem?_drop, List.getElem?_eq_getElem h]; rfl

end Go.Proofs.YtpppggicihfbgaaGreat.Opt

/- Contracts of package option's read and finds: the iterator over a text's options. -/
namespace Go.Proofs.YtpppggicihfbgaaGreat.Opt
open Go.RowKit Go.Shelf Go.Proofs.YtpppggicihfbgaaGreat.Oct Go.Proofs.YtpppggicihfbgaaGreat.Row Go.Proofs.YtpppggicihfbgaaGreat.Mem
attribute [local go_sem] Oper.semAt_some

def FAt (W : World) (g : Nat) (o : Opt) (e : Nat) : Prop := Blk W g [.int .u8 o.1.toNat, .string o.2, .int .i64 (e : Nat)] 179
theorem fat_new (w : World) (o : Opt) (e : Nat) : FAt (w.alloc (.cells #[.int .u8 o.1.toNat, .string o.2, .int .i64 (e : Nat)] 179)) w.heap.size o e := blk_new w [.int .u8 o.1.toNat, .string o.2, .int .i64 (e : Nat)] _
theorem FAt.c0 {W : World} {g e : Nat} {o : Opt} (h : FAt W g o e) : W.cell? ⟨g, 0, none⟩ = some (.int .u8 o.1.toNat) := Blk.at_ h 0
theorem FAt.c1 {W : World} {g e : Nat} {o : Opt} (h : FAt W g o e) : W.cell? ⟨g, 1, none⟩ = some (.string o.2) := Blk.at_ h 1
theorem FAt.c2 {W : World} {g e : Nat} {o : Opt} (h : FAt W g o e) : W.cell? ⟨g, 2, none⟩ = some (.int .i64 (e : Nat)) := Blk.at_ h 2
theorem FAt.set {W : World} {g e : Nat} {o : Opt} (h : FAt W g o e) (o' : Opt) (e' : Nat) : FAt (((W.setCell ⟨g, 0, none⟩ (.int .u8 o'.1.toNat)).setCell ⟨g, 1, none⟩ (.string o'.2)).setCell ⟨g, 2, none⟩ (.int .i64 (e' : Nat))) g o' e' := ((Blk.set h 0 (.int .u8 o'.1.toNat)).set 1 (.string o'.2)).set 2 (.int .i64 (e' : Nat))

theorem rd_text (s : ByteArray) : (s.size < 2 ∧ rd s.toList = ((0, ByteArray.empty), 6)) ∨ (∃ h : 1 < s.size, s[1].toNat < 2 ∧ rd s.toList = ((0, ByteArray.empty), 7)) ∨ (∃ h : 1 < s.size, 2 ≤ s[1].toNat ∧ s.size < s[1].toNat ∧ rd s.toList = ((0, ByteArray.empty), 6)) ∨
    (∃ h : 1 < s.size, 2 ≤ s[1].toNat ∧ s[1].toNat ≤ s.size ∧ rd s.toList = ((s[0], s.extract 2 s[1].toNat), 0)) := by
  rcases rd_cases s.toList with ⟨e1, e⟩ | ⟨e1, e2, e⟩ | ⟨e1, e2, e3, e⟩ | ⟨e1, e2, e3, e, hz⟩
  · left; exact ⟨by rw [size_toList]; exact e1, e⟩
  all_goals
    have h1 : 1 < s.size := by rw [size_toList]; exact e1
    have hx : s.toList.getD 1 0 = s[1] := by have := getD_drop s.toList 0 1 (by rw [← size_toList]; exact h1); rw [List.drop_zero] at this; rw [this, getElem_toList]
    rw [hx] at e2
  · right; left; exact ⟨h1, e2, e⟩
  · right; right; left; rw [hx, ← size_toList] at e3; exact ⟨h1, e2, e3, e⟩
  · right; right; right
    rw [hx] at e3 e
    rw [← size_toList] at e3
    have h0 : s.toList.getD 0 0 = s[0] := by have := getD_drop s.toList 0 0 (by rw [← size_toList]; omega); rw [List.drop_zero] at this; rw [this, getElem_toList]
    rw [h0, ← extract_bOf] at e
    exact ⟨h1, e2, e3, e⟩

theorem laid_found (w : World) : ∃ W, w.alloc (.cells #[.int .u8 0, .string ⟨#[]⟩, .int .i64 0] 179) = W ∧ Hid (FAt W w.heap.size (0, ⟨#[]⟩) 0 ∧ Below w.heap.size w W) :=
  ⟨_, rfl, fat_new w (0, ⟨#[]⟩) 0, (Below.refl w.heap.size w).alloc (Nat.le_refl _) _⟩
theorem below_found {g : Nat} {w W : World} (h : Below g w W) (a b c : Value) : Below g w (((W.setCell ⟨g, 0, none⟩ a).setCell ⟨g, 1, none⟩ b).setCell ⟨g, 2, none⟩ c) :=
  ((h.setCell (p := ⟨g, 0, none⟩) (Nat.le_refl _) a).setCell (p := ⟨g, 1, none⟩) (Nat.le_refl _) b).setCell (p := ⟨g, 2, none⟩) (Nat.le_refl _) c
def ReadQ (s : List UInt8) (w : World) (e : Ending) (w' : World) : Prop := e = .returned (.agg #[.int .u8 (rd s).1.1.toNat, .string (rd s).1.2, .int .i64 ((rd s).2 : Nat)]) ∧ Below w.heap.size w w'
theorem readQ_of {s : List UInt8} {o : Opt} {e : Nat} {w w' : World} (h : rd s = (o, e)) (hb : Below w.heap.size w w') : ReadQ s w (.returned (.agg #[.int .u8 o.1.toNat, .string o.2, .int .i64 (e : Nat)])) w' := by
  unfold ReadQ
  rw [h]
  exact ⟨rfl, hb⟩

set_option maxHeartbeats 2000000 in
set_option maxRecDepth 100000 in
theorem read_any (s : ByteArray) (w : World) (hs : s.size ≤ 1048576) :
    Calls Tryz.prog 90 #[.string s] w (ReadQ s.toList w) := by
  obtain ⟨W, hW, HW⟩ := laid_found w
  have f0 := Blk.frozen HW.out.1 0
  have f1 := Blk.frozen HW.out.1 1
  have f2 := Blk.frozen HW.out.1 2
  have c0 : W.cell? ⟨w.heap.size, 0, none⟩ = some (.int .u8 0) := HW.out.1.c0
  have c1 : W.cell? ⟨w.heap.size, 1, none⟩ = some (.string ⟨#[]⟩) := HW.out.1.c1
  have c2 : W.cell? ⟨w.heap.size, 2, none⟩ = some (.int .i64 0) := HW.out.1.c2
  rcases rd_text s with ⟨h1, hr⟩ | ⟨h1, h2, hr⟩ | ⟨h1, h2, h3, hr⟩ | ⟨h1, h2, h3, hr⟩
  · have HR := Lib.hid hr; clear hr
    have hx1 : (s.size : Int) < 2 := by omega
    go_enter Tryz.func90, Tryz.ntmps90
    go_wp2
    clear hW
    have HF := HW.out.1.set (0, ⟨#[]⟩) 6
    (try simp only [Exit.inBlock, Exit.then])
    refine bodyPost_ret (results_cell_row rfl _ _ w.heap.size _ _ _ _ rfl HF Tryz.underlying179 rfl (by kernel_rfl)) rfl ?_
    exact readQ_of HR.out (below_found HW.out.2 _ _ _)
  · have HR := Lib.hid hr; clear hr
    have hx1 : ¬ (s.size : Int) < 2 := by omega
    obtain ⟨x, hxe⟩ : ∃ x : Nat, s[1].toNat = x := ⟨_, rfl⟩
    rw [hxe] at h2
    have hx2 : (x : Int) < 2 := by omega
    go_enter Tryz.func90, Tryz.ntmps90
    go_wp2
    clear hW
    have HF := HW.out.1.set (0, ⟨#[]⟩) 7
    (try simp only [Exit.inBlock, Exit.then])
    refine bodyPost_ret (results_cell_row rfl _ _ w.heap.size _ _ _ _ rfl HF Tryz.underlying179 rfl (by kernel_rfl)) rfl ?_
    exact readQ_of HR.out (below_found HW.out.2 _ _ _)
  · have HR := Lib.hid hr; clear hr
    have hx1 : ¬ (s.size : Int) < 2 := by omega
    have hb0 := s[1].toNat_lt
    obtain ⟨x, hxe⟩ : ∃ x : Nat, s[1].toNat = x := ⟨_, rfl⟩
    rw [hxe] at h2 h3 hb0
    have hx0 : (0 : Int) ≤ x := by omega
    have hx3 : (x : Int) ≤ 255 := by omega
    have hx2 : ¬ (x : Int) < 2 := by omega
    have hx4 : (s.size : Int) < (x : Int) := by omega
    go_enter Tryz.func90, Tryz.ntmps90
    go_wp2
    clear hW
    have HF := HW.out.1.set (0, ⟨#[]⟩) 6
    (try simp only [Exit.inBlock, Exit.then])
    refine bodyPost_ret (results_cell_row rfl _ _ w.heap.size _ _ _ _ rfl HF Tryz.underlying179 rfl (by kernel_rfl)) rfl ?_
    exact readQ_of HR.out (below_found HW.out.2 _ _ _)
  · have hx1 : ¬ (s.size : Int) < 2 := by omega
    have hb0 := s[1].toNat_lt
    obtain ⟨x, hxe⟩ : ∃ x : Nat, s[1].toNat = x := ⟨_, rfl⟩
    obtain ⟨y, hye⟩ : ∃ y : UInt8, s[0] = y := ⟨_, rfl⟩
    rw [hxe] at h2 h3 hb0 hr
    obtain ⟨D, hD⟩ : ∃ D, s.extract 2 x = D := ⟨_, rfl⟩
    rw [hye, hD] at hr
    have HR := Lib.hid hr; clear hr
    have hx0 : (0 : Int) ≤ x := by omega
    have hx3 : (x : Int) ≤ 255 := by omega
    have hx2 : ¬ (x : Int) < 2 := by omega
    have hx4 : ¬ (s.size : Int) < (x : Int) := by omega
    have hx5 : (2 : Int) ≤ (x : Int) := by omega
    have hx6 : (x : Int) ≤ (s.size : Int) := by omega
    have hx7 : 0 < s.size := by omega
    go_enter Tryz.func90, Tryz.ntmps90
    go_wp2
    clear hW
    go_region
    go_wp2
    have HF := HW.out.1.set (y, D) 0
    (try simp only [Exit.inBlock, Exit.then])
    refine bodyPost_ret (results_cell_row rfl _ _ w.heap.size _ _ _ _ rfl HF.drew Tryz.underlying179 rfl (by kernel_rfl)) rfl ?_
    exact readQ_of HR.out (below_found HW.out.2.drew _ _ _)
end Go.Proofs.YtpppggicihfbgaaGreat.Opt

/- Contract of package option's finds: it goes over the items of a text, in order, up to where a round says 'no more'. -/
namespace Go.Proofs.YtpppggicihfbgaaGreat.Opt
open Go.RowKit Go.Shelf Go.Proofs.YtpppggicihfbgaaGreat.Oct Go.Proofs.YtpppggicihfbgaaGreat.Row Go.Proofs.YtpppggicihfbgaaGreat.Mem
attribute [local go_sem] Oper.semAt_some

def encI (x : Item) : Array Value := #[.int .i64 (x.1 : Nat), .agg #[.int .u8 x.2.1.1.toNat, .string x.2.1.2, .int .i64 (x.2.2 : Nat)]]
def KeepsF (b : Nat) (s : ByteArray) (W W' : World) : Prop :=
  (Boxed W b 9 (.string s) → Boxed W' b 9 (.string s)) ∧ ∀ g o e, FAt W g o e → FAt W' g o e
theorem keepsF_t {b : Nat} {s : ByteArray} {A B C : World} (h : KeepsF b s A B) (k : KeepsF b s B C) : KeepsF b s A C := ⟨fun x => k.1 (h.1 x), fun g o e x => k.2 g o e (h.2 g o e x)⟩
theorem keepsF_b {b : Nat} {s : ByteArray} {w : World} (W : World) (l : Nat) (o o' : Obj) (_ : w.heap.size ≤ l) (h : W.heap[l]? = some o) (hc : o.isCells = false) (_ : o.isWalk = false) : KeepsF b s W (W.putObj l o') := by
  refine ⟨fun hx => hx.kept (grownBy_putObj' W l o') (fun e => by cases e; rw [show W.heap[b]? = _ from hx] at h; cases h; cases hc), fun g o2 e hx => ?_⟩
  have hne : some g ≠ some l := fun e' => by cases e'; rw [show W.heap[l]? = _ from hx] at h; cases h; cases hc
  exact ((grownBy_putObj' W l o').block g (Blk.lt hx) hne).trans hx
theorem keepsF_new {b : Nat} {s : ByteArray} {W W' : World} (h : Below W.heap.size W W') : KeepsF b s W W' :=
  ⟨fun hx => (h.block b hx.lt).trans hx, fun _ _ _ hx => (h.block _ (Blk.lt hx)).trans hx⟩
theorem grown_of_below {W W' : World} (h : Below W.heap.size W W') : W.grownBy W' none := ⟨h.os, h.tape, h.output, h.size, fun k hk _ => h.block k hk⟩
theorem ne_zero {e : Nat} (h : ¬ e = 0) : ((e : Int) != 0) = true := by
  have : ¬ (e : Int) = 0 := by omega
  simpa using this
theorem is_zero {e : Nat} (h : e = 0) : ((e : Int) != 0) = false := by rw [h]; rfl
theorem seq_at (s : ByteArray) (k : Nat) (h : k < s.size) (o : Opt) (e : Nat) (hr : rd (s.toList.drop k) = (o, e)) : (e = 0 → seq (s.toList.drop k) k = (k, o, 0) :: seq (s.toList.drop (k + (2 + o.2.size))) (k + (2 + o.2.size)) ∧ k + (2 + o.2.size) ≤ s.size) ∧ (¬ e = 0 → seq (s.toList.drop k) k = [(k, o, e)]) := by
  have hne := drop_ne h
  refine ⟨fun he => ?_, fun he => ?_⟩
  · have h0 : (rd (s.toList.drop k)).2 = 0 := by rw [hr]; exact he
    have hg := (rd_good h0).2.2
    rw [hr, List.length_drop, ← size_toList] at hg
    simp only at hg
    refine ⟨?_, by omega⟩
    rw [seq_good hne h0, hr, List.drop_drop]
  · have h0 : (rd (s.toList.drop k)).2 ≠ 0 := by rw [hr]; exact he
    rw [seq_bad hne h0, hr]

set_option maxHeartbeats 4000000 in
set_option maxRecDepth 100000 in
theorem finds1_in (n : Nat) (hn : 1 ≤ n) (l b : Nat) (s : ByteArray) (hs : s.size ≤ 1496) (J Jx : List Item → World → Prop) (W : World) (hJ : AbidesFrom W.heap.size J)
    (hY : ∀ pre x W, J pre W → pre.length < s.size → YieldAt Fence.wide (n - 1) Tryz.prog l (encI x) W fun e W' =>
      (e = .returned (.bool true) ∧ J (pre ++ [x]) W' ∧ KeepsF b s W W') ∨ (e = .returned (.bool false) ∧ Jx (pre ++ [x]) W'))
    (hb : Boxed W b 9 (.string s)) (h0 : J [] W) :
    CallsIn Fence.wide n Tryz.prog 89 #[.func (.yield l) #[] #[], .pointer (some ⟨b, 0, none⟩)] W fun e W' => (∃ v, e = .returned v) ∧
      ((∃ ys, ys = seq s.toList 0 ∧ J ys W') ∨ (∃ pre, pre <+: seq s.toList 0 ∧ Jx pre W')) := by
  have hb' := hb.cell
  have HJ := Lib.hid hJ; clear hJ
  refine callsIn_of_wp Tryz.func89 rfl trivial ?_
  simp only [Tryz.ntmps89, List.size_toArray, List.length_cons, List.length_nil, Nat.reduceAdd, Nat.reduceSub, Array.replicate_succ, Array.replicate_zero, List.push_toArray, List.append_toArray, List.nil_append, List.cons_append]
  gi_wp2
  gi_loopw [3] (fun i wr => ∃ (k : Nat) (pre : List Item), k ≤ s.size ∧ i = .int .i64 k ∧ pre.length ≤ k ∧ Hid (seq s.toList 0 = pre ++ seq (s.toList.drop k) k) ∧ J pre wr ∧ Boxed wr b 9 (.string s))
    (fun i _ => s.size - (intOf i).toNat)
  case atStart => exact ⟨0, [], Nat.zero_le _, rfl, Nat.le_refl _, by show _ = _; rw [List.drop_zero, List.nil_append], h0, hb⟩
  case round =>
    obtain ⟨k, pre, hk, rfl, hpk, HS, hJs, hB⟩ := hrel
    have hc := hB.cell
    have HB := Lib.hid hB; clear hB
    by_cases hlt : k < s.size
    · obtain ⟨⟨o, e⟩, hrd⟩ : ∃ r, rd (s.toList.drop k) = r := ⟨_, rfl⟩
      have Hsq := Lib.hid (seq_at s k hlt o e hrd)
      have HU : Hid ((s.extract k s.size).toList = s.toList.drop k) := by show _ = _; rw [extract_rest, toList_bOf]
      have HR := Lib.hid (read_any (s.extract k s.size) wr (by rw [extract_rest, size_bOf, List.length_drop, ← size_toList]; omega))
      rw [HU.out] at HR
      unfold ReadQ at HR
      rw [hrd] at HR
      clear hrd HU
      have hkI : (k : Int) < (s.size : Int) := by omega
      gi_wp2_with (refine ⟨trivial, ?_⟩; gi_at_call 90; refine (callsIn_wide.2 HR.out).mono ?_; rintro e1 w1 ⟨rfl, hb1⟩; have hb2 := hb1.alloc hb1.size (.cells #[.int .u8 o.1.toNat, .string o.2, .int .i64 (e : Nat)] 179); have HF := Lib.hid (fat_new w1 o e); have HB2 := Lib.hid ((hb2.block b HB.out.lt).trans HB.out : Boxed _ b 9 (.string s)); have hJ2 := HJ.out pre wr _ none hJs (grown_of_below hb2) (fun r e => by cases e); obtain ⟨fn, tmps, assign, body, hy, hR⟩ := hY pre (k, o, e) _ hJ2 (by omega); dsimp only [encI] at hy; clear hb1 hb2)
      refine hR.mono ?_
      rintro e3 W3 (⟨rfl, hJ3, hk3⟩ | ⟨rfl, hJx3⟩)
      · have hB3 := hk3.1 HB2.out
        have HB3 := Lib.hid hB3
        have hc3 := hB3.cell
        have hF3 := hk3.2 _ _ _ HF.out
        have d1 := hF3.c1
        have d2 := hF3.c2
        have Hk3 := Lib.hid hk3
        clear hB3 hF3 hk3
        by_cases he : e = 0
        · have hx := is_zero he
          have HQ := Lib.hid (Hsq.out.1 he)
          have HE : Hid ((k, o, e) = (k, o, 0)) := by show _ = _; rw [he]
          have hle : k + (2 + o.2.size) ≤ s.size := HQ.out.2
          clear he Hsq
          gi_wp2
          go_roundw
          case rel => exact ⟨k + (2 + o.2.size), pre ++ [(k, o, e)], by omega, by go_num, by rw [List.length_append]; simp; omega, by show _ = _; rw [HS.out, HQ.out.1, HE.out, List.append_assoc, List.singleton_append], hJ3, HB3.out⟩
          case measure => simp [intOf]; omega
        · have hx := ne_zero he
          have HQ := Lib.hid (Hsq.out.2 he)
          clear he Hsq
          gi_wp2
          refine bodyPost_ret (results_none rfl _ _ _) rfl ?_
          exact ⟨⟨_, rfl⟩, .inl ⟨pre ++ [(k, o, e)], by rw [HS.out, HQ.out], hJ3⟩⟩
      · have HQ : Hid (pre ++ [(k, o, e)] <+: seq s.toList 0) := by
          show _ <+: _
          rw [HS.out]
          by_cases he : e = 0
          · rw [(Hsq.out.1 he).1, he]
            exact ⟨_, by rw [List.append_assoc, List.singleton_append]⟩
          · rw [Hsq.out.2 he]
            exact List.prefix_refl _
        clear Hsq
        gi_wp2
        refine bodyPost_ret (results_none rfl _ _ _) rfl ?_
        exact ⟨⟨_, rfl⟩, .inr ⟨_, HQ.out, hJx3⟩⟩
    · have HE : Hid (seq s.toList 0 = pre) := by
        show _ = _
        rw [HS.out, List.drop_eq_nil_of_le (by rw [← size_toList]; omega), seq_nil, List.append_nil]
      gi_wp2
      go_end0
      exact ⟨⟨_, rfl⟩, .inl ⟨pre, HE.out.symm, hJs⟩⟩

theorem finds_stops (n : Nat) (hn : 1 ≤ n) (b : Nat) (s : ByteArray) (hs : s.size ≤ 1496) (w : World) (hb : Boxed w b 9 (.string s)) :
    SeqStopsK Fence.wide n Tryz.prog 89 #[.pointer (some ⟨b, 0, none⟩)] encI (KeepsF b s) (fun ys => ys = seq s.toList 0) (fun pre => pre <+: seq s.toList 0) s.size w := fun l J Jx W hW hJ _ hY h0 =>
  finds1_in n hn l b s hs J Jx W hJ hY ((hW.block b hb.lt).trans hb) h0

set_option maxHeartbeats 400000 in
theorem finds_in (n : Nat) (s : ByteArray) (w : World) :
    CallsIn Fence.wide n Tryz.prog 83 #[.string s] w fun e w' => e = .returned (.func (.func 89) #[] #[.pointer (some ⟨w.heap.size, 0, none⟩)]) ∧ w' = w.alloc (.cells #[.string s] 9) := by
  refine callsIn_of_wp Tryz.func83 rfl trivial ?_
  simp only [Tryz.ntmps83, List.size_toArray, List.length_cons, List.length_nil, Nat.reduceAdd, Nat.reduceSub, Array.replicate_succ, Array.replicate_zero, List.push_toArray, List.append_toArray, List.nil_append, List.cons_append]
  gi_wp2
  go_ret
  exact ⟨rfl, rfl⟩
end Go.Proofs.YtpppggicihfbgaaGreat.Opt

/- Contract of package option's Get. -/
namespace Go.Proofs.YtpppggicihfbgaaGreat.Opt
open Go.RowKit Go.Shelf Go.Proofs.YtpppggicihfbgaaGreat.Oct Go.Proofs.YtpppggicihfbgaaGreat.Row Go.Proofs.YtpppggicihfbgaaGreat.Mem
attribute [local go_sem] Oper.semAt_some

theorem results_get (tmps : Array Value) (w : World) (g : Nat) (A : Option Addr) (n c : Nat) (a e : Int) (h2 : tmps.getD 2 undef = .pointer (some ⟨g, 0, none⟩)) (h3 : tmps.getD 3 undef = .pointer (some ⟨g + 1, 0, none⟩)) (h4 : tmps.getD 4 undef = .pointer (some ⟨g + 1 + 1, 0, none⟩))
    (c2 : w.cell? ⟨g, 0, none⟩ = some (.slice A n c)) (c3 : w.cell? ⟨g + 1, 0, none⟩ = some (.int .i64 a)) (c4 : w.cell? ⟨g + 1 + 1, 0, none⟩ = some (.int .i64 e)) :
    (results Tryz.f65 tmps).run Tryz.prog w = .ok (.tuple #[.slice A n c, .int .i64 a, .int .i64 e]) w := by
  have h2' : tmps[2]?.getD undef = .pointer (some ⟨g, 0, none⟩) := by simpa using h2
  have h3' : tmps[3]?.getD undef = .pointer (some ⟨g + 1, 0, none⟩) := by simpa using h3
  have h4' : tmps[4]?.getD undef = .pointer (some ⟨g + 1 + 1, 0, none⟩) := by simpa using h4
  simp [results, Tryz.results65, go_sem, h2', h3', h4', c2, c3, c4]

structure Rs (W : World) (g : Nat) (v : Value) (a e : Nat) : Prop where
  l : Boxed W g 86 v
  a : Boxed W (g + 1) 3 (.int .i64 (a : Nat))
  e : Boxed W (g + 1 + 1) 30 (.int .i64 (e : Nat))
theorem Rs.alloc {W : World} {g a e : Nat} {v : Value} (h : Rs W g v a e) (o : Obj) : Rs (W.alloc o) g v a e := ⟨h.l.alloc o, h.a.alloc o, h.e.alloc o⟩
theorem Rs.drew {W : World} {g a e : Nat} {v : Value} (h : Rs W g v a e) : Rs W.drew g v a e := ⟨h.l, h.a, h.e⟩
theorem Rs.stays {W W' : World} {row : Option Nat} {g a e : Nat} {v : Value} (h : Rs W g v a e) (hg : W.grownBy W' row) (hr : ∀ r, row = some r → ∃ o : Obj, W.heap[r]? = some o ∧ o.isCells = false) : Rs W' g v a e :=
  ⟨boxed_stays h.l hg hr, boxed_stays h.a hg hr, boxed_stays h.e hg hr⟩
theorem Rs.set {W : World} {g a e : Nat} {v : Value} (h : Rs W g v a e) (v' : Value) (a' e' : Nat) : Rs (((W.setCell ⟨g, 0, none⟩ v').setCell ⟨g + 1, 0, none⟩ (.int .i64 (a' : Nat))).setCell ⟨g + 1 + 1, 0, none⟩ (.int .i64 (e' : Nat))) g v' a' e' :=
  ⟨((h.l.set v').other (by omega) _).other (by omega) _, (((h.a.other (by omega) _).set _)).other (by omega) _, ((h.e.other (by omega) _).other (by omega) _).set _⟩
theorem rs_new (w : World) : Rs (((w.alloc (.cells #[.slice none 0 0] 86)).alloc (.cells #[.int .i64 0] 3)).alloc (.cells #[.int .i64 0] 30)) w.heap.size (.slice none 0 0) 0 0 := by
  refine ⟨((Boxed.new w _ _).alloc _).alloc _, ?_, ?_⟩
  · have := (Boxed.new (w.alloc (.cells #[.slice none 0 0] 86)) 3 (.int .i64 0)).alloc (.cells #[.int .i64 0] 30)
    rw [World.size_alloc] at this
    exact this
  · have := Boxed.new ((w.alloc (.cells #[.slice none 0 0] 86)).alloc (.cells #[.int .i64 0] 3)) 30 (.int .i64 0)
    rw [World.size_alloc, World.size_alloc] at this
    exact this
theorem below_rs {n g : Nat} {w W : World} (h : Below n w W) (hn : n ≤ g) (x y z : Value) : Below n w (((W.setCell ⟨g, 0, none⟩ x).setCell ⟨g + 1, 0, none⟩ y).setCell ⟨g + 1 + 1, 0, none⟩ z) :=
  ((h.setCell (p := ⟨g, 0, none⟩) hn x).setCell (p := ⟨g + 1, 0, none⟩) (by show n ≤ g + 1; omega) y).setCell (p := ⟨g + 1 + 1, 0, none⟩) (by show n ≤ g + 1 + 1; omega) z
theorem below3 (w : World) (a b c : Obj) : Below w.heap.size w (((w.alloc a).alloc b).alloc c) := (((Below.refl _ w).alloc (Nat.le_refl _) _).alloc (by simp) _).alloc (by simp; omega) _

set_option maxHeartbeats 1000000 in
set_option maxRecDepth 100000 in
theorem get_long (s : ByteArray) (w : World) (hs : 1496 < s.size) :
    Calls Tryz.prog 65 #[.string s] w (GetR s.toList w) := by
  have HG : Hid (got s.toList = ([], 0, 5)) := by show _ = _; unfold got; rw [if_pos (by rw [← size_toList]; exact hs)]
  obtain ⟨W, hW, HW⟩ : ∃ W, (((w.alloc (.cells #[.slice none 0 0] 86)).alloc (.cells #[.int .i64 0] 3)).alloc (.cells #[.int .i64 0] 30)) = W ∧ Hid (Rs W w.heap.size (.slice none 0 0) 0 0 ∧ Below w.heap.size w W) := ⟨_, rfl, rs_new w, below3 w _ _ _⟩
  have c0 := HW.out.1.l.cell
  have c1 : W.cell? ⟨w.heap.size + 1, 0, none⟩ = some (.int .i64 0) := HW.out.1.a.cell
  have c2 : W.cell? ⟨w.heap.size + 1 + 1, 0, none⟩ = some (.int .i64 0) := HW.out.1.e.cell
  have f0 := HW.out.1.l.frozen
  have f1 := HW.out.1.a.frozen
  have f2 := HW.out.1.e.frozen
  have hx : (1496 : Int) < (s.size : Int) := by omega
  go_enter Tryz.func65, Tryz.ntmps65
  go_wp2
  clear hW
  have HR := HW.out.1.set (.slice none 0 0) 0 5
  (try simp only [Exit.inBlock, Exit.then])
  refine bodyPost_ret (results_get _ _ w.heap.size none 0 0 0 5 rfl rfl rfl HR.l.cell HR.a.cell HR.e.cell) rfl ?_
  exact getR_no HG.out (below_rs HW.out.2 (Nat.le_refl _) _ _ _)

def setR (W : World) (g : Nat) (v : Value) (a e : Int) : World := ((W.setCell ⟨g, 0, none⟩ v).setCell ⟨g + 1, 0, none⟩ (.int .i64 a)).setCell ⟨g + 1 + 1, 0, none⟩ (.int .i64 e)
theorem setR_moves (W : World) (g : Nat) (v : Value) (a e : Int) : Moves (fun k => k = g ∨ k = g + 1 ∨ k = g + 1 + 1) W (setR W g v a e) :=
  (((Moves.refl _ W).setCell ⟨g, 0, none⟩ (fun _ => .inl rfl) v).setCell ⟨g + 1, 0, none⟩ (fun _ => .inr (.inl rfl)) (.int .i64 a)).setCell ⟨g + 1 + 1, 0, none⟩ (fun _ => .inr (.inr rfl)) (.int .i64 e)
theorem setR_keeps (W : World) (g : Nat) (v : Value) (a e : Int) : KeepsOthers W (setR W g v a e) := ((KeepsOthers.setCell W _ v).trans (KeepsOthers.setCell _ _ _)).trans (KeepsOthers.setCell _ _ _)
theorem Rs.row {W : World} {g a e : Nat} {v : Value} (h : Rs W g v a e) {base n : Nat} {u : Value} {xs : List Value} (hr : W.ownsRow base 177 2 u n xs) (v' : Value) (a' e' : Int) : (setR W g v' a' e').ownsRow base 177 2 u n xs := by
  refine (setR_moves W g v' a' e').row hr (fun k hk hs => ?_)
  rcases hs with rfl | rfl | rfl
  · exact cells_not_row h.l (by decide) hr hk
  · exact cells_not_row h.a (by decide) hr hk
  · exact cells_not_row h.e (by decide) hr hk
def Mid (_s : ByteArray) (g : Nat) (pre : List Item) (W : World) : Prop := okI pre ∧ pre.length ≤ 64 ∧ ∃ A c, Rs W g (.slice A pre.length c) 0 0 ∧ W.ownsRow g 177 2 (.slice A pre.length c) pre.length (optsV (optsI pre))
def End (g : Nat) (c : Code) (pre : List Item) (W : World) : Prop := c = .ret ∧ ∃ (q : List Item) (x : Item), pre = q ++ [x] ∧ okI q ∧ q.length ≤ 64 ∧ (q.length = 64 ∨ x.2.2 ≠ 0) ∧ Rs W g (.slice none 0 0) x.1 (if q.length = 64 then 4 else x.2.2)
theorem mid_own (s : ByteArray) (g : Nat) : Own (Mid s g) := fun pre A B row hs hg hr => by
  obtain ⟨h1, h2, A', c, h3, h4⟩ := hs
  exact ⟨h1, h2, A', c, h3.stays hg hr, row_stays h4 hg hr⟩
theorem end_own (g : Nat) (c : Code) : Own (End g c) := fun pre A B row hs hg hr => by
  obtain ⟨h1, q, x, h2, h3, h4, h5, h6⟩ := hs
  exact ⟨h1, q, x, h2, h3, h4, h5, h6.stays hg hr⟩
theorem fat_stays {W W' : World} {row : Option Nat} {B e : Nat} {o : Opt} (h : FAt W B o e) (hg : W.grownBy W' row) (hr : ∀ r, row = some r → ∃ o : Obj, W.heap[r]? = some o ∧ o.isCells = false) : FAt W' B o e :=
  (hg.block B (Blk.lt h) (fun e' => by obtain ⟨o, ho, hc⟩ := hr B e'.symm; rw [show W.heap[B]? = _ from h] at ho; cases ho; cases hc)).trans h
def Hd (s : ByteArray) (g m : Nat) (x : Item) (a' : Act) (W : World) : Prop :=
  ∃ Bx, g + 1 + 1 < Bx ∧ FAt W Bx x.2.1 x.2.2 ∧ a' = { tmps := #[.string s, undef, .pointer (some ⟨g, 0, none⟩), .pointer (some ⟨g + 1, 0, none⟩), .pointer (some ⟨g + 1 + 1, 0, none⟩), .int .i64 (x.1 : Nat), .pointer (some ⟨Bx, 0, none⟩), .string s, .int .i64 s.size, .bool false, .string s,
    .func (.func 89) #[] #[.pointer (some ⟨m, 0, none⟩)], .int .i64 (x.1 : Nat), .agg #[.int .u8 x.2.1.1.toNat, .string x.2.1.2, .int .i64 (x.2.2 : Nat)], undef, undef, undef, undef, undef, undef, undef, undef, undef, undef, undef, undef, undef, undef, undef, undef, undef, undef], defers := [] }
theorem hd_own (s : ByteArray) (g m : Nat) (x : Item) (a' : Act) : Own (fun (_ : Unit) W => Hd s g m x a' W) := fun _ A B row hs hg hr => by
  obtain ⟨Bx, h1, h2, h3⟩ := hs
  exact ⟨Bx, h1, fat_stays h2 hg hr, h3⟩
theorem keepsF_append {b g n₀ n : Nat} {s : ByteArray} {W w1 : World} {v v' : Value} {xs : List Value} {tmp : Obj} (hv : Boxed W g 86 v) (hrow : W.ownsRow n₀ 177 2 v n xs) (hgrow : (W.alloc tmp).grownBy w1 v.ownBlock) (hb : b ≠ g) : KeepsF b s W (w1.setCell ⟨g, 0, none⟩ v') := by
  refine ⟨fun hx => boxed_past hx (by decide) hrow hgrow hb v', fun B o e hx => ?_⟩
  have h1 : FAt (W.alloc tmp) B o e := Blk.alloc hx tmp
  have h2 : FAt w1 B o e := (hgrow.block B (Blk.lt h1) (fun e' => cells_not_row hx (by decide) hrow e'.symm)).trans h1
  refine Blk.moves (S := fun k => k = g) h2 ((Moves.refl (fun k => k = g) w1).setCell ⟨g, 0, none⟩ (fun _ => rfl) v') (fun e' => ?_)
  subst e'
  have h3 := (show W.heap[B]? = _ from hx).symm.trans (show W.heap[B]? = _ from hv)
  simp at h3

set_option maxHeartbeats 8000000 in
set_option maxRecDepth 100000 in
theorem get_in (s : ByteArray) (w : World) (hs : s.size ≤ 1496) :
    CallsIn Fence.wide 4 Tryz.prog 65 #[.string s] w (GetR s.toList w) := by
  obtain ⟨i0, hi, hz0, hz1, hz2⟩ := info_parts Tryz.info177
  obtain ⟨W, hW, HW⟩ : ∃ W, (((w.alloc (.cells #[.slice none 0 0] 86)).alloc (.cells #[.int .i64 0] 3)).alloc (.cells #[.int .i64 0] 30)) = W ∧ Hid (Rs W w.heap.size (.slice none 0 0) 0 0 ∧ Below w.heap.size w W ∧ W.heap.size = w.heap.size + 3) := ⟨_, rfl, rs_new w, below3 w _ _ _, by simp⟩
  have hx : ¬ (1496 : Int) < (s.size : Int) := by omega
  have Hs := Lib.hid hs
  have HsL : Hid (s.toList.length ≤ 1496) := by show _ ≤ _; rw [← size_toList]; exact hs
  have HNL : Hid (s.toList.length = s.size) := (size_toList s).symm
  clear hs
  refine callsIn_of_wp_marks Tryz.func65 rfl trivial ?_
  simp only [Tryz.ntmps65, List.size_toArray, List.length_cons, List.length_nil, Nat.reduceAdd, Nat.reduceSub, Array.replicate_succ, Array.replicate_zero, List.push_toArray, List.append_toArray, List.nil_append, List.cons_append]
  gi_wp2_with (refine ⟨trivial, ?_⟩; gi_at_call 83; refine (finds_in 3 s _).mono ?_; rintro e w4 ⟨rfl, rfl⟩)
  clear hW
  obtain ⟨W0, hW0⟩ : ∃ W0, W.alloc (.cells #[.string s] 9) = W0 := ⟨_, rfl⟩
  have bT : Boxed W0 W.heap.size 9 (.string s) := by rw [← hW0]; exact Boxed.new W _ _
  have bR : Rs W0 w.heap.size (.slice none 0 0) 0 0 := by rw [← hW0]; exact HW.out.1.alloc _
  have hs0 : W0.heap.size = w.heap.size + 4 := by rw [← hW0, World.size_alloc, HW.out.2.2]
  have hB0 : Below w.heap.size w W0 := by rw [← hW0]; exact HW.out.2.1.alloc HW.out.2.1.size _
  have hm0 := HW.out.2.2
  rw [hW0]
  clear hW0 HW
  generalize W.heap.size = m at *
  have hm1 : w.heap.size + 3 ≤ m := by omega
  clear hm0
  generalize hg : w.heap.size = g at *
  have HgW : Hid (g ≤ W0.heap.size) := by show _ ≤ _; omega
  have Hst := finds_stops 3 (by omega) m s Hs.out W0 bT
  refine wpIn_rangeFunc_ownH rfl (by omega) (gf := 89) (lb := #[.pointer (some ⟨m, 0, none⟩)]) rfl trivial (enters_of Tryz.func89 (by kernel_rfl) rfl)
    Hst keepsF_t keepsF_b (Below.refl _ _) (fun _ => rfl)
    (fun pre W => Mid s g pre W ∧ Below g w W)
    (fun c pre W => End g c pre W ∧ Below g w W)
    (OwnFrom.and (Own.from (mid_own s g) _) (ownFrom_below (by omega) (by omega)))
    (fun c => OwnFrom.and (Own.from (end_own g c) _) (ownFrom_below (by omega) (by omega)))
    ⟨⟨(fun _ h => by cases h), by simp, none, 0, bR, World.ownsRow_nil _ _ _ _⟩, hB0⟩
    (Hd s g m)
    (fun x a' => Own.from (hd_own s g m x a') _)
    ?assign ?body ?done ?stop
  case assign =>
    rintro l pre ⟨p, ⟨t, d⟩, e⟩ W1 K ⟨⟨hok, hlen, A, c, hRs, hrow⟩, hB⟩ hK
    clear Hst hB0 bT bR hs0
    simp only [encI]
    have hz := hB.size
    have hz2 := hRs.e.lt
    gi_wp2
    exact hK _ _ ((KeepsOthers.alloc _ _).from _) (keepsF_new ((Below.refl _ W1).alloc (Nat.le_refl _) _)) ⟨⟨hok, hlen, A, c, hRs.alloc _, hrow.alloc _⟩, hB.alloc (by omega) _⟩ ⟨W1.heap.size, hz2, fat_new W1 (t, d) e, rfl⟩
  case body =>
    rintro l pre ⟨p, ⟨t, d⟩, e⟩ a' W1 hl ⟨r, hr⟩ ⟨⟨hok, hlen, A, c, hRs, hrow⟩, hB⟩ ⟨Bx, hBx, hF, rfl⟩ hlt
    clear Hst hB0 bT bR hs0
    have cL := hRs.l.cell
    have fL := hRs.l.frozen
    have cA := hRs.a.cell
    have fA := hRs.a.frozen
    have cE := hRs.e.cell
    have fE := hRs.e.frozen
    have d0 := hF.c0
    have d1 := hF.c1
    have d2 := hF.c2
    simp only at d0 d1 d2
    have HF := Lib.hid hF
    have HRs := Lib.hid hRs
    have Hrow := Lib.hid hrow
    have HB := Lib.hid hB
    have Hok := Lib.hid hok
    have hn1 : ¬ Bx = g := by omega
    have hn2 : ¬ Bx = g + 1 := by omega
    have hn3 : ¬ Bx = g + 1 + 1 := by omega
    have hBs := hB.size
    have hgt := hRs.e.lt
    clear hok hRs hrow hB hF hr
    by_cases h64 : pre.length = 64
    · have FIN : Hid (∀ a : Act, ownPostG W0.heap.size (KeepsF m s) (fun pre W => Mid s g pre W ∧ Below g w W) (fun c pre W => End g c pre W ∧ Below g w W) (pre ++ [(p, (t, d), e)]) W1 .ret a (setR W1 g (.slice none 0 0) p 4)) := fun _ =>
        ⟨(setR_keeps _ _ _ _ _).from _, ⟨rfl, pre, (p, (t, d), e), rfl, Hok.out, hlen, .inl h64, by rw [if_pos h64]; exact HRs.out.set _ p 4⟩, below_rs HB.out (Nat.le_refl _) _ _ _⟩
      have hx2 : ((pre.length : Int) == 64) = true := by rw [h64]; rfl
      clear h64
      gi_wp2
      exact FIN.out _
    · have hx2 : ((pre.length : Int) == 64) = false := by rw [beq_eq_false_iff_ne]; omega
      by_cases he : e = 0
      · have HQ : Hid (okI (pre ++ [(p, (t, d), e)]) ∧ (pre ++ [(p, (t, d), e)]).length = pre.length + 1 ∧ optsV (optsI (pre ++ [(p, (t, d), e)])) = optsV (optsI pre) ++ optsV [(t, d)]) := ⟨okI_snoc Hok.out he, by simp, by rw [optsI_snoc, optsV_append]⟩
        have hx3 := is_zero he
        have hlen2 : pre.length + 1 ≤ 64 := by omega
        generalize hpl : pre.length = n at *
        clear h64 he hpl
        gi_wp2_with (gi_at_builtin; refine wpListIn_append_own _ rfl _ _ 86 rfl g 177 i0 _ 2 24 Tryz.underlying86 hi hz0 hz1 hz2 rfl (by decide) _ _ _ rfl (Hrow.out.alloc _) ⟨W1.heap.size, 0, none⟩ 1 1 (optsV [(t, d)]) rfl rfl (by rw [optsV_one]; exact cells_new _ _ _) (optsV_ones _) (by unfold maxLen; omega) (by omega) (by simp; omega) ?_; intro v' w1 hown' hgrow _; obtain ⟨g', cap', rfl⟩ := ownsRow_succ hown'; obtain ⟨hv1, hv2, hr2, hk2, hb2⟩ := HRs.out.l.appended (by decide) Hrow.out (by omega) (Nat.le_refl _) hown' hgrow; have Hv2 := Lib.hid hv2; have Hr2 := Lib.hid hr2; have Hk2 := Lib.hid hk2; have Hb2 := Lib.hid hb2; have Hgrow := Lib.hid hgrow; have hc1 := hv1.cell; have hf1 := hv1.frozen; clear hv1 hv2 hr2 hk2 hb2 hgrow hown')
        refine ⟨Hk2.out.from _, keepsF_append HRs.out.l Hrow.out Hgrow.out (by omega), ⟨HQ.out.1, by rw [HQ.out.2.1]; exact hlen2, some ⟨g', 0, none⟩, cap', ?_, ?_⟩, HB.out.trans Hb2.out⟩
        · rw [HQ.out.2.1]
          exact ⟨Hv2.out, boxed_past HRs.out.a (by decide) Hrow.out Hgrow.out (by omega) _, boxed_past HRs.out.e (by decide) Hrow.out Hgrow.out (by omega) _⟩
        · rw [HQ.out.2.1, HQ.out.2.2]
          exact Hr2.out
      · have FIN : Hid (∀ a : Act, ownPostG W0.heap.size (KeepsF m s) (fun pre W => Mid s g pre W ∧ Below g w W) (fun c pre W => End g c pre W ∧ Below g w W) (pre ++ [(p, (t, d), e)]) W1 .ret a (setR W1.drew g (.slice none 0 0) p e)) := fun _ =>
          ⟨((KeepsOthers.drew W1).trans (setR_keeps _ _ _ _ _)).from _, ⟨rfl, pre, (p, (t, d), e), rfl, Hok.out, hlen, .inr he, by rw [if_neg h64]; exact HRs.out.drew.set _ p e⟩, below_rs HB.out.drew (Nat.le_refl _) _ _ _⟩
        have hx3 := ne_zero he
        clear h64 he
        gi_wp2
        gi_region
        all_goals gi_wp2
        all_goals exact FIN.out _
  case done =>
    rintro D ys W1 hD rfl ⟨⟨hok, hlen, A, c, hRs, hrow⟩, hB⟩ hK
    have cL := hRs.l.cell
    have fL := hRs.l.frozen
    have cA := hRs.a.cell
    have fA := hRs.a.frozen
    have cE := hRs.e.cell
    have fE := hRs.e.frozen
    have HG := Lib.hid (got_done HsL.out hok hlen)
    have HR := Lib.hid (hRs.set (.slice A (seq s.toList 0).length c) s.size 0)
    have HW := Lib.hid (hRs.row hrow (.slice A (seq s.toList 0).length c) s.size 0)
    have HL : Hid ((seq s.toList 0).length = (optsI (seq s.toList 0)).length) := by show _ = _; simp [optsI]
    have HK := Lib.hid ((setR_keeps W1 g (.slice A (seq s.toList 0).length c) s.size 0).same D _ hK rfl)
    have HB := Lib.hid (below_rs hB (Nat.le_refl _) (.slice A (seq s.toList 0).length c) (.int .i64 (s.size : Nat)) (.int .i64 ((0 : Nat) : Int)))
    have HD := Lib.hid hD
    clear hok hRs hrow hB hK hD Hst hB0 bT bR hs0 hlen
    generalize seq s.toList 0 = ys at *
    gi_wp2
    refine ⟨by simp, .inl ⟨_, _, rfl, run_takeDeferred HK.out, ?_⟩⟩
    have hp := grownBy_putObj' (setR W1 g (.slice A ys.length c) s.size 0) D (.deferred none)
    have HR2 := HR.out.stays hp (fun r e => by cases e; exact ⟨_, HK.out, rfl⟩)
    refine ⟨_, results_get _ _ g A ys.length c s.size 0 rfl rfl rfl HR2.l.cell HR2.a.cell HR2.e.cell, ?_⟩
    exact getR_yes (HG.out.trans (by rw [HNL.out])) HL.out (ownsRow_putObj HW.out _ HK.out rfl) (by rw [hg]; exact HB.out.trans (belowK_b (w := W0) HgW.out _ D _ _ HD.out HK.out rfl rfl))
  case stop =>
    rintro D c pre W1 hD hpre ⟨⟨rfl, q, x, rfl, hokq, hlq, hor, hRs⟩, hB⟩ hK
    have HG := Lib.hid (got_stop HsL.out hpre hokq hlq hor)
    have hp := grownBy_putObj' W1 D (.deferred none)
    have HR2 := Lib.hid (hRs.stays hp (fun r e => by cases e; exact ⟨_, hK, rfl⟩))
    have HK := Lib.hid hK
    have HB := Lib.hid hB
    have HD := Lib.hid hD
    clear hpre hokq hlq hor hRs hB hK hD Hst hB0 bT bR hs0 hp
    gi_wp2
    refine ⟨by simp, .inl ⟨_, _, rfl, run_takeDeferred HK.out, ?_⟩⟩
    refine ⟨_, results_get _ _ g none 0 0 _ _ rfl rfl rfl HR2.out.l.cell HR2.out.a.cell HR2.out.e.cell, ?_⟩
    exact getR_no HG.out (by rw [hg]; exact HB.out.trans (belowK_b (w := W0) HgW.out _ D _ _ HD.out HK.out rfl rfl))
theorem get_r (s : ByteArray) (w : World) : Calls Tryz.prog 65 #[.string s] w (GetR s.toList w) := by
  by_cases h : 1496 < s.size
  · exact get_long s w h
  · exact callsIn_wide.1 (get_in s w (by omega))
end Go.Proofs.YtpppggicihfbgaaGreat.Opt
