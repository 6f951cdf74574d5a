/- Contracts of package option's read and finds: the iterator over a text's options. -/
import Derived.Test.YtbmifcfgpmgcpaaOptF
import Derived.RangeFuncNested
import Derived.RangeFuncBound
import Derived.RangeFuncCalls
import Derived.RangeFuncLeaves
import Derived.Shelf.Abstract
import Derived.Shelf.RegionOpen
import Derived.OwnWalkIn
import Derived.TacticsInMore
import Derived.LoopNIn
import Derived.LoopIn
namespace Go.Proofs.Ytbmifcfgpmgcpaa.Opt
open Go.RowKit Go.Shelf Go.Proofs.Ytbmifcfgpmgcpaa.Oct Go.Proofs.Ytbmifcfgpmgcpaa.Row Go.Proofs.Ytbmifcfgpmgcpaa.Mem
attribute [local go_sem] Oper.semAt_some

/-- An option, or what is wrong, in block g. -/
def FAt (W : World) (g : Nat) (o : Opt) (e : Nat) : Prop := Blk W g [.int .u8 o.1.toNat, .string o.2, .int .i64 (e : Nat)] 47
theorem fat_new (w : World) (o : Opt) (e : Nat) : FAt (w.alloc (.cells #[.int .u8 o.1.toNat, .string o.2, .int .i64 (e : Nat)] 47)) w.heap.size o e := blk_new w [.int .u8 o.1.toNat, .string o.2, .int .i64 (e : Nat)] _
theorem FAt.c0 {W : World} {g e : Nat} {o : Opt} (h : FAt W g o e) : W.cell? ⟨g, 0, none⟩ = some (.int .u8 o.1.toNat) := Blk.at_ h 0
theorem FAt.c1 {W : World} {g e : Nat} {o : Opt} (h : FAt W g o e) : W.cell? ⟨g, 1, none⟩ = some (.string o.2) := Blk.at_ h 1
theorem FAt.c2 {W : World} {g e : Nat} {o : Opt} (h : FAt W g o e) : W.cell? ⟨g, 2, none⟩ = some (.int .i64 (e : Nat)) := Blk.at_ h 2
theorem FAt.set {W : World} {g e : Nat} {o : Opt} (h : FAt W g o e) (o' : Opt) (e' : Nat) : FAt (((W.setCell ⟨g, 0, none⟩ (.int .u8 o'.1.toNat)).setCell ⟨g, 1, none⟩ (.string o'.2)).setCell ⟨g, 2, none⟩ (.int .i64 (e' : Nat))) g o' e' := ((Blk.set h 0 (.int .u8 o'.1.toNat)).set 1 (.string o'.2)).set 2 (.int .i64 (e' : Nat))

theorem rd_text (s : ByteArray) : (s.size < 2 ∧ rd s.toList = ((0, ByteArray.empty), 6)) ∨ (∃ h : 1 < s.size, s[1].toNat < 2 ∧ rd s.toList = ((0, ByteArray.empty), 7)) ∨ (∃ h : 1 < s.size, 2 ≤ s[1].toNat ∧ s.size < s[1].toNat ∧ rd s.toList = ((0, ByteArray.empty), 6)) ∨
    (∃ h : 1 < s.size, 2 ≤ s[1].toNat ∧ s[1].toNat ≤ s.size ∧ rd s.toList = ((s[0], s.extract 2 s[1].toNat), 0)) := by
  rcases rd_cases s.toList with ⟨e1, e⟩ | ⟨e1, e2, e⟩ | ⟨e1, e2, e3, e⟩ | ⟨e1, e2, e3, e, hz⟩
  · left; exact ⟨by rw [size_toList]; exact e1, e⟩
  all_goals
    have h1 : 1 < s.size := by rw [size_toList]; exact e1
    have hx : s.toList.getD 1 0 = s[1] := by have := getD_drop s.toList 0 1 (by rw [← size_toList]; exact h1); rw [List.drop_zero] at this; rw [this, getElem_toList]
    rw [hx] at e2
  · right; left; exact ⟨h1, e2, e⟩
  · right; right; left; rw [hx, ← size_toList] at e3; exact ⟨h1, e2, e3, e⟩
  · right; right; right
    rw [hx] at e3 e
    rw [← size_toList] at e3
    have h0 : s.toList.getD 0 0 = s[0] := by have := getD_drop s.toList 0 0 (by rw [← size_toList]; omega); rw [List.drop_zero] at this; rw [this, getElem_toList]
    rw [h0, ← extract_bOf] at e
    exact ⟨h1, e2, e3, e⟩

theorem laid_found (w : World) : ∃ W, w.alloc (.cells #[.int .u8 0, .string ⟨#[]⟩, .int .i64 0] 47) = W ∧ Hid (FAt W w.heap.size (0, ⟨#[]⟩) 0 ∧ Below w.heap.size w W) :=
  ⟨_, rfl, fat_new w (0, ⟨#[]⟩) 0, (Below.refl w.heap.size w).alloc (Nat.le_refl _) _⟩
theorem below_found {g : Nat} {w W : World} (h : Below g w W) (a b c : Value) : Below g w (((W.setCell ⟨g, 0, none⟩ a).setCell ⟨g, 1, none⟩ b).setCell ⟨g, 2, none⟩ c) :=
  ((h.setCell (p := ⟨g, 0, none⟩) (Nat.le_refl _) a).setCell (p := ⟨g, 1, none⟩) (Nat.le_refl _) b).setCell (p := ⟨g, 2, none⟩) (Nat.le_refl _) c
/-- What read answers. -/
def ReadQ (s : List UInt8) (w : World) (e : Ending) (w' : World) : Prop := e = .returned (.agg #[.int .u8 (rd s).1.1.toNat, .string (rd s).1.2, .int .i64 ((rd s).2 : Nat)]) ∧ Below w.heap.size w w'
theorem readQ_of {s : List UInt8} {o : Opt} {e : Nat} {w w' : World} (h : rd s = (o, e)) (hb : Below w.heap.size w w') : ReadQ s w (.returned (.agg #[.int .u8 o.1.toNat, .string o.2, .int .i64 (e : Nat)])) w' := by
  unfold ReadQ
  rw [h]
  exact ⟨rfl, hb⟩

set_option maxHeartbeats 2000000 in
set_option maxRecDepth 100000 in
theorem read_any (s : ByteArray) (w : World) (hs : s.size ≤ 1048576) :
    Calls Try.prog 26 #[.string s] w (ReadQ s.toList w) := by
  obtain ⟨W, hW, HW⟩ := laid_found w
  have f0 := Blk.frozen HW.out.1 0
  have f1 := Blk.frozen HW.out.1 1
  have f2 := Blk.frozen HW.out.1 2
  have c0 : W.cell? ⟨w.heap.size, 0, none⟩ = some (.int .u8 0) := HW.out.1.c0
  have c1 : W.cell? ⟨w.heap.size, 1, none⟩ = some (.string ⟨#[]⟩) := HW.out.1.c1
  have c2 : W.cell? ⟨w.heap.size, 2, none⟩ = some (.int .i64 0) := HW.out.1.c2
  rcases rd_text s with ⟨h1, hr⟩ | ⟨h1, h2, hr⟩ | ⟨h1, h2, h3, hr⟩ | ⟨h1, h2, h3, hr⟩
  · have HR := Lib.hid hr; clear hr
    have hx1 : (s.size : Int) < 2 := by omega
    go_enter Try.func26, Try.ntmps26
    go_wp2
    clear hW
    have HF := HW.out.1.set (0, ⟨#[]⟩) 6
    (try simp only [Exit.inBlock, Exit.then])
    refine bodyPost_ret (results_cell_row rfl _ _ w.heap.size _ _ _ _ rfl HF Try.underlying47 rfl (by kernel_rfl)) rfl ?_
    exact readQ_of HR.out (below_found HW.out.2 _ _ _)
  · have HR := Lib.hid hr; clear hr
    have hx1 : ¬ (s.size : Int) < 2 := by omega
    obtain ⟨x, hxe⟩ : ∃ x : Nat, s[1].toNat = x := ⟨_, rfl⟩
    rw [hxe] at h2
    have hx2 : (x : Int) < 2 := by omega
    go_enter Try.func26, Try.ntmps26
    go_wp2
    clear hW
    have HF := HW.out.1.set (0, ⟨#[]⟩) 7
    (try simp only [Exit.inBlock, Exit.then])
    refine bodyPost_ret (results_cell_row rfl _ _ w.heap.size _ _ _ _ rfl HF Try.underlying47 rfl (by kernel_rfl)) rfl ?_
    exact readQ_of HR.out (below_found HW.out.2 _ _ _)
  · have HR := Lib.hid hr; clear hr
    have hx1 : ¬ (s.size : Int) < 2 := by omega
    have hb0 := s[1].toNat_lt
    obtain ⟨x, hxe⟩ : ∃ x : Nat, s[1].toNat = x := ⟨_, rfl⟩
    rw [hxe] at h2 h3 hb0
    have hx0 : (0 : Int) ≤ x := by omega
    have hx3 : (x : Int) ≤ 255 := by omega
    have hx2 : ¬ (x : Int) < 2 := by omega
    have hx4 : (s.size : Int) < (x : Int) := by omega
    go_enter Try.func26, Try.ntmps26
    go_wp2
    clear hW
    have HF := HW.out.1.set (0, ⟨#[]⟩) 6
    (try simp only [Exit.inBlock, Exit.then])
    refine bodyPost_ret (results_cell_row rfl _ _ w.heap.size _ _ _ _ rfl HF Try.underlying47 rfl (by kernel_rfl)) rfl ?_
    exact readQ_of HR.out (below_found HW.out.2 _ _ _)
  · have hx1 : ¬ (s.size : Int) < 2 := by omega
    have hb0 := s[1].toNat_lt
    obtain ⟨x, hxe⟩ : ∃ x : Nat, s[1].toNat = x := ⟨_, rfl⟩
    obtain ⟨y, hye⟩ : ∃ y : UInt8, s[0] = y := ⟨_, rfl⟩
    rw [hxe] at h2 h3 hb0 hr
    obtain ⟨D, hD⟩ : ∃ D, s.extract 2 x = D := ⟨_, rfl⟩
    rw [hye, hD] at hr
    have HR := Lib.hid hr; clear hr
    have hx0 : (0 : Int) ≤ x := by omega
    have hx3 : (x : Int) ≤ 255 := by omega
    have hx2 : ¬ (x : Int) < 2 := by omega
    have hx4 : ¬ (s.size : Int) < (x : Int) := by omega
    have hx5 : (2 : Int) ≤ (x : Int) := by omega
    have hx6 : (x : Int) ≤ (s.size : Int) := by omega
    have hx7 : 0 < s.size := by omega
    go_enter Try.func26, Try.ntmps26
    go_wp2
    clear hW
    go_region
    go_wp2
    have HF := HW.out.1.set (y, D) 0
    (try simp only [Exit.inBlock, Exit.then])
    refine bodyPost_ret (results_cell_row rfl _ _ w.heap.size _ _ _ _ rfl HF.drew Try.underlying47 rfl (by kernel_rfl)) rfl ?_
    exact readQ_of HR.out (below_found HW.out.2.drew _ _ _)
end Go.Proofs.Ytbmifcfgpmgcpaa.Opt
