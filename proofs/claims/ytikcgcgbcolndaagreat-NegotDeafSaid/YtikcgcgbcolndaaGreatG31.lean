/- Put together: PktPure, RejPure, PktT, RejA, BldW, RejB, PktKn. -/
import Derived.Test.YtikcgcgbcolndaaGreatG24
import Derived.Test.YtikcgcgbcolndaaGreatProg
import Derived.Test.YtikcgcgbcolndaaGreatShelf
import Derived.Shelf.Strings.BuilderF
import Derived.WalkKit
import Derived.BigCall
import Derived.Laws.Externs

/- Packets as lists of bytes. Plain mathematics, of no program. -/
namespace Go.Proofs.YtikcgcgbcolndaaGreat.Pkt
open Go.Proofs.YtikcgcgbcolndaaGreat.Oct

/-- How long a packet says that it is. -/
def plen (s : List UInt8) : Nat := val ((s.drop 2).take 2)
/-- What Get tells of bytes: the error, the code, the identifier, the data, the padding. -/
def gE (s : List UInt8) : Nat := if s.length < 4 then 6 else if plen s < 4 then 7 else if s.length < plen s then 6 else if 1500 < plen s then 5 else 0
def gC (s : List UInt8) : UInt8 := if gE s = 0 then s.getD 0 0 else 0
def gI (s : List UInt8) : UInt8 := if gE s = 0 then s.getD 1 0 else 0
def gD (s : List UInt8) : List UInt8 := if gE s = 0 then (s.take (plen s)).drop 4 else []
def gN (s : List UInt8) : Nat := if gE s = 0 then s.length - plen s else 0
/-- A packet's bytes. -/
def enc (c i : UInt8) (l : List UInt8) : List UInt8 := c :: i :: (numS (4 + l.length) 2 ++ l)
def pE (l : List UInt8) : Nat := if 1496 < l.length then 5 else 0
def pA (c i : UInt8) (l : List UInt8) : List UInt8 := if 1496 < l.length then [] else enc c i l

theorem enc_length (c i : UInt8) (l : List UInt8) : (enc c i l).length = l.length + 4 := by
  simp only [enc, List.length_cons, List.length_append, numS_length]; omega
theorem plen_enc (c i : UInt8) (l m : List UInt8) (h : l.length ≤ 1496) : plen (enc c i l ++ m) = l.length + 4 := by
  have e : ((enc c i l ++ m).drop 2).take 2 = numS (4 + l.length) 2 := by
    simp only [enc, List.cons_append, List.drop_succ_cons, List.drop_zero, List.append_assoc]
    rw [List.take_append_of_le_length (by rw [numS_length]; omega), List.take_of_length_le (by rw [numS_length]; omega)]
  unfold plen
  rw [e, val_numS]
  omega
theorem got_enc (c i : UInt8) (l m : List UInt8) (h : l.length ≤ 1496) :
    gE (enc c i l ++ m) = 0 ∧ gC (enc c i l ++ m) = c ∧ gI (enc c i l ++ m) = i ∧ gD (enc c i l ++ m) = l ∧ gN (enc c i l ++ m) = m.length := by
  have hp := plen_enc c i l m h
  have he := enc_length c i l
  have h0 : gE (enc c i l ++ m) = 0 := by
    unfold gE
    rw [hp, List.length_append, he, if_neg (by omega), if_neg (by omega), if_neg (by omega), if_neg (by omega)]
  refine ⟨h0, ?_, ?_, ?_, ?_⟩
  · unfold gC; rw [if_pos h0]; rfl
  · unfold gI; rw [if_pos h0]; rfl
  · unfold gD
    rw [if_pos h0, hp, List.take_append_of_le_length (by omega), List.take_of_length_le (by omega)]
    simp only [enc, numS_two, List.cons_append, List.nil_append, List.drop_succ_cons, List.drop_zero]
  · unfold gN; rw [if_pos h0, hp, List.length_append, he]; omega
theorem gE_ok {s : List UInt8} (h : gE s = 0) : 4 ≤ s.length ∧ 4 ≤ plen s ∧ plen s ≤ s.length ∧ plen s ≤ 1500 := by
  unfold gE at h
  repeat' split at h
  all_goals first | omega | cases h
theorem g_none {s : List UInt8} (h : gE s ≠ 0) : gC s = 0 ∧ gI s = 0 ∧ gD s = [] ∧ gN s = 0 := by simp [gC, gI, gD, gN, h]
theorem enc_got {s : List UInt8} (h : gE s = 0) : (gD s).length = plen s - 4 ∧ gN s = s.length - plen s ∧ enc (gC s) (gI s) (gD s) = s.take (plen s) := by
  obtain ⟨h1, h2, h3, h4⟩ := gE_ok h
  have hd : (gD s).length = plen s - 4 := by
    unfold gD; rw [if_pos h, List.length_drop, List.length_take]; omega
  refine ⟨hd, by unfold gN; rw [if_pos h], ?_⟩
  have hn : numS (4 + (gD s).length) 2 = (s.drop 2).take 2 := by
    rw [hd, show 4 + (plen s - 4) = plen s by omega]
    have := numS_val ((s.drop 2).take 2)
    rw [List.length_take, List.length_drop, show min 2 (s.length - 2) = 2 by omega] at this
    exact this
  match s, h1 with
  | a :: b :: x :: y :: r, _ =>
    unfold enc
    rw [hn]
    unfold gC gI gD
    rw [if_pos h, if_pos h, if_pos h]
    generalize plen (a :: b :: x :: y :: r) = n at *
    obtain ⟨k, rfl⟩ : ∃ k, n = k + 4 := ⟨n - 4, by omega⟩
    simp
theorem gE_cut (c i : UInt8) (l : List UInt8) (h : l.length ≤ 1496) (j : Nat) (hj : j < l.length + 4) : gE ((enc c i l).take j) = 6 := by
  have he := enc_length c i l
  have hl : ((enc c i l).take j).length = j := by rw [List.length_take]; omega
  unfold gE
  rw [hl]
  split
  · rfl
  · rename_i h4
    have hp : plen ((enc c i l).take j) = l.length + 4 := by
      have hq := plen_enc c i l [] h
      rw [List.append_nil] at hq
      rw [← hq]
      unfold plen
      congr 1
      rw [List.drop_take, List.take_take, show min 2 (j - 2) = 2 by omega]
    rw [hp, if_neg (by omega), if_pos (by omega)]
theorem enc_inj {c i d j : UInt8} {l m : List UInt8} : enc c i l = enc d j m ↔ c = d ∧ i = j ∧ l = m := by
  constructor
  · intro h
    have hl : l.length = m.length := by
      have := congrArg List.length h
      rw [enc_length, enc_length] at this
      omega
    unfold enc at h
    simp only [List.cons.injEq] at h
    refine ⟨h.1, h.2.1, ?_⟩
    have := h.2.2
    rw [hl] at this
    exact List.append_cancel_left this
  · rintro ⟨rfl, rfl, rfl⟩; rfl
/-- What is known. -/
def known (p c : Nat) : Bool := (p == 49185 && (decide (1 ≤ c) && decide (c ≤ 11))) || (p == 32801 && (decide (1 ≤ c) && decide (c ≤ 7)))
end Go.Proofs.YtikcgcgbcolndaaGreat.Pkt

/- Rejects as lists of bytes. Plain mathematics, of no program. -/
namespace Go.Proofs.YtikcgcgbcolndaaGreat.Rej
open Go.Proofs.YtikcgcgbcolndaaGreat.Oct Go.Proofs.YtikcgcgbcolndaaGreat.Pkt

/-- How much there is space for in a packet of at most m bytes. -/
def sp (m : Nat) : Nat := min (m - 4) 1496
theorem sp_le (m : Nat) : sp m ≤ 1496 := Nat.min_le_right _ _
theorem sp_small {m : Nat} (h : 64 ≤ m) : 60 ≤ sp m := by unfold sp; omega
/-- Texts one behind the other. -/
def cat (l : List ByteArray) : List UInt8 := (l.map ByteArray.toList).flatten
theorem cat_nil : cat [] = [] := rfl
theorem cat_one (s : ByteArray) : cat [s] = s.toList := by simp [cat]
theorem cat_two (s t : ByteArray) : cat [s, t] = s.toList ++ t.toList := by simp [cat]
theorem cat_snoc (l : List ByteArray) (s : ByteArray) : cat (l ++ [s]) = cat l ++ s.toList := by simp [cat]
theorem cat_more {l : List ByteArray} {k : Nat} {s : ByteArray} (h : l[k]? = some s) : cat (l.take (k + 1)) = cat (l.take k) ++ s.toList := by
  obtain ⟨hk, e⟩ := List.getElem?_eq_some_iff.1 h
  rw [List.take_succ_eq_append_getElem hk, e, cat_snoc]
/-- One text more, as far as there is space. -/
theorem take_more (a s : List UInt8) (m : Nat) : a.take m ++ s.take (m - (a.take m).length) = (a ++ s).take m := by
  rw [List.take_append, List.length_take]
  congr 2
  omega
end Go.Proofs.YtikcgcgbcolndaaGreat.Rej

/- Contract of package packet's Trim. -/
namespace Go.Proofs.YtikcgcgbcolndaaGreat.Pkt
open Go.RowKit Go.Proofs.YtikcgcgbcolndaaGreat.Oct Go.Proofs.YtikcgcgbcolndaaGreat.Row Go.Proofs.YtikcgcgbcolndaaGreat.Mem

/-- What Trim answers. -/
def tA (s : ByteArray) (n : Int) : ByteArray := if n < 0 then bOf [] else bOf (s.toList.take n.toNat)
def tE (n : Int) : Int := if n < 0 then 2 else 0
set_option maxHeartbeats 400000 in
set_option maxRecDepth 100000 in
theorem trim_any (s : ByteArray) (n : Int) (w : World) (hs : s.size ≤ maxLen) :
    Calls Tryz.prog 120 #[.string s, .int .i64 n] w fun e w' => e = .returned (.tuple #[.string (tA s n), .int .i64 (tE n)]) ∧ w = w' := by
  unfold maxLen at hs
  by_cases h0 : n < 0
  · have HA : Hid (tA s n = bOf [] ∧ tE n = 2) := by show _ ∧ _; simp [tA, tE, h0]
    rw [HA.out.1, HA.out.2]
    go_enter Tryz.func120, Tryz.ntmps120
    go_wp2
    go_ret2
    exact ⟨rfl, rfl⟩
  · have HA : Hid (tA s n = bOf (s.toList.take n.toNat) ∧ tE n = 0) := by show _ ∧ _; simp [tA, tE, h0]
    rw [HA.out.1, HA.out.2]
    by_cases h1 : n ≤ (s.size : Int)
    · have H1 := Lib.hid (extract_front s n.toNat)
      go_enter Tryz.func120, Tryz.ntmps120
      go_wp2
      go_ret2
      exact ⟨by rw [← H1.out]; rfl, rfl⟩
    · have H1 : Hid (s = bOf (s.toList.take n.toNat)) := by
        show _ = _
        rw [List.take_of_length_le (by rw [← size_toList]; omega), bOf_toList]
      go_enter Tryz.func120, Tryz.ntmps120
      go_wp2
      go_ret2
      exact ⟨by rw [← H1.out]; rfl, rfl⟩
end Go.Proofs.YtikcgcgbcolndaaGreat.Pkt

/- Contracts of package reject's isMru, and of the closure that cuts. -/
namespace Go.Proofs.YtikcgcgbcolndaaGreat.Rej
open Go.RowKit Go.Proofs.YtikcgcgbcolndaaGreat.Oct Go.Proofs.YtikcgcgbcolndaaGreat.Row Go.Proofs.YtikcgcgbcolndaaGreat.Mem Go.Proofs.YtikcgcgbcolndaaGreat.Pkt

/-- A Mru that may be. -/
def may (m : Int) : Bool := decide (64 ≤ m) && decide (m ≤ 65535)
set_option maxHeartbeats 400000 in
set_option maxRecDepth 100000 in
theorem mru_any (m : Int) (w : World) :
    Calls Tryz.prog 112 #[.int .i64 m] w fun e w' => e = .returned (.bool (may m)) ∧ w = w' := by
  unfold may
  go_enter Tryz.func112, Tryz.ntmps112
  go_wp2
  all_goals (go_ret; exact ⟨by first | (simp_all; done) | (simp_all; omega), rfl⟩)
theorem tA_nat (s : ByteArray) (k : Nat) : tA s k = bOf (s.toList.take k) ∧ tE k = 0 := by
  unfold tA tE
  rw [if_neg (by omega), if_neg (by omega)]
  exact ⟨rfl, rfl⟩
set_option maxHeartbeats 1000000 in
set_option maxRecDepth 100000 in
theorem cut_any (g k : Nat) (s : ByteArray) (w : World) (hk : k ≤ 65535) (hs : s.size ≤ maxLen) (hb : Boxed w g 3 (.int .i64 k)) :
    Calls Tryz.prog 119 #[.string s, .pointer (some ⟨g, 0, none⟩)] w fun e w' => e = .returned (.string (bOf (s.toList.take k))) ∧ Boxed w' g 3 (.int .i64 (k - (s.toList.take k).length : Nat)) ∧ Moves (fun j => j = g) w w' ∧ w'.heap.size = w.heap.size := by
  have T := Lib.hid (fun w => trim_any s k w hs)
  rw [(tA_nat s k).1, (tA_nat s k).2] at T
  have hz : (bOf (s.toList.take k)).size = (s.toList.take k).length := size_bOf _
  have hle : (s.toList.take k).length ≤ k := List.length_take_le _ _
  have c0 := hb.cell
  have f0 := hb.frozen
  have HB := Lib.hid hb
  clear hb
  generalize (s.toList.take k).length = j at *
  generalize bOf (s.toList.take k) = q at *
  go_enter Tryz.func119, Tryz.ntmps119
  go_wp2_with fail
  refine (T.out _).mono ?_
  rintro e w1 ⟨rfl, rfl⟩
  go_wp2
  go_ret
  have hv : (k : Int) - (j : Int) = ((k - j : Nat) : Int) := by omega
  rw [hv]
  exact ⟨rfl, Blk.set (cs := [_]) HB.out 0 (.int .i64 (k - j : Nat)), (Moves.refl (fun j => j = g) w).setCell ⟨g, 0, none⟩ (fun _ => rfl) _, by simp [World.setCell]⟩
end Go.Proofs.YtikcgcgbcolndaaGreat.Rej

/- A strings.Builder of the call's own: its check, and what WriteString leaves, where the library's check is cut off at a copied builder. -/
namespace Go.Proofs.YtikcgcgbcolndaaGreat.Bld
open Go.RowKit Go.Proofs.YtikcgcgbcolndaaGreat.Oct Go.Proofs.YtikcgcgbcolndaaGreat.Row Go.Proofs.YtikcgcgbcolndaaGreat.Mem

/-- A builder in block b, its rows not below B, that holds the bytes l. -/
def Bld (w : World) (B b : Nat) (l : List UInt8) : Prop := Lib.IsBuilderF 218 5 B b (Lib.byteCells l) w
theorem bld_new (w : World) (B : Nat) (hB : B ≤ w.heap.size) : Bld (w.alloc (.cells #[.pointer none, .slice none 0 0] 218)) B w.heap.size [] :=
  Or.inl ⟨hB, .slice none 0 0, World.alloc_heap_new w _, World.ownsRowF_of (World.ownsRow_nil _ _ _ _), by simp [Value.ownBlock]⟩
/-- It stays where nothing turns but a block of another type. -/
theorem Bld.kept {w w' : World} {B b : Nat} {l : List UInt8} (h : Bld w B b l) {S : Nat → Prop} (hm : Moves S w w') (hb : ¬ S b) (hr : ∀ k, S k → ∀ c fz, w.heap[k]? ≠ some (.cells c 5 fz)) : Bld w' B b l := by
  have one : ∀ p, Lib.BuilderAtF 218 5 B b p (Lib.byteCells l) w → Lib.BuilderAtF 218 5 B b p (Lib.byteCells l) w' := by
    intro p hp
    have hlt := hp.lt
    obtain ⟨hB, v, hbk, hown, hne⟩ := hp
    refine ⟨hB, v, (hm.block b hlt hb).trans hbk, ⟨hown.1, ?_⟩, hne⟩
    rcases hown.2 with hn | ⟨g, cap, cur, fz, rfl, hBg, hg, rest⟩
    · exact .inl hn
    · exact .inr ⟨g, cap, cur, fz, rfl, hBg, (hm.block g (Array.getElem?_eq_some_iff.1 hg).1 (fun hs => hr g hs _ _ hg)).trans hg, rest⟩
  exact h.elim (fun x => .inl (one _ x)) (fun x => .inr (one _ x))
theorem Bld.lt {w : World} {B b : Nat} {l : List UInt8} (h : Bld w B b l) : b < w.heap.size := h.elim (fun x => x.lt) (fun x => x.lt)
theorem Bld.le {w : World} {B b : Nat} {l : List UInt8} (h : Bld w B b l) : B ≤ b := h.elim (fun x => x.1) (fun x => x.1)
theorem Bld.drewN {w : World} {B b : Nat} {l : List UInt8} (h : Bld w B b l) (k : Nat) : Bld (w.drewN k) B b l := h

set_option maxRecDepth 100000 in
theorem builder_size : ∃ j, Tryz.prog.info? 218 = some j ∧ j.size = 2 := Option.map_eq_some_iff.1 (show (Tryz.prog.info? 218).map (·.size) = some 2 by kernel_rfl)
set_option maxRecDepth 100000 in
theorem byte_info : ∃ i, Tryz.prog.info? 5 = some i ∧ i.zero = some (.int .u8 0) ∧ i.size = 1 ∧ i.bytes = 1 := by
  obtain ⟨i, hi, he⟩ := Option.map_eq_some_iff.1 (show (Tryz.prog.info? 5).map (fun i => (i.zero, i.size, i.bytes)) = some (some (.int .u8 0), 1, 1) by kernel_rfl)
  simp only [Prod.mk.injEq] at he
  exact ⟨i, hi, he⟩

set_option maxHeartbeats 1000000 in
set_option maxRecDepth 100000 in
theorem check_used (b : Nat) (w : World) (h0 : w.cell? ⟨b, 0, none⟩ = some (.pointer (some ⟨b, 0, none⟩))) :
    Calls Tryz.prog 123 #[.pointer (some ⟨b, 0, none⟩)] w fun e w' => e = .returned (.tuple #[]) ∧ w = w' := by
  obtain ⟨j, hj, _⟩ := builder_size
  go_enter Tryz.func123, Tryz.ntmps123
  go_wp2
  rw [Lib.run_neq_ptr_same w _ Tryz.underlying216 hj]
  go_wp2
  go_end0
  exact ⟨rfl, rfl⟩

set_option maxHeartbeats 1000000 in
set_option maxRecDepth 100000 in
theorem check_fresh (b : Nat) (w : World) (h0 : w.cell? ⟨b, 0, none⟩ = some (.pointer none)) (hsh : w.shape? b = some (218, 2)) (hfz : w.frozen? ⟨b, 0, none⟩ = false) :
    Calls Tryz.prog 123 #[.pointer (some ⟨b, 0, none⟩)] w fun e w' => e = .returned (.tuple #[]) ∧ w.setCell ⟨b, 0, none⟩ (.pointer (some ⟨b, 0, none⟩)) = w' := by
  obtain ⟨j, hj, hjs⟩ := builder_size
  go_enter Tryz.func123, Tryz.ntmps123
  go_wp2
  rw [Lib.run_to_unsafe w ⟨b, 0, none⟩ Tryz.underlying216 Tryz.underlying226 hj (by rw [hjs]; decide) hsh (Nat.zero_lt_succ 1)]
  go_wp2
  rw [run_callFunc_extern Tryz.func124 (by kernel_rfl) (by kernel_rfl) (by kernel_rfl) (e := Extern.AbiNoEscape.same) (by kernel_rfl), Lib.run_noEscape]
  go_wp2
  rw [Lib.run_from_unsafe w ⟨b, 0, none⟩ Tryz.underlying226 Tryz.underlying216 hj hsh (by kernel_rfl)]
  go_wp2
  go_end0
  exact ⟨rfl, rfl⟩

theorem check_any (B b : Nat) (l : List UInt8) (w : World) (h : Bld w B b l) :
    Calls Tryz.prog 123 #[.pointer (some ⟨b, 0, none⟩)] w fun e w' => e = .returned (.tuple #[]) ∧ Lib.BuilderAtF 218 5 B b (.pointer (some ⟨b, 0, none⟩)) (Lib.byteCells l) w' ∧ Below B w w' ∧ w'.heap.size = w.heap.size := by
  rcases h with h | h
  · refine (check_fresh b w h.cell0 h.shape h.frozen0).mono ?_
    rintro e w' ⟨rfl, rfl⟩
    exact ⟨rfl, h.used _, (Below.refl B w).setCell (p := ⟨b, 0, none⟩) h.1 _, by simp [World.setCell]⟩
  · refine (check_used b w h.cell0).mono ?_
    rintro e w' ⟨rfl, rfl⟩
    exact ⟨rfl, h, Below.refl B _, rfl⟩

set_option maxHeartbeats 2000000 in
set_option maxRecDepth 100000 in
theorem write_any (B b : Nat) (l : List UInt8) (s : ByteArray) (w : World) (h : Bld w B b l) (hz : l.length + s.size ≤ 140737488355328) :
    Calls Tryz.prog 121 #[.pointer (some ⟨b, 0, none⟩), .string s] w fun e w' => e = .returned (.tuple #[.int .i64 s.size, .nilIface]) ∧ Bld w' B b (l ++ s.toList) ∧ Below B w w' := by
  obtain ⟨i, hi, hz0, hz1, hz2⟩ := byte_info
  have HC := Lib.hid (check_any B b l w h)
  have hBw := Nat.le_trans h.le (Nat.le_of_lt h.lt)
  have hne : 218 ≠ 5 := by decide
  clear h
  go_enter Tryz.func121, Tryz.ntmps121
  go_wp2_with fail
  refine HC.out.mono ?_
  rintro e w1 ⟨rfl, h1, hb1, hsz⟩
  have hlt := h1.lt
  obtain ⟨hB, v, hbk, hown, hv⟩ := h1
  have c1 : w1.cell? ⟨b, 1, none⟩ = some v := by rw [Lib.cell_of_heap hbk]; rfl
  rw [Lib.byteCells_length] at hown
  go_wp2_with (at_builtin; refine Lib.wpList_append_own_stringF _ (by rfl) _ _ 26 9 (by rfl) B 5 i Tryz.underlying26 Tryz.underlying9 hi hz0 hz1 hz2 v l.length _ (by rfl) hown s (by rfl) (by unfold maxLen; omega) hz (by rw [hsz]; exact hBw) ?_)
  intro v' w2 hown' hgrow _
  have hb2 : w2.heap[b]? = some (.cells #[.pointer (some ⟨b, 0, none⟩), v] 218 (0, 0)) := (hgrow.block b hlt (fun e => hv e.symm)).trans hbk
  have f1 : w2.frozen? ⟨b, 1, none⟩ = false := Lib.frozen_of_heap hb2 1
  have d1 : w2.cell? ⟨b, 1, none⟩ = some v := by rw [Lib.cell_of_heap hb2]; rfl
  have hE := Lib.BuilderAtF.put (T := 218) (e := 5) (bs' := Lib.byteCells (l ++ s.toList)) (v' := v') hB hb2 (by
    rw [Lib.byteCells_length, Lib.byteCells_append, List.length_append, ← size_toList]
    rw [Lib.strCells_eq, ← ByteArray.toList_eq] at hown'
    exact hown') hne
  have HE := Lib.hid hE
  have HB : Hid (Below B w (w2.setCell ⟨b, 1, none⟩ v')) := (hb1.grown hgrow (by rw [hsz]; exact hBw) (fun k hk => (hown.lt k hk).1)).setCell (p := ⟨b, 1, none⟩) hB _
  obtain ⟨ao, n', cap, rfl⟩ : ∃ ao n' cap, v' = .slice ao n' cap := by
    rcases hown'.2 with ⟨hx, _⟩ | ⟨g, cap, cur, fz, hx, _⟩
    · exact ⟨_, _, _, hx⟩
    · exact ⟨_, _, _, hx⟩
  clear hE
  go_wp2
  go_ret2
  exact ⟨rfl, Or.inr HE.out, HB.out⟩

/-- What it tells at the end. -/
theorem string_any (B b : Nat) (l : List UInt8) (w : World) (h : Bld w B b l) :
    Calls Tryz.prog 122 #[.pointer (some ⟨b, 0, none⟩)] w fun e w' => e = .returned (.string (bOf l)) ∧ Below B w w' :=
  (Tryz.Builder_String_any_f B b l w h (Nat.le_trans h.le (Nat.le_of_lt h.lt))).mono fun _ _ ⟨he, _, hb⟩ => ⟨he, hb⟩
end Go.Proofs.YtikcgcgbcolndaaGreat.Bld

/- Contract of package reject's fill: texts are put together as far as there is space. -/
namespace Go.Proofs.YtikcgcgbcolndaaGreat.Rej
open Go.RowKit Go.Proofs.YtikcgcgbcolndaaGreat.Oct Go.Proofs.YtikcgcgbcolndaaGreat.Row Go.Proofs.YtikcgcgbcolndaaGreat.Mem Go.Proofs.YtikcgcgbcolndaaGreat.Pkt Go.Proofs.YtikcgcgbcolndaaGreat.Bld

/-- What is there ahead of the k-th text: the space that is left, the builder, and the texts. -/
def Fill (w wr : World) (g m k : Nat) (A : Option Addr) (n : Nat) (l : List ByteArray) : Prop :=
  Boxed wr g 3 (.int .i64 (sp m - ((cat (l.take k)).take (sp m)).length : Nat)) ∧ Bld wr (g + 1) (g + 1) ((cat (l.take k)).take (sp m)) ∧ Below g w wr ∧ Strs wr g A n l
theorem int_not_row {w : World} {g : Nat} {v : Value} (h : Boxed w g 3 v) : ∀ k, k = g → ∀ c fz, w.heap[k]? ≠ some (.cells c 5 fz) := by
  rintro k rfl c fz e
  have h' : w.heap[k]? = some (.cells #[v] 3 (0, 0)) := h
  rw [h'] at e
  simp at e
theorem fill_new (w : World) (m : Nat) (A : Option Addr) (n : Nat) (l : List ByteArray) (hl : Strs w w.heap.size A n l) :
    Fill w ((w.alloc (.cells #[.int .i64 (sp m : Nat)] 3)).alloc (.cells #[.pointer none, .slice none 0 0] 218)) w.heap.size m 0 A n l := by
  have h1 := (blk_new w [.int .i64 (sp m : Nat)] 3).alloc (.cells #[.pointer none, .slice none 0 0] 218)
  have h2 := bld_new (w.alloc (.cells #[.int .i64 (sp m : Nat)] 3)) (w.heap.size + 1) (by rw [World.size_alloc]; exact Nat.le_refl _)
  rw [World.size_alloc] at h2
  have hb : Below w.heap.size w ((w.alloc (.cells #[.int .i64 (sp m : Nat)] 3)).alloc (.cells #[.pointer none, .slice none 0 0] 218)) :=
    ((Below.refl w.heap.size w).alloc (Nat.le_refl _) _).alloc (by rw [World.size_alloc]; exact Nat.le_succ _) _
  have h0 : (cat (l.take 0)).take (sp m) = [] := by rw [List.take_zero, cat_nil, List.take_nil]
  unfold Fill
  rw [h0]
  exact ⟨h1, h2, hb, hl.below hb⟩

set_option maxHeartbeats 2000000 in
set_option maxRecDepth 100000 in
theorem fill_any (m : Nat) (A : Option Addr) (n c : Nat) (l : List ByteArray) (w : World) (hm0 : 64 ≤ m) (hm1 : m ≤ 65535) (hn : n ≤ maxLen) (hl : Strs w w.heap.size A n l) :
    Calls Tryz.prog 114 #[.int .i64 m, .slice A n c] w fun e w' => e = .returned (.string (bOf ((cat l).take (sp m)))) ∧ Below w.heap.size w w' := by
  have HN := Lib.hid (fill_new w m A n l hl)
  have Hl := Lib.hid hl.1
  clear hl
  have hmin : (min ((m : Int) - 4) 1496) = ((sp m : Nat) : Int) := by unfold sp; omega
  unfold maxLen at hn
  go_enter Tryz.func114, Tryz.ntmps114
  go_wp2
  generalize hg : w.heap.size = g at *
  have HG := Lib.hid hg
  clear hg
  go_loopw [16] (fun i wr => ∃ k : Nat, k ≤ n ∧ i = .int .i64 k ∧ Hid (Fill w wr g m k A n l)) (fun i _ => n - (intOf i).toNat)
  case atStart => exact ⟨0, Nat.zero_le _, rfl, HN⟩
  case round =>
    obtain ⟨k, hk, rfl, HF⟩ := hrel
    by_cases hlt : k < n
    · obtain ⟨ad, t, rfl, hB, ht, htl, hc⟩ := HF.out.2.2.2.at_ hlt
      have HC := Lib.hid (fun w => cut_any g (sp m - ((cat (l.take k)).take (sp m)).length) t w (by have := sp_le m; omega) htl)
      have HW := Lib.hid (fun w => write_any (g + 1) (g + 1) ((cat (l.take k)).take (sp m)) (bOf (t.toList.take (sp m - ((cat (l.take k)).take (sp m)).length))) w)
      have HX : Hid ((cat (l.take k)).take (sp m) ++ (bOf (t.toList.take (sp m - ((cat (l.take k)).take (sp m)).length))).toList = (cat (l.take (k + 1))).take (sp m)) := by
        show _ = _
        rw [toList_bOf, take_more, cat_more ht]
      have HZ : Hid (sp m - ((cat (l.take k)).take (sp m)).length - (t.toList.take (sp m - ((cat (l.take k)).take (sp m)).length)).length = sp m - ((cat (l.take (k + 1))).take (sp m)).length) := by
        show _ = _
        rw [← HX.out, toList_bOf, List.length_append]; omega
      have hz1 : ((cat (l.take k)).take (sp m)).length + (bOf (t.toList.take (sp m - ((cat (l.take k)).take (sp m)).length))).size ≤ 140737488355328 := by
        have h1 := List.length_take_le (sp m) (cat (l.take k))
        have h2 := List.length_take_le (sp m - ((cat (l.take k)).take (sp m)).length) t.toList
        have := sp_le m
        rw [size_bOf]; omega
      have Hz := Lib.hid hz1
      clear hz1 ht
      generalize bOf (t.toList.take (sp m - ((cat (l.take k)).take (sp m)).length)) = Y at *
      go_wp2_with fail
      refine (HC.out _ HF.out.1).mono ?_
      rintro e w1 ⟨rfl, hx1, hx2, hx3⟩
      have HD : Hid (Bld w1 (g + 1) (g + 1) ((cat (l.take k)).take (sp m))) := HF.out.2.1.kept hx2 (by omega) (int_not_row HF.out.1)
      have HG1 : Hid (Below g wr w1) := hx2.below (Nat.le_of_lt HF.out.1.lt) (fun k hk => by omega)
      have HB1 := Lib.hid hx1
      clear hx1 hx2 hx3
      go_wp2_with fail
      refine (HW.out _ HD.out Hz.out).mono ?_
      rintro e w2 ⟨rfl, hy1, hy2⟩
      have HF2 : Hid (Fill w w2 g m (k + 1) (some ad) n l) := by
        have hb := HG1.out.trans (hy2.mono (Nat.le_succ g))
        refine ⟨?_, ?_, HF.out.2.2.1.trans hb, HF.out.2.2.2.below hb⟩
        · rw [← HZ.out]; exact Blk.below (cs := [_]) HB1.out hy2 (Nat.lt_succ_self g)
        · rw [← HX.out]; exact hy1
      clear HX HZ HB1 HG1 HD HC HW Hz hy1 hy2
      go_wp2
      go_roundw
      case rel => exact ⟨k + 1, by omega, by go_num, HF2⟩
      case measure => simp [intOf]; omega
    · obtain rfl : k = n := by omega
      have HS := Lib.hid (string_any _ _ _ wr HF.out.2.1)
      rw [show l.take k = l from List.take_of_length_le (by rw [Hl.out]; exact Nat.le_refl _)] at HS
      go_wp2_with fail
      refine HS.out.mono ?_
      rintro e w1 ⟨rfl, hb⟩
      go_wp2
      go_ret
      exact ⟨rfl, by rw [HG.out]; exact HF.out.2.2.1.trans (hb.mono (Nat.le_succ _))⟩
end Go.Proofs.YtikcgcgbcolndaaGreat.Rej

/- PktKn: parted from XPktA.lean.tpl. -/
namespace Go.Proofs.YtikcgcgbcolndaaGreat.Pkt
open Go.RowKit Go.Proofs.YtikcgcgbcolndaaGreat.Oct Go.Proofs.YtikcgcgbcolndaaGreat.Row Go.Proofs.YtikcgcgbcolndaaGreat.Mem
theorem known_z (p c : Nat) : known p c = ((((p : Int) == 49185) && (decide ((1 : Int) ≤ c) && decide ((c : Int) ≤ 11))) || (((p : Int) == 32801) && (decide ((1 : Int) ≤ c) && decide ((c : Int) ≤ 7)))) := by
  unfold known
  rw [Bool.eq_iff_iff]; simp; omega
set_option maxHeartbeats 400000 in
set_option maxRecDepth 100000 in
theorem known_any (p c : Nat) (w : World) :
    Calls Tryz.prog 53 #[.int .u16 p, .int .u8 c] w fun e w' => e = .returned (.bool (known p c)) ∧ w = w' := by
  have H := Lib.hid (known_z p c)
  rw [H.out]
  go_enter Tryz.func53, Tryz.ntmps53
  go_wp2
  all_goals (go_ret; exact ⟨by first | (simp_all; done) | (simp_all; omega), rfl⟩)
end Go.Proofs.YtikcgcgbcolndaaGreat.Pkt
