/- Put together: PktPure, RejPure, PktT, RejA, PktKn. -/
import Derived.Test.YtikcgcgbcolndaaGreatGPure
import Derived.Test.YtikcgcgbcolndaaGreatProg

/- Packets as lists of bytes. Plain mathematics, of no program. -/
namespace Go.Proofs.YtikcgcgbcolndaaGreat.Pkt
open Go.Proofs.YtikcgcgbcolndaaGreat.Oct

/-- How long a packet says that it is. -/
def plen (s : List UInt8) : Nat := val ((s.drop 2).take 2)
/-- What Get tells of bytes: the error, the code, the identifier, the data, the padding. -/
def gE (s : List UInt8) : Nat := if s.length < 4 then 6 else if plen s < 4 then 7 else if s.length < plen s then 6 else if 1500 < plen s then 5 else 0
def gC (s : List UInt8) : UInt8 := if gE s = 0 then s.getD 0 0 else 0
def gI (s : List UInt8) : UInt8 := if gE s = 0 then s.getD 1 0 else 0
def gD (s : List UInt8) : List UInt8 := if gE s = 0 then (s.take (plen s)).drop 4 else []
def gN (s : List UInt8) : Nat := if gE s = 0 then s.length - plen s else 0
/-- A packet's bytes. -/
def enc (c i : UInt8) (l : List UInt8) : List UInt8 := c :: i :: (numS (4 + l.length) 2 ++ l)
def pE (l : List UInt8) : Nat := if 1496 < l.length then 5 else 0
def pA (c i : UInt8) (l : List UInt8) : List UInt8 := if 1496 < l.length then [] else enc c i l

theorem enc_length (c i : UInt8) (l : List UInt8) : (enc c i l).length = l.length + 4 := by
  simp only [enc, List.length_cons, List.length_append, numS_length]; omega
theorem plen_enc (c i : UInt8) (l m : List UInt8) (h : l.length ≤ 1496) : plen (enc c i l ++ m) = l.length + 4 := by
  have e : ((enc c i l ++ m).drop 2).take 2 = numS (4 + l.length) 2 := by
    simp only [enc, List.cons_append, List.drop_succ_cons, List.drop_zero, List.append_assoc]
    rw [List.take_append_of_le_length (by rw [numS_length]; omega), List.take_of_length_le (by rw [numS_length]; omega)]
  unfold plen
  rw [e, val_numS]
  omega
theorem got_enc (c i : UInt8) (l m : List UInt8) (h : l.length ≤ 1496) :
    gE (enc c i l ++ m) = 0 ∧ gC (enc c i l ++ m) = c ∧ gI (enc c i l ++ m) = i ∧ gD (enc c i l ++ m) = l ∧ gN (enc c i l ++ m) = m.length := by
  have hp := plen_enc c i l m h
  have he := enc_length c i l
  have h0 : gE (enc c i l ++ m) = 0 := by
    unfold gE
    rw [hp, List.length_append, he, if_neg (by omega), if_neg (by omega), if_neg (by omega), if_neg (by omega)]
  refine ⟨h0, ?_, ?_, ?_, ?_⟩
  · unfold gC; rw [if_pos h0]; rfl
  · unfold gI; rw [if_pos h0]; rfl
  · unfold gD
    rw [if_pos h0, hp, List.take_append_of_le_length (by omega), List.take_of_length_le (by omega)]
    simp only [enc, numS_two, List.cons_append, List.nil_append, List.drop_succ_cons, List.drop_zero]
  · unfold gN; rw [if_pos h0, hp, List.length_append, he]; omega
theorem gE_ok {s : List UInt8} (h : gE s = 0) : 4 ≤ s.length ∧ 4 ≤ plen s ∧ plen s ≤ s.length ∧ plen s ≤ 1500 := by
  unfold gE at h
  repeat' split at h
  all_goals first | omega | cases h
theorem g_none {s : List UInt8} (h : gE s ≠ 0) : gC s = 0 ∧ gI s = 0 ∧ gD s = [] ∧ gN s = 0 := by simp [gC, gI, gD, gN, h]
theorem enc_got {s : List UInt8} (h : gE s = 0) : (gD s).length = plen s - 4 ∧ gN s = s.length - plen s ∧ enc (gC s) (gI s) (gD s) = s.take (plen s) := by
  obtain ⟨h1, h2, h3, h4⟩ := gE_ok h
  have hd : (gD s).length = plen s - 4 := by
    unfold gD; rw [if_pos h, List.length_drop, List.length_take]; omega
  refine ⟨hd, by unfold gN; rw [if_pos h], ?_⟩
  have hn : numS (4 + (gD s).length) 2 = (s.drop 2).take 2 := by
    rw [hd, show 4 + (plen s - 4) = plen s by omega]
    have := numS_val ((s.drop 2).take 2)
    rw [List.length_take, List.length_drop, show min 2 (s.length - 2) = 2 by omega] at this
    exact this
  match s, h1 with
  | a :: b :: x :: y :: r, _ =>
    unfold enc
    rw [hn]
    unfold gC gI gD
    rw [if_pos h, if_pos h, if_pos h]
    generalize plen (a :: b :: x :: y :: r) = n at *
    obtain ⟨k, rfl⟩ : ∃ k, n = k + 4 := ⟨n - 4, by omega⟩
    simp
theorem gE_cut (c i : UInt8) (l : List UInt8) (h : l.length ≤ 1496) (j : Nat) (hj : j < l.length + 4) : gE ((enc c i l).take j) = 6 := by
  have he := enc_length c i l
  have hl : ((enc c i l).take j).length = j := by rw [List.length_take]; omega
  unfold gE
  rw [hl]
  split
  · rfl
  · rename_i h4
    have hp : plen ((enc c i l).take j) = l.length + 4 := by
      have hq := plen_enc c i l [] h
      rw [List.append_nil] at hq
      rw [← hq]
      unfold plen
      congr 1
      rw [List.drop_take, List.take_take, show min 2 (j - 2) = 2 by omega]
    rw [hp, if_neg (by omega), if_pos (by omega)]
theorem enc_inj {c i d j : UInt8} {l m : List UInt8} : enc c i l = enc d j m ↔ c = d ∧ i = j ∧ l = m := by
  constructor
  · intro h
    have hl : l.length = m.length := by
      have := congrArg List.length h
      rw [enc_length, enc_length] at this
      omega
    unfold enc at h
    simp only [List.cons.injEq] at h
    refine ⟨h.1, h.2.1, ?_⟩
    have := h.2.2
    rw [hl] at this
    exact List.append_cancel_left this
  · rintro ⟨rfl, rfl, rfl⟩; rfl
/-- What is known. -/
def known (p c : Nat) : Bool := (p == 49185 && (decide (1 ≤ c) && decide (c ≤ 11))) || (p == 32801 && (decide (1 ≤ c) && decide (c ≤ 7)))
end Go.Proofs.YtikcgcgbcolndaaGreat.Pkt

/- Rejects as lists of bytes. Plain mathematics, of no program. -/
namespace Go.Proofs.YtikcgcgbcolndaaGreat.Rej
open Go.Proofs.YtikcgcgbcolndaaGreat.Oct Go.Proofs.YtikcgcgbcolndaaGreat.Pkt

/-- How much there is space for in a packet of at most m bytes. -/
def sp (m : Nat) : Nat := min (m - 4) 1496
theorem sp_le (m : Nat) : sp m ≤ 1496 := Nat.min_le_right _ _
theorem sp_small {m : Nat} (h : 64 ≤ m) : 60 ≤ sp m := by unfold sp; omega
/-- Texts one behind the other. -/
def cat (l : List ByteArray) : List UInt8 := (l.map ByteArray.toList).flatten
theorem cat_nil : cat [] = [] := rfl
theorem cat_one (s : ByteArray) : cat [s] = s.toList := by simp [cat]
theorem cat_two (s t : ByteArray) : cat [s, t] = s.toList ++ t.toList := by simp [cat]
theorem cat_snoc (l : List ByteArray) (s : ByteArray) : cat (l ++ [s]) = cat l ++ s.toList := by simp [cat]
theorem cat_more {l : List ByteArray} {k : Nat} {s : ByteArray} (h : l[k]? = some s) : cat (l.take (k + 1)) = cat (l.take k) ++ s.toList := by
  obtain ⟨hk, e⟩ := List.getElem?_eq_some_iff.1 h
  rw [List.take_succ_eq_append_getElem hk, e, cat_snoc]
/-- One text more, as far as there is space. -/
theorem take_more (a s : List UInt8) (m : Nat) : a.take m ++ s.take (m - (a.take m).length) = (a ++ s).take m := by
  rw [List.take_append, List.length_take]
  congr 2
  omega
end Go.Proofs.YtikcgcgbcolndaaGreat.Rej

/- Contract of package packet's Trim. -/
namespace Go.Proofs.YtikcgcgbcolndaaGreat.Pkt
open Go.RowKit Go.Proofs.YtikcgcgbcolndaaGreat.Oct Go.Proofs.YtikcgcgbcolndaaGreat.Row Go.Proofs.YtikcgcgbcolndaaGreat.Mem

/-- What Trim answers. -/
def tA (s : ByteArray) (n : Int) : ByteArray := if n < 0 then bOf [] else bOf (s.toList.take n.toNat)
def tE (n : Int) : Int := if n < 0 then 2 else 0
set_option maxHeartbeats 400000 in
set_option maxRecDepth 100000 in
theorem trim_any (s : ByteArray) (n : Int) (w : World) (hs : s.size ≤ maxLen) :
    Calls Tryz.prog 120 #[.string s, .int .i64 n] w fun e w' => e = .returned (.tuple #[.string (tA s n), .int .i64 (tE n)]) ∧ w = w' := by
  unfold maxLen at hs
  by_cases h0 : n < 0
  · have HA : Hid (tA s n = bOf [] ∧ tE n = 2) := by show _ ∧ _; simp [tA, tE, h0]
    rw [HA.out.1, HA.out.2]
    go_enter Tryz.func120, Tryz.ntmps120
    go_wp2
    go_ret2
    exact ⟨rfl, rfl⟩
  · have HA : Hid (tA s n = bOf (s.toList.take n.toNat) ∧ tE n = 0) := by show _ ∧ _; simp [tA, tE, h0]
    rw [HA.out.1, HA.out.2]
    by_cases h1 : n ≤ (s.size : Int)
    · have H1 := Lib.hid (extract_front s n.toNat)
      go_enter Tryz.func120, Tryz.ntmps120
      go_wp2
      go_ret2
      exact ⟨by rw [← H1.out]; rfl, rfl⟩
    · have H1 : Hid (s = bOf (s.toList.take n.toNat)) := by
        show _ = _
        rw [List.take_of_length_le (by rw [← size_toList]; omega), bOf_toList]
      go_enter Tryz.func120, Tryz.ntmps120
      go_wp2
      go_ret2
      exact ⟨by rw [← H1.out]; rfl, rfl⟩
end Go.Proofs.YtikcgcgbcolndaaGreat.Pkt

/- Contracts of package reject's isMru, and of the closure that cuts. -/
namespace Go.Proofs.YtikcgcgbcolndaaGreat.Rej
open Go.RowKit Go.Proofs.YtikcgcgbcolndaaGreat.Oct Go.Proofs.YtikcgcgbcolndaaGreat.Row Go.Proofs.YtikcgcgbcolndaaGreat.Mem Go.Proofs.YtikcgcgbcolndaaGreat.Pkt

/-- A Mru that may be. -/
def may (m : Int) : Bool := decide (64 ≤ m) && decide (m ≤ 65535)
set_option maxHeartbeats 400000 in
set_option maxRecDepth 100000 in
theorem mru_any (m : Int) (w : World) :
    Calls Tryz.prog 112 #[.int .i64 m] w fun e w' => e = .returned (.bool (may m)) ∧ w = w' := by
  unfold may
  go_enter Tryz.func112, Tryz.ntmps112
  go_wp2
  all_goals (go_ret; exact ⟨by first | (simp_all; done) | (simp_all; omega), rfl⟩)
theorem tA_nat (s : ByteArray) (k : Nat) : tA s k = bOf (s.toList.take k) ∧ tE k = 0 := by
  unfold tA tE
  rw [if_neg (by omega), if_neg (by omega)]
  exact ⟨rfl, rfl⟩
set_option maxHeartbeats 1000000 in
set_option maxRecDepth 100000 in
theorem cut_any (g k : Nat) (s : ByteArray) (w : World) (hk : k ≤ 65535) (hs : s.size ≤ maxLen) (hb : Boxed w g 3 (.int .i64 k)) :
    Calls Tryz.prog 119 #[.string s, .pointer (some ⟨g, 0, none⟩)] w fun e w' => e = .returned (.string (bOf (s.toList.take k))) ∧ Boxed w' g 3 (.int .i64 (k - (s.toList.take k).length : Nat)) ∧ Moves (fun j => j = g) w w' ∧ w'.heap.size = w.heap.size := by
  have T := Lib.hid (fun w => trim_any s k w hs)
  rw [(tA_nat s k).1, (tA_nat s k).2] at T
  have hz : (bOf (s.toList.take k)).size = (s.toList.take k).length := size_bOf _
  have hle : (s.toList.take k).length ≤ k := List.length_take_le _ _
  have c0 := hb.cell
  have f0 := hb.frozen
  have HB := Lib.hid hb
  clear hb
  generalize (s.toList.take k).length = j at *
  generalize bOf (s.toList.take k) = q at *
  go_enter Tryz.func119, Tryz.ntmps119
  go_wp2_with fail
  refine (T.out _).mono ?_
  rintro e w1 ⟨rfl, rfl⟩
  go_wp2
  go_ret
  have hv : (k : Int) - (j : Int) = ((k - j : Nat) : Int) := by omega
  rw [hv]
  exact ⟨rfl, Blk.set (cs := [_]) HB.out 0 (.int .i64 (k - j : Nat)), (Moves.refl (fun j => j = g) w).setCell ⟨g, 0, none⟩ (fun _ => rfl) _, by simp [World.setCell]⟩
end Go.Proofs.YtikcgcgbcolndaaGreat.Rej

/- PktKn: parted from XPktA.lean.tpl. -/
namespace Go.Proofs.YtikcgcgbcolndaaGreat.Pkt
open Go.RowKit Go.Proofs.YtikcgcgbcolndaaGreat.Oct Go.Proofs.YtikcgcgbcolndaaGreat.Row Go.Proofs.YtikcgcgbcolndaaGreat.Mem
theorem known_z (p c : Nat) : known p c = ((((p : Int) == 49185) && (decide ((1 : Int) ≤ c) && decide ((c : Int) ≤ 11))) || (((p : Int) == 32801) && (decide ((1 : Int) ≤ c) && decide ((c : Int) ≤ 7)))) := by
  unfold known
  rw [Bool.eq_iff_iff]; simp; omega
set_option maxHeartbeats 400000 in
set_option maxRecDepth 100000 in
theorem known_any (p c : Nat) (w : World) :
    Calls Tryz.prog 53 #[.int .u16 p, .int .u8 c] w fun e w' => e = .returned (.bool (known p c)) ∧ w = w' := by
  have H := Lib.hid (known_z p c)
  rw [H.out]
  go_enter Tryz.func53, Tryz.ntmps53
  go_wp2
  all_goals (go_ret; exact ⟨by first | (simp_all; done) | (simp_all; omega), rfl⟩)
end Go.Proofs.YtikcgcgbcolndaaGreat.Pkt
