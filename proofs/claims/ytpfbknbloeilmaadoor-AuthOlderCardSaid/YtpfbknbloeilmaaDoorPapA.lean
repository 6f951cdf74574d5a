/- Contracts of pap's read, and of the closure in it. -/
import Derived.Test.YtpfbknbloeilmaaDoorPapPure
import Derived.Test.YtpfbknbloeilmaaDoorGCut
import Derived.Test.YtpfbknbloeilmaaDoorBlk
namespace Go.Proofs.YtpfbknbloeilmaaDoor.Pap
open Go.RowKit Go.Proofs.YtpfbknbloeilmaaDoor.Oct Go.Proofs.YtpfbknbloeilmaaDoor.Row Go.Proofs.YtpfbknbloeilmaaDoor.Mem

theorem Blk.other {w : World} {g g' i : Nat} {cs : List Value} {t : TypeId} (h : Blk w g cs t) (hne : g ≠ g') (v : Value) : Blk (w.setCell ⟨g', i, none⟩ v) g cs t :=
  (Below.heap_setCell _ _ _ _ hne).trans h

/-- In each of the blocks bs a text lies. -/
def Cells (W : World) (bs : List Nat) (xs : List ByteArray) : Prop := xs.length = bs.length ∧ ∀ (j b : Nat) (x : ByteArray), bs[j]? = some b → xs[j]? = some x → Blk W b [.string x] 9
theorem Cells.set {W : World} {bs : List Nat} {xs : List ByteArray} {k b : Nat} (h : Cells W bs xs) (hn : bs.Nodup) (hb : bs[k]? = some b) (u : ByteArray) : Cells (W.setCell ⟨b, 0, none⟩ (.string u)) bs (xs.set k u) := by
  refine ⟨by rw [List.length_set]; exact h.1, fun j c x hc hx => ?_⟩
  obtain ⟨hk, ek⟩ := List.getElem?_eq_some_iff.1 hb
  obtain ⟨hj, ej⟩ := List.getElem?_eq_some_iff.1 hc
  by_cases e : j = k
  · subst e
    rw [ek] at ej; subst ej
    rw [List.getElem?_set_self (by rw [h.1]; exact hk)] at hx
    cases hx
    have h1 := h.2 j b (xs[j]'(by rw [h.1]; exact hk)) hb (List.getElem?_eq_getElem _)
    exact Blk.set h1 0 (.string u)
  · rw [List.getElem?_set_ne (fun e' => e e'.symm)] at hx
    refine Blk.other (h.2 j c x hc hx) (fun e' => e ?_) _
    subst e'
    rw [← ek] at ej
    have hp := List.pairwise_iff_getElem.1 hn
    rcases Nat.lt_or_gt_of_ne e with hlt | hlt
    · exact absurd ej (hp j k hj hk hlt)
    · exact absurd ej.symm (hp k j hk hj hlt)
theorem Cells.other {W : World} {bs : List Nat} {xs : List ByteArray} {g : Nat} (h : Cells W bs xs) (hg : g ∉ bs) (v : Value) : Cells (W.setCell ⟨g, 0, none⟩ v) bs xs :=
  ⟨h.1, fun j b x hb hx => Blk.other (h.2 j b x hb hx) (fun e => hg (by rw [← e]; exact List.mem_of_getElem? hb)) v⟩
theorem Cells.drewN {W : World} {bs : List Nat} {xs : List ByteArray} (h : Cells W bs xs) (q : Nat) : Cells (W.drewN q) bs xs := h
theorem Cells.drew {W : World} {bs : List Nat} {xs : List ByteArray} (h : Cells W bs xs) : Cells W.drew bs xs := h
theorem Cells.alloc {W : World} {bs : List Nat} {xs : List ByteArray} (h : Cells W bs xs) (o : Obj) : Cells (W.alloc o) bs xs :=
  ⟨h.1, fun j b x hb hx => (h.2 j b x hb hx).alloc o⟩
theorem Cells.lt {W : World} {bs : List Nat} {xs : List ByteArray} (h : Cells W bs xs) {b : Nat} (hb : b ∈ bs) : b < W.heap.size := by
  obtain ⟨j, hj, e⟩ := List.getElem_of_mem hb
  exact (h.2 j b _ (by rw [List.getElem?_eq_getElem hj, e]) (List.getElem?_eq_getElem (by rw [h.1]; exact hj))).lt
theorem Cells.at_ {W : World} {bs : List Nat} {xs : List ByteArray} {k b : Nat} (h : Cells W bs xs) (hb : bs[k]? = some b) : ∃ x, xs[k]? = some x ∧ W.cell? ⟨b, 0, none⟩ = some (.string x) ∧ W.frozen? ⟨b, 0, none⟩ = false := by
  obtain ⟨hk, _⟩ := List.getElem?_eq_some_iff.1 hb
  have h1 := h.2 k b (xs[k]'(by rw [h.1]; exact hk)) hb (List.getElem?_eq_getElem _)
  exact ⟨_, List.getElem?_eq_getElem _, h1.at_ 0, h1.frozen 0⟩

/-- The row of pointers to these blocks. -/
def Ptrs (W : World) (ad : Addr) (bs : List Nat) : Prop := ad.block < W.heap.size ∧ ad.block ∉ bs ∧ ∀ (j b : Nat), bs[j]? = some b → W.cell? (ad.add j) = some (.pointer (some ⟨b, 0, none⟩))
theorem Ptrs.moves {W W' : World} {ad : Addr} {bs : List Nat} {S : Nat → Prop} (h : Ptrs W ad bs) (hm : Moves S W W') (hs : ¬ S ad.block) : Ptrs W' ad bs :=
  ⟨Nat.lt_of_lt_of_le h.1 hm.size, h.2.1, fun j b hb => (hm.cell (by rw [block_add]; exact h.1) (by rw [block_add]; exact hs)).trans (h.2.2 j b hb)⟩

/-- What the closure leaves. -/
def WrongP (w : World) (bs : List Nat) (d : ByteArray) (gD : Nat) (e : Ending) (w' : World) : Prop :=
  e = .returned (.int .i64 (rdE bs.length d.toList)) ∧ ∃ ys, Cells w' bs ys ∧ (rdE bs.length d.toList = 0 → ys = rdT bs.length d.toList) ∧ Moves (fun b => b ∈ bs ∨ b = gD) w w'

set_option maxHeartbeats 1000000 in
set_option maxRecDepth 100000 in
theorem wrong_any (bs : List Nat) (xs : List ByteArray) (d : ByteArray) (ad : Addr) (gT gD c : Nat) (w : World) (hl : bs.length ≤ 1000000) (hd : d.size ≤ maxLen)
    (hP : Ptrs w ad bs) (hT : Blk w gT [.slice (some ad) bs.length c] 135) (hD : Blk w gD [.string d] 9) (hX : Cells w bs xs) (hn : bs.Nodup) (hgT : gT ∉ bs) (hgD : gD ∉ bs) (hTD : gT ≠ gD) (hPD : ad.block ≠ gD) :
    Calls Tryd.prog 99 #[.pointer (some ⟨gT, 0, none⟩), .pointer (some ⟨gD, 0, none⟩)] w (WrongP w bs d gD) := by
  have Hd := Lib.hid hd
  have hT0 := hT.at_ 0
  have hTf := hT.frozen 0
  simp only [List.getElem?_cons_zero] at hT0
  have HP := Lib.hid hP
  have HX := Lib.hid hX
  have HD := Lib.hid hD
  have HN := Lib.hid hn
  have HgD := Lib.hid hgD
  have HPD := Lib.hid hPD
  clear hd hP hT hD hX hn hgT hgD hTD hPD
  generalize hm : bs.length = n at *
  go_enter Tryd.func99, Tryd.ntmps99
  go_wp2
  go_loopw [7] (fun i wr => ∃ (k : Nat) (ys : List ByteArray) (ts : List (List UInt8)) (r : List UInt8), k ≤ n ∧ i = .int .i64 k ∧ Hid (Part n d.toList k ts r ∧ ys.take k = ts.map bOf ∧ Cells wr bs ys ∧ Blk wr gD [.string (bOf r)] 9 ∧ Moves (fun b => b ∈ bs ∨ b = gD) w wr))
    (fun i _ => n - (intOf i).toNat)
  case atStart => exact ⟨0, xs, [], d.toList, Nat.zero_le _, rfl, Part.start n d.toList, rfl, HX.out, by rw [bOf_toList]; exact HD.out, Moves.refl _ _⟩
  case round =>
    obtain ⟨k, ys, ts, r, hk, rfl, HI⟩ := hrel
    have hD0 : wr.cell? ⟨gD, 0, none⟩ = some (.string (bOf r)) := HI.out.2.2.2.1.at_ 0
    have hDf : wr.frozen? ⟨gD, 0, none⟩ = false := HI.out.2.2.2.1.frozen 0
    have hz : (bOf r).size ≤ maxLen := by rw [size_bOf]; have := HI.out.1.2.1; rw [← size_toList] at this; exact Nat.le_trans this Hd.out
    have Hz := Lib.hid hz
    by_cases hlt : k < n
    · obtain ⟨b, hb⟩ : ∃ b, bs[k]? = some b := ⟨_, List.getElem?_eq_getElem (by omega)⟩
      have Hb := Lib.hid hb
      have hp : wr.cell? (ad.add k) = some (.pointer (some ⟨b, 0, none⟩)) := (HP.out.moves HI.out.2.2.2.2 (fun h => h.elim HP.out.2.1 HPD.out)).2.2 k b hb
      obtain ⟨x, hx, hc, hf⟩ := HI.out.2.2.1.at_ hb
      have hne : gD ≠ b := fun e => HgD.out (by rw [e]; exact List.mem_of_getElem? hb)
      have Hne := Lib.hid hne
      clear hb hx hne
      rcases hr : r8 r with _ | ⟨t, r'⟩
      · have Hr := Lib.hid (read_none (bOf r) (by rw [toList_bOf]; exact hr))
        have Hn := Lib.hid (rd_end (HI.out.1.bad hlt hr)); clear hr
        go_wp2_with fail
        refine (read8_any (bOf r) _ Hz.out).mono ?_
        rw [Hr.out.1, Hr.out.2.1, Hr.out.2.2]
        rintro e w1 ⟨rfl, q, rfl⟩
        have hD1 : ((wr.drewN q).setCell ⟨b, 0, none⟩ (.string (bOf []))).cell? ⟨gD, 0, none⟩ = some (.string (bOf r)) := (Blk.other (HI.out.2.2.2.1.drewN q) Hne.out _).at_ 0
        have hF1 : ((wr.drewN q).setCell ⟨b, 0, none⟩ (.string (bOf []))).frozen? ⟨gD, 0, none⟩ = false := (Blk.other (HI.out.2.2.2.1.drewN q) Hne.out _).frozen 0
        go_wp2
        go_ret
        unfold WrongP
        rw [hm, Hn.out.1]
        refine ⟨rfl, _, ((HI.out.2.2.1.drewN q).set HN.out Hb.out (bOf [])).other HgD.out _, fun h => absurd h (by decide), ?_⟩
        exact ((HI.out.2.2.2.2.drewN q).setCell _ (fun _ => .inl (List.mem_of_getElem? Hb.out)) _).setCell _ (fun _ => .inr rfl) _
      · have Hr := Lib.hid (read_some (bOf r) t r' (by rw [toList_bOf]; exact hr))
        have Hp := Lib.hid (HI.out.1.step hlt hr); clear hr
        go_wp2_with fail
        refine (read8_any (bOf r) _ Hz.out).mono ?_
        rw [Hr.out.1, Hr.out.2.1, Hr.out.2.2]
        rintro e w1 ⟨rfl, q, rfl⟩
        have hD1 : ((wr.drewN q).setCell ⟨b, 0, none⟩ (.string (bOf t))).cell? ⟨gD, 0, none⟩ = some (.string (bOf r)) := (Blk.other (HI.out.2.2.2.1.drewN q) Hne.out _).at_ 0
        have hF1 : ((wr.drewN q).setCell ⟨b, 0, none⟩ (.string (bOf t))).frozen? ⟨gD, 0, none⟩ = false := (Blk.other (HI.out.2.2.2.1.drewN q) Hne.out _).frozen 0
        go_wp2
        go_roundw
        case rel =>
          refine ⟨k + 1, ys.set k (bOf t), ts ++ [t], r', by omega, by go_num, Hp.out, ?_, ((HI.out.2.2.1.drewN q).set HN.out Hb.out (bOf t)).other HgD.out _, (Blk.other (HI.out.2.2.2.1.drewN q) Hne.out _).set 0 _, ?_⟩
          · have hk2 : k < ys.length := by rw [HI.out.2.2.1.1]; omega
            rw [List.take_succ_eq_append_getElem (by rw [List.length_set]; exact hk2), List.getElem_set_self, List.take_set_of_le (Nat.le_refl _), HI.out.2.1]
            simp
          · exact ((HI.out.2.2.2.2.drewN q).setCell _ (fun _ => .inl (List.mem_of_getElem? Hb.out)) _).setCell _ (fun _ => .inr rfl) _
        case measure => simp [intOf]; omega
    · obtain rfl : k = n := by omega
      have He := Lib.hid HI.out.1.ends
      have hys : ys = ts.map bOf := by rw [← HI.out.2.1, List.take_of_length_le (by rw [HI.out.2.2.1.1]; omega)]
      have Hys := Lib.hid hys; clear hys
      by_cases hr0 : r = []
      · subst hr0
        have h1 : ((bOf []).toList == ([] : List UInt8)) = true := by rw [toList_bOf]; rfl
        have h2 : (bOf []).toList.isEmpty = true := by rw [toList_bOf]; rfl
        have Ho := Lib.hid (rd_ok He.out)
        go_wp2
        go_ret
        unfold WrongP
        rw [hm, Ho.out.1, Ho.out.2]
        exact ⟨rfl, _, HI.out.2.2.1, fun _ => Hys.out, HI.out.2.2.2.2⟩
      · have h2 : (bOf r).toList.isEmpty = false := by
          rw [toList_bOf]
          cases r with
          | nil => exact absurd rfl hr0
          | cons => rfl
        have Ho := Lib.hid (rd_form He.out hr0); clear hr0
        go_wp2
        go_ret
        unfold WrongP
        rw [hm, Ho.out.1]
        exact ⟨rfl, _, HI.out.2.2.1, fun h => absurd h (by decide), HI.out.2.2.2.2⟩
end Go.Proofs.YtpfbknbloeilmaaDoor.Pap
