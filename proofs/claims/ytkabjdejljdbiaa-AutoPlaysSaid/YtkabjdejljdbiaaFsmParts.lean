/- Contract of the document's parts: a text between bytes. -/
import Derived.Test.YtkabjdejljdbiaaFsmAct
import Derived.Test.YtkabjdejljdbiaaTxt
namespace Go.Proofs.Ytkabjdejljdbiaa.Fsm
open Go.RowKit Go.Proofs.Ytkabjdejljdbiaa.Oct Go.Proofs.Ytkabjdejljdbiaa.Row Go.Proofs.Ytkabjdejljdbiaa.Mem

/-- The pieces of bytes between b, the first one begun with cur. -/
def prt (b : UInt8) : List UInt8 → List UInt8 → List (List UInt8)
  | cur, [] => [cur]
  | cur, c :: r => if c = b then cur :: prt b [] r else prt b (cur ++ [c]) r
/-- The piece that has been begun at f is at i. -/
def cur (L : List UInt8) (f i : Nat) : List UInt8 := (L.drop f).take (i - f)
/-- The loop stands at i. -/
structure Pin (b : UInt8) (L : List UInt8) (f i : Nat) (D : List (List UInt8)) : Prop where
  le : f ≤ i
  few : D.length ≤ i
  end_ : i ≤ L.length + 1
  run : i ≤ L.length → prt b [] L = D ++ prt b (cur L f i) (L.drop i)
  done : i = L.length + 1 → D = prt b [] L
theorem Pin.start (b : UInt8) (L : List UInt8) : Pin b L 0 0 [] := ⟨Nat.le_refl _, Nat.le_refl _, Nat.zero_le _, fun _ => rfl, fun h => by omega⟩
theorem Pin.hit {b : UInt8} {L : List UInt8} {f i : Nat} {D : List (List UInt8)} (h : Pin b L f i D) (hi : i < L.length) (hb : L[i] = b) : Pin b L (i + 1) (i + 1) (D ++ [cur L f i]) := by
  refine ⟨Nat.le_refl _, by rw [List.length_append]; have := h.few; simp; omega, by omega, fun _ => ?_, fun e => by omega⟩
  rw [h.run (Nat.le_of_lt hi), List.drop_eq_getElem_cons hi, prt, if_pos hb, List.append_assoc]
  simp [cur]
theorem Pin.miss {b : UInt8} {L : List UInt8} {f i : Nat} {D : List (List UInt8)} (h : Pin b L f i D) (hi : i < L.length) (hb : L[i] ≠ b) : Pin b L f (i + 1) D := by
  refine ⟨by have := h.le; omega, by have := h.few; omega, by omega, fun _ => ?_, fun e => by omega⟩
  rw [h.run (Nat.le_of_lt hi), List.drop_eq_getElem_cons hi, prt, if_neg hb]
  congr 2
  unfold cur
  have := h.le
  rw [show i + 1 - f = (i - f) + 1 by omega, List.take_succ_eq_append_getElem (by rw [List.length_drop]; omega)]
  congr 2
  rw [List.getElem_drop]
  congr 1
  omega
theorem Pin.last {b : UInt8} {L : List UInt8} {f : Nat} {D : List (List UInt8)} (h : Pin b L f L.length D) : Pin b L (L.length + 1) (L.length + 1) (D ++ [cur L f L.length]) := by
  refine ⟨Nat.le_refl _, by rw [List.length_append]; have := h.few; simp; omega, Nat.le_refl _, fun e => by omega, fun _ => ?_⟩
  rw [h.run (Nat.le_refl _), List.drop_length]
  rfl
def pcs (s : ByteArray) (b : UInt8) : List ByteArray := (prt b [] s.toList).map bOf
/-- Pieces are handed back. -/
def Pieces (w : World) (l : List ByteArray) (e : Ending) (w' : World) : Prop := ∃ v, e = .returned v ∧ w'.ownsRow w.heap.size 9 1 v l.length (textsV l) ∧ Below w.heap.size w w'
def PinW (w wr : World) (b : UInt8) (s : ByteArray) (f i : Nat) (D : List (List UInt8)) (v : Value) : Prop :=
  Pin b s.toList f i D ∧ wr.ownsRow w.heap.size 9 1 v D.length (textsV (D.map bOf)) ∧ Below w.heap.size w wr

theorem info_str : (Try.prog.info? 9).map (fun i => (i.zero, i.size, i.bytes)) = some (some (.string ByteArray.empty), 1, 16) := by kernel_rfl
theorem pinW_add {w w2 : World} {b : UInt8} {s : ByteArray} {f i f' i' : Nat} {D : List (List UInt8)} {v : Value} (hp : Pin b s.toList f' i' (D ++ [cur s.toList f i])) (hown : w2.ownsRow w.heap.size 9 1 v (D.length + 1) (textsV (D.map bOf) ++ [.string (s.extract f i)])) (hb : Below w.heap.size w w2) : PinW w w2 b s f' i' (D ++ [cur s.toList f i]) v := by
  refine ⟨hp, ?_, hb⟩
  rw [extract_bOf] at hown
  rw [List.length_append, List.map_append, show textsV (D.map bOf ++ [cur s.toList f i].map bOf) = textsV (D.map bOf) ++ [.string (bOf ((s.toList.drop f).take (i - f)))] by simp [textsV, cur]]
  exact hown

set_option maxHeartbeats 2000000 in
theorem parts_any (s : ByteArray) (b : UInt8) (w : World) (hs : s.size ≤ 1000) : Calls Try.prog 35 #[.string s, .int .u8 b.toNat] w (Pieces w (pcs s b)) := by
  obtain ⟨i0, hi, hz0, hz1, hz2⟩ := info_parts info_str
  have hb1 : (0 : Int) ≤ (b.toNat : Int) := Int.natCast_nonneg _
  have hb2 : (b.toNat : Int) ≤ 255 := by have := b.toNat_lt; omega
  go_enter Try.func35, Try.ntmps35
  go_wp2
  go_loopw [5, 6, 7] (fun v x y wr => ∃ (f i : Nat) (D : List (List UInt8)), x = .int .i64 f ∧ y = .int .i64 i ∧ i ≤ s.size + 1 ∧ Hid (PinW w wr b s f i D v)) (fun _ _ y _ => 2000 - (intOf y).toNat)
  case atStart => exact ⟨0, 0, [], rfl, rfl, by omega, Pin.start _ _, World.ownsRow_nil _ _ _ _, Below.refl _ _⟩
  case round =>
    obtain ⟨f, i, D, rfl, rfl, hle, HF⟩ := hrel
    have hfi := HF.out.1.le
    have hfew := HF.out.1.few
    have hsize := HF.out.2.2.size
    by_cases hlt : i < s.size
    · have e1 : ((i : Int) == (s.size : Int)) = false := by rw [beq_eq_false_iff_ne]; omega
      have hll : i < s.toList.length := by rw [← size_toList]; exact hlt
      by_cases hc : s[i] = b
      · have e2 : (((s[i]'hlt).toNat : Int) == (b.toNat : Int)) = true := by rw [hc]; simp
        have HP := Lib.hid (HF.out.1.hit hll (by rw [← getElem_toList s i hlt]; exact hc))
        clear hc
        go_wp2_with (first
          | (at_builtin; refine wpList_append_own _ rfl _ _ 72 rfl w.heap.size 9 i0 (.string ByteArray.empty) 1 16 Try.underlying72 hi hz0 hz1 hz2 rfl (by decide) _ _ _ rfl (HF.out.2.1.alloc _) ⟨wr.heap.size, 0, none⟩ 1 1 [.string (s.extract f i)] rfl rfl (cell_one_new _ _ _) (fun x hx => by simp at hx; subst hx; rfl) (by unfold maxLen; omega) (by omega) (by simp; omega) ?_; intro v2 w2 hown2 hgr2 _; have Hown2 := Lib.hid hown2; clear hown2; have hb2 := (HF.out.2.2.alloc hsize (.cells #[.string (s.extract f i)] 9)).grown hgr2 (by simp; omega) (fun q hq => (HF.out.2.1.lt q hq).1)))
        have HT := Lib.hid (pinW_add HP.out Hown2.out hb2)
        go_roundw
        case rel => exact ⟨i + 1, i + 1, _, by go_num, by go_num, by omega, HT⟩
        case measure => simp [intOf]; omega
      · have e2 : (((s[i]'hlt).toNat : Int) == (b.toNat : Int)) = false := by
          rw [beq_eq_false_iff_ne]
          intro h
          exact hc (UInt8.toNat_inj.1 (by omega))
        have HP : Hid (PinW w wr b s f (i + 1) D u5) := ⟨HF.out.1.miss hll (by rw [← getElem_toList s i hlt]; exact hc), HF.out.2⟩
        clear hc
        go_wp2
        go_roundw
        case rel => exact ⟨f, i + 1, D, rfl, by go_num, by omega, HP⟩
        case measure => simp [intOf]; omega
    · by_cases hii : i = s.size
      · have e1 : ((i : Int) == (s.size : Int)) = true := by rw [hii]; simp
        have hil : i = s.toList.length := by rw [← size_toList]; exact hii
        have HP : Hid (Pin b s.toList (i + 1) (i + 1) (D ++ [cur s.toList f i])) := by
          have h := HF.out.1
          rw [hil] at h ⊢
          exact h.last
        have hi1 : i ≤ s.size := by omega
        clear hil hii hlt
        go_wp2_with (first
          | (at_builtin; refine wpList_append_own _ rfl _ _ 72 rfl w.heap.size 9 i0 (.string ByteArray.empty) 1 16 Try.underlying72 hi hz0 hz1 hz2 rfl (by decide) _ _ _ rfl (HF.out.2.1.alloc _) ⟨wr.heap.size, 0, none⟩ 1 1 [.string (s.extract f i)] rfl rfl (cell_one_new _ _ _) (fun x hx => by simp at hx; subst hx; rfl) (by unfold maxLen; omega) (by omega) (by simp; omega) ?_; intro v2 w2 hown2 hgr2 _; have Hown2 := Lib.hid hown2; clear hown2; have hb2 := (HF.out.2.2.alloc hsize (.cells #[.string (s.extract f i)] 9)).grown hgr2 (by simp; omega) (fun q hq => (HF.out.2.1.lt q hq).1)))
        have HT := Lib.hid (pinW_add HP.out Hown2.out hb2)
        go_roundw
        case rel => exact ⟨i + 1, i + 1, _, by go_num, by go_num, by omega, HT⟩
        case measure => simp [intOf]; omega
      · obtain rfl : i = s.size + 1 := by omega
        go_wp2
        go_ret
        have hd := HF.out.1.done (by rw [← size_toList])
        unfold Pieces pcs
        rw [← hd, List.length_map]
        exact ⟨_, rfl, HF.out.2.1, HF.out.2.2⟩
end Go.Proofs.Ytkabjdejljdbiaa.Fsm
