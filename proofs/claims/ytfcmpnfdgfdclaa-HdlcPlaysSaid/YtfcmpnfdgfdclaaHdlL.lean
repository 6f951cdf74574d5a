/- What comes of frames; contracts of 'fits' and 'clean'. -/
import Derived.Test.YtfcmpnfdgfdclaaHdlK
namespace Go.Proofs.Ytfcmpnfdgfdclaa.Hdl
open Go.RowKit Go.Proofs.Ytfcmpnfdgfdclaa.Oct Go.Proofs.Ytfcmpnfdgfdclaa.Row Go.Proofs.Ytfcmpnfdgfdclaa.Esc Go.Proofs.Ytfcmpnfdgfdclaa.Fcs

theorem esc_last (a : Nat) (b : UInt8) : ∃ x, (esc a b).getLast? = some x ∧ x ≠ 125 := by
  cases h : hidden a b
  · rw [esc_no h]; exact ⟨b, rfl, (hidden_no h).1⟩
  · rw [esc_yes h]
    refine ⟨flip b, rfl, ?_⟩
    rcases hidden_yes h with rfl | rfl | hm
    · decide
    · decide
    · intro e
      have h1 := mapped_low hm
      have h2 : b = flip 125 := by rw [← e, Esc.flip_flip]
      rw [h2] at h1
      exact absurd h1 (by decide)
theorem put_last (a : Nat) (l : List UInt8) : (put a l).getLast? ≠ some 125 := by
  rcases List.eq_nil_or_concat l with rfl | ⟨i, b, rfl⟩
  · simp [put]
  · rw [List.concat_eq_append, put_snoc, List.getLast?_append]
    obtain ⟨x, hx, hne⟩ := esc_last a b
    rw [hx]
    simpa using hne
/-- Bytes that are neither flags nor mapped make a piece. -/
theorem feeds_piece {r : St} (hb : r.begun = true) : ∀ (l : List UInt8), (∀ x ∈ l, x ≠ 126 ∧ mapped r.accm x = false) → feeds r l = { r with piece := r.piece ++ l } ∧ outs r l = [] := by
  intro l
  induction l generalizing r with
  | nil => intro _; exact ⟨by rw [feeds_nil, List.append_nil], rfl⟩
  | cons b l ih =>
    intro h
    have h1 := h b (by simp)
    have h2 := ih (r := r.adds b) hb (fun x hx => h x (by simp [hx]))
    rw [feeds_cons, outs_cons, feed_takes h1.1 hb h1.2, gives_takes h1.1, h2.1, h2.2]
    exact ⟨by simp [St.adds], rfl⟩
/-- What an information is, sealed and escaped. -/
theorem kind_frame (m a : Nat) (l : List UInt8) : kind m (put a (seal_ l)) = if m < l.length then 2 else if l.length < 2 then 3 else 0 := by
  unfold kind
  rw [if_neg (put_last a _), grun_put, good_seal, seal_length]
  by_cases h1 : m < l.length
  · rw [if_pos (by omega), if_pos h1]
  · rw [if_neg (by omega), if_neg h1]
    by_cases h2 : l.length < 2
    · rw [if_pos (by omega), if_pos h2]
    · rw [if_neg (by omega), if_neg h2, if_pos rfl]
theorem info_frame (a : Nat) (l : List UInt8) : infoOf (put a (seal_ l)) = l := by
  unfold infoOf
  rw [grun_put]
  dsimp only
  rw [seal_length, show l.length + 2 - 2 = l.length by omega]
  unfold seal_
  rw [List.take_left]
theorem put_ne (a : Nat) (l : List UInt8) : put a (seal_ l) ≠ [] := by
  intro h
  have := (put_le a (seal_ l)).1
  rw [h, seal_length] at this
  simp at this
/-- A frame without its first flag, where a flag has come. -/
theorem frame_tail {r : St} (hb : r.begun = true) (hp : r.piece = []) (l : List UInt8) :
    feeds r (put r.accm (seal_ l) ++ [126]) = (r.bump (if r.most < l.length then 2 else if l.length < 2 then 3 else 0)).ends ∧
    outs r (put r.accm (seal_ l) ++ [126]) = if r.most < l.length then [] else if l.length < 2 then [] else [bOf l] := by
  have h := feeds_piece hb (put r.accm (seal_ l)) (fun x hx => put_clean _ _ x hx)
  rw [feeds_snoc, outs_snoc, h.1, h.2, hp, List.nil_append, List.nil_append]
  have hne : ({ r with piece := put r.accm (seal_ l) } : St).piece ≠ [] := put_ne _ _
  rw [feed_some hne]
  have hk := kind_frame r.most r.accm l
  constructor
  · show (St.bump _ (kind r.most (put r.accm (seal_ l)))).ends = _
    rw [hk, bump_ends, bump_ends]
    rfl
  · by_cases h1 : r.most < l.length
    · rw [if_pos h1, gives_bad]
      show kind r.most (put r.accm (seal_ l)) ≠ 0
      rw [hk, if_pos h1]; omega
    · by_cases h2 : l.length < 2
      · rw [if_neg h1, if_pos h2, gives_bad]
        show kind r.most (put r.accm (seal_ l)) ≠ 0
        rw [hk, if_neg h1, if_pos h2]; omega
      · rw [if_neg h1, if_neg h2, gives_good hne]
        · show [bOf (infoOf (put r.accm (seal_ l)))] = _
          rw [info_frame]
        · show kind r.most (put r.accm (seal_ l)) = 0
          rw [hk, if_neg h1, if_neg h2]
theorem frame_whole {r : St} (hp : r.piece = []) (l : List UInt8) :
    feeds r (126 :: (put r.accm (seal_ l) ++ [126])) = (r.bump (if r.most < l.length then 2 else if l.length < 2 then 3 else 0)).ends ∧
    outs r (126 :: (put r.accm (seal_ l) ++ [126])) = if r.most < l.length then [] else if l.length < 2 then [] else [bOf l] := by
  rw [feeds_cons, outs_cons, (feed_none hp).1, (feed_none hp).2, List.nil_append]
  have h := frame_tail (r := r.ends) rfl rfl l
  refine ⟨h.1.trans ?_, h.2⟩
  rw [bump_ends, bump_ends]
  rfl
/-- Bytes ahead of the first flag. -/
theorem feeds_ahead {r : St} (hb : r.begun = false) : ∀ (l : List UInt8), (∀ x ∈ l, x ≠ 126) → feeds r l = r ∧ outs r l = [] := by
  intro l
  induction l with
  | nil => intro _; exact ⟨rfl, rfl⟩
  | cons b l ih =>
    intro h
    have h1 := h b (by simp)
    have h2 := ih (fun x hx => h x (by simp [hx]))
    rw [feeds_cons, outs_cons, feed_lets h1 (.inl hb), gives_takes h1, h2.1, h2.2]
    exact ⟨rfl, rfl⟩
theorem mapped_ne {a : Nat} {b : UInt8} (h : mapped a b = true) : b ≠ 126 := by
  rintro rfl
  have := mapped_low h
  exact absurd this (by decide)
/-- A mapped byte does nothing. -/
theorem feed_mapped {r : St} {b : UInt8} (h : mapped r.accm b = true) : feed r b = r ∧ gives r b = [] := ⟨feed_lets (mapped_ne h) (.inr h), gives_takes (mapped_ne h)⟩

/-- So many frames were received, and nothing else. -/
def Got (r0 : St) (a k : Nat) (l : List UInt8) (o : List ByteArray) : Prop :=
  (feeds r0 l).piece = [] ∧ (feeds r0 l).c0 = k ∧ (feeds r0 l).c1 = 0 ∧ (feeds r0 l).c2 = 0 ∧ (feeds r0 l).c3 = 0 ∧ (feeds r0 l).c4 = 0 ∧ (feeds r0 l).most = 1508 ∧ (feeds r0 l).accm = a ∧ (0 < k → (feeds r0 l).begun = true) ∧ outs r0 l = o
theorem got_start (a : Nat) (l : List UInt8) (h : ∀ x ∈ l, x ≠ 126) : Got (fresh 1508 a) a 0 l [] := by
  have h1 := feeds_ahead (r := fresh 1508 a) rfl l h
  unfold Got
  rw [h1.1, h1.2]
  exact ⟨rfl, rfl, rfl, rfl, rfl, rfl, rfl, rfl, fun h => absurd h (Nat.lt_irrefl _), rfl⟩
theorem got_whole {r0 : St} {a k : Nat} {l : List UInt8} {o : List ByteArray} (h : Got r0 a k l o) (t : ByteArray) (h1 : 2 ≤ t.size) (h2 : t.size ≤ 1508) : Got r0 a (k + 1) (l ++ (126 :: (put a (seal_ t.toList) ++ [126]))) (o ++ [t]) := by
  obtain ⟨g1, g2, g3, g4, g5, g6, g7, g8, _, g10⟩ := h
  have hl := size_toList t
  have hf := frame_whole g1 t.toList
  rw [g8, g7, if_neg (by omega), if_neg (by omega), if_neg (by omega), if_neg (by omega), bOf_toList] at hf
  unfold Got
  rw [feeds_append, outs_append, hf.1, hf.2, g10]
  exact ⟨rfl, by show (feeds r0 l).c0 + 1 = _; rw [g2], g3, g4, g5, g6, g7, g8, fun _ => rfl, rfl⟩
theorem got_tail {r0 : St} {a k : Nat} {l : List UInt8} {o : List ByteArray} (h : Got r0 a k l o) (hk : 0 < k) (t : ByteArray) (h1 : 2 ≤ t.size) (h2 : t.size ≤ 1508) : Got r0 a (k + 1) (l ++ (put a (seal_ t.toList) ++ [126])) (o ++ [t]) := by
  obtain ⟨g1, g2, g3, g4, g5, g6, g7, g8, g9, g10⟩ := h
  have hl := size_toList t
  have hf := frame_tail (g9 hk) g1 t.toList
  rw [g8, g7, if_neg (by omega), if_neg (by omega), if_neg (by omega), if_neg (by omega), bOf_toList] at hf
  unfold Got
  rw [feeds_append, outs_append, hf.1, hf.2, g10]
  exact ⟨rfl, by show (feeds r0 l).c0 + 1 = _; rw [g2], g3, g4, g5, g6, g7, g8, fun _ => rfl, rfl⟩

/-- How many bytes the texts have. -/
def total (l : List ByteArray) : Nat := (l.map ByteArray.size).sum
theorem total_snoc (l : List ByteArray) (t : ByteArray) : total (l ++ [t]) = total l + t.size := by simp [total]
def Fits (l : List ByteArray) : Prop := l.length ≤ 60 ∧ total l ≤ 4096 ∧ ∀ t ∈ l, 2 ≤ t.size ∧ t.size ≤ 1508
def FitsP (l : List ByteArray) (w : World) (e : Ending) (w' : World) : Prop := ∃ b : Bool, e = .returned (.bool b) ∧ (b = true → Fits l) ∧ w = w'
theorem fits_false (l : List ByteArray) (w : World) : FitsP l w (.returned (.bool false)) w := ⟨false, rfl, (fun h => by cases h), rfl⟩
def AllOk (l : List ByteArray) : Prop := ∀ t ∈ l, 2 ≤ t.size ∧ t.size ≤ 1508
theorem allOk_snoc {l : List ByteArray} {t : ByteArray} (h : AllOk l) (h1 : 2 ≤ t.size) (h2 : t.size ≤ 1508) : AllOk (l ++ [t]) := by
  intro u hu
  rcases List.mem_append.1 hu with hu | hu
  · exact h u hu
  · rw [List.mem_singleton.1 hu]; exact ⟨h1, h2⟩
theorem total_le {l : List ByteArray} (h : AllOk l) : total l ≤ 1508 * l.length := by
  induction l with
  | nil => simp [total]
  | cons t l ih =>
    have h1 := ih (fun u hu => h u (by simp [hu]))
    have h2 := h t (by simp)
    simp [total] at h1 ⊢
    omega
theorem take_next {l : List ByteArray} {k : Nat} {t : ByteArray} (h : l[k]? = some t) : l.take (k + 1) = l.take k ++ [t] := by
  obtain ⟨hk, e⟩ := List.getElem?_eq_some_iff.1 h
  rw [List.take_succ_eq_append_getElem hk, e]

set_option maxHeartbeats 1000000 in
set_option maxRecDepth 100000 in
theorem fits_any (A : Option Addr) (n c : Nat) (l : List ByteArray) (w : World) (hl : Strs w w.heap.size A n l) (hn : n ≤ maxLen) :
    Calls Try.prog 20 #[.slice A n c, .int .i64 1508] w (FitsP l w) := by
  have Hl := Lib.hid hl; clear hl
  unfold maxLen at hn
  go_enter Try.func20, Try.ntmps20
  go_wp2
  go_loop [5, 6] (fun q i => ∃ k t : Nat, k ≤ n ∧ k ≤ 100 ∧ i = .int .i64 k ∧ q = .int .i64 t ∧ t ≤ 1508 * k ∧ Hid (t = total (l.take k) ∧ AllOk (l.take k))) (fun _ i => n - (intOf i).toNat)
  case atStart => exact ⟨0, 0, Nat.zero_le _, by omega, rfl, rfl, Nat.zero_le _, rfl, fun u hu => by simp at hu⟩
  case round =>
    obtain ⟨k, t, hk, hk1, rfl, rfl, ht, HA⟩ := hrel
    by_cases hlt : k < n
    · by_cases hlt2 : k < 100
      · obtain ⟨ad, u, rfl, hB, hu, hul, hc⟩ := Hl.out.at_ hlt
        have HN := Lib.hid (take_next hu); clear hu
        unfold maxLen at hul
        by_cases h1 : (u.size : Int) < 2
        · go_wp2
          go_ret
          exact fits_false _ _
        · by_cases h2 : 1508 < (u.size : Int)
          · go_wp2
            go_ret
            exact fits_false _ _
          · have HT2 : Hid (t + u.size = total (l.take (k + 1)) ∧ AllOk (l.take (k + 1))) := by
              show _ ∧ _
              rw [HN.out, total_snoc, ← HA.out.1]
              exact ⟨rfl, allOk_snoc HA.out.2 (by omega) (by omega)⟩
            go_wp2
            go_round
            case rel => exact ⟨k + 1, t + u.size, by omega, by omega, by go_num, by go_num, by omega, HT2⟩
            case measure => simp [intOf]; omega
      · have h60 : decide ((n : Int) ≤ 60) = false := decide_eq_false (by omega)
        have hd1 : decide ((k : Int) < 100) = false := decide_eq_false (by omega)
        go_wp2
        go_ret
        exact fits_false _ _
    · obtain rfl : k = n := by omega
      have hll : l.take k = l := List.take_of_length_le (by rw [Hl.out.1]; exact Nat.le_refl _)
      rw [hll] at HA
      by_cases h60 : (k : Int) ≤ 60
      · by_cases h4 : (t : Int) < 4096
        · go_wp2
          go_ret
          exact ⟨true, rfl, fun _ => ⟨by rw [Hl.out.1]; omega, by rw [← HA.out.1]; omega, HA.out.2⟩, rfl⟩
        · have hd : decide ((t : Int) < 4096) = false := decide_eq_false h4
          go_wp2
          go_ret
          exact fits_false _ _
      · have hd : decide ((k : Int) ≤ 60) = false := decide_eq_false h60
        go_wp2
        go_ret
        exact fits_false _ _

/-- A text without flags. -/
def cleaned (l : List UInt8) : List UInt8 := l.filter fun b => b != 126
theorem cleaned_snoc (l : List UInt8) (b : UInt8) : cleaned (l ++ [b]) = cleaned l ++ if b = 126 then [] else [b] := by
  unfold cleaned
  rw [List.filter_append]
  by_cases h : b = 126 <;> simp [h]
theorem cleaned_ne (l : List UInt8) : ∀ x ∈ cleaned l, x ≠ 126 := by
  intro x hx
  have := (List.mem_filter.1 hx).2
  simpa using this
theorem cleaned_le (l : List UInt8) : (cleaned l).length ≤ l.length := List.length_filter_le _ _
set_option maxHeartbeats 1000000 in
set_option maxRecDepth 100000 in
theorem clean_any (s : ByteArray) (w : World) (hs : s.size ≤ 1048576) :
    Calls Try.prog 21 #[.string s] w fun e w' => e = .returned (.string (bOf (cleaned s.toList))) ∧ Below w.heap.size w w' := by
  obtain ⟨i0, hi, hz0, hz1, hz2⟩ := info_parts Try.info5
  go_enter Try.func21, Try.ntmps21
  go_wp2
  go_loopw [3, 4] (fun v i wr => ∃ k : Nat, k ≤ s.size ∧ i = .int .i64 k ∧ Hid (wr.ownsRow w.heap.size 5 1 v (cleaned (s.toList.take k)).length (bytesV (cleaned (s.toList.take k)))) ∧ Below w.heap.size w wr)
    (fun _ i _ => s.size - (intOf i).toNat)
  case atStart => exact ⟨0, Nat.zero_le _, rfl, World.ownsRow_nil _ _ _ _, Below.refl _ _⟩
  case round =>
    obtain ⟨k, hk, rfl, Hown, hb⟩ := hrel
    have hsize := hb.size
    by_cases hlt : k < s.size
    · have hpl : (cleaned (s.toList.take k)).length ≤ 1048576 := by have h1 := cleaned_le (s.toList.take k); rw [List.length_take] at h1; omega
      have HS : Hid (cleaned (s.toList.take (k + 1)) = cleaned (s.toList.take k) ++ if s[k] = 126 then [] else [s[k]]) := by show _ = _; rw [at_take s k hlt, cleaned_snoc]
      generalize cleaned (s.toList.take k) = P at *
      obtain ⟨x, hsx⟩ : ∃ x, s[k] = x := ⟨_, rfl⟩
      rw [hsx] at HS
      by_cases hx : x = 126
      · have e126 : ((x.toNat : Int) != 126) = false := by rw [hx]; rfl
        rw [if_pos hx, List.append_nil] at HS
        clear hx
        go_wp2
        go_roundw
        case rel => exact ⟨k + 1, by omega, by go_num, by rw [HS.out]; exact Hown.out, hb⟩
        case measure => simp [intOf]; omega
      · have e126 : ((x.toNat : Int) != 126) = true := no_int' x 126 (by omega) hx
        rw [if_neg hx] at HS
        clear hx
        go_wp2_with (at_builtin; refine wpList_append_own _ rfl _ _ 46 rfl w.heap.size 5 i0 (.int .u8 0) 1 1 Try.underlying46 hi hz0 hz1 hz2 rfl (by decide) _ _ _ rfl (Hown.out.alloc _) ⟨wr.heap.size, 0, none⟩ 1 1 (bytesV [x]) rfl rfl (cells_new _ _ _) (bytesV_one _) (by unfold maxLen; omega) (by omega) (by simp; omega) ?_; intro v2 w2 hown2 hgr2 _; have Hown2 := Lib.hid hown2; clear hown2; have hb2 := (hb.alloc hsize (.cells (bytesV [x]).toArray 5)).grown hgr2 (by simp; omega) (fun q hq => (Hown.out.lt q hq).1))
        go_roundw
        case rel => exact ⟨k + 1, by omega, by go_num, by rw [HS.out, bytesV_append, List.length_append]; exact Hown2.out, hb2⟩
        case measure => simp [intOf]; omega
    · obtain rfl : k = s.size := by omega
      rw [take_all] at Hown
      have hcv := conv_own Try.underlying46 Try.underlying5 Try.underlying9 Hown.out
      go_wp2
      go_ret
      exact ⟨rfl, hb⟩

/-- 'string(b[j:j+m])' of a row of bytes. -/
theorem conv_part {P : Program} {w : World} {g j m c : Nat} {l : List UInt8} {src dst e : TypeId} (hs : P.underlying src = some (.slice e)) (he : P.underlying e = some (.int .u8)) (hd : P.underlying dst = some .string)
    (h : Reads w g l) (hm : j + m ≤ l.length) : (convert src dst (.slice (some ⟨g, j, none⟩) m c)).run P w = .ok (.string (bOf ((l.drop j).take m))) w := by
  have hlen : ((l.drop j).take m).length = m := by rw [List.length_take, List.length_drop]; omega
  have hr := run_convert_bytes_arg w src e hs he g j m c (((l.drop j).take m).map fun b => (b.toNat : Int)) (by simpa using hlen) (fun i hi => by
    rw [h.2 (j + i) (by omega), List.getD_eq_getElem?_getD, List.getElem?_map, List.getElem?_take_of_lt hi, List.getElem?_drop, List.getElem?_eq_getElem (show j + i < l.length by omega)]
    rfl) dst hd
  rw [hr, nums_bOf, List.map_map]
  congr 3
  conv => rhs; rw [← List.map_id ((l.drop j).take m)]
  apply List.map_congr_left
  intro b _
  simp

/-- What holds at the head of a round over pieces of bytes of the call's own: the receiver at ga has taken l, u has what was received. -/
def PieS (n₀ : Nat) (w0 : World) (ga : Nat) (r0 : St) (l : List UInt8) (u : Value) (wr : World) : Prop :=
  ∃ va, Recv wr n₀ ga (feeds r0 l) va ∧ Moves (fun k => k = ga) w0 wr ∧ (∀ k, va.ownBlock = some k → w0.heap.size ≤ k) ∧ Texts wr w0.heap.size u (outs r0 l)
theorem pies_moves {w0 wr w1 : World} {n₀ ga : Nat} {r : St} {va : Value} (hRa : Recv wr n₀ ga r va) (hV : ∀ k, va.ownBlock = some k → w0.heap.size ≤ k) (h : Moves (fun k => k = ga) w0 wr) (hM : Moves (Foot ga va) wr w1) : Moves (fun k => k = ga) w0 w1 :=
  h.trans hM fun k hk hf => by
    rcases hf with hf | hf
    · exact hf
    · have := hV k hf; omega
theorem pies_none {w0 wr w1 : World} {n₀ ga : Nat} {r0 : St} {l m : List UInt8} {u va v1 : Value} (hRa : Recv wr n₀ ga (feeds r0 l) va) (hV : ∀ k, va.ownBlock = some k → w0.heap.size ≤ k) (hB : Moves (fun k => k = ga) w0 wr) (hT : Texts wr w0.heap.size u (outs r0 l))
    (h0 : (outs (feeds r0 l) m).length = 0) (hR1 : Recv w1 n₀ ga (feeds (feeds r0 l) m) v1) (hM : Moves (Foot ga va) wr w1) (hW : Within wr va v1) : PieS n₀ w0 ga r0 (l ++ m) u w1 := by
  have h0' := List.eq_nil_of_length_eq_zero h0
  refine ⟨v1, by rw [feeds_append]; exact hR1, pies_moves hRa hV hB hM, fun k hk => ?_, ?_⟩
  · rcases hW k hk with h | h
    · exact hV k h
    · have := hB.size; omega
  · rw [outs_append, h0', List.append_nil]
    exact hT.past hRa hM
theorem pies_some {w0 wr w1 w2 : World} {n₀ ga : Nat} {r0 : St} {l m : List UInt8} {u u2 va v1 : Value} (hRa : Recv wr n₀ ga (feeds r0 l) va) (hV : ∀ k, va.ownBlock = some k → w0.heap.size ≤ k) (hB : Moves (fun k => k = ga) w0 wr) (hT : Texts wr w0.heap.size u (outs r0 l))
    (hR1 : Recv w1 n₀ ga (feeds (feeds r0 l) m) v1) (hM : Moves (Foot ga va) wr w1) (hW : Within wr va v1) (hgr : w1.grownBy w2 u.ownBlock) (hown : w2.ownsRow w0.heap.size 9 1 u2 ((outs r0 l).length + (outs (feeds r0 l) m).length) (textsV (outs r0 l) ++ textsV (outs (feeds r0 l) m))) : PieS n₀ w0 ga r0 (l ++ m) u2 w2 := by
  have hT1 := hT.past hRa hM
  have hB1 := pies_moves hRa hV hB hM
  refine ⟨v1, by rw [feeds_append]; exact hR1.grown hT1 hgr, hB1.trans (Moves.of_grown (S := fun k => u.ownBlock = some k) hgr fun k hk _ => hk) (fun k hk h => by have := (hT1.lt k h).1; omega), fun k hk => ?_, ?_⟩
  · rcases hW k hk with h | h
    · exact hV k h
    · have := hB.size; omega
  · unfold Texts
    rw [outs_append, List.length_append, textsV_append]
    exact hown
end Go.Proofs.Ytfcmpnfdgfdclaa.Hdl
