/- Put together: Md5K, Md5L. -/
import Derived.Test.YtpfbknbloeilmaaDoorGMd5I
import Derived.Laws.OwnMore

/- Contracts of package md5's text, tail and Hex. -/
namespace Go.Proofs.YtpfbknbloeilmaaDoor.Md5
open Go.RowKit Go.Proofs.YtpfbknbloeilmaaDoor.Oct Go.Proofs.YtpfbknbloeilmaaDoor.Row Go.Proofs.YtpfbknbloeilmaaDoor.Mem

def sliLen : Value → Nat
  | .slice _ n _ => n
  | _ => 0
theorem info8 : (Tryd.prog.info? 5).map (fun i => (i.zero, i.size, i.bytes)) = some (some (.int .u8 0), 1, 1) := by kernel_rfl

def wd (s : W4) : Nat → Nat
  | 0 => s.a
  | 1 => s.b
  | 2 => s.c
  | _ => s.d
def txt (s : W4) : Nat → List UInt8
  | 0 => []
  | k + 1 => txt s k ++ le4 (wd s k)
theorem txt_length (s : W4) : ∀ k, (txt s k).length = 4 * k
  | 0 => rfl
  | k + 1 => by rw [txt, List.length_append, txt_length s k, le4_length]; omega
theorem txt_four (s : W4) : txt s 4 = text4 s := by
  unfold text4
  simp [txt, wd]
theorem le4_cells (x : Nat) (h : x ≤ 4294967295) : bytesV (le4 x) = [.int .u8 ((x : Int) % 256), .int .u8 ((x : Int) / 256 % 256), .int .u8 ((x : Int) / 65536 % 256), .int .u8 ((x : Int) / 16777216)] := by
  unfold bytesV le4
  simp only [List.map_cons, List.map_nil, UInt8.toNat_ofNat', List.cons.injEq, and_true, Value.int.injEq, true_and]
  refine ⟨by omega, by omega, by omega, by omega⟩

set_option maxHeartbeats 1000000 in
set_option maxRecDepth 100000 in
theorem text_any (g m : Nat) (s : W4) (buf : List UInt8) (w : World) (hH : Raw w g s buf m) (hs : Ok4 s) :
    Calls Tryd.prog 59 #[.pointer (some ⟨g, 0, none⟩)] w fun e w' => e = .returned (.string (bOf (text4 s))) ∧ Below w.heap.size w w' := by
  obtain ⟨i0, hi, hz0, hz1, hz2⟩ := info_parts info8
  have HC : Hid (∀ k, k < 4 → w.cell? ⟨g, k, none⟩ = some (.int .u32 (wd s k)) ∧ wd s k ≤ 4294967295) := by
    intro k hk
    have h := hH.word
    have h1 := hs.1
    have h2 := hs.2.1
    have h3 := hs.2.2.1
    have h4 := hs.2.2.2
    rcases (show k = 0 ∨ k = 1 ∨ k = 2 ∨ k = 3 by omega) with rfl | rfl | rfl | rfl
    · exact ⟨h.1, by show s.a ≤ _; omega⟩
    · exact ⟨h.2.1, by show s.b ≤ _; omega⟩
    · exact ⟨h.2.2.1, by show s.c ≤ _; omega⟩
    · exact ⟨h.2.2.2, by show s.d ≤ _; omega⟩
  have hlt := hH.lt
  clear hH hs
  go_enter Tryd.func59, Tryd.ntmps59
  go_wp2
  go_loopw [3, 7] (fun v i wr => ∃ k : Nat, k ≤ 4 ∧ i = .int .i64 k ∧ Hid (wr.ownsRow w.heap.size 5 1 v (txt s k).length (bytesV (txt s k))) ∧ Below w.heap.size w wr)
    (fun _ i _ => 4 - (intOf i).toNat)
  case atStart => exact ⟨0, Nat.zero_le _, rfl, World.ownsRow_nil _ _ _ _, Below.refl _ _⟩
  case round =>
    obtain ⟨k, hk, rfl, Hown, hb⟩ := hrel
    have hsize := hb.size
    by_cases hlt4 : k < 4
    · have HT : Hid (txt s (k + 1) = txt s k ++ le4 (wd s k)) := rfl
      have hpl := txt_length s k
      have hc := (hb.cell (p := ⟨g, k, none⟩) hlt).trans (HC.out k hlt4).1
      have hw := (HC.out k hlt4).2
      have HV := Lib.hid (le4_cells _ hw)
      generalize txt s k = P at *
      generalize wd s k = x at *
      have x0 : (0 : Int) ≤ x := by omega
      have x1 : (x : Int) ≤ 4294967295 := by omega
      have k0 : (0 : Int) ≤ k := by omega
      have k1 : (k : Int) < 4 := by omega
      have hpl2 : P.length ≤ 16 := by omega
      have Hpl := Lib.hid hpl; clear hpl hw
      go_wp2_with (at_builtin; refine wpList_append_own _ rfl _ _ 47 rfl w.heap.size 5 i0 (.int .u8 0) 1 1 Tryd.underlying47 hi hz0 hz1 hz2 rfl (by decide) _ _ _ rfl (Hown.out.alloc _) ⟨wr.heap.size, 0, none⟩ 4 4 [.int .u8 ((x : Int) % 256), .int .u8 ((x : Int) / 256 % 256), .int .u8 ((x : Int) / 65536 % 256), .int .u8 ((x : Int) / 16777216)] rfl rfl (cells_new _ _ _) (by rw [← HV.out]; exact bytesV_one _) (by unfold maxLen; omega) (by omega) (by simp; omega) ?_; intro v2 w2 hown2 hgr2 _; have Hown2 := Lib.hid hown2; clear hown2; have hb2 := (hb.alloc hsize (.cells #[.int .u8 ((x : Int) % 256), .int .u8 ((x : Int) / 256 % 256), .int .u8 ((x : Int) / 65536 % 256), .int .u8 ((x : Int) / 16777216)] 5)).grown hgr2 (by simp; omega) (fun q hq => (Hown.out.lt q hq).1))
      go_roundw
      case rel => exact ⟨k + 1, by omega, by go_num, by rw [HT.out, bytesV_append, List.length_append, HV.out]; exact Hown2.out, hb2⟩
      case measure => simp [intOf]; omega
    · obtain rfl : k = 4 := by omega
      have hcv := conv_own Tryd.underlying47 Tryd.underlying5 Tryd.underlying9 Hown.out
      rw [txt_four] at hcv
      go_wp2
      go_ret
      exact ⟨rfl, hb⟩

theorem le8_split (v k : Nat) (h : k < 8) : (le8 v).take (k + 1) = (le8 v).take k ++ [UInt8.ofNat (v / 2 ^ (8 * k) % 256)] := by
  have e : (le8 v)[k]? = some (UInt8.ofNat (v / 2 ^ (8 * k) % 256)) := by
    rcases (show k = 0 ∨ k = 1 ∨ k = 2 ∨ k = 3 ∨ k = 4 ∨ k = 5 ∨ k = 6 ∨ k = 7 by omega) with rfl | rfl | rfl | rfl | rfl | rfl | rfl | rfl <;>
      (simp only [le8, le4, List.cons_append, List.nil_append, List.getElem?_cons_zero, List.getElem?_cons_succ, Option.some.injEq]; try (congr 1; simp only [Nat.reducePow, Nat.reduceMul]; omega))
  rw [List.take_add_one, e]
  rfl
set_option maxHeartbeats 1000000 in
set_option maxRecDepth 100000 in
theorem tail_any (n : Nat) (w : World) (hn : n ≤ 1048576) :
    Calls Tryd.prog 58 #[.int .u64 n] w fun e w' => e = .returned (.string (bOf (pad n))) ∧ Below w.heap.size w w' := by
  obtain ⟨i0, hi, hz0, hz1, hz2⟩ := info_parts info8
  have hz : zeros n ≤ 63 := by unfold zeros; omega
  have hmod : ∀ j, j ≤ zeros n → ((n + 1 + j) % 64 = 56 ↔ j = zeros n) := by intro j; unfold zeros; omega
  have HM := Lib.hid hmod; clear hmod
  have HP : Hid (pad n = 128 :: (List.replicate (zeros n) 0 ++ le8 (8 * n))) := rfl
  generalize zeros n = z at *
  have hn1 : (n : Int) ≤ 1048576 := by omega
  have HO0 : Hid ((w.alloc (.cells #[.int .u8 128] 5)).ownsRow w.heap.size 5 1 (.slice (some ⟨w.heap.size, 0, none⟩) 1 1) 1 (bytesV [128])) := World.ownsRow_lit w #[.int .u8 128] 1 (Nat.le_refl _) (by unfold maxLen; omega) rfl
  go_enter Tryd.func58, Tryd.ntmps58
  go_wp2
  go_loopw [3] (fun v wr => ∃ (j : Nat) (g : Nat) (c : Nat), j ≤ z ∧ v = .slice (some ⟨g, 0, none⟩) (j + 1) c ∧ Hid (wr.ownsRow w.heap.size 5 1 v (j + 1) (bytesV (128 :: List.replicate j 0))) ∧ Below w.heap.size w wr)
    (fun v _ => z + 1 - sliLen v)
  case atStart => exact ⟨0, w.heap.size, 1, Nat.zero_le _, rfl, HO0.out, (Below.refl _ _).alloc (Nat.le_refl _) _⟩
  case round =>
    obtain ⟨j, g, c, hj, rfl, Hown, hb⟩ := hrel
    have hsize := hb.size
    by_cases he : j = z
    · have hm := (HM.out j hj).2 he
      have h1 : (((n : Int) + (j + 1)) % 64 != 56) = false := by simp; omega
      subst he
      have h8 : IntKind.u64.wrap (8 * (n : Int)) = 8 * (n : Int) := by rw [IntKind.wrap_u64]; omega
      obtain ⟨V, hV⟩ : ∃ V, 8 * n = V := ⟨_, rfl⟩
      have hV8 : (8 * (n : Int)) = (V : Int) := by omega
      have hVl : V ≤ 8388608 := by omega
      rw [hV] at HP
      have HV8 := Lib.hid hV8
      go_wp2
      clear h1 h8 hV8
      have HOw := Hown
      go_loopw [3, 19] (fun v i wr => ∃ k : Nat, k ≤ 8 ∧ i = .int .i64 k ∧ Hid (wr.ownsRow w.heap.size 5 1 v (j + 1 + k) (bytesV (128 :: (List.replicate j 0 ++ (le8 V).take k)))) ∧ Below w.heap.size w wr)
        (fun _ i _ => 8 - (intOf i).toNat)
      case atStart => exact ⟨0, Nat.zero_le _, rfl, by show World.ownsRow _ _ _ _ _ _ _; rw [List.take_zero, List.append_nil]; exact HOw.out, hb⟩
      case round =>
        obtain ⟨k, hk, rfl, Hown2, hb2⟩ := hrel
        have hsize2 := hb2.size
        by_cases hlt : k < 8
        · have HS := Lib.hid (le8_split V k hlt)
          have k0 : (0 : Int) ≤ k := by omega
          have k1 : (k : Int) < 8 := by omega
          have HB : Hid (bytesV [UInt8.ofNat (V / 2 ^ (8 * k) % 256)] = [.int .u8 ((V : Int) / 2 ^ (8 * k) % 256)]) := by
            show _ = _
            unfold bytesV
            simp only [List.map_cons, List.map_nil, UInt8.toNat_ofNat', List.cons.injEq, and_true, Value.int.injEq, true_and]
            rw [show (2 : Nat) ^ 8 = 256 from rfl, Nat.mod_mod, Int.natCast_emod, Int.natCast_ediv, Int.natCast_pow]
            rfl
          have HR : Hid (bytesV (128 :: (List.replicate j 0 ++ (le8 V).take (k + 1))) = bytesV (128 :: (List.replicate j 0 ++ (le8 V).take k)) ++ bytesV [UInt8.ofNat (V / 2 ^ (8 * k) % 256)]) := by
            show _ = _
            rw [← bytesV_append, HS.out]; simp
          go_wp2_with (at_builtin; refine wpList_append_own _ rfl _ _ 47 rfl w.heap.size 5 i0 (.int .u8 0) 1 1 Tryd.underlying47 hi hz0 hz1 hz2 rfl (by decide) _ _ _ rfl (Hown2.out.alloc _) ⟨wr.heap.size, 0, none⟩ 1 1 [.int .u8 ((V : Int) / 2 ^ (8 * k) % 256)] rfl rfl (cells_new _ _ _) (by rw [← HB.out]; exact bytesV_one _) (by unfold maxLen; omega) (by omega) (by simp; omega) ?_; intro v3 w3 hown3 hgr3 _; have Hown3 := Lib.hid hown3; clear hown3; have hb3 := (hb2.alloc hsize2 (.cells #[.int .u8 ((V : Int) / 2 ^ (8 * k) % 256)] 5)).grown hgr3 (by simp; omega) (fun q hq => (Hown2.out.lt q hq).1))
          go_roundw
          case rel => exact ⟨k + 1, by omega, by go_num, by rw [HR.out, HB.out]; exact Hown3.out, hb3⟩
          case measure => simp [intOf]; omega
        · obtain rfl : k = 8 := by omega
          have h8 : (le8 V).take 8 = le8 V := List.take_of_length_le (Nat.le_refl _)
          rw [h8] at Hown2
          have hlen : (128 :: (List.replicate j 0 ++ le8 V)).length = j + 1 + 8 := by rw [List.length_cons, List.length_append, List.length_replicate, le8_length]
          rw [← hlen] at Hown2
          have hcv := conv_own Tryd.underlying47 Tryd.underlying5 Tryd.underlying9 Hown2.out
          rw [← HP.out] at hcv
          go_wp2
          go_ret
          exact ⟨rfl, hb2⟩
    · have hm : ¬ (n + 1 + j) % 64 = 56 := fun h => he ((HM.out j hj).1 h)
      have h1 : (((n : Int) + (j + 1)) % 64 != 56) = true := by simp; omega
      have HR : Hid (bytesV (128 :: List.replicate (j + 1) 0) = bytesV (128 :: List.replicate j 0) ++ bytesV [0]) := by
        show _ = _
        rw [← bytesV_append, List.replicate_succ']; rfl
      go_wp2_with (at_builtin; refine wpList_append_own _ rfl _ _ 47 rfl w.heap.size 5 i0 (.int .u8 0) 1 1 Tryd.underlying47 hi hz0 hz1 hz2 rfl (by decide) _ _ _ rfl (Hown.out.alloc _) ⟨wr.heap.size, 0, none⟩ 1 1 (bytesV [0]) rfl rfl (cells_new _ _ _) (bytesV_one _) (by unfold maxLen; omega) (by omega) (by simp; omega) ?_; intro v2 w2 hown2 hgr2 _; have Hown2 := Lib.hid hown2; clear hown2; have hb2 := (hb.alloc hsize (.cells (bytesV [0]).toArray 5)).grown hgr2 (by simp; omega) (fun q hq => (Hown.out.lt q hq).1); obtain ⟨g2, c2, rfl⟩ := ownsRow_succ Hown2.out)
      go_roundw
      case rel => exact ⟨j + 1, g2, c2, by omega, rfl, by rw [HR.out]; exact Hown2.out, hb2⟩
      case measure => show z + 1 - (j + 1 + 1) < z + 1 - (j + 1); omega

end Go.Proofs.YtpfbknbloeilmaaDoor.Md5

/- Contracts of package md5's Sum: of a hash, of parts. -/
namespace Go.Proofs.YtpfbknbloeilmaaDoor.Md5
open Go.RowKit Go.Proofs.YtpfbknbloeilmaaDoor.Oct Go.Proofs.YtpfbknbloeilmaaDoor.Row Go.Proofs.YtpfbknbloeilmaaDoor.Mem

set_option maxHeartbeats 400000 in
theorem sum_nil (w : World) : Calls Tryd.prog 33 #[.pointer none] w fun e w' => e = .returned (.string ByteArray.empty) ∧ w' = w := by
  go_enter Tryd.func33, Tryd.ntmps33
  go_wp2
  go_ret
  exact ⟨rfl, rfl⟩
set_option maxHeartbeats 1000000 in
theorem hsum_any (g : Nat) (t : List UInt8) (w : World) (hH : Hsh w g t) (hG : Globs w) (hz : t.length ≤ 1000000) :
    Calls Tryd.prog 33 #[.pointer (some ⟨g, 0, none⟩)] w fun e w' => e = .returned (.string (bOf (md5 t))) ∧ Below w.heap.size w w' := by
  have HH := Lib.hid hH
  have HG := Lib.hid hG
  clear hG
  obtain ⟨buf, hr, _⟩ := hH
  have hc := hr.size_
  clear hr
  have CT := Lib.hid (fun W => tail_any t.length W (by omega))
  have hps : (bOf (pad t.length)).size ≤ 72 := by rw [size_bOf]; exact (pad_fits t.length).2
  have HP : Hid ((bOf (pad t.length)).toList = pad t.length) := toList_bOf _
  have HE : Hid (md5 t = text4 (hs (t ++ pad t.length) ((t ++ pad t.length).length / 64))) := rfl
  obtain ⟨T, hT⟩ : ∃ T, bOf (pad t.length) = T := ⟨_, rfl⟩
  rw [hT] at CT hps HP
  clear hT
  rw [HE.out]
  go_enter Tryd.func33, Tryd.ntmps33
  go_wp2_with fail
  refine (copy_any g t _ HH.out).mono ?_
  rintro e w1 ⟨rfl, hH1, hb1, hs1⟩
  have hc1 := (hb1.cell (p := ⟨g, 68, none⟩) HH.out.lt).trans hc
  have HH1 := Lib.hid hH1
  have Hb1 := Lib.hid hb1
  clear hH1 hb1 hc
  go_wp2_with fail
  refine (CT.out _).mono ?_
  rintro e w2 ⟨rfl, hb2⟩
  have HH2 := Lib.hid (HH1.out.below hb2)
  have Hb2 := Lib.hid (Hb1.out.trans (hb2.mono Hb1.out.size))
  clear hb2
  go_wp2_with fail
  refine (write_any w.heap.size t T _ HH2.out (HG.out.below Hb2.out) (by omega)).mono ?_
  rw [HP.out]
  rintro e w3 ⟨rfl, hH3, hm3⟩
  have Hb3 : Hid (Below w.heap.size w w3) := Hb2.out.trans (hm3.below Hb2.out.size (fun k hk => by omega))
  obtain ⟨b3, hr3, _⟩ := hH3
  clear hm3
  go_wp2_with fail
  refine (text_any _ _ _ _ _ hr3 (hs_ok _ _)).mono ?_
  rintro e w4 ⟨rfl, hb4⟩
  go_wp2
  go_ret
  exact ⟨by rw [List.length_append]; rfl, Hb3.out.trans (hb4.mono Hb3.out.size)⟩

/-- Texts, one behind the other. -/
def cat : List ByteArray → List UInt8
  | [] => []
  | s :: l => s.toList ++ cat l
theorem cat_append (a b : List ByteArray) : cat (a ++ b) = cat a ++ cat b := by
  induction a with
  | nil => rfl
  | cons s a ih => simp [cat, ih]
theorem cat_one (s : ByteArray) : cat [s] = s.toList := by simp [cat]
theorem cat_snoc (l : List ByteArray) (k : Nat) (t : ByteArray) (h : l[k]? = some t) : cat (l.take (k + 1)) = cat (l.take k) ++ t.toList := by
  obtain ⟨hk, e⟩ := List.getElem?_eq_some_iff.1 h
  rw [List.take_succ_eq_append_getElem hk, cat_append, cat_one, e]
theorem cat_take_le (l : List ByteArray) (k : Nat) : (cat (l.take k)).length ≤ (cat l).length := by
  conv => rhs; rw [← List.take_append_drop k l, cat_append, List.length_append]
  omega
theorem cat_at_le (l : List ByteArray) (k : Nat) (t : ByteArray) (h : l[k]? = some t) : (cat (l.take k)).length + t.size ≤ (cat l).length := by
  have h1 := cat_take_le l (k + 1)
  rw [cat_snoc l k t h, List.length_append, ← size_toList] at h1
  exact h1
set_option maxHeartbeats 1000000 in
set_option maxRecDepth 100000 in
theorem sum_any (A : Option Addr) (n c : Nat) (l : List ByteArray) (w : World) (hn : n ≤ maxLen) (hl : Strs w w.heap.size A n l) (hG : Globs w) (hz : (cat l).length ≤ 1000000) :
    Calls Tryd.prog 11 #[.slice A n c] w fun e w' => e = .returned (.string (bOf (md5 (cat l)))) ∧ Below w.heap.size w w' := by
  have HL := Lib.hid hl; clear hl
  have HG := Lib.hid hG; clear hG
  unfold maxLen at hn
  go_enter Tryd.func11, Tryd.ntmps11
  go_wp2_with fail
  refine (new_any _).mono ?_
  rintro e w1 ⟨g, rfl, hg, hH1, hb1⟩
  have HH1 := Lib.hid hH1
  have Hb1 := Lib.hid hb1
  clear hH1 hb1
  go_wp2
  go_loopw [9] (fun i wr => ∃ k : Nat, k ≤ n ∧ i = .int .i64 k ∧ Hid (Hsh wr g (cat (l.take k))) ∧ Hid (Below w.heap.size w wr)) (fun i _ => n - (intOf i).toNat)
  case atStart => exact ⟨0, Nat.zero_le _, rfl, HH1.out, Hb1.out⟩
  case round =>
    obtain ⟨k, hk, rfl, HHk, Hbk⟩ := hrel
    by_cases hlt : k < n
    · obtain ⟨ad, t, rfl, hB, ht, htl, hc⟩ := (HL.out.below Hbk.out).at_ hlt
      have Ht := Lib.hid ht
      have Hle := Lib.hid (cat_at_le l k t ht)
      clear ht
      go_wp2_with fail
      refine (write_any g _ t _ HHk.out (HG.out.below Hbk.out) (by have := Hle.out; omega)).mono ?_
      rw [← cat_snoc l k t Ht.out]
      rintro e w3 ⟨rfl, hH3, hm3⟩
      have Hb3 : Hid (Below w.heap.size w w3) := Hbk.out.trans (hm3.below Hbk.out.size (fun j hj => by omega))
      have HH3 := Lib.hid hH3
      clear hH3 hm3
      go_wp2
      go_roundw
      case rel => exact ⟨k + 1, by omega, by go_num, HH3.out, Hb3.out⟩
      case measure => simp [intOf]; omega
    · obtain rfl : k = n := by omega
      have e : l.take k = l := List.take_of_length_le (by rw [HL.out.1]; exact Nat.le_refl _)
      rw [e] at HHk
      clear e
      go_wp2_with fail
      refine (hsum_any g _ _ HHk.out (HG.out.below Hbk.out) hz).mono ?_
      rintro e w3 ⟨rfl, hb3⟩
      go_wp2
      go_ret
      exact ⟨rfl, Hbk.out.trans (hb3.mono Hbk.out.size)⟩
end Go.Proofs.YtpfbknbloeilmaaDoor.Md5
