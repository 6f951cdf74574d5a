/- PROVED: 'halyardlaw03.EscapeBack' returns true for every text, every map, every places and every bytes that are put in, and leaves them as they were. No condition. -/
import Derived.Test.YtbihjpdenfjojaaEscH
import Derived.Test.YtbihjpdenfjojaaLaw
import Derived.Test.YtbihjpdenfjojaaRows
import Derived.Test.YtbihjpdenfjojaaReads
import Derived.Deep.RegionHeld3
namespace Go.Proofs.Ytbihjpdenfjojaa.EscapeBack
open Go.ChangeShapes Go.WideShapes Go.ChangeAt Go.RowKit Go.Proofs.Ytbihjpdenfjojaa.Oct Go.Proofs.Ytbihjpdenfjojaa.Row Go.Proofs.Ytbihjpdenfjojaa.Esc Go.Proofs.Ytbihjpdenfjojaa.Law
open Go.ChangeMaps (open_string shut_string)

theorem size_up (w : World) (o : Obj) : w.heap.size ≤ (w.alloc o).heap.size := by rw [World.size_alloc]; exact Nat.le_succ _
theorem size_up' (w : World) (o : Obj) : w.heap.size < (w.alloc o).heap.size := by rw [World.size_alloc]; exact Nat.lt_succ_self _
theorem apart_of {g n m : Nat} {v : Value} (h : g < n) (hm : n ≤ m) (hat : v.ownBlock = (Value.slice none 0 0).ownBlock ∨ v.ownBlock = some m) : some g ≠ v.ownBlock := by
  rcases hat with e | e <;> rw [e]
  · simp [Value.ownBlock]
  · intro e'; cases e'; omega
theorem rem_byte (x : UInt8) : (x.toNat : Int) % 32 = ((x % 32).toNat : Int) := by rw [UInt8.toNat_mod]; rfl

set_option maxHeartbeats 4000000 in
set_option maxRecDepth 100000 in
theorem walk (s : ByteArray) (a : Nat) (A2 A3 : Option Addr) (n2 c2 n3 c3 : Nat) (hs : s.size ≤ maxLen) (ha : a < 4294967296) (hn2 : n2 ≤ maxLen) (hn3 : n3 ≤ maxLen) (w : World) (hI2 : Ints w w.heap.size A2 n2 .u16) (hI3 : Ints w w.heap.size A3 n3 .u8) :
    Calls Try.prog 4 #[.string s, .int .u32 a, .slice A2 n2 c2, .slice A3 n3 c3] w fun e w' => e = .returned (.bool true) ∧ Below w.heap.size w w' := by
  unfold maxLen at hs hn2 hn3
  have Ha := Lib.hid ha; clear ha
  have H2 := Lib.hid hI2; clear hI2
  have H3 := Lib.hid hI3; clear hI3
  by_cases h1 : 4096 < s.size
  · have h1' : (4096 : Int) < s.size := by omega
    go_enter Try.func4, Try.ntmps4
    go_wp2_with fail
    refine (alive_any _).mono ?_
    rintro e w1 ⟨rfl, hb1⟩
    go_wp2_with fail
    go_ret
    have B1 := hb1
    exact ⟨rfl, B1⟩
  · have d1 : decide ((4096 : Int) < (s.size : Int)) = false := decide_eq_false (by omega)
    by_cases h2 : 200 < n2
    · have h2' : (200 : Int) < n2 := by omega
      go_enter Try.func4, Try.ntmps4
      go_wp2_with fail
      refine (alive_any _).mono ?_
      rintro e w1 ⟨rfl, hb1⟩
      go_wp2_with fail
      go_ret
      have B1 := hb1
      exact ⟨rfl, B1⟩
    · have d2 : decide ((200 : Int) < (n2 : Int)) = false := decide_eq_false (by omega)
      by_cases h3 : 200 < n3
      · have h3' : (200 : Int) < n3 := by omega
        go_enter Try.func4, Try.ntmps4
        go_wp2_with fail
        refine (alive_any _).mono ?_
        rintro e w1 ⟨rfl, hb1⟩
        go_wp2_with fail
        go_ret
        have B1 := hb1
        exact ⟨rfl, B1⟩
      · have d3 : decide ((200 : Int) < (n3 : Int)) = false := decide_eq_false (by omega)
        obtain ⟨i0, hi, hz0, hz1, hz2⟩ := info_parts Try.info5
        have Hs := Lib.hid (show s.size ≤ 1048576 by omega)
        have HG := Lib.hid (get_put a s)
        have HP := Lib.hid (strip_put a s.toList)
        have HT := Lib.hid (toList_bOf (put a s.toList))
        have hle := (put_le a s.toList).2
        rw [← size_toList] at hle
        have hT1 : (bOf (put a s.toList)).size ≤ 8192 := by rw [size_bOf]; omega
        have HTz : Hid ((bOf (put a s.toList)).size ≤ 1048576) := by show _ ≤ _; omega
        clear hle
        have hx3 : (s.toList != s.toList) = false := by simp
        have hcv := fun w s => run_bytes_of_string (P := Try.prog) w 9 32 5 s Try.underlying9 Try.underlying32 Try.underlying5
        go_enter Try.func4, Try.ntmps4
        go_wp2_with fail
        refine (put_any s a _ Ha.out Hs.out).mono ?_
        rintro e w1 ⟨rfl, hb1⟩
        go_wp2_with fail
        refine (get_any (bOf (put a s.toList)) _ HTz.out).mono ?_
        rw [HG.out.1, HG.out.2]
        rintro e w2 ⟨rfl, hb2⟩
        generalize bOf (put a s.toList) = T at *
        have hB2 := hb1.trans (hb2.mono hb1.size)
        clear hb1 hb2
        go_wp2
        have HY : Hid (Reads (w2.alloc (.cells (bytesRow T (grownCap w2 T.size 0 5)) 5 ((bytesRow T (grownCap w2 T.size 0 5)).size, (bytesRow T (grownCap w2 T.size 0 5)).size + 1))).drew w2.heap.size T.toList) := reads_made w2 T 5 (grownCap w2 T.size 0 5)
        have HW : Hid (Below w.heap.size w (w2.alloc (.cells (bytesRow T (grownCap w2 T.size 0 5)) 5 ((bytesRow T (grownCap w2 T.size 0 5)).size, (bytesRow T (grownCap w2 T.size 0 5)).size + 1))).drew) := hB2.drew.alloc hB2.size _
        have hcap := grownCap_ge w2 T.size 0 5
        have hcap2 := grownCap_le_maxLen w2 T.size 0 5 (by unfold maxLen; omega)
        generalize (w2.alloc (.cells (bytesRow T (grownCap w2 T.size 0 5)) 5 ((bytesRow T (grownCap w2 T.size 0 5)).size, (bytesRow T (grownCap w2 T.size 0 5)).size + 1))).drew = W1 at *
        generalize grownCap w2 T.size 0 5 = cap at *
        have Hg := Lib.hid hB2.size
        clear hB2 hcv
        generalize w2.heap.size = g at *
        clear hs hn2 hn3
        go_loopw [12, 13] (fun v x wr => ∃ (i g cap : Nat) (l : List UInt8), i ≤ n2 ∧ i ≤ n3 ∧ x = .int .i64 i ∧ v = .slice (some ⟨g, 0, none⟩) l.length cap ∧ l.length ≤ T.size + i ∧ l.length ≤ cap ∧ cap ≤ maxLen ∧ Hid (Reads wr g l ∧ strip a l = put a s.toList) ∧ Hid (Below w.heap.size w wr)) (fun _ x _ => n2 - (intOf x).toNat)
        case atStart => exact ⟨0, g, cap, T.toList, Nat.zero_le _, Nat.zero_le _, rfl, by rw [← size_toList], by rw [← size_toList]; exact Nat.le_refl _, by rw [← size_toList]; exact hcap, hcap2, ⟨HY.out, by rw [HT.out, HP.out]⟩, HW⟩
        case round =>
          clear hcap hcap2 HY HW Hg
          obtain ⟨i, g, cap, l, hi2, hi3, rfl, rfl, hl1, hl2, hl3, HR, Hb⟩ := hrel
          unfold maxLen at hl3
          by_cases hlt2 : i < n2
          · by_cases hlt3 : i < n3
            · obtain ⟨ad2, z2, rfl, hB2, hc2, hw2⟩ := (H2.out.below Hb.out) i hlt2
              obtain ⟨ad3, z3, rfl, hB3, hc3, hw3⟩ := (H3.out.below Hb.out) i hlt3
              obtain ⟨x, rfl⟩ : ∃ x : UInt8, z3 = (x.toNat : Int) := ⟨UInt8.ofNat z3.toNat, by have := bounds_u8 hw3; rw [UInt8.toNat_ofNat']; omega⟩
              have hz2' := bounds_u16 hw2
              have hrb := rem_byte x
              clear hw2 hw3 hB2 hB3
              generalize x % 32 = b at *
              cases hm : mapped a b
              · have Hm := Lib.hid hm; clear hm
                go_wp2_with fail
                refine (mapped_any a b _ Ha.out).mono ?_
                rw [Hm.out]
                rintro e w5 ⟨rfl, rfl⟩
                go_wp2
                go_roundw
                case rel => exact ⟨i + 1, g, cap, l, by omega, by omega, by go_num, rfl, by omega, hl2, by unfold maxLen; exact hl3, HR, Hb⟩
                case measure => simp [intOf]; omega
              · have Hm := Lib.hid hm; clear hm
                go_wp2_with fail
                refine (mapped_any a b _ Ha.out).mono ?_
                rw [Hm.out]
                rintro e w5 ⟨rfl, rfl⟩
                obtain ⟨K, hK, hK2⟩ : ∃ K : Nat, z2 % ((l.length : Int) + 1) = (K : Int) ∧ K ≤ l.length := by
                  have e1 := Int.emod_nonneg z2 (b := (l.length : Int) + 1) (by omega)
                  have e2 := Int.emod_lt_of_pos z2 (b := (l.length : Int) + 1) (by omega)
                  exact ⟨(z2 % ((l.length : Int) + 1)).toNat, by omega, by omega⟩
                go_wp2
                rw [hK]
                clear hK hc2 hc3 hrb H2 H3
                have hk0 : (0 : Int) ≤ K := by omega
                have hk1 : (K : Int) ≤ l.length := by omega
                have hk2 : (K : Int) ≤ cap := by omega
                have hk3 : (l.length : Int) ≤ cap := by omega
                have hlen : l.length ≤ 8392 := by omega
                have HRd := Lib.hid HR.out.1
                have hbs := Hb.out.size
                have HLa : Hid ((bytesV ((l.drop 0).take K)).length = K * 1) := by show _ = _; rw [bytesV_length, List.length_take, List.length_drop]; omega
                have HLb : Hid ((bytesV ((l.drop K).take (l.length - K))).length = (l.length - K) * 1) := by show _ = _; rw [bytesV_length, List.length_take, List.length_drop]; omega
                have HLc : Hid (([] ++ bytesV ((l.drop 0).take K) ++ bytesV [b]) ++ bytesV ((l.drop K).take (l.length - K)) = bytesV (l.take K ++ b :: l.drop K)) := by
                  show _ = _
                  rw [List.drop_zero, List.nil_append, ← bytesV_append, ← bytesV_append, List.take_of_length_le (l := l.drop K) (by rw [List.length_drop]; exact Nat.le_refl _), List.append_assoc]
                  rfl
                have HLd : Hid (0 + K + 1 + (l.length - K) = (l.take K ++ b :: l.drop K).length) := by show _ = _; rw [List.length_append, List.length_take, List.length_cons, List.length_drop]; omega
                have HST : Hid (strip a (l.take K ++ b :: l.drop K) = put a s.toList) := (strip_insert l K Hm.out).trans HR.out.2
                have hadd : (⟨g, 0, none⟩ : Addr).add K = ⟨g, K, none⟩ := by rw [add_zero_at, Nat.zero_add]
                by_cases hcK : cap = K
                · subst hcK
                  have hd : l.drop cap = [] := List.drop_eq_nil_of_le hl2
                  have HLc0 : Hid (([] ++ bytesV ((l.drop 0).take cap) ++ bytesV [b]) ++ [] = bytesV (l.take cap ++ b :: l.drop cap)) := by
                    show _ = _
                    rw [List.drop_zero, List.nil_append, List.append_nil, ← bytesV_append, hd]
                  have HLd0 : Hid (0 + cap + 1 + 0 = (l.take cap ++ b :: l.drop cap).length) := by show _ = _; rw [hd, List.length_append, List.length_take, List.length_cons, List.length_nil]; omega
                  clear hd
                  clear hadd
                  go_region_held3 (fun _ => True) (trivial)
                    (first
                      | (refine step_append_any (wr.drew) (by rfl) _ _ _ (by rfl) w.heap.size 5 i0 (.int .u8 0) 1 1 Try.underlying32 hi hz0 hz1 hz2 rfl (by decide) (.slice none 0 0) 0 [] (by rfl) (World.ownsRow_nil _ _ _ _) ⟨g, 0, none⟩ cap cap (bytesV ((l.drop 0).take cap)) (by rfl) HLa.out (HRd.out.drew.part 0 cap (by omega)) (bytesV_one _) (by unfold maxLen; omega) (by omega) (hbs) ?_; intro v1 w1 hown1 hgr1 hat1; have hR1 : Reads w1 g l := (HRd.out.drew).grown hgr1 (by simp [Value.ownBlock]); have hb1 : Below w.heap.size w w1 := (Hb.out.drew).grown hgr1 hbs (fun q hq => by cases hq); have hne1 : some g ≠ v1.ownBlock := apart_of HRd.out.1 (Nat.le_refl _) hat1; have hway1 := hgr1.size)
                      | (refine step_append_any ((wr.alloc (.cells #[.int .u8 (b.toNat : Int)] 5)).drew) (by rfl) _ _ _ (by rfl) w.heap.size 5 i0 (.int .u8 0) 1 1 Try.underlying32 hi hz0 hz1 hz2 rfl (by decide) (.slice none 0 0) 0 [] (by rfl) (World.ownsRow_nil _ _ _ _) ⟨g, 0, none⟩ cap cap (bytesV ((l.drop 0).take cap)) (by rfl) HLa.out (((HRd.out.alloc _).drew).part 0 cap (by omega)) (bytesV_one _) (by unfold maxLen; omega) (by omega) (Nat.le_trans hbs (size_up wr _)) ?_; intro v1 w1 hown1 hgr1 hat1; have hR1 : Reads w1 g l := ((HRd.out.alloc (.cells #[.int .u8 (b.toNat : Int)] 5)).drew).grown hgr1 (by simp [Value.ownBlock]); have hb1 : Below w.heap.size w w1 := ((Hb.out.alloc hbs (.cells #[.int .u8 (b.toNat : Int)] 5)).drew).grown hgr1 (Nat.le_trans hbs (size_up wr _)) (fun q hq => by cases hq); have hne1 : some g ≠ v1.ownBlock := apart_of HRd.out.1 (size_up wr _) hat1; have hblk : w1.heap[wr.heap.size]? = some (.cells #[.int .u8 (b.toNat : Int)] 5) := (hgr1.block wr.heap.size (size_up' wr _) (by simp [Value.ownBlock])).trans (World.alloc_heap_new wr _))
                      | (refine step_append_any (w1.alloc (.cells #[.int .u8 (b.toNat : Int)] 5)) (by rfl) _ _ _ (by rfl) w.heap.size 5 i0 (.int .u8 0) 1 1 Try.underlying32 hi hz0 hz1 hz2 rfl (by decide) v1 (0 + cap) ([] ++ bytesV ((l.drop 0).take cap)) (by rfl) (hown1.alloc _) ⟨w1.heap.size, 0, none⟩ 1 1 (bytesV [b]) (by rfl) (by rfl) (cells_new _ _ _) (bytesV_one _) (by unfold maxLen; omega) (by omega) (Nat.le_trans hb1.size (size_up w1 _)) ?_; intro v2 w4 hown2 hgr2 hat2; have hR2 : Reads w4 g l := (hR1.alloc _).grown hgr2 hne1; have hb2 := (hb1.alloc hb1.size (.cells #[.int .u8 (b.toNat : Int)] 5)).grown hgr2 (Nat.le_trans hb1.size (size_up w1 _)) (fun q hq => (hown1.lt q hq).1))
                      | (refine step_append_any (w1) (by rfl) _ _ _ (by rfl) w.heap.size 5 i0 (.int .u8 0) 1 1 Try.underlying32 hi hz0 hz1 hz2 rfl (by decide) v1 (0 + cap) ([] ++ bytesV ((l.drop 0).take cap)) (by rfl) (hown1) ⟨wr.heap.size, 0, none⟩ 1 1 (bytesV [b]) (by rfl) (by rfl) (World.news_of_block hblk) (bytesV_one _) (by unfold maxLen; omega) (by omega) (hb1.size) ?_; intro v2 w4 hown2 hgr2 hat2; have hR2 : Reads w4 g l := (hR1).grown hgr2 hne1; have hb2 := (hb1).grown hgr2 (hb1.size) (fun q hq => (hown1.lt q hq).1))
                      | (refine step_append_any w4 (by rfl) _ _ _ (by rfl) w.heap.size 5 i0 (.int .u8 0) 1 1 Try.underlying32 hi hz0 hz1 hz2 rfl (by decide) v2 (0 + cap + 1) (([] ++ bytesV ((l.drop 0).take cap)) ++ bytesV [b]) (by rfl) hown2 ⟨g, 0, none⟩ 0 0 [] (by rfl) (by rfl) (fun j u hu => by simp at hu) (fun u hu => by cases hu) (by unfold maxLen; omega) (by omega) hb2.size ?_; intro v3 w6 hown3 hgr3 hat3; have hb3 := hb2.grown hgr3 hb2.size (fun q hq => (hown2.lt q hq).1))
                      | fail)
                  all_goals
                    obtain ⟨g3, cap3, rfl, _, _⟩ := hown3.form (by omega)
                    rw [HLc0.out, HLd0.out] at hown3
                    rw [HLd0.out]
                    have hoc := own_cap hown3
                    have HR3 := Lib.hid (reads_own hown3)
                    have Hb3 := Lib.hid hb3
                    have hll : (l.take cap ++ b :: l.drop cap).length = l.length + 1 := by rw [← HLd0.out]; omega
                    clear hown1 hown2 hown3 hgr1 hgr2 hgr3 hat1 hat2 hat3 hb1 hb2 hb3 hR1 hR2 hne1
                    go_wp2
                    go_roundw
                    case rel => exact ⟨i + 1, g3, cap3, l.take cap ++ b :: l.drop cap, by omega, by omega, by go_num, rfl, by omega, hoc.1, hoc.2.1, ⟨HR3.out, HST.out⟩, Hb3⟩
                    case measure => simp [intOf]; omega
                · go_region_held3 (fun _ => True) (trivial)
                    (first
                      | (refine step_append_any (wr.drew) (by rfl) _ _ _ (by rfl) w.heap.size 5 i0 (.int .u8 0) 1 1 Try.underlying32 hi hz0 hz1 hz2 rfl (by decide) (.slice none 0 0) 0 [] (by rfl) (World.ownsRow_nil _ _ _ _) ⟨g, 0, none⟩ K cap (bytesV ((l.drop 0).take K)) (by rfl) HLa.out (HRd.out.drew.part 0 K (by omega)) (bytesV_one _) (by unfold maxLen; omega) (by omega) (hbs) ?_; intro v1 w1 hown1 hgr1 hat1; have hR1 : Reads w1 g l := (HRd.out.drew).grown hgr1 (by simp [Value.ownBlock]); have hb1 : Below w.heap.size w w1 := (Hb.out.drew).grown hgr1 hbs (fun q hq => by cases hq); have hne1 : some g ≠ v1.ownBlock := apart_of HRd.out.1 (Nat.le_refl _) hat1; have hway1 := hgr1.size)
                      | (refine step_append_any ((wr.alloc (.cells #[.int .u8 (b.toNat : Int)] 5)).drew) (by rfl) _ _ _ (by rfl) w.heap.size 5 i0 (.int .u8 0) 1 1 Try.underlying32 hi hz0 hz1 hz2 rfl (by decide) (.slice none 0 0) 0 [] (by rfl) (World.ownsRow_nil _ _ _ _) ⟨g, 0, none⟩ K cap (bytesV ((l.drop 0).take K)) (by rfl) HLa.out (((HRd.out.alloc _).drew).part 0 K (by omega)) (bytesV_one _) (by unfold maxLen; omega) (by omega) (Nat.le_trans hbs (size_up wr _)) ?_; intro v1 w1 hown1 hgr1 hat1; have hR1 : Reads w1 g l := ((HRd.out.alloc (.cells #[.int .u8 (b.toNat : Int)] 5)).drew).grown hgr1 (by simp [Value.ownBlock]); have hb1 : Below w.heap.size w w1 := ((Hb.out.alloc hbs (.cells #[.int .u8 (b.toNat : Int)] 5)).drew).grown hgr1 (Nat.le_trans hbs (size_up wr _)) (fun q hq => by cases hq); have hne1 : some g ≠ v1.ownBlock := apart_of HRd.out.1 (size_up wr _) hat1; have hblk : w1.heap[wr.heap.size]? = some (.cells #[.int .u8 (b.toNat : Int)] 5) := (hgr1.block wr.heap.size (size_up' wr _) (by simp [Value.ownBlock])).trans (World.alloc_heap_new wr _))
                      | (refine step_append_any (w1.alloc (.cells #[.int .u8 (b.toNat : Int)] 5)) (by rfl) _ _ _ (by rfl) w.heap.size 5 i0 (.int .u8 0) 1 1 Try.underlying32 hi hz0 hz1 hz2 rfl (by decide) v1 (0 + K) ([] ++ bytesV ((l.drop 0).take K)) (by rfl) (hown1.alloc _) ⟨w1.heap.size, 0, none⟩ 1 1 (bytesV [b]) (by rfl) (by rfl) (cells_new _ _ _) (bytesV_one _) (by unfold maxLen; omega) (by omega) (Nat.le_trans hb1.size (size_up w1 _)) ?_; intro v2 w4 hown2 hgr2 hat2; have hR2 : Reads w4 g l := (hR1.alloc _).grown hgr2 hne1; have hb2 := (hb1.alloc hb1.size (.cells #[.int .u8 (b.toNat : Int)] 5)).grown hgr2 (Nat.le_trans hb1.size (size_up w1 _)) (fun q hq => (hown1.lt q hq).1))
                      | (refine step_append_any (w1) (by rfl) _ _ _ (by rfl) w.heap.size 5 i0 (.int .u8 0) 1 1 Try.underlying32 hi hz0 hz1 hz2 rfl (by decide) v1 (0 + K) ([] ++ bytesV ((l.drop 0).take K)) (by rfl) (hown1) ⟨wr.heap.size, 0, none⟩ 1 1 (bytesV [b]) (by rfl) (by rfl) (World.news_of_block hblk) (bytesV_one _) (by unfold maxLen; omega) (by omega) (hb1.size) ?_; intro v2 w4 hown2 hgr2 hat2; have hR2 : Reads w4 g l := (hR1).grown hgr2 hne1; have hb2 := (hb1).grown hgr2 (hb1.size) (fun q hq => (hown1.lt q hq).1))
                      | (refine step_append_any w4 (by rfl) _ _ _ (by rfl) w.heap.size 5 i0 (.int .u8 0) 1 1 Try.underlying32 hi hz0 hz1 hz2 rfl (by decide) v2 (0 + K + 1) (([] ++ bytesV ((l.drop 0).take K)) ++ bytesV [b]) (by rfl) hown2 ⟨g, K, none⟩ (l.length - K) (cap - K) (bytesV ((l.drop K).take (l.length - K))) (by rfl) HLb.out (hR2.part K (l.length - K) (by omega)) (bytesV_one _) (by unfold maxLen; omega) (by omega) hb2.size ?_; intro v3 w6 hown3 hgr3 hat3; have hb3 := hb2.grown hgr3 hb2.size (fun q hq => (hown2.lt q hq).1))
                      | fail)
                  all_goals
                    obtain ⟨g3, cap3, rfl, _, _⟩ := hown3.form (by omega)
                    rw [HLc.out, HLd.out] at hown3
                    rw [HLd.out]
                    have hoc := own_cap hown3
                    have HR3 := Lib.hid (reads_own hown3)
                    have Hb3 := Lib.hid hb3
                    have hll : (l.take K ++ b :: l.drop K).length = l.length + 1 := by rw [← HLd.out]; omega
                    clear hown1 hown2 hown3 hgr1 hgr2 hgr3 hat1 hat2 hat3 hb1 hb2 hb3 hR1 hR2 hne1
                    go_wp2
                    go_roundw
                    case rel => exact ⟨i + 1, g3, cap3, l.take K ++ b :: l.drop K, by omega, by omega, by go_num, rfl, by omega, hoc.1, hoc.2.1, ⟨HR3.out, HST.out⟩, Hb3⟩
                    case measure => simp [intOf]; omega
            · have hcv := conv_reads (P := Try.prog) (c := cap) (src := 32) (dst := 9) Try.underlying32 Try.underlying5 Try.underlying9 HR.out.1 rfl
              have Hz : Hid ((bOf l).size ≤ 1048576) := by show _ ≤ _; rw [size_bOf]; omega
              have HE : Hid (bOf (strip a (bOf l).toList) = T) := by show _ = _; rw [toList_bOf, HR.out.2, ← HT.out, bOf_toList]
              have hxs := beq_self s
              go_wp2_with fail
              refine (strip_any (bOf l) a _ Ha.out Hz.out).mono ?_
              rw [HE.out]
              rintro e w5 ⟨rfl, hb5⟩
              go_wp2_with fail
              refine (get_any T _ HTz.out).mono ?_
              rw [HG.out.1, HG.out.2]
              rintro e w6 ⟨rfl, hb6⟩
              go_wp2_with fail
              refine (alive_any _).mono ?_
              rintro e w7 ⟨rfl, hb7⟩
              go_wp2
              go_ret
              have B5 := Hb.out.trans (hb5.mono Hb.out.size)
              have B6 := B5.trans (hb6.mono B5.size)
              exact ⟨rfl, B6.trans (hb7.mono B6.size)⟩
          · have hcv := conv_reads (P := Try.prog) (c := cap) (src := 32) (dst := 9) Try.underlying32 Try.underlying5 Try.underlying9 HR.out.1 rfl
            have Hz : Hid ((bOf l).size ≤ 1048576) := by show _ ≤ _; rw [size_bOf]; omega
            have HE : Hid (bOf (strip a (bOf l).toList) = T) := by show _ = _; rw [toList_bOf, HR.out.2, ← HT.out, bOf_toList]
            have hxs := beq_self s
            go_wp2_with fail
            refine (strip_any (bOf l) a _ Ha.out Hz.out).mono ?_
            rw [HE.out]
            rintro e w5 ⟨rfl, hb5⟩
            go_wp2_with fail
            refine (get_any T _ HTz.out).mono ?_
            rw [HG.out.1, HG.out.2]
            rintro e w6 ⟨rfl, hb6⟩
            go_wp2_with fail
            refine (alive_any _).mono ?_
            rintro e w7 ⟨rfl, hb7⟩
            go_wp2
            go_ret
            have B5 := Hb.out.trans (hb5.mono Hb.out.size)
            have B6 := B5.trans (hb6.mono B5.size)
            exact ⟨rfl, B6.trans (hb7.mono B6.size)⟩

set_option maxRecDepth 100000 in
theorem lifted (os : Os) (started : os.Started) (H : Type) (enc : TypeId × Value → H) :
    ReturnsInHanded {} Try.checked os 4 .any (Rows.escapeBackSpec.pre6 enc Try.prog Try.f4 Rows.escapeBackRow.domain false) (Rows.escapeBackSpec.post enc Try.prog Try.f4 false true false false) := by
  refine returnsInHanded_of_change (C := Try.checked) own started (by kernel_rfl) Try.func4
    (ChangeSpec.witness6 (enc := enc) (C := Try.checked) false ⟨#[], #[.string ByteArray.empty, .int .u32 0, .slice none 0 0, .slice none 0 0], []⟩ 8 (by kernel_rfl) (by kernel_rfl) (by kernel_rfl) (by kernel_rfl)) ?_
  intro W base args ds gs before hval0 hW hcnd _
  have hval : ∀ (j : Nat) t v, Try.f4.params[j]? = some t → args[j]? = some v → Value.okWide Try.prog W .any base t v := hval0
  have hW' := hW
  obtain ⟨p, q, hA0, hV, rfl, hfz, hnd⟩ := hW
  have hlt := hW'.lt
  have hA : DataW.TrodAll enc Try.prog W 0 (fun _ => true) true Try.f4.params.toList args.toList ds p := hA0
  rw [Try.params4] at hA hval
  obtain ⟨v0, vs0, d0, ds0, p0, q0, hargs, rfl, rfl, h0, r0⟩ := trodAll_cons hA
  obtain ⟨v1, vs1, d1, ds1, p1, q1, rfl, rfl, rfl, h1, r1⟩ := trodAll_cons r0
  obtain ⟨v2, vs2, d2, ds2, p2, q2, rfl, rfl, rfl, h2, r2⟩ := trodAll_cons r1
  obtain ⟨v3, vs3, d3, ds3, p3, q3, rfl, rfl, rfl, h3, r3⟩ := trodAll_cons r2
  obtain ⟨rfl, rfl, rfl⟩ := trodAll_nil r3
  obtain rfl : args = #[v0, v1, v2, v3] := by cases args; simp_all
  obtain ⟨rfl, rfl⟩ := trodVars_none hV
  obtain ⟨a0, rfl, rfl, rfl, w0⟩ := open_string Try.underlying9 (hval 0 9 v0 rfl rfl) h0
  obtain ⟨z1, rfl, rfl, rfl, w1⟩ := open_int Try.underlying22 (hval 1 22 v1 rfl rfl) h1
  obtain ⟨a1, rfl⟩ : ∃ n : Nat, z1 = n := ⟨z1.toNat, by have := bounds_u32 w1; omega⟩
  have b1 := bounds_u32 w1
  obtain ⟨A2, n2, c2, rfl, m2, hI2⟩ := ints_of Try.underlying31 Try.underlying33 (by kernel_rfl) (hval 2 31 v2 rfl rfl) h2
  obtain ⟨A3, n3, c3, rfl, m3, hI3⟩ := ints_of Try.underlying32 Try.underlying5 (by kernel_rfl) (hval 3 32 v3 rfl rfl) h3
  clear hA0 hval0
  exact (walk a0 a1 A2 A3 n2 c2 n3 c3 w0 (by omega) m2 m3 W hI2 hI3).mono fun e W' ⟨he, hb⟩ => ⟨_, he, law_post (t := 4) laidOut (by kernel_rfl) rfl rfl Try.underlying4 ⟨rfl, rfl, rfl⟩ hW' hb⟩

theorem over : Rows.escapeBackRow.holds Try.pinned (OpenSpec.ofChange Rows.escapeBackSpec) :=
  OpenClaim.holds_of_wide 4 Try.f4 rfl rfl rfl rfl rfl rfl rfl ⟨rfl, rfl, rfl, rfl, rfl⟩ rfl rfl rfl rfl rfl (by kernel_rfl) Try.func4 (by kernel_rfl)
    (of_decide_eq_true (by kernel_rfl)) (by unfold Func.isWrapper; first | (rw [if_pos (by decide +kernel)]; kernel_rfl) | (rw [if_neg (by decide +kernel)]; exact ⟨rfl, rfl⟩))
    (fun os started H enc _ => lifted os started H enc)

theorem proved : Rows.EscapeBackSaid :=
  over
#print axioms proved
end Go.Proofs.Ytbihjpdenfjojaa.EscapeBack
