/- Put together: Md5I, Md5J. -/
import Derived.Test.YtpfbknbloeilmaaDoorGMd5G

/- Contract of package md5's Write. -/
namespace Go.Proofs.YtpfbknbloeilmaaDoor.Md5
open Go.RowKit Go.Proofs.YtpfbknbloeilmaaDoor.Oct Go.Proofs.YtpfbknbloeilmaaDoor.Row Go.Proofs.YtpfbknbloeilmaaDoor.Mem

/-- The hash of t lies in block g. -/
def Hsh (w : World) (g : Nat) (t : List UInt8) : Prop := ∃ buf, Raw w g (hs t (t.length / 64)) buf t.length ∧ Rest t buf
theorem Hsh.lt {w : World} {g : Nat} {t : List UInt8} (h : Hsh w g t) : g < w.heap.size := by obtain ⟨_, h, _⟩ := h; exact h.lt
theorem Hsh.moves {S : Nat → Prop} {w w' : World} {g : Nat} {t : List UInt8} (h : Hsh w g t) (hm : Moves S w w') (hs : ¬ S g) : Hsh w' g t := by
  obtain ⟨b, h, r⟩ := h
  exact ⟨b, h.moves hm hs, r⟩
theorem Hsh.below {w w' : World} {g : Nat} {t : List UInt8} (h : Hsh w g t) (hb : Below w.heap.size w w') : Hsh w' g t := by
  obtain ⟨b, h, r⟩ := h
  exact ⟨b, h.below hb, r⟩
theorem Hsh.apart {w : World} {g : Nat} {t : List UInt8} (h : Hsh w g t) (hg : Globs w) : g ≠ 0 ∧ g ≠ 1 := by
  obtain ⟨_, h, _⟩ := h; exact h.apart hg
theorem Globs.self {w w' : World} {g : Nat} {t : List UInt8} (hg : Globs w) (h : Hsh w g t) (hm : Moves (fun k => k = g) w w') : Globs w' :=
  hg.moves hm (fun e => (h.apart hg).1 e.symm) (fun e => (h.apart hg).2 e.symm)

theorem cellsH_length {s : W4} {buf : List UInt8} {n : Nat} (h : buf.length = 64) : (cellsH s buf n).length = 69 := by
  unfold cellsH; rw [List.length_append, List.length_append, bytesV_length, h]; rfl
theorem splice_cells (s : W4) (buf p : List UInt8) (n r : Nat) (hb : buf.length = 64) (hr : r + p.length ≤ 64) :
    ((cellsH s buf n).take (4 + r) ++ bytesV p ++ (cellsH s buf n).drop (4 + r + p.length)) = cellsH s (splice_ buf r p) n := by
  unfold cellsH splice_
  rw [List.take_append, List.drop_append, wordsV_length, List.take_of_length_le (by rw [wordsV_length]; omega), List.drop_of_length_le (by rw [wordsV_length]; omega)]
  rw [show 4 + r - 4 = r by omega, show 4 + r + p.length - 4 = r + p.length by omega]
  rw [List.take_append_of_le_length (by rw [bytesV_length]; omega), List.drop_append_of_le_length (by rw [bytesV_length]; omega)]
  simp [bytesV, List.map_take, List.map_drop]

theorem hsh_more {w : World} {g : Nat} {u buf p : List UInt8} (hr : Rest u buf) (hp : u.length % 64 + p.length < 64) (h : Raw w g (hs u (u.length / 64)) (splice_ buf (u.length % 64) p) (u.length + p.length)) : Hsh w g (u ++ p) := by
  obtain ⟨h1, _, h3⟩ := rest_more hr hp
  refine ⟨_, ?_, h1⟩
  rw [h3, List.length_append]
  exact h
theorem hsh_full {w : World} {g : Nat} {u buf p : List UInt8} (hr : Rest u buf) (hp : u.length % 64 + p.length = 64) (h : Raw w g (blk (hs u (u.length / 64)) (splice_ buf (u.length % 64) p)) (splice_ buf (u.length % 64) p) (u.length + p.length)) : Hsh w g (u ++ p) := by
  obtain ⟨h1, h2, _⟩ := rest_full hr hp
  refine ⟨_, ?_, h1⟩
  rw [h2, List.length_append]
  exact h
theorem rest_text (X : ByteArray) (l : List UInt8) (k m : Nat) (h : X.toList = l.drop k) : X.extract m X.size = bOf (l.drop (k + m)) := by
  rw [extract_rest, h, List.drop_drop]
theorem front_text (X : ByteArray) (t l p u : List UInt8) (k m : Nat) (h : X.toList = l.drop k) (hu : t ++ l.take k = u) (hp : X.toList.take m = p) : t ++ l.take (k + m) = u ++ p := by
  rw [← hu, ← hp, h, List.append_assoc, List.take_add]

def WriteP (g : Nat) (t : List UInt8) (w : World) (e : Ending) (w' : World) : Prop := e = .returned (.int .i64 0) ∧ Hsh w' g t ∧ Moves (fun k => k = g) w w'
set_option maxHeartbeats 400000 in
theorem write_nil (s : ByteArray) (w : World) : Calls Tryd.prog 32 #[.pointer none, .string s] w fun e w' => e = .returned (.int .i64 1) ∧ w = w' := by
  go_enter Tryd.func32, Tryd.ntmps32
  go_wp2
  go_ret
  exact ⟨rfl, rfl⟩
set_option maxHeartbeats 2000000 in
set_option maxRecDepth 100000 in
theorem write_any (g : Nat) (t : List UInt8) (s : ByteArray) (w : World) (hH : Hsh w g t) (hG : Globs w) (hz : t.length + s.size ≤ 1048576) :
    Calls Tryd.prog 32 #[.pointer (some ⟨g, 0, none⟩), .string s] w (WriteP g (t ++ s.toList) w) := by
  have HH := Lib.hid hH
  have HG := Lib.hid hG
  have Hsl := Lib.hid (size_toList s)
  clear hH hG
  have Hini : Hid (s = bOf (s.toList.drop 0)) := by show _ = _; rw [List.drop_zero, bOf_toList]
  go_enter Tryd.func32, Tryd.ntmps32
  go_wp2
  go_loopw [1] (fun x wr => ∃ k : Nat, k ≤ s.toList.length ∧ x = .string (bOf (s.toList.drop k)) ∧ Hid (Hsh wr g (t ++ s.toList.take k)) ∧ Hid (Moves (fun k => k = g) w wr)) (fun x _ => strLen x)
  case atStart => exact ⟨0, Nat.zero_le _, congrArg Value.string Hini.out, by show Hsh _ _ _; rw [List.take_zero, List.append_nil]; exact HH.out, Moves.refl _ _⟩
  case round =>
    obtain ⟨k, hk, rfl, HHk, HMk⟩ := hrel
    by_cases hlt : k < s.toList.length
    · obtain ⟨X, hX⟩ : ∃ X, bOf (s.toList.drop k) = X := ⟨_, rfl⟩
      have hXl : X.toList = s.toList.drop k := by rw [← hX, toList_bOf]
      have hXs : X.size = s.toList.length - k := by rw [← hX, size_bOf, List.length_drop]
      have hXp : 0 < X.size := by omega
      obtain ⟨u, hu⟩ : ∃ u, t ++ s.toList.take k = u := ⟨_, rfl⟩
      have hul : u.length = t.length + k := by rw [← hu, List.length_append, List.length_take]; omega
      rw [hu] at HHk
      rw [hX]
      obtain ⟨buf, hraw, hrest⟩ := HHk.out
      obtain ⟨r, hr⟩ : ∃ r, u.length % 64 = r := ⟨_, rfl⟩
      have hr63 : r ≤ 63 := by omega
      obtain ⟨p, hp⟩ : ∃ p, X.toList.take (Nat.min X.size (64 - r)) = p := ⟨_, rfl⟩
      have hpl : p.length = Nat.min X.size (64 - r) := by
        rw [← hp, List.length_take, ← size_toList]
        exact Nat.min_eq_left (Nat.min_le_left _ _)
      have hcp := fun W h => run_copy_string (P := Tryd.prog) W 47 9 3 5 g (4 + r) (64 - r) (64 - r) X (cellsH (hs u (u.length / 64)) buf u.length).toArray 105 Tryd.underlying47 (by kernel_rfl) h (by
        rw [List.size_toArray, cellsH_length hraw.2]
        have : Nat.min X.size (64 - r) ≤ 64 - r := Nat.min_le_right _ _
        omega)
      have hc := hraw.size_
      have hne : X.toList.isEmpty = false := by
        rw [List.isEmpty_eq_false_iff]; intro h; rw [size_toList, h] at hXp; simp at hXp
      have hp64 : r + p.length ≤ 64 := by
        have : Nat.min X.size (64 - r) ≤ 64 - r := Nat.min_le_right _ _
        omega
      have hcp1 := hcp wr.drew hraw.1
      rw [← hpl] at hcp1
      rw [hpl, hp, ← hpl, splice_cells _ _ _ _ _ hraw.2 hp64] at hcp1
      clear hcp
      obtain ⟨W2, hW2⟩ : ∃ W2, wr.drew.setRow g (cellsH (hs u (u.length / 64)) (splice_ buf r p) u.length).toArray = W2 := ⟨_, rfl⟩
      rw [hW2] at hcp1
      have HR2 : Hid (Raw W2 g (hs u (u.length / 64)) (splice_ buf r p) u.length) := by
        show Raw _ _ _ _ _
        rw [← hW2]
        exact raw_setRow (w := wr.drew) hraw (by rw [splice_length _ _ _ (by rw [hraw.2]; exact hp64)]; exact hraw.2) _ rfl
      have HM2 : Hid (Moves (fun k => k = g) wr W2) := by
        show Moves _ _ _
        rw [← hW2]
        exact (Moves.refl (fun k => k = g) wr).drew.trans (moves_setRow wr.drew g _) (fun _ _ h => h)
      clear hW2
      have HXl := Lib.hid hXl; clear hXl
      have HX := Lib.hid hX; clear hX
      have Hu := Lib.hid hu; clear hu
      have Hul := Lib.hid hul; clear hul
      have Hp := Lib.hid hp; clear hp
      have Hpl := Lib.hid hpl; clear hpl
      have Hraw := Lib.hid hraw
      have Hr := Lib.hid hr
      have q1 : (r : Int) ≤ 63 := by omega
      have q2 : ((u.length : Int)) % 64 = (r : Int) := by omega
      have q3 : (0 : Int) ≤ r := by omega
      have q4 : (r : Int) ≤ 64 := by omega
      have q5 : ¬ (64 = r) := by omega
      have q6 : (⟨g, 4, none⟩ : Addr).add r = ⟨g, 4 + r, none⟩ := add_zero_at g 4 r
      have hlu : (u.length : Int) ≤ 1048576 := by have := Hul.out; have := Hsl.out; omega
      clear hr
      go_wp2
      go_region
      clear hcp1 hc q1 q2 q3 q4 q5 q6 hraw
      have hc2 := HR2.out.size_
      have hf2 := HR2.out.frozen 68
      have hs0 := HR2.out.word
      obtain ⟨m, hm⟩ : ∃ m, p.length = m := ⟨_, rfl⟩
      rw [hm] at hp64 Hpl ⊢
      have Hm := Lib.hid hm; clear hm
      obtain ⟨N, hN⟩ : ∃ N, u.length = N := ⟨_, rfl⟩
      have HN := Lib.hid hN
      rw [hN] at hlu hc2 ⊢
      have m0 : (0 : Int) ≤ m := by omega
      have m1 : (m : Int) ≤ 64 := by omega
      have n0 : (0 : Int) ≤ N := by omega
      have hmx : m ≤ X.size := by rw [Hpl.out]; exact Nat.min_le_left _ _
      have hmX : (m : Int) ≤ (X.size : Int) := by omega
      have hXz : X.size ≤ 1048576 := by have := Hsl.out; omega
      have Hxs := Lib.hid hXs; clear hXs
      have Hhp := Lib.hid hXp; clear hXp
      clear hN
      have hm1 : 1 ≤ m := by
        have h := Hpl.out
        simp only [Nat.min_def] at h
        have := Hhp.out
        split at h <;> omega
      have HP3 : Hid (Raw (W2.setCell ⟨g, 68, none⟩ (.int .u64 ((N : Int) + m))) g (hs u (u.length / 64)) (splice_ buf r p) (N + m)) := by
        have h := HR2.out.putSize (N + m)
        rw [Int.natCast_add] at h
        exact h
      have HM3 : Hid (Moves (fun k => k = g) w (W2.setCell ⟨g, 68, none⟩ (.int .u64 ((N : Int) + m)))) := (HMk.out.trans HM2.out (fun _ _ h => h)).setCell ⟨g, 68, none⟩ (fun _ => rfl) _
      have HTX : Hid (X.extract m X.size = bOf (s.toList.drop (k + m))) := rest_text X _ _ _ HXl.out
      have HTU : Hid (t ++ s.toList.take (k + m) = u ++ p) := front_text X t s.toList p u k m HXl.out Hu.out (by rw [← Hp.out, Hpl.out])
      have hkm : k + m ≤ s.toList.length := by have := Hxs.out; omega
      have Hrest := Lib.hid hrest; clear hrest
      by_cases hfull : r + m = 64
      · have hcd : ((N : Int) + m) % 64 = 0 := by have := Hr.out; have := HN.out; omega
        have HFL : Hid (∀ W', Raw W' g (blk (hs u (u.length / 64)) (splice_ buf r p)) (splice_ buf r p) (N + m) → Hsh W' g (u ++ p)) := fun W' h => by
          have e := Hr.out
          subst e
          refine hsh_full Hrest.out (by rw [Hm.out]; exact hfull) ?_
          rw [HN.out, Hm.out]
          rw [HN.out] at h
          exact h
        go_wp2
        obtain ⟨W3, hW3⟩ : ∃ W3, W2.setCell ⟨g, 68, none⟩ (.int .u64 ((N : Int) + m)) = W3 := ⟨_, rfl⟩
        rw [hW3] at HP3 HM3 ⊢
        clear hW3
        have hG3 : Globs W3 := HG.out.self HH.out HM3.out
        have HO := hs_ok u (u.length / 64)
        have hb64 := HP3.out.2
        generalize splice_ buf r p = B at *
        have C1 := Lib.hid (mix_any g (N + m) (hs u (u.length / 64)) B B W3.drew HP3.out HO hG3 hb64)
        have hrg : W3.drew.rangeAt g 4 (bytesV B) := HP3.out.block
        have hun : Tryd.prog.underlying 102 = some (.array 64 5) := Tryd.underlying102
        have hsz : (Tryd.prog.info? 102).map (·.size) = some (bytesV B).length := by rw [bytesV_length, hb64]; exact sizeB
        clear hG3 HO hb64
        go_region_held3 (fun w' => w'.rangeAt g 4 (bytesV B)) (assumption)
          (first
            | (go_at_call 56; (refine C1.out.mono ?_; clear C1; rintro e w4 ⟨rfl, hraw4, hm4⟩; have hrg4 := hraw4.block))
            | fail)
        clear hun hsz hrg
        have HR4 := Lib.hid hraw4
        have HM4 : Hid (Moves (fun k => k = g) w w4) := HM3.out.drew.trans hm4 (fun _ _ h => h)
        clear hraw4 hm4 hrg4
        go_wp2
        go_roundw
        case rel => exact ⟨k + m, hkm, congrArg Value.string HTX.out, by show Hsh _ _ _; rw [HTU.out]; exact HFL.out _ HR4.out, HM4.out⟩
        case measure =>
          show (X.extract m X.size).size < X.size
          rw [HTX.out, size_bOf, List.length_drop]
          have := Hxs.out
          omega
      · have hcd : ¬ ((N : Int) + m) % 64 = 0 := by have := Hr.out; have := HN.out; omega
        have HFL : Hid (∀ W', Raw W' g (hs u (u.length / 64)) (splice_ buf r p) (N + m) → Hsh W' g (u ++ p)) := fun W' h => by
          have e := Hr.out
          subst e
          refine hsh_more Hrest.out (by rw [Hm.out]; omega) ?_
          rw [HN.out, Hm.out]
          rw [HN.out] at h
          exact h
        go_wp2
        go_roundw
        case rel => exact ⟨k + m, hkm, congrArg Value.string HTX.out, by show Hsh _ _ _; rw [HTU.out]; exact HFL.out _ HP3.out, HM3.out⟩
        case measure =>
          show (X.extract m X.size).size < X.size
          rw [HTX.out, size_bOf, List.length_drop]
          have := Hxs.out
          omega
    · obtain rfl : k = s.toList.length := by omega
      rw [List.drop_length]
      have he : (bOf ([] : List UInt8)).toList.isEmpty = true := by rw [toList_bOf]; rfl
      generalize bOf ([] : List UInt8) = Z at *
      go_wp2
      go_ret
      refine ⟨rfl, ?_, HMk.out⟩
      have h := HHk.out
      rw [List.take_length] at h
      exact h
end Go.Proofs.YtpfbknbloeilmaaDoor.Md5

/- Contracts of package md5's first, New, Copy, Len, text, tail, Hex. -/
namespace Go.Proofs.YtpfbknbloeilmaaDoor.Md5
open Go.RowKit Go.Proofs.YtpfbknbloeilmaaDoor.Oct Go.Proofs.YtpfbknbloeilmaaDoor.Row Go.Proofs.YtpfbknbloeilmaaDoor.Mem

set_option maxHeartbeats 400000 in
theorem copy_nil (w : World) : Calls Tryd.prog 57 #[.pointer none] w fun e w' => e = .returned (.pointer none) ∧ w' = w := by
  go_enter Tryd.func57, Tryd.ntmps57
  go_wp2
  go_ret
  exact ⟨rfl, rfl⟩
def zeroH : List Value := cellsH ⟨0, 0, 0, 0⟩ (List.replicate 64 0) 0
theorem infoH : (Tryd.prog.info? 105).map (fun i => (i.zero, i.size)) = some (some (.agg zeroH.toArray), 69) := by kernel_rfl
theorem zero_hsh (w : World) : (zeroValue 105).run Tryd.prog w = .ok (.agg zeroH.toArray) w := (zero_of_info infoH).1 w
theorem size_hsh {s : W4} {buf : List UInt8} {n : Nat} (h : buf.length = 64) : (Tryd.prog.info? 105).map (·.size) = some (cellsH s buf n).toArray.size := by
  rw [List.size_toArray, cellsH_length h]
  exact (zero_of_info infoH).2
theorem cellsH_one (s : W4) (buf : List UInt8) (n : Nat) : (cellsH s buf n).toArray.all (·.oneCell') = true := by
  refine all_oneCell_toArray fun v hv => ?_
  unfold cellsH wordsV at hv
  rcases List.mem_append.1 hv with h | h
  · simp only [List.mem_cons, List.not_mem_nil, or_false] at h
    rcases h with rfl | rfl | rfl | rfl <;> rfl
  · rcases List.mem_append.1 h with h | h
    · exact bytesV_one _ _ h
    · rw [List.mem_singleton] at h; subst h; rfl
set_option maxHeartbeats 400000 in
set_option maxRecDepth 100000 in
theorem copy_any (g : Nat) (t : List UInt8) (w : World) (hH : Hsh w g t) : Calls Tryd.prog 57 #[.pointer (some ⟨g, 0, none⟩)] w fun e w' => e = .returned (.pointer (some ⟨w.heap.size, 0, none⟩)) ∧ Hsh w' w.heap.size t ∧ Below w.heap.size w w' ∧ w'.heap.size = w.heap.size + 1 := by
  obtain ⟨buf, h, hr⟩ := hH
  have HR := Lib.hid h.1
  have Hr := Lib.hid hr
  obtain ⟨cs, hcs⟩ : ∃ cs, cellsH (hs t (t.length / 64)) buf t.length = cs := ⟨_, rfl⟩
  have HS := Lib.hid (size_hsh (s := hs t (t.length / 64)) (n := t.length) h.2)
  have HO := Lib.hid (cellsH_one (hs t (t.length / 64)) buf t.length)
  have HZ : Hid (zeroH.toArray.size = (cellsH (hs t (t.length / 64)) buf t.length).toArray.size) := by show _ = _; rw [List.size_toArray, List.size_toArray, cellsH_length h.2]; rfl
  have H64 := Lib.hid h.2
  rw [hcs] at HR HS HO HZ
  have Hcs := Lib.hid hcs
  clear h hr hcs
  have hz := zero_hsh
  generalize zeroH = zs at *
  go_enter Tryd.func57, Tryd.ntmps57
  go_wp2_with (first
    | (refine wpList_load_row rfl 105 _ rfl g rfl 105 _ (0, 0) _ HR.out Tryd.underlying105 rfl HS.out ?_)
    | (refine wpList_store_row rfl 105 _ _ rfl w.heap.size _ rfl rfl 105 _ (World.alloc_heap_new w _) HS.out HZ.out HO.out ?_))
  go_ret
  have hw := World.setRow_alloc_new w zs.toArray cs.toArray 105
  rw [hw]
  refine ⟨rfl, ⟨buf, ⟨?_, H64.out⟩, Hr.out⟩, (Below.refl _ _).alloc (Nat.le_refl _) _, World.size_alloc _ _⟩
  rw [Hcs.out]
  exact World.alloc_heap_new w _
set_option maxHeartbeats 400000 in
theorem first_any (w : World) : Calls Tryd.prog 55 #[] w fun e w' => e = .returned (.agg #[.int .u32 1732584193, .int .u32 4023233417, .int .u32 2562383102, .int .u32 271733878]) ∧ Below w.heap.size w w' := by
  go_enter Tryd.func55, Tryd.ntmps55
  go_wp2
  refine bodyPost_ret (v := .agg #[.int .u32 1732584193, .int .u32 4023233417, .int .u32 2562383102, .int .u32 271733878]) (results_cell_row rfl _ _ w.heap.size 100 #[.int .u32 1732584193, .int .u32 4023233417, .int .u32 2562383102, .int .u32 271733878] (0, 0) _ rfl (World.alloc_heap_new w _) Tryd.underlying100 rfl (by kernel_rfl)) rfl ⟨rfl, (Below.refl _ _).alloc (Nat.le_refl _) _⟩
set_option maxHeartbeats 400000 in
theorem new_any (w : World) : Calls Tryd.prog 31 #[] w fun e w' => ∃ g, e = .returned (.pointer (some ⟨g, 0, none⟩)) ∧ w.heap.size ≤ g ∧ Hsh w' g [] ∧ Below w.heap.size w w' := by
  have hz := zero_hsh
  go_enter Tryd.func31, Tryd.ntmps31
  go_wp2_with fail
  refine (first_any _).mono ?_
  rintro e w1 ⟨rfl, hb⟩
  go_wp2
  go_ret
  have e : ((((zeroH.set 0 (.int .u32 1732584193)).set 1 (.int .u32 4023233417)).set 2 (.int .u32 2562383102)).set 3 (.int .u32 271733878)) = cellsH init (List.replicate 64 0) 0 := rfl
  rw [e]
  exact ⟨_, rfl, hb.size, ⟨_, ⟨World.alloc_heap_new w1 _, rfl⟩, rest_nil⟩, hb.alloc hb.size _⟩
end Go.Proofs.YtpfbknbloeilmaaDoor.Md5
