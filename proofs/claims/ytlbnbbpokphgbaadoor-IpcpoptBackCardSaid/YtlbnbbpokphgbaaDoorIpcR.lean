/- Contracts of ipcpopt's number, of Read's closure, and of Read. -/
import Derived.Test.YtlbnbbpokphgbaaDoorIpcG
import Derived.Test.YtlbnbbpokphgbaaDoorBlk
import Derived.Test.YtlbnbbpokphgbaaDoorGet32
import Derived.Laws.EntriesVeiled
namespace Go.Proofs.YtlbnbbpokphgbaaDoor.Ipc
open Go.RowKit Go.Proofs.YtlbnbbpokphgbaaDoor.Oct Go.Proofs.YtlbnbbpokphgbaaDoor.Row Go.Proofs.YtlbnbbpokphgbaaDoor.Mem

def nB (w : List UInt8) : UInt8 := (numb w).getD 0
def nO (w : List UInt8) : Bool := (numb w).isSome
theorem numb_size {w : List UInt8} {b : UInt8} (h : numb w = some b) : w.length ≤ 3 := by rw [numb_iff.1 h]; exact (dec_facts b).2.2
set_option maxHeartbeats 1000000 in
theorem number_any (s : ByteArray) (w : World) {B : Nat} (hG : Glb B w) (hs : s.size ≤ 100) : Calls Tryd.prog 28 #[.string s] w fun e w' => e = .returned (.tuple #[.int .u8 (nB s.toList).toNat, .bool (nO s.toList)]) ∧ Below w.heap.size w w' := by
  obtain ⟨tp0, p0, hsyn⟩ := hG.syn
  obtain ⟨tp1, p1, hrng⟩ := hG.rng
  have HG := Lib.hid hG; clear hG
  cases h : Lib.parseUintB 8 s.data.toList
  · rename_i u
    have hu : u ≤ 255 := parse_le h
    have h' : Lib.parseUintB 8 s.toList = .ok u := by rw [ByteArray.toList_eq]; exact h
    have C := Lib.hid (Tryd.strconv_ParseUint_10_at8_ok s (by omega) u h w)
    have C2 := Lib.hid (fun W hW => fmtU_any u W (B := B) hW hu)
    by_cases hd : Lib.decDigits u = s.toList
    · have hn : numb s.toList = some (UInt8.ofNat u) := by unfold numb; rw [h']; simp only; rw [if_pos hd]
      have H : Hid (((nB s.toList).toNat : Int) = u ∧ nO s.toList = true) := by
        show _ ∧ _
        unfold nB nO
        rw [hn]
        refine ⟨?_, rfl⟩
        show (((UInt8.ofNat u).toNat : Nat) : Int) = _
        rw [UInt8.toNat_ofNat', Nat.mod_eq_of_lt (by omega)]
      have ht : ((bOf (Lib.decDigits u)).toList == s.toList) = true := by rw [toList_bOf, hd]; simp
      rw [H.out.1, H.out.2]
      clear h h' hn H hsyn hrng hd
      generalize bOf (Lib.decDigits u) = t at *
      go_enter Tryd.func28, Tryd.ntmps28
      go_wp2_with fail
      refine C.out.mono ?_
      rintro e w1 ⟨rfl, hw⟩
      have HB : Hid (Below w.heap.size w w1) := by
        show Below _ _ _
        rcases hw with rfl | rfl
        · exact Below.refl _ _
        · exact Lib.bytesWorld_below _ _ _
      clear hw C
      go_wp2_with fail
      refine (C2.out _ (HG.out.callee HB.out)).mono ?_
      rintro e w2 ⟨rfl, hb2⟩
      have HB2 := Lib.hid (HB.out.trans (hb2.mono HB.out.size))
      clear hb2 C2
      go_wp2
      go_ret2
      exact ⟨rfl, HB2.out⟩
    · have hn : numb s.toList = none := by unfold numb; rw [h']; simp only; rw [if_neg hd]
      have H : Hid (nB s.toList = 0 ∧ nO s.toList = false) := by show _ ∧ _; unfold nB nO; rw [hn]; exact ⟨rfl, rfl⟩
      have ht : ((bOf (Lib.decDigits u)).toList == s.toList) = false := by rw [toList_bOf, beq_eq_false_iff_ne]; exact hd
      rw [H.out.1, H.out.2]
      clear h h' hn H hsyn hrng hd
      generalize bOf (Lib.decDigits u) = t at *
      go_enter Tryd.func28, Tryd.ntmps28
      go_wp2_with fail
      refine C.out.mono ?_
      rintro e w1 ⟨rfl, hw⟩
      have HB : Hid (Below w.heap.size w w1) := by
        show Below _ _ _
        rcases hw with rfl | rfl
        · exact Below.refl _ _
        · exact Lib.bytesWorld_below _ _ _
      clear hw C
      go_wp2_with fail
      refine (C2.out _ (HG.out.callee HB.out)).mono ?_
      rintro e w2 ⟨rfl, hb2⟩
      have HB2 := Lib.hid (HB.out.trans (hb2.mono HB.out.size))
      clear hb2 C2
      go_wp2
      go_ret2
      exact ⟨rfl, HB2.out⟩
  · have hn : numb s.toList = none := by unfold numb; rw [ByteArray.toList_eq, h]
    have H : Hid (nB s.toList = 0 ∧ nO s.toList = false) := by show _ ∧ _; unfold nB nO; rw [hn]; exact ⟨rfl, rfl⟩
    have C := Lib.hid (Any.strconv_ParseUint_10_at8_syntax_var Tryd.laysPu14 s (by omega) h tp0 p0 w hsyn)
    rw [H.out.1, H.out.2]
    clear h hn H hsyn hrng
    go_enter Tryd.func28, Tryd.ntmps28
    go_wp2_with fail
    refine C.out.mono ?_
    rintro e w1 ⟨N, rfl, -, -, hb⟩
    have HB := Lib.hid hb; clear hb C
    go_wp2
    go_ret2
    exact ⟨rfl, HB.out⟩
  · have hn : numb s.toList = none := by unfold numb; rw [ByteArray.toList_eq, h]
    have H : Hid (nB s.toList = 0 ∧ nO s.toList = false) := by show _ ∧ _; unfold nB nO; rw [hn]; exact ⟨rfl, rfl⟩
    have C := Lib.hid (Tryd.strconv_ParseUint_10_at8_range_var s (by omega) h tp1 p1 w hrng)
    rw [H.out.1, H.out.2]
    clear h hn H hsyn hrng
    go_enter Tryd.func28, Tryd.ntmps28
    go_wp2_with fail
    refine C.out.mono ?_
    rintro e w1 ⟨N, rfl, -, -, hb⟩
    have HB := Lib.hid hb; clear hb C
    go_wp2
    go_ret2
    exact ⟨rfl, HB.out⟩
/-- Two variables in boxes of their own: what is left of the text, and whether a dot stood. -/
def Two (w : World) (g h : Nat) (r : List UInt8) (m : Bool) : Prop := Blk w g [.string (bOf r)] 9 ∧ Blk w h [.bool m] 4 ∧ g ≠ h
set_option maxHeartbeats 1000000 in
theorem next_any (g h : Nat) (r : List UInt8) (m : Bool) (w : World) {B : Nat} (hG : Glb B w) (hT : Two w g h r m) (hg : B ≤ g) (hh : B ≤ h) (hs : r.length ≤ 100) :
    Calls Tryd.prog 26 #[.pointer (some ⟨g, 0, none⟩), .pointer (some ⟨h, 0, none⟩)] w fun e w' => e = .returned (.tuple #[.int .u8 (nB (cutD r).1).toNat, .bool (nO (cutD r).1)]) ∧ Two w' g h (cutD r).2.1 (cutD r).2.2 ∧ Moves (fun k => k = g ∨ k = h) w w' := by
  have c0 : w.cell? ⟨g, 0, none⟩ = some (.string (bOf r)) := Blk.at_ hT.1 0
  have c1 : w.cell? ⟨h, 0, none⟩ = some (.bool m) := Blk.at_ hT.2.1 0
  have f0 : w.frozen? ⟨g, 0, none⟩ = false := Blk.frozen hT.1 0
  have f1 : w.frozen? ⟨h, 0, none⟩ = false := Blk.frozen hT.2.1 0
  have hne := hT.2.2
  have hne2 : ¬ h = g := fun e => hne e.symm
  have HT := Lib.hid hT; clear hT
  have C1 : Hid (∀ W, Glb B W → Calls Tryd.prog 27 #[.string (bOf r), .string ⟨#[46]⟩] W fun e w' => e = .returned (.tuple #[.string (bOf (cutD r).1), .string (bOf (cutD r).2.1), .bool (cutD r).2.2]) ∧ ∃ k, w' = W.drewN k) := fun W hW => by
    have := cut_dot (bOf r) W hW (by rw [size_bOf]; exact hs)
    rw [toList_bOf] at this
    exact this
  have C2 : Hid (∀ W, Glb B W → Calls Tryd.prog 28 #[.string (bOf (cutD r).1)] W fun e w' => e = .returned (.tuple #[.int .u8 (nB (cutD r).1).toNat, .bool (nO (cutD r).1)]) ∧ Below W.heap.size W w') := fun W hW => by
    have := number_any (bOf (cutD r).1) W hW (by rw [size_bOf]; have := (cutD_size r).1; omega)
    rw [toList_bOf] at this
    exact this
  have HG := Lib.hid hG; clear hG
  generalize nB (cutD r).1 = b at *
  generalize nO (cutD r).1 = o at *
  generalize (cutD r).2.2 = m' at *
  generalize hr' : (cutD r).2.1 = r' at *
  generalize (cutD r).1 = t at *
  clear hr'
  go_enter Tryd.func26, Tryd.ntmps26
  go_wp2_with fail
  refine (C1.out _ HG.out).mono ?_
  rintro e w1 ⟨rfl, q, hw1⟩
  have HW : Hid (w1 = w.drewN q) := hw1
  have d0 : w1.cell? ⟨g, 0, none⟩ = some (.string (bOf r)) := by rw [hw1]; exact c0
  have d1 : w1.cell? ⟨h, 0, none⟩ = some (.bool m) := by rw [hw1]; exact c1
  have e0 : w1.frozen? ⟨g, 0, none⟩ = false := by rw [hw1]; exact f0
  have e1 : w1.frozen? ⟨h, 0, none⟩ = false := by rw [hw1]; exact f1
  clear hw1 c0 c1 f0 f1 C1
  have HT1 : Hid (Two w1 g h r m) := by show Two _ _ _ _ _; rw [HW.out]; exact HT.out
  have HM1 : Hid (Moves (fun k => k = g ∨ k = h) w w1) := by show Moves _ _ _; rw [HW.out]; exact (Moves.refl _ w).drewN q
  clear HW
  obtain ⟨V, hV, HV⟩ : ∃ V, (w1.setCell ⟨g, 0, none⟩ (.string (bOf r'))).setCell ⟨h, 0, none⟩ (.bool m') = V ∧ Hid (Two V g h r' m' ∧ Moves (fun k => k = g ∨ k = h) w V) := by
    refine ⟨_, rfl, ⟨?_, ?_, hne⟩, ?_⟩
    · have h1 := Blk.set HT1.out.1 0 (.string (bOf r'))
      exact (Below.heap_setCell _ ⟨h, 0, none⟩ _ g hne).trans h1
    · have h1 : Blk (w1.setCell ⟨g, 0, none⟩ (.string (bOf r'))) h [.bool m] 4 := (Below.heap_setCell _ ⟨g, 0, none⟩ _ h hne2).trans HT1.out.2.1
      exact Blk.set h1 0 (.bool m')
    · exact (HM1.out.setCell ⟨g, 0, none⟩ (fun _ => .inl rfl) _).setCell ⟨h, 0, none⟩ (fun _ => .inr rfl) _
  have HGV : Hid (Glb B V) := HG.out.moves HV.out.2 (fun k hk => by rcases hk with rfl | rfl <;> assumption)
  clear hg hh
  go_wp2_with fail
  refine (C2.out _ HGV.out).mono ?_
  rintro e w2 ⟨rfl, hb2⟩
  have HT2 : Hid (Two w2 g h r' m') := ⟨Blk.callee HV.out.1.1 hb2, Blk.callee HV.out.1.2.1 hb2, hne⟩
  have HM2 : Hid (Moves (fun k => k = g ∨ k = h) w w2) := HV.out.2.trans (Moves.of_below hb2) (fun _ _ x => x)
  clear hb2 C2 hV HV HGV HT1 HM1 d0 d1 e0 e1
  go_wp2
  go_ret2
  exact ⟨rfl, HT2.out, HM2.out⟩
/-- What stands ahead of word k. -/
def Rds (s : ByteArray) (g k : Nat) (w wr : World) (bs r : List UInt8) (m : Bool) : Prop :=
  rd s = (rdn (4 - k) r m).map (bs ++ ·) ∧ bs.length = k ∧ r.length ≤ s.size ∧ Two wr g (g + 1) r m ∧ Blk wr (g + 1 + 1) (bytesV (bs ++ List.replicate (4 - k) 0)) 62 ∧ Below w.heap.size w wr
theorem rd_none {s : ByteArray} (h : rd s = none) : (rdV s).toNat = 0 ∧ rdE s = 7 := by unfold rdV rdE; rw [h]; exact ⟨rfl, rfl⟩
theorem rd_some {s : ByteArray} {bs : List UInt8} (h : rd s = some bs) : (rdV s).toNat = val bs ∧ rdE s = 0 := by
  unfold rdV rdE
  rw [h]
  have hl := val_lt bs
  rw [rdn_length _ _ _ _ h] at hl
  refine ⟨?_, rfl⟩
  show (UInt32.ofNat (val bs)).toNat = _
  rw [UInt32.toNat_ofNat', Nat.mod_eq_of_lt (by omega)]
theorem Rds.bad {s : ByteArray} {g k : Nat} {w wr : World} {bs r : List UInt8} {m : Bool} (h : Rds s g k w wr bs r m) (hk : k < 4) (hn : numb (cutD r).1 = none) : rd s = none := by
  obtain ⟨n, hn4⟩ : ∃ n, 4 - k = n + 1 := ⟨3 - k, by omega⟩
  rw [h.1, hn4, rdn, hn]
  rfl
theorem Rds.next {s : ByteArray} {g k : Nat} {w wr W' : World} {bs r : List UInt8} {m : Bool} {b : UInt8} (h : Rds s g k w wr bs r m) (hk : k < 4) (hn : numb (cutD r).1 = some b) (hg : g = w.heap.size) (hT : Two W' g (g + 1) (cutD r).2.1 (cutD r).2.2) (hM : Moves (fun j => j = g ∨ j = g + 1) wr W') :
    W'.cell? ⟨g + 1 + 1, k, none⟩ = some (.int .u8 0) ∧ W'.frozen? ⟨g + 1 + 1, k, none⟩ = false ∧ Rds s g (k + 1) w (W'.setCell ⟨g + 1 + 1, k, none⟩ (.int .u8 b.toNat)) (bs ++ [b]) (cutD r).2.1 (cutD r).2.2 := by
  obtain ⟨h1, h2, h3, h4, h5, h6⟩ := h
  obtain ⟨n, hn4⟩ : ∃ n, 4 - k = n + 1 := ⟨3 - k, by omega⟩
  have hB := Blk.moves h5 hM (fun e => by rcases e with e | e <;> omega)
  have e5 : bytesV (bs ++ List.replicate (4 - k) 0) = bytesV bs ++ (.int .u8 0 :: bytesV (List.replicate n 0)) := by
    rw [hn4, List.replicate_succ, bytesV_append]
    rfl
  have hat : (bytesV (bs ++ List.replicate (4 - k) 0))[k]? = some (.int .u8 0) := by
    rw [e5, List.getElem?_append_right (by rw [bytesV_length]; omega), bytesV_length, h2, Nat.sub_self]
    rfl
  refine ⟨by rw [Blk.at_ hB, hat], Blk.frozen hB k, ?_, by rw [List.length_append, h2]; rfl, Nat.le_trans (cutD_size r).2 h3, ⟨?_, ?_, hT.2.2⟩, ?_, ?_⟩
  · rw [h1, hn4, rdn, hn, show 4 - (k + 1) = n by omega]
    simp only [Option.map_map]
    congr 1
    funext t
    simp
  · exact (Below.heap_setCell _ ⟨g + 1 + 1, k, none⟩ _ g (by show g ≠ g + 1 + 1; omega)).trans hT.1
  · exact (Below.heap_setCell _ ⟨g + 1 + 1, k, none⟩ _ (g + 1) (by show g + 1 ≠ g + 1 + 1; omega)).trans hT.2.1
  · have := Blk.set hB k (.int .u8 b.toNat)
    rw [e5, List.set_append_right _ _ (by rw [bytesV_length]; omega), bytesV_length, h2, Nat.sub_self, List.set_cons_zero] at this
    rw [show 4 - (k + 1) = n by omega, List.append_assoc, bytesV_append]
    exact this
  · exact (h6.trans (hM.below h6.size (fun j hj => by rcases hj with e | e <;> omega))).setCell (p := ⟨g + 1 + 1, k, none⟩) (show w.heap.size ≤ g + 1 + 1 by omega) _
set_option maxHeartbeats 4000000 in
set_option maxRecDepth 100000 in
/-- Read. -/
theorem read_any (s : ByteArray) (w : World) {B : Nat} (hG : Glb B w) (hs : s.size ≤ 100) : Calls Tryd.prog 17 #[.string s] w fun e w' => e = .returned (.tuple #[.int .u32 (rdV s).toNat, .int .i64 (rdE s)]) ∧ Below w.heap.size w w' := by
  have hmf : ∀ (fn : Fn) (first cap : Array Value) (w : World), (Instr.makeFunc fn first cap).run Tryd.prog w = .ok (.func fn first cap) w := fun _ _ _ _ => rfl
  have HG := Lib.hid hG; clear hG
  have HS := Lib.hid hs; clear hs
  obtain ⟨W, hW, HW⟩ : ∃ W, ((w.alloc (.cells #[.string s] 9)).alloc (.cells #[.bool true] 4)).alloc (.cells #[.int .u8 0, .int .u8 0, .int .u8 0, .int .u8 0] 62) = W ∧ Hid (Rds s w.heap.size 0 w W [] s.toList true) := by
    refine ⟨_, rfl, ?_, rfl, ?_, ⟨?_, ?_, by omega⟩, ?_, ((((Below.refl w.heap.size w).alloc (Nat.le_refl _) _).alloc (by simp) _).alloc (by simp; omega) _)⟩
    · show rd s = (rdn 4 s.toList true).map _
      unfold rd
      cases rdn 4 s.toList true <;> rfl
    · rw [← size_toList]; exact Nat.le_refl _
    · have := blk_new w [.string s] 9
      rw [bOf_toList]
      exact Blk.alloc (Blk.alloc this _) _
    · have := blk_new (w.alloc (.cells #[.string s] 9)) [.bool true] 4
      rw [show (w.alloc (.cells #[.string s] 9)).heap.size = w.heap.size + 1 by simp] at this
      exact Blk.alloc this _
    · have := blk_new ((w.alloc (.cells #[.string s] 9)).alloc (.cells #[.bool true] 4)) [.int .u8 0, .int .u8 0, .int .u8 0, .int .u8 0] 62
      rw [show ((w.alloc (.cells #[.string s] 9)).alloc (.cells #[.bool true] 4)).heap.size = w.heap.size + 1 + 1 by simp] at this
      exact this
  go_enter Tryd.func17, Tryd.ntmps17
  go_wp2
  go_loopw [13] (fun i wr => ∃ (k : Nat) (bs r : List UInt8) (m : Bool), k ≤ 4 ∧ i = .int .i64 k ∧ Hid (Rds s w.heap.size k w wr bs r m)) (fun i _ => 4 - (intOf i).toNat)
  case atStart => exact ⟨0, [], s.toList, true, by omega, rfl, HW⟩
  case round =>
    obtain ⟨k, bs, r, m, hk, rfl, HR⟩ := hrel
    have HGr := Lib.hid (HG.out.callee HR.out.2.2.2.2.2)
    by_cases hlt : k < 4
    · have hl1 : (k : Int) < 4 := by omega
      have C := Lib.hid (next_any w.heap.size (w.heap.size + 1) r m wr HGr.out HR.out.2.2.2.1 HG.out.lim (Nat.le_succ_of_le HG.out.lim) (Nat.le_trans HR.out.2.2.1 HS.out))
      go_wp2_with fail
      refine C.out.mono ?_
      rintro e w1 ⟨rfl, hT, hM⟩
      rcases hn : numb (cutD r).1 with _ | b
      · have HN := Lib.hid (rd_none (HR.out.bad hlt hn))
        have hno : nO (cutD r).1 = false := by unfold nO; rw [hn]; rfl
        have HB := Lib.hid (HR.out.2.2.2.2.2.trans (hM.below HR.out.2.2.2.2.2.size (fun j hj => by rcases hj with e | e <;> omega)))
        rw [hno]
        clear hn hno hT hM
        generalize nB (cutD r).1 = c at *
        go_wp2
        go_ret2
        rw [HN.out.1, HN.out.2]
        exact ⟨rfl, HB.out⟩
      · have HN := Lib.hid (HR.out.next hlt hn rfl hT hM)
        have hno : nO (cutD r).1 = true := by unfold nO; rw [hn]; rfl
        have hnb : nB (cutD r).1 = b := by unfold nB; rw [hn]; rfl
        rw [hno, hnb]
        have c0 := HN.out.1
        have f0 := HN.out.2.1
        have HR2 := Lib.hid HN.out.2.2
        clear hn hno hnb hT hM C HN
        generalize (cutD r).2.1 = r' at *
        generalize (cutD r).2.2 = m' at *
        go_wp2
        go_roundw
        case rel => exact ⟨k + 1, bs ++ [b], r', m', by omega, by go_num, HR2⟩
        case measure => simp [intOf]; omega
    · have HK : Hid (k = 4) := by show k = 4; omega
      have hl1 : ¬ (k : Int) < 4 := by omega
      have c0 : wr.cell? ⟨w.heap.size + 1, 0, none⟩ = some (.bool m) := Blk.at_ HR.out.2.2.2.1.2.1 0
      have h1 := HR.out.1
      rw [show 4 - k = 0 by omega] at h1
      have HB := Lib.hid HR.out.2.2.2.2.2
      cases m
      · have h2 : rd s = some bs := by rw [h1]; show some (bs ++ []) = _; rw [List.append_nil]
        have HN := Lib.hid (rd_some h2)
        have hbl : bs.length = 4 := by rw [HR.out.2.1]; omega
        have hcv : (convert 63 9 (.slice (some ⟨w.heap.size + 1 + 1, 0, none⟩) 4 4)).run Tryd.prog wr = .ok (.string (bOf bs)) wr := by
          have h3 := HR.out.2.2.2.2.1
          have hz : bs ++ List.replicate (4 - k) 0 = bs := by rw [show 4 - k = 0 by omega]; simp
          rw [hz] at h3
          have := conv_blk (o := 0) (n := 4) (c := 4) (src := 63) (dst := 9) Tryd.underlying63 Tryd.underlying5 Tryd.underlying9 h3 (by omega)
          rw [List.drop_zero, List.take_of_length_le (by omega)] at this
          exact this
        have C : Hid (∀ W, Calls Tryd.prog 29 #[.string (bOf bs)] W fun e w' => e = .returned (.tuple #[.int .u32 (rdV s).toNat, .int .i64 (rdE s)]) ∧ ∃ q, w' = W.drewN q) := fun W => by
          have := get32_any (bOf bs) W (by rw [size_bOf, hbl]; unfold maxLen; omega)
          rw [HN.out.1, HN.out.2]
          have hz : (bOf bs).size = 4 := by rw [size_bOf, hbl]
          have e1 : getN 4 (bOf bs) = val bs := by unfold getN; rw [if_neg (by omega), if_neg (by omega), toList_bOf]
          have e2 : getE 4 (bOf bs) = 0 := by unfold getE; rw [if_neg (by omega), if_neg (by omega)]
          rw [e1, e2] at this
          exact this
        generalize bOf bs = t at *
        clear h1 h2 hbl HN
        go_wp2_with fail
        refine (C.out _).mono ?_
        rintro e w2 ⟨rfl, q, hw2⟩
        have HB2 : Hid (Below w.heap.size w w2) := by show Below _ _ _; rw [hw2]; exact HB.out.drewN' q
        clear hw2
        go_wp2
        go_ret2
        exact ⟨rfl, HB2.out⟩
      · have HN := Lib.hid (rd_none (by rw [h1]; rfl))
        clear h1
        go_wp2
        go_ret2
        rw [HN.out.1, HN.out.2]
        exact ⟨rfl, HB.out⟩
end Go.Proofs.YtlbnbbpokphgbaaDoor.Ipc
