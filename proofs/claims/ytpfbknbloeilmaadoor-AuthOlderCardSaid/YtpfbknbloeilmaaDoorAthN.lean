/- New machines. -/
import Derived.Test.YtpfbknbloeilmaaDoorAthD
import Derived.Test.YtpfbknbloeilmaaDoorAthCf
import Derived.Test.YtpfbknbloeilmaaDoorTxt
namespace Go.Proofs.YtpfbknbloeilmaaDoor.Ath
open Go.RowKit Go.Proofs.YtpfbknbloeilmaaDoor.Oct Go.Proofs.YtpfbknbloeilmaaDoor.Row Go.Proofs.YtpfbknbloeilmaaDoor.Mem

def cfA (c : Cf) : Value := .agg (cfV c).toArray
theorem kind_eqb (k n : UInt8) : ((k.toNat : Int) == (n.toNat : Int)) = (k == n) := by
  rw [Bool.eq_iff_iff]
  simp only [beq_iff_eq]
  exact ⟨fun e => UInt8.toNat_inj.1 (by omega), fun e => by rw [e]⟩
set_option maxHeartbeats 2000000 in
set_option maxRecDepth 100000 in
theorem valid_any (c : Cf) (w : World) : Calls Tryd.prog 46 #[cfA c] w fun e w' => e = .returned (.bool (mayC c)) ∧ Below w.heap.size w w' := by
  obtain ⟨W, hW⟩ : ∃ W, w.alloc (.cells #[.int .u8 c.kind.toNat, .int .i64 c.tries, .int .i64 c.wait, .int .i64 c.again] 23) = W := ⟨_, rfl⟩
  have hb := blk_new w [.int .u8 c.kind.toNat, .int .i64 c.tries, .int .i64 c.wait, .int .i64 c.again] 23
  rw [show w.alloc (.cells [.int .u8 c.kind.toNat, .int .i64 c.tries, .int .i64 c.wait, .int .i64 c.again].toArray 23) = W from hW] at hb
  have HB : Hid (Below w.heap.size w W) := by rw [← hW]; exact (Below.refl _ w).alloc (Nat.le_refl _) _
  have c0 : W.cell? ⟨w.heap.size, 0, none⟩ = some (.int .u8 c.kind.toNat) := hb.at_ 0
  have c1 : W.cell? ⟨w.heap.size, 1, none⟩ = some (.int .i64 c.tries) := hb.at_ 1
  have c2 : W.cell? ⟨w.heap.size, 2, none⟩ = some (.int .i64 c.wait) := hb.at_ 2
  have c3 : W.cell? ⟨w.heap.size, 3, none⟩ = some (.int .i64 c.again) := hb.at_ 3
  have k1 : ((c.kind.toNat : Int) == 1) = (c.kind == 1) := kind_eqb c.kind 1
  have k2 : ((c.kind.toNat : Int) == 2) = (c.kind == 2) := kind_eqb c.kind 2
  have HM : Hid (mayC c = ((((((((c.kind == 1 || c.kind == 2) && decide (1 ≤ c.tries)) && decide (c.tries ≤ 20)) && decide (1 ≤ c.wait)) && decide (c.wait ≤ 1000)) && decide (0 ≤ c.again)) && decide (c.again ≤ 100000)))) := rfl
  generalize mayC c = r at *
  unfold cfA cfV
  generalize (c.kind == 1) = a1 at *
  generalize (c.kind == 2) = a2 at *
  clear hb
  go_enter Tryd.func46, Tryd.ntmps46
  go_wp2
  all_goals (go_ret; exact ⟨by first | (have hq := HM.out; simp_all; done) | (have hq := HM.out; simp_all; omega), HB.out⟩)

/-! ### what is too long -/
def longB (l : List ByteArray) : Bool := l.any fun s => decide (255 < s.size)
set_option maxHeartbeats 1000000 in
set_option maxRecDepth 100000 in
theorem tooLong_any (s : ByteArray) (w : World) (hs : s.size ≤ maxLen) : Calls Tryd.prog 45 #[.string s] w fun e w' => e = .returned (.bool (decide (255 < s.size))) ∧ w' = w := by
  unfold maxLen at hs
  have hd : decide ((255 : Int) < (s.size : Int)) = decide (255 < s.size) := by
    by_cases h : 255 < s.size
    · rw [decide_eq_true h, decide_eq_true (by omega)]
    · rw [decide_eq_false h, decide_eq_false (by omega)]
  generalize decide (255 < s.size) = r at *
  go_enter Tryd.func45, Tryd.ntmps45
  go_wp2
  go_ret
  exact ⟨rfl, rfl⟩
theorem long_take {l : List ByteArray} {k : Nat} {s : ByteArray} (h : l[k]? = some s) (h0 : longB (l.take k) = false) : (255 < s.size → longB l = true) ∧ (¬ 255 < s.size → longB (l.take (k + 1)) = false) := by
  obtain ⟨hk, e⟩ := List.getElem?_eq_some_iff.1 h
  constructor
  · intro hs
    unfold longB
    rw [List.any_eq_true]
    exact ⟨s, by rw [← e]; exact List.getElem_mem hk, decide_eq_true hs⟩
  · intro hs
    rw [List.take_succ_eq_append_getElem hk, e]
    unfold longB at *
    rw [List.any_append, h0]
    simp only [List.any_cons, List.any_nil, Bool.or_false, Bool.false_or]
    exact decide_eq_false hs
def IdxQ (l : List ByteArray) (w : World) (e : Ending) (w' : World) : Prop := ∃ r : Int, e = .returned (.int .i64 r) ∧ decide (0 ≤ r) = longB l ∧ w' = w
set_option maxHeartbeats 1000000 in
set_option maxRecDepth 100000 in
theorem index_any (l : List ByteArray) (B : Nat) (A : Option Addr) (n c : Nat) (w : World) (hl : Strs w B A n l) (hn : n ≤ 1000) :
    Calls Tryd.prog 71 #[.slice A n c, .func (.func 45) #[] #[]] w (IdxQ l w) := by
  have Hn := Lib.hid hl.1
  have Hl := Lib.hid hl; clear hl
  go_enter Tryd.func71, Tryd.ntmps71
  go_wp2
  go_loopw [8] (fun i wr => ∃ k : Nat, k ≤ n ∧ i = .int .i64 k ∧ Hid (longB (l.take k) = false) ∧ wr = w) (fun i _ => n - (intOf i).toNat)
  case atStart => exact ⟨0, Nat.zero_le _, rfl, rfl, rfl⟩
  case round =>
    obtain ⟨k, hk, rfl, HT, rfl⟩ := hrel
    by_cases hlt : k < n
    · obtain ⟨ad, s, rfl, hB, ho, hc0⟩ := Hl.out.at_ hlt
      have Hst := Lib.hid (long_take ho HT.out)
      have HC := Lib.hid (tooLong_any s wr (Hl.out.2.1 s (List.mem_of_getElem? ho)))
      clear ho
      by_cases e1 : 255 < s.size
      · have HF := Lib.hid (Hst.out.1 e1)
        rw [decide_eq_true e1] at HC
        clear e1
        go_wp2_with fail
        refine HC.out.mono ?_
        rintro e w1 ⟨rfl, rfl⟩
        go_wp2
        go_ret
        exact ⟨k, rfl, by rw [HF.out, decide_eq_true (by omega)], rfl⟩
      · have HT2 := Lib.hid (Hst.out.2 e1)
        rw [decide_eq_false e1] at HC
        clear e1
        go_wp2_with fail
        refine HC.out.mono ?_
        rintro e w1 ⟨rfl, rfl⟩
        go_wp2
        go_roundw
        case rel => exact ⟨k + 1, by omega, by go_num, HT2, by first | rfl | trivial⟩
        case measure => simp [intOf]; omega
    · obtain rfl : k = n := by omega
      have HF : Hid (longB l = false) := by
        have h := HT.out
        rw [List.take_of_length_le (by rw [Hn.out]; exact Nat.le_refl _)] at h
        exact h
      go_wp2
      go_ret
      exact ⟨-1, rfl, by rw [HF.out]; rfl, rfl⟩
set_option maxHeartbeats 1000000 in
set_option maxRecDepth 100000 in
theorem contains_any (l : List ByteArray) (B : Nat) (A : Option Addr) (n c : Nat) (w : World) (hl : Strs w B A n l) (hn : n ≤ 1000) :
    Calls Tryd.prog 47 #[.slice A n c, .func (.func 45) #[] #[]] w fun e w' => e = .returned (.bool (longB l)) ∧ w' = w := by
  have HI := Lib.hid (index_any l B A n c w hl hn)
  unfold IdxQ at HI
  generalize longB l = r at *
  clear hl
  go_enter Tryd.func47, Tryd.ntmps47
  go_wp2_with fail
  refine HI.out.mono ?_
  rintro e w1 ⟨q, rfl, hq, rfl⟩
  go_wp2
  go_ret
  exact ⟨rfl, rfl⟩

/-! ### a new machine -/
def mz : List Value := [.int .u8 0, .int .i64 0, .int .i64 0, .string ⟨#[]⟩, .int .u8 0, .int .u8 0, .int .i64 0, .int .i64 0]
def m0 (c : Cf) (name : ByteArray) : Mc := ⟨c.kind, c.tries, c.wait, name, 0, 0, 0, 0⟩
def okN (c : Cf) (name : ByteArray) (l : List ByteArray) : Bool := mayC c && (!decide (255 < name.size) && !longB l)
def nmV (c : Cf) (name : ByteArray) (l : List ByteArray) : Value := if okN c name l then .tuple #[.agg (mV (m0 c name)).toArray, .int .i64 0] else .tuple #[.agg mz.toArray, .int .i64 2]
set_option maxHeartbeats 2000000 in
set_option maxRecDepth 100000 in
theorem newMachine_any (c : Cf) (name : ByteArray) (l : List ByteArray) (A : Option Addr) (n cap : Nat) (w : World) (hl : Strs w w.heap.size A n l) (hn : n ≤ 1000) (hz : name.size ≤ maxLen) :
    Calls Tryd.prog 23 #[cfA c, .string name, .slice A n cap] w fun e w' => e = .returned (nmV c name l) ∧ Below w.heap.size w w' := by
  obtain ⟨W, hW⟩ : ∃ W, (w.alloc (.cells #[.int .u8 c.kind.toNat, .int .i64 c.tries, .int .i64 c.wait, .int .i64 c.again] 23)).alloc (.cells #[.int .u8 0, .int .i64 0, .int .i64 0, .string ⟨#[]⟩, .int .u8 0, .int .u8 0, .int .i64 0, .int .i64 0] 63) = W := ⟨_, rfl⟩
  have s1 : (w.alloc (.cells #[.int .u8 c.kind.toNat, .int .i64 c.tries, .int .i64 c.wait, .int .i64 c.again] 23)).heap.size = w.heap.size + 1 := World.size_alloc _ _
  have HX0 : Hid (Blk W w.heap.size [.int .u8 c.kind.toNat, .int .i64 c.tries, .int .i64 c.wait, .int .i64 c.again] 23) := by rw [← hW]; exact (blk_new w [.int .u8 c.kind.toNat, .int .i64 c.tries, .int .i64 c.wait, .int .i64 c.again] 23).alloc _
  have HR0 : Hid (Blk W (w.heap.size + 1) [.int .u8 0, .int .i64 0, .int .i64 0, .string ⟨#[]⟩, .int .u8 0, .int .u8 0, .int .i64 0, .int .i64 0] 63) := by
    have := blk_new (w.alloc (.cells #[.int .u8 c.kind.toNat, .int .i64 c.tries, .int .i64 c.wait, .int .i64 c.again] 23)) [.int .u8 0, .int .i64 0, .int .i64 0, .string ⟨#[]⟩, .int .u8 0, .int .u8 0, .int .i64 0, .int .i64 0] 63
    rw [s1] at this
    rw [← hW]; exact this
  have HB : Hid (Below w.heap.size w W) := by rw [← hW]; exact ((Below.refl _ w).alloc (Nat.le_refl _) _).alloc (by rw [s1]; exact Nat.le_succ _) _
  have x0 := HX0.out.at_ 0
  have x1 := HX0.out.at_ 1
  have x2 := HX0.out.at_ 2
  have x3 := HX0.out.at_ 3
  simp only [List.getElem?_cons_zero, List.getElem?_cons_succ] at x0 x1 x2 x3
  have HV := Lib.hid (valid_any c W)
  unfold cfA cfV at HV ⊢
  have HT := Lib.hid (fun W => tooLong_any name W hz)
  have HL : Hid (∀ W', Below w.heap.size w W' → Calls Tryd.prog 47 #[.slice A n cap, .func (.func 45) #[] #[]] W' fun e w' => e = .returned (.bool (longB l)) ∧ w' = W') := fun W' hb => contains_any l w.heap.size A n cap W' (hl.below hb) hn
  have HQZ : Hid (okN c name l = (mayC c && (!decide (255 < name.size) && !longB l))) := rfl
  unfold nmV
  generalize okN c name l = q at *
  generalize mayC c = a at *
  generalize decide (255 < name.size) = b at *
  generalize longB l = d at *
  unfold m0 mV mz
  clear hl hz s1
  cases a
  · have hq : q = false := HQZ.out
    subst hq
    clear HT HL HQZ
    simp only [Bool.false_eq_true, if_false]
    go_enter Tryd.func23, Tryd.ntmps23
    go_wp2_with fail
    refine HV.out.mono ?_
    rintro e w1 ⟨rfl, hb⟩
    have HR := Lib.hid (HR0.out.callee hb)
    have HB1 := Lib.hid (HB.out.trans (hb.mono HB.out.size))
    clear hb
    have c0 := HR.out.at_ 0
    have f0 := HR.out.frozen 0
    have c1 := HR.out.at_ 1
    have f1 := HR.out.frozen 1
    have c2 := HR.out.at_ 2
    have f2 := HR.out.frozen 2
    have c3 := HR.out.at_ 3
    have f3 := HR.out.frozen 3
    have c4 := HR.out.at_ 4
    have f4 := HR.out.frozen 4
    have c5 := HR.out.at_ 5
    have f5 := HR.out.frozen 5
    have c6 := HR.out.at_ 6
    have f6 := HR.out.frozen 6
    have c7 := HR.out.at_ 7
    have f7 := HR.out.frozen 7
    simp only [List.getElem?_cons_zero, List.getElem?_cons_succ] at c0 c1 c2 c3 c4 c5 c6 c7
    have HQ := Lib.hid ((((((((HR.out.set 0 (.int .u8 0)).set 1 (.int .i64 0)).set 2 (.int .i64 0)).set 3 (.string ⟨#[]⟩)).set 4 (.int .u8 0)).set 5 (.int .u8 0)).set 6 (.int .i64 0)).set 7 (.int .i64 0))
    have HE := Lib.hid ((((((((HB1.out.setCell (p := ⟨w.heap.size + 1, 0, none⟩) (Nat.le_succ _) (.int .u8 0)).setCell (p := ⟨w.heap.size + 1, 1, none⟩) (Nat.le_succ _) (.int .i64 0)).setCell (p := ⟨w.heap.size + 1, 2, none⟩) (Nat.le_succ _) (.int .i64 0)).setCell (p := ⟨w.heap.size + 1, 3, none⟩) (Nat.le_succ _) (.string ⟨#[]⟩)).setCell (p := ⟨w.heap.size + 1, 4, none⟩) (Nat.le_succ _) (.int .u8 0)).setCell (p := ⟨w.heap.size + 1, 5, none⟩) (Nat.le_succ _) (.int .u8 0)).setCell (p := ⟨w.heap.size + 1, 6, none⟩) (Nat.le_succ _) (.int .i64 0)).setCell (p := ⟨w.heap.size + 1, 7, none⟩) (Nat.le_succ _) (.int .i64 0))
    go_wp2
    (try simp only [Exit.inBlock, Exit.then])
    refine bodyPost_ret (results_row1 rfl _ _ (w.heap.size + 1) [.int .u8 0, .int .i64 0, .int .i64 0, .string ⟨#[]⟩, .int .u8 0, .int .u8 0, .int .i64 0, .int .i64 0] _ _ rfl (by exact HQ.out) Tryd.underlying63 rfl (by kernel_rfl)) rfl ?_
    exact ⟨rfl, by exact HE.out⟩
  · cases b
    · cases d
      · have hq : q = true := HQZ.out
        subst hq
        clear HQZ
        simp only [if_true]
        go_enter Tryd.func23, Tryd.ntmps23
        go_wp2_with fail
        refine HV.out.mono ?_
        rintro e w1 ⟨rfl, hb⟩
        have HR := Lib.hid (HR0.out.callee hb)
        have HX := Lib.hid (HX0.out.callee hb)
        have HB1 := Lib.hid (HB.out.trans (hb.mono HB.out.size))
        clear hb x0 x1 x2 x3
        have x0 := HX.out.at_ 0
        have x1 := HX.out.at_ 1
        have x2 := HX.out.at_ 2
        have x3 := HX.out.at_ 3
        simp only [List.getElem?_cons_zero, List.getElem?_cons_succ] at x0 x1 x2 x3
        have c0 := HR.out.at_ 0
        have f0 := HR.out.frozen 0
        have c1 := HR.out.at_ 1
        have f1 := HR.out.frozen 1
        have c2 := HR.out.at_ 2
        have f2 := HR.out.frozen 2
        have c3 := HR.out.at_ 3
        have f3 := HR.out.frozen 3
        have c4 := HR.out.at_ 4
        have f4 := HR.out.frozen 4
        have c5 := HR.out.at_ 5
        have f5 := HR.out.frozen 5
        have c6 := HR.out.at_ 6
        have f6 := HR.out.frozen 6
        have c7 := HR.out.at_ 7
        have f7 := HR.out.frozen 7
        simp only [List.getElem?_cons_zero, List.getElem?_cons_succ] at c0 c1 c2 c3 c4 c5 c6 c7
        go_wp2_with fail
        refine (HT.out _).mono ?_
        rintro e w2 ⟨rfl, rfl⟩
        go_wp2_with fail
        refine (HL.out _ HB1.out).mono ?_
        rintro e w3 ⟨rfl, rfl⟩
        have HQ := Lib.hid ((((((((HR.out.set 0 (.int .u8 c.kind.toNat)).set 1 (.int .i64 c.tries)).set 2 (.int .i64 c.wait)).set 3 (.string name)).set 4 (.int .u8 0)).set 5 (.int .u8 0)).set 6 (.int .i64 0)).set 7 (.int .i64 0))
        have HE := Lib.hid ((((((((HB1.out.setCell (p := ⟨w.heap.size + 1, 0, none⟩) (Nat.le_succ _) (.int .u8 c.kind.toNat)).setCell (p := ⟨w.heap.size + 1, 1, none⟩) (Nat.le_succ _) (.int .i64 c.tries)).setCell (p := ⟨w.heap.size + 1, 2, none⟩) (Nat.le_succ _) (.int .i64 c.wait)).setCell (p := ⟨w.heap.size + 1, 3, none⟩) (Nat.le_succ _) (.string name)).setCell (p := ⟨w.heap.size + 1, 4, none⟩) (Nat.le_succ _) (.int .u8 0)).setCell (p := ⟨w.heap.size + 1, 5, none⟩) (Nat.le_succ _) (.int .u8 0)).setCell (p := ⟨w.heap.size + 1, 6, none⟩) (Nat.le_succ _) (.int .i64 0)).setCell (p := ⟨w.heap.size + 1, 7, none⟩) (Nat.le_succ _) (.int .i64 0))
        go_wp2
        (try simp only [Exit.inBlock, Exit.then])
        refine bodyPost_ret (results_row1 rfl _ _ (w.heap.size + 1) [.int .u8 c.kind.toNat, .int .i64 c.tries, .int .i64 c.wait, .string name, .int .u8 0, .int .u8 0, .int .i64 0, .int .i64 0] _ _ rfl (by exact HQ.out) Tryd.underlying63 rfl (by kernel_rfl)) rfl ?_
        exact ⟨rfl, by exact HE.out⟩
      · have hq : q = false := HQZ.out
        subst hq
        clear HQZ
        simp only [Bool.false_eq_true, if_false]
        go_enter Tryd.func23, Tryd.ntmps23
        go_wp2_with fail
        refine HV.out.mono ?_
        rintro e w1 ⟨rfl, hb⟩
        have HR := Lib.hid (HR0.out.callee hb)
        have HB1 := Lib.hid (HB.out.trans (hb.mono HB.out.size))
        clear hb
        have c0 := HR.out.at_ 0
        have f0 := HR.out.frozen 0
        have c1 := HR.out.at_ 1
        have f1 := HR.out.frozen 1
        have c2 := HR.out.at_ 2
        have f2 := HR.out.frozen 2
        have c3 := HR.out.at_ 3
        have f3 := HR.out.frozen 3
        have c4 := HR.out.at_ 4
        have f4 := HR.out.frozen 4
        have c5 := HR.out.at_ 5
        have f5 := HR.out.frozen 5
        have c6 := HR.out.at_ 6
        have f6 := HR.out.frozen 6
        have c7 := HR.out.at_ 7
        have f7 := HR.out.frozen 7
        simp only [List.getElem?_cons_zero, List.getElem?_cons_succ] at c0 c1 c2 c3 c4 c5 c6 c7
        go_wp2_with fail
        refine (HT.out _).mono ?_
        rintro e w2 ⟨rfl, rfl⟩
        go_wp2_with fail
        refine (HL.out _ HB1.out).mono ?_
        rintro e w3 ⟨rfl, rfl⟩
        have HQ := Lib.hid ((((((((HR.out.set 0 (.int .u8 0)).set 1 (.int .i64 0)).set 2 (.int .i64 0)).set 3 (.string ⟨#[]⟩)).set 4 (.int .u8 0)).set 5 (.int .u8 0)).set 6 (.int .i64 0)).set 7 (.int .i64 0))
        have HE := Lib.hid ((((((((HB1.out.setCell (p := ⟨w.heap.size + 1, 0, none⟩) (Nat.le_succ _) (.int .u8 0)).setCell (p := ⟨w.heap.size + 1, 1, none⟩) (Nat.le_succ _) (.int .i64 0)).setCell (p := ⟨w.heap.size + 1, 2, none⟩) (Nat.le_succ _) (.int .i64 0)).setCell (p := ⟨w.heap.size + 1, 3, none⟩) (Nat.le_succ _) (.string ⟨#[]⟩)).setCell (p := ⟨w.heap.size + 1, 4, none⟩) (Nat.le_succ _) (.int .u8 0)).setCell (p := ⟨w.heap.size + 1, 5, none⟩) (Nat.le_succ _) (.int .u8 0)).setCell (p := ⟨w.heap.size + 1, 6, none⟩) (Nat.le_succ _) (.int .i64 0)).setCell (p := ⟨w.heap.size + 1, 7, none⟩) (Nat.le_succ _) (.int .i64 0))
        go_wp2
        (try simp only [Exit.inBlock, Exit.then])
        refine bodyPost_ret (results_row1 rfl _ _ (w.heap.size + 1) [.int .u8 0, .int .i64 0, .int .i64 0, .string ⟨#[]⟩, .int .u8 0, .int .u8 0, .int .i64 0, .int .i64 0] _ _ rfl (by exact HQ.out) Tryd.underlying63 rfl (by kernel_rfl)) rfl ?_
        exact ⟨rfl, by exact HE.out⟩
    · have hq : q = false := HQZ.out
      subst hq
      clear HQZ HL
      simp only [Bool.false_eq_true, if_false]
      go_enter Tryd.func23, Tryd.ntmps23
      go_wp2_with fail
      refine HV.out.mono ?_
      rintro e w1 ⟨rfl, hb⟩
      have HR := Lib.hid (HR0.out.callee hb)
      have HB1 := Lib.hid (HB.out.trans (hb.mono HB.out.size))
      clear hb
      have c0 := HR.out.at_ 0
      have f0 := HR.out.frozen 0
      have c1 := HR.out.at_ 1
      have f1 := HR.out.frozen 1
      have c2 := HR.out.at_ 2
      have f2 := HR.out.frozen 2
      have c3 := HR.out.at_ 3
      have f3 := HR.out.frozen 3
      have c4 := HR.out.at_ 4
      have f4 := HR.out.frozen 4
      have c5 := HR.out.at_ 5
      have f5 := HR.out.frozen 5
      have c6 := HR.out.at_ 6
      have f6 := HR.out.frozen 6
      have c7 := HR.out.at_ 7
      have f7 := HR.out.frozen 7
      simp only [List.getElem?_cons_zero, List.getElem?_cons_succ] at c0 c1 c2 c3 c4 c5 c6 c7
      go_wp2_with fail
      refine (HT.out _).mono ?_
      rintro e w2 ⟨rfl, rfl⟩
      have HQ := Lib.hid ((((((((HR.out.set 0 (.int .u8 0)).set 1 (.int .i64 0)).set 2 (.int .i64 0)).set 3 (.string ⟨#[]⟩)).set 4 (.int .u8 0)).set 5 (.int .u8 0)).set 6 (.int .i64 0)).set 7 (.int .i64 0))
      have HE := Lib.hid ((((((((HB1.out.setCell (p := ⟨w.heap.size + 1, 0, none⟩) (Nat.le_succ _) (.int .u8 0)).setCell (p := ⟨w.heap.size + 1, 1, none⟩) (Nat.le_succ _) (.int .i64 0)).setCell (p := ⟨w.heap.size + 1, 2, none⟩) (Nat.le_succ _) (.int .i64 0)).setCell (p := ⟨w.heap.size + 1, 3, none⟩) (Nat.le_succ _) (.string ⟨#[]⟩)).setCell (p := ⟨w.heap.size + 1, 4, none⟩) (Nat.le_succ _) (.int .u8 0)).setCell (p := ⟨w.heap.size + 1, 5, none⟩) (Nat.le_succ _) (.int .u8 0)).setCell (p := ⟨w.heap.size + 1, 6, none⟩) (Nat.le_succ _) (.int .i64 0)).setCell (p := ⟨w.heap.size + 1, 7, none⟩) (Nat.le_succ _) (.int .i64 0))
      go_wp2
      (try simp only [Exit.inBlock, Exit.then])
      refine bodyPost_ret (results_row1 rfl _ _ (w.heap.size + 1) [.int .u8 0, .int .i64 0, .int .i64 0, .string ⟨#[]⟩, .int .u8 0, .int .u8 0, .int .i64 0, .int .i64 0] _ _ rfl (by exact HQ.out) Tryd.underlying63 rfl (by kernel_rfl)) rfl ?_
      exact ⟨rfl, by exact HE.out⟩

/-! ### a new server -/
def NewQ (s : Sv) (w : World) (e : Ending) (w' : World) : Prop := ∃ g, e = .returned (.tuple #[ptr g, .int .i64 0]) ∧ w.heap.size ≤ g ∧ SAt w' g s ∧ Below w.heap.size w w'
theorem pv_new (c : Cf) (name : ByteArray) : pv (newS c name) = [.int .u8 c.kind.toNat, .int .i64 c.tries, .int .i64 c.wait, .string name, .int .u8 0, .int .u8 0, .int .i64 0, .int .i64 0, .int .i64 c.again, .string ⟨#[]⟩, .string ⟨#[]⟩, .int .u8 0, .int .u8 0, .string ⟨#[]⟩] := by
  have h : (if pap c then (0 : Int) else 0) = 0 := by cases pap c <;> rfl
  show mV ⟨c.kind, c.tries, c.wait, name, 0, 0, if pap c then 0 else 0, 0⟩ ++ _ = _
  rw [h]
  rfl
theorem strs_nil' (w : World) : Strs w w.heap.size none 0 [] := ⟨rfl, (fun _ h => by cases h), fun h => absurd h (Nat.lt_irrefl 0)⟩
set_option maxHeartbeats 2000000 in
set_option maxRecDepth 100000 in
theorem newServer_ok (c : Cf) (name : ByteArray) (w : World) (hz : name.size ≤ 255) (hm : mayC c = true) :
    Calls Tryd.prog 5 #[cfA c, .string name] w (NewQ (newS c name) w) := by
  obtain ⟨W, hW⟩ : ∃ W, w.alloc (.cells #[.int .u8 c.kind.toNat, .int .i64 c.tries, .int .i64 c.wait, .int .i64 c.again] 23) = W := ⟨_, rfl⟩
  have HX0 : Hid (Blk W w.heap.size [.int .u8 c.kind.toNat, .int .i64 c.tries, .int .i64 c.wait, .int .i64 c.again] 23) := by rw [← hW]; exact blk_new w [.int .u8 c.kind.toNat, .int .i64 c.tries, .int .i64 c.wait, .int .i64 c.again] 23
  have HB : Hid (Below w.heap.size w W) := by rw [← hW]; exact (Below.refl _ w).alloc (Nat.le_refl _) _
  have x0 := HX0.out.at_ 0
  have x1 := HX0.out.at_ 1
  have x2 := HX0.out.at_ 2
  have x3 := HX0.out.at_ 3
  simp only [List.getElem?_cons_zero, List.getElem?_cons_succ] at x0 x1 x2 x3
  have hl : decide (255 < name.size) = false := decide_eq_false (by omega)
  have HN : Hid (Calls Tryd.prog 23 #[cfA c, .string name, .slice none 0 0] W fun e w' => e = .returned (.tuple #[.agg (mV (m0 c name)).toArray, .int .i64 0]) ∧ Below W.heap.size W w') := by
    have := newMachine_any c name [] none 0 0 W (strs_nil' W) (by omega) (by unfold maxLen; omega)
    rw [show nmV c name [] = .tuple #[.agg (mV (m0 c name)).toArray, .int .i64 0] from by unfold nmV okN; rw [hm, hl]; rfl] at this
    exact this
  have HPv := Lib.hid (pv_new c name)
  unfold m0 mV cfA cfV at HN
  unfold cfA cfV
  clear hz hm hl
  go_enter Tryd.func5, Tryd.ntmps5
  go_wp2_with fail
  refine HN.out.mono ?_
  rintro e w1 ⟨rfl, hb⟩
  have HX := Lib.hid ((HX0.out.callee hb).alloc (.cells #[.int .u8 c.kind.toNat, .int .i64 c.tries, .int .i64 c.wait, .string name, .int .u8 0, .int .u8 0, .int .i64 0, .int .i64 0] 63))
  have HB1 := Lib.hid (HB.out.trans (hb.mono HB.out.size))
  have HB2 := Lib.hid (HB1.out.alloc HB1.out.size (.cells #[.int .u8 c.kind.toNat, .int .i64 c.tries, .int .i64 c.wait, .string name, .int .u8 0, .int .u8 0, .int .i64 0, .int .i64 0] 63))
  have HY : Hid (Blk (w1.alloc (.cells #[.int .u8 c.kind.toNat, .int .i64 c.tries, .int .i64 c.wait, .string name, .int .u8 0, .int .u8 0, .int .i64 0, .int .i64 0] 63)) w1.heap.size [.int .u8 c.kind.toNat, .int .i64 c.tries, .int .i64 c.wait, .string name, .int .u8 0, .int .u8 0, .int .i64 0, .int .i64 0] 63) := blk_new w1 [.int .u8 c.kind.toNat, .int .i64 c.tries, .int .i64 c.wait, .string name, .int .u8 0, .int .u8 0, .int .i64 0, .int .i64 0] 63
  clear hb x0 x1 x2 x3 hW
  go_upto_region 2 with (fail)
  generalize hmb : w1.heap.size = mb at *
  generalize hV : w1.alloc (.cells #[.int .u8 c.kind.toNat, .int .i64 c.tries, .int .i64 c.wait, .string name, .int .u8 0, .int .u8 0, .int .i64 0, .int .i64 0] 63) = V at *
  clear hmb hV
  have y0 := HY.out.at_ 0
  have y1 := HY.out.at_ 1
  have y2 := HY.out.at_ 2
  have y3 := HY.out.at_ 3
  have y4 := HY.out.at_ 4
  have y5 := HY.out.at_ 5
  have y6 := HY.out.at_ 6
  have y7 := HY.out.at_ 7
  simp only [List.getElem?_cons_zero, List.getElem?_cons_succ] at y0 y1 y2 y3 y4 y5 y6 y7
  have x3 : V.cell? ⟨w.heap.size, 3, none⟩ = some (.int .i64 c.again) := HX.out.at_ 3
  have HL : Hid (w.heap.size ≤ V.heap.size) := HB2.out.size
  have HQ : Hid (SAt (V.alloc (.cells #[.int .u8 c.kind.toNat, .int .i64 c.tries, .int .i64 c.wait, .string name, .int .u8 0, .int .u8 0, .int .i64 0, .int .i64 0, .int .i64 c.again, .string ⟨#[]⟩, .string ⟨#[]⟩, .int .u8 0, .int .u8 0, .string ⟨#[]⟩] 67)) V.heap.size (newS c name)) := by
    unfold SAt
    rw [HPv.out]
    exact blk_new V [.int .u8 c.kind.toNat, .int .i64 c.tries, .int .i64 c.wait, .string name, .int .u8 0, .int .u8 0, .int .i64 0, .int .i64 0, .int .i64 c.again, .string ⟨#[]⟩, .string ⟨#[]⟩, .int .u8 0, .int .u8 0, .string ⟨#[]⟩] _
  have HE := Lib.hid (HB2.out.alloc HL.out (.cells #[.int .u8 c.kind.toNat, .int .i64 c.tries, .int .i64 c.wait, .string name, .int .u8 0, .int .u8 0, .int .i64 0, .int .i64 0, .int .i64 c.again, .string ⟨#[]⟩, .string ⟨#[]⟩, .int .u8 0, .int .u8 0, .string ⟨#[]⟩] 67))
  go_wp2
  go_ret2
  exact ⟨_, rfl, HL.out, HQ.out, HE.out⟩
set_option maxHeartbeats 2000000 in
set_option maxRecDepth 100000 in
theorem newServer_no (c : Cf) (name : ByteArray) (w : World) (hz : name.size ≤ maxLen) (hm : (mayC c && !decide (255 < name.size)) = false) :
    Calls Tryd.prog 5 #[cfA c, .string name] w fun e w' => e = .returned (.tuple #[.pointer none, .int .i64 2]) ∧ Below w.heap.size w w' := by
  obtain ⟨W, hW⟩ : ∃ W, w.alloc (.cells #[.int .u8 c.kind.toNat, .int .i64 c.tries, .int .i64 c.wait, .int .i64 c.again] 23) = W := ⟨_, rfl⟩
  have HX0 : Hid (Blk W w.heap.size [.int .u8 c.kind.toNat, .int .i64 c.tries, .int .i64 c.wait, .int .i64 c.again] 23) := by rw [← hW]; exact blk_new w [.int .u8 c.kind.toNat, .int .i64 c.tries, .int .i64 c.wait, .int .i64 c.again] 23
  have HB : Hid (Below w.heap.size w W) := by rw [← hW]; exact (Below.refl _ w).alloc (Nat.le_refl _) _
  have x0 := HX0.out.at_ 0
  have x1 := HX0.out.at_ 1
  have x2 := HX0.out.at_ 2
  have x3 := HX0.out.at_ 3
  simp only [List.getElem?_cons_zero, List.getElem?_cons_succ] at x0 x1 x2 x3
  have HN : Hid (Calls Tryd.prog 23 #[cfA c, .string name, .slice none 0 0] W fun e w' => e = .returned (.tuple #[.agg mz.toArray, .int .i64 2]) ∧ Below W.heap.size W w') := by
    have := newMachine_any c name [] none 0 0 W (strs_nil' W) (by omega) hz
    rw [show nmV c name [] = .tuple #[.agg mz.toArray, .int .i64 2] from by
      unfold nmV okN longB
      have h2 : (mayC c && (!decide (255 < name.size) && !([] : List ByteArray).any fun s => decide (255 < s.size))) = false := by simpa using hm
      rw [h2]; rfl] at this
    exact this
  unfold mz cfA cfV at HN
  unfold cfA cfV
  clear hz hm
  go_enter Tryd.func5, Tryd.ntmps5
  go_wp2_with fail
  refine HN.out.mono ?_
  rintro e w1 ⟨rfl, hb⟩
  have HB1 := Lib.hid (HB.out.trans (hb.mono HB.out.size))
  have HB2 := Lib.hid (HB1.out.alloc HB1.out.size (.cells #[.int .u8 0, .int .i64 0, .int .i64 0, .string ⟨#[]⟩, .int .u8 0, .int .u8 0, .int .i64 0, .int .i64 0] 63))
  clear hb x0 x1 x2 x3 hW
  go_wp2
  go_ret2
  exact ⟨rfl, HB2.out⟩
end Go.Proofs.YtpfbknbloeilmaaDoor.Ath
