/- Put together: OptRf, OptFn. -/
import Derived.Test.YtpppggicihfbgaaGreatGOpts
import Derived.OwnWalk
import Derived.Maps.AppendAt
import Derived.RangeFuncBox

/- Contract of the document's Find. -/
namespace Go.Proofs.YtpppggicihfbgaaGreat.Opt
open Go.RowKit Go.Proofs.YtpppggicihfbgaaGreat.Oct Go.Proofs.YtpppggicihfbgaaGreat.Row Go.Proofs.YtpppggicihfbgaaGreat.Mem

theorem fd_take {t : UInt8} {l : List Opt} {k : Nat} {o : Opt} (h : l[k]? = some o) (hn : fd t (l.take k) = none) : (o.1 = t → fd t l = some o) ∧ (¬ o.1 = t → fd t (l.take (k + 1)) = none) := by
  obtain ⟨hk, rfl⟩ := List.getElem?_eq_some_iff.1 h
  unfold fd at *
  refine ⟨fun e => ?_, fun e => ?_⟩
  · have hd : l = l.take k ++ (l[k] :: l.drop (k + 1)) := by rw [← List.drop_eq_getElem_cons hk, List.take_append_drop]
    conv => lhs; rw [hd]
    rw [List.find?_append, hn, List.find?_cons_of_pos (by simpa using e)]
    rfl
  · rw [List.take_succ_eq_append_getElem hk, List.find?_append, hn, List.find?_cons_of_neg (by simpa using e)]
    rfl
theorem fAB_some {t : UInt8} {l : List Opt} {o : Opt} (h : fd t l = some o) : fA t l = o ∧ fB t l = true := by unfold fA fB; rw [h]; exact ⟨rfl, rfl⟩
theorem fAB_none {t : UInt8} {l : List Opt} (h : fd t l = none) : fA t l = (0, ByteArray.empty) ∧ fB t l = false := by unfold fA fB; rw [h]; exact ⟨rfl, rfl⟩
end Go.Proofs.YtpppggicihfbgaaGreat.Opt

/- Contract of package option's Find. -/
namespace Go.Proofs.YtpppggicihfbgaaGreat.Opt
open Go.RowKit Go.Proofs.YtpppggicihfbgaaGreat.Oct Go.Proofs.YtpppggicihfbgaaGreat.Row Go.Proofs.YtpppggicihfbgaaGreat.Mem

theorem own_callee {w w' : World} {base n size : Nat} {e : TypeId} {v : Value} {xs : List Value} (h : w.ownsRow base e size v n xs) (hb : Below w.heap.size w w') : w'.ownsRow base e size v n xs := (Moves.of_below (S := fun _ => False) hb).row h (fun _ _ x => x)
set_option maxHeartbeats 400000 in
set_option maxRecDepth 100000 in
theorem is_any (o : Opt) (t : UInt8) (g : Nat) (w : World) (hg : Boxed w g 5 (.int .u8 t.toNat)) :
    Calls Tryz.prog 184 #[.agg #[.int .u8 o.1.toNat, .string o.2], .pointer (some ⟨g, 0, none⟩)] w fun e w' => e = .returned (.bool (o.1 == t)) ∧ Below w.heap.size w w' := by
  have HB := Lib.hid ((Below.refl w.heap.size w).alloc (Nat.le_refl _) (.cells #[.int .u8 o.1.toNat, .string o.2] 177))
  have hc : (w.alloc (.cells #[.int .u8 o.1.toNat, .string o.2] 177)).cell? ⟨g, 0, none⟩ = some (.int .u8 t.toNat) := (hg.alloc _).cell
  have hlt := hg.lt
  clear hg
  by_cases h : o.1 = t
  · have HE : Hid ((o.1 == t) = true) := by show _ = _; simp [h]
    have hx : ((o.1.toNat : Int) == (t.toNat : Int)) = true := by rw [h]; simp
    clear h
    go_enter Tryz.func184, Tryz.ntmps184
    go_wp2
    go_ret
    exact ⟨by rw [HE.out] <;> rfl, HB.out⟩
  · have HE : Hid ((o.1 == t) = false) := by show _ = _; simpa using h
    have hx := no_byte h
    clear h
    go_enter Tryz.func184, Tryz.ntmps184
    go_wp2
    go_ret
    exact ⟨by rw [HE.out] <;> rfl, HB.out⟩
def IdxQ (t : UInt8) (l : List Opt) (n : Nat) (w : World) (e : Ending) (w' : World) : Prop :=
  ((∃ k o, k < n ∧ l[k]? = some o ∧ fd t l = some o ∧ e = .returned (.int .i64 (k : Nat))) ∨ (fd t l = none ∧ e = .returned (.int .i64 (-1)))) ∧ Below w.heap.size w w'
set_option maxHeartbeats 1000000 in
set_option maxRecDepth 100000 in
theorem index_any (t : UInt8) (g : Nat) (l : List Opt) (B : Nat) (A : Option Addr) (n c : Nat) (w : World) (hg : Boxed w g 5 (.int .u8 t.toNat)) (hl : Opts w B A n l) (hn : n ≤ maxLen) (hBw : B ≤ w.heap.size) :
    Calls Tryz.prog 163 #[.slice A n c, .func (.func 184) #[] #[.pointer (some ⟨g, 0, none⟩)]] w (IdxQ t l n w) := by
  have Hn := Lib.hid hl.1
  have Hl := Lib.hid hl; clear hl
  have Hg := Lib.hid hg; clear hg
  unfold maxLen at hn
  go_enter Tryz.func163, Tryz.ntmps163
  go_wp2
  go_loopw [8] (fun i wr => ∃ k : Nat, k ≤ n ∧ i = .int .i64 k ∧ Hid (fd t (l.take k) = none) ∧ Below w.heap.size w wr) (fun i _ => n - (intOf i).toNat)
  case atStart => exact ⟨0, Nat.zero_le _, rfl, rfl, Below.refl _ _⟩
  case round =>
    obtain ⟨k, hk, rfl, HT, hb⟩ := hrel
    by_cases hlt : k < n
    · obtain ⟨ad, o, rfl, hB, ho, hS1, hc0, hc1⟩ := (Hl.out.below (hb.mono hBw)).at_ hlt
      have Hst := Lib.hid (fd_take (t := t) ho HT.out)
      have Ho := Lib.hid ho
      have HC := Lib.hid (is_any o t g wr ((hb.block g Hg.out.lt).trans Hg.out))
      clear ho
      by_cases e1 : o.1 = t
      · have HF := Lib.hid (Hst.out.1 e1)
        have HE : Hid ((o.1 == t) = true) := by show _ = _; simp [e1]
        rw [HE.out] at HC
        clear e1
        go_wp2_with fail
        refine HC.out.mono ?_
        rintro e w1 ⟨rfl, hb1⟩
        have HB1 := Lib.hid (hb.trans (hb1.mono hb.size)); clear hb1
        go_wp2
        go_ret
        exact ⟨.inl ⟨k, o, hlt, Ho.out, HF.out, rfl⟩, HB1.out⟩
      · have HT2 := Lib.hid (Hst.out.2 e1)
        have HE : Hid ((o.1 == t) = false) := by show _ = _; simpa using e1
        rw [HE.out] at HC
        clear e1
        go_wp2_with fail
        refine HC.out.mono ?_
        rintro e w1 ⟨rfl, hb1⟩
        have HB1 := Lib.hid (hb.trans (hb1.mono hb.size)); clear hb1
        go_wp2
        go_roundw
        case rel => exact ⟨k + 1, by omega, by go_num, HT2, HB1.out⟩
        case measure => simp [intOf]; omega
    · obtain rfl : k = n := by omega
      have HF : Hid (fd t l = none) := by
        have h := HT.out
        rw [List.take_of_length_le (by rw [Hn.out]; exact Nat.le_refl _)] at h
        exact h
      go_wp2
      go_ret
      exact ⟨.inr ⟨HF.out, rfl⟩, hb⟩
set_option maxHeartbeats 1000000 in
set_option maxRecDepth 100000 in
theorem find_any (t : UInt8) (l : List Opt) (B : Nat) (A : Option Addr) (n c : Nat) (w : World) (hl : Opts w B A n l) (hn : n ≤ maxLen) (hBw : B ≤ w.heap.size) :
    Calls Tryz.prog 165 #[.int .u8 t.toNat, .slice A n c] w fun e w' => e = .returned (.tuple #[.agg #[.int .u8 (fA t l).1.toNat, .string (fA t l).2], .bool (fB t l)]) ∧ Below w.heap.size w w' := by
  have Hl := Lib.hid hl; clear hl
  have hn' := hn
  unfold maxLen at hn'
  obtain ⟨W, hW, HW⟩ : ∃ W, (w.alloc (.cells #[.int .u8 t.toNat] 5)).alloc (.cells #[.int .u8 0, .string ⟨#[]⟩] 177) = W ∧ Hid (At W (w.heap.size + 1) (0, ⟨#[]⟩) ∧ Boxed W w.heap.size 5 (.int .u8 t.toNat) ∧ Below w.heap.size w W ∧ W.heap.size = w.heap.size + 1 + 1) := by
    refine ⟨_, rfl, ?_, (Boxed.new w _ _).alloc _, ((Below.refl w.heap.size w).alloc (Nat.le_refl _) _).alloc (by rw [World.size_alloc]; exact Nat.le_succ _) _, by rw [World.size_alloc, World.size_alloc]⟩
    have := at_new (w.alloc (.cells #[.int .u8 t.toNat] 5)) 0 ⟨#[]⟩
    rw [World.size_alloc] at this
    exact this
  have HL := Lib.hid (Hl.out.below (HW.out.2.2.1.mono hBw))
  have HWz := Lib.hid HW.out.2.2.2
  have hBW : B ≤ W.heap.size := by rw [HWz.out]; omega
  have HI := Lib.hid (index_any t w.heap.size l B A n c W HW.out.2.1 HL.out hn hBW)
  go_enter Tryz.func165, Tryz.ntmps165
  go_wp2_with fail
  refine HI.out.mono ?_
  rintro e w1 ⟨hq, hb1⟩
  clear hW
  have HA1 := Lib.hid (HW.out.1.callee hb1)
  have HL1 := Lib.hid (HL.out.callee hb1 hBW)
  have HB1 := Lib.hid (HW.out.2.2.1.trans (hb1.mono (by rw [HWz.out]; omega)))
  have f0 := Blk.frozen HA1.out 0
  have f1 := Blk.frozen HA1.out 1
  have c0 : w1.cell? ⟨w.heap.size + 1, 0, none⟩ = some (.int .u8 0) := HA1.out.c0
  have c1 : w1.cell? ⟨w.heap.size + 1, 1, none⟩ = some (.string ⟨#[]⟩) := HA1.out.c1
  clear HI HW HWz HL hb1
  generalize hg : w.heap.size = g at *
  have HG := Lib.hid hg
  clear hg
  rcases hq with ⟨k, o, hk, ho, hf, rfl⟩ | ⟨hf, rfl⟩
  · have HF := Lib.hid (fAB_some hf)
    have Ho := Lib.hid ho
    obtain ⟨ad, o', rfl, hB, ho', hS1, hc0, hc1⟩ := HL1.out.at_ hk
    obtain rfl : o = o' := by rw [Ho.out] at ho'; exact Option.some.inj ho'
    clear ho ho' hf
    go_wp2
    have HR := HA1.out.set o
    have HBe := (HB1.out.setCell (p := ⟨g + 1, 0, none⟩) (Nat.le_succ _) (.int .u8 o.1.toNat)).setCell (p := ⟨g + 1, 1, none⟩) (Nat.le_succ _) (.string o.2)
    (try simp only [Exit.inBlock, Exit.then])
    refine bodyPost_ret (results_row1 rfl _ _ (g + 1) _ _ _ rfl HR Tryz.underlying177 rfl (by kernel_rfl)) rfl ?_
    rw [HF.out.1, HF.out.2]
    exact ⟨rfl, by rw [HG.out]; exact HBe⟩
  · have HF := Lib.hid (fAB_none hf)
    clear hf
    go_wp2
    have HR := HA1.out.set (0, ⟨#[]⟩)
    have HBe := (HB1.out.setCell (p := ⟨g + 1, 0, none⟩) (Nat.le_succ _) (.int .u8 0)).setCell (p := ⟨g + 1, 1, none⟩) (Nat.le_succ _) (.string ⟨#[]⟩)
    (try simp only [Exit.inBlock, Exit.then])
    refine bodyPost_ret (results_row1 rfl _ _ (g + 1) _ _ _ rfl HR Tryz.underlying177 rfl (by kernel_rfl)) rfl ?_
    rw [HF.out.1, HF.out.2]
    exact ⟨rfl, by rw [HG.out]; exact HBe⟩
end Go.Proofs.YtpppggicihfbgaaGreat.Opt
