/- Contract of package option's finds: it goes over the items of a text, in order, up to where a round says 'no more'. -/
import Derived.Test.YtbmifcfgpmgcpaaOptG
namespace Go.Proofs.Ytbmifcfgpmgcpaa.Opt
open Go.RowKit Go.Shelf Go.Proofs.Ytbmifcfgpmgcpaa.Oct Go.Proofs.Ytbmifcfgpmgcpaa.Row Go.Proofs.Ytbmifcfgpmgcpaa.Mem
attribute [local go_sem] Oper.semAt_some

/-- An item, as a round is handed it. -/
def encI (x : Item) : Array Value := #[.int .i64 (x.1 : Nat), .agg #[.int .u8 x.2.1.1.toNat, .string x.2.1.2, .int .i64 (x.2.2 : Nat)]]
/-- What a round keeps: the text in its box, and whatever options were found. -/
def KeepsF (b : Nat) (s : ByteArray) (W W' : World) : Prop :=
  (Boxed W b 9 (.string s) → Boxed W' b 9 (.string s)) ∧ ∀ g o e, FAt W g o e → FAt W' g o e
theorem keepsF_t {b : Nat} {s : ByteArray} {A B C : World} (h : KeepsF b s A B) (k : KeepsF b s B C) : KeepsF b s A C := ⟨fun x => k.1 (h.1 x), fun g o e x => k.2 g o e (h.2 g o e x)⟩
theorem keepsF_b {b : Nat} {s : ByteArray} {w : World} (W : World) (l : Nat) (o o' : Obj) (_ : w.heap.size ≤ l) (h : W.heap[l]? = some o) (hc : o.isCells = false) (_ : o.isWalk = false) : KeepsF b s W (W.putObj l o') := by
  refine ⟨fun hx => hx.kept (grownBy_putObj' W l o') (fun e => by cases e; rw [show W.heap[b]? = _ from hx] at h; cases h; cases hc), fun g o2 e hx => ?_⟩
  have hne : some g ≠ some l := fun e' => by cases e'; rw [show W.heap[l]? = _ from hx] at h; cases h; cases hc
  exact ((grownBy_putObj' W l o').block g (Blk.lt hx) hne).trans hx
/-- New blocks keep all. -/
theorem keepsF_new {b : Nat} {s : ByteArray} {W W' : World} (h : Below W.heap.size W W') : KeepsF b s W W' :=
  ⟨fun hx => (h.block b hx.lt).trans hx, fun _ _ _ hx => (h.block _ (Blk.lt hx)).trans hx⟩
theorem grown_of_below {W W' : World} (h : Below W.heap.size W W') : W.grownBy W' none := ⟨h.os, h.tape, h.output, h.size, fun k hk _ => h.block k hk⟩
theorem ne_zero {e : Nat} (h : ¬ e = 0) : ((e : Int) != 0) = true := by
  have : ¬ (e : Int) = 0 := by omega
  simpa using this
theorem is_zero {e : Nat} (h : e = 0) : ((e : Int) != 0) = false := by rw [h]; rfl
theorem seq_at (s : ByteArray) (k : Nat) (h : k < s.size) (o : Opt) (e : Nat) (hr : rd (s.toList.drop k) = (o, e)) : (e = 0 → seq (s.toList.drop k) k = (k, o, 0) :: seq (s.toList.drop (k + (2 + o.2.size))) (k + (2 + o.2.size)) ∧ k + (2 + o.2.size) ≤ s.size) ∧ (¬ e = 0 → seq (s.toList.drop k) k = [(k, o, e)]) := by
  have hne := drop_ne h
  refine ⟨fun he => ?_, fun he => ?_⟩
  · have h0 : (rd (s.toList.drop k)).2 = 0 := by rw [hr]; exact he
    have hg := (rd_good h0).2.2
    rw [hr, List.length_drop, ← size_toList] at hg
    simp only at hg
    refine ⟨?_, by omega⟩
    rw [seq_good hne h0, hr, List.drop_drop]
  · have h0 : (rd (s.toList.drop k)).2 ≠ 0 := by rw [hr]; exact he
    rw [seq_bad hne h0, hr]

set_option maxHeartbeats 4000000 in
set_option maxRecDepth 100000 in
theorem finds1_in (n : Nat) (hn : 1 ≤ n) (l b : Nat) (s : ByteArray) (hs : s.size ≤ 1496) (J Jx : List Item → World → Prop) (W : World) (hJ : AbidesFrom W.heap.size J)
    (hY : ∀ pre x W, J pre W → pre.length < s.size → YieldAt Fence.wide (n - 1) Try.prog l (encI x) W fun e W' =>
      (e = .returned (.bool true) ∧ J (pre ++ [x]) W' ∧ KeepsF b s W W') ∨ (e = .returned (.bool false) ∧ Jx (pre ++ [x]) W'))
    (hb : Boxed W b 9 (.string s)) (h0 : J [] W) :
    CallsIn Fence.wide n Try.prog 25 #[.func (.yield l) #[] #[], .pointer (some ⟨b, 0, none⟩)] W fun e W' => (∃ v, e = .returned v) ∧
      ((∃ ys, ys = seq s.toList 0 ∧ J ys W') ∨ (∃ pre, pre <+: seq s.toList 0 ∧ Jx pre W')) := by
  have hb' := hb.cell
  have HJ := Lib.hid hJ; clear hJ
  refine callsIn_of_wp Try.func25 rfl trivial ?_
  simp only [Try.ntmps25, List.size_toArray, List.length_cons, List.length_nil, Nat.reduceAdd, Nat.reduceSub, Array.replicate_succ, Array.replicate_zero, List.push_toArray, List.append_toArray, List.nil_append, List.cons_append]
  gi_wp2
  gi_loopw [3] (fun i wr => ∃ (k : Nat) (pre : List Item), k ≤ s.size ∧ i = .int .i64 k ∧ pre.length ≤ k ∧ Hid (seq s.toList 0 = pre ++ seq (s.toList.drop k) k) ∧ J pre wr ∧ Boxed wr b 9 (.string s))
    (fun i _ => s.size - (intOf i).toNat)
  case atStart => exact ⟨0, [], Nat.zero_le _, rfl, Nat.le_refl _, by show _ = _; rw [List.drop_zero, List.nil_append], h0, hb⟩
  case round =>
    obtain ⟨k, pre, hk, rfl, hpk, HS, hJs, hB⟩ := hrel
    have hc := hB.cell
    have HB := Lib.hid hB; clear hB
    by_cases hlt : k < s.size
    · obtain ⟨⟨o, e⟩, hrd⟩ : ∃ r, rd (s.toList.drop k) = r := ⟨_, rfl⟩
      have Hsq := Lib.hid (seq_at s k hlt o e hrd)
      have HU : Hid ((s.extract k s.size).toList = s.toList.drop k) := by show _ = _; rw [extract_rest, toList_bOf]
      have HR := Lib.hid (read_any (s.extract k s.size) wr (by rw [extract_rest, size_bOf, List.length_drop, ← size_toList]; omega))
      rw [HU.out] at HR
      unfold ReadQ at HR
      rw [hrd] at HR
      clear hrd HU
      have hkI : (k : Int) < (s.size : Int) := by omega
      gi_wp2_with (refine ⟨trivial, ?_⟩; gi_at_call 26; refine (callsIn_wide.2 HR.out).mono ?_; rintro e1 w1 ⟨rfl, hb1⟩; have hb2 := hb1.alloc hb1.size (.cells #[.int .u8 o.1.toNat, .string o.2, .int .i64 (e : Nat)] 47); have HF := Lib.hid (fat_new w1 o e); have HB2 := Lib.hid ((hb2.block b HB.out.lt).trans HB.out : Boxed _ b 9 (.string s)); have hJ2 := HJ.out pre wr _ none hJs (grown_of_below hb2) (fun r e => by cases e); obtain ⟨fn, tmps, assign, body, hy, hR⟩ := hY pre (k, o, e) _ hJ2 (by omega); dsimp only [encI] at hy; clear hb1 hb2)
      refine hR.mono ?_
      rintro e3 W3 (⟨rfl, hJ3, hk3⟩ | ⟨rfl, hJx3⟩)
      · have hB3 := hk3.1 HB2.out
        have HB3 := Lib.hid hB3
        have hc3 := hB3.cell
        have hF3 := hk3.2 _ _ _ HF.out
        have d1 := hF3.c1
        have d2 := hF3.c2
        have Hk3 := Lib.hid hk3
        clear hB3 hF3 hk3
        by_cases he : e = 0
        · have hx := is_zero he
          have HQ := Lib.hid (Hsq.out.1 he)
          have HE : Hid ((k, o, e) = (k, o, 0)) := by show _ = _; rw [he]
          have hle : k + (2 + o.2.size) ≤ s.size := HQ.out.2
          clear he Hsq
          gi_wp2
          go_roundw
          case rel => exact ⟨k + (2 + o.2.size), pre ++ [(k, o, e)], by omega, by go_num, by rw [List.length_append]; simp; omega, by show _ = _; rw [HS.out, HQ.out.1, HE.out, List.append_assoc, List.singleton_append], hJ3, HB3.out⟩
          case measure => simp [intOf]; omega
        · have hx := ne_zero he
          have HQ := Lib.hid (Hsq.out.2 he)
          clear he Hsq
          gi_wp2
          refine bodyPost_ret (results_none rfl _ _ _) rfl ?_
          exact ⟨⟨_, rfl⟩, .inl ⟨pre ++ [(k, o, e)], by rw [HS.out, HQ.out], hJ3⟩⟩
      · have HQ : Hid (pre ++ [(k, o, e)] <+: seq s.toList 0) := by
          show _ <+: _
          rw [HS.out]
          by_cases he : e = 0
          · rw [(Hsq.out.1 he).1, he]
            exact ⟨_, by rw [List.append_assoc, List.singleton_append]⟩
          · rw [Hsq.out.2 he]
            exact List.prefix_refl _
        clear Hsq
        gi_wp2
        refine bodyPost_ret (results_none rfl _ _ _) rfl ?_
        exact ⟨⟨_, rfl⟩, .inr ⟨_, HQ.out, hJx3⟩⟩
    · have HE : Hid (seq s.toList 0 = pre) := by
        show _ = _
        rw [HS.out, List.drop_eq_nil_of_le (by rw [← size_toList]; omega), seq_nil, List.append_nil]
      gi_wp2
      go_end0
      exact ⟨⟨_, rfl⟩, .inl ⟨pre, HE.out.symm, hJs⟩⟩

theorem finds_stops (n : Nat) (hn : 1 ≤ n) (b : Nat) (s : ByteArray) (hs : s.size ≤ 1496) (w : World) (hb : Boxed w b 9 (.string s)) :
    SeqStopsK Fence.wide n Try.prog 25 #[.pointer (some ⟨b, 0, none⟩)] encI (KeepsF b s) (fun ys => ys = seq s.toList 0) (fun pre => pre <+: seq s.toList 0) s.size w := fun l J Jx W hW hJ _ hY h0 =>
  finds1_in n hn l b s hs J Jx W hJ hY ((hW.block b hb.lt).trans hb) h0

set_option maxHeartbeats 400000 in
theorem finds_in (n : Nat) (s : ByteArray) (w : World) :
    CallsIn Fence.wide n Try.prog 19 #[.string s] w fun e w' => e = .returned (.func (.func 25) #[] #[.pointer (some ⟨w.heap.size, 0, none⟩)]) ∧ w' = w.alloc (.cells #[.string s] 9) := by
  refine callsIn_of_wp Try.func19 rfl trivial ?_
  simp only [Try.ntmps19, List.size_toArray, List.length_cons, List.length_nil, Nat.reduceAdd, Nat.reduceSub, Array.replicate_succ, Array.replicate_zero, List.push_toArray, List.append_toArray, List.nil_append, List.cons_append]
  gi_wp2
  go_ret
  exact ⟨rfl, rfl⟩
end Go.Proofs.Ytbmifcfgpmgcpaa.Opt
