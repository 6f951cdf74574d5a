/- The steps of HdlcPlays among the arguments; contract of 'long'. -/
import Derived.Test.YtfcmpnfdgfdclaaHdlL
import Derived.Deep.Slices
import Derived.Deep.Fields
import Derived.SizedLaws
import Derived.Deep.RegionHeld3
namespace Go.Proofs.Ytfcmpnfdgfdclaa.Hdl
open Go.ChangeShapes Go.WideShapes Go.RowKit Go.Deep Go.Proofs.Ytfcmpnfdgfdclaa.Oct Go.Proofs.Ytfcmpnfdgfdclaa.Row Go.Proofs.Ytfcmpnfdgfdclaa.Esc Go.Proofs.Ytfcmpnfdgfdclaa.Fcs

/-- One step, its five cells from ad on. -/
def StepAt (w : World) (ad : Addr) (S : ByteArray) (st : Bool) (m : Int) (a : Nat) (cp : Bool) : Prop :=
  w.cell? (ad.add 0) = some (.string S) ∧ w.cell? (ad.add 1) = some (.bool st) ∧ w.cell? (ad.add 2) = some (.int .i64 m) ∧ w.cell? (ad.add 3) = some (.int .u32 a) ∧ w.cell? (ad.add 4) = some (.bool cp)
/-- A slice of n steps, in blocks below B. -/
def Stps (w : World) (B : Nat) (A : Option Addr) (n : Nat) : Prop :=
  ∀ j, j < n → ∃ ad S st m a cp, A = some ad ∧ ad.block < B ∧ StepAt w (ad.add (j * 5)) S st m a cp ∧ S.size ≤ 140737488351232 ∧ a < 4294967296
theorem add_block (a : Addr) (i : Nat) : (a.add i).block = a.block := by unfold Addr.add; split <;> rfl
theorem StepAt.below {w w' : World} {B : Nat} {ad : Addr} {S : ByteArray} {st : Bool} {m : Int} {a : Nat} {cp : Bool} (h : StepAt w ad S st m a cp) (hb : Below B w w') (hB : ad.block < B) : StepAt w' ad S st m a cp := by
  obtain ⟨h0, h1, h2, h3, h4⟩ := h
  exact ⟨(hb.cell (by rw [add_block]; exact hB)).trans h0, (hb.cell (by rw [add_block]; exact hB)).trans h1, (hb.cell (by rw [add_block]; exact hB)).trans h2, (hb.cell (by rw [add_block]; exact hB)).trans h3, (hb.cell (by rw [add_block]; exact hB)).trans h4⟩
theorem Stps.below {w w' : World} {B : Nat} {A : Option Addr} {n : Nat} (h : Stps w B A n) (hb : Below B w w') : Stps w' B A n := fun j hj => by
  obtain ⟨ad, S, st, m, a, cp, hA, hB, hs, h1, h2⟩ := h j hj
  exact ⟨ad, S, st, m, a, cp, hA, hB, hs.below hb (by rw [add_block]; exact hB), h1, h2⟩
theorem all_mem {H : Type} {P : Program} {e : TypeId} : ∀ {l : List (DataW H)} {d : DataW H}, d ∈ l → ∀ n ∈ d.weights P e, n ∈ DataW.weightsAll P e l
  | x :: l, d, hd, n, hn => by
    rw [DataW.weightsAll, List.mem_append]
    rcases List.mem_cons.1 hd with rfl | hd
    · exact .inl hn
    · exact .inr (all_mem hd n hn)
theorem take_one {l : List Value} {i : Nat} {v : Value} (h : l[i]? = some v) : (l.drop i).take 1 = [v] := by
  obtain ⟨hi, rfl⟩ := List.getElem?_eq_some_iff.1 h
  rw [List.drop_eq_getElem_cons hi]
  rfl
theorem steps_of {H : Type} {enc : TypeId × Value → H} {P : Program} {W : World} {base : Nat} {t e : TypeId} {f0 f1 f2 f3 f4 : Field} {v : Value} {d : DataW H} {p : List MemPlace} (ht : P.underlying t = some (.slice e)) (he : P.underlying e = some (.struct #[f0, f1, f2, f3, f4]))
    (hone : oneCellFields P #[f0, f1, f2, f3, f4] = true) (hC : P.cellsOf e = 5) (u0 : P.underlying f0.type = some .string) (u1 : P.underlying f1.type = some .bool) (u2 : P.underlying f2.type = some (.int .i64)) (u3 : P.underlying f3.type = some (.int .u32)) (u4 : P.underlying f4.type = some .bool)
    (hv : Value.okWide P W .any base t v) (h : DataW.Trod enc P W 0 (fun _ => true) true t v d p) (hsz : ∀ n ∈ d.weights P t, n ≤ reachBytes) : ∃ A n c, v = .slice A n c ∧ n ≤ maxLen ∧ Stps W W.heap.size A n := by
  obtain ⟨a0, len, cap, rfl⟩ := okWide_slice ht hv
  obtain ⟨fuel, hf⟩ := h
  rcases open_slice ht hf with ⟨hcs, hx⟩ | ⟨a, len', cap', m, n, D, Pl, hcs, _, hl, hm, hmm, hx, hi⟩
  · simp [Value.cells] at hcs
    obtain ⟨rfl, rfl, rfl⟩ := hcs
    exact ⟨none, 0, 0, rfl, by simp [maxLen], fun j hj => absurd hj (Nat.not_lt_zero _)⟩
  · simp [Value.cells] at hcs
    obtain ⟨rfl, rfl, rfl⟩ := hcs
    refine ⟨some a, len, cap, rfl, by omega, fun j hj => ?_⟩
    have hjm : j < m := by rw [hmm]; simp; omega
    obtain ⟨cs, hc, htr⟩ := hi j hjm
    rw [hC] at hc
    obtain ⟨_, hcl, hat⟩ := World.cells?_some hc
    obtain ⟨xs, n', _, hD, _, hxl, hg⟩ := DataW.trod_struct he htr
    have key : ∀ (i : Nat) (f : Field), (#[f0, f1, f2, f3, f4] : Array Field)[i]? = some f → i < 5 → ∃ u y, cs[i]? = some u ∧ xs[i]? = some y ∧ DataW.trod enc P W 0 (fun _ => true) true n' f.type [u] = some y ∧ W.cell? ((a.add (j * 5)).add i) = some u := by
      intro i f hfi hi5
      obtain ⟨ho, hk⟩ := hone_of hone i f hfi
      have hu : cs[i]? = some (cs[i]'(by omega)) := List.getElem?_eq_getElem (by omega)
      have hy : xs[i]? = some (xs[i]'(by simp at hxl; omega)) := List.getElem?_eq_getElem (by simp at hxl; omega)
      have h1 := hg i f hfi
      rw [ho, hk, take_one hu] at h1
      exact ⟨_, _, hu, hy, h1.trans hy, (hat i hi5).trans hu⟩
    obtain ⟨v0, y0, _, e0, t0, k0⟩ := key 0 f0 rfl (by omega)
    obtain ⟨v1, y1, _, e1, t1, k1⟩ := key 1 f1 rfl (by omega)
    obtain ⟨v2, y2, _, e2, t2, k2⟩ := key 2 f2 rfl (by omega)
    obtain ⟨v3, y3, _, e3, t3, k3⟩ := key 3 f3 rfl (by omega)
    obtain ⟨v4, y4, _, e4, t4, k4⟩ := key 4 f4 rfl (by omega)
    obtain ⟨S, q0, r0, s0⟩ := DataW.trod_string u0 t0
    obtain ⟨st, q1, _⟩ := DataW.trod_bool u1 t1
    obtain ⟨mm, q2, _, _⟩ := DataW.trod_int u2 t2
    obtain ⟨aa, q3, _, w3⟩ := DataW.trod_int u3 t3
    obtain ⟨cp, q4, _⟩ := DataW.trod_bool u4 t4
    have b3 := bounds_u32 w3
    cases q0; cases q1; cases q2; cases q3; cases q4
    have hblk : a.block < W.heap.size := by
      have := World.block_lt_of_cell? W _ k0
      rwa [add_block, add_block] at this
    refine ⟨a, S, st, mm, aa.toNat, cp, rfl, hblk, ⟨k0, k1, k2, by rw [k3]; congr 2; omega, k4⟩, ?_, by omega⟩
    -- the reach
    have hd : d = .slice ((List.range len).map D) ((List.range (m - len)).map fun j => D (len + j)) := congrArg Prod.fst hx
    have hmem : D j ∈ (List.range len).map D := List.mem_map.2 ⟨j, List.mem_range.2 hj, rfl⟩
    have hDj : D j = .agg (xs.map (·.1)) := congrArg Prod.fst hD
    have hw : S.data.toList.length ∈ (D j).weights P e := by
      rw [hDj]
      unfold DataW.weights
      rw [he]
      refine DataW.weights_mem_each (j := 0) (t := f0.type) rfl (d := .lit (.string S.data.toList)) ?_ _ ?_
      · rw [List.getElem?_map, e0, r0]; rfl
      · unfold DataW.weights; simp
    have h2 := hsz _ (by
      rw [hd]
      unfold DataW.weights
      rw [ht]
      exact List.mem_cons.2 (.inr (List.mem_append.2 (.inl (all_mem hmem _ hw)))))
    rw [Array.length_toList] at h2
    exact h2

def LongQ (n : Nat) (A : Option Addr) (w : World) (e : Ending) (w' : World) : Prop := ∃ b : Bool, e = .returned (.bool b) ∧ (b = false → n ≤ 60 ∧ ∀ j, j < n → ∀ ad S, A = some ad → w.cell? ((ad.add (j * 5)).add 0) = some (.string S) → S.size ≤ 8192) ∧ w = w'
theorem longQ_true (n : Nat) (A : Option Addr) (w : World) : LongQ n A w (.returned (.bool true)) w := ⟨true, rfl, (fun h => by cases h), rfl⟩
theorem add_five (ad : Addr) (k i : Nat) : (ad.add (k * 5)).add i = ad.add (k * 5 + i) := by rw [Go.Deep.add_add]
set_option maxHeartbeats 1000000 in
set_option maxRecDepth 100000 in
theorem long_any (A : Option Addr) (n c : Nat) (w : World) (hl : Stps w w.heap.size A n) (hn : n ≤ maxLen) :
    Calls Try.prog 7 #[.slice A n c] w (LongQ n A w) := by
  have Hl := Lib.hid hl; clear hl
  unfold maxLen at hn
  go_enter Try.func7, Try.ntmps7
  go_wp2
  go_loop [3, 4] (fun q i => ∃ k t : Nat, k ≤ n ∧ k ≤ 100 ∧ i = .int .i64 k ∧ q = .int .i64 t ∧ t ≤ 140737488351232 * k ∧ Hid (∀ j, j < k → ∀ ad S, A = some ad → w.cell? ((ad.add (j * 5)).add 0) = some (.string S) → S.size ≤ t)) (fun _ i => n - (intOf i).toNat)
  case atStart => exact ⟨0, 0, Nat.zero_le _, by omega, rfl, rfl, Nat.zero_le _, fun j hj => absurd hj (Nat.not_lt_zero _)⟩
  case round =>
    obtain ⟨k, t, hk, hk1, rfl, rfl, ht, HA⟩ := hrel
    by_cases hlt : k < n
    · by_cases hlt2 : k < 100
      · obtain ⟨ad, S, st, m, a, cp, rfl, hB, hs, hS1, _⟩ := Hl.out k hlt
        have hc0 := hs.1
        have HT2 : Hid (∀ j, j < k + 1 → ∀ ad' S', some ad = some ad' → w.cell? ((ad'.add (j * 5)).add 0) = some (.string S') → S'.size ≤ t + S.size) := by
          intro j hj ad' S' he hc
          cases he
          rcases Nat.lt_or_ge j k with h | h
          · have := HA.out j h ad S' rfl hc; omega
          · obtain rfl : j = k := by omega
            rw [hc0] at hc
            cases hc
            omega
        have hc1 : w.cell? (ad.add (k * 5)) = some (.string S) := by have h := hs.1; rw [add_five] at h; exact h
        clear hs hc0
        go_wp2
        go_round
        case rel => exact ⟨k + 1, t + S.size, by omega, by omega, by go_num, by go_num, by omega, HT2⟩
        case measure => simp [intOf]; omega
      · have h60 : decide (60 < (n : Int)) = true := decide_eq_true (by omega)
        have hd1 : decide ((k : Int) < 100) = false := decide_eq_false (by omega)
        go_wp2
        go_ret
        exact longQ_true _ _ _
    · obtain rfl : k = n := by omega
      by_cases h60 : 60 < (k : Int)
      · go_wp2
        go_ret
        exact longQ_true _ _ _
      · have hd : decide (60 < (k : Int)) = false := decide_eq_false h60
        by_cases h8 : 8192 < (t : Int)
        · go_wp2
          go_ret
          exact longQ_true _ _ _
        · have hd8 : decide (8192 < (t : Int)) = false := decide_eq_false h8
          go_wp2
          go_ret
          exact ⟨false, rfl, fun _ => ⟨by omega, fun j hj ad S he hc => by have := HA.out j hj ad S he hc; omega⟩, rfl⟩
end Go.Proofs.Ytfcmpnfdgfdclaa.Hdl
