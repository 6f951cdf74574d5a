/- Contracts of package fsm's to, lay, and of the closures that lay a row. -/
import Derived.Test.YtkabjdejljdbiaaFsmPure
import Derived.Lib.Hide
import Derived.Test.YtkabjdejljdbiaaRows
import Derived.WalkKit
namespace Go.Proofs.Ytkabjdejljdbiaa.Fsm
open Go.RowKit Go.Proofs.Ytkabjdejljdbiaa.Oct Go.Proofs.Ytkabjdejljdbiaa.Row Go.Proofs.Ytkabjdejljdbiaa.Mem

/-- Numbers in memory: nil, or a row of them. -/
def Nums (w : World) (v : Value) (l : List Nat) : Prop :=
  ∃ A, v = .slice A l.length l.length ∧ ∀ (j : Nat) (x : Nat), l[j]? = some x → ∃ g, A = some ⟨g, 0, none⟩ ∧ g < w.heap.size ∧ w.cell? ⟨g, j, none⟩ = some (.int .u16 (x : Int))
theorem Nums.moves {w w' : World} {v : Value} {l : List Nat} (h : Nums w v l) (hb : Below w.heap.size w w') : Nums w' v l := by
  obtain ⟨A, hA, h⟩ := h
  refine ⟨A, hA, fun j x hj => ?_⟩
  obtain ⟨g, h1, h2, h3⟩ := h j x hj
  exact ⟨g, h1, Nat.lt_of_lt_of_le h2 hb.size, (hb.cell (p := ⟨g, j, none⟩) h2).trans h3⟩

def To (w wr : World) (g n k : Nat) (l : List Nat) : Prop :=
  Blk wr g [.int .u16 0, .int .u8 0, .bool false] 57 ∧ Blk wr (g + 1) [.int .u16 (ors (l.take k)), .int .u8 n, .bool true] 57 ∧ Below g w wr

theorem to_new (w : World) (n : Nat) (l : List Nat) : To w (((w.alloc (.cells #[.int .u16 0, .int .u8 0, .bool false] 57)).alloc (.cells #[.int .u16 0, .int .u8 n, .bool true] 57))) w.heap.size n 0 l := by
  have h1 := (blk_new w [.int .u16 0, .int .u8 0, .bool false] 57).alloc (.cells #[.int .u16 0, .int .u8 n, .bool true] 57)
  have h2 := blk_new (w.alloc (.cells #[.int .u16 0, .int .u8 0, .bool false] 57)) [.int .u16 0, .int .u8 n, .bool true] 57
  rw [World.size_alloc] at h2
  exact ⟨h1, h2, ((Below.refl w.heap.size w).alloc (Nat.le_refl _) _).alloc (by rw [World.size_alloc]; exact Nat.le_succ _) _⟩
theorem ors_lt (l : List Nat) (hu : ∀ x ∈ l, x < 65536) : ors l < 65536 := by
  unfold ors
  suffices h : ∀ (l : List Nat) (q : Nat), q < 65536 → (∀ x ∈ l, x < 65536) → l.foldl (· ||| ·) q < 65536 from h l 0 (by decide) hu
  intro l
  induction l with
  | nil => exact fun q hq _ => hq
  | cons x l ih => exact fun q hq h => ih _ (Nat.or_lt_two_pow (n := 16) hq (h x (by simp))) (fun y hy => h y (by simp [hy]))

set_option maxHeartbeats 2000000 in
theorem to_any (n : Nat) (v : Value) (l : List Nat) (w : World) (hl : Nums w v l) (hs : l.length ≤ 100) (hu : ∀ x ∈ l, x < 65536) :
    Calls Try.prog 40 #[.int .u8 n, v] w fun e w' => e = .returned (Cl.val ⟨ors l, n, true⟩) ∧ Below w.heap.size w w' := by
  obtain ⟨A, rfl, hl⟩ := hl
  have HL := Lib.hid hl
  have HU := Lib.hid hu
  clear hl hu
  have HN := Lib.hid (to_new w n l)
  go_enter Try.func40, Try.ntmps40
  go_wp2
  generalize hg : w.heap.size = g at *
  have HG := Lib.hid hg
  clear hg
  go_loopw [12] (fun i wr => ∃ k : Nat, k ≤ l.length ∧ i = .int .i64 k ∧ Hid (To w wr g n k l)) (fun i _ => l.length - (intOf i).toNat)
  case atStart => exact ⟨0, Nat.zero_le _, rfl, HN⟩
  case round =>
    obtain ⟨k, hk, rfl, HF⟩ := hrel
    have c0 : wr.cell? ⟨g + 1, 0, none⟩ = some (.int .u16 (ors (l.take k))) := HF.out.2.1.at_ 0
    have c1 : wr.cell? ⟨g + 1, 1, none⟩ = some (.int .u8 n) := HF.out.2.1.at_ 1
    have c2 : wr.cell? ⟨g + 1, 2, none⟩ = some (.bool true) := HF.out.2.1.at_ 2
    have f0 : wr.frozen? ⟨g + 1, 0, none⟩ = false := HF.out.2.1.frozen 0
    by_cases hlt : k < l.length
    · obtain ⟨b, rfl, hb, hc⟩ := HL.out k l[k] (List.getElem?_eq_getElem hlt)
      have hc' : wr.cell? ⟨b, k, none⟩ = some (.int .u16 (l[k] : Nat)) := (HF.out.2.2.cell (p := ⟨b, k, none⟩) hb).trans hc
      clear hc
      have HO := Lib.hid (show ors (l.take (k + 1)) = ors (l.take k) ||| l[k] by unfold ors; rw [List.take_succ_eq_append_getElem hlt, List.foldl_append]; rfl)
      have HX : Hid (bits .or .u16 (ors (l.take k) : Int) (l[k] : Int) = ((ors (l.take k) ||| l[k] : Nat) : Int)) :=
        u16_or_nat _ _ (ors_lt _ fun x hx => HU.out x (List.mem_of_mem_take hx)) (HU.out _ (List.getElem_mem hlt))
      generalize ors (l.take k) = q at *
      generalize l[k] = x at *
      go_wp2
      rw [HX.out]
      have HT : Hid (To w (wr.setCell ⟨g + 1, 0, none⟩ (.int .u16 ((q ||| x : Nat) : Int))) g n (k + 1) l) := by
        have h1 := HF.out.2.1.set 0 (.int .u16 ((q ||| x : Nat) : Int))
        rw [← HO.out] at h1 ⊢
        exact ⟨HF.out.1.moves ((Moves.refl (fun j => j = g + 1) wr).setCell ⟨g + 1, 0, none⟩ (fun _ => rfl) _) (by omega), h1, HF.out.2.2.setCell (p := ⟨g + 1, 0, none⟩) (Nat.le_succ g) _⟩
      go_roundw
      case rel => exact ⟨k + 1, by omega, by go_num, HT⟩
      case measure => simp [intOf]; omega
    · have r0 : wr.cell? ⟨g, 0, none⟩ = some (.int .u16 0) := HF.out.1.at_ 0
      have r1 : wr.cell? ⟨g, 1, none⟩ = some (.int .u8 0) := HF.out.1.at_ 1
      have r2 : wr.cell? ⟨g, 2, none⟩ = some (.bool false) := HF.out.1.at_ 2
      have h0 : wr.frozen? ⟨g, 0, none⟩ = false := HF.out.1.frozen 0
      have h1 : wr.frozen? ⟨g, 1, none⟩ = false := HF.out.1.frozen 1
      have h2 : wr.frozen? ⟨g, 2, none⟩ = false := HF.out.1.frozen 2
      obtain rfl : k = l.length := by omega
      rw [List.take_length] at c0
      go_wp2
      have HB := (((HF.out.1.set 0 (.int .u16 (ors l : Nat))).set 1 (.int .u8 n)).set 2 (.bool true))
      refine bodyPost_ret (results_cell_row rfl _ _ g _ #[.int .u16 (ors l : Nat), .int .u8 n, .bool true] (0, 0) _ rfl HB Try.underlying57 rfl (by kernel_rfl)) rfl ?_
      refine ⟨rfl, ?_⟩
      rw [HG.out]
      exact ((HF.out.2.2.setCell (p := ⟨g, 0, none⟩) (Nat.le_refl g) _).setCell (p := ⟨g, 1, none⟩) (Nat.le_refl g) _).setCell (p := ⟨g, 2, none⟩) (Nat.le_refl g) _

/-- The table's block, whole. -/
def Tab (w : World) (b : Nat) (t : List Cl) : Prop := Blk w b (flat t) 60 ∧ t.length = 160
/-- A row of cells in memory. -/
def Row (w : World) (g : Nat) (l : List Cl) : Prop := g < w.heap.size ∧ ∀ (j : Nat) (v : Value), (flat l)[j]? = some v → w.cell? ⟨g, j, none⟩ = some v

/-- 'copy' of a row of cells of three values into the middle of a row that is known whole. -/
theorem run_copy3 {P : Program} (w : World) (dT sT ty elem : TypeId) (g o dLen dCap : Nat) (a : Addr) (n sCap z : Nat) (cur : Array Value) (t : TypeId) (cs : List Value)
    (hu : P.underlying dT = some (.slice elem)) (hs : (P.info? elem).map (·.size) = some z) (hg : w.heap[g]? = some (.cells cur t (0, 0))) (hn : n ≤ dLen) (hc : cs.length = n * z)
    (hsrc : ∀ j v, cs[j]? = some v → w.cell? (a.add j) = some v) (hfit : o + cs.length ≤ cur.size) (h1 : ∀ v ∈ cs, v.oneCell' = true) :
    (Builtin.copy_ #[dT, sT] ty #[.slice (some ⟨g, o, none⟩) dLen dCap, .slice (some a) n sCap]).run P w =
      .ok (goInt n) (w.setRow g (cur.toList.take o ++ cs ++ cur.toList.drop (o + cs.length)).toArray) := by
  have hl := run_loadCells_list (P := P) w a cs hsrc
  have hst := run_storeCells_at P g o t cs 0 cur w hg (by simpa using hfit) h1
  have hmin : Nat.min n dLen = n := Nat.min_eq_left hn
  cases hq : P.info? elem with
  | none => simp [hq] at hs
  | some i =>
    have hi : i.size = z := by simpa [hq] using hs
    simp [Builtin.copy_, run_underlying hu, Builtin.lenOf, Builtin.firstCells, sizeOf, typeInfo, hq, hi, hmin, ← hc, hl, hst]

set_option maxHeartbeats 2000000 in
theorem lay_any (b g e f : Nat) (t l : List Cl) (w : World) (ht : Tab w b t) (hl : Row w g l) (he : e < 16) (hf : f + l.length ≤ 10) (hl0 : 0 < l.length) :
    Calls Try.prog 39 #[.pointer (some ⟨b, 0, none⟩), .int .i64 e, .int .i64 f, .slice (some ⟨g, 0, none⟩) l.length l.length] w
      fun x w' => x = .returned (.tuple #[]) ∧ Tab w' b (over t (e * 10 + f) l) ∧ Moves (fun k => k = b) w w' := by
  have h1 : (0 : Int) ≤ (f : Int) := Int.natCast_nonneg f
  have h2 : (f : Int) ≤ 10 := by omega
  have h3 : ¬ (10 : Nat) = f := by omega
  have hT := Lib.hid ht
  have hL := Lib.hid hl
  have hF := Lib.hid hf
  clear ht hl hf
  go_enter Try.func39, Try.ntmps39
  go_wp2_with fail
  have HC := run_copy3 (P := Try.prog) w 77 77 3 57 b (e * 30 + f * 3) (10 - f) (10 - f) ⟨g, 0, none⟩ l.length l.length 3 (flat t).toArray 60 (flat l) Try.underlying77 (by kernel_rfl) hT.out.1 (by have := hF.out; omega) (flat_length l)
    (fun j v hj => by rw [add_zero_at, Nat.zero_add]; exact hL.out.2 j v hj) (by rw [List.size_toArray, flat_length, flat_length, hT.out.2]; have := hF.out; omega) (flat_one l)
  rw [HC]
  have HV : (flat t).toArray.toList.take (e * 30 + f * 3) ++ flat l ++ (flat t).toArray.toList.drop (e * 30 + f * 3 + (flat l).length) = flat (over t (e * 10 + f) l) := by
    rw [flat_over, show (e * 10 + f) * 3 = e * 30 + f * 3 by omega]
  rw [HV]
  clear HC HV
  have HB := Lib.hid (hT.out.1.setRow (flat (over t (e * 10 + f) l)))
  have HM := Lib.hid (moves_row w b (flat (over t (e * 10 + f) l)).toArray)
  have HN : Hid ((over t (e * 10 + f) l).length = 160) := by
    show _ = _
    rw [over_length _ _ _ (by rw [hT.out.2]; have := hF.out; omega)]; exact hT.out.2
  generalize w.setRow b (flat (over t (e * 10 + f) l)).toArray = W at *
  go_wp2
  go_end0
  exact ⟨rfl, ⟨HB.out, HN.out⟩, HM.out⟩

set_option maxHeartbeats 2000000 in
theorem idle_row (b p g e : Nat) (t l : List Cl) (w : World) (ht : Tab w b t) (hp : w.cell? ⟨p, 0, none⟩ = some (.pointer (some ⟨b, 0, none⟩))) (hl : Row w g l) (he : e < 16) (hf : l.length ≤ 10) (hl0 : 0 < l.length) :
    Calls Try.prog 38 #[.int .i64 e, .slice (some ⟨g, 0, none⟩) l.length l.length, .pointer (some ⟨p, 0, none⟩)] w
      fun x w' => x = .returned (.tuple #[]) ∧ Tab w' b (over t (e * 10 + 0) l) ∧ Moves (fun k => k = b) w w' := by
  have HC := Lib.hid (lay_any b g e 0 t l w ht hl he (by omega) hl0)
  clear ht hl hf
  go_enter Try.func38, Try.ntmps38
  go_wp2_with fail
  refine HC.out.mono ?_
  rintro x w' ⟨rfl, h1, h2⟩
  have H1 := Lib.hid h1
  have H2 := Lib.hid h2
  clear h1 h2
  go_wp2
  go_end0
  exact ⟨rfl, H1.out, H2.out⟩

set_option maxHeartbeats 2000000 in
theorem busy_row (b p g e : Nat) (t l : List Cl) (w : World) (ht : Tab w b t) (hp : w.cell? ⟨p, 0, none⟩ = some (.pointer (some ⟨b, 0, none⟩))) (hl : Row w g l) (he : e < 16) (hf : 6 + l.length ≤ 10) (hl0 : 0 < l.length) :
    Calls Try.prog 41 #[.int .i64 e, .slice (some ⟨g, 0, none⟩) l.length l.length, .pointer (some ⟨p, 0, none⟩)] w
      fun x w' => x = .returned (.tuple #[]) ∧ Tab w' b (over t (e * 10 + 6) l) ∧ Moves (fun k => k = b) w w' := by
  have HC := Lib.hid (lay_any b g e 6 t l w ht hl he hf hl0)
  clear ht hl hf
  go_enter Try.func41, Try.ntmps41
  go_wp2_with fail
  refine HC.out.mono ?_
  rintro x w' ⟨rfl, h1, h2⟩
  have H1 := Lib.hid h1
  have H2 := Lib.hid h2
  clear h1 h2
  go_wp2
  go_end0
  exact ⟨rfl, H1.out, H2.out⟩
end Go.Proofs.Ytkabjdejljdbiaa.Fsm
