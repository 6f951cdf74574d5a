/- Put together: FsmPure, FsmA, FsmB, FsmC, FsmRows. -/
import Derived.Test.YtpppggicihfbgaaGreatGRow
import Derived.Lib.Hide
import Derived.Test.YtpppggicihfbgaaGreatRows
import Derived.WalkKit
import Derived.Great.BuildSlice
import Derived.Orders

/- The table of the automaton as a function on numbers. Of no program. -/
namespace Go.Proofs.YtpppggicihfbgaaGreat.Fsm
open Go.RowKit Go.Proofs.YtpppggicihfbgaaGreat.Oct Go.Proofs.YtpppggicihfbgaaGreat.Row Go.Proofs.YtpppggicihfbgaaGreat.Mem

structure Cl where
  a : Nat
  n : Nat
  c : Bool
  deriving DecidableEq, Repr
def Cl.cells (x : Cl) : List Value := [.int .u16 x.a, .int .u8 x.n, .bool x.c]
def Cl.val (x : Cl) : Value := .agg x.cells.toArray
def no : Cl := ⟨0, 0, false⟩
def flat (l : List Cl) : List Value := l.flatMap Cl.cells
theorem flat_nil : flat [] = [] := rfl
theorem flat_cons (x : Cl) (l : List Cl) : flat (x :: l) = x.cells ++ flat l := rfl
theorem flat_append (l m : List Cl) : flat (l ++ m) = flat l ++ flat m := List.flatMap_append
theorem flat_length : ∀ l : List Cl, (flat l).length = l.length * 3
  | [] => rfl
  | x :: l => by rw [flat_cons, List.length_append, flat_length l, List.length_cons, Nat.succ_mul, Nat.add_comm]; rfl
theorem flat_one (l : List Cl) : ∀ v ∈ flat l, v.oneCell' = true := by
  intro v hv
  obtain ⟨x, _, hx⟩ := List.mem_flatMap.1 hv
  simp only [Cl.cells, List.mem_cons, List.not_mem_nil, or_false] at hx
  rcases hx with rfl | rfl | rfl <;> rfl
theorem flat_at : ∀ (l : List Cl) (i : Nat), (flat l)[i * 3]? = (l[i]?).map (fun x => .int .u16 x.a) ∧ (flat l)[i * 3 + 1]? = (l[i]?).map (fun x => .int .u8 x.n) ∧ (flat l)[i * 3 + 2]? = (l[i]?).map (fun x => .bool x.c)
  | [], i => by simp [flat_nil]
  | x :: l, 0 => ⟨rfl, rfl, rfl⟩
  | x :: l, i + 1 => by
    have h := flat_at l i
    have e : (flat (x :: l)) = .int .u16 x.a :: .int .u8 x.n :: .bool x.c :: flat l := rfl
    rw [e, show (i + 1) * 3 = i * 3 + 1 + 1 + 1 by omega, show i * 3 + 1 + 1 + 1 + 1 = (i * 3 + 1) + 1 + 1 + 1 by omega, show i * 3 + 1 + 1 + 1 + 2 = (i * 3 + 2) + 1 + 1 + 1 by omega]
    simp only [List.getElem?_cons_succ]
    exact h
theorem flat_take : ∀ (l : List Cl) (i : Nat), (flat l).take (i * 3) = flat (l.take i)
  | [], i => by simp [flat_nil]
  | x :: l, 0 => by simp [flat_nil]
  | x :: l, i + 1 => by
    rw [flat_cons, List.take_succ_cons, flat_cons, ← flat_take l i, show (i + 1) * 3 = i * 3 + 1 + 1 + 1 by omega]
    rfl
theorem flat_drop : ∀ (l : List Cl) (i : Nat), (flat l).drop (i * 3) = flat (l.drop i)
  | [], i => by simp [flat_nil]
  | x :: l, 0 => by simp
  | x :: l, i + 1 => by
    rw [flat_cons, List.drop_succ_cons, ← flat_drop l i, show (i + 1) * 3 = i * 3 + 1 + 1 + 1 by omega]
    rfl

def over (t : List Cl) (k : Nat) (l : List Cl) : List Cl := t.take k ++ l ++ t.drop (k + l.length)
theorem over_length (t : List Cl) (k : Nat) (l : List Cl) (h : k + l.length ≤ t.length) : (over t k l).length = t.length := by
  unfold over
  simp only [List.length_append, List.length_take, List.length_drop]
  omega
theorem flat_over (t : List Cl) (k : Nat) (l : List Cl) : flat (over t k l) = (flat t).take (k * 3) ++ flat l ++ (flat t).drop (k * 3 + (flat l).length) := by
  unfold over
  rw [flat_append, flat_append, flat_take, flat_length, show k * 3 + l.length * 3 = (k + l.length) * 3 by omega, flat_drop]
def lays (f : Nat) (t : List Cl) (rs : List (Nat × List Cl)) : List Cl := rs.foldl (fun t r => over t (r.1 * 10 + f) r.2) t
theorem lays_cons (f : Nat) (t : List Cl) (r : Nat × List Cl) (rs : List (Nat × List Cl)) : lays f t (r :: rs) = lays f (over t (r.1 * 10 + f) r.2) rs := rfl
def ors (l : List Nat) : Nat := l.foldl (· ||| ·) 0
end Go.Proofs.YtpppggicihfbgaaGreat.Fsm

/- Contracts of package fsm's to, lay, and of the closures that lay a row. -/
namespace Go.Proofs.YtpppggicihfbgaaGreat.Fsm
open Go.RowKit Go.Proofs.YtpppggicihfbgaaGreat.Oct Go.Proofs.YtpppggicihfbgaaGreat.Row Go.Proofs.YtpppggicihfbgaaGreat.Mem

def Nums (w : World) (v : Value) (l : List Nat) : Prop :=
  ∃ A, v = .slice A l.length l.length ∧ ∀ (j : Nat) (x : Nat), l[j]? = some x → ∃ g, A = some ⟨g, 0, none⟩ ∧ g < w.heap.size ∧ w.cell? ⟨g, j, none⟩ = some (.int .u16 (x : Int))
theorem Nums.moves {w w' : World} {v : Value} {l : List Nat} (h : Nums w v l) (hb : Below w.heap.size w w') : Nums w' v l := by
  obtain ⟨A, hA, h⟩ := h
  refine ⟨A, hA, fun j x hj => ?_⟩
  obtain ⟨g, h1, h2, h3⟩ := h j x hj
  exact ⟨g, h1, Nat.lt_of_lt_of_le h2 hb.size, (hb.cell (p := ⟨g, j, none⟩) h2).trans h3⟩

def To (w wr : World) (g n k : Nat) (l : List Nat) : Prop :=
  Blk wr g [.int .u16 0, .int .u8 0, .bool false] 125 ∧ Blk wr (g + 1) [.int .u16 (ors (l.take k)), .int .u8 n, .bool true] 125 ∧ Below g w wr

theorem to_new (w : World) (n : Nat) (l : List Nat) : To w (((w.alloc (.cells #[.int .u16 0, .int .u8 0, .bool false] 125)).alloc (.cells #[.int .u16 0, .int .u8 n, .bool true] 125))) w.heap.size n 0 l := by
  have h1 := (blk_new w [.int .u16 0, .int .u8 0, .bool false] 125).alloc (.cells #[.int .u16 0, .int .u8 n, .bool true] 125)
  have h2 := blk_new (w.alloc (.cells #[.int .u16 0, .int .u8 0, .bool false] 125)) [.int .u16 0, .int .u8 n, .bool true] 125
  rw [World.size_alloc] at h2
  exact ⟨h1, h2, ((Below.refl w.heap.size w).alloc (Nat.le_refl _) _).alloc (by rw [World.size_alloc]; exact Nat.le_succ _) _⟩
theorem ors_lt (l : List Nat) (hu : ∀ x ∈ l, x < 65536) : ors l < 65536 := by
  unfold ors
  suffices h : ∀ (l : List Nat) (q : Nat), q < 65536 → (∀ x ∈ l, x < 65536) → l.foldl (· ||| ·) q < 65536 from h l 0 (by decide) hu
  intro l
  induction l with
  | nil => exact fun q hq _ => hq
  | cons x l ih => exact fun q hq h => ih _ (Nat.or_lt_two_pow (n := 16) hq (h x (by simp))) (fun y hy => h y (by simp [hy]))

set_option maxHeartbeats 2000000 in
set_option maxRecDepth 100000 in
theorem to_any (n : Nat) (v : Value) (l : List Nat) (w : World) (hl : Nums w v l) (hs : l.length ≤ 100) (hu : ∀ x ∈ l, x < 65536) :
    Calls Tryz.prog 72 #[.int .u8 n, v] w fun e w' => e = .returned (Cl.val ⟨ors l, n, true⟩) ∧ Below w.heap.size w w' := by
  obtain ⟨A, rfl, hl⟩ := hl
  have HL := Lib.hid hl
  have HU := Lib.hid hu
  clear hl hu
  have HN := Lib.hid (to_new w n l)
  go_enter Tryz.func72, Tryz.ntmps72
  go_wp2
  generalize hg : w.heap.size = g at *
  have HG := Lib.hid hg
  clear hg
  go_loopw [12] (fun i wr => ∃ k : Nat, k ≤ l.length ∧ i = .int .i64 k ∧ Hid (To w wr g n k l)) (fun i _ => l.length - (intOf i).toNat)
  case atStart => exact ⟨0, Nat.zero_le _, rfl, HN⟩
  case round =>
    obtain ⟨k, hk, rfl, HF⟩ := hrel
    have c0 : wr.cell? ⟨g + 1, 0, none⟩ = some (.int .u16 (ors (l.take k))) := HF.out.2.1.at_ 0
    have c1 : wr.cell? ⟨g + 1, 1, none⟩ = some (.int .u8 n) := HF.out.2.1.at_ 1
    have c2 : wr.cell? ⟨g + 1, 2, none⟩ = some (.bool true) := HF.out.2.1.at_ 2
    have f0 : wr.frozen? ⟨g + 1, 0, none⟩ = false := HF.out.2.1.frozen 0
    by_cases hlt : k < l.length
    · obtain ⟨b, rfl, hb, hc⟩ := HL.out k l[k] (List.getElem?_eq_getElem hlt)
      have hc' : wr.cell? ⟨b, k, none⟩ = some (.int .u16 (l[k] : Nat)) := (HF.out.2.2.cell (p := ⟨b, k, none⟩) hb).trans hc
      clear hc
      have HO := Lib.hid (show ors (l.take (k + 1)) = ors (l.take k) ||| l[k] by unfold ors; rw [List.take_succ_eq_append_getElem hlt, List.foldl_append]; rfl)
      have HX : Hid (bits .or .u16 (ors (l.take k) : Int) (l[k] : Int) = ((ors (l.take k) ||| l[k] : Nat) : Int)) :=
        u16_or_nat _ _ (ors_lt _ fun x hx => HU.out x (List.mem_of_mem_take hx)) (HU.out _ (List.getElem_mem hlt))
      generalize ors (l.take k) = q at *
      generalize l[k] = x at *
      go_wp2
      rw [HX.out]
      have HT : Hid (To w (wr.setCell ⟨g + 1, 0, none⟩ (.int .u16 ((q ||| x : Nat) : Int))) g n (k + 1) l) := by
        have h1 := HF.out.2.1.set 0 (.int .u16 ((q ||| x : Nat) : Int))
        rw [← HO.out] at h1 ⊢
        exact ⟨HF.out.1.moves ((Moves.refl (fun j => j = g + 1) wr).setCell ⟨g + 1, 0, none⟩ (fun _ => rfl) _) (by omega), h1, HF.out.2.2.setCell (p := ⟨g + 1, 0, none⟩) (Nat.le_succ g) _⟩
      go_roundw
      case rel => exact ⟨k + 1, by omega, by go_num, HT⟩
      case measure => simp [intOf]; omega
    · have r0 : wr.cell? ⟨g, 0, none⟩ = some (.int .u16 0) := HF.out.1.at_ 0
      have r1 : wr.cell? ⟨g, 1, none⟩ = some (.int .u8 0) := HF.out.1.at_ 1
      have r2 : wr.cell? ⟨g, 2, none⟩ = some (.bool false) := HF.out.1.at_ 2
      have h0 : wr.frozen? ⟨g, 0, none⟩ = false := HF.out.1.frozen 0
      have h1 : wr.frozen? ⟨g, 1, none⟩ = false := HF.out.1.frozen 1
      have h2 : wr.frozen? ⟨g, 2, none⟩ = false := HF.out.1.frozen 2
      obtain rfl : k = l.length := by omega
      rw [List.take_length] at c0
      go_wp2
      have HB := (((HF.out.1.set 0 (.int .u16 (ors l : Nat))).set 1 (.int .u8 n)).set 2 (.bool true))
      refine bodyPost_ret (results_cell_row rfl _ _ g _ #[.int .u16 (ors l : Nat), .int .u8 n, .bool true] (0, 0) _ rfl HB Tryz.underlying125 rfl (by kernel_rfl)) rfl ?_
      refine ⟨rfl, ?_⟩
      rw [HG.out]
      exact ((HF.out.2.2.setCell (p := ⟨g, 0, none⟩) (Nat.le_refl g) _).setCell (p := ⟨g, 1, none⟩) (Nat.le_refl g) _).setCell (p := ⟨g, 2, none⟩) (Nat.le_refl g) _

def Tab (w : World) (b : Nat) (t : List Cl) : Prop := Blk w b (flat t) 128 ∧ t.length = 160
def Row (w : World) (g : Nat) (l : List Cl) : Prop := g < w.heap.size ∧ ∀ (j : Nat) (v : Value), (flat l)[j]? = some v → w.cell? ⟨g, j, none⟩ = some v

theorem run_copy3 {P : Program} (w : World) (dT sT ty elem : TypeId) (g o dLen dCap : Nat) (a : Addr) (n sCap z : Nat) (cur : Array Value) (t : TypeId) (cs : List Value)
    (hu : P.underlying dT = some (.slice elem)) (hs : (P.info? elem).map (·.size) = some z) (hg : w.heap[g]? = some (.cells cur t (0, 0))) (hn : n ≤ dLen) (hc : cs.length = n * z)
    (hsrc : ∀ j v, cs[j]? = some v → w.cell? (a.add j) = some v) (hfit : o + cs.length ≤ cur.size) (h1 : ∀ v ∈ cs, v.oneCell' = true) :
    (Builtin.copy_ #[dT, sT] ty #[.slice (some ⟨g, o, none⟩) dLen dCap, .slice (some a) n sCap]).run P w =
      .ok (goInt n) (w.setRow g (cur.toList.take o ++ cs ++ cur.toList.drop (o + cs.length)).toArray) := by
  have hl := run_loadCells_list (P := P) w a cs hsrc
  have hst := run_storeCells_at P g o t cs 0 cur w hg (by simpa using hfit) h1
  have hmin : Nat.min n dLen = n := Nat.min_eq_left hn
  cases hq : P.info? elem with
  | none => simp [hq] at hs
  | some i =>
    have hi : i.size = z := by simpa [hq] using hs
    simp [Builtin.copy_, run_underlying hu, Builtin.lenOf, Builtin.firstCells, sizeOf, typeInfo, hq, hi, hmin, ← hc, hl, hst]

set_option maxHeartbeats 2000000 in
set_option maxRecDepth 100000 in
theorem lay_any (b g e f : Nat) (t l : List Cl) (w : World) (ht : Tab w b t) (hl : Row w g l) (he : e < 16) (hf : f + l.length ≤ 10) (hl0 : 0 < l.length) :
    Calls Tryz.prog 71 #[.pointer (some ⟨b, 0, none⟩), .int .i64 e, .int .i64 f, .slice (some ⟨g, 0, none⟩) l.length l.length] w
      fun x w' => x = .returned (.tuple #[]) ∧ Tab w' b (over t (e * 10 + f) l) ∧ Moves (fun k => k = b) w w' := by
  have h1 : (0 : Int) ≤ (f : Int) := Int.natCast_nonneg f
  have h2 : (f : Int) ≤ 10 := by omega
  have h3 : ¬ (10 : Nat) = f := by omega
  have hT := Lib.hid ht
  have hL := Lib.hid hl
  have hF := Lib.hid hf
  clear ht hl hf
  go_enter Tryz.func71, Tryz.ntmps71
  go_wp2_with fail
  have HC := run_copy3 (P := Tryz.prog) w 160 160 3 125 b (e * 30 + f * 3) (10 - f) (10 - f) ⟨g, 0, none⟩ l.length l.length 3 (flat t).toArray 128 (flat l) Tryz.underlying160 (by kernel_rfl) hT.out.1 (by have := hF.out; omega) (flat_length l)
    (fun j v hj => by rw [add_zero_at, Nat.zero_add]; exact hL.out.2 j v hj) (by rw [List.size_toArray, flat_length, flat_length, hT.out.2]; have := hF.out; omega) (flat_one l)
  rw [HC]
  have HV : (flat t).toArray.toList.take (e * 30 + f * 3) ++ flat l ++ (flat t).toArray.toList.drop (e * 30 + f * 3 + (flat l).length) = flat (over t (e * 10 + f) l) := by
    rw [flat_over, show (e * 10 + f) * 3 = e * 30 + f * 3 by omega]
  rw [HV]
  clear HC HV
  have HB := Lib.hid (hT.out.1.setRow (flat (over t (e * 10 + f) l)))
  have HM := Lib.hid (moves_row w b (flat (over t (e * 10 + f) l)).toArray)
  have HN : Hid ((over t (e * 10 + f) l).length = 160) := by
    show _ = _
    rw [over_length _ _ _ (by rw [hT.out.2]; have := hF.out; omega)]; exact hT.out.2
  generalize w.setRow b (flat (over t (e * 10 + f) l)).toArray = W at *
  go_wp2
  go_end0
  exact ⟨rfl, ⟨HB.out, HN.out⟩, HM.out⟩

set_option maxHeartbeats 2000000 in
set_option maxRecDepth 100000 in
theorem idle_row (b p g e : Nat) (t l : List Cl) (w : World) (ht : Tab w b t) (hp : w.cell? ⟨p, 0, none⟩ = some (.pointer (some ⟨b, 0, none⟩))) (hl : Row w g l) (he : e < 16) (hf : l.length ≤ 10) (hl0 : 0 < l.length) :
    Calls Tryz.prog 70 #[.int .i64 e, .slice (some ⟨g, 0, none⟩) l.length l.length, .pointer (some ⟨p, 0, none⟩)] w
      fun x w' => x = .returned (.tuple #[]) ∧ Tab w' b (over t (e * 10 + 0) l) ∧ Moves (fun k => k = b) w w' := by
  have HC := Lib.hid (lay_any b g e 0 t l w ht hl he (by omega) hl0)
  clear ht hl hf
  go_enter Tryz.func70, Tryz.ntmps70
  go_wp2_with fail
  refine HC.out.mono ?_
  rintro x w' ⟨rfl, h1, h2⟩
  have H1 := Lib.hid h1
  have H2 := Lib.hid h2
  clear h1 h2
  go_wp2
  go_end0
  exact ⟨rfl, H1.out, H2.out⟩

set_option maxHeartbeats 2000000 in
set_option maxRecDepth 100000 in
theorem busy_row (b p g e : Nat) (t l : List Cl) (w : World) (ht : Tab w b t) (hp : w.cell? ⟨p, 0, none⟩ = some (.pointer (some ⟨b, 0, none⟩))) (hl : Row w g l) (he : e < 16) (hf : 6 + l.length ≤ 10) (hl0 : 0 < l.length) :
    Calls Tryz.prog 73 #[.int .i64 e, .slice (some ⟨g, 0, none⟩) l.length l.length, .pointer (some ⟨p, 0, none⟩)] w
      fun x w' => x = .returned (.tuple #[]) ∧ Tab w' b (over t (e * 10 + 6) l) ∧ Moves (fun k => k = b) w w' := by
  have HC := Lib.hid (lay_any b g e 6 t l w ht hl he hf hl0)
  clear ht hl hf
  go_enter Tryz.func73, Tryz.ntmps73
  go_wp2_with fail
  refine HC.out.mono ?_
  rintro x w' ⟨rfl, h1, h2⟩
  have H1 := Lib.hid h1
  have H2 := Lib.hid h2
  clear h1 h2
  go_wp2
  go_end0
  exact ⟨rfl, H1.out, H2.out⟩
end Go.Proofs.YtpppggicihfbgaaGreat.Fsm

/- A region in which cells of the table are told one by one, and laid as a row, whatever the order in which its operations come up. -/
namespace Go.Proofs.YtpppggicihfbgaaGreat.Fsm
open Go.RowKit Go.Proofs.YtpppggicihfbgaaGreat.Oct Go.Proofs.YtpppggicihfbgaaGreat.Row Go.Proofs.YtpppggicihfbgaaGreat.Mem

structure Ctx where
  F : Nat
  f : Nat
  b : Nat
  p : Nat
  z : Nat

inductive Sp where
  | any | no | fn | toF
  | num (n : Nat) | idx (n : Nat) | act (n : Nat)
  | cell (x : Cl) | nums (l : List Nat) | row (l : List Cl)
  deriving DecidableEq

def Sp.isAny : Sp → Bool
  | .any => true
  | _ => false

def Sp.holds (c : Ctx) (v : Value) (w : World) : Sp → Prop
  | .any => True
  | .no => v = .pointer (some ⟨c.z, 0, none⟩)
  | .fn => v = .func (.func c.F) #[] #[.pointer (some ⟨c.p, 0, none⟩)]
  | .toF => v = .func (.func 72) #[] #[]
  | .num n => v = .int .u8 n ∧ n < 256
  | .idx n => v = .int .i64 n ∧ n < 16
  | .act n => v = .int .u16 n ∧ n < 65536
  | .cell x => v = x.val
  | .nums l => l.length ≤ 100 ∧ (∀ x ∈ l, x < 65536) ∧ ∃ A, v = .slice A l.length l.length ∧ ∀ (j : Nat) (x : Nat), l[j]? = some x → ∃ g, A = some ⟨g, 0, none⟩ ∧ g ≠ c.b ∧ g < w.heap.size ∧ w.cell? ⟨g, j, none⟩ = some (.int .u16 (x : Int))
  | .row l => ∃ g, v = .slice (some ⟨g, 0, none⟩) l.length l.length ∧ g ≠ c.b ∧ Row w g l

theorem Sp.holds.moves {c : Ctx} {v : Value} {w w' : World} {s : Sp} (h : s.holds c v w) (hm : Moves (fun k => k = c.b) w w') : s.holds c v w' := by
  cases s <;> first
    | exact h
    | skip
  case nums l =>
    obtain ⟨h1, h2, A, hA, h3⟩ := h
    refine ⟨h1, h2, A, hA, fun j x hj => ?_⟩
    obtain ⟨g, e, hb, hg, hc⟩ := h3 j x hj
    exact ⟨g, e, hb, Nat.lt_of_lt_of_le hg hm.size, (hm.cell (p := ⟨g, j, none⟩) hg hb).trans hc⟩
  case row l =>
    obtain ⟨g, e, hb, hg, hc⟩ := h
    exact ⟨g, e, hb, Nat.lt_of_lt_of_le hg hm.size, fun j v hj => (hm.cell (p := ⟨g, j, none⟩) hg hb).trans (hc j v hj)⟩

def look (env : List (Nat × Sp)) (t : Nat) : Sp := (env.lookup t).getD .any
def constOf : Value → Sp
  | .slice none 0 0 => .nums []
  | .int .u8 n => if 0 ≤ n ∧ n < 256 then .num n.toNat else .any
  | .int .i64 n => if 0 ≤ n ∧ n < 16 then .idx n.toNat else .any
  | .int .u16 n => if 0 ≤ n ∧ n < 65536 then .act n.toNat else .any
  | _ => .any
def opnd (env : List (Nat × Sp)) : Operand → Sp
  | .tmp t => look env t
  | .const v => constOf v
  | .func f => if f = 72 then .toF else .any
  | .global _ => .any
theorem constOf_holds (c : Ctx) (v : Value) (w : World) : (constOf v).holds c v w := by
  unfold constOf
  split
  · exact ⟨by simp, by simp, none, rfl, fun j x hj => by simp at hj⟩
  · split
    · rename_i n h; exact ⟨by rw [Int.toNat_of_nonneg h.1], by omega⟩
    · trivial
  · split
    · rename_i n h; exact ⟨by rw [Int.toNat_of_nonneg h.1], by omega⟩
    · trivial
  · split
    · rename_i n h; exact ⟨by rw [Int.toNat_of_nonneg h.1], by omega⟩
    · trivial
  · trivial
theorem opnd_holds {c : Ctx} {env : List (Nat × Sp)} {a : Act} {w : World} (x : Operand) (h : ∀ t, x = .tmp t → (look env t).holds c (a.tmps.getD t undef) w) : (opnd env x).holds c (a.eval x) w := by
  cases x with
  | tmp t => exact h t rfl
  | const v => exact constOf_holds c v w
  | func f =>
    show (if f = 72 then Sp.toF else Sp.any).holds c _ w
    split
    · rename_i e; subst e; rfl
    · trivial
  | global g => trivial

def acts : List Sp → Option (List Nat)
  | [] => some []
  | .act n :: r => (acts r).map (n :: ·)
  | _ :: _ => none
def cls : List Sp → Option (List Cl)
  | [] => some []
  | .cell x :: r => (cls r).map (x :: ·)
  | _ :: _ => none
theorem acts_some : ∀ {s : List Sp} {l : List Nat}, acts s = some l → s = l.map Sp.act
  | [], l, h => by cases h; rfl
  | .act n :: r, l, h => by
    simp only [acts, Option.map_eq_some_iff] at h
    obtain ⟨m, hm, rfl⟩ := h
    rw [acts_some hm]; rfl
  | .any :: _, _, h | .no :: _, _, h | .fn :: _, _, h | .toF :: _, _, h | .num _ :: _, _, h | .idx _ :: _, _, h | .cell _ :: _, _, h | .nums _ :: _, _, h | .row _ :: _, _, h => by simp [acts] at h
theorem cls_some : ∀ {s : List Sp} {l : List Cl}, cls s = some l → s = l.map Sp.cell
  | [], l, h => by cases h; rfl
  | .cell n :: r, l, h => by
    simp only [cls, Option.map_eq_some_iff] at h
    obtain ⟨m, hm, rfl⟩ := h
    rw [cls_some hm]; rfl
  | .any :: _, _, h | .no :: _, _, h | .fn :: _, _, h | .toF :: _, _, h | .num _ :: _, _, h | .idx _ :: _, _, h | .act _ :: _, _, h | .nums _ :: _, _, h | .row _ :: _, _, h => by simp [cls] at h

def callSp (env : List (Nat × Sp)) (c : Call) : Sp :=
  match c.callee, c.args.toList with
  | .value f, [x, y] =>
    match opnd env f, opnd env x, opnd env y with
    | .toF, .num n, .nums l => .cell ⟨ors l, n, true⟩
    | _, _, _ => .any
  | _, _ => .any
def sp (env : List (Nat × Sp)) : Op → Sp
  | .move x => opnd env x
  | .load t x => if t = 125 then (match opnd env x with | .no => .cell no | _ => .any) else .any
  | .buildSlice t k ps =>
    if ps.toList.map (·.1) = List.range k ∧ 0 < k ∧ k ≤ 100 then
      if t = 132 then (match acts (ps.toList.map fun p => opnd env p.2) with | some l => .nums l | none => .any)
      else if t = 160 then (match cls (ps.toList.map fun p => opnd env p.2) with | some l => .row l | none => .any)
      else .any
    else .any
  | .call c => callSp env c
  | _ => .any
def rowSp (f : Nat) (env : List (Nat × Sp)) : Op → Option (Nat × List Cl)
  | .call c =>
    match c.callee, c.args.toList with
    | .value g, [x, y] =>
      match opnd env g, opnd env x, opnd env y with
      | .fn, .idx e, .row l => if 0 < l.length ∧ f + l.length ≤ 10 then some (e, l) else none
      | _, _, _ => none
    | _, _ => none
  | _ => none

structure Known (c : Ctx) (t : List Cl) (w : World) : Prop where
  tab : Tab w c.b t
  box : Blk w c.p [.pointer (some ⟨c.b, 0, none⟩)] 159
  no : Blk w c.z no.cells 125
  pb : c.p ≠ c.b
  zb : c.z ≠ c.b
theorem Known.callee {c : Ctx} {t : List Cl} {w w' : World} (h : Known c t w) (hb : Below w.heap.size w w') : Known c t w' :=
  ⟨⟨h.tab.1.callee hb, h.tab.2⟩, h.box.callee hb, h.no.callee hb, h.pb, h.zb⟩
theorem Known.moves {c : Ctx} {t t' : List Cl} {w w' : World} (h : Known c t w) (hm : Moves (fun k => k = c.b) w w') (ht : Tab w' c.b t') : Known c t' w' :=
  ⟨ht, h.box.moves hm h.pb, h.no.moves hm h.zb, h.pb, h.zb⟩

def Stepped (c : Ctx) (s : Sp) (a : Act) (d : Option Tmp) (w : World) (a' : Act) (w' : World) : Prop :=
  ∃ v, a' = a.put d v ∧ s.holds c v w' ∧ Below w.heap.size w w'

theorem zipIdx_swap (ps : List (Nat × Operand)) (g : Operand → Value) (k : Nat) (h : ps.map (·.1) = List.range k) :
    ps.map (fun p => (p.1, g p.2)) = ((ps.map fun p => g p.2).zipIdx 0).map fun x => (x.2, x.1) := by
  apply List.ext_getElem?
  intro i
  rw [List.getElem?_map, List.getElem?_map, List.getElem?_zipIdx, List.getElem?_map]
  cases hp : ps[i]? with
  | none => rfl
  | some p =>
    have h1 : (ps.map (·.1))[i]? = some p.1 := by rw [List.getElem?_map, hp]; rfl
    rw [h, List.getElem?_range (by have := (List.getElem?_eq_some_iff.1 hp).1; have := congrArg List.length h; rw [List.length_map, List.length_range] at this; omega)] at h1
    simp only [Option.some.injEq] at h1
    simp [h1]

theorem wp_slice {o : Oper} {a : Act} {w : World} {Q : Exit → Act → World → Prop} {K : Act → World → Prop} (t e : TypeId) (k z : Nat) (ps : Array (Nat × Operand)) (ho : o.op = .buildSlice t k ps)
    (hu : Tryz.prog.underlying t = some (.slice e)) (hi : (Tryz.prog.info? e).map (·.size) = some z) (hz : ((Tryz.prog.info? e).bind (·.zero)).isSome = true) (hzs : 0 < z) (hz3 : z ≤ 3)
    (hk : ps.toList.map (·.1) = List.range k ∧ 0 < k ∧ k ≤ 100) (vs : List Value) (hvs : ps.toList.map (fun p => a.eval p.2) = vs) (h1 : ∀ v ∈ vs, v.cells.size = z)
    (h : K (a.put o.dst (.slice (some ⟨w.heap.size, 0, none⟩) k k)) (w.alloc (.cells (vs.flatMap fun v => v.cells.toList).toArray e))) : o.wp Tryz.prog a w K Q := by
  have hlen : vs.length = k := by
    rw [← hvs, List.length_map]
    have := congrArg List.length hk.1
    rwa [List.length_map, List.length_range] at this
  have hkz : k * z ≤ 100 * 3 := Nat.mul_le_mul hk.2.2 hz3
  have hkp : 0 < k * z := Nat.mul_pos hk.2.1 hzs
  cases hie : Tryz.prog.info? e with
  | none => simp [hie] at hi
  | some ie =>
    simp only [hie, Option.map_some, Option.some.injEq, Option.bind_some] at hi hz
    obtain ⟨z0, hzz⟩ := Option.isSome_iff_exists.1 hz
    refine wp_buildSlice t e k ps ho _ ie z0 hu hie hzz (by rw [hi]; omega) (by rw [hi]; omega) ?_ h
    have hp : (ps.map fun (i, x) => (i, a.eval x)).toList = (vs.zipIdx 0).map fun x => (x.2, x.1) := by
      rw [Array.toList_map, ← hvs]
      exact zipIdx_swap ps.toList a.eval k hk.1
    rw [hp, hi]
    exact Great.fill_whole hzs vs _ h1 (by rw [hlen, Array.size_map, Array.size_range])

set_option maxRecDepth 100000 in
theorem step_ok {c : Ctx} {t : List Cl} {env : List (Nat × Sp)} {o : Oper} {a : Act} {w : World} {Q : Exit → Act → World → Prop} (hm : Known c t w)
    (hops : ∀ x ∈ o.op.operands, (opnd env x).holds c (a.eval x) w) (hs : (sp env o.op).isAny = false) : o.wp Tryz.prog a w (Stepped c (sp env o.op) a o.dst w) Q := by
  obtain ⟨dst, op, type, pos, after, guard⟩ := o
  cases op with
  | move x =>
    unfold Oper.wp execOp
    simp only [Sem.run_pure, Oper.upon]
    exact ⟨_, rfl, hops x (by simp [Op.operands]), Below.refl _ _⟩
  | load ty x =>
    have hx := hops x (by simp [Op.operands])
    simp only [sp] at hs ⊢
    split at hs
    case isFalse => cases hs
    rename_i hty
    subst hty
    split at hs
    case h_2 => cases hs
    rename_i hno
    rw [hno] at hx
    rw [if_pos rfl]
    have hx' : a.eval x = .pointer (some ⟨c.z, 0, none⟩) := hx
    have c0 : w.cell? ⟨c.z, 0, none⟩ = some (.int .u16 0) := hm.no.at_ 0
    have c1 : w.cell? ⟨c.z, 1, none⟩ = some (.int .u8 0) := hm.no.at_ 1
    have c2 : w.cell? ⟨c.z, 2, none⟩ = some (.bool false) := hm.no.at_ 2
    unfold Oper.wp execOp
    simp only [hx']
    go_simp
    exact ⟨_, rfl, rfl, Below.refl _ _⟩
  | buildSlice ty k ps =>
    have hv : ∀ p ∈ ps.toList, (opnd env p.2).holds c (a.eval p.2) w := fun p hp => hops p.2 (by simp only [Op.operands]; simp; exact ⟨p.1, by simpa using hp⟩)
    simp only [sp] at hs ⊢
    split at hs
    case isFalse => cases hs
    rename_i hk
    rw [if_pos hk]
    split at hs
    case isTrue =>
      rename_i hty
      subst hty
      rw [if_pos rfl]
      split at hs
      case h_2 => cases hs
      rename_i l hl
      have hm1 := acts_some hl
      have hlen : l.length = k := by
        have h1 := congrArg List.length hm1
        have h2 := congrArg List.length hk.1
        rw [List.length_map, List.length_map] at h1
        rw [List.length_map, List.length_range] at h2
        omega
      have hvs : ps.toList.map (fun p => a.eval p.2) = l.map (fun n : Nat => Value.int .u16 (n : Int)) ∧ ∀ n ∈ l, n < 65536 := by
        clear hl hk hlen hs
        generalize ps.toList = q at *
        induction q generalizing l with
        | nil =>
          cases l with
          | nil => exact ⟨rfl, by simp⟩
          | cons _ _ => cases hm1
        | cons p q ih =>
          cases l with
          | nil => cases hm1
          | cons n l =>
            simp only [List.map_cons, List.cons.injEq] at hm1
            have hp := hv p (by simp)
            rw [hm1.1] at hp
            obtain ⟨i1, i2⟩ := ih l (fun p hp => hv p (by simp [hp])) hm1.2
            refine ⟨by rw [List.map_cons, List.map_cons, i1, hp.1], fun m hm => ?_⟩
            rcases List.mem_cons.1 hm with rfl | hm
            · exact hp.2
            · exact i2 m hm
      have hfl : ∀ l : List Nat, ((l.map (fun n : Nat => Value.int .u16 (n : Int))).flatMap fun v => v.cells.toList) = l.map (fun n : Nat => Value.int .u16 (n : Int)) := by
        intro l
        induction l with
        | nil => rfl
        | cons n l ih => rw [List.map_cons, List.flatMap_cons, ih]; rfl
      refine wp_slice 132 22 k 1 ps rfl Tryz.underlying132 (by kernel_rfl) (by kernel_rfl) (by decide) (by decide) hk _ hvs.1 (fun v hv => by obtain ⟨n, _, rfl⟩ := List.mem_map.1 hv; rfl) ?_
      rw [hfl]
      refine ⟨_, rfl, ⟨by omega, hvs.2, _, by rw [hlen], fun j x hj => ⟨w.heap.size, rfl, fun e => Nat.lt_irrefl _ (e ▸ hm.tab.1.lt), by rw [World.size_alloc]; exact Nat.lt_succ_self _, ?_⟩⟩, (Below.refl _ w).alloc (Nat.le_refl _) _⟩
      rw [(blk_new w (l.map (fun n : Nat => Value.int .u16 (n : Int))) 22).at_ j, List.getElem?_map, hj]
      rfl
    case isFalse =>
      rename_i hty
      rw [if_neg hty]
      split at hs
      case isFalse => cases hs
      rename_i hty2
      subst hty2
      rw [if_pos rfl]
      split at hs
      case h_2 => cases hs
      rename_i l hl
      have hm1 := cls_some hl
      have hlen : l.length = k := by
        have h1 := congrArg List.length hm1
        have h2 := congrArg List.length hk.1
        rw [List.length_map, List.length_map] at h1
        rw [List.length_map, List.length_range] at h2
        omega
      have hvs : ps.toList.map (fun p => a.eval p.2) = l.map Cl.val := by
        clear hl hk hlen hs
        generalize ps.toList = q at *
        induction q generalizing l with
        | nil =>
          cases l with
          | nil => rfl
          | cons _ _ => cases hm1
        | cons p q ih =>
          cases l with
          | nil => cases hm1
          | cons n l =>
            simp only [List.map_cons, List.cons.injEq] at hm1
            have hp := hv p (by simp)
            rw [hm1.1] at hp
            rw [List.map_cons, List.map_cons, ih l (fun p hp => hv p (by simp [hp])) hm1.2]
            exact congrArg (· :: _) hp
      have hfl : ∀ l : List Cl, ((l.map Cl.val).flatMap fun v => v.cells.toList) = flat l := by
        intro l
        induction l with
        | nil => rfl
        | cons n l ih => rw [List.map_cons, List.flatMap_cons, ih]; rfl
      refine wp_slice 160 125 k 3 ps rfl Tryz.underlying160 (by kernel_rfl) (by kernel_rfl) (by decide) (by decide) hk _ hvs (fun v hv => by obtain ⟨n, _, rfl⟩ := List.mem_map.1 hv; rfl) ?_
      rw [hfl]
      refine ⟨_, rfl, ⟨w.heap.size, by rw [hlen], fun e => Nat.lt_irrefl _ (e ▸ hm.tab.1.lt), by rw [World.size_alloc]; exact Nat.lt_succ_self _, fun j v hj => ?_⟩, (Below.refl _ w).alloc (Nat.le_refl _) _⟩
      rw [(blk_new w (flat l) 125).at_ j, hj]
  | call cl =>
    simp only [sp, callSp] at hs ⊢
    split at hs
    case h_2 => cases hs
    rename_i f x y hf hxy
    split at hs
    case h_2 => cases hs
    rename_i n l h1 h2 h3
    obtain ⟨callee, args, argTypes⟩ := cl
    obtain ⟨args⟩ := args
    dsimp only at hf hxy
    subst hf hxy
    have k1 := hops f (by simp [Op.operands, Call.operands])
    have k2 := hops x (by simp [Op.operands, Call.operands])
    have k3 := hops y (by simp [Op.operands, Call.operands])
    rw [h1] at k1
    rw [h2] at k2
    rw [h3] at k3
    have k1' : a.eval f = .func (.func 72) #[] #[] := k1
    obtain ⟨k2', _⟩ := k2
    obtain ⟨hl, hu, A, hv, hc⟩ := k3
    have HC := to_any n _ l w ⟨A, rfl, fun j x hj => by obtain ⟨g, e1, _, e2, e3⟩ := hc j x hj; exact ⟨g, e1, e2, e3⟩⟩ hl hu
    unfold Oper.wp execOp
    simp only [resolve, List.map_toArray, List.map_cons, List.map_nil, k1', k2', hv]
    go_simp
    refine HC.mono ?_
    rintro e w1 ⟨rfl, hb⟩
    exact ⟨_, rfl, rfl, hb⟩
  | _ => cases hs
end Go.Proofs.YtpppggicihfbgaaGreat.Fsm

/- Regions of cells and rows, in whatever order their operations come up; a whole piece of code of them. -/
namespace Go.Proofs.YtpppggicihfbgaaGreat.Fsm
open Go.RowKit Go.Proofs.YtpppggicihfbgaaGreat.Oct Go.Proofs.YtpppggicihfbgaaGreat.Row Go.Proofs.YtpppggicihfbgaaGreat.Mem

section inv
variable {P : Program} {ops : Array Oper} {Q : Exit → Act → World → Prop}

theorem wpAny_inv (md : Region.Mode) (I : Array Bool → Act → World → Prop) (hsz : ∀ l a w, I l a w → l.size = ops.size)
    (hstep : ∀ l a w i, i ∈ Region.ready md ops l → I l a w → wpOp P ops Q i (fun a' w' => I (l.setIfInBounds i true) a' w') a w)
    (hend : ∀ l a w, Region.ready md ops l = [] → I l a w → Q .normal a w) :
    ∀ (fuel : Nat) (l : Array Bool) (a : Act) (w : World), l.toList.count false ≤ fuel → I l a w → wpAny P md ops Q fuel l a w := by
  have hlt : ∀ l a w i, i ∈ Region.ready md ops l → I l a w → ∃ h : i < l.toList.length, l.toList[i] = false := by
    intro l a w i hi hI
    have h1 := (mem_ready.1 hi).1
    obtain ⟨o, ho, _⟩ := (mem_ready.1 hi).2
    have h2 : i < l.size := by rw [hsz l a w hI]; exact (Array.getElem?_eq_some_iff.1 ho).1
    refine ⟨by simpa using h2, ?_⟩
    simpa [h2] using h1
  intro fuel
  induction fuel with
  | zero =>
    intro l a w hc hI
    have hr : Region.ready md ops l = [] := by
      cases hr : Region.ready md ops l with
      | nil => rfl
      | cons i r =>
        obtain ⟨h1, h2⟩ := hlt l a w i (by rw [hr]; simp) hI
        have : 0 < l.toList.count false := List.count_pos_iff.2 (h2 ▸ List.getElem_mem h1)
        omega
    exact ⟨hr, hend l a w hr hI⟩
  | succ fuel ih =>
    intro l a w hc hI
    refine ⟨fun hr => hend l a w hr hI, fun i hi => ?_⟩
    obtain ⟨h1, h2⟩ := hlt l a w i hi hI
    refine wpOp_mono (fun a' w' h => ih _ a' w' ?_ h) (hstep l a w i hi hI)
    have : (l.setIfInBounds i true).toList = l.toList.set i true := by simp
    rw [this, List.count_set h1, h2]
    have h0 : 0 < l.toList.count false := List.count_pos_iff.2 (h2 ▸ List.getElem_mem h1)
    show l.toList.count false - 1 + 0 ≤ fuel
    omega

theorem wpOps_inv (md : Region.Mode) (I : Array Bool → Act → World → Prop) (hsz : ∀ l a w, I l a w → l.size = ops.size)
    (hstep : ∀ l a w i, i ∈ Region.ready md ops l → I l a w → wpOp P ops Q i (fun a' w' => I (l.setIfInBounds i true) a' w') a w)
    (hend : ∀ l a w, (∀ i, i < ops.size → l.getD i false = true) → I l a w → Q .normal a w)
    (hback : ∀ (i : Nat) (o : Oper), ops[i]? = some o → ∀ e ∈ o.after, Region.binds md e = true → e.on < i) :
    ∀ (n k : Nat) (l : Array Bool) (a : Act) (w : World), k + n = ops.size → (∀ j, j < ops.size → (l.getD j false = true ↔ j < k)) → I l a w → wpOps P ops Q (List.range' k n) a w := by
  intro n
  induction n with
  | zero =>
    intro k l a w hk hl hI
    exact hend l a w (fun i hi => (hl i hi).2 (by omega)) hI
  | succ n ih =>
    intro k l a w hk hl hI
    have hs := hsz l a w hI
    rw [List.range'_succ, wpOps_cons]
    have hkk : l.getD k true = false := by
      have h1 := (hl k (by omega))
      have h2 : k < l.size := by omega
      cases h3 : l[k]
      · simp [h2, h3]
      · have : l.getD k false = true := by simp [h2, h3]
        exact absurd (h1.1 this) (Nat.lt_irrefl k)
    have hr : k ∈ Region.ready md ops l := by
      rw [mem_ready]
      refine ⟨hkk, ops[k], Array.getElem?_eq_getElem (by omega), fun e he hb => ?_⟩
      have := hback k _ (Array.getElem?_eq_getElem (by omega)) e he hb
      exact (hl e.on (by omega)).2 this
    refine wpOp_mono (fun a' w' h => ih (k + 1) _ a' w' (by omega) (fun j hj => ?_) h) (hstep l a w k hr hI)
    by_cases hjk : k = j
    · subst hjk
      have h2 : k < l.size := by omega
      simp [h2]
    · rw [getD_set_ne false hjk, hl j hj]
      omega

theorem all_listed (md : Region.Mode) (l : Array Bool) (hs : l.size = ops.size) (hback : ∀ (i : Nat) (o : Oper), ops[i]? = some o → ∀ e ∈ o.after, Region.binds md e = true → e.on < i)
    (hr : Region.ready md ops l = []) : ∀ i, i < ops.size → l.getD i false = true := by
  intro i
  induction i using Nat.strongRecOn with
  | _ i ih =>
    intro hi
    cases h3 : l.getD i false
    · have h2 : i < l.size := by omega
      have : i ∈ Region.ready md ops l := by
        rw [mem_ready]
        refine ⟨by simpa [h2] using h3, ops[i], Array.getElem?_eq_getElem hi, fun e he hb => ?_⟩
        have := hback i _ (Array.getElem?_eq_getElem hi) e he hb
        exact ih e.on this (by omega)
      rw [hr] at this
      cases this
    · rfl
end inv

def base (t : Nat) : Bool := t == 2 || t == 3
def env0 : List (Nat × Sp) := [(2, .no), (3, .fn)]
def envOf (ops : Array Oper) : List (Nat × Sp) := ops.toList.foldl (fun env o => match o.dst with | some d => (d, sp env o.op) :: env | none => env) env0
def opGood (f N : Nat) (env : List (Nat × Sp)) (ops : Array Oper) (i : Nat) (o : Oper) : Bool :=
  o.guard.isNone && o.after.all (fun e => !Region.binds .any e || decide (e.on < i)) &&
  o.op.operands.all (fun | .tmp t => base t || o.after.any (fun e => Region.binds .any e && decide ((ops[e.on]?).bind (·.dst) = some t)) | _ => true) &&
  (match o.dst with
   | none => false
   | some d => decide (d < N) && !base d &&
     (if i + 1 = ops.size then decide (look env d = .any) && (rowSp f env o.op).isSome else !(sp env o.op).isAny && decide (look env d = sp env o.op)))
def check (f N : Nat) (env : List (Nat × Sp)) (ops : Array Oper) : Bool :=
  decide (0 < ops.size) && decide ((ops.toList.map (·.dst)).Nodup) && decide (look env 2 = .no) && decide (look env 3 = .fn) &&
  (List.range ops.size).all (fun i => match ops[i]? with | none => true | some o => opGood f N env ops i o)
def rowOf (f N : Nat) (ops : Array Oper) : Option (Nat × List Cl) :=
  if check f N (envOf ops) ops then (ops[ops.size - 1]?).bind (fun o => rowSp f (envOf ops) o.op) else none
def rowsOf (f N : Nat) : Code → Option (List (Nat × List Cl))
  | .region _ ops _ => (rowOf f N ops).map ([·])
  | .seq x y => match rowsOf f N x, rowsOf f N y with
    | some l, some m => some (l ++ m)
    | _, _ => none
  | _ => none

theorem put_at (a : Act) (d : Nat) (v : Value) (h : d < a.tmps.size) : (a.put (some d) v).tmps.getD d undef = v := by
  simp [Act.put, h]
theorem put_other (a : Act) (d t : Nat) (v : Value) (h : d ≠ t) : (a.put (some d) v).tmps.getD t undef = a.tmps.getD t undef := by
  simp [Act.put, Array.getElem?_setIfInBounds_ne h]

def RowCall (c : Ctx) : Prop := (∀ args w, (callFunc c.F args).run Tryz.prog w = .ok (.enter c.F args) w) ∧ ∀ (g e : Nat) (t l : List Cl) (w : World), Known c t w → Row w g l → e < 16 → c.f + l.length ≤ 10 → 0 < l.length →
  Calls Tryz.prog c.F #[.int .i64 e, .slice (some ⟨g, 0, none⟩) l.length l.length, .pointer (some ⟨c.p, 0, none⟩)] w
    fun x w' => x = .returned (.tuple #[]) ∧ Tab w' c.b (over t (e * 10 + c.f) l) ∧ Moves (fun k => k = c.b) w w'

def Base (c : Ctx) (N : Nat) (a : Act) : Prop := a.tmps.size = N ∧ a.tmps.getD 2 undef = .pointer (some ⟨c.z, 0, none⟩) ∧ a.tmps.getD 3 undef = .func (.func c.F) #[] #[.pointer (some ⟨c.p, 0, none⟩)] ∧ a.defers = []

structure Inv (c : Ctx) (N : Nat) (ops : Array Oper) (t : List Cl) (e : Nat) (cs : List Cl) (w0 : World) (l : Array Bool) (a : Act) (w : World) : Prop where
  size : l.size = ops.size
  base : Base c N a
  slots : ∀ (j : Nat) (o : Oper) (d : Nat), ops[j]? = some o → l.getD j false = true → o.dst = some d → (look (envOf ops) d).holds c (a.tmps.getD d undef) w
  known : Known c (if l.getD (ops.size - 1) false = true then over t (e * 10 + c.f) cs else t) w
  moves : Moves (fun k => k = c.b) w0 w

theorem nodup_dst {ops : Array Oper} (h : (ops.toList.map (·.dst)).Nodup) {i j : Nat} {o o' : Oper} (hi : ops[i]? = some o) (hj : ops[j]? = some o') (he : o.dst = o'.dst) : i = j := by
  rw [← Array.getElem?_toList] at hi hj
  have h1 : (ops.toList.map (·.dst))[i]? = some o.dst := by rw [List.getElem?_map, hi]; rfl
  have h2 : (ops.toList.map (·.dst))[j]? = some o.dst := by rw [List.getElem?_map, hj, he]; rfl
  obtain ⟨k1, e1⟩ := List.getElem?_eq_some_iff.1 h1
  obtain ⟨k2, e2⟩ := List.getElem?_eq_some_iff.1 h2
  have hp := List.pairwise_iff_getElem.1 h
  rcases Nat.lt_trichotomy i j with hlt | rfl | hlt
  · exact absurd (e1.trans e2.symm) (hp i j k1 k2 hlt)
  · rfl
  · exact absurd (e2.trans e1.symm) (hp j i k2 k1 hlt)

theorem check_spec {f N : Nat} {ops : Array Oper} {r : Nat × List Cl} (h : rowOf f N ops = some r) :
    0 < ops.size ∧ (ops.toList.map (·.dst)).Nodup ∧ look (envOf ops) 2 = .no ∧ look (envOf ops) 3 = .fn ∧ (∀ i o, ops[i]? = some o → opGood f N (envOf ops) ops i o = true) ∧
    ∃ o, ops[ops.size - 1]? = some o ∧ rowSp f (envOf ops) o.op = some r := by
  unfold rowOf at h
  split at h
  case isFalse => cases h
  rename_i hc
  unfold check at hc
  simp only [Bool.and_eq_true, decide_eq_true_eq, List.all_eq_true, List.mem_range] at hc
  obtain ⟨⟨⟨⟨h1, h2⟩, h3⟩, h4⟩, h5⟩ := hc
  refine ⟨h1, h2, h3, h4, fun i o ho => ?_, Option.bind_eq_some_iff.1 h⟩
  have := h5 i (Array.getElem?_eq_some_iff.1 ho).1
  rw [ho] at this
  exact this

theorem opGood_spec {f N : Nat} {env : List (Nat × Sp)} {ops : Array Oper} {i : Nat} {o : Oper} (h : opGood f N env ops i o = true) :
    o.guard = none ∧ (∀ e ∈ o.after, Region.binds .any e = true → e.on < i) ∧
    (∀ t, Operand.tmp t ∈ o.op.operands → base t = true ∨ ∃ e ∈ o.after, Region.binds .any e = true ∧ (ops[e.on]?).bind (·.dst) = some t) ∧
    ∃ d, o.dst = some d ∧ d < N ∧ base d = false ∧ (if i + 1 = ops.size then look env d = .any else (sp env o.op).isAny = false ∧ look env d = sp env o.op) := by
  unfold opGood at h
  simp only [Bool.and_eq_true] at h
  obtain ⟨⟨⟨h1, h2⟩, h3⟩, h4⟩ := h
  refine ⟨by simpa using h1, fun e he hb => ?_, fun t ht => ?_, ?_⟩
  · have := Array.all_eq_true_iff_forall_mem.1 h2 e he
    simpa [hb] using this
  · have := Array.all_eq_true_iff_forall_mem.1 h3 _ ht
    rcases Bool.or_eq_true _ _ ▸ this with h | h
    · exact .inl h
    · obtain ⟨e, he, hb⟩ := Array.any_eq_true'.1 h
      rw [Bool.and_eq_true, decide_eq_true_eq] at hb
      exact .inr ⟨e, he, hb.1, hb.2⟩
  · split at h4
    · cases h4
    · rename_i d hd
      refine ⟨d, hd, ?_⟩
      simp only [Bool.and_eq_true, decide_eq_true_eq, Bool.not_eq_true'] at h4
      refine ⟨h4.1.1, h4.1.2, ?_⟩
      split
      · rename_i hi
        rw [if_pos hi] at h4
        simp only [Bool.and_eq_true, decide_eq_true_eq] at h4
        exact h4.2.1
      · rename_i hi
        rw [if_neg hi] at h4
        simp only [Bool.and_eq_true, decide_eq_true_eq, Bool.not_eq_true'] at h4
        exact h4.2

theorem wpOp_of {P : Program} {ops : Array Oper} {Q : Exit → Act → World → Prop} {i : Nat} {o : Oper} {a : Act} {w : World} {K : Act → World → Prop} (ho : ops[i]? = some o) (hg : o.guard = none) (h : o.wp P a w K Q) : wpOp P ops Q i K a w := by
  unfold wpOp
  simp only [ho]
  rw [if_pos (by simp [Region.wanted, hg])]
  exact .inl h

def Rowed (c : Ctx) (t l : List Cl) (e : Nat) (a : Act) (d : Option Tmp) (w : World) (a' : Act) (w' : World) : Prop :=
  ∃ v, a' = a.put d v ∧ Tab w' c.b (over t (e * 10 + c.f) l) ∧ Moves (fun k => k = c.b) w w'
theorem row_ok {c : Ctx} {t : List Cl} {env : List (Nat × Sp)} {o : Oper} {a : Act} {w : World} {Q : Exit → Act → World → Prop} {e : Nat} {l : List Cl} (hm : Known c t w) (hrow : RowCall c)
    (hops : ∀ x ∈ o.op.operands, (opnd env x).holds c (a.eval x) w) (hs : rowSp c.f env o.op = some (e, l)) :
    o.wp Tryz.prog a w (Rowed c t l e a o.dst w) Q := by
  obtain ⟨dst, op, type, pos, after, guard⟩ := o
  cases op with
  | call cl =>
    simp only [rowSp] at hs
    split at hs
    case h_2 => cases hs
    rename_i f x y hf hxy
    split at hs
    case h_2 => cases hs
    rename_i n l' h1 h2 h3
    split at hs
    case isFalse => cases hs
    rename_i hl
    cases hs
    obtain ⟨callee, args, argTypes⟩ := cl
    obtain ⟨args⟩ := args
    dsimp only at hf hxy
    subst hf hxy
    have k1 := hops f (by simp [Op.operands, Call.operands])
    have k2 := hops x (by simp [Op.operands, Call.operands])
    have k3 := hops y (by simp [Op.operands, Call.operands])
    rw [h1] at k1
    rw [h2] at k2
    rw [h3] at k3
    have k1' : a.eval f = .func (.func c.F) #[] #[.pointer (some ⟨c.p, 0, none⟩)] := k1
    obtain ⟨k2', he⟩ := k2
    obtain ⟨g, hv, hb, hR⟩ := k3
    have HC := hrow.2 g e t l w hm hR he hl.2 hl.1
    have HE := hrow.1
    unfold Oper.wp execOp
    simp only [resolve, List.map_toArray, List.map_cons, List.map_nil, k1', k2', hv]
    go_simp
    refine HC.mono ?_
    rintro x w1 ⟨rfl, h1, h2⟩
    exact ⟨_, rfl, h1, h2⟩
  | _ => cases hs

theorem inv_step {c : Ctx} {N : Nat} {ops : Array Oper} {t cs : List Cl} {e : Nat} {w0 : World} {Q : Exit → Act → World → Prop} (hr : rowOf c.f N ops = some (e, cs)) (hrow : RowCall c)
    (l : Array Bool) (a : Act) (w : World) (i : Nat) (hi : i ∈ Region.ready .any ops l) (hI : Inv c N ops t e cs w0 l a w) :
    wpOp Tryz.prog ops Q i (fun a' w' => Inv c N ops t e cs w0 (l.setIfInBounds i true) a' w') a w := by
  obtain ⟨hsz, hnd, hl2, hl3, hgood, o', ho', hro⟩ := check_spec hr
  obtain ⟨hun, o, ho, hall⟩ := mem_ready.1 hi
  have hil : i < ops.size := (Array.getElem?_eq_some_iff.1 ho).1
  obtain ⟨hg, hback, hdeps, d, hd, hdN, hdb, hlook⟩ := opGood_spec (hgood i o ho)
  have hds : d < a.tmps.size := by rw [hI.base.1]; exact hdN
  have hd2 : d ≠ 2 := fun e => by subst e; simp [base] at hdb
  have hd3 : d ≠ 3 := fun e => by subst e; simp [base] at hdb
  have hops : ∀ x ∈ o.op.operands, (opnd (envOf ops) x).holds c (a.eval x) w := by
    intro x hx
    refine opnd_holds x fun u hu => ?_
    subst hu
    rcases hdeps u hx with hb | ⟨ed, he, hbd, hto⟩
    · unfold base at hb
      simp only [Bool.or_eq_true, beq_iff_eq] at hb
      rcases hb with rfl | rfl
      · rw [hl2]; exact hI.base.2.1
      · rw [hl3]; exact hI.base.2.2.1
    · obtain ⟨oj, hoj, hdj⟩ := Option.bind_eq_some_iff.1 hto
      exact hI.slots ed.on oj u hoj (hall ed he hbd) hdj
  refine wpOp_of ho hg ?_
  have hset : ∀ j, (l.setIfInBounds i true).getD j false = true → j = i ∨ l.getD j false = true := by
    intro j hj
    by_cases hij : i = j
    · exact .inl hij.symm
    · rw [getD_set_ne false hij] at hj; exact .inr hj
  have hslots : ∀ (v : Value) (w' : World), (look (envOf ops) d).holds c v w' → Moves (fun k => k = c.b) w w' →
      ∀ (j : Nat) (oj : Oper) (dj : Nat), ops[j]? = some oj → (l.setIfInBounds i true).getD j false = true → oj.dst = some dj → (look (envOf ops) dj).holds c ((a.put (some d) v).tmps.getD dj undef) w' := by
    intro v w' hv hm j oj dj hoj hj hdj
    by_cases hji : j = i
    · subst hji
      obtain rfl : o = oj := by rw [ho] at hoj; exact Option.some.inj hoj
      obtain rfl : d = dj := by rw [hd] at hdj; exact Option.some.inj hdj
      rw [put_at a d v hds]
      exact hv
    · have hne : d ≠ dj := fun h => hji (nodup_dst hnd hoj ho (by rw [hd, hdj, h]))
      rw [put_other a d dj v hne]
      exact (hI.slots j oj dj hoj ((hset j hj).resolve_left hji) hdj).moves hm
  have hbase : ∀ v, Base c N (a.put (some d) v) := fun v =>
    ⟨by simp [Act.put, hI.base.1], by rw [put_other a d 2 v hd2]; exact hI.base.2.1, by rw [put_other a d 3 v hd3]; exact hI.base.2.2.1, hI.base.2.2.2⟩
  have hlsz : (l.setIfInBounds i true).size = ops.size := by simp [hI.size]
  by_cases hlast : i + 1 = ops.size
  · rw [if_pos hlast] at hlook
    have hi1 : ops.size - 1 = i := by omega
    obtain rfl : o = o' := by rw [hi1, ho] at ho'; exact Option.some.inj ho'
    have hk := hI.known
    have hll : l.getD i false = false := by
      have h2 : i < l.size := by rw [hI.size]; exact hil
      simpa [h2] using hun
    rw [hi1, hll, if_neg (by decide)] at hk
    refine Oper.wp_mono ?_ (row_ok hk hrow hops hro)
    rintro a' w' ⟨v, rfl, h1, h2⟩
    rw [hd]
    refine ⟨hlsz, hbase v, hslots v w' (by rw [hlook]; trivial) h2, ?_, hI.moves.trans h2 (fun _ _ h => h)⟩
    have : (l.setIfInBounds i true).getD (ops.size - 1) false = true := by
      rw [hi1]
      have h2 : i < l.size := by rw [hI.size]; exact hil
      simp [h2]
    rw [if_pos this]
    exact hk.moves h2 h1
  · rw [if_neg hlast] at hlook
    refine Oper.wp_mono ?_ (step_ok (env := envOf ops) hI.known hops hlook.1)
    rintro a' w' ⟨v, rfl, h1, h2⟩
    rw [hd]
    have hm : Moves (fun k => k = c.b) w w' := Moves.of_below h2
    refine ⟨hlsz, hbase v, hslots v w' (by rw [hlook.2]; exact h1) hm, ?_, hI.moves.trans hm (fun _ _ h => h)⟩
    rw [getD_set_ne false (show i ≠ ops.size - 1 by omega)]
    exact hI.known.callee h2

theorem Known.drewK {c : Ctx} {t : List Cl} {w : World} (h : Known c t w) : Known c t w.drew := ⟨h.tab, h.box, h.no, h.pb, h.zb⟩
theorem region_ok {c : Ctx} {N id : Nat} {ops : Array Oper} {draw : Bool} {t cs : List Cl} {e : Nat} {a : Act} {w : World} (hr : rowOf c.f N ops = some (e, cs)) (hrow : RowCall c) (ha : Base c N a) (hk : Known c t w) (hmix : Tryz.prog.follows .mixedOrders = true) :
    (Code.region id ops draw).wp Tryz.prog (fun x a' w' => x = .normal ∧ Base c N a' ∧ Known c (over t (e * 10 + c.f) cs) w' ∧ Moves (fun k => k = c.b) w w') a w := by
  obtain ⟨hsz, hnd, hl2, hl3, hgood, o', ho', hro⟩ := check_spec hr
  have hback : ∀ (i : Nat) (o : Oper), ops[i]? = some o → ∀ e ∈ o.after, Region.binds .any e = true → e.on < i := fun i o ho => (opGood_spec (hgood i o ho)).2.1
  have hend : ∀ (l : Array Bool) (a' : Act) (w' : World), (∀ i, i < ops.size → l.getD i false = true) → Inv c N ops t e cs w l a' w' →
      Exit.normal = Exit.normal ∧ Base c N a' ∧ Known c (over t (e * 10 + c.f) cs) w' ∧ Moves (fun k => k = c.b) w w' := by
    intro l a' w' hl hI
    refine ⟨rfl, hI.base, ?_, hI.moves⟩
    have := hI.known
    rwa [if_pos (hl (ops.size - 1) (by omega))] at this
  have hstart : ∀ w', Known c t w' → Moves (fun k => k = c.b) w w' → Inv c N ops t e cs w (Array.replicate ops.size false) a w' := fun w' hk hm =>
    ⟨by simp, ha, fun j o d _ hj => by simp [Array.getElem?_replicate] at hj; split at hj <;> simp_all, by rw [if_neg (by simp [Array.getElem?_replicate]; split <;> simp)]; exact hk, hm⟩
  cases draw with
  | true =>
    refine wp_region_any hmix ?_
    refine wpAny_inv .any (Inv c N ops t e cs w) (fun l a w h => h.size) (fun l a w i hi hI => inv_step hr hrow l a w i hi hI) ?_ _ _ _ _ (by rw [Array.toList_replicate, List.count_replicate_self]; exact Nat.le_refl _) ?_
    · intro l a' w' hrd hI
      exact hend l a' w' (all_listed .any l hI.size hback hrd) hI
    · exact hstart _ hk.drewK (Moves.refl _ w).drew
  | false =>
    refine wp_region ?_
    rw [List.range_eq_range']
    refine wpOps_inv .any (Inv c N ops t e cs w) (fun l a w h => h.size) (fun l a w i hi hI => inv_step hr hrow l a w i hi hI) hend hback _ 0 (Array.replicate ops.size false) a w (by omega) (fun j hj => by simp [hj]) (hstart w hk (Moves.refl _ w))

theorem code_ok {c : Ctx} {N : Nat} (hrow : RowCall c) (hmix : Tryz.prog.follows .mixedOrders = true) : ∀ (x : Code) (rs : List (Nat × List Cl)), rowsOf c.f N x = some rs → ∀ (t : List Cl) (a : Act) (w : World), Base c N a → Known c t w →
    x.wp Tryz.prog (fun x a' w' => x = .normal ∧ Base c N a' ∧ Known c (lays c.f t rs) w' ∧ Moves (fun k => k = c.b) w w') a w
  | .region id ops draw, rs, h, t, a, w, ha, hk => by
    simp only [rowsOf, Option.map_eq_some_iff] at h
    obtain ⟨⟨e, cs⟩, hr, rfl⟩ := h
    exact region_ok hr hrow ha hk hmix
  | .seq x y, rs, h, t, a, w, ha, hk => by
    simp only [rowsOf] at h
    split at h
    case h_2 => cases h
    rename_i l m hx hy
    cases h
    refine wp_seq (wp_mono (code_ok hrow hmix x l hx t a w ha hk) ?_)
    rintro e a1 w1 ⟨rfl, h1, h2, h3⟩
    refine wp_mono (code_ok hrow hmix y m hy _ a1 w1 h1 h2) ?_
    rintro e a2 w2 ⟨rfl, k1, k2, k3⟩
    refine ⟨rfl, k1, ?_, h3.trans k3 (fun _ _ h => h)⟩
    unfold lays at k2 ⊢
    rw [List.foldl_append]
    exact k2
  | .skip, _, h, _, _, _, _, _ | .cond _ _ _, _, h, _, _, _, _, _ | .block _ _, _, h, _, _, _, _, _ | .loop _, _, h, _, _, _, _, _ | .rangeFunc _ _ _ _, _, h, _, _, _, _, _
  | .exit _, _, h, _, _, _, _, _ | .scope _, _, h, _, _, _, _, _ | .label _, _, h, _, _, _, _, _ | .goto _, _, h, _, _, _, _, _ | .ret, _, h, _, _, _, _, _ | .refuse _, _, h, _, _, _, _, _ => by cases h
end Go.Proofs.YtpppggicihfbgaaGreat.Fsm

/- The rows of the table, as the program's text lays them (by gen/fsm_rows.py); the table as a function. Of no program. -/
namespace Go.Proofs.YtpppggicihfbgaaGreat.Fsm

def idle0 : Nat × List Cl := (0, [⟨0, 2, true⟩, ⟨80, 6, true⟩, no, no, no, no])
def idle1 : List (Nat × List Cl) := [
  (1, [no, no, ⟨0, 0, true⟩, ⟨4, 1, true⟩, ⟨0, 0, true⟩, ⟨0, 1, true⟩]),
  (2, [⟨4, 1, true⟩, ⟨0, 1, true⟩, ⟨80, 6, true⟩, ⟨0, 3, true⟩, ⟨0, 5, true⟩, ⟨0, 5, true⟩]),
  (3, [⟨0, 0, true⟩, ⟨8, 0, true⟩, ⟨0, 2, true⟩, ⟨0, 2, true⟩, ⟨0, 4, true⟩, ⟨0, 4, true⟩]),
  (4, [no, no, no, no, ⟨512, 4, true⟩, ⟨512, 5, true⟩]),
  (5, [no, no, no, no, ⟨8, 2, true⟩, ⟨8, 3, true⟩]),
  (6, [no, no, ⟨1024, 2, true⟩, ⟨208, 8, true⟩, ⟨0, 4, true⟩, ⟨0, 5, true⟩]),
  (7, [no, no, ⟨1024, 2, true⟩, ⟨336, 6, true⟩, ⟨0, 4, true⟩, ⟨0, 5, true⟩]),
  (8, [no, no, ⟨1024, 2, true⟩, ⟨1024, 3, true⟩, ⟨0, 4, true⟩, ⟨0, 5, true⟩]),
  (9, [no, no, ⟨1024, 2, true⟩, ⟨1024, 3, true⟩, ⟨0, 4, true⟩, ⟨0, 5, true⟩]),
  (10, [no, no, ⟨1024, 2, true⟩, ⟨1024, 3, true⟩, ⟨1024, 4, true⟩, ⟨1024, 5, true⟩]),
  (11, [no, no, ⟨0, 2, true⟩, ⟨0, 3, true⟩, ⟨8, 2, true⟩, ⟨8, 3, true⟩]),
  (12, [no, no, ⟨2048, 2, true⟩, ⟨2048, 3, true⟩, ⟨2048, 4, true⟩, ⟨2048, 5, true⟩]),
  (13, [no, no, ⟨0, 2, true⟩, ⟨0, 3, true⟩, ⟨0, 4, true⟩, ⟨0, 5, true⟩]),
  (14, [no, no, ⟨8, 2, true⟩, ⟨8, 3, true⟩, ⟨8, 2, true⟩, ⟨8, 3, true⟩]),
  (15, [no, no, ⟨0, 2, true⟩, ⟨0, 3, true⟩, ⟨0, 4, true⟩, ⟨0, 5, true⟩])]
def busy0 : Nat × List Cl := (0, [no, no, no, no])
def busy1 : List (Nat × List Cl) := [
  (1, [⟨0, 1, true⟩, ⟨0, 1, true⟩, ⟨0, 1, true⟩, ⟨2, 1, true⟩]),
  (2, [⟨0, 6, true⟩, ⟨0, 7, true⟩, ⟨0, 8, true⟩, ⟨0, 9, true⟩]),
  (3, [⟨528, 4, true⟩, ⟨528, 4, true⟩, ⟨528, 4, true⟩, ⟨530, 4, true⟩]),
  (4, [⟨64, 6, true⟩, ⟨64, 6, true⟩, ⟨64, 8, true⟩, no]),
  (5, [⟨8, 3, true⟩, ⟨8, 3, true⟩, ⟨8, 3, true⟩, no]),
  (6, [⟨128, 8, true⟩, ⟨129, 9, true⟩, ⟨128, 8, true⟩, ⟨194, 8, true⟩]),
  (7, [⟨256, 6, true⟩, ⟨256, 7, true⟩, ⟨256, 6, true⟩, ⟨322, 6, true⟩]),
  (8, [⟨16, 7, true⟩, ⟨64, 6, true⟩, ⟨17, 9, true⟩, ⟨66, 6, true⟩]),
  (9, [⟨80, 6, true⟩, ⟨64, 6, true⟩, ⟨80, 8, true⟩, ⟨66, 6, true⟩]),
  (10, [⟨1024, 6, true⟩, ⟨1024, 6, true⟩, ⟨1024, 6, true⟩, ⟨1058, 5, true⟩]),
  (11, [⟨0, 6, true⟩, ⟨0, 6, true⟩, ⟨0, 8, true⟩, ⟨66, 6, true⟩]),
  (12, [⟨2048, 6, true⟩, ⟨2048, 7, true⟩, ⟨2048, 8, true⟩, ⟨2048, 9, true⟩]),
  (13, [⟨0, 6, true⟩, ⟨0, 6, true⟩, ⟨0, 8, true⟩, ⟨0, 9, true⟩]),
  (14, [⟨8, 3, true⟩, ⟨8, 3, true⟩, ⟨8, 3, true⟩, ⟨530, 5, true⟩]),
  (15, [⟨0, 6, true⟩, ⟨0, 7, true⟩, ⟨0, 8, true⟩, ⟨4096, 9, true⟩])]
def tbl : List Cl := lays 6 (lays 0 (List.replicate 160 no) (idle0 :: idle1)) (busy0 :: busy1)
theorem tbl_length : tbl.length = 160 := by decide +kernel
def at_ (e s : Nat) : Cl := tbl.getD (e * 10 + s) no
theorem tbl_at (e s : Nat) (he : e < 16) (hs : s < 10) : tbl[e * 10 + s]? = some (at_ e s) := by
  unfold at_
  rw [List.getD_eq_getElem?_getD, List.getElem?_eq_getElem (by rw [tbl_length]; omega)]
  rfl
end Go.Proofs.YtpppggicihfbgaaGreat.Fsm
