/- The library's variables as start-up lays them; contracts of the library's functions that ipcpopt calls. -/
import Derived.Test.YtlbnbbpokphgbaaDoorIpcTxt
import Derived.Test.YtlbnbbpokphgbaaDoorShelf
import Derived.Test.YtlbnbbpokphgbaaDoorRow
import Derived.Test.YtlbnbbpokphgbaaDoorMoves
import Derived.WalkKit
import Derived.WalkSpells
import Derived.WalkLawsBesides
import Derived.RegionTactic
import Derived.BigQuiet
import Derived.BigCall
import Derived.Lib.Hide
import Derived.Lib.AtoiErrMem
import Derived.Lib.ItoaMem
import Derived.KernelRfl
namespace Go.Proofs.YtlbnbbpokphgbaaDoor.Ipc
open Go.RowKit Go.Sort Go.Proofs.YtlbnbbpokphgbaaDoor.Oct Go.Proofs.YtlbnbbpokphgbaaDoor.Row Go.Proofs.YtlbnbbpokphgbaaDoor.Mem

theorem var_of {P : Program} {w w' : World} {n : String} {g : Nat} {cs : Array Value} (hg : P.globalNamed n = some g) (h : w.var? P n = some cs) (hb : w'.heap[g]? = w.heap[g]?) : w'.var? P n = some cs := by
  unfold World.var? at h ⊢
  simp only [hg, Option.bind_some] at h ⊢
  rw [hb]
  exact h
theorem gTab : Tryd.prog.globalNamed "internal/strconv.uint64pow10" = some 3 := by kernel_rfl
theorem gSyn : Tryd.prog.globalNamed "strconv.ErrSyntax" = some 1 := by kernel_rfl
theorem gRng : Tryd.prog.globalNamed "strconv.ErrRange" = some 2 := by kernel_rfl
/-- Where the library's variables lie. -/
def gvs : List Nat := [3, 1, 2, 0]
/-- The library's variables lie as start-up lays them, in blocks below B. -/
structure Glb (B : Nat) (w : World) : Prop where
  tab : Lib.TabIs Tryd.prog w "internal/strconv.uint64pow10" .u64 Lib.pow10Tab
  syn : ∃ tp p, w.var? Tryd.prog "strconv.ErrSyntax" = some #[.iface tp p]
  rng : ∃ tp p, w.var? Tryd.prog "strconv.ErrRange" = some #[.iface tp p]
  max : ∃ m, w.cell? ⟨0, 0, none⟩ = some (.int .i64 m)
  low : ∀ k, k ∈ gvs → k < B
  lim : B ≤ w.heap.size
theorem Glb.same {B : Nat} {w w' : World} (h : Glb B w) (hs : B ≤ w'.heap.size) (hb : ∀ k, k ∈ gvs → w'.heap[k]? = w.heap[k]?) : Glb B w' where
  tab := var_of gTab h.tab (hb _ (by decide))
  syn := by obtain ⟨tp, p, e⟩ := h.syn; exact ⟨tp, p, var_of gSyn e (hb _ (by decide))⟩
  rng := by obtain ⟨tp, p, e⟩ := h.rng; exact ⟨tp, p, var_of gRng e (hb _ (by decide))⟩
  max := by
    obtain ⟨m, e⟩ := h.max
    exact ⟨m, (World.cell?_of_block (hb _ (by decide))).trans e⟩
  low := h.low
  lim := hs
theorem Glb.below {B : Nat} {w w' : World} (h : Glb B w) (hb : Below B w w') : Glb B w' := h.same (Nat.le_trans h.lim hb.size) fun k hk => hb.block k (h.low k hk)
theorem Glb.callee {B : Nat} {w w' : World} (h : Glb B w) (hb : Below w.heap.size w w') : Glb B w' := h.below (hb.mono h.lim)
theorem Glb.moves {B : Nat} {S : Nat → Prop} {w w' : World} (h : Glb B w) (hm : Moves S w w') (hs : ∀ k, S k → B ≤ k) : Glb B w' :=
  h.same (Nat.le_trans h.lim hm.size) fun k hk => hm.block k (Nat.lt_of_lt_of_le (h.low k hk) h.lim) fun e => absurd (hs k e) (Nat.not_le.2 (h.low k hk))
theorem below_grow (w : World) (k : Nat) (os : Array Obj) : Below w.heap.size w (grow (w.drewN k) os) :=
  ⟨rfl, rfl, rfl, by show w.heap.size ≤ (w.heap ++ os).size; rw [Array.size_append]; omega, fun j hj => by show (w.heap ++ os)[j]? = _; rw [Array.getElem?_append_left hj]⟩
/-- strconv.Itoa at a number that is not negative. -/
theorem itoa_any (n : Nat) (w : World) {B : Nat} (hG : Glb B w) (hn : n ≤ 255) : Calls Tryd.prog 30 #[.int .i64 n] w fun e w' => e = .returned (.string (bOf (Lib.decDigits n))) ∧ Below w.heap.size w w' :=
  (Tryd.strconv_Itoa n (by omega) (by omega) w hG.tab).mono fun e w' ⟨he, k, os, hw⟩ => ⟨by rw [he, Lib.itoa_nonneg]; rfl, by rw [hw]; exact below_grow _ _ _⟩
/-- strings.Cut at a dot. -/
theorem cut_dot (s : ByteArray) (w : World) {B : Nat} (hG : Glb B w) (hs : s.size ≤ 100) : Calls Tryd.prog 27 #[.string s, .string ⟨#[46]⟩] w fun e w' => e = .returned (.tuple #[.string (bOf (cutD s.toList).1), .string (bOf (cutD s.toList).2.1), .bool (cutD s.toList).2.2]) ∧ ∃ k, w' = w.drewN k := by
  obtain ⟨m, hm⟩ := hG.max
  refine (Tryd.strings_Cut s ⟨#[46]⟩ m w (by omega) hm).mono fun e w' ⟨he, hw⟩ => ⟨?_, hw⟩
  rw [he]
  have e1 : Lib.cut s.data.toList (⟨#[46]⟩ : ByteArray).data.toList = cutD s.toList := by rw [ByteArray.toList_eq]; exact cut_eq _
  rw [e1]
  rfl
/-- strings.Join with a dot between. -/
theorem join_dot (bk c : Nat) (xs : List ByteArray) (w : World) (hcells : ∀ (j : Nat) x, xs[j]? = some x → w.cell? ⟨bk, 0 + j, none⟩ = some (.string x)) (hbk : bk < w.heap.size) (hN : xs.length ≤ 100) (hcap : xs.length ≤ c) (hlen : (Lib.join (xs.map (·.data.toList)) [46]).length ≤ 1000) :
    Calls Tryd.prog 31 #[.slice (some ⟨bk, 0, none⟩) xs.length c, .string ⟨#[46]⟩] w fun e w' => e = .returned (.string (bOf (Lib.join (xs.map (·.data.toList)) [46]))) ∧ Below w.heap.size w w' :=
  Tryd.strings_Join bk 0 c xs ⟨#[46]⟩ w hcells hbk (by omega) hcap (by
    refine Nat.le_trans (show (Lib.join (xs.map (·.data.toList)) [46]).length ≤ 1000 from hlen) (by omega))

set_option maxHeartbeats 6400000 in
set_option maxRecDepth 100000 in
/-- strconv.FormatUint at base 10, at a byte's number. -/
theorem fmtU_any (u : Nat) (w : World) {B : Nat} (hG : Glb B w) (hu : u ≤ 255) : Calls Tryd.prog 40 #[.int .u64 u, .int .i64 10] w fun e w' => e = .returned (.string (bOf (Lib.decDigits u))) ∧ Below w.heap.size w w' := by
  by_cases hs : u < 100
  · go_enter Tryd.func40, Tryd.ntmps40
    go_wp2_with (first
      | (go_at_call 63; refine (Tryd.internal_strconv_small u hs _).mono ?_; rintro e w' ⟨rfl, rfl⟩)
      | go_in)
    go_ret
    exact ⟨rfl, Below.refl _ _⟩
  · have hu1 : 1 ≤ u := by omega
    have hu64 : u < 18446744073709551616 := by omega
    have htab := hG.tab
    have hnd20 : Lib.nDigits u ≤ 20 := by have := Lib.numDigits_eq u hu1 hu64; split at this <;> omega
    have hal : Tryd.prog.arrayLen 94 = 24 := by kernel_rfl
    have hsl1 : ∀ W, (Instr.sliceAt 94 (.pointer (some ⟨w.heap.size, 0, none⟩)) none (some (.int .i64 (Lib.nDigits u : Int))) none).run Tryd.prog W = .ok (.slice (some ⟨w.heap.size, 0, none⟩) (Lib.nDigits u) 24) W := fun W => by
      rw [run_sliceAt_array_h W 94 ⟨w.heap.size, 0, none⟩ (by kernel_rfl) .i64 (Lib.nDigits u : Int) (by omega) (by rw [hal]; omega)]
      go_simp
    have hH0 : Go.Sort.Holds (fun (b : UInt8) => Value.int .u8 (b.toNat : Int)) (w.alloc (.cells Lib.zeros24 94)) w.heap.size 0 (Array.replicate (Lib.nDigits u) (0 : UInt8)) := fun j hj => by
      have hj' : j < Lib.nDigits u := by simpa using hj
      refine ⟨?_, World.frozen?_alloc_new _ _ _ _⟩
      rw [World.cell?_alloc_new, Lib.zeros24_at _ (by omega), getElem!_pos _ j hj]
      simp
    have hfmt := Tryd.internal_strconv_formatBase10 w.heap.size 0 24 u (Array.replicate (Lib.nDigits u) 0) (w.alloc (.cells Lib.zeros24 94)) hH0 (by rw [Array.size_replicate]; exact Lib.lt_pow_nDigits u) hu64 (by rw [Array.size_replicate]; omega)
    rw [Array.size_replicate] at hfmt
    have HH0 := Lib.hid hH0
    have HF := Lib.hid hfmt
    clear hH0 hal hfmt
    go_enter Tryd.func40, Tryd.ntmps40
    go_wp2_with (first
      | (go_at_call 64; refine (Tryd.internal_strconv_numDigits u hu1 hu64 _ (Lib.tabIs_alloc htab _)).mono ?_; rintro e w' ⟨rfl, rfl⟩)
      | (go_at_call 65; fail)
      | (go_at_call 49; go_in))
    go_at_call 65
    refine HF.out.mono ?_
    rintro e w' ⟨rfl, k, v', dk, rfl, hF⟩
    have hcv : (convert 63 9 (.slice (some ⟨w.heap.size, 0, none⟩) (Lib.nDigits u) 24)).run Tryd.prog ((putRow (fun (b : UInt8) => Value.int .u8 (b.toNat : Int)) (w.alloc (.cells Lib.zeros24 94)) w.heap.size 0 dk).drewN k) = .ok (.string ⟨(Lib.decDigits u).toArray⟩) ((putRow (fun (b : UInt8) => Value.int .u8 (b.toNat : Int)) (w.alloc (.cells Lib.zeros24 94)) w.heap.size 0 dk).drewN k) := by
      have h := run_convert_bytes_back (P := Tryd.prog) ((putRow (fun (b : UInt8) => Value.int .u8 (b.toNat : Int)) (w.alloc (.cells Lib.zeros24 94)) w.heap.size 0 dk).drewN k) 63 9 5 ⟨w.heap.size, 0, none⟩ 24 (Lib.decDigits u) Tryd.underlying63 Tryd.underlying5 Tryd.underlying9 (fun j hj => by
        rw [Lib.row_is_numeral hF j hj, Lib.add_plain, World.cell?_drewN]
        exact cell?_putRow (fun (b : UInt8) => Value.int .u8 (b.toNat : Int)) _ w.heap.size 0 _ dk HH0.out (by rw [hF.size, Array.size_replicate]) j (by rw [hF.size]; rw [Lib.decDigits_length] at hj; exact hj))
      rw [Lib.decDigits_length] at h
      exact h
    have HW : Hid (Below w.heap.size w ((putRow (fun (b : UInt8) => Value.int .u8 (b.toNat : Int)) (w.alloc (.cells Lib.zeros24 94)) w.heap.size 0 dk).drewN k)) := by
      show Below _ _ _
      rw [alloc_eq_grow]
      obtain ⟨os', _, e⟩ := putRow_grow_new (fun (b : UInt8) => Value.int .u8 (b.toNat : Int)) w #[.cells Lib.zeros24 94] w.heap.size 0 dk (Nat.le_refl _)
      rw [e]
      exact below_grow w k os'
    go_wp2
    go_ret
    exact ⟨rfl, HW.out⟩
end Go.Proofs.YtlbnbbpokphgbaaDoor.Ipc
