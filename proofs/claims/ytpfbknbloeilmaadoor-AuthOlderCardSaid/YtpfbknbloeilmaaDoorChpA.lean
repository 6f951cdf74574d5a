/- Contracts of chap's isValue, and of what tells of which kind a packet is. -/
import Derived.Test.YtpfbknbloeilmaaDoorChpPure
import Derived.Test.YtpfbknbloeilmaaDoorBlk
namespace Go.Proofs.YtpfbknbloeilmaaDoor.Chp
open Go.RowKit Go.Proofs.YtpfbknbloeilmaaDoor.Oct Go.Proofs.YtpfbknbloeilmaaDoor.Row Go.Proofs.YtpfbknbloeilmaaDoor.Mem

set_option maxHeartbeats 1000000 in
set_option maxRecDepth 100000 in
theorem isvalue_no (v : ByteArray) (w : World) (hv : v.size ≤ maxLen) (h : v.size < 1 ∨ 255 < v.size) :
    Calls Tryd.prog 38 #[.string v] w fun e w' => e = .returned (.bool false) ∧ w' = w := by
  unfold maxLen at hv
  by_cases h1 : v.size < 1
  · have k1 : ¬ (1 : Int) ≤ (v.size : Int) := by omega
    go_enter Tryd.func38, Tryd.ntmps38
    go_wp2
    go_ret
    exact ⟨rfl, rfl⟩
  · have k1 : (1 : Int) ≤ (v.size : Int) := by omega
    have k2 : ¬ (v.size : Int) ≤ 255 := by omega
    go_enter Tryd.func38, Tryd.ntmps38
    go_wp2
    go_ret
    exact ⟨rfl, rfl⟩
set_option maxHeartbeats 1000000 in
set_option maxRecDepth 100000 in
theorem isvalue_yes (v : ByteArray) (w : World) (h : ¬ (v.size < 1 ∨ 255 < v.size)) :
    Calls Tryd.prog 38 #[.string v] w fun e w' => e = .returned (.bool true) ∧ w' = w := by
  have k1 : (1 : Int) ≤ (v.size : Int) := by omega
  have k2 : (v.size : Int) ≤ 255 := by omega
  go_enter Tryd.func38, Tryd.ntmps38
  go_wp2
  go_ret
  exact ⟨rfl, rfl⟩

/-- Block g holds a slice of these codes. -/
def Kin (w : World) (g : Nat) (l : List UInt8) : Prop :=
  ∃ ad c, Blk w g [.slice (some ad) l.length c] 47 ∧ ad.block < w.heap.size ∧ ∀ (j : Nat) (x : UInt8), l[j]? = some x → w.cell? (ad.add j) = some (.int .u8 x.toNat)
theorem Kin.callee {w w' : World} {g : Nat} {l : List UInt8} (h : Kin w g l) (hb : Below w.heap.size w w') : Kin w' g l := by
  obtain ⟨ad, c, h1, h2, h3⟩ := h
  exact ⟨ad, c, h1.callee hb, Nat.lt_of_lt_of_le h2 hb.size, fun j x hx => (hb.cell (p := ad.add j) (by rw [Oct.block_add]; exact h2)).trans (h3 j x hx)⟩
theorem Kin.alloc {w : World} {g : Nat} {l : List UInt8} (h : Kin w g l) (o : Obj) : Kin (w.alloc o) g l := h.callee ((Below.refl _ w).alloc (Nat.le_refl _) o)
theorem Kin.drewN {w : World} {g : Nat} {l : List UInt8} (h : Kin w g l) (k : Nat) : Kin (w.drewN k) g l := h.callee ((Below.refl _ w).drewN' k)
theorem Kin.lt {w : World} {g : Nat} {l : List UInt8} (h : Kin w g l) : g < w.heap.size := by obtain ⟨_, _, h1, _⟩ := h; exact h1.lt
/-- The value of what tells these codes. -/
def kinF (g : Nat) : Value := .func (.func 52) #[] #[.pointer (some ⟨g, 0, none⟩)]

set_option maxHeartbeats 1000000 in
set_option maxRecDepth 100000 in
theorem kinds_any (l : List UInt8) (ad : Addr) (c : Nat) (w : World) (ha : ad.block < w.heap.size) (hc : ∀ (j : Nat) (x : UInt8), l[j]? = some x → w.cell? (ad.add j) = some (.int .u8 x.toNat)) :
    Calls Tryd.prog 29 #[.slice (some ad) l.length c] w fun e w' => e = .returned (kinF w.heap.size) ∧ Kin w' w.heap.size l ∧ Below w.heap.size w w' := by
  have HB : Hid (Below w.heap.size w (w.alloc (.cells #[.slice (some ad) l.length c] 47))) := (Below.refl _ w).alloc (Nat.le_refl _) _
  have HK : Hid (Kin (w.alloc (.cells #[.slice (some ad) l.length c] 47)) w.heap.size l) :=
    ⟨ad, c, blk_new w [.slice (some ad) l.length c] 47, by rw [World.size_alloc]; omega, fun j x hx => (HB.out.cell (p := ad.add j) (by rw [Oct.block_add]; exact ha)).trans (hc j x hx)⟩
  clear ha hc
  go_enter Tryd.func29, Tryd.ntmps29
  go_wp2
  go_ret
  exact ⟨rfl, HK.out, HB.out⟩

/-- Where the code stands first, or -1. -/
def IdxQ (x : UInt8) (l : List UInt8) (w : World) (e : Ending) (w' : World) : Prop := ((∃ k : Nat, x ∈ l ∧ e = .returned (.int .i64 (k : Nat))) ∨ (x ∉ l ∧ e = .returned (.int .i64 (-1)))) ∧ w' = w
set_option maxHeartbeats 2000000 in
set_option maxRecDepth 100000 in
theorem index_any (x : UInt8) (l : List UInt8) (ad : Addr) (c : Nat) (w : World) (hl : l.length ≤ 1000000) (hc : ∀ (j : Nat) (x : UInt8), l[j]? = some x → w.cell? (ad.add j) = some (.int .u8 x.toNat)) :
    Calls Tryd.prog 75 #[.slice (some ad) l.length c, .int .u8 x.toNat] w (IdxQ x l w) := by
  have HC := Lib.hid hc; clear hc
  obtain ⟨n, hn⟩ : ∃ n, l.length = n := ⟨_, rfl⟩
  rw [hn]
  rw [hn] at hl
  have HN := Lib.hid hn; clear hn
  go_enter Tryd.func75, Tryd.ntmps75
  go_wp2
  go_loopw [8] (fun i wr => ∃ k : Nat, k ≤ n ∧ i = .int .i64 k ∧ Hid (x ∉ l.take k) ∧ wr = w) (fun i _ => n - (intOf i).toNat)
  case atStart => exact ⟨0, Nat.zero_le _, rfl, by rw [List.take_zero]; exact List.not_mem_nil, rfl⟩
  case round =>
    obtain ⟨k, hk, rfl, HT, rfl⟩ := hrel
    by_cases hlt : k < n
    · obtain ⟨y, hy⟩ : ∃ y, l[k]? = some y := ⟨_, List.getElem?_eq_getElem (by rw [HN.out]; exact hlt)⟩
      have hcell := HC.out k y hy
      have Hy := Lib.hid hy; clear hy
      by_cases he : x = y
      · have HM : Hid (x ∈ l) := by show _ ∈ _; rw [he]; exact List.mem_of_getElem? Hy.out
        have he2 : ((x.toNat : Int) == (y.toNat : Int)) = true := by rw [he]; simp
        clear he
        go_wp2
        go_ret
        exact ⟨.inl ⟨k, HM.out, rfl⟩, rfl⟩
      · have he2 : ((x.toNat : Int) == (y.toNat : Int)) = false := by
          rw [beq_eq_false_iff_ne]; intro e; exact he (UInt8.toNat_inj.1 (by omega))
        have HT2 : Hid (x ∉ l.take (k + 1)) := by
          show _ ∉ _
          obtain ⟨h1, h2⟩ := List.getElem?_eq_some_iff.1 Hy.out
          rw [List.take_succ_eq_append_getElem h1, h2, List.mem_append, not_or]
          exact ⟨HT.out, by rw [List.mem_singleton]; exact he⟩
        clear he
        go_wp2
        go_roundw
        case rel => exact ⟨k + 1, by omega, by go_num, HT2, by first | trivial | rfl⟩
        case measure => simp [intOf]; omega
    · obtain rfl : k = n := by omega
      have HF : Hid (x ∉ l) := by
        have h := HT.out
        rw [List.take_of_length_le (by rw [HN.out]; exact Nat.le_refl _)] at h
        exact h
      go_wp2
      go_ret
      exact ⟨.inr ⟨HF.out, rfl⟩, rfl⟩

set_option maxHeartbeats 1000000 in
set_option maxRecDepth 100000 in
theorem has_any (x : UInt8) (l : List UInt8) (ad : Addr) (c : Nat) (w : World) (hl : l.length ≤ 1000000) (hc : ∀ (j : Nat) (x : UInt8), l[j]? = some x → w.cell? (ad.add j) = some (.int .u8 x.toNat)) :
    Calls Tryd.prog 53 #[.slice (some ad) l.length c, .int .u8 x.toNat] w fun e w' => e = .returned (.bool (decide (x ∈ l))) ∧ w' = w := by
  have HI := Lib.hid (index_any x l ad c w hl hc)
  generalize l.length = n at *
  clear hc hl
  go_enter Tryd.func53, Tryd.ntmps53
  go_wp2_with fail
  refine HI.out.mono ?_
  rintro e w1 ⟨⟨k, ho, rfl⟩ | ⟨ho, rfl⟩, rfl⟩
  · have HO := Lib.hid (decide_eq_true ho)
    have hk0 : (0 : Int) ≤ (k : Int) := Int.natCast_nonneg k
    clear ho HI
    go_wp2
    go_ret
    exact ⟨by rw [HO.out] <;> rfl, rfl⟩
  · have HO := Lib.hid (decide_eq_false ho)
    clear ho HI
    go_wp2
    go_ret
    exact ⟨by rw [HO.out] <;> rfl, rfl⟩

set_option maxHeartbeats 1000000 in
set_option maxRecDepth 100000 in
theorem kind_any (c i : UInt8) (d : ByteArray) (l : List UInt8) (g : Nat) (w : World) (hl : l.length ≤ 1000000) (h : Kin w g l) :
    Calls Tryd.prog 52 #[.agg #[.int .u8 c.toNat, .int .u8 i.toNat, .string d], .pointer (some ⟨g, 0, none⟩)] w fun e w' => e = .returned (.bool (decide (c ∈ l))) ∧ Below w.heap.size w w' := by
  obtain ⟨ad, cp, h1, h2, h3⟩ := h.alloc (.cells #[.int .u8 c.toNat, .int .u8 i.toNat, .string d] 46)
  have HB : Hid (Below w.heap.size w (w.alloc (.cells #[.int .u8 c.toNat, .int .u8 i.toNat, .string d] 46))) := (Below.refl _ w).alloc (Nat.le_refl _) _
  have HI := Lib.hid (has_any c l ad cp _ hl h3)
  have c1 := h1.at_ 0
  simp only [List.getElem?_cons_zero] at c1
  generalize l.length = n at *
  clear h h1 h2 h3 hl
  go_enter Tryd.func52, Tryd.ntmps52
  go_wp2_with fail
  refine HI.out.mono ?_
  rintro e w1 ⟨rfl, rfl⟩
  go_wp2
  go_ret
  exact ⟨rfl, HB.out⟩
end Go.Proofs.YtpfbknbloeilmaaDoor.Chp
