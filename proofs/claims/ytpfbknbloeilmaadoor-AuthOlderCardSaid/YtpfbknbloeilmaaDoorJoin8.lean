/- Contract of package octet's Join8; what it answers. -/
import Derived.Test.YtpfbknbloeilmaaDoorTxt
import Derived.Lib.AppendStr
namespace Go.Proofs.YtpfbknbloeilmaaDoor.Oct
open Go.RowKit Go.Proofs.YtpfbknbloeilmaaDoor.Row

theorem strCells_bytesV (s : ByteArray) : Lib.strCells s = bytesV s.toList := by rw [ByteArray.toList_eq]; rfl
set_option maxRecDepth 100000 in
theorem Tryd.infoB : (Tryd.prog.info? 5).map (fun i => (i.zero, i.size, i.bytes)) = some (some (.int .u8 0), 1, 1) := by kernel_rfl

/-- The texts ahead of k, as bytes. -/
def tk (l : List ByteArray) (k : Nat) : List (List UInt8) := (l.take k).map (·.toList)
theorem tk_succ {l : List ByteArray} {k : Nat} {t : ByteArray} (h : l[k]? = some t) : tk l (k + 1) = tk l k ++ [t.toList] := by
  unfold tk
  obtain ⟨hk, rfl⟩ := List.getElem?_eq_some_iff.1 h
  rw [List.take_succ_eq_append_getElem hk, List.map_append]
  rfl
theorem tk_all (l : List ByteArray) : tk l l.length = l.map (·.toList) := by simp [tk]

/-- Whether all texts have a length of one byte. -/
def allOk (l : List ByteArray) : Bool := l.all fun s => decide (s.size ≤ 255)
def joinE (l : List ByteArray) : Int := if allOk l then 0 else 5
def joinS (l : List ByteArray) : ByteArray := if allOk l then bOf (jn8 (l.map (·.toList))) else bOf []
theorem join_no {l : List ByteArray} {k : Nat} {t : ByteArray} (h : l[k]? = some t) (ht : 255 < t.size) : joinE l = 5 ∧ joinS l = bOf [] := by
  have : allOk l = false := by
    rw [← Bool.not_eq_true]
    intro ha
    have := List.all_eq_true.1 ha t (List.mem_of_getElem? h)
    simp at this
    omega
  simp [joinE, joinS, this]
theorem join_yes {l : List ByteArray} (h : ok8 (l.map (·.toList))) : joinE l = 0 ∧ joinS l = bOf (jn8 (l.map (·.toList))) := by
  have : allOk l = true := by
    refine List.all_eq_true.2 fun s hs => ?_
    have := h s.toList (List.mem_map.2 ⟨s, hs, rfl⟩)
    rw [← size_toList] at this
    simpa using this
  simp [joinE, joinS, this]
theorem jn8_len (l : List (List UInt8)) (h : ok8 l) : (jn8 l).length ≤ 256 * l.length := by
  induction l with
  | nil => simp [jn8]
  | cons t l ih =>
    have h1 := h t (by simp)
    have h2 := ih (fun u hu => h u (by simp [hu]))
    simp only [jn8, List.length_cons, List.length_append]
    omega

theorem join_step {l : List ByteArray} {k : Nat} {t : ByteArray} (h : l[k]? = some t) (ht : t.size ≤ 255) :
    bytesV (jn8 (tk l (k + 1))) = bytesV (jn8 (tk l k)) ++ [.int .u8 t.size] ++ Lib.strCells t ∧ (jn8 (tk l (k + 1))).length = (jn8 (tk l k)).length + 1 + t.size ∧ (ok8 (tk l k) → ok8 (tk l (k + 1))) := by
  rw [tk_succ h, jn8_append, jn8_one, strCells_bytesV]
  refine ⟨?_, ?_, fun ho u hu => ?_⟩
  · simp [bytesV]
    rw [← size_toList]
    omega
  · rw [List.length_append, List.length_cons, ← size_toList]; omega
  · rcases List.mem_append.1 hu with hu | hu
    · exact ho u hu
    · rw [List.mem_singleton.1 hu, ← size_toList]; exact ht

set_option maxHeartbeats 1000000 in
set_option maxRecDepth 100000 in
theorem join8_any (A : Option Addr) (n c : Nat) (l : List ByteArray) (w : World) (hl : Strs w w.heap.size A n l) (hn : n ≤ 1000000) :
    Calls Tryd.prog 65 #[.slice A n c] w fun e w' => e = .returned (.tuple #[.string (joinS l), .int .i64 (joinE l)]) ∧ Below w.heap.size w w' := by
  obtain ⟨i0, hi, hz0, hz1, hz2⟩ := info_parts Tryd.infoB
  have Hl := Lib.hid hl; clear hl
  go_enter Tryd.func65, Tryd.ntmps65
  go_wp2
  go_loopw [4, 9] (fun v i wr => ∃ (k m : Nat), k ≤ n ∧ i = .int .i64 k ∧ Hid (m = (jn8 (tk l k)).length ∧ ok8 (tk l k) ∧ wr.ownsRow w.heap.size 5 1 v m (bytesV (jn8 (tk l k)))) ∧ Below w.heap.size w wr)
    (fun _ i _ => n - (intOf i).toNat)
  case atStart => exact ⟨0, 0, Nat.zero_le _, rfl, ⟨rfl, fun _ h => by simp [tk] at h, World.ownsRow_nil _ _ _ _⟩, Below.refl _ _⟩
  case round =>
    obtain ⟨k, m, hk, rfl, Hown, hb⟩ := hrel
    by_cases hlt : k < n
    · obtain ⟨ad, t, rfl, hB, ht, htl, hc⟩ := (Hl.out.below hb).at_ hlt
      have Ht := Lib.hid ht; clear ht
      have hsize := hb.size
      have hm : m ≤ 256 * k := by
        have h1 := jn8_len _ Hown.out.2.1
        have h2 : (tk l k).length ≤ k := by simp [tk]; omega
        have h3 := Hown.out.1
        omega
      unfold maxLen at htl
      by_cases h255 : 255 < (t.size : Int)
      · go_wp2
        go_ret2
        have hj := join_no Ht.out (by omega)
        rw [hj.1, hj.2]
        exact ⟨rfl, hb⟩
      · go_wp2_with (first
          | (at_builtin; refine wpList_append_own _ rfl _ _ 47 rfl w.heap.size 5 i0 (.int .u8 0) 1 1 Tryd.underlying47 hi hz0 hz1 hz2 rfl (by decide) _ _ _ rfl (Hown.out.2.2.alloc _) ⟨wr.heap.size, 0, none⟩ 1 1 [.int .u8 t.size] rfl rfl (cell_one_new _ _ _) (fun x hx => by simp at hx; subst hx; rfl) (by unfold maxLen; omega) (by omega) (by simp; omega) ?_; intro v1 w1 hown1 hgr1 _; have Hown1 := Lib.hid hown1; clear hown1; have hb1 := (hb.alloc hsize (.cells #[.int .u8 t.size] 5)).grown hgr1 (by simp; omega) (fun q hq => (Hown.out.2.2.lt q hq).1); have hsize1 := hb1.size)
          | (at_builtin; refine Lib.wpList_append_own_string _ rfl _ _ 47 9 rfl w.heap.size 5 i0 Tryd.underlying47 Tryd.underlying9 hi hz0 hz1 hz2 _ _ _ rfl Hown1.out t rfl (by unfold maxLen; omega) (by omega) hsize1 ?_; intro v2 w2 hown2 hgr2 _; have Hown2 := Lib.hid hown2; clear hown2; have hb2 := hb1.grown hgr2 hsize1 (fun q hq => (Hown1.out.lt q hq).1)))
        have hst := join_step Ht.out (by omega)
        go_roundw
        case rel => exact ⟨k + 1, m + 1 + t.size, by omega, by go_num, ⟨by rw [hst.2.1, Hown.out.1], hst.2.2 Hown.out.2.1, by rw [hst.1]; exact Hown2.out⟩, hb2⟩
        case measure => simp [intOf]; omega
    · obtain rfl : k = n := by omega
      have hcv := conv_own Tryd.underlying47 Tryd.underlying5 Tryd.underlying9 Hown.out.2.2
      go_wp2
      go_ret2
      have hk' := Hl.out.1
      have hok := Hown.out.2.1
      rw [← hk', tk_all] at hok ⊢
      have hj := join_yes hok
      rw [hj.1, hj.2]
      exact ⟨rfl, hb⟩
end Go.Proofs.YtpfbknbloeilmaaDoor.Oct
