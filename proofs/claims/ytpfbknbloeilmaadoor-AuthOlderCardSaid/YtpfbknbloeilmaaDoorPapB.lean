/- Contract of pap's read. -/
import Derived.Test.YtpfbknbloeilmaaDoorPapA
import Derived.Test.YtpfbknbloeilmaaDoorPapDef
namespace Go.Proofs.YtpfbknbloeilmaaDoor.Pap
open Go.RowKit Go.Proofs.YtpfbknbloeilmaaDoor.Oct Go.Proofs.YtpfbknbloeilmaaDoor.Row Go.Proofs.YtpfbknbloeilmaaDoor.Mem

/-- What read leaves. -/
def ReadP (w : World) (bs : List Nat) (d : ByteArray) (e : Ending) (w' : World) : Prop :=
  e = .returned (.int .i64 (rdE bs.length d.toList)) ∧ Cells w' bs (rdT bs.length d.toList) ∧ Moves (fun b => b ∈ bs) w w'

set_option maxHeartbeats 1000000 in
set_option maxRecDepth 100000 in
theorem read_any (bs : List Nat) (xs : List ByteArray) (d : ByteArray) (ad : Addr) (c : Nat) (w : World) (hl : bs.length ≤ 1000000) (hd : d.size ≤ maxLen)
    (hP : Ptrs w ad bs) (hX : Cells w bs xs) (hn : bs.Nodup) :
    Calls Tryd.prog 84 #[.string d, .slice (some ad) bs.length c] w (ReadP w bs d) := by
  have hmf : ∀ (fn : Fn) (first cap : Array Value) (w : World), (Instr.makeFunc fn first cap).run Tryd.prog w = .ok (.func fn first cap) w := fun _ _ _ _ => rfl
  obtain ⟨W, hW⟩ : ∃ W, (w.alloc (.cells #[.string d] 9)).alloc (.cells #[.slice (some ad) bs.length c] 135) = W := ⟨_, rfl⟩
  have hgs : ∀ b ∈ bs, b < w.heap.size := fun b hb => hX.lt hb
  have HM : Hid (Moves (fun b => b ∈ bs) w W) := by
    subst hW
    exact ((Moves.refl _ w).alloc _).alloc _
  have HC : Hid (∀ w', w' = W → Calls Tryd.prog 99 #[.pointer (some ⟨w.heap.size + 1, 0, none⟩), .pointer (some ⟨w.heap.size, 0, none⟩)] w' (WrongP W bs d w.heap.size)) := by
    rintro w' rfl
    refine wrong_any bs xs d ad _ _ c _ hl hd ?_ ?_ ?_ ?_ hn (fun h => by have := hgs _ h; omega) (fun h => by have := hgs _ h; omega) (by omega) (by have := hP.1; omega)
    · exact hP.moves HM.out hP.2.1
    · subst hW
      have h := blk_new (w.alloc (.cells #[.string d] 9)) [.slice (some ad) bs.length c] 135
      rw [World.size_alloc] at h
      exact h
    · subst hW
      exact (blk_new w [.string d] 9).alloc _
    · subst hW
      exact (hX.alloc _).alloc _
  have HPd : Hid (Ptrs w ad bs) := hP
  have HT : Hid (Blk W (w.heap.size + 1) [.slice (some ad) bs.length c] 135) := by
    subst hW
    have h := blk_new (w.alloc (.cells #[.string d] 9)) [.slice (some ad) bs.length c] 135
    rw [World.size_alloc] at h
    exact h
  have HN := Lib.hid hn
  have Hgs := Lib.hid hgs
  clear hd hP hX hn hgs
  generalize hm : bs.length = n at *
  have HE : Hid (rdE n d.toList ≠ 0 → rdT n d.toList = List.replicate n (bOf [])) := rdT_bad
  have HW1 : Hid (∀ e w', WrongP W bs d w.heap.size e w' → e = .returned (.int .i64 (rdE n d.toList)) ∧ Hid (∃ ys, Cells w' bs ys ∧ (rdE n d.toList = 0 → ys = rdT n d.toList) ∧ Moves (fun b => b ∈ bs ∨ b = w.heap.size) W w')) := by
    intro e w' h
    unfold WrongP at h
    rw [hm] at h
    exact h
  have HRp : Hid (∀ e w', e = .returned (.int .i64 (rdE n d.toList)) → Cells w' bs (rdT n d.toList) → Moves (fun b => b ∈ bs) w w' → ReadP w bs d e w') := by
    intro e w' h1 h2 h3
    unfold ReadP
    rw [hm]
    exact ⟨h1, h2, h3⟩
  generalize rdE n d.toList = E at *
  generalize rdT n d.toList = T at *
  go_enter Tryd.func84, Tryd.ntmps84
  go_wp2_with fail
  refine (HC.out W rfl).mono ?_
  intro e w1 h1
  obtain ⟨rfl, hq⟩ := HW1.out e w1 h1
  clear h1 HC
  obtain ⟨ys, hys, hyt, hmv⟩ := hq.out
  have HY := Lib.hid hys
  have HM1 : Hid (Moves (fun b => b ∈ bs) w w1) := HM.out.trans hmv (fun j hj h => by
    rcases h with h | h
    · exact h
    · omega)
  by_cases h0 : E = 0
  · have e1 : ys = T := hyt h0
    subst h0 e1
    clear hq hys hyt hmv
    go_wp2
    go_ret
    exact HRp.out _ _ rfl HY.out HM1.out
  · have HT1 := Lib.hid (HT.out.moves hmv (fun h => by
      rcases h with h | h
      · have := Hgs.out _ h; omega
      · omega))
    have hT0 := HT1.out.at_ 0
    simp only [List.getElem?_cons_zero] at hT0
    have h1 : (E != 0) = true := by rw [bne_iff_ne]; exact h0
    have HP1 := Lib.hid (HPd.out.moves HM1.out HPd.out.2.1)
    have HTr := Lib.hid (HE.out h0)
    have HL : Hid (ys.length = n) := HY.out.1.trans hm
    clear hq hys hyt hmv h0 HT HT1
    go_wp2
    go_loopw [16] (fun i wr => ∃ (k : Nat) (zs : List ByteArray), k ≤ n ∧ i = .int .i64 k ∧ Hid (zs.take k = List.replicate k (bOf []) ∧ Cells wr bs zs ∧ Moves (fun b => b ∈ bs) w1 wr)) (fun i _ => n - (intOf i).toNat)
    case atStart => exact ⟨0, ys, Nat.zero_le _, rfl, rfl, HY.out, Moves.refl _ _⟩
    case round =>
      obtain ⟨k, zs, hk, rfl, HI⟩ := hrel
      by_cases hlt : k < n
      · obtain ⟨b, hb⟩ : ∃ b, bs[k]? = some b := ⟨_, List.getElem?_eq_getElem (by omega)⟩
        have Hb := Lib.hid hb
        have hp : wr.cell? (ad.add k) = some (.pointer (some ⟨b, 0, none⟩)) := (HP1.out.moves HI.out.2.2 HPd.out.2.1).2.2 k b hb
        obtain ⟨x, hx, hc, hf⟩ := HI.out.2.1.at_ hb
        clear hb hx
        go_wp2
        go_roundw
        case rel =>
          refine ⟨k + 1, zs.set k (bOf []), by omega, by go_num, ?_, HI.out.2.1.set HN.out Hb.out (bOf []), HI.out.2.2.setCell _ (fun _ => List.mem_of_getElem? Hb.out) _⟩
          have hk2 : k < zs.length := by rw [HI.out.2.1.1]; omega
          rw [List.take_succ_eq_append_getElem (by rw [List.length_set]; exact hk2), List.getElem_set_self, List.take_set_of_le (Nat.le_refl _), HI.out.1, List.replicate_succ']
        case measure => simp [intOf]; omega
      · obtain rfl : k = n := by omega
        have hz : zs = T := by
          have h2 := HI.out.1
          rw [List.take_of_length_le (by rw [HI.out.2.1.1]; omega)] at h2
          rw [h2, HTr.out]
        go_wp2
        go_ret
        exact HRp.out _ _ rfl (by rw [← hz]; exact HI.out.2.1) (HM1.out.trans HI.out.2.2 (fun _ _ h => h))
end Go.Proofs.YtpfbknbloeilmaaDoor.Pap
