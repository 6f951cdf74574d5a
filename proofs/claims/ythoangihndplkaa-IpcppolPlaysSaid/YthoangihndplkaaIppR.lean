/- What is suggested: plain mathematics. -/
import Derived.Test.YthoangihndplkaaGOptPure
namespace Go.Proofs.Ythoangihndplkaa.Ipp
open Go.Proofs.Ythoangihndplkaa.Oct Go.Proofs.Ythoangihndplkaa.Opt Go.Proofs.Ythoangihndplkaa.Ipc

theorem sug_fst (p : Po) (o : Opt) : (sug p o).1 = o.1 := rfl
theorem sug_good' {p : Po} {o : Opt} (h : known o.1 = true) : good (sug p o) = true := good_of h (sug_size p o)
theorem sug_good {p : Po} {o : Opt} (h : ok p o = true) : good (sug p o) = true := sug_good' (ok_known h)
theorem ad_num (t : UInt8) (v : UInt32) : ad (t, bOf (numS v.toNat 4)) = v := numS_u32 v
theorem or_or (a b : UInt32) : or32 a (or32 a b) = or32 a b := by
  unfold or32
  by_cases h : a = 0
  · rw [if_pos h]
  · rw [if_neg h, if_neg h]
theorem sa_sug {p : Po} {o : Opt} (h : known o.1 = true) : sa p o.1 (lo (sug p o)) = sa p o.1 (lo o) := by
  by_cases h3 : o.1 = 3
  · have e : (lo (sug p o)).addr = sa p o.1 (lo o) := by
      rw [lo_addr (sug_good' h) h3]
      exact ad_num _ _
    unfold sa at e ⊢
    rw [if_pos h3] at e
    rw [if_pos h3, if_pos h3, e, or_or]
  · unfold sa
    rw [if_neg h3, if_neg h3]
theorem ok_sug {p : Po} {o : Opt} (h : ok p o = true) : ok p (sug p o) = true := by
  have hk := ok_known h
  unfold ok at h ⊢
  rw [sug_fst, sug_good' hk, sa_sug hk]
  rw [Bool.and_eq_true_iff] at h
  rw [h.2]
  rfl
theorem sug_sug {p : Po} {o : Opt} (h : ok p o = true) : sug p (sug p o) = sug p o := by
  show (o.1, bOf (numS (sa p o.1 (lo (sug p o))).toNat 4)) = (o.1, bOf (numS (sa p o.1 (lo o)).toNat 4))
  rw [sa_sug (ok_known h)]
/-- The option with the address that the peer is to have. -/
def oPeer (p : Po) : Opt := (3, bOf (numS p.c.peer.toNat 4))
theorem sa_peer {p : Po} (h : p.c.peer ≠ 0) (x : Ipc) : sa p 3 x = p.c.peer := by
  unfold sa or32
  rw [if_pos rfl, if_neg h]
theorem good_peer (p : Po) : good (oPeer p) = true := good_of rfl (by show (bOf _).size = 4; rw [size_bOf, numS_length])
theorem sug_peer {p : Po} (h : p.c.peer ≠ 0) {o : Opt} (h3 : o.1 = 3) : sug p o = oPeer p := by
  unfold sug oPeer
  rw [h3, sa_peer h]
theorem ok_peer {p : Po} (h : p.c.peer ≠ 0) {o : Opt} (hg : good o = true) (h3 : o.1 = 3) : ok p o = true := by
  unfold ok
  rw [h3, sa_peer h, hg]
  exact bne_iff_ne.2 h
theorem miss_some {p : Po} {l : List Opt} (h : fB 3 l = false) (hp : p.c.peer ≠ 0) : miss p l = [oPeer p] := by
  rw [miss_eq, h]
  simp [hp, oPeer]
theorem miss_has {p : Po} {l : List Opt} (h : fB 3 l = true) : miss p l = [] := by rw [miss_eq, h]; rfl
theorem miss_zero {p : Po} {l : List Opt} (hp : p.c.peer = 0) : miss p l = [] := by rw [miss_eq, hp]; split <;> rfl
theorem miss_nil {p : Po} {l : List Opt} (h : miss p l = []) : fB 3 l = true ∨ p.c.peer = 0 := by
  cases hb : fB 3 l
  · by_cases hp : p.c.peer = 0
    · exact .inr hp
    · rw [miss_some hb hp] at h; cases h
  · exact .inl rfl
theorem miss_mem {p : Po} {l : List Opt} {o : Opt} (h : o ∈ miss p l) : o = oPeer p ∧ p.c.peer ≠ 0 ∧ fB 3 l = false := by
  cases hb : fB 3 l
  · by_cases hp : p.c.peer = 0
    · rw [miss_zero hp] at h; cases h
    · rw [miss_some hb hp, List.mem_singleton] at h; exact ⟨h, hp, rfl⟩
  · rw [miss_has hb] at h; cases h
end Go.Proofs.Ythoangihndplkaa.Ipp
