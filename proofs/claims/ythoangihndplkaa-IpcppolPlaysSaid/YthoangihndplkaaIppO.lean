/- What an Ack, and a Nak, say: plain mathematics. -/
import Derived.Test.YthoangihndplkaaGIppWay
namespace Go.Proofs.Ythoangihndplkaa.Ipp
open Go.Proofs.Ythoangihndplkaa.Oct Go.Proofs.Ythoangihndplkaa.Opt Go.Proofs.Ythoangihndplkaa.Ipc

theorem num_inj {a b : UInt32} (h : bOf (numS a.toNat 4) = bOf (numS b.toNat 4)) : a = b := by rw [← numS_u32 a, h, numS_u32]
theorem says_adr {p : Po} {l : List Opt} {y : Ipc} (hr : refs (vs p l) = []) (hp : poors (vs p l) = []) (hy : Rep y l) {t : UInt8} (ht : known t = true) (hh : has t y = true) : ∃ x, adr t y = sa p t x ∧ sa p t x ≠ 0 := by
  obtain ⟨d, hd⟩ := (hy.2.1 t ht).1 hh
  have h1 := (acks_good hr hp _ hd).1
  have h2 : dat t y = d := hy.2.2 t d hd
  have h3 : bOf (numS (sa p t (lo (t, d))).toNat 4) = d := congrArg (fun z : Opt => z.2) h1
  refine ⟨lo (t, d), num_inj ?_, ?_⟩
  · rw [h3]; exact h2
  · have := ((clean p l).1 hr).1 _ hd
    unfold ok at this
    rw [Bool.and_eq_true_iff] at this
    exact bne_iff_ne.1 this.2
theorem ack_says {p : Po} {l : List Opt} (hr : refs (vs p l) = []) (hp : poors (vs p l) = []) : Ipc.gE l = 0 ∧ Ipc.gO l = [] ∧ ((Ipc.gL l).ha = true → (Ipc.gL l).addr ≠ 0 ∧ (p.c.peer ≠ 0 → (Ipc.gL l).addr = p.c.peer)) ∧ ((Ipc.gL l).h1 = true → (Ipc.gL l).dns1 = p.c.dns1) ∧ ((Ipc.gL l).h2 = true → (Ipc.gL l).dns2 = p.c.dns2) := by
  obtain ⟨y, hy, hrep⟩ := got_all (fun o ho => (acks_good hr hp o ho).2) ((clean p l).1 hr).2
  have e1 : Ipc.gL l = y := by unfold Ipc.gL; rw [hy]
  have e2 : Ipc.gE l = 0 := by unfold Ipc.gE; rw [hy]
  have e3 : Ipc.gO l = [] := by unfold Ipc.gO; rw [hy]
  rw [e1]
  refine ⟨e2, e3, fun h => ?_, fun h => ?_, fun h => ?_⟩
  · obtain ⟨x, h1, h2⟩ := says_adr hr hp hrep (t := 3) rfl h
    have h1 : y.addr = sa p 3 x := h1
    rw [h1]
    exact ⟨h2, fun hp => sa_peer hp x⟩
  · obtain ⟨x, h1, _⟩ := says_adr hr hp hrep (t := 129) rfl h
    exact h1
  · obtain ⟨x, h1, _⟩ := says_adr hr hp hrep (t := 131) rfl h
    exact h1
theorem insts_peer {p : Po} {l : List Opt} (hr : refs (vs p l) = []) {o : Opt} (ho : o ∈ insts (vs p l)) (h3 : o.1 = 3) : o = oPeer p := by
  rw [(clean_vs hr).2] at ho
  obtain ⟨y, hy, rfl⟩ := List.mem_map.1 ho
  obtain ⟨hy1, hy2⟩ := List.mem_filter.1 hy
  have hy3 : y.1 = 3 := h3
  by_cases hp : p.c.peer = 0
  · exfalso
    have hg := ok_good (((clean p l).1 hr).1 y hy1)
    have e : sug p y = y := by
      unfold sug
      have e1 : sa p y.1 (lo y) = ad y := by
        unfold sa or32
        rw [if_pos hy3, if_pos hp, lo_addr hg hy3]
      rw [e1]
      unfold ad
      rw [u32_val (good_size hg), numS_of (good_size hg)]
    simp [other, e] at hy2
  · exact sug_peer hp hy3
theorem sugs_ok {p : Po} {l : List Opt} (hr : refs (vs p l) = []) : (∀ o ∈ sugs p l, good o = true) ∧ Dis (sugs p l) ∧ ∀ o ∈ sugs p l, o.1 = 3 → o = oPeer p := by
  obtain ⟨h1, h2, h3⟩ := naks_ok hr
  refine ⟨fun o ho => ?_, ?_, fun o ho h => ?_⟩
  · rcases List.mem_append.1 ho with h | h
    · exact h1 o h
    · rw [(miss_mem h).1]; exact good_peer p
  · unfold sugs
    cases hb : Opt.fB 3 l
    · by_cases hp : p.c.peer = 0
      · rw [miss_zero hp, List.append_nil]; exact h2
      · rw [miss_some hb hp, dis_snoc]
        refine ⟨h2, fun d hd => ?_⟩
        obtain ⟨o, ho, _⟩ := h3 _ hd
        have : Opt.fB 3 l = true := by
          have e : (((oPeer p).1, d) : Opt).1 = 3 := rfl
          rw [e] at ho
          unfold Opt.fB
          rw [ho]
          rfl
        rw [hb] at this
        cases this
    · rw [miss_has hb, List.append_nil]; exact h2
  · rcases List.mem_append.1 ho with h' | h'
    · exact insts_peer hr h' h
    · exact (miss_mem h').1
theorem nak_says {p : Po} {l : List Opt} (hr : refs (vs p l) = []) : Ipc.gE (sugs p l) = 0 ∧ Ipc.gO (sugs p l) = [] ∧ ((Ipc.gL (sugs p l)).ha = true → (Ipc.gL (sugs p l)).addr = p.c.peer) := by
  obtain ⟨h1, h2, h3⟩ := sugs_ok hr
  obtain ⟨y, hy, hrep⟩ := got_all h1 h2
  have e1 : Ipc.gL (sugs p l) = y := by unfold Ipc.gL; rw [hy]
  have e2 : Ipc.gE (sugs p l) = 0 := by unfold Ipc.gE; rw [hy]
  have e3 : Ipc.gO (sugs p l) = [] := by unfold Ipc.gO; rw [hy]
  rw [e1]
  refine ⟨e2, e3, fun h => ?_⟩
  obtain ⟨d, hd⟩ := (hrep.2.1 3 rfl).1 h
  have h4 : dat 3 y = d := hrep.2.2 3 d hd
  have h5 := h3 _ hd rfl
  exact num_inj (show bOf (numS y.addr.toNat 4) = bOf (numS p.c.peer.toNat 4) from by
    rw [show bOf (numS y.addr.toNat 4) = dat 3 y from rfl, h4]
    exact congrArg (fun z : Opt => z.2) h5)
/-- The four ways. -/
theorem waysOf (p : Po) (l : List Opt) : (jC p l = 4 ∧ (jA p l).length ≤ l.length) ∨ (jC p l = 3 ∧ refs (vs p l) = [] ∧ jA p l = sugs p l ∧ ¬ sugs p l = [] ∧ (p.naks : Int) < p.c.mn ∧ (jA p l).length ≤ l.length + 3) ∨ (jC p l = 2 ∧ refs (vs p l) = [] ∧ poors (vs p l) = [] ∧ jA p l = l ∧ (jP p l).peer = Ipc.gL l) := by
  by_cases hr : refs (vs p l) = []
  · by_cases hs : sugs p l = []
    · obtain ⟨a, b, c⟩ := ack_of (way_ack hr hs)
      exact .inr (.inr ⟨a, hr, (sugs_nil hs).1, b, by rw [c]⟩)
    · by_cases hn : (p.naks : Int) < p.c.mn
      · obtain ⟨a, b, _⟩ := nak_of (way_nak hr hs hn)
        refine .inr (.inl ⟨a, hr, b, hs, hn, ?_⟩)
        rw [b]
        unfold sugs
        rw [List.length_append, (clean_vs hr).2, List.length_map]
        have h1 := List.length_filter_le (other p) l
        have h2 : (miss p l).length ≤ 3 := by
          rw [miss_eq]
          split
          · exact Nat.zero_le _
          · split <;> simp
        omega
      · by_cases hp : poors (vs p l) = []
        · obtain ⟨a, b, c⟩ := ack_of (way_ack' hr hn hp)
          exact .inr (.inr ⟨a, hr, hp, b, by rw [c]⟩)
        · obtain ⟨a, b, _⟩ := poor_of (way_poor hr hn hp)
          exact .inl ⟨a, by rw [b]; exact (poors_sub p l).length_le⟩
  · obtain ⟨a, b, _⟩ := rej_of (way_rej hr)
    exact .inl ⟨a, by rw [b]; exact (refs_sub p l).length_le⟩
theorem naks_le {p : Po} {l : List Opt} (h : (p.naks : Int) ≤ p.c.mn) (h0 : 0 ≤ p.c.mn) : ((jP p l).naks : Int) ≤ p.c.mn := by
  unfold jP
  cases hw : way p l
  · exact h0
  · have : (p.naks : Int) < p.c.mn := by
      unfold way at hw
      split at hw
      · cases hw
      · split at hw
        · rename_i e; exact e.2
        · split at hw <;> cases hw
    show ((p.naks + 1 : Nat) : Int) ≤ _
    omega
  · exact h0
  · exact h0
end Go.Proofs.Ythoangihndplkaa.Ipp
