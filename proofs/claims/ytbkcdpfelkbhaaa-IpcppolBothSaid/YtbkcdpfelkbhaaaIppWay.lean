/- Which way Judge goes: plain mathematics. -/
import Derived.Test.YtbkcdpfelkbhaaaIppPure
namespace Go.Proofs.Ytbkcdpfelkbhaaa.Ipp
open Go.Proofs.Ytbkcdpfelkbhaaa.Oct Go.Proofs.Ytbkcdpfelkbhaaa.Opt Go.Proofs.Ytbkcdpfelkbhaaa.Ipc

theorem way_rej {p : Po} {l : List Opt} (h : ¬ refs (vs p l) = []) : way p l = .rej := if_pos h
theorem way_nak {p : Po} {l : List Opt} (h : refs (vs p l) = []) (h2 : ¬ sugs p l = []) (hx : (p.naks : Int) < p.c.mn) : way p l = .nak := by unfold way; rw [if_neg (by rw [h]; simp), if_pos ⟨h2, hx⟩]
theorem way_poor {p : Po} {l : List Opt} (h : refs (vs p l) = []) (hx : ¬ (p.naks : Int) < p.c.mn) (h3 : ¬ poors (vs p l) = []) : way p l = .poor := by unfold way; rw [if_neg (by rw [h]; simp), if_neg (fun e => hx e.2), if_pos h3]
theorem poors_len (l : List Ver) : (poors l).length = (insts l).length := by
  induction l with
  | nil => rfl
  | cons v l ih =>
    unfold poors insts at *
    rw [List.filterMap_cons, List.filterMap_cons]
    cases poor v <;> simp [ih]
theorem sugs_nil {p : Po} {l : List Opt} (h : sugs p l = []) : poors (vs p l) = [] ∧ insts (vs p l) = [] ∧ miss p l = [] := by
  obtain ⟨h1, h2⟩ := List.append_eq_nil_iff.1 h
  have := poors_len (vs p l)
  rw [h1] at this
  exact ⟨List.length_eq_zero_iff.1 this, h1, h2⟩
theorem way_ack {p : Po} {l : List Opt} (h : refs (vs p l) = []) (h2 : sugs p l = []) : way p l = .ack := by unfold way; rw [if_neg (by rw [h]; simp), if_neg (fun e => e.1 h2), if_neg (by rw [(sugs_nil h2).1]; simp)]
theorem way_ack' {p : Po} {l : List Opt} (h : refs (vs p l) = []) (hx : ¬ (p.naks : Int) < p.c.mn) (h3 : poors (vs p l) = []) : way p l = .ack := by unfold way; rw [if_neg (by rw [h]; simp), if_neg (fun e => hx e.2), if_neg (by rw [h3]; simp)]
theorem rej_of {p : Po} {l : List Opt} (h : way p l = .rej) : jC p l = 4 ∧ jA p l = refs (vs p l) ∧ jP p l = { p with naks := 0 } := by unfold jC jA jP; rw [h]; exact ⟨rfl, rfl, rfl⟩
theorem nak_of {p : Po} {l : List Opt} (h : way p l = .nak) : jC p l = 3 ∧ jA p l = sugs p l ∧ jP p l = { p with naks := p.naks + 1 } := by unfold jC jA jP; rw [h]; exact ⟨rfl, rfl, rfl⟩
theorem poor_of {p : Po} {l : List Opt} (h : way p l = .poor) : jC p l = 4 ∧ jA p l = poors (vs p l) ∧ jP p l = { p with naks := 0 } := by unfold jC jA jP; rw [h]; exact ⟨rfl, rfl, rfl⟩
theorem ack_of {p : Po} {l : List Opt} (h : way p l = .ack) : jC p l = 2 ∧ jA p l = l ∧ jP p l = { p with naks := 0, peer := Ipc.gL l } := by unfold jC jA jP; rw [h]; exact ⟨rfl, rfl, rfl⟩
end Go.Proofs.Ytbkcdpfelkbhaaa.Ipp
