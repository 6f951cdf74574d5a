/- What a server makes of the packets of a client that has its secret, or another one. Plain mathematics. -/
import Derived.Test.YtpfbknbloeilmaaDoorAthPure
import Derived.Test.YtpfbknbloeilmaaDoorPapG
namespace Go.Proofs.YtpfbknbloeilmaaDoor.Ath
open Go.RowKit Go.Proofs.YtpfbknbloeilmaaDoor.Oct Go.Proofs.YtpfbknbloeilmaaDoor.Row Go.Proofs.YtpfbknbloeilmaaDoor.Md5 Go.Proofs.YtpfbknbloeilmaaDoor.Mem

theorem join_small {a b : ByteArray} (ha : a.size ≤ 255) (hb : b.size ≤ 255) : joinE [a, b] = 0 := by
  refine (join_yes (l := [a, b]) fun t ht => ?_).1
  simp only [List.map_cons, List.map_nil, List.mem_cons, List.not_mem_nil, or_false] at ht
  rcases ht with rfl | rfl
  · rw [← size_toList]; exact ha
  · rw [← size_toList]; exact hb
/-- A request of PAP: claimed by who is busy, with its name; good with its secret alone. -/
theorem pap_claims {s : Sv} (hp : pap s.c = true) (hs : s.st = 1) {name one : ByteArray} (hn : name.size ≤ 255) (ho : one.size ≤ 255) (i : UInt8) :
    claims s ⟨1, i, joinS [name, one]⟩ = true ∧ nameIn s ⟨1, i, joinS [name, one]⟩ = name ∧ ∀ other, well s ⟨1, i, joinS [name, one]⟩ other = decide (one = other) := by
  have h := Pap.as_back (join_small hn ho)
  have hc : claims s ⟨1, i, joinS [name, one]⟩ = true := by
    unfold claims
    rw [if_pos hp, decide_eq_true hs, decide_eq_true h.2.1]; rfl
  refine ⟨hc, ?_, fun other => ?_⟩
  · unfold nameIn
    rw [if_pos hc, if_pos hp]
    exact h.2.2.1
  · unfold well
    rw [if_pos hp]
    show decide (Pap.asT 1 (joinS [name, one]) 1 = other) = _
    rw [h.2.2.2]
/-- A response of CHAP: claimed if it is to the open challenge; good by the secret whose digest is the same. -/
theorem chap_claims {s : Sv} (hp : pap s.c = false) (ho : s.opn = true) {name one : ByteArray} (hn : name.size ≤ 255) :
    claims s ⟨2, s.id, Chp.vn (Chp.dg s.id one s.value) name⟩ = true ∧ nameIn s ⟨2, s.id, Chp.vn (Chp.dg s.id one s.value) name⟩ = name ∧
      ∀ other, well s ⟨2, s.id, Chp.vn (Chp.dg s.id one s.value) name⟩ other = (decide (Chp.dg s.id one s.value = Chp.dg s.id other s.value) && (!decide (s.st = 2) || decide (name = s.who))) := by
  have h := Chp.put_read (c := 2) (.inr rfl) (v := Chp.dg s.id one s.value) (n := name) (by rw [Chp.dg_size]; omega) (by rw [Chp.dg_size]; omega) hn
  have hc : claims s ⟨2, s.id, Chp.vn (Chp.dg s.id one s.value) name⟩ = true := by
    unfold claims
    rw [if_neg (by rw [hp]; decide), ho]
    show (true && decide (Chp.rdE 2 (Chp.vn (Chp.dg s.id one s.value) name) = 0) && decide ((2 : UInt8) = 2) && decide (s.id = s.id)) = true
    rw [decide_eq_true h.1]; simp
  have hnm : nameIn s ⟨2, s.id, Chp.vn (Chp.dg s.id one s.value) name⟩ = name := by
    unfold nameIn
    rw [if_pos hc, if_neg (by rw [hp]; decide)]
    exact h.2.2
  refine ⟨hc, hnm, fun other => ?_⟩
  unfold well
  rw [if_neg (by rw [hp]; decide), hnm]
  show (Chp.ckB 2 s.id (Chp.vn (Chp.dg s.id one s.value) name) s.id other s.value && _) = _
  rw [Chp.ck_val h.1, h.2.1]
/-- A challenge is heard, and responded to, with its own value. -/
theorem chal_heard {s : Cl} (hp : pap s.c = false) (hs : s.st ≠ 0) (hs3 : s.st ≠ 3) {value own : ByteArray} (h1 : 1 ≤ value.size) (h2 : value.size ≤ 255) (ho : own.size ≤ 255) (i : UInt8) (hn : s.name.size ≤ 255) :
    whatC s ⟨1, i, Chp.vn value own⟩ = 1 ∧ respP s ⟨1, i, Chp.vn value own⟩ = ⟨2, i, Chp.vn (Chp.dg i s.secret value) s.name⟩ := by
  have h := Chp.put_read (c := 1) (.inl rfl) h1 h2 ho
  constructor
  · unfold whatC
    rw [if_neg (fun e => e.elim hs hs3), if_neg (by rw [hp]; decide), if_pos ⟨h.1, rfl⟩]
  · unfold respP pkO
    show (if Chp.chE (Chp.rdA 1 (Chp.vn value own)) s.name = 0 then _ else _) = _
    rw [h.2.1, if_pos]
    rw [Chp.chE, if_neg (by omega), if_neg (by omega)]
/-- What the server answers is heard as it is meant. -/
theorem ans_pap {s : Cl} (hp : pap s.c = true) (hs : s.st = 1) (w : Bool) : whatC s (ans s.c s.id w) = 2 ∧ wellC s (ans s.c s.id w) = w := by
  have hj : joinE [bOf []] = 0 := by decide
  have hS : joinS [bOf []] = bOf [0] := by
    rw [(Pap.join_zero hj).2]
    simp only [List.map_cons, List.map_nil, toList_bOf]
    rfl
  unfold whatC wellC ans
  rw [if_neg (by omega), if_pos hp, if_pos hp, if_pos hp]
  cases w
  · have h := Pap.an_back (c := 3) (.inr rfl) hj
    rw [hS] at h
    unfold Pap.anV at h
    simp only [Value.tuple.injEq, Array.mk.injEq, List.cons.injEq, Value.string.injEq, Value.int.injEq, Value.bool.injEq, true_and, and_true] at h
    exact ⟨by show (if _ ∧ Pap.anE 3 (bOf [0]) = 0 ∧ _ then _ else _) = _; rw [if_pos ⟨hs, h.2.2, rfl⟩], h.1⟩
  · have h := Pap.an_back (c := 2) (.inl rfl) hj
    rw [hS] at h
    unfold Pap.anV at h
    simp only [Value.tuple.injEq, Array.mk.injEq, List.cons.injEq, Value.string.injEq, Value.int.injEq, Value.bool.injEq, true_and, and_true] at h
    exact ⟨by show (if _ ∧ Pap.anE 2 (bOf [0]) = 0 ∧ _ then _ else _) = _; rw [if_pos ⟨hs, h.2.2, rfl⟩], h.1⟩
theorem ansC {c : Cf} (hp : pap c = false) (i : UInt8) (w : Bool) : ans c i w = ⟨if w then 3 else 4, i, bOf []⟩ := by unfold ans; rw [if_neg (by rw [hp]; decide)]
theorem ans_chap {s : Cl} (hp : pap s.c = false) (hs : s.st ≠ 0) (hs3 : s.st ≠ 3) (hh : s.has = true) (w : Bool) : whatC s (ans s.c s.id w) = 2 ∧ wellC s (ans s.c s.id w) = w := by
  rw [ansC hp]
  unfold whatC wellC
  rw [if_neg (fun e => e.elim hs hs3)]
  simp only [hp, Bool.false_eq_true, if_false]
  cases w
  · have h1 : Chp.rdE 4 (bOf []) = 8 := Chp.rd_type _ (by decide)
    have h2 : Chp.anE 4 (bOf []) = 0 := Chp.an_ok (.inr rfl) (by decide)
    refine ⟨?_, ?_⟩
    · show (if Chp.rdE 4 (bOf []) = 0 ∧ (4 : UInt8) = 1 then 1 else if Chp.anE 4 (bOf []) = 0 ∧ s.has = true ∧ True then 2 else 0) = 2
      rw [if_neg (fun e => by rw [h1] at e; exact absurd e.1 (by decide)), if_pos ⟨h2, hh, trivial⟩]
    · show Chp.anW 4 (bOf []) = false
      rw [Chp.anW, h2]; rfl
  · have h1 : Chp.rdE 3 (bOf []) = 8 := Chp.rd_type _ (by decide)
    have h2 : Chp.anE 3 (bOf []) = 0 := Chp.an_ok (.inl rfl) (by decide)
    refine ⟨?_, ?_⟩
    · show (if Chp.rdE 3 (bOf []) = 0 ∧ (3 : UInt8) = 1 then 1 else if Chp.anE 3 (bOf []) = 0 ∧ s.has = true ∧ True then 2 else 0) = 2
      rw [if_neg (fun e => by rw [h1] at e; exact absurd e.1 (by decide)), if_pos ⟨h2, hh, trivial⟩]
    · show Chp.anW 3 (bOf []) = true
      rw [Chp.anW, h2]; rfl
end Go.Proofs.YtpfbknbloeilmaaDoor.Ath
