/- The events of NegotDeaf. Written by gen/neg_deaf.py. -/
import Derived.Test.YtikcgcgbcolndaaGreatG30
import Derived.Test.YtikcgcgbcolndaaGreatG4
namespace Go.Proofs.YtikcgcgbcolndaaGreat.Neg
open Go.RowKit Go.Proofs.YtikcgcgbcolndaaGreat.Oct Go.Proofs.YtikcgcgbcolndaaGreat.Row Go.Proofs.YtikcgcgbcolndaaGreat.Mem Go.Proofs.YtikcgcgbcolndaaGreat.Opt Go.Proofs.YtikcgcgbcolndaaGreat.Fsm
open Go.Proofs.YtikcgcgbcolndaaGreat.Aut (Au Aut Inv evA evE evX)
open Go.Proofs.YtikcgcgbcolndaaGreat.Pol (newP mayC)

theorem lok_new {cf : Pol.Conf} (m : UInt32) (h : mayC cf = true) : lcK.ok (newP cf m) := ⟨Pol.wish_may m h, h⟩
theorem tab0 : nE 0 0 = 0 ∧ nA 0 0 = 0 ∧ nN 0 0 = 2 := by decide +kernel
theorem shut_x (r mc mt : Nat) : evA (x0 r mc mt) 0 = 0 ∧ evE (x0 r mc mt) 0 = 0 ∧ evX (x0 r mc mt) 0 = ⟨r, mc, mt, 2, 0, 0⟩ := by
  obtain ⟨a, b, c⟩ := tab0
  refine ⟨b, a, ?_⟩
  show Aut.come (x0 r mc mt) 0 = _
  unfold Aut.come
  show (if nE 0 0 = 0 then Aut.fin (nN 0 0) (Aut.acts (nA 0 0) (x0 r mc mt)) else _) = _
  rw [if_pos a, b, c, Aut.acts_is]
  simp only [show has 0 16 = false by decide, show has 0 32 = false by decide, show has 0 64 = false by decide, show has 0 512 = false by decide]
  rfl
theorem shut_s (p : Pol.Po) (d : UInt32) : evS 0 d (newSd lcK 3 10 2 p) = (({ newSd lcK 3 10 2 p with x := ⟨3, 10, 2, 2, 0, 0⟩ } : Sd lcK), []) := by
  obtain ⟨a, b, c⟩ := shut_x 3 10 2
  unfold evS
  show perL _ (bitsTo (evA (x0 3 10 2) 0) 13) _ = _
  rw [a, bits0]
  have e : ({ ren 0 d (newSd lcK 3 10 2 p) with x := evX (newSd lcK 3 10 2 p).x 0 } : Sd lcK) = { newSd lcK 3 10 2 p with x := ⟨3, 10, 2, 2, 0, 0⟩ } := by
    rw [show evX (newSd lcK 3 10 2 p).x 0 = ⟨3, 10, 2, 2, 0, 0⟩ from c]
    rfl
  rw [e]
  rfl
def EvP (ev : Nat) (s s' : Sd lcK) (m : UInt32) : Prop := ∀ g a q w, SAt lcK w g a q s → Calls Tryz.prog 22 #[.pointer (some ⟨g, 0, none⟩), .int .u8 ev, .int .u32 m.toNat] w fun e w' =>
  ∃ R n rc T, e = .returned (.tuple #[.agg #[.slice R n rc, .int .u16 T, .int .u16 0, .bool false], .int .i64 0]) ∧ SAt lcK w' g a q s' ∧ Moves (My g a q) w w'
theorem evp_of {ev : Nat} {s : Sd lcK} {m : UInt32} (hok : Ok s) (h3 : ev ≤ 3) (he : evE s.x ev = 0) (h4 : has (evA s.x ev) 4096 = false) (s' : Sd lcK) (hs : (evS ev m s).1 = s') : EvP ev s s' m := fun g a q w h =>
  (event_ok lcK g a q s ev m w h hok h3 he h4).mono fun e w' ⟨R, rc, h1, _, h2, h3⟩ => ⟨R, _, rc, _, h1, by rw [← hs]; exact h2, h3⟩
theorem ev_o {cf : Pol.Conf} (m : UInt32) (hc : mayC cf = true) : EvP 2 (newSd lcK 3 10 2 (newP cf m)) ({ newSd lcK 3 10 2 (newP cf m) with x := x1 3 10 2 } : Sd lcK) m :=
  evp_of (new_ok' may3 (lok_new m hc)) (by decide) (open_x 3 10 2).2.1 (by rw [show (newSd lcK 3 10 2 (newP cf m)).x = x0 3 10 2 from rfl, (open_x 3 10 2).1]; decide) _ (congrArg Prod.fst (open_s lcK 3 10 2 (newP cf m) m))
theorem ev_c {cf : Pol.Conf} (m : UInt32) (hc : mayC cf = true) : EvP 0 (newSd lcK 3 10 2 (newP cf m)) ({ newSd lcK 3 10 2 (newP cf m) with x := ⟨3, 10, 2, 2, 0, 0⟩ } : Sd lcK) m :=
  evp_of (new_ok' may3 (lok_new m hc)) (by decide) (shut_x 3 10 2).2.1 (by rw [show (newSd lcK 3 10 2 (newP cf m)).x = x0 3 10 2 from rfl, (shut_x 3 10 2).1]; decide) _ (congrArg Prod.fst (shut_s (newP cf m) m))
theorem ev_u {cf : Pol.Conf} (m : UInt32) (hc : mayC cf = true) : EvP 0 ({ newSd lcK 3 10 2 (newP cf m) with x := x1 3 10 2 } : Sd lcK) (s6 lcK 3 10 2 9 3 1 (newP cf m)) m :=
  evp_of (new1_ok may3 (lok_new m hc)) (by decide) (up_x 3 10 2).2.1 (by rw [show ({ newSd lcK 3 10 2 (newP cf m) with x := x1 3 10 2 } : Sd lcK).x = x1 3 10 2 from rfl, (up_x 3 10 2).1]; decide) _ ((congrArg Prod.fst (up_s lcK 3 10 2 (newP cf m) m)).trans rfl)
theorem hears_c {cf : Pol.Conf} (m : UInt32) (hc : mayC cf = true) (p : Pk) (hd : p.d.size ≤ maxLen) : Hears ({ newSd lcK 3 10 2 (newP cf m) with x := ⟨3, 10, 2, 2, 0, 0⟩ } : Sd lcK) p m := by
  refine hears _ (.inl rfl) ?_ (fun h => by cases h) ⟨Nat.zero_le _, Nat.zero_le _⟩ p hd m
  have h1 := evX_inv (x0_inv may3) 0
  rw [(shut_x 3 10 2).2.2] at h1
  exact ⟨h1, lok_new m hc, (show 64 ≤ 1500 by decide), (show 1500 ≤ 65535 by decide), (show 0 < 256 by decide), (show 0 < 256 by decide)⟩
theorem hears_u {cf : Pol.Conf} (m : UInt32) (hc : mayC cf = true) (p : Pk) (hd : p.d.size ≤ maxLen) : Hears (s6 lcK 3 10 2 9 3 1 (newP cf m)) p m :=
  hears _ (.inr rfl) (s6_ok may3 (by decide) (by decide) (by decide) (by decide) (lok_new m hc)) (fun _ => rfl) ⟨Nat.zero_le _, Nat.zero_le _⟩ p hd m
/-- A conf and a packet in blocks. -/
theorem boxLP (w : World) (cf : Pol.Conf) (p : Pk) : ∃ W, (w.alloc (.cells #[Value.int .u16 cf.mru.toNat, .bool cf.ha, .int .u32 cf.accm.toNat, .int .u8 cf.auth.toNat, .int .u8 cf.takes.toNat, .int .u8 cf.can.toNat, .bool cf.mg, .bool cf.pfc, .bool cf.acfc, .int .i64 cf.mn] 25)).alloc (.cells #[.int .u8 p.c.toNat, .int .u8 p.i.toNat, .string p.d] 56) = W ∧
    Hid (Pol.CAt W w.heap.size cf ∧ Blk W (w.heap.size + 1) (pkV p) 56 ∧ Below w.heap.size w W ∧ W.heap.size = w.heap.size + 2) := by
  refine ⟨_, rfl, (Pol.cat_new w cf).alloc _, ?_, ((Below.refl w.heap.size w).alloc (Nat.le_refl _) _).alloc (by rw [World.size_alloc]; exact Nat.le_succ _) _, by rw [World.size_alloc, World.size_alloc]⟩
  have := blk_new (w.alloc (.cells #[Value.int .u16 cf.mru.toNat, .bool cf.ha, .int .u32 cf.accm.toNat, .int .u8 cf.auth.toNat, .int .u8 cf.takes.toNat, .int .u8 cf.can.toNat, .bool cf.mg, .bool cf.pfc, .bool cf.acfc, .int .i64 cf.mn] 25)) (pkV p) 56
  rw [World.size_alloc] at this
  exact this
/-- What the walk carries: the side, the packet's box. -/
structure Dy (w w' : World) (g a q : Nat) (s : Sd lcK) (p : Pk) : Prop where
  s : SAt lcK w' g a q s
  b : Below w.heap.size w w'
  my : ∀ k, My g a q k → w.heap.size + 2 ≤ k
  p : Blk w' (w.heap.size + 1) (pkV p) 56
theorem Dy.callee {w w' w'' : World} {g a q : Nat} {s : Sd lcK} {p : Pk} (h : Dy w w' g a q s p) (hb : Below w'.heap.size w' w'') : Dy w w'' g a q s p := ⟨h.s.callee hb, h.b.trans (hb.mono h.b.size), h.my, h.p.callee hb⟩
theorem Dy.go {w w' w'' : World} {g a q : Nat} {s s' : Sd lcK} {p : Pk} (h : Dy w w' g a q s p) (hs : SAt lcK w'' g a q s') (hm : Moves (My g a q) w' w'') : Dy w w'' g a q s' p :=
  ⟨hs, h.b.trans (hm.below h.b.size fun k hk => by have := h.my k hk; omega), h.my, h.p.moves hm (fun e => by have := h.my _ e; omega)⟩
end Go.Proofs.YtikcgcgbcolndaaGreat.Neg
