/- A region that draws its order, whose operations read and whose callees may grow the world: at any class of worlds 'S' one walk in the order of the text serves every order. Of no program. -/
import Derived.Deep.QuietTactic
import Derived.Below
namespace Go.Proofs.YtpppggicihfbgaaGreat.Mem

structure HeldW (S : World → Prop) where
  w : World
  h : S w
theorem wp_region_quiet_held {P : Program} {id : Nat} {Q : Exit → Act → World → Prop} {a : Act} {w : World} {l : List Oper} (S : World → Prop) (hm : P.follows .mixedOrders = true) (hB : Region.lexB .any l.toArray = true) (hS : S w.drew)
    (h : wpQuiet P l.toArray (fun w' => ∃ p : HeldW S, w' = p.w) (fun a' => ∀ w', (∃ p : HeldW S, w' = p.w) → Q .normal a' w') l a) : (Code.region id l.toArray true).wp P Q a w :=
  wp_region_quiet (C := fun w' => ∃ p : HeldW S, w' = p.w) hm hB ⟨⟨_, hS⟩, rfl⟩ (by simpa using h)
theorem wp_region_quiet_shut {P : Program} {id : Nat} {Q : Exit → Act → World → Prop} {a : Act} {w : World} {l : List Oper} (S : World → Prop) (hm : P.follows .mixedOrders = true) (hB : Region.lexB .any l.toArray = true) (hS : S w.drew)
    (h : ∀ G : List Oper → Act → Prop,
      RowKit.Hid (∀ (a : Act) (o : Oper) (rest : List Oper), (∀ K : Act → Prop, (∀ a, G rest a → K a) → if Region.wanted o (yielded l.toArray a.tmps) = true then o.quiet P a (fun w' => ∃ p : HeldW S, w' = p.w) K else K (a.put o.dst undef)) → G (o :: rest) a) →
      RowKit.Hid (∀ a, (∀ p : HeldW S, Q .normal a p.w) → G [] a) → G l a) : (Code.region id l.toArray true).wp P Q a w :=
  wp_region_quiet_held S hm hB hS (h (wpQuiet P l.toArray (fun w' => ∃ p : HeldW S, w' = p.w) (fun a' => ∀ w', (∃ p : HeldW S, w' = p.w) → Q .normal a' w')) (fun _ _ _ hh => wpQuiet_step hh) (fun _ hh => wpQuiet_nil (fun w' ⟨p, e⟩ => e ▸ hh p)))
theorem held_of {P : Program} {S : World → Prop} {f : FuncId} {args : Array Value} {p : HeldW S} {v : Value} (h : Calls P f args p.w fun e w' => e = .returned v ∧ S w') : Calls P f args p.w fun e w'' => e = .returned v ∧ ∃ p' : HeldW S, w'' = p'.w :=
  h.mono fun _ w'' ⟨he, hs⟩ => ⟨he, ⟨w'', hs⟩, rfl⟩
end Go.Proofs.YtpppggicihfbgaaGreat.Mem
