/- A case (an identifier, three texts, how something went, a packet) among the arguments, in a block; layer 19's long. -/
import Derived.Test.YtipcmkcllibnfaaDoorEchSt
import Derived.Test.YtipcmkcllibnfaaDoorPks
import Derived.Test.YtipcmkcllibnfaaDoorChpPure
import Derived.Test.YtipcmkcllibnfaaDoorBlk
namespace Go.Proofs.YtipcmkcllibnfaaDoor.Chp
open Go.ChangeShapes Go.WideShapes Go.ChangeAt Go.RowKit Go.Joins Go.Deep Go.Proofs.YtipcmkcllibnfaaDoor.Oct Go.Proofs.YtipcmkcllibnfaaDoor.Row Go.Proofs.YtipcmkcllibnfaaDoor.Mem

structure Cas where
  id : UInt8
  s : ByteArray
  v : ByteArray
  n : ByteArray
  b : Bool
  p : Pk
def csV (x : Cas) : List Value := [.int .u8 x.id.toNat, .string x.s, .string x.v, .string x.n, .bool x.b, .int .u8 x.p.c.toNat, .int .u8 x.p.i.toNat, .string x.p.d]
theorem list8 {α : Type} {l : List α} (h : l.length = 8) : ∃ a b c d e f g k, l = [a, b, c, d, e, f, g, k] := by
  match l, h with
  | [a, b, c, d, e, f, g, k], _ => exact ⟨a, b, c, d, e, f, g, k, rfl⟩
theorem list6' {α : Type} {l : List α} (h : l.length = 6) : ∃ a b c d e f, l = [a, b, c, d, e, f] := by
  match l, h with
  | [a, b, c, d, e, f], _ => exact ⟨a, b, c, d, e, f, rfl⟩
theorem str_weight {H : Type} {P : Program} {t : TypeId} (s : ByteArray) : s.data.toList.length ∈ (DataW.lit (.string s.data.toList) : DataW H).weights P t := by unfold DataW.weights; simp
theorem case_of {H : Type} {enc : TypeId × Value → H} {P : Program} {W : World} {base : Nat} {t : TypeId} {g0 g1 g2 g3 g4 g5 f0 f1 f2 : Field} {v : Value} {d : DataW H} {p : List MemPlace} (he : P.underlying t = some (.struct #[g0, g1, g2, g3, g4, g5]))
    (hoff : (g0.offset, g1.offset, g2.offset, g3.offset, g4.offset, g5.offset) = (0, 1, 2, 3, 4, 5)) (hcel : (P.cellsOf g0.type, P.cellsOf g1.type, P.cellsOf g2.type, P.cellsOf g3.type, P.cellsOf g4.type, P.cellsOf g5.type) = (1, 1, 1, 1, 1, 3)) (hC : P.cellsOf t = 8)
    (v0 : P.underlying g0.type = some (.int .u8)) (v1 : P.underlying g1.type = some .string) (v2 : P.underlying g2.type = some .string) (v3 : P.underlying g3.type = some .string) (v4 : P.underlying g4.type = some .bool) (v5 : P.underlying g5.type = some (.struct #[f0, f1, f2]))
    (hone : oneCellFields P #[f0, f1, f2] = true) (u0 : P.underlying f0.type = some (.int .u8)) (u1 : P.underlying f1.type = some (.int .u8)) (u2 : P.underlying f2.type = some .string)
    (hv : Value.okWide P W .any base t v) (h : DataW.Trod enc P W 0 (fun _ => true) true t v d p) (hsz : ∀ n ∈ d.weights P t, n ≤ reachBytes) :
    ∃ x : Cas, v = .agg (csV x).toArray ∧ x.s.size ≤ 140737488351232 ∧ x.v.size ≤ 140737488351232 ∧ x.n.size ≤ 140737488351232 ∧ x.p.d.size ≤ 140737488351232 := by
  simp only [Prod.mk.injEq] at hoff hcel
  obtain ⟨o0, o1, o2, o3, o4, o5⟩ := hoff
  obtain ⟨k0, k1, k2, k3, k4, k5⟩ := hcel
  obtain ⟨cs, rfl, hcs⟩ := okWide_struct he hv
  obtain ⟨fuel, hf⟩ := h
  obtain ⟨xs, n', _, hD, _, hxl, hg⟩ := DataW.trod_struct he hf
  obtain ⟨cl⟩ := cs
  have hcl : cl.length = 8 := hcs.trans hC
  obtain ⟨x0, x1, x2, x3, x4, x5, x6, x7, rfl⟩ := list8 hcl
  obtain ⟨y0, y1, y2, y3, y4, y5, rfl⟩ := list6' (by simpa using hxl)
  have t0 := hg 0 g0 rfl
  have t1 := hg 1 g1 rfl
  have t2 := hg 2 g2 rfl
  have t3 := hg 3 g3 rfl
  have t4 := hg 4 g4 rfl
  have t5 := hg 5 g5 rfl
  rw [o0, k0] at t0
  rw [o1, k1] at t1
  rw [o2, k2] at t2
  rw [o3, k3] at t3
  rw [o4, k4] at t4
  rw [o5, k5] at t5
  simp only [Value.cells, List.drop_succ_cons, List.drop_zero, List.take_succ_cons, List.take_zero, List.getElem?_cons_zero, List.getElem?_cons_succ] at t0 t1 t2 t3 t4 t5
  obtain ⟨z0, q0, _, w0⟩ := DataW.trod_int v0 t0
  obtain ⟨s1, q1, r1, _⟩ := DataW.trod_string v1 t1
  obtain ⟨s2, q2, r2, _⟩ := DataW.trod_string v2 t2
  obtain ⟨s3, q3, r3, _⟩ := DataW.trod_string v3 t3
  obtain ⟨b4, q4, _⟩ := DataW.trod_bool v4 t4
  obtain ⟨pk, q5, dd, hdd, hw⟩ := Ech.pk_cells v5 hone k5 u0 u1 u2 t5
  have b0 := bounds_u8 w0
  obtain ⟨c0, rfl⟩ := Ech.u8_of (z := z0) (by omega) (by omega)
  have e0 : x0 = .int .u8 c0.toNat := by simpa using q0
  have e1 : x1 = .string s1 := by simpa using q1
  have e2 : x2 = .string s2 := by simpa using q2
  have e3 : x3 = .string s3 := by simpa using q3
  have e4 : x4 = .bool b4 := by simpa using q4
  have e5 : x5 = .int .u8 pk.c.toNat ∧ x6 = .int .u8 pk.i.toNat ∧ x7 = .string pk.d := by
    unfold Mem.pkV at q5
    simpa using q5
  obtain ⟨rfl, rfl, rfl⟩ := e5
  subst e0 e1 e2 e3 e4
  have hd : d = .agg ([y0, y1, y2, y3, y4, y5].map (·.1)) := congrArg Prod.fst hD
  have wt : ∀ (j : Nat) (f : Field) (y : DataW H) (n : Nat), (#[g0, g1, g2, g3, g4, g5] : Array Field)[j]? = some f → ([y0, y1, y2, y3, y4, y5].map (·.1))[j]? = some y → n ∈ y.weights P f.type → n ≤ reachBytes := fun j f y n hf hy hn => hsz n (by
    rw [hd]
    unfold DataW.weights
    rw [he]
    exact DataW.weights_mem_each (j := j) (t := f.type) (by rw [List.getElem?_map, Array.getElem?_toList, hf]; rfl) (d := y) hy _ hn)
  refine ⟨⟨c0, s1, s2, s3, b4, pk⟩, rfl, ?_, ?_, ?_, ?_⟩
  · have h2 := wt 1 g1 y1.1 s1.data.toList.length rfl rfl (by rw [r1]; exact str_weight s1)
    rw [Array.length_toList] at h2; exact h2
  · have h2 := wt 2 g2 y2.1 s2.data.toList.length rfl rfl (by rw [r2]; exact str_weight s2)
    rw [Array.length_toList] at h2; exact h2
  · have h2 := wt 3 g3 y3.1 s3.data.toList.length rfl rfl (by rw [r3]; exact str_weight s3)
    rw [Array.length_toList] at h2; exact h2
  · have h2 := wt 5 g5 y5.1 pk.d.data.toList.length rfl rfl hw
    rw [Array.length_toList] at h2; exact h2

/-- A case lies in block g. -/
def CsAt (W : World) (g : Nat) (x : Cas) : Prop := Blk W g (csV x) 25
theorem CsAt.callee {W W' : World} {g : Nat} {x : Cas} (h : CsAt W g x) (hb : Below W.heap.size W W') : CsAt W' g x := Blk.callee h hb
theorem CsAt.alloc {W : World} {g : Nat} {x : Cas} (h : CsAt W g x) (o : Obj) : CsAt (W.alloc o) g x := Blk.alloc h o
theorem cs_new (w : World) (x : Cas) : CsAt (w.alloc (.cells #[.int .u8 x.id.toNat, .string x.s, .string x.v, .string x.n, .bool x.b, .int .u8 x.p.c.toNat, .int .u8 x.p.i.toNat, .string x.p.d] 25)) w.heap.size x := blk_new w (csV x) _
theorem CsAt.c0 {W : World} {g : Nat} {x : Cas} (h : CsAt W g x) : W.cell? ⟨g, 0, none⟩ = some (.int .u8 x.id.toNat) := Blk.at_ h 0
theorem CsAt.c1 {W : World} {g : Nat} {x : Cas} (h : CsAt W g x) : W.cell? ⟨g, 1, none⟩ = some (.string x.s) := Blk.at_ h 1
theorem CsAt.c2 {W : World} {g : Nat} {x : Cas} (h : CsAt W g x) : W.cell? ⟨g, 2, none⟩ = some (.string x.v) := Blk.at_ h 2
theorem CsAt.c3 {W : World} {g : Nat} {x : Cas} (h : CsAt W g x) : W.cell? ⟨g, 3, none⟩ = some (.string x.n) := Blk.at_ h 3
theorem CsAt.c4 {W : World} {g : Nat} {x : Cas} (h : CsAt W g x) : W.cell? ⟨g, 4, none⟩ = some (.bool x.b) := Blk.at_ h 4
theorem CsAt.c5 {W : World} {g : Nat} {x : Cas} (h : CsAt W g x) : W.cell? ⟨g, 5, none⟩ = some (.int .u8 x.p.c.toNat) := Blk.at_ h 5
theorem CsAt.c6 {W : World} {g : Nat} {x : Cas} (h : CsAt W g x) : W.cell? ⟨g, 6, none⟩ = some (.int .u8 x.p.i.toNat) := Blk.at_ h 6
theorem CsAt.c7 {W : World} {g : Nat} {x : Cas} (h : CsAt W g x) : W.cell? ⟨g, 7, none⟩ = some (.string x.p.d) := Blk.at_ h 7

/-- What the statements let go. -/
def lgB (x : Cas) : Bool := decide (4096 < (x.s.size : Int) + (x.v.size : Int) + (x.n.size : Int) + (x.p.d.size : Int))
set_option maxHeartbeats 1000000 in
set_option maxRecDepth 100000 in
theorem long_any (x : Cas) (w : World) (h1 : x.s.size ≤ 140737488351232) (h2 : x.v.size ≤ 140737488351232) (h3 : x.n.size ≤ 140737488351232) (h4 : x.p.d.size ≤ 140737488351232) :
    Calls Tryd.prog 6 #[.agg #[.int .u8 x.id.toNat, .string x.s, .string x.v, .string x.n, .bool x.b, .int .u8 x.p.c.toNat, .int .u8 x.p.i.toNat, .string x.p.d]] w fun e w' => e = .returned (.bool (lgB x)) ∧ Below w.heap.size w w' := by
  have HC := Lib.hid (cs_new w x)
  have HB : Hid (Below w.heap.size w (w.alloc (.cells #[.int .u8 x.id.toNat, .string x.s, .string x.v, .string x.n, .bool x.b, .int .u8 x.p.c.toNat, .int .u8 x.p.i.toNat, .string x.p.d] 25))) := (Below.refl _ w).alloc (Nat.le_refl _) _
  have HL : Hid (lgB x = decide (4096 < (x.s.size : Int) + (x.v.size : Int) + (x.n.size : Int) + (x.p.d.size : Int))) := rfl
  obtain ⟨id, s, v, n, b, ⟨c, i, d⟩⟩ := x
  rw [HL.out]
  clear HL
  simp only at h1 h2 h3 h4
  have g0 : (0 : Int) ≤ (s.size : Int) := by omega
  have g1 : (0 : Int) ≤ (v.size : Int) := by omega
  have g2 : (0 : Int) ≤ (n.size : Int) := by omega
  have g3 : (0 : Int) ≤ (d.size : Int) := by omega
  by_cases hl : 4096 < (s.size : Int) + (v.size : Int) + (n.size : Int) + (d.size : Int)
  · rw [decide_eq_true hl]
    go_enter Tryd.func6, Tryd.ntmps6
    go_wp2
    go_ret
    exact ⟨rfl, HB.out⟩
  · rw [decide_eq_false hl]
    go_enter Tryd.func6, Tryd.ntmps6
    go_wp2
    go_ret
    exact ⟨rfl, HB.out⟩
end Go.Proofs.YtipcmkcllibnfaaDoor.Chp
