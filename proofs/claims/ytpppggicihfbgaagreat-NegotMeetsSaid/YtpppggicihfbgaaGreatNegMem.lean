/- One side in memory: its block, its automaton's, its policy's; a kind of policies. -/
import Derived.Test.YtpppggicihfbgaaGreatGFsmD
import Derived.Test.YtpppggicihfbgaaGreatGOptA
import Derived.Test.YtpppggicihfbgaaGreatRes
import Derived.Test.YtpppggicihfbgaaGreatPks
namespace Go.Proofs.YtpppggicihfbgaaGreat.Neg
open Go.RowKit Go.Proofs.YtpppggicihfbgaaGreat.Oct Go.Proofs.YtpppggicihfbgaaGreat.Row Go.Proofs.YtpppggicihfbgaaGreat.Mem Go.Proofs.YtpppggicihfbgaaGreat.Opt Go.Proofs.YtpppggicihfbgaaGreat.Fsm Go.Proofs.YtpppggicihfbgaaGreat.Aut

def ptr (q : Nat) : Value := .pointer (some ⟨q, 0, none⟩)
def RqQ (l : List Opt) (w : World) (e : Ending) (w' : World) : Prop := ∃ A c, e = .returned (.slice A l.length c) ∧ Opts w' w'.heap.size A l.length l ∧ Below w.heap.size w w'
structure Kd where
  α : Type
  proto : Nat
  ty : TypeId
  At : World → Nat → α → Prop
  lt : ∀ {w g p}, At w g p → g < w.heap.size
  moves : ∀ {S : Nat → Prop} {w w' g p}, At w g p → Moves S w w' → ¬ S g → At w' g p
  ok : α → Prop
  req : α → List Opt
  fRequest : FuncId
  eRequest : ∀ args w, (callFunc fRequest args).run Tryz.prog w = .ok (.enter fRequest args) w
  mRequest : ∀ k, k = Tryz.prog.types.size + Made.depth → ∀ q w, (method k ty (.agg #[ptr q]) "Request").run Tryz.prog w = .ok (fRequest, ptr q) w
  cRequest : ∀ q p w, At w q p → ok p → Calls Tryz.prog fRequest #[ptr q] w (RqQ (req p) w)
  magic : α → UInt32
  renew : α → UInt32 → α
  fRenew : FuncId
  eRenew : ∀ args w, (callFunc fRenew args).run Tryz.prog w = .ok (.enter fRenew args) w
  mRenew : ∀ k, k = Tryz.prog.types.size + Made.depth → ∀ q w, (method k ty (.agg #[ptr q]) "halyard/negot.renew").run Tryz.prog w = .ok (fRenew, .agg #[ptr q]) w
  cRenew : ∀ q p w (d : UInt32), At w q p → ok p → Calls Tryz.prog fRenew #[.agg #[ptr q], .int .u32 d.toNat] w fun e w' => e = .returned (.tuple #[]) ∧ At w' q (renew p d) ∧ Moves (fun k => k = q) w w'
  okRenew : ∀ p d, ok p → ok (renew p d)
  rq : ∀ p, ok p → pE (req p) = 0 ∧ (req p).length ≤ maxLen
theorem Kd.callee (K : Kd) {w w' : World} {g : Nat} {p : K.α} (h : K.At w g p) (hb : Below w.heap.size w w') : K.At w' g p := K.moves h (Moves.of_below (S := fun _ => False) hb) id

structure Sd (K : Kd) where
  x : Au
  p : K.α
  mru : Nat
  cnt : Nat
  asked : Bool
  last : Nat
def sv (K : Kd) (a q : Nat) (s : Sd K) : List Value := [ptr a, .int .u16 K.proto, .iface K.ty (.agg #[ptr q]), .int .i64 s.mru, .int .u8 s.cnt, .bool s.asked, .int .u8 s.last]
def SAt (K : Kd) (w : World) (g a q : Nat) (s : Sd K) : Prop := Blk w g (sv K a q s) 74 ∧ Aut w a s.x ∧ K.At w q s.p ∧ a ≠ g ∧ q ≠ g ∧ a ≠ q
def My (g a q : Nat) : Nat → Prop := fun k => k = g ∨ k = a ∨ k = q
theorem SAt.lt {K : Kd} {w : World} {g a q : Nat} {s : Sd K} (h : SAt K w g a q s) : g < w.heap.size := Blk.lt h.1
theorem SAt.old {K : Kd} {w : World} {g a q : Nat} {s : Sd K} (h : SAt K w g a q s) : ∀ k, My g a q k → k < w.heap.size := by
  rintro k (rfl | rfl | rfl)
  · exact Blk.lt h.1
  · exact h.2.1.lt
  · exact K.lt h.2.2.1
theorem SAt.c {K : Kd} {w : World} {g a q : Nat} {s : Sd K} (h : SAt K w g a q s) (i : Nat) : w.cell? ⟨g, i, none⟩ = (sv K a q s)[i]? := Blk.at_ h.1 i
theorem SAt.f {K : Kd} {w : World} {g a q : Nat} {s : Sd K} (h : SAt K w g a q s) (i : Nat) : w.frozen? ⟨g, i, none⟩ = false := Blk.frozen h.1 i
theorem SAt.moves {K : Kd} {S : Nat → Prop} {w w' : World} {g a q : Nat} {s : Sd K} (h : SAt K w g a q s) (hm : Moves S w w') (hs : ∀ k, My g a q k → ¬ S k) : SAt K w' g a q s :=
  ⟨h.1.moves hm (hs _ (.inl rfl)), h.2.1.moves hm (hs _ (.inr (.inl rfl))), K.moves h.2.2.1 hm (hs _ (.inr (.inr rfl))), h.2.2.2⟩
theorem SAt.callee {K : Kd} {w w' : World} {g a q : Nat} {s : Sd K} (h : SAt K w g a q s) (hb : Below w.heap.size w w') : SAt K w' g a q s := h.moves (Moves.of_below (S := fun _ => False) hb) (fun _ _ => id)
theorem SAt.blk {K : Kd} {w w' : World} {g a q : Nat} {s s' : Sd K} (h : SAt K w g a q s) (hm : Moves (fun k => k = g) w w') (hb : Blk w' g (sv K a q s') 74) (hx : s'.x = s.x) (hp : s'.p = s.p) : SAt K w' g a q s' :=
  ⟨hb, by rw [hx]; exact h.2.1.moves hm h.2.2.2.1, by rw [hp]; exact K.moves h.2.2.1 hm h.2.2.2.2.1, h.2.2.2⟩
theorem SAt.setCnt {K : Kd} {w : World} {g a q : Nat} {s : Sd K} (h : SAt K w g a q s) (n : Nat) : SAt K (w.setCell ⟨g, 4, none⟩ (.int .u8 n)) g a q { s with cnt := n } := h.blk (set1_moves _ _ _ _) (h.1.set 4 (.int .u8 n)) rfl rfl
theorem SAt.setAsked {K : Kd} {w : World} {g a q : Nat} {s : Sd K} (h : SAt K w g a q s) (b : Bool) : SAt K (w.setCell ⟨g, 5, none⟩ (.bool b)) g a q { s with asked := b } := h.blk (set1_moves _ _ _ _) (h.1.set 5 (.bool b)) rfl rfl
theorem SAt.setLast {K : Kd} {w : World} {g a q : Nat} {s : Sd K} (h : SAt K w g a q s) (n : Nat) : SAt K (w.setCell ⟨g, 6, none⟩ (.int .u8 n)) g a q { s with last := n } := h.blk (set1_moves _ _ _ _) (h.1.set 6 (.int .u8 n)) rfl rfl
theorem SAt.aut {K : Kd} {w w' : World} {g a q : Nat} {s : Sd K} {y : Au} (h : SAt K w g a q s) (hm : Moves (fun k => k = a) w w') (hy : Aut w' a y) : SAt K w' g a q { s with x := y } :=
  ⟨h.1.moves hm h.2.2.2.1.symm, hy, K.moves h.2.2.1 hm h.2.2.2.2.2.symm, h.2.2.2⟩
theorem SAt.pol {K : Kd} {w w' : World} {g a q : Nat} {s : Sd K} {p : K.α} (h : SAt K w g a q s) (hm : Moves (fun k => k = q) w w') (hp : K.At w' q p) : SAt K w' g a q { s with p := p } :=
  ⟨h.1.moves hm h.2.2.2.2.1.symm, h.2.1.moves hm h.2.2.2.2.2, hp, h.2.2.2⟩
theorem my_g {g a q : Nat} {w w' : World} (h : Moves (fun k => k = g) w w') : Moves (My g a q) w w' := h.mono fun _ _ e => .inl e
theorem my_a {g a q : Nat} {w w' : World} (h : Moves (fun k => k = a) w w') : Moves (My g a q) w w' := h.mono fun _ _ e => .inr (.inl e)
theorem my_q {g a q : Nat} {w w' : World} (h : Moves (fun k => k = q) w w') : Moves (My g a q) w w' := h.mono fun _ _ e => .inr (.inr e)

/-! ### nextId -/
def IdQ (K : Kd) (g a q : Nat) (s : Sd K) (w : World) (e : Ending) (w' : World) : Prop :=
  e = .returned (.int .u8 ((s.cnt + 1) % 256 : Nat)) ∧ SAt K w' g a q { s with cnt := (s.cnt + 1) % 256 } ∧ Moves (fun k => k = g) w w'
set_option maxHeartbeats 1000000 in
set_option maxRecDepth 100000 in
theorem next_id (K : Kd) (g a q : Nat) (s : Sd K) (w : World) (h : SAt K w g a q s) : Calls Tryz.prog 77 #[ptr g] w (IdQ K g a q s w) := by
  have c4 : w.cell? ⟨g, 4, none⟩ = some (.int .u8 s.cnt) := h.c 4
  have f4 := h.f 4
  have H := Lib.hid h
  have HW : Hid (((s.cnt : Int) + 1) % 256 = ((s.cnt + 1) % 256 : Nat)) := by
    show _ = _
    omega
  clear h
  unfold ptr
  go_enter Tryz.func77, Tryz.ntmps77
  go_wp2
  go_ret
  unfold IdQ
  rw [HW.out]
  exact ⟨rfl, H.out.setCnt _, set1_moves _ _ _ _⟩

/-! ### Configure-Request -/
def asks {K : Kd} (s : Sd K) : Sd K := { s with cnt := (s.cnt + 1) % 256, asked := true, last := (s.cnt + 1) % 256 }
def SndQ (K : Kd) (g a q : Nat) (s' : Sd K) (pk : Pk) (w : World) (e : Ending) (w' : World) : Prop :=
  e = .returned (.tuple #[.agg (pkV pk).toArray, .int .i64 0]) ∧ SAt K w' g a q s' ∧ Moves (My g a q) w w'
theorem box_in (w : World) (draw code : Nat) (p : Pk) (A : Option Addr) (n c : Nat) : ∃ W, w.alloc (.cells #[.int .u32 draw, .int .u8 p.c.toNat, .int .u8 p.i.toNat, .string p.d, .int .u8 code, .slice A n c] 88) = W ∧
    Hid (Blk W w.heap.size [.int .u32 draw, .int .u8 p.c.toNat, .int .u8 p.i.toNat, .string p.d, .int .u8 code, .slice A n c] 88 ∧ Below w.heap.size w W) :=
  ⟨_, rfl, blk_new w [.int .u32 draw, .int .u8 p.c.toNat, .int .u8 p.i.toNat, .string p.d, .int .u8 code, .slice A n c] _, (Below.refl w.heap.size w).alloc (Nat.le_refl _) _⟩
theorem put_yes {l : List Opt} (h : pE l = 0) : pA l = enc l := if_pos h
theorem put_res {W : World} {g : Nat} {cs : List Value} (h : Blk W g cs 56) (a b : Int) (s : ByteArray) (hl : cs.length = 3 := by rfl) :
    Blk (((W.setCell ⟨g, 0, none⟩ (.int .u8 a)).setCell ⟨g, 1, none⟩ (.int .u8 b)).setCell ⟨g, 2, none⟩ (.string s)) g [.int .u8 a, .int .u8 b, .string s] 56 ∧
    Moves (fun k => k = g) W (((W.setCell ⟨g, 0, none⟩ (.int .u8 a)).setCell ⟨g, 1, none⟩ (.int .u8 b)).setCell ⟨g, 2, none⟩ (.string s)) := by
  refine ⟨?_, ((set1_moves W g 0 _).trans (set1_moves _ g 1 _) fun _ _ x => x).trans (set1_moves _ g 2 _) fun _ _ x => x⟩
  match cs, hl with
  | [x, y, z], _ => exact ((h.set 0 (.int .u8 a)).set 1 (.int .u8 b)).set 2 (.string s)
set_option maxHeartbeats 1000000 in
set_option maxRecDepth 100000 in
theorem conf_req (K : Kd) (g a q : Nat) (s : Sd K) (draw code : Nat) (p : Pk) (A : Option Addr) (n c : Nat) (w : World) (h : SAt K w g a q s) (hok : K.ok s.p) :
    Calls Tryz.prog 59 #[ptr g, .agg #[.int .u32 draw, .int .u8 p.c.toNat, .int .u8 p.i.toNat, .string p.d, .int .u8 code, .slice A n c]] w (SndQ K g a q (asks s) ⟨1, UInt8.ofNat ((s.cnt + 1) % 256), bOf (enc (K.req s.p))⟩ w) := by
  unfold asks
  have HN : Hid (∀ w, SAt K w g a q s → Calls Tryz.prog 77 #[.pointer (some ⟨g, 0, none⟩)] w (fun e w' => e = .returned (.int .u8 ((s.cnt + 1) % 256 : Nat)) ∧ SAt K w' g a q { s with cnt := (s.cnt + 1) % 256 } ∧ Moves (fun k => k = g) w w')) := fun w h => next_id K g a q s w h
  have hN0 : (s.cnt + 1) % 256 < 256 := Nat.mod_lt _ (by decide)
  generalize (s.cnt + 1) % 256 = N at *
  have HN0 : Hid ((UInt8.ofNat N).toNat = N) := by
    show _ = _
    rw [UInt8.toNat_ofNat']
    exact Nat.mod_eq_of_lt hN0
  obtain ⟨W, hW, HW⟩ := box_in w draw code p A n c
  obtain ⟨V, hV, HV⟩ := res_one W
  have H := Lib.hid ((h.callee HW.out.2).callee HV.out.2.1)
  have M := Lib.hid ((Moves.of_below (S := My g a q) HW.out.2).trans (Moves.of_below (S := My g a q) HV.out.2.1) fun _ _ x => x)
  have HR := Lib.hid HV.out
  have hgV : Hid (g < W.heap.size) := Nat.lt_of_lt_of_le h.lt HW.out.2.size
  have HLT := Lib.hid h.old
  have HWs : Hid (w.heap.size ≤ W.heap.size) := HW.out.2.size
  have HM := Lib.hid K.mRequest
  have HE := K.eRequest
  have HC := Lib.hid (fun w p h hok => K.cRequest q p w h hok)
  have HQ := Lib.hid (K.rq s.p hok)
  have HP := Lib.hid (fun B A n c w hl hn hB => put_any (K.req s.p) B A n c w hl hn hB)
  rw [HQ.out.1, put_yes HQ.out.1] at HP
  have HK := Lib.hid hok
  clear h hok HV HW hN0
  unfold ptr at *
  go_enter Tryz.func59, Tryz.ntmps59
  go_wp2_with fail
  refine (HN.out _ H.out).mono ?_
  rintro e w1 ⟨rfl, h1, m1⟩
  have c2 : w1.cell? ⟨g, 2, none⟩ = some (.iface K.ty (.agg #[.pointer (some ⟨q, 0, none⟩)])) := h1.c 2
  have c5 := h1.c 5
  have c6 := h1.c 6
  have f5 := h1.f 5
  have f6 := h1.f 6
  have H1 := Lib.hid ((h1.setAsked true).setLast N)
  have M1 := Lib.hid ((m1.trans (set1_moves _ g 5 (.bool true)) fun _ _ x => x).trans (set1_moves _ g 6 (.int .u8 N)) fun _ _ x => x)
  clear h1 m1 HN
  go_wp2_with fail
  rw [HM.out _ (by kernel_rfl)]
  go_wp2_with fail
  refine (HC.out _ _ H1.out.2.2.1 HK.out).mono ?_
  rintro e w2 ⟨A2, n2, rfl, hO, hb2⟩
  have H2 := Lib.hid (H1.out.callee hb2)
  have M2 := Lib.hid (M1.out.trans (Moves.of_below (S := fun k => k = g) hb2) fun _ _ x => x)
  have HO := Lib.hid hO
  clear hO hb2 H1 M1 c2 c5 c6 f5 f6 HC HM HE H
  go_wp2_with fail
  refine (HP.out _ _ _ _ w2 HO.out HQ.out.2 (Nat.le_refl _)).mono ?_
  rintro e w3 ⟨rfl, hb3⟩
  have H3 := Lib.hid (H2.out.callee hb3)
  have M3 := Lib.hid (M2.out.trans (Moves.of_below (S := fun k => k = g) hb3) fun _ _ x => x)
  have HR3 : Hid (Blk w3 W.heap.size [.int .u8 0, .int .u8 0, .string ⟨#[]⟩] 56) := HR.out.1.moves M3.out (by have := hgV.out; omega)
  clear hb3 H2 M2 HO
  have c6 : w3.cell? ⟨g, 6, none⟩ = some (.int .u8 N) := H3.out.c 6
  have r0 := HR3.out.at_ 0
  have r1 := HR3.out.at_ 1
  have r2 := HR3.out.at_ 2
  have g0 := HR3.out.frozen 0
  have g1 := HR3.out.frozen 1
  have g2 := HR3.out.frozen 2
  go_wp2
  have HZ := put_res HR3.out 1 N (bOf (enc (K.req s.p)))
  (try simp only [Exit.inBlock, Exit.then])
  refine bodyPost_ret (Mem.results_row1 rfl _ _ W.heap.size _ _ _ rfl HZ.1 Tryz.underlying56 rfl (by kernel_rfl)) rfl ?_
  unfold SndQ pkV
  rw [HN0.out]
  exact ⟨rfl, H3.out.moves HZ.2 (fun k hk e => by have := HLT.out k hk; have := HWs.out; omega), (M.out.trans (my_g M3.out) fun _ _ x => x).trans (T := fun k => k = W.heap.size) HZ.2 (fun _ hj e => by have := HWs.out; omega)⟩
end Go.Proofs.YtpppggicihfbgaaGreat.Neg
