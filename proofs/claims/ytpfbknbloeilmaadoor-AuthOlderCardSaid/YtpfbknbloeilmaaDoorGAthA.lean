/- Put together: AthA, AthB, AthC. -/
import Derived.Test.YtpfbknbloeilmaaDoorAthPure
import Derived.Test.YtpfbknbloeilmaaDoorProg
import Derived.Test.YtpfbknbloeilmaaDoorRes
import Derived.WalkKit
import Derived.WalkSpells
import Derived.WalkLawsBesides
import Derived.RegionTactic
import Derived.ChangeAlike
import Derived.Deep.QuietTactic
import Derived.Lib.Hide
import Derived.KernelRfl
import Derived.Laws.Rows
import Derived.Laws.EntriesVeiled
import Derived.Maps.RangeRun
import Derived.Maps.Keyed
import Derived.Shelf.Abstract

/- What a machine's calls answer, in memory; what is sent. -/
namespace Go.Proofs.YtpfbknbloeilmaaDoor.Ath
open Go.RowKit Go.Proofs.YtpfbknbloeilmaaDoor.Oct Go.Proofs.YtpfbknbloeilmaaDoor.Row Go.Proofs.YtpfbknbloeilmaaDoor.Mem

/-- A row of packets of the call's own. -/
def RowP (w : World) (base : Nat) (A : Option Addr) (c : Nat) (l : List Pk) : Prop := w.ownsRow base 46 3 (.slice A l.length c) l.length (pksV l)
def outC (A : Option Addr) (c : Nat) (o : Ot) : List Value := [.slice A o.pkts.length c, .bool o.done, .bool o.failed, .string o.name]
def outV (A : Option Addr) (c : Nat) (o : Ot) : Value := .agg (outC A c o).toArray
def ptr (g : Nat) : Value := .pointer (some ⟨g, 0, none⟩)
/-- What a call of a machine in block g answers, and leaves there. -/
def OutQ (g : Nat) (cs : List Value) (T : TypeId) (o : Ot) (w : World) (e : Ending) (w' : World) : Prop :=
  ∃ A c, e = .returned (outV A c o) ∧ RowP w' w.heap.size A c o.pkts ∧ Blk w' g cs T ∧ Moves (fun k => k = g) w w'
def zo : List Value := [.slice none 0 0, .bool false, .bool false, .string ⟨#[]⟩]
/-- Within a call of a machine in block g: block b has its answer, into which nothing was stored. -/
structure Pt (w V : World) (g b : Nat) (cs : List Value) (T : TypeId) : Prop where
  blk : Blk V g cs T
  out : Blk V b zo 39
  mv : Moves (fun k => k = g) w V
  hb : w.heap.size ≤ b
  hg : g < w.heap.size
theorem Pt.ne {w V : World} {g b : Nat} {cs : List Value} {T : TypeId} (h : Pt w V g b cs T) : ¬ b = g := by have := h.hb; have := h.hg; omega
theorem Pt.o0 {w V : World} {g b : Nat} {cs : List Value} {T : TypeId} (h : Pt w V g b cs T) : V.cell? ⟨b, 0, none⟩ = some (.slice none 0 0) := h.out.at_ 0
theorem Pt.o1 {w V : World} {g b : Nat} {cs : List Value} {T : TypeId} (h : Pt w V g b cs T) : V.cell? ⟨b, 1, none⟩ = some (.bool false) := h.out.at_ 1
theorem Pt.o2 {w V : World} {g b : Nat} {cs : List Value} {T : TypeId} (h : Pt w V g b cs T) : V.cell? ⟨b, 2, none⟩ = some (.bool false) := h.out.at_ 2
theorem Pt.o3 {w V : World} {g b : Nat} {cs : List Value} {T : TypeId} (h : Pt w V g b cs T) : V.cell? ⟨b, 3, none⟩ = some (.string ⟨#[]⟩) := h.out.at_ 3
theorem Pt.of {w V : World} {g b : Nat} {cs : List Value} {T : TypeId} (h : Pt w V g b cs T) (i : Nat) : V.frozen? ⟨b, i, none⟩ = false := h.out.frozen i
theorem Pt.c {w V : World} {g b : Nat} {cs : List Value} {T : TypeId} (h : Pt w V g b cs T) (i : Nat) : V.cell? ⟨g, i, none⟩ = cs[i]? := h.blk.at_ i
theorem Pt.f {w V : World} {g b : Nat} {cs : List Value} {T : TypeId} (h : Pt w V g b cs T) (i : Nat) : V.frozen? ⟨g, i, none⟩ = false := h.blk.frozen i
theorem Pt.below {w V V' : World} {g b : Nat} {cs : List Value} {T : TypeId} (h : Pt w V g b cs T) (hb : Below V.heap.size V V') : Pt w V' g b cs T :=
  ⟨h.blk.callee hb, h.out.callee hb, h.mv.trans (T := fun _ => False) (Moves.of_below hb) (fun _ _ x => x.elim), h.hb, h.hg⟩
theorem Pt.moves {w V V' : World} {g b : Nat} {cs cs' : List Value} {T : TypeId} (h : Pt w V g b cs T) (hm : Moves (fun k => k = g) V V') (hx : Blk V' g cs' T) : Pt w V' g b cs' T :=
  ⟨hx, h.out.moves hm h.ne, h.mv.trans hm (fun _ _ x => x), h.hb, h.hg⟩
theorem Pt.set {w V : World} {g b : Nat} {cs : List Value} {T : TypeId} (h : Pt w V g b cs T) (i : Nat) (v : Value) : Pt w (V.setCell ⟨g, i, none⟩ v) g b (cs.set i v) T := h.moves (set1_moves V g i v) (h.blk.set i v)
theorem Pt.drewN {w V : World} {g b : Nat} {cs : List Value} {T : TypeId} (h : Pt w V g b cs T) (k : Nat) : Pt w (V.drewN k) g b cs T := ⟨h.blk, h.out, h.mv.drewN k, h.hb, h.hg⟩
theorem Pt.alloc {w V : World} {g b : Nat} {cs : List Value} {T : TypeId} (h : Pt w V g b cs T) (o : Obj) : Pt w (V.alloc o) g b cs T := h.below ((Below.refl _ V).alloc (Nat.le_refl _) o)
theorem Pt.lt {w V : World} {g b : Nat} {cs : List Value} {T : TypeId} (h : Pt w V g b cs T) : b < V.heap.size := h.out.lt
theorem own_no {w : World} {b base n size : Nat} {e : TypeId} {v : Value} {xs : List Value} (h : w.ownsRow base e size v n xs) (hb : b < base) : ∀ k, v.ownBlock = some k → ¬ k = b := fun k hk e => by
  have := (h.lt k hk).1
  omega
/-- The answer is stored. -/
theorem Pt.fin {w V w1 : World} {g b : Nat} {cs cs' : List Value} {T : TypeId} {A : Option Addr} {c : Nat} (h : Pt w V g b cs T) (o : Ot) {n : Nat} {d f : Bool} {nm : ByteArray} (hn : o.pkts.length = n) (hd : o.done = d) (hf : o.failed = f) (hm' : o.name = nm) (hr : RowP w1 V.heap.size A c o.pkts) (hx : Blk w1 g cs' T) (hm : Moves (fun k => k = g) V w1) :
    Hid (Blk ((((w1.setCell ⟨b, 0, none⟩ (.slice A n c)).setCell ⟨b, 1, none⟩ (.bool d)).setCell ⟨b, 2, none⟩ (.bool f)).setCell ⟨b, 3, none⟩ (.string nm)) b [.slice A n c, .bool d, .bool f, .string nm] 39 ∧
    OutQ g cs' T o w (.returned (.agg #[.slice A n c, .bool d, .bool f, .string nm])) ((((w1.setCell ⟨b, 0, none⟩ (.slice A n c)).setCell ⟨b, 1, none⟩ (.bool d)).setCell ⟨b, 2, none⟩ (.bool f)).setCell ⟨b, 3, none⟩ (.string nm))) := by
  subst hn hd hf hm'
  have h1 := h.moves hm hx
  have hM : Moves (fun k => k = b) w1 ((((w1.setCell ⟨b, 0, none⟩ (.slice A o.pkts.length c)).setCell ⟨b, 1, none⟩ (.bool o.done)).setCell ⟨b, 2, none⟩ (.bool o.failed)).setCell ⟨b, 3, none⟩ (.string o.name)) :=
    (((set1_moves w1 b 0 _).trans (set1_moves _ b 1 _) fun _ _ x => x).trans (set1_moves _ b 2 _) fun _ _ x => x).trans (set1_moves _ b 3 _) fun _ _ x => x
  refine ⟨(((h1.out.set 0 _).set 1 _).set 2 _).set 3 _, A, c, rfl, ?_, hx.moves hM (fun e => h.ne e.symm), h1.mv.trans hM (fun j hj e => by have := h.hb; omega)⟩
  refine own_mono (hM.row hr (own_no hr h.lt)) ?_
  exact h.mv.size
theorem start_one {w : World} {g : Nat} {cs : List Value} {T : TypeId} (h : Blk w g cs T) : ∃ V, w.alloc (.cells #[.slice none 0 0, .bool false, .bool false, .string ⟨#[]⟩] 39) = V ∧ V.heap.size = w.heap.size + 1 ∧ Hid (Pt w V g w.heap.size cs T) ∧ Hid (Below w.heap.size w V) :=
  ⟨_, rfl, World.size_alloc _ _, ⟨h.alloc _, blk_new w zo _, (Moves.refl _ w).alloc _, Nat.le_refl _, h.lt⟩, (Below.refl _ w).alloc (Nat.le_refl _) _⟩
/-- The same with something in a box ahead. -/
theorem start_two {w : World} {g : Nat} {cs : List Value} {T : TypeId} (h : Blk w g cs T) (bs : List Value) (B : TypeId) : ∃ V, (w.alloc (.cells bs.toArray B)).alloc (.cells #[.slice none 0 0, .bool false, .bool false, .string ⟨#[]⟩] 39) = V ∧ V.heap.size = w.heap.size + 2 ∧ Hid (Pt w V g (w.heap.size + 1) cs T) ∧ Hid (Below w.heap.size w V) ∧ Hid (Blk V w.heap.size bs B) := by
  have s1 : (w.alloc (.cells bs.toArray B)).heap.size = w.heap.size + 1 := World.size_alloc _ _
  have b2 := blk_new (w.alloc (.cells bs.toArray B)) zo 39
  rw [s1] at b2
  exact ⟨_, rfl, by rw [World.size_alloc, s1], ⟨(h.alloc _).alloc _, b2, ((Moves.refl _ w).alloc _).alloc _, Nat.le_succ _, h.lt⟩, ((Below.refl _ w).alloc (Nat.le_refl _) _).alloc (by rw [s1]; exact Nat.le_succ _) _, (blk_new w bs B).alloc _⟩
set_option maxRecDepth 100000 in
theorem infoP : (Tryd.prog.info? 46).map (fun i => (i.zero, i.size, i.bytes)) = some (some (.agg #[.int .u8 0, .int .u8 0, .string ⟨#[]⟩]), 3, 24) := by kernel_rfl
set_option maxRecDepth 100000 in
theorem infoO : (Tryd.prog.info? 39).map (·.size) = some 4 := by kernel_rfl
/-- A named result that is an answer. -/
theorem results_out {fn : Func} {p : Tmp} (h : fn.results = #[.cell p 39]) {tmps : Array Value} {w : World} {b : Nat} {x0 x1 x2 x3 : Value} (hp : tmps.getD p undef = .pointer (some ⟨b, 0, none⟩)) (hg : Blk w b [x0, x1, x2, x3] 39) :
    (results fn tmps).run Tryd.prog w = .ok (.agg #[x0, x1, x2, x3]) w :=
  results_cell_row h tmps w b _ #[x0, x1, x2, x3] _ _ hp hg Tryd.underlying39 rfl infoO

/-- Packet p lies in block b, that is new since W. -/
def PkB (W wx : World) (b : Nat) (p : Pk) : Prop := Blk wx b [.int .u8 p.c.toNat, .int .u8 p.i.toNat, .string p.d] 46 ∧ Below W.heap.size W wx ∧ W.heap.size ≤ b
theorem pkb_put {W U : World} {b : Nat} {x0 x1 x2 : Value} (h : Blk U b [x0, x1, x2] 46 ∧ Below W.heap.size W U ∧ W.heap.size ≤ b) (p : Pk) :
    PkB W (((U.setCell ⟨b, 0, none⟩ (.int .u8 p.c.toNat)).setCell ⟨b, 1, none⟩ (.int .u8 p.i.toNat)).setCell ⟨b, 2, none⟩ (.string p.d)) b p :=
  ⟨((h.1.set 0 _).set 1 _).set 2 _, ((h.2.1.setCell (p := ⟨b, 0, none⟩) h.2.2 _).setCell (p := ⟨b, 1, none⟩) h.2.2 _).setCell (p := ⟨b, 2, none⟩) h.2.2 _, h.2.2⟩
/-- A packet that is made, as its call hands it over. -/
theorem chp_pkV (E : Int) (c i : UInt8) (d : ByteArray) : Chp.pkV E c i d = .tuple #[.agg #[.int .u8 (pkO E c i d).c.toNat, .int .u8 (pkO E c i d).i.toNat, .string (pkO E c i d).d], .int .i64 E] := by
  unfold Chp.pkV pkO
  by_cases h : E = 0
  · rw [if_pos h, if_pos h, h]
  · rw [if_neg h, if_neg h]; rfl
theorem pap_pkV (c i : UInt8) (l : List ByteArray) : Pap.pkV c i l = .tuple #[.agg #[.int .u8 (pkO (joinE l) c i (joinS l)).c.toNat, .int .u8 (pkO (joinE l) c i (joinS l)).i.toNat, .string (pkO (joinE l) c i (joinS l)).d], .int .i64 (joinE l)] := by
  unfold pkO
  by_cases h : joinE l = 0
  · rw [Pap.pkV_ok h, if_pos h, h]
  · rw [Pap.pkV_no h, if_neg h, (Pap.join_bad h).1]; rfl

/-! ### what is sent -/
theorem own_empty (w : World) (e : TypeId) (size : Nat) : (w.alloc (.cells #[] e)).ownsRow w.heap.size e size (.slice (some ⟨w.heap.size, 0, none⟩) 0 0) 0 [] :=
  ⟨by simp, .inr ⟨w.heap.size, 0, #[], rfl, Nat.le_refl _, World.alloc_heap_new w _, Nat.le_refl _, Nat.zero_le _, by simp, by simp⟩⟩
theorem eql_nil (t e : TypeId) (a : Option Addr) (l c : Nat) (h : Tryd.prog.underlying t = some (.slice e)) (w : World) : (binOp .eql t (.slice a l c) (.slice none 0 0)).run Tryd.prog w = .ok (.bool a.isNone) w := by
  have := run_equal_slice_nil (P := Tryd.prog) w t e a l c h
  simp [binOp, this]
def CpQ (l : List Pk) (w : World) (e : Ending) (w' : World) : Prop := ∃ A c, e = .returned (.slice A l.length c) ∧ RowP w' w.heap.size A c l ∧ Below w.heap.size w w'
set_option maxHeartbeats 1000000 in
set_option maxRecDepth 100000 in
theorem clone_none (w : World) : Calls Tryd.prog 49 #[.slice none 0 0] w (CpQ [] w) := by
  have hE := eql_nil 37 _ none 0 0 Tryd.underlying37
  simp only [Option.isNone_none] at hE
  go_enter Tryd.func49, Tryd.ntmps49
  go_wp2
  go_ret
  exact ⟨none, 0, rfl, World.ownsRow_nil _ _ _ _, Below.refl _ _⟩
set_option maxHeartbeats 1000000 in
set_option maxRecDepth 100000 in
theorem clone_any (l : List Pk) (ad : Addr) (n c : Nat) (w : World) (hn : l.length = n) (hl : Pks w (some ad) l) (hz : n ≤ 1000) :
    Calls Tryd.prog 49 #[.slice (some ad) n c] w (CpQ l w) := by
  obtain ⟨i0, hi, hz0, hz1, hz2⟩ := info_parts infoP
  have HB : Hid (Below w.heap.size w (w.alloc (.cells #[] 46))) := (Below.refl _ _).alloc (Nat.le_refl _) _
  have HL := Lib.hid (hl.below HB.out)
  have HO := Lib.hid (own_empty w 46 3)
  have hE := eql_nil 37 _ (some ad) n c Tryd.underlying37
  simp only [Option.isNone_some] at hE
  have HS : Hid (w.heap.size ≤ (w.alloc (.cells #[] 46)).heap.size) := HB.out.size
  have HN := Lib.hid hn
  clear hl hn
  go_enter Tryd.func49, Tryd.ntmps49
  go_wp2_with (at_builtin; refine append_pks rfl _ _ 37 rfl w.heap.size 46 i0 _ 24 Tryd.underlying37 hi hz0 hz1 hz2 rfl _ 0 [] rfl HO.out (some ad) n c l HN.out (fun e => by cases e) rfl HL.out (by unfold maxLen; omega) (by omega) HS.out ?_; intro v1 w2 hown1 hgr1; have Hown1 := Lib.hid hown1; have Hgr1 := Lib.hid hgr1; clear hown1 hgr1)
  go_ret
  have h1 := Hown1.out
  rw [List.nil_append, Nat.zero_add] at h1
  obtain ⟨A1, c1, e1⟩ := own_slice h1
  have hB2 : Below w.heap.size w w2 := HB.out.grown Hgr1.out HS.out (fun q hq => (HO.out.lt q hq).1)
  subst e1
  refine ⟨A1, c1, by rw [HN.out] <;> rfl, ?_, hB2⟩
  unfold RowP
  rw [HN.out]
  exact h1
set_option maxHeartbeats 1000000 in
set_option maxRecDepth 100000 in
/-- Nothing is sent. -/
theorem send_none {g : Nat} {cs : List Value} {T : TypeId} (w : World) (h : Blk w g cs T) : Calls Tryd.prog 25 #[.slice none 0 0] w (OutQ g cs T no w) := by
  obtain ⟨V, hV, hs, HP, HB⟩ := start_one h
  have HC := Lib.hid (clone_none V)
  have c0 := HP.out.o0
  have c1 := HP.out.o1
  have c2 := HP.out.o2
  have c3 := HP.out.o3
  have f0 := HP.out.of 0
  have f1 := HP.out.of 1
  have f2 := HP.out.of 2
  have f3 := HP.out.of 3
  clear hs
  go_enter Tryd.func25, Tryd.ntmps25
  go_wp2_with fail
  refine HC.out.mono ?_
  rintro e w1 ⟨A, c, rfl, hr, hb⟩
  have HR := Lib.hid hr
  have HP1 := Lib.hid (HP.out.below hb)
  have HF := HP.out.fin no (nm := ⟨#[]⟩) rfl rfl rfl rfl hr (HP1.out.blk) (Moves.of_below hb)
  clear hr hb c0 c1 c2 c3 f0 f1 f2 f3
  have c0 := HP1.out.o0
  have c1 := HP1.out.o1
  have c2 := HP1.out.o2
  have c3 := HP1.out.o3
  have f0 := HP1.out.of 0
  have f1 := HP1.out.of 1
  have f2 := HP1.out.of 2
  have f3 := HP1.out.of 3
  go_wp2
  (try simp only [Exit.inBlock, Exit.then])
  refine bodyPost_ret (results_out rfl rfl HF.out.1) rfl ?_
  exact HF.out.2
set_option maxHeartbeats 1000000 in
set_option maxRecDepth 100000 in
/-- A packet is sent. -/
theorem send_one {g : Nat} {cs : List Value} {T : TypeId} (w : World) (h : Blk w g cs T) (p : Pk) (ad : Addr) (c : Nat) (hp : Pks w (some ad) [p]) : Calls Tryd.prog 25 #[.slice (some ad) 1 c] w (OutQ g cs T (sends [p]) w) := by
  obtain ⟨V, hV, hs, HP, HB⟩ := start_one h
  have HC := Lib.hid (clone_any [p] ad 1 c V rfl (hp.below HB.out) (by omega))
  have c0 := HP.out.o0
  have c1 := HP.out.o1
  have c2 := HP.out.o2
  have c3 := HP.out.o3
  have f0 := HP.out.of 0
  have f1 := HP.out.of 1
  have f2 := HP.out.of 2
  have f3 := HP.out.of 3
  clear hs hp
  go_enter Tryd.func25, Tryd.ntmps25
  go_wp2_with fail
  refine HC.out.mono ?_
  rintro e w1 ⟨A, c, rfl, hr, hb⟩
  have HP1 := Lib.hid (HP.out.below hb)
  have HF := HP.out.fin (sends [p]) (n := 1) (nm := ⟨#[]⟩) rfl rfl rfl rfl hr (HP1.out.blk) (Moves.of_below hb)
  clear hr hb c0 c1 c2 c3 f0 f1 f2 f3
  have c0 := HP1.out.o0
  have c1 := HP1.out.o1
  have c2 := HP1.out.o2
  have c3 := HP1.out.o3
  have f0 := HP1.out.of 0
  have f1 := HP1.out.of 1
  have f2 := HP1.out.of 2
  have f3 := HP1.out.of 3
  go_wp2
  (try simp only [Exit.inBlock, Exit.then])
  refine bodyPost_ret (results_out rfl rfl HF.out.1) rfl ?_
  exact HF.out.2
end Go.Proofs.YtpfbknbloeilmaaDoor.Ath

/- The machine that a server and a client have in common: number, exhausted, fail. -/
namespace Go.Proofs.YtpfbknbloeilmaaDoor.Ath
open Go.RowKit Go.Proofs.YtpfbknbloeilmaaDoor.Oct Go.Proofs.YtpfbknbloeilmaaDoor.Row Go.Proofs.YtpfbknbloeilmaaDoor.Mem

/-- A machine: by what, how often, how long, its name, its state, an identifier, how often it was tried, its timer. -/
structure Mc where
  kind : UInt8
  tries : Int
  wait : Int
  name : ByteArray
  st : Nat
  id : UInt8
  tried : Int
  timer : Int
def mV (m : Mc) : List Value := [.int .u8 m.kind.toNat, .int .i64 m.tries, .int .i64 m.wait, .string m.name, .int .u8 m.st, .int .u8 m.id.toNat, .int .i64 m.tried, .int .i64 m.timer]
def numberM (m : Mc) : Mc := { m with id := m.id + 1, tried := m.tried + 1, timer := m.wait }
theorem id_next (i : UInt8) : ((i + 1).toNat : Int) = ((i.toNat : Int) + 1) % 256 := by
  rw [UInt8.toNat_add]
  simp
set_option maxHeartbeats 1000000 in
set_option maxRecDepth 100000 in
theorem number_any (g : Nat) (m : Mc) (R : List Value) (T : TypeId) (w : World) (h : Blk w g (mV m ++ R) T) (h0 : 0 ≤ m.tried) (h1 : m.tried ≤ 1000) :
    Calls Tryd.prog 72 #[ptr g] w fun e w' => e = .returned (.tuple #[]) ∧ Blk w' g (mV (numberM m) ++ R) T ∧ Moves (fun k => k = g) w w' := by
  have q5 : w.cell? ⟨g, 5, none⟩ = some (.int .u8 m.id.toNat) := h.at_ 5
  have q6 : w.cell? ⟨g, 6, none⟩ = some (.int .i64 m.tried) := h.at_ 6
  have q2 : w.cell? ⟨g, 2, none⟩ = some (.int .i64 m.wait) := h.at_ 2
  have q7 : w.cell? ⟨g, 7, none⟩ = some (.int .i64 m.timer) := h.at_ 7
  have f5 := h.frozen 5
  have f6 := h.frozen 6
  have f7 := h.frozen 7
  have hS : Hid (Blk (((w.setCell ⟨g, 5, none⟩ (.int .u8 (((m.id.toNat : Int) + 1) % 256))).setCell ⟨g, 6, none⟩ (.int .i64 (m.tried + 1))).setCell ⟨g, 7, none⟩ (.int .i64 m.wait)) g (mV (numberM m) ++ R) T) := by
    rw [← id_next]
    exact ((Blk.set h 5 (.int .u8 (m.id + 1).toNat)).set 6 (.int .i64 (m.tried + 1))).set 7 (.int .i64 m.wait)
  have hM : Hid (Moves (fun k => k = g) w (((w.setCell ⟨g, 5, none⟩ (.int .u8 (((m.id.toNat : Int) + 1) % 256))).setCell ⟨g, 6, none⟩ (.int .i64 (m.tried + 1))).setCell ⟨g, 7, none⟩ (.int .i64 m.wait))) :=
    ((set1_moves w g 5 _).trans (set1_moves _ g 6 _) fun _ _ e => e).trans (set1_moves _ g 7 _) fun _ _ e => e
  clear h
  unfold ptr
  go_enter Tryd.func72, Tryd.ntmps72
  go_wp2
  go_end0
  exact ⟨rfl, hS.out, hM.out⟩
set_option maxHeartbeats 1000000 in
set_option maxRecDepth 100000 in
theorem exhausted_any (g : Nat) (m : Mc) (R : List Value) (T : TypeId) (w : World) (h : Blk w g (mV m ++ R) T) :
    Calls Tryd.prog 81 #[ptr g] w fun e w' => e = .returned (.bool (decide (m.tries ≤ m.tried))) ∧ ∃ k, w' = w.drewN k := by
  have q1 : w.cell? ⟨g, 1, none⟩ = some (.int .i64 m.tries) := h.at_ 1
  have q6 : w.cell? ⟨g, 6, none⟩ = some (.int .i64 m.tried) := h.at_ 6
  clear h
  unfold ptr
  go_enter Tryd.func81, Tryd.ntmps81
  go_wp2
  go_quiet (fail)
  go_wp2
  go_ret
  exact ⟨rfl, _, rfl⟩
/-- What is handed on to be sent: nothing, or one packet. -/
def Sn (w : World) (g : Nat) (v : Value) (l : List Pk) : Prop := (v = .slice none 0 0 ∧ l = []) ∨ ∃ ad c p, v = .slice (some ad) 1 c ∧ l = [p] ∧ Pks w (some ad) [p] ∧ ad.block ≠ g
theorem sn_none (w : World) (g : Nat) : Sn w g (.slice none 0 0) [] := .inl ⟨rfl, rfl⟩
theorem Sn.moves {w w' : World} {g : Nat} {v : Value} {l : List Pk} (h : Sn w g v l) (hm : Moves (fun k => k = g) w w') : Sn w' g v l := by
  rcases h with h | ⟨ad, c, p, h1, h2, h3, h4⟩
  · exact .inl h
  · exact .inr ⟨ad, c, p, h1, h2, h3.moves hm (fun ad' e => by cases e; exact h4), h4⟩
theorem Sn.below {w w' : World} {g : Nat} {v : Value} {l : List Pk} (h : Sn w g v l) (hb : Below w.heap.size w w') : Sn w' g v l := h.moves (Moves.of_below hb)
/-- One packet in a row that is new. -/
theorem sn_new (w : World) (g : Nat) (p : Pk) (t : TypeId) (c : Nat) (hg : g < w.heap.size) : Sn (w.alloc (.cells #[.int .u8 p.c.toNat, .int .u8 p.i.toNat, .string p.d] t)) g (.slice (some ⟨w.heap.size, 0, none⟩) 1 c) [p] :=
  .inr ⟨_, c, p, rfl, rfl, pks_one w p t, by show w.heap.size ≠ g; omega⟩
theorem send_any {g : Nat} {cs : List Value} {T : TypeId} (w : World) (h : Blk w g cs T) {v : Value} {l : List Pk} (hv : Sn w g v l) : Calls Tryd.prog 25 #[v] w (OutQ g cs T (sends l) w) := by
  rcases hv with ⟨rfl, rfl⟩ | ⟨ad, c, p, rfl, rfl, h3, -⟩
  · exact send_none w h
  · exact send_one w h p ad c h3
/-- What a machine that fails answers. -/
def fails (l : List Pk) : Ot := ⟨false, true, bOf [], l⟩
set_option maxHeartbeats 1000000 in
set_option maxRecDepth 100000 in
theorem fail_any (g : Nat) (m : Mc) (R : List Value) (T : TypeId) (w : World) (h : Blk w g (mV m ++ R) T) {v : Value} {l : List Pk} (hv : Sn w g v l) :
    Calls Tryd.prog 82 #[ptr g, v] w (OutQ g (mV { m with st := 3 } ++ R) T (fails l) w) := by
  obtain ⟨V, hV, hs, HP, HB⟩ := start_one h
  have f4 := HP.out.f 4
  have q4 : V.cell? ⟨g, 4, none⟩ = some (.int .u8 m.st) := HP.out.c 4
  have HP2 : Hid (Pt w (V.setCell ⟨g, 4, none⟩ (.int .u8 3)) g w.heap.size (mV { m with st := 3 } ++ R) T) := HP.out.set 4 (.int .u8 3)
  have HC := Lib.hid (send_any _ HP2.out.blk ((hv.below HB.out).moves (set1_moves V g 4 (.int .u8 3))))
  clear h hv hs
  unfold ptr
  go_enter Tryd.func82, Tryd.ntmps82
  go_wp2_with fail
  refine HC.out.mono ?_
  rintro e w1 ⟨A, c, rfl, hr, hx, hm⟩
  have HP3 := Lib.hid ((HP2.out.moves hm hx).alloc (.cells #[.slice A l.length c, .bool false, .bool true, .string (bOf [])] 39))
  have HF := HP2.out.fin (fails l) (n := l.length) (d := false) (f := true) (nm := bOf []) rfl rfl rfl rfl ((Moves.of_below (S := fun _ => False) ((Below.refl _ w1).alloc (Nat.le_refl _) (.cells #[.slice A l.length c, .bool false, .bool true, .string (bOf [])] 39))).row hr (fun _ _ e => e)) HP3.out.blk (hm.alloc _)
  unfold outV outC sends
  simp only []
  generalize hn : l.length = n at *
  clear hr hx hm
  have c0 := HP3.out.o0
  have c1 := HP3.out.o1
  have c2 := HP3.out.o2
  have c3 := HP3.out.o3
  have f0 := HP3.out.of 0
  have f1 := HP3.out.of 1
  have f2 := HP3.out.of 2
  have f3 := HP3.out.of 3
  go_wp2
  (try simp only [Exit.inBlock, Exit.then])
  refine bodyPost_ret (results_out rfl rfl (by exact HF.out.1)) rfl ?_
  exact HF.out.2
end Go.Proofs.YtpfbknbloeilmaaDoor.Ath

/- What is done at each state: the map of a machine's own methods; act; tick. -/
namespace Go.Proofs.YtpfbknbloeilmaaDoor.Ath
open Go.RowKit Go.Proofs.YtpfbknbloeilmaaDoor.Oct Go.Proofs.YtpfbknbloeilmaaDoor.Row Go.Proofs.YtpfbknbloeilmaaDoor.Mem Go.ChangeMaps

/-! ### the map -/
theorem push_set {α : Type} (a : Array α) (x y : α) : (a.push x).setIfInBounds a.size y = a.push y := by
  apply Array.ext_getElem?
  intro i
  rw [Array.getElem?_setIfInBounds, Array.getElem?_push, Array.getElem?_push, Array.size_push]
  by_cases hi : a.size = i
  · subst hi
    rw [if_pos rfl, if_pos (Nat.lt_succ_self _), if_pos rfl]
  · rw [if_neg hi, if_neg (fun e => hi e.symm), if_neg (fun e => hi e.symm)]
/-- A method of the machine in block g, as a value. -/
def fV (g : Nat) (f : FuncId) : Value := .func (.func f) #[ptr g] #[]
/-- What is done at which state. -/
abbrev Ds := List (Nat × FuncId)
def look : Ds → Nat → Option FuncId
  | [], _ => none
  | (k, f) :: L, n => if k = n then some f else look L n
def entsFrom (g : Nat) : Nat → Ds → List MapEntry
  | _, [] => []
  | i, (k, f) :: L => ⟨.int .u8 k, fV g f, i⟩ :: entsFrom g (i + 1) L
def ents (g : Nat) (L : Ds) : Array MapEntry := (entsFrom g 0 L).toArray
def Dm (W : World) (mm g : Nat) (L : Ds) : Prop := W.heap[mm]? = some (.map (ents g L) L.length)
theorem Dm.lt {W : World} {mm g : Nat} {L : Ds} (h : Dm W mm g L) : mm < W.heap.size := (Array.getElem?_eq_some_iff.1 h).1
theorem Dm.callee {W W' : World} {mm g : Nat} {L : Ds} (h : Dm W mm g L) (hb : Below W.heap.size W W') : Dm W' mm g L := (hb.block mm h.lt).trans h
theorem Dm.ne {W : World} {mm g g' : Nat} {L : Ds} {cs : List Value} {T : TypeId} (h : Dm W mm g' L) (hb : Blk W g cs T) : mm ≠ g := by
  rintro rfl
  have h1 : W.heap[mm]? = some _ := hb
  rw [show W.heap[mm]? = _ from h] at h1
  cases h1
theorem Dm.moves {W W' : World} {mm g g' : Nat} {L : Ds} (h : Dm W mm g' L) (hm : Moves (fun k => k = g) W W') (hn : mm ≠ g) : Dm W' mm g' L := (hm.block mm h.lt hn).trans h
theorem find_no (n g : Nat) : ∀ (L : Ds) (i : Nat), look L n = none → Instr.findNow (.int .u8) (.int .u8 n) (entsFrom g i L) i = some none
  | [], _, _ => rfl
  | (k, f) :: L, i, h => by
    unfold look at h
    by_cases hk : k = n
    · rw [if_pos hk] at h; cases h
    · rw [if_neg hk] at h
      unfold entsFrom Instr.findNow
      simp only [Instr.sameNow, if_true]
      rw [show ((n : Int) == (k : Int)) = false from beq_eq_false_iff_ne.2 (by omega)]
      exact find_no n g L (i + 1) h
theorem find_yes (n g : Nat) (f : FuncId) : ∀ (L : Ds) (i : Nat), look L n = some f → ∃ j, Instr.findNow (.int .u8) (.int .u8 n) (entsFrom g i L) i = some (some (j, fV g f))
  | [], _, h => by cases h
  | (k, f') :: L, i, h => by
    unfold look at h
    unfold entsFrom Instr.findNow
    simp only [Instr.sameNow, if_true]
    by_cases hk : k = n
    · subst hk
      rw [if_pos rfl] at h
      cases h
      simp only [beq_self_eq_true]
      exact ⟨i, rfl⟩
    · rw [if_neg hk] at h
      rw [show ((n : Int) == (k : Int)) = false from beq_eq_false_iff_ne.2 (by omega)]
      exact find_yes n g f L (i + 1) h
theorem run_key8 (w : World) (em : Bool) (n : Int) : (Instr.checkKey em 10000 5 (.int .u8 n)).run Tryd.prog w = .ok () w := by
  have h := run_underlying (w := w) Tryd.underlying5
  unfold Instr.checkKey
  simp [h, Result.andThen]
theorem look_yes {g mm n : Nat} {L : Ds} {f : FuncId} {W : World} (h : Dm W mm g L) (hl : look L n = some f) :
    (Instr.lookup 75 (.map (some mm)) (.int .u8 n) true).run Tryd.prog W = .ok (.tuple #[.func (.func f) #[.pointer (some ⟨g, 0, none⟩)] #[], .bool true]) W := by
  have u1 := run_underlying (w := W) Tryd.underlying5
  have u2 := run_underlying (w := W) Tryd.underlying75
  have u3 := run_key8 W (ents g L).isEmpty n
  obtain ⟨j, hj⟩ := find_yes n g f L 0 hl
  have hb : W.heap[mm]? = some (.map (ents g L) L.length) := h
  have hj' : Instr.findNow (.int .u8) (.int .u8 n) (ents g L).toList 0 = some (some (j, fV g f)) := hj
  simp [Instr.lookup, u2, MapKept.run_getObj_map hb, u3, Instr.findKey, u1, hj', Result.andThen, fV, ptr]
theorem look_no {g mm n : Nat} {L : Ds} {W : World} (h : Dm W mm g L) (hl : look L n = none) :
    (Instr.lookup 75 (.map (some mm)) (.int .u8 n) true).run Tryd.prog W = .ok (.tuple #[.nilFunc, .bool false]) W := by
  have u1 := run_underlying (w := W) Tryd.underlying5
  have u2 := run_underlying (w := W) Tryd.underlying75
  have u3 := run_key8 W (ents g L).isEmpty n
  have hj := find_no n g L 0 hl
  have hb : W.heap[mm]? = some (.map (ents g L) L.length) := h
  have hj' : Instr.findNow (.int .u8) (.int .u8 n) (ents g L).toList 0 = some none := hj
  simp [Instr.lookup, u2, MapKept.run_getObj_map hb, u3, Instr.findKey, u1, hj', Result.andThen]
/-- A map that is made, with what is laid into it at once. -/
theorem run_lay8 {w W : World} {m c : Nat} {es : Array MapEntry} (n : Int) (v : Value) (h : W = w.alloc (.map es c)) (hm : m = w.heap.size) (hn : Instr.findNow (.int .u8) (.int .u8 n) es.toList 0 = some none) :
    ∃ W', (Instr.mapUpdate 75 (.map (some m)) (.int .u8 n) v).run Tryd.prog W = .ok () W' ∧ W' = w.alloc (.map (es.push ⟨.int .u8 n, v, c⟩) (c + 1)) := by
  subst h hm
  refine ⟨_, ?_, rfl⟩
  have hb := (MapKept.heap_alloc w (.map es c)).1
  have h1 := run_underlying (w := w.alloc (.map es c)) Tryd.underlying5
  have h2 := run_underlying (w := w.alloc (.map es c)) Tryd.underlying75
  have h3 := run_key8 (w.alloc (.map es c)) false n
  have h4 := MapKept.run_setObj_map (P := Tryd.prog) (.map (es.push ⟨.int .u8 n, v, c⟩) (c + 1)) hb
  have e : { w.alloc (.map es c) with heap := (w.alloc (.map es c)).heap.setIfInBounds w.heap.size (.map (es.push ⟨.int .u8 n, v, c⟩) (c + 1)) } = w.alloc (.map (es.push ⟨.int .u8 n, v, c⟩) (c + 1)) :=
    congrArg (fun h : Array Obj => { w with heap := h }) (push_set w.heap (.map es c) (.map (es.push ⟨.int .u8 n, v, c⟩) (c + 1)))
  rw [e] at h4
  simp [Instr.mapUpdate, h2, MapKept.run_getObj_map hb, h3, Instr.findKey, h1, hn, h4, Result.andThen]
/-- One entry laid; two. -/
theorem lay_one (w : World) (g : Nat) (k : Nat) (f : FuncId) : ∃ W1, (Instr.mapUpdate 75 (.map (some w.heap.size)) (.int .u8 k) (.func (.func f) #[.pointer (some ⟨g, 0, none⟩)] #[])).run Tryd.prog (w.alloc (.map #[] 0)) = .ok () W1 ∧ W1.heap.size = w.heap.size + 1 ∧ Hid (Dm W1 w.heap.size g [(k, f)]) ∧ Hid (Below w.heap.size w W1) := by
  obtain ⟨W1, h1, e1⟩ := run_lay8 (w := w) (W := w.alloc (.map #[] 0)) (m := w.heap.size) (es := #[]) k (fV g f) rfl rfl rfl
  refine ⟨W1, h1, by rw [e1, World.size_alloc], ?_, ?_⟩
  · subst e1; exact (MapKept.heap_alloc w _).1
  · subst e1; exact (Below.refl _ _).alloc (Nat.le_refl _) _
theorem lay_two (w : World) (g : Nat) (k k' : Nat) (f f' : FuncId) (hk : k ≠ k') : ∃ W1 W2, (Instr.mapUpdate 75 (.map (some w.heap.size)) (.int .u8 k) (.func (.func f) #[.pointer (some ⟨g, 0, none⟩)] #[])).run Tryd.prog (w.alloc (.map #[] 0)) = .ok () W1 ∧
    (Instr.mapUpdate 75 (.map (some w.heap.size)) (.int .u8 k') (.func (.func f') #[.pointer (some ⟨g, 0, none⟩)] #[])).run Tryd.prog W1 = .ok () W2 ∧ W2.heap.size = w.heap.size + 1 ∧ Hid (Dm W2 w.heap.size g [(k, f), (k', f')]) ∧ Hid (Below w.heap.size w W2) := by
  obtain ⟨W1, h1, e1⟩ := run_lay8 (w := w) (W := w.alloc (.map #[] 0)) (m := w.heap.size) (es := #[]) k (fV g f) rfl rfl rfl
  obtain ⟨W2, h2, e2⟩ := run_lay8 (w := w) (m := w.heap.size) k' (fV g f') e1 rfl (by
    show Instr.findNow (.int .u8) (.int .u8 (k' : Int)) (entsFrom g 0 [(k, f)]) 0 = some none
    refine find_no k' g [(k, f)] 0 ?_
    unfold look
    rw [if_neg hk]
    rfl)
  refine ⟨W1, W2, h1, h2, by rw [e2, World.size_alloc], ?_, ?_⟩
  · subst e2; exact (MapKept.heap_alloc w _).1
  · subst e2; exact (Below.refl _ _).alloc (Nat.le_refl _) _

/-! ### act, tick -/
/-- What a machine is given: a draw, a packet, a secret, whether it is known. -/
structure In where
  draw : UInt32
  p : Pk
  secret : ByteArray
  known : Bool
def inC (i : In) : List Value := [.int .u32 i.draw.toNat, .int .u8 i.p.c.toNat, .int .u8 i.p.i.toNat, .string i.p.d, .string i.secret, .bool i.known]
def inV (i : In) : Value := .agg (inC i).toArray
def Entered (f : FuncId) : Prop := ∀ args w, (callFunc f args).run Tryd.prog w = .ok (.enter f args) w
set_option maxHeartbeats 1000000 in
set_option maxRecDepth 100000 in
theorem act_no (g mm : Nat) (m : Mc) (R : List Value) (T : TypeId) (L : Ds) (i : In) (w : World) (h : Blk w g (mV m ++ R) T) (hm : Dm w mm g L) (hl : look L m.st = none) :
    Calls Tryd.prog 26 #[ptr g, .map (some mm), inV i] w (OutQ g (mV m ++ R) T no w) := by
  obtain ⟨V, hV, hs, HP, HB, HX⟩ := start_two h (inC i) 77
  unfold inC at hV HX
  have HL : Hid (Dm V mm g L) := hm.callee HB.out
  have i0 := HX.out.at_ 0
  have i1 := HX.out.at_ 1
  have i2 := HX.out.at_ 2
  have i3 := HX.out.at_ 3
  have i4 := HX.out.at_ 4
  have i5 := HX.out.at_ 5
  simp only [List.getElem?_cons_zero, List.getElem?_cons_succ] at i0 i1 i2 i3 i4 i5
  have q4 : V.cell? ⟨g, 4, none⟩ = some (.int .u8 m.st) := HP.out.c 4
  have k1 := look_no HL.out hl
  have HC := Lib.hid (send_none V HP.out.blk)
  have c0 := HP.out.o0
  have c1 := HP.out.o1
  have c2 := HP.out.o2
  have c3 := HP.out.o3
  have f0 := HP.out.of 0
  have f1 := HP.out.of 1
  have f2 := HP.out.of 2
  have f3 := HP.out.of 3
  clear h hm hs HL hl
  unfold ptr inV inC
  go_enter Tryd.func26, Tryd.ntmps26
  go_wp2_with fail
  refine HC.out.mono ?_
  rintro e w1 ⟨A, c, rfl, hr, hx, hm⟩
  have HP1 := Lib.hid (HP.out.moves hm hx)
  have HF := HP.out.fin no (n := 0) (d := false) (f := false) (nm := bOf []) rfl rfl rfl rfl hr hx hm
  unfold outV outC no
  clear hr hx hm c0 c1 c2 c3 f0 f1 f2 f3
  have c0 := HP1.out.o0
  have c1 := HP1.out.o1
  have c2 := HP1.out.o2
  have c3 := HP1.out.o3
  have f0 := HP1.out.of 0
  have f1 := HP1.out.of 1
  have f2 := HP1.out.of 2
  have f3 := HP1.out.of 3
  go_wp2
  (try simp only [Exit.inBlock, Exit.then])
  refine bodyPost_ret (results_out rfl rfl (by exact HF.out.1)) rfl ?_
  exact HF.out.2
set_option maxHeartbeats 1000000 in
set_option maxRecDepth 100000 in
theorem act_yes (g mm : Nat) (m : Mc) (R : List Value) (T : TypeId) (L : Ds) (f : FuncId) (i : In) (o : Ot) (cs' : List Value) (w : World) (h : Blk w g (mV m ++ R) T) (hm : Dm w mm g L) (hl : look L m.st = some f) (hf : Entered f)
    (H : ∀ W, Blk W g (mV m ++ R) T → Moves (fun k => k = g) w W → Calls Tryd.prog f #[ptr g, inV i] W (OutQ g cs' T o W)) :
    Calls Tryd.prog 26 #[ptr g, .map (some mm), inV i] w (OutQ g cs' T o w) := by
  obtain ⟨V, hV, hs, HP, HB, HX⟩ := start_two h (inC i) 77
  unfold inC at hV HX
  have HL : Hid (Dm V mm g L) := hm.callee HB.out
  have i0 := HX.out.at_ 0
  have i1 := HX.out.at_ 1
  have i2 := HX.out.at_ 2
  have i3 := HX.out.at_ 3
  have i4 := HX.out.at_ 4
  have i5 := HX.out.at_ 5
  simp only [List.getElem?_cons_zero, List.getElem?_cons_succ] at i0 i1 i2 i3 i4 i5
  have q4 : V.cell? ⟨g, 4, none⟩ = some (.int .u8 m.st) := HP.out.c 4
  have k1 := look_yes HL.out hl
  have HC := Lib.hid (H V HP.out.blk HP.out.mv)
  have hf' := hf
  unfold Entered at hf'
  unfold ptr inV inC at HC
  have c0 := HP.out.o0
  have c1 := HP.out.o1
  have c2 := HP.out.o2
  have c3 := HP.out.o3
  have f0 := HP.out.of 0
  have f1 := HP.out.of 1
  have f2 := HP.out.of 2
  have f3 := HP.out.of 3
  clear h hm hs HL hl H hf
  unfold ptr inV inC
  go_enter Tryd.func26, Tryd.ntmps26
  go_wp2_with fail
  refine HC.out.mono ?_
  rintro e w1 ⟨A, c, rfl, hr, hx, hm⟩
  have HP1 := Lib.hid (HP.out.moves hm hx)
  have HF := HP.out.fin o rfl rfl rfl rfl hr hx hm
  unfold outV outC
  generalize o.pkts.length = n at *
  clear hr hx hm c0 c1 c2 c3 f0 f1 f2 f3
  have c0 := HP1.out.o0
  have c1 := HP1.out.o1
  have c2 := HP1.out.o2
  have c3 := HP1.out.o3
  have f0 := HP1.out.of 0
  have f1 := HP1.out.of 1
  have f2 := HP1.out.of 2
  have f3 := HP1.out.of 3
  go_wp2
  (try simp only [Exit.inBlock, Exit.then])
  refine bodyPost_ret (results_out rfl rfl (by exact HF.out.1)) rfl ?_
  exact HF.out.2
set_option maxHeartbeats 1000000 in
set_option maxRecDepth 100000 in
theorem tick_off (g mm : Nat) (m : Mc) (R : List Value) (T : TypeId) (L : Ds) (i : In) (w : World) (h : Blk w g (mV m ++ R) T) (hm : Dm w mm g L) (hl : look L m.st = none) :
    Calls Tryd.prog 35 #[ptr g, .map (some mm), inV i] w (OutQ g (mV m ++ R) T no w) := by
  obtain ⟨V, hV, hs, HP, HB, HX⟩ := start_two h (inC i) 77
  unfold inC at hV HX
  have HL : Hid (Dm V mm g L) := hm.callee HB.out
  have i0 := HX.out.at_ 0
  have i1 := HX.out.at_ 1
  have i2 := HX.out.at_ 2
  have i3 := HX.out.at_ 3
  have i4 := HX.out.at_ 4
  have i5 := HX.out.at_ 5
  simp only [List.getElem?_cons_zero, List.getElem?_cons_succ] at i0 i1 i2 i3 i4 i5
  have q4 : V.cell? ⟨g, 4, none⟩ = some (.int .u8 m.st) := HP.out.c 4
  have k1 := look_no HL.out hl
  have HC := Lib.hid (send_none V HP.out.blk)
  have c0 := HP.out.o0
  have c1 := HP.out.o1
  have c2 := HP.out.o2
  have c3 := HP.out.o3
  have f0 := HP.out.of 0
  have f1 := HP.out.of 1
  have f2 := HP.out.of 2
  have f3 := HP.out.of 3
  clear h hm hs HL hl
  unfold ptr inV inC
  go_enter Tryd.func35, Tryd.ntmps35
  go_wp2_with fail
  refine HC.out.mono ?_
  rintro e w1 ⟨A, c, rfl, hr, hx, hm⟩
  have HP1 := Lib.hid (HP.out.moves hm hx)
  have HF := HP.out.fin no (n := 0) (d := false) (f := false) (nm := bOf []) rfl rfl rfl rfl hr hx hm
  unfold outV outC no
  clear hr hx hm c0 c1 c2 c3 f0 f1 f2 f3
  have c0 := HP1.out.o0
  have c1 := HP1.out.o1
  have c2 := HP1.out.o2
  have c3 := HP1.out.o3
  have f0 := HP1.out.of 0
  have f1 := HP1.out.of 1
  have f2 := HP1.out.of 2
  have f3 := HP1.out.of 3
  go_wp2
  (try simp only [Exit.inBlock, Exit.then])
  refine bodyPost_ret (results_out rfl rfl (by exact HF.out.1)) rfl ?_
  exact HF.out.2
set_option maxHeartbeats 1000000 in
set_option maxRecDepth 100000 in
theorem tick_wait (g mm : Nat) (m : Mc) (R : List Value) (T : TypeId) (L : Ds) (f : FuncId) (i : In) (w : World) (h : Blk w g (mV m ++ R) T) (hm : Dm w mm g L) (hl : look L m.st = some f) (ht : 0 < m.timer - 1) (hz : m.timer ≤ 1000000) :
    Calls Tryd.prog 35 #[ptr g, .map (some mm), inV i] w (OutQ g (mV { m with timer := m.timer - 1 } ++ R) T no w) := by
  obtain ⟨V, hV, hs, HP, HB, HX⟩ := start_two h (inC i) 77
  unfold inC at hV HX
  have HL : Hid (Dm V mm g L) := hm.callee HB.out
  have i0 := HX.out.at_ 0
  have i1 := HX.out.at_ 1
  have i2 := HX.out.at_ 2
  have i3 := HX.out.at_ 3
  have i4 := HX.out.at_ 4
  have i5 := HX.out.at_ 5
  simp only [List.getElem?_cons_zero, List.getElem?_cons_succ] at i0 i1 i2 i3 i4 i5
  have q4 : V.cell? ⟨g, 4, none⟩ = some (.int .u8 m.st) := HP.out.c 4
  have k1 := look_yes HL.out hl
  have q7 : V.cell? ⟨g, 7, none⟩ = some (.int .i64 m.timer) := HP.out.c 7
  have g7 := HP.out.f 7
  have HP2 : Hid (Pt w (V.setCell ⟨g, 7, none⟩ (.int .i64 (m.timer - 1))) g (w.heap.size + 1) (mV { m with timer := m.timer - 1 } ++ R) T) := HP.out.set 7 (.int .i64 (m.timer - 1))
  have HC := Lib.hid (send_none _ HP2.out.blk)
  have d1 : decide (0 < m.timer - 1) = true := decide_eq_true ht
  have t1 : 1 ≤ m.timer := by omega
  have t2 : ¬ m.timer ≤ 1 := by omega
  have t3 : 1 < m.timer := by omega
  generalize m.timer = tm at *
  clear h hm hs HL hl ht
  unfold ptr inV inC
  go_enter Tryd.func35, Tryd.ntmps35
  go_wp2_with fail
  refine HC.out.mono ?_
  rintro e w1 ⟨A, c, rfl, hr, hx, hm⟩
  have HP1 := Lib.hid (HP2.out.moves hm hx)
  have HF := HP2.out.fin no (n := 0) (d := false) (f := false) (nm := bOf []) rfl rfl rfl rfl hr hx hm
  unfold outV outC no
  clear hr hx hm
  have c0 := HP1.out.o0
  have c1 := HP1.out.o1
  have c2 := HP1.out.o2
  have c3 := HP1.out.o3
  have f0 := HP1.out.of 0
  have f1 := HP1.out.of 1
  have f2 := HP1.out.of 2
  have f3 := HP1.out.of 3
  go_wp2
  (try simp only [Exit.inBlock, Exit.then])
  refine bodyPost_ret (results_out rfl rfl (by exact HF.out.1)) rfl ?_
  exact HF.out.2
set_option maxHeartbeats 1000000 in
set_option maxRecDepth 100000 in
theorem tick_due (g mm : Nat) (m : Mc) (R : List Value) (T : TypeId) (L : Ds) (f : FuncId) (i : In) (o : Ot) (cs' : List Value) (w : World) (h : Blk w g (mV m ++ R) T) (hm : Dm w mm g L) (hl : look L m.st = some f) (hf : Entered f) (ht : ¬ 0 < m.timer - 1) (hz : -1000000 ≤ m.timer)
    (H : ∀ W, Blk W g (mV { m with timer := m.timer - 1 } ++ R) T → Moves (fun k => k = g) w W → Calls Tryd.prog f #[ptr g, inV i] W (OutQ g cs' T o W)) :
    Calls Tryd.prog 35 #[ptr g, .map (some mm), inV i] w (OutQ g cs' T o w) := by
  obtain ⟨V, hV, hs, HP, HB, HX⟩ := start_two h (inC i) 77
  unfold inC at hV HX
  have HL : Hid (Dm V mm g L) := hm.callee HB.out
  have i0 := HX.out.at_ 0
  have i1 := HX.out.at_ 1
  have i2 := HX.out.at_ 2
  have i3 := HX.out.at_ 3
  have i4 := HX.out.at_ 4
  have i5 := HX.out.at_ 5
  simp only [List.getElem?_cons_zero, List.getElem?_cons_succ] at i0 i1 i2 i3 i4 i5
  have q4 : V.cell? ⟨g, 4, none⟩ = some (.int .u8 m.st) := HP.out.c 4
  have k1 := look_yes HL.out hl
  have q7 : V.cell? ⟨g, 7, none⟩ = some (.int .i64 m.timer) := HP.out.c 7
  have g7 := HP.out.f 7
  have HP2 : Hid (Pt w (V.setCell ⟨g, 7, none⟩ (.int .i64 (m.timer - 1))) g (w.heap.size + 1) (mV { m with timer := m.timer - 1 } ++ R) T) := HP.out.set 7 (.int .i64 (m.timer - 1))
  have HC := Lib.hid (act_yes g mm { m with timer := m.timer - 1 } R T L f i o cs' _ HP2.out.blk (HL.out.moves (set1_moves V g 7 _) (HL.out.ne HP.out.blk)) hl hf (fun W hb hm => H W hb (HP2.out.mv.trans hm fun _ _ e => e)))
  have d1 : decide (0 < m.timer - 1) = false := decide_eq_false ht
  have t1 : m.timer ≤ 1 := by omega
  unfold ptr inV inC at HC
  have j0 : (V.setCell ⟨g, 7, none⟩ (.int .i64 (m.timer - 1))).cell? ⟨w.heap.size, 0, none⟩ = _ := ((set1_moves V g 7 (.int .i64 (m.timer - 1))).cell (p := ⟨w.heap.size, 0, none⟩) HX.out.lt (by have := HP.out.hg; show ¬ w.heap.size = g; omega)).trans i0
  generalize m.timer = tm at *
  clear h hm hs HL hl ht H hf
  have ng : ¬ w.heap.size = g := by have := HP.out.hg; omega
  have ng' : ¬ g = w.heap.size := fun e => ng e.symm
  unfold ptr inV inC
  go_enter Tryd.func35, Tryd.ntmps35
  go_wp2_with fail
  refine HC.out.mono ?_
  rintro e w1 ⟨A, c, rfl, hr, hx, hm⟩
  have HP1 := Lib.hid (HP2.out.moves hm hx)
  have HF := HP2.out.fin o rfl rfl rfl rfl hr hx hm
  unfold outV outC
  generalize o.pkts.length = n at *
  clear hr hx hm
  have c0 := HP1.out.o0
  have c1 := HP1.out.o1
  have c2 := HP1.out.o2
  have c3 := HP1.out.o3
  have f0 := HP1.out.of 0
  have f1 := HP1.out.of 1
  have f2 := HP1.out.of 2
  have f3 := HP1.out.of 3
  go_wp2
  (try simp only [Exit.inBlock, Exit.then])
  refine bodyPost_ret (results_out rfl rfl (by exact HF.out.1)) rfl ?_
  exact HF.out.2
end Go.Proofs.YtpfbknbloeilmaaDoor.Ath
