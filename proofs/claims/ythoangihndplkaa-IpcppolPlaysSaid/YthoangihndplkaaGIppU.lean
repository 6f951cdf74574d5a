/- Put together: IppU, IppQb. -/
import Derived.Test.YthoangihndplkaaIppM
import Derived.Test.YthoangihndplkaaGIppWay
import Derived.Test.YthoangihndplkaaGIpcH
import Derived.Test.YthoangihndplkaaGIpcE

/- The chapter's examples; Judge, told at one input. -/
namespace Go.Proofs.Ythoangihndplkaa.Ipp
open Go.RowKit Go.Proofs.Ythoangihndplkaa.Oct Go.Proofs.Ythoangihndplkaa.Row Go.Proofs.Ythoangihndplkaa.Mem Go.Proofs.Ythoangihndplkaa.Opt Go.Proofs.Ythoangihndplkaa.Ipc

def oA (v : UInt8) : Opt := (3, bOf [0, 0, 0, v])
theorem oA_good (v : UInt8) : good (oA v) = true := good_of rfl (by show (bOf _).size = 4; rw [size_bOf]; rfl)
theorem vs_one (p : Po) (o : Opt) : vs p [o] = [ver p [] o] := rfl
def ec : Conf := ⟨0, 9, 0, 0, false, 3⟩
theorem peer_nine {p : Po} (hc : p.c = ec) : oPeer p = oA 9 := by
  unfold oPeer oA
  rw [hc]
  show ((3 : UInt8), bOf (numS 9 4)) = _
  rw [numS_four]
  rfl
theorem peer_ne {p : Po} (hc : p.c = ec) : p.c.peer ≠ 0 := by rw [hc]; decide
theorem fB_one (v : UInt8) : Opt.fB 3 [oA v] = true := fB_iff.2 ⟨_, List.mem_singleton.2 rfl⟩
theorem one_ver {p : Po} (hc : p.c = ec) (v : UInt8) : ver p [] (oA v) = ⟨oA v, false, oA 9⟩ := by
  rw [ver_clean rfl (ok_peer (peer_ne hc) (oA_good v) rfl), sug_peer (peer_ne hc) rfl, peer_nine hc]
theorem oA_ne : ¬ oA 9 = oA 0 := fun e => by
  have h : ([0, 0, 0, 9] : List UInt8) = [0, 0, 0, 0] := bOf_inj (show bOf [0, 0, 0, 9] = bOf [0, 0, 0, 0] from congrArg (fun z : Opt => z.2) e)
  exact absurd h (by decide)
theorem ex_nak1 {p : Po} (hc : p.c = ec) (hn : p.naks ≤ 2) : jC p [oA 0] = 3 ∧ jA p [oA 0] = [oA 9] ∧ jP p [oA 0] = { p with naks := p.naks + 1 } := by
  have h1 : refs (vs p [oA 0]) = [] := by rw [vs_one, refs_one, one_ver hc]; rfl
  have h2 : sugs p [oA 0] = [oA 9] := by
    unfold sugs
    rw [vs_one, insts_one, one_ver hc, miss_has (fB_one 0)]
    have : poor ⟨oA 0, false, oA 9⟩ = true := by show (!decide (oA 9 = oA 0)) = true; rw [decide_eq_false oA_ne]; rfl
    rw [this]
    rfl
  obtain ⟨a, b, c⟩ := nak_of (way_nak h1 (by rw [h2]; simp) (by rw [hc]; show (p.naks : Int) < 3; omega))
  exact ⟨a, by rw [b, h2], c⟩
theorem ex_nak0 {p : Po} (hc : p.c = ec) (hn : p.naks ≤ 2) : jC p [] = 3 ∧ jA p [] = [oA 9] ∧ jP p [] = { p with naks := p.naks + 1 } := by
  have h2 : sugs p [] = [oA 9] := by
    unfold sugs
    rw [miss_some rfl (peer_ne hc), peer_nine hc]
    rfl
  obtain ⟨a, b, c⟩ := nak_of (way_nak (p := p) (l := []) rfl (by rw [h2]; simp) (by rw [hc]; show (p.naks : Int) < 3; omega))
  exact ⟨a, by rw [b, h2], c⟩
theorem ex_ack {p : Po} (hc : p.c = ec) : jC p [oA 9] = 2 ∧ jA p [oA 9] = [oA 9] ∧ (jP p [oA 9]).peer = ⟨true, 9, false, 0, false, 0⟩ := by
  have h1 : refs (vs p [oA 9]) = [] := by rw [vs_one, refs_one, one_ver hc]; rfl
  have h2 : sugs p [oA 9] = [] := by
    unfold sugs
    rw [vs_one, insts_one, one_ver hc, miss_has (fB_one 9)]
    have : poor ⟨oA 9, false, oA 9⟩ = false := by show (!decide (oA 9 = oA 9)) = false; rw [decide_eq_true rfl]; rfl
    rw [this]
    rfl
  obtain ⟨a, b, c⟩ := ack_of (way_ack h1 h2)
  refine ⟨a, b, ?_⟩
  rw [c]
  show lo (oA 9) = _
  rw [lo_good (oA_good 9)]
  show Ipc.set 3 lz (UInt32.ofNat (val (bOf [0, 0, 0, 9]).toList)) = _
  rw [toList_bOf]
  rfl
set_option maxRecDepth 100000 in
/-- A named result that is an option. -/
theorem opt_end {f : Func} {p : Nat} (hf : f.results = #[.cell p 48]) (tmps : Array Value) {W : World} {g : Nat} (o : Opt) (h : At W g o) (hp : tmps.getD p undef = .pointer (some ⟨g, 0, none⟩)) :
    (results f tmps).run Try.prog W = .ok (.agg #[.int .u8 o.1.toNat, .string o.2]) W := results_cell_row hf tmps W g _ _ _ _ hp h Try.underlying48 rfl (by kernel_rfl)
set_option maxHeartbeats 1000000 in
set_option maxRecDepth 100000 in
theorem addr_any (v : UInt8) (w : World) : Calls Try.prog 19 #[.int .u8 v.toNat] w fun e w' => e = .returned (.agg #[.int .u8 3, .string (bOf [0, 0, 0, v])]) ∧ Below w.heap.size w w' := by
  have H : Hid (bOf [0, 0, 0, v] = strOfNums [0, 0, 0, (v.toNat : Int)]) := by
    show _ = _
    rw [nums_bOf]
    simp
  obtain ⟨W, hW, HW⟩ : ∃ W, w.alloc (.cells #[.int .u8 0, .string ⟨#[]⟩] 48) = W ∧ Hid (At W w.heap.size (0, ⟨#[]⟩) ∧ Below w.heap.size w W) := ⟨_, rfl, at_new w 0 ⟨#[]⟩, (Below.refl w.heap.size w).alloc (Nat.le_refl _) _⟩
  have hcv := conv_new (P := Try.prog) W 80 9 5 5 (by kernel_rfl) (by kernel_rfl) (by kernel_rfl) [0, 0, 0, (v.toNat : Int)] 4
  simp only [List.length_cons, List.length_nil, List.map_cons, List.map_nil] at hcv
  rw [H.out]
  generalize strOfNums [0, 0, 0, (v.toNat : Int)] = s at *
  obtain ⟨V, hV, HV⟩ : ∃ V, W.alloc (.cells #[.int .u8 0, .int .u8 0, .int .u8 0, .int .u8 v.toNat] 5) = V ∧ Hid (At V w.heap.size (0, ⟨#[]⟩) ∧ Below w.heap.size w V) := ⟨_, rfl, HW.out.1.alloc _, HW.out.2.alloc HW.out.2.size _⟩
  have hcv2 : (convert 80 9 (.slice (some ⟨W.heap.size, 0, none⟩) 4 4)).run Try.prog V = .ok (.string s) V := by rw [← hV]; exact hcv
  clear hcv
  have f0 := Blk.frozen HV.out.1 0
  have f1 := Blk.frozen HV.out.1 1
  have c0 := HV.out.1.c0
  have c1 := HV.out.1.c1
  go_enter Try.func19, Try.ntmps19
  go_wp2
  (try simp only [Exit.inBlock, Exit.then])
  refine bodyPost_ret (opt_end rfl _ (3, s) (HV.out.1.set (3, s)) rfl) rfl ?_
  exact ⟨rfl, (HV.out.2.setCell (p := ⟨w.heap.size, 0, none⟩) (Nat.le_refl _) _).setCell (p := ⟨w.heap.size, 1, none⟩) (Nat.le_refl _) _⟩
/-- Judge, told at one input. -/
def JudA (g C n : Nat) (a : List Opt) (q : Po) (w : World) (e : Ending) (w' : World) : Prop := ∃ A c, e = .returned (.tuple #[.int .u8 (C : Nat), .slice A n c]) ∧ Opts w' w'.heap.size A n a ∧ PAt w' g q ∧ Moves (fun k => k = g) w w'
theorem judge_at {g C m : Nat} {p : Po} {l a : List Opt} {A : Option Addr} {n c : Nat} {w : World} (h : PAt w g p) (hl : Opts w w.heap.size A n l) (hA : A = none → c = 0) (hn : n ≤ 1000) (hni : p.naks ≤ 1000) (hC : jC p l = C) (ha : jA p l = a) (hm : a.length = m) :
    Calls Try.prog 6 #[.pointer (some ⟨g, 0, none⟩), .slice A n c] w (JudA g C m a (jP p l) w) := by
  subst hC ha hm
  exact judge_any g p l A n c w h hl hA hn hni
theorem newA (w : World) : Calls Try.prog 16 #[.agg #[Value.int .u32 0, .int .u32 9, .int .u32 0, .int .u32 0, .bool false, .int .i64 3]] w (NewQ (newP ec) w) := new_ok ec w rfl
theorem newN (w : World) : Calls Try.prog 16 #[.agg #[Value.int .u32 0, .int .u32 0, .int .u32 0, .int .u32 0, .bool false, .int .i64 0]] w fun e w' => e = .returned (.tuple #[.pointer none, .int .i64 2]) ∧ Below w.heap.size w w' := new_no ⟨0, 0, 0, 0, false, 0⟩ w rfl
/-- A policy of the call's own. -/
structure Al (w W : World) (g : Nat) (p : Po) : Prop where
  p : PAt W g p
  b : Below w.heap.size w W
  l : w.heap.size ≤ g
theorem Al.callee {w W W' : World} {g : Nat} {p : Po} (h : Al w W g p) (hb : Below W.heap.size W W') : Al w W' g p := ⟨h.p.callee hb, h.b.trans (hb.mono h.b.size), h.l⟩
theorem Al.m {w W W' : World} {g : Nat} {p p' : Po} (h : Al w W g p) (hm : Moves (fun k => k = g) W W') (hp : PAt W' g p') : Al w W' g p' := ⟨hp, h.b.trans (hm.below h.b.size (fun k e => by rw [e]; exact h.l)), h.l⟩
theorem Al.x {w W W' : World} {g : Nat} {p : Po} {A : Option Addr} {n : Nat} {l : List Opt} (h : Al w W g p) (hm : Moves (fun k => k = g) W W') (ho : Opts W W.heap.size A n l) : Opts W' W'.heap.size A n l := (opts_past ho h.p (pv_no _) hm (Nat.le_refl _)).more hm.size
end Go.Proofs.Ythoangihndplkaa.Ipp

/- The document's policy in a block; its May, New, Request, addr, given. -/
set_option linter.unusedSimpArgs false
set_option linter.unusedVariables false
namespace Go.Proofs.Ythoangihndplkaa.Ipp
open Go.RowKit Go.Proofs.Ythoangihndplkaa.Oct Go.Proofs.Ythoangihndplkaa.Row Go.Proofs.Ythoangihndplkaa.Mem Go.Proofs.Ythoangihndplkaa.Opt Go.Proofs.Ythoangihndplkaa.Ipc

/-- The document's policy p lies in block g. -/
def RAt (w : World) (g : Nat) (p : Po) : Prop := Blk w g (dv p) 53
theorem RAt.lt {w : World} {g : Nat} {p : Po} (h : RAt w g p) : g < w.heap.size := Blk.lt h
theorem RAt.c {w : World} {g : Nat} {p : Po} (h : RAt w g p) (i : Nat) : w.cell? ⟨g, i, none⟩ = (dv p)[i]? := Blk.at_ h i
theorem RAt.f {w : World} {g : Nat} {p : Po} (h : RAt w g p) (i : Nat) : w.frozen? ⟨g, i, none⟩ = false := Blk.frozen h i
theorem RAt.moves {S : Nat → Prop} {w w' : World} {g : Nat} {p : Po} (h : RAt w g p) (hm : Moves S w w') (hs : ¬ S g) : RAt w' g p := Blk.moves h hm hs
theorem RAt.callee {w w' : World} {g : Nat} {p : Po} (h : RAt w g p) (hb : Below w.heap.size w w') : RAt w' g p := Blk.callee h hb
theorem RAt.below {w w' : World} {g n : Nat} {p : Po} (h : RAt w g p) (hb : Below n w w') (hg : g < n) : RAt w' g p := Blk.below h hb hg
theorem RAt.alloc {w : World} {g : Nat} {p : Po} (h : RAt w g p) (o : Obj) : RAt (w.alloc o) g p := Blk.alloc h o
theorem RAt.drewN {w : World} {g : Nat} {p : Po} (h : RAt w g p) (k : Nat) : RAt (w.drewN k) g p := h
theorem RAt.wish {w : World} {g : Nat} {p : Po} (h : RAt w g p) : w.cell? ⟨g, 6, none⟩ = some (Value.bool p.w.ha) ∧ w.cell? ⟨g, 7, none⟩ = some (.int .u32 p.w.addr.toNat) ∧ w.cell? ⟨g, 8, none⟩ = some (Value.bool p.w.h1) ∧ w.cell? ⟨g, 9, none⟩ = some (.int .u32 p.w.dns1.toNat) ∧ w.cell? ⟨g, 10, none⟩ = some (Value.bool p.w.h2) ∧ w.cell? ⟨g, 11, none⟩ = some (.int .u32 p.w.dns2.toNat) :=
  ⟨h.c 6, h.c 7, h.c 8, h.c 9, h.c 10, h.c 11⟩
theorem RAt.conf {w : World} {g : Nat} {p : Po} (h : RAt w g p) : w.cell? ⟨g, 0, none⟩ = some (.int .u32 p.c.addr.toNat) ∧ w.cell? ⟨g, 1, none⟩ = some (.int .u32 p.c.peer.toNat) ∧ w.cell? ⟨g, 2, none⟩ = some (.int .u32 p.c.dns1.toNat) ∧ w.cell? ⟨g, 3, none⟩ = some (.int .u32 p.c.dns2.toNat) ∧ w.cell? ⟨g, 5, none⟩ = some (.int .i64 p.c.mn) :=
  ⟨h.c 0, h.c 1, h.c 2, h.c 3, h.c 5⟩
theorem RAt.setNaks {w : World} {g : Nat} {p : Po} (h : RAt w g p) (n : Nat) : RAt (w.setCell ⟨g, 24, none⟩ (.int .i64 n)) g { p with naks := n } := Blk.set h 24 (.int .i64 n)
theorem RAt.setMine {w : World} {g : Nat} {p : Po} (h : RAt w g p) (x : Ipc) : RAt (w.setCells g 12 (lv x)) g { p with mine := x } :=
  (((((Blk.set h 12 (.bool x.ha)).set 13 (.int .u32 x.addr.toNat)).set 14 (.bool x.h1)).set 15 (.int .u32 x.dns1.toNat)).set 16 (.bool x.h2)).set 17 (.int .u32 x.dns2.toNat)
theorem RAt.setPeer {w : World} {g : Nat} {p : Po} (h : RAt w g p) (x : Ipc) : RAt (w.setCells g 18 (lv x)) g { p with peer := x } :=
  (((((Blk.set h 18 (.bool x.ha)).set 19 (.int .u32 x.addr.toNat)).set 20 (.bool x.h1)).set 21 (.int .u32 x.dns1.toNat)).set 22 (.bool x.h2)).set 23 (.int .u32 x.dns2.toNat)
theorem RAt.setHa {w : World} {g : Nat} {p : Po} (h : RAt w g p) (v : Bool) : RAt (w.setCell ⟨g, 6, none⟩ (.bool v)) g { p with w := { p.w with ha := v } } := Blk.set h 6 (.bool v)
theorem RAt.setAddr {w : World} {g : Nat} {p : Po} (h : RAt w g p) (v : UInt32) : RAt (w.setCell ⟨g, 7, none⟩ (.int .u32 v.toNat)) g { p with w := { p.w with addr := v } } := Blk.set h 7 (.int .u32 v.toNat)
theorem RAt.setH1 {w : World} {g : Nat} {p : Po} (h : RAt w g p) (v : Bool) : RAt (w.setCell ⟨g, 8, none⟩ (.bool v)) g { p with w := { p.w with h1 := v } } := Blk.set h 8 (.bool v)
theorem RAt.setDns1 {w : World} {g : Nat} {p : Po} (h : RAt w g p) (v : UInt32) : RAt (w.setCell ⟨g, 9, none⟩ (.int .u32 v.toNat)) g { p with w := { p.w with dns1 := v } } := Blk.set h 9 (.int .u32 v.toNat)
theorem RAt.setH2 {w : World} {g : Nat} {p : Po} (h : RAt w g p) (v : Bool) : RAt (w.setCell ⟨g, 10, none⟩ (.bool v)) g { p with w := { p.w with h2 := v } } := Blk.set h 10 (.bool v)
theorem RAt.setDns2 {w : World} {g : Nat} {p : Po} (h : RAt w g p) (v : UInt32) : RAt (w.setCell ⟨g, 11, none⟩ (.int .u32 v.toNat)) g { p with w := { p.w with dns2 := v } } := Blk.set h 11 (.int .u32 v.toNat)
theorem rat_new (w : World) (p : Po) : RAt (w.alloc (.cells (dv p).toArray 53)) w.heap.size p := blk_new w (dv p) _

set_option maxHeartbeats 1000000 in
set_option maxRecDepth 100000 in
theorem rmayC_any (c : Conf) (w : World) : Calls Try.prog 17 #[.agg #[Value.int .u32 c.addr.toNat, .int .u32 c.peer.toNat, .int .u32 c.dns1.toNat, .int .u32 c.dns2.toNat, .bool c.want, .int .i64 c.mn]] w fun e w' => e = .returned (.bool (mayC c)) ∧ Below w.heap.size w w' := by
  obtain ⟨W, hW, HW⟩ := boxC w c
  obtain ⟨c0, c1, c2, c3, c4, c5⟩ := HW.out.1.all
  have HB := Lib.hid HW.out.2.1
  by_cases hl : 1 ≤ c.mn
  · have n1 := decide_eq_true hl
    have n3 : decide (c.mn ≥ 1) = true := decide_eq_true hl
    by_cases hg : c.mn ≤ 10
    · have n2 := decide_eq_true hg
      have HE : Hid (mayC c = true) := by show (decide (1 ≤ c.mn) && decide (c.mn ≤ 10)) = true; rw [n1, n2]; rfl
      rw [HE.out]
      clear HW HE
      go_enter Try.func17, Try.ntmps17
      go_wp2
      go_ret
      exact ⟨rfl, HB.out⟩
    · have n2 := decide_eq_false hg
      have HE : Hid (mayC c = false) := by show (decide (1 ≤ c.mn) && decide (c.mn ≤ 10)) = false; rw [n1, n2]; rfl
      rw [HE.out]
      clear HW HE
      go_enter Try.func17, Try.ntmps17
      go_wp2
      go_ret
      exact ⟨rfl, HB.out⟩
  · have n1 := decide_eq_false hl
    have n3 : decide (c.mn ≥ 1) = false := decide_eq_false hl
    have HE : Hid (mayC c = false) := by show (decide (1 ≤ c.mn) && decide (c.mn ≤ 10)) = false; rw [n1]; rfl
    rw [HE.out]
    clear HW HE
    go_enter Try.func17, Try.ntmps17
    go_wp2
    go_ret
    exact ⟨rfl, HB.out⟩
/-- What the document's New answers. -/
def RNewQ (p : Po) (w : World) (e : Ending) (w' : World) : Prop := ∃ g, e = .returned (.pointer (some ⟨g, 0, none⟩)) ∧ w.heap.size ≤ g ∧ RAt w' g p ∧ Below w.heap.size w w'
theorem boxR (w W : World) (c : Conf) (h : Below w.heap.size w W) : ∃ V, W.alloc (.cells #[Value.int .u32 c.addr.toNat, .int .u32 c.peer.toNat, .int .u32 c.dns1.toNat, .int .u32 c.dns2.toNat, .bool c.want, .int .i64 c.mn, .bool true, .int .u32 c.addr.toNat, .bool c.want, .int .u32 0, .bool c.want, .int .u32 0, .bool false, .int .u32 0, .bool false, .int .u32 0, .bool false, .int .u32 0, .bool false, .int .u32 0, .bool false, .int .u32 0, .bool false, .int .u32 0, .int .i64 0] 53) = V ∧ Hid (RAt V W.heap.size (newP c) ∧ Below w.heap.size w V) :=
  ⟨_, rfl, rat_new W (newP c), h.alloc h.size _⟩
set_option maxHeartbeats 4000000 in
set_option maxRecDepth 100000 in
theorem rnew_any (c : Conf) (w : World) : Calls Try.prog 18 #[.agg #[Value.int .u32 c.addr.toNat, .int .u32 c.peer.toNat, .int .u32 c.dns1.toNat, .int .u32 c.dns2.toNat, .bool c.want, .int .i64 c.mn]] w (RNewQ (newP c) w) := by
  obtain ⟨W, hW, HW⟩ := boxC w c
  obtain ⟨c0, c1, c2, c3, c4, c5⟩ := HW.out.1.all
  obtain ⟨V, hV, HV⟩ := boxR w W c HW.out.2.1
  have HS := Lib.hid HW.out.2.1.size
  clear HW
  go_enter Try.func18, Try.ntmps18
  go_wp2
  go_ret
  exact ⟨_, rfl, HS.out, HV.out.1, HV.out.2⟩
set_option maxHeartbeats 1000000 in
set_option maxRecDepth 100000 in
theorem rrequest_room (g : Nat) (p : Po) (w : World) (h : RAt w g p) : Calls Try.prog 22 #[.pointer (some ⟨g, 0, none⟩)] w (RPutR p.w w) := by
  obtain ⟨p6, p7, p8, p9, p10, p11⟩ := h.wish
  have HC : Hid (∀ U, Calls Try.prog 43 #[.agg #[Value.bool p.w.ha, .int .u32 p.w.addr.toNat, .bool p.w.h1, .int .u32 p.w.dns1.toNat, .bool p.w.h2, .int .u32 p.w.dns2.toNat]] U (RPutR p.w U)) := fun U => rput_room p.w U
  clear h
  go_enter Try.func22, Try.ntmps22
  go_wp2_with fail
  refine (HC.out _).mono ?_
  rintro e w2 ⟨A, c, rfl, hO, hb2, hr, hA⟩
  have HO := Lib.hid hO
  have HB := Lib.hid hb2
  have HR := Lib.hid (And.intro hr hA)
  clear hO hb2 hr hA
  go_wp2
  go_ret
  exact ⟨A, c, rfl, HO.out, HB.out, HR.out⟩
theorem rrequest_any (g : Nat) (p : Po) (w : World) (h : RAt w g p) : Calls Try.prog 22 #[.pointer (some ⟨g, 0, none⟩)] w (RPutQ p.w w) :=
  (rrequest_room g p w h).mono fun _ _ ⟨A, c, h1, h2, h3, _⟩ => ⟨A, c, h1, h2, h3⟩
/-- The document's option of an address. -/
def oV (t : UInt8) (v : UInt32) : Opt := (t, bOf (numS v.toNat 4))
set_option maxHeartbeats 1000000 in
set_option maxRecDepth 100000 in
theorem raddr_any (t : UInt8) (v : UInt32) (w : World) : Calls Try.prog 63 #[.int .u8 t.toNat, .int .u32 v.toNat] w fun e w' => e = .returned (.agg #[.int .u8 t.toNat, .string (oV t v).2]) ∧ Below w.heap.size w w' := by
  have H : Hid ((oV t v).2 = strOfNums [(v.toNat : Int) / 16777216, (v.toNat : Int) / 65536 % 256, (v.toNat : Int) / 256 % 256, (v.toNat : Int) % 256]) := by
    show bOf (numS v.toNat 4) = _
    have hv := v.toNat_lt
    rw [nums_bOf, numS_four]
    congr 1
    simp only [List.map_cons, List.map_nil]
    congr 1
    · congr 1; omega
  obtain ⟨W, hW, HW⟩ : ∃ W, w.alloc (.cells #[.int .u8 0, .string ⟨#[]⟩] 48) = W ∧ Hid (At W w.heap.size (0, ⟨#[]⟩) ∧ Below w.heap.size w W) := ⟨_, rfl, at_new w 0 ⟨#[]⟩, (Below.refl w.heap.size w).alloc (Nat.le_refl _) _⟩
  have hcv := conv_new (P := Try.prog) W 80 9 5 5 (by kernel_rfl) (by kernel_rfl) (by kernel_rfl) [(v.toNat : Int) / 16777216, (v.toNat : Int) / 65536 % 256, (v.toNat : Int) / 256 % 256, (v.toNat : Int) % 256] 4
  simp only [List.length_cons, List.length_nil, List.map_cons, List.map_nil] at hcv
  rw [H.out]
  generalize strOfNums [(v.toNat : Int) / 16777216, (v.toNat : Int) / 65536 % 256, (v.toNat : Int) / 256 % 256, (v.toNat : Int) % 256] = s at *
  obtain ⟨V, hV, HV⟩ : ∃ V, W.alloc (.cells #[.int .u8 ((v.toNat : Int) / 16777216), .int .u8 ((v.toNat : Int) / 65536 % 256), .int .u8 ((v.toNat : Int) / 256 % 256), .int .u8 ((v.toNat : Int) % 256)] 5) = V ∧ Hid (At V w.heap.size (0, ⟨#[]⟩) ∧ Below w.heap.size w V) := ⟨_, rfl, HW.out.1.alloc _, HW.out.2.alloc HW.out.2.size _⟩
  have hcv2 : (convert 80 9 (.slice (some ⟨W.heap.size, 0, none⟩) 4 4)).run Try.prog V = .ok (.string s) V := by rw [← hV]; exact hcv
  have h1 : (0 : Int) ≤ v.toNat := by omega
  have h3 : (v.toNat : Int) < 4294967296 := by have := v.toNat_lt; omega
  clear hcv
  have f0 := Blk.frozen HV.out.1 0
  have f1 := Blk.frozen HV.out.1 1
  have c0 := HV.out.1.c0
  have c1 := HV.out.1.c1
  go_enter Try.func63, Try.ntmps63
  go_wp2
  (try simp only [Exit.inBlock, Exit.then])
  refine bodyPost_ret (opt_end rfl _ (t, s) (HV.out.1.set (t, s)) rfl) rfl ?_
  exact ⟨rfl, (HV.out.2.setCell (p := ⟨w.heap.size, 0, none⟩) (Nat.le_refl _) _).setCell (p := ⟨w.heap.size, 1, none⟩) (Nat.le_refl _) _⟩
set_option maxHeartbeats 1000000 in
set_option maxRecDepth 100000 in
theorem rgiven_any (g : Nat) (p : Po) (t : UInt8) (w : World) (h : RAt w g p) : Calls Try.prog 73 #[.pointer (some ⟨g, 0, none⟩), .int .u8 t.toNat] w fun e w' => e = .returned (.int .u32 (giv p t).toNat) ∧ w' = w := by
  obtain ⟨c0, c1, c2, c3, c5⟩ := h.conf
  clear h
  by_cases h3 : t = 3
  · have hg : giv p t = p.c.peer := if_pos h3
    have e1 : ((t.toNat : Int) == 3) = true := by rw [h3]; rfl
    rw [hg]
    clear hg h3
    go_enter Try.func73, Try.ntmps73
    go_wp2
    go_ret
    exact ⟨rfl, rfl⟩
  · have e1 : ((t.toNat : Int) == 3) = false := u8_not (u8_isnt (n := 3) (by decide) h3)
    by_cases h1 : t = 129
    · have hg : giv p t = p.c.dns1 := by unfold giv; rw [if_neg h3, if_pos h1]
      have e2 : ((t.toNat : Int) == 129) = true := by rw [h1]; rfl
      rw [hg]
      clear hg h3 h1
      go_enter Try.func73, Try.ntmps73
      go_wp2
      go_ret
      exact ⟨rfl, rfl⟩
    · have e2 : ((t.toNat : Int) == 129) = false := u8_not (u8_isnt (n := 129) (by decide) h1)
      have hg : giv p t = p.c.dns2 := by unfold giv; rw [if_neg h3, if_neg h1]
      rw [hg]
      clear hg h3 h1
      go_enter Try.func73, Try.ntmps73
      go_wp2
      go_ret
      exact ⟨rfl, rfl⟩
end Go.Proofs.Ythoangihndplkaa.Ipp
