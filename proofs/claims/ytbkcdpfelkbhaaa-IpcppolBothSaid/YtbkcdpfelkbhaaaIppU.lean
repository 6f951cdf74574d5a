/- The chapter's examples; Judge, told at one input. -/
import Derived.Test.YtbkcdpfelkbhaaaIppM
import Derived.Test.YtbkcdpfelkbhaaaIppT
import Derived.Test.YtbkcdpfelkbhaaaIpcRw
namespace Go.Proofs.Ytbkcdpfelkbhaaa.Ipp
open Go.RowKit Go.Proofs.Ytbkcdpfelkbhaaa.Oct Go.Proofs.Ytbkcdpfelkbhaaa.Row Go.Proofs.Ytbkcdpfelkbhaaa.Mem Go.Proofs.Ytbkcdpfelkbhaaa.Opt Go.Proofs.Ytbkcdpfelkbhaaa.Ipc

def oA (v : UInt8) : Opt := (3, bOf [0, 0, 0, v])
theorem oA_good (v : UInt8) : good (oA v) = true := good_of rfl (by show (bOf _).size = 4; rw [size_bOf]; rfl)
theorem vs_one (p : Po) (o : Opt) : vs p [o] = [ver p [] o] := rfl
def ec : Conf := ⟨0, 9, 0, 0, false, 3⟩
theorem peer_nine {p : Po} (hc : p.c = ec) : oPeer p = oA 9 := by
  unfold oPeer oA
  rw [hc]
  show ((3 : UInt8), bOf (numS 9 4)) = _
  rw [numS_four]
  rfl
theorem peer_ne {p : Po} (hc : p.c = ec) : p.c.peer ≠ 0 := by rw [hc]; decide
theorem fB_one (v : UInt8) : Opt.fB 3 [oA v] = true := fB_iff.2 ⟨_, List.mem_singleton.2 rfl⟩
theorem one_ver {p : Po} (hc : p.c = ec) (v : UInt8) : ver p [] (oA v) = ⟨oA v, false, oA 9⟩ := by
  rw [ver_clean rfl (ok_peer (peer_ne hc) (oA_good v) rfl), sug_peer (peer_ne hc) rfl, peer_nine hc]
theorem oA_ne : ¬ oA 9 = oA 0 := fun e => by
  have h : ([0, 0, 0, 9] : List UInt8) = [0, 0, 0, 0] := bOf_inj (show bOf [0, 0, 0, 9] = bOf [0, 0, 0, 0] from congrArg (fun z : Opt => z.2) e)
  exact absurd h (by decide)
theorem ex_nak1 {p : Po} (hc : p.c = ec) (hn : p.naks ≤ 2) : jC p [oA 0] = 3 ∧ jA p [oA 0] = [oA 9] ∧ jP p [oA 0] = { p with naks := p.naks + 1 } := by
  have h1 : refs (vs p [oA 0]) = [] := by rw [vs_one, refs_one, one_ver hc]; rfl
  have h2 : sugs p [oA 0] = [oA 9] := by
    unfold sugs
    rw [vs_one, insts_one, one_ver hc, miss_has (fB_one 0)]
    have : poor ⟨oA 0, false, oA 9⟩ = true := by show (!decide (oA 9 = oA 0)) = true; rw [decide_eq_false oA_ne]; rfl
    rw [this]
    rfl
  obtain ⟨a, b, c⟩ := nak_of (way_nak h1 (by rw [h2]; simp) (by rw [hc]; show (p.naks : Int) < 3; omega))
  exact ⟨a, by rw [b, h2], c⟩
theorem ex_nak0 {p : Po} (hc : p.c = ec) (hn : p.naks ≤ 2) : jC p [] = 3 ∧ jA p [] = [oA 9] ∧ jP p [] = { p with naks := p.naks + 1 } := by
  have h2 : sugs p [] = [oA 9] := by
    unfold sugs
    rw [miss_some rfl (peer_ne hc), peer_nine hc]
    rfl
  obtain ⟨a, b, c⟩ := nak_of (way_nak (p := p) (l := []) rfl (by rw [h2]; simp) (by rw [hc]; show (p.naks : Int) < 3; omega))
  exact ⟨a, by rw [b, h2], c⟩
theorem ex_ack {p : Po} (hc : p.c = ec) : jC p [oA 9] = 2 ∧ jA p [oA 9] = [oA 9] ∧ (jP p [oA 9]).peer = ⟨true, 9, false, 0, false, 0⟩ := by
  have h1 : refs (vs p [oA 9]) = [] := by rw [vs_one, refs_one, one_ver hc]; rfl
  have h2 : sugs p [oA 9] = [] := by
    unfold sugs
    rw [vs_one, insts_one, one_ver hc, miss_has (fB_one 9)]
    have : poor ⟨oA 9, false, oA 9⟩ = false := by show (!decide (oA 9 = oA 9)) = false; rw [decide_eq_true rfl]; rfl
    rw [this]
    rfl
  obtain ⟨a, b, c⟩ := ack_of (way_ack h1 h2)
  refine ⟨a, b, ?_⟩
  rw [c]
  show lo (oA 9) = _
  rw [lo_good (oA_good 9)]
  show Ipc.set 3 lz (UInt32.ofNat (val (bOf [0, 0, 0, 9]).toList)) = _
  rw [toList_bOf]
  rfl
/-- A named result that is an option. -/
theorem opt_end {f : Func} {p : Nat} (hf : f.results = #[.cell p 48]) (tmps : Array Value) {W : World} {g : Nat} (o : Opt) (h : At W g o) (hp : tmps.getD p undef = .pointer (some ⟨g, 0, none⟩)) :
    (results f tmps).run Try.prog W = .ok (.agg #[.int .u8 o.1.toNat, .string o.2]) W := results_cell_row hf tmps W g _ _ _ _ hp h Try.underlying48 rfl (by kernel_rfl)
set_option maxHeartbeats 1000000 in
set_option maxRecDepth 100000 in
theorem addr_any (v : UInt8) (w : World) : Calls Try.prog 22 #[.int .u8 v.toNat] w fun e w' => e = .returned (.agg #[.int .u8 3, .string (bOf [0, 0, 0, v])]) ∧ Below w.heap.size w w' := by
  have H : Hid (bOf [0, 0, 0, v] = strOfNums [0, 0, 0, (v.toNat : Int)]) := by
    show _ = _
    rw [nums_bOf]
    simp
  obtain ⟨W, hW, HW⟩ : ∃ W, w.alloc (.cells #[.int .u8 0, .string ⟨#[]⟩] 48) = W ∧ Hid (At W w.heap.size (0, ⟨#[]⟩) ∧ Below w.heap.size w W) := ⟨_, rfl, at_new w 0 ⟨#[]⟩, (Below.refl w.heap.size w).alloc (Nat.le_refl _) _⟩
  have hcv := conv_new (P := Try.prog) W 85 9 5 5 (by kernel_rfl) (by kernel_rfl) (by kernel_rfl) [0, 0, 0, (v.toNat : Int)] 4
  simp only [List.length_cons, List.length_nil, List.map_cons, List.map_nil] at hcv
  rw [H.out]
  generalize strOfNums [0, 0, 0, (v.toNat : Int)] = s at *
  obtain ⟨V, hV, HV⟩ : ∃ V, W.alloc (.cells #[.int .u8 0, .int .u8 0, .int .u8 0, .int .u8 v.toNat] 5) = V ∧ Hid (At V w.heap.size (0, ⟨#[]⟩) ∧ Below w.heap.size w V) := ⟨_, rfl, HW.out.1.alloc _, HW.out.2.alloc HW.out.2.size _⟩
  have hcv2 : (convert 85 9 (.slice (some ⟨W.heap.size, 0, none⟩) 4 4)).run Try.prog V = .ok (.string s) V := by rw [← hV]; exact hcv
  clear hcv
  have f0 := Blk.frozen HV.out.1 0
  have f1 := Blk.frozen HV.out.1 1
  have c0 := HV.out.1.c0
  have c1 := HV.out.1.c1
  go_enter Try.func22, Try.ntmps22
  go_wp2
  (try simp only [Exit.inBlock, Exit.then])
  refine bodyPost_ret (opt_end rfl _ (3, s) (HV.out.1.set (3, s)) rfl) rfl ?_
  exact ⟨rfl, (HV.out.2.setCell (p := ⟨w.heap.size, 0, none⟩) (Nat.le_refl _) _).setCell (p := ⟨w.heap.size, 1, none⟩) (Nat.le_refl _) _⟩
/-- Judge, told at one input. -/
def JudA (g C n : Nat) (a : List Opt) (q : Po) (w : World) (e : Ending) (w' : World) : Prop := ∃ A c, e = .returned (.tuple #[.int .u8 (C : Nat), .slice A n c]) ∧ Opts w' w'.heap.size A n a ∧ PAt w' g q ∧ Moves (fun k => k = g) w w'
theorem judge_at {g C m : Nat} {p : Po} {l a : List Opt} {A : Option Addr} {n c : Nat} {w : World} (h : PAt w g p) (hl : Opts w w.heap.size A n l) (hA : A = none → c = 0) (hn : n ≤ 1000) (hni : p.naks ≤ 1000) (hC : jC p l = C) (ha : jA p l = a) (hm : a.length = m) :
    Calls Try.prog 9 #[.pointer (some ⟨g, 0, none⟩), .slice A n c] w (JudA g C m a (jP p l) w) := by
  subst hC ha hm
  exact judge_any g p l A n c w h hl hA hn hni
theorem newA (w : World) : Calls Try.prog 19 #[.agg #[Value.int .u32 0, .int .u32 9, .int .u32 0, .int .u32 0, .bool false, .int .i64 3]] w (NewQ (newP ec) w) := new_ok ec w rfl
theorem newN (w : World) : Calls Try.prog 19 #[.agg #[Value.int .u32 0, .int .u32 0, .int .u32 0, .int .u32 0, .bool false, .int .i64 0]] w fun e w' => e = .returned (.tuple #[.pointer none, .int .i64 2]) ∧ Below w.heap.size w w' := new_no ⟨0, 0, 0, 0, false, 0⟩ w rfl
/-- A policy of the call's own. -/
structure Al (w W : World) (g : Nat) (p : Po) : Prop where
  p : PAt W g p
  b : Below w.heap.size w W
  l : w.heap.size ≤ g
theorem Al.callee {w W W' : World} {g : Nat} {p : Po} (h : Al w W g p) (hb : Below W.heap.size W W') : Al w W' g p := ⟨h.p.callee hb, h.b.trans (hb.mono h.b.size), h.l⟩
theorem Al.m {w W W' : World} {g : Nat} {p p' : Po} (h : Al w W g p) (hm : Moves (fun k => k = g) W W') (hp : PAt W' g p') : Al w W' g p' := ⟨hp, h.b.trans (hm.below h.b.size (fun k e => by rw [e]; exact h.l)), h.l⟩
theorem Al.x {w W W' : World} {g : Nat} {p : Po} {A : Option Addr} {n : Nat} {l : List Opt} (h : Al w W g p) (hm : Moves (fun k => k = g) W W') (ho : Opts W W.heap.size A n l) : Opts W' W'.heap.size A n l := (opts_past ho h.p (pv_no _) hm (Nat.le_refl _)).more hm.size
end Go.Proofs.Ytbkcdpfelkbhaaa.Ipp
