/- Put together: NegF, NegG, NegO, NegOd. -/
import Derived.Test.YtpppggicihfbgaaGreatGNegA
import Derived.Test.YtpppggicihfbgaaGreatGRow
import Derived.Test.YtpppggicihfbgaaGreatQuietS

/- A packet is received: in no state that hears, of no known code, of a known one. -/
namespace Go.Proofs.YtpppggicihfbgaaGreat.Neg
open Go.RowKit Go.Proofs.YtpppggicihfbgaaGreat.Oct Go.Proofs.YtpppggicihfbgaaGreat.Row Go.Proofs.YtpppggicihfbgaaGreat.Mem Go.Proofs.YtpppggicihfbgaaGreat.Opt Go.Proofs.YtpppggicihfbgaaGreat.Fsm Go.ChangeMaps
open Go.Proofs.YtpppggicihfbgaaGreat.Aut (Au Aut Inv evA evE evX push_set state_any)

/-! ### the map of what packets do -/
theorem find8_no (n : Int) : ∀ (es : List MapEntry) (i : Nat), (∀ e ∈ es, ∃ k, e.key = .int .u8 k ∧ (n == k) = false) → Instr.findNow (.int .u8) (.int .u8 n) es i = some none
  | [], _, _ => rfl
  | e :: es, i, h => by
    obtain ⟨k, hk, hn⟩ := h e (by simp)
    unfold Instr.findNow
    rw [hk]
    simp only [Instr.sameNow, if_true, hn]
    exact find8_no n es (i + 1) fun x hx => h x (by simp [hx])
theorem find8_yes (n : Int) (v : Value) : ∀ (es : List MapEntry) (i : Nat), (∀ e ∈ es, ∃ k, e.key = .int .u8 k) → (∃ e ∈ es, e.key = .int .u8 n) → (∀ e ∈ es, e.key = .int .u8 n → e.val = v) → ∃ j, Instr.findNow (.int .u8) (.int .u8 n) es i = some (some (j, v))
  | [], _, _, h, _ => by obtain ⟨e, he, _⟩ := h; cases he
  | e :: es, i, hk, hx, hv => by
    obtain ⟨k, ek⟩ := hk e (by simp)
    unfold Instr.findNow
    rw [ek]
    simp only [Instr.sameNow, if_true]
    by_cases hn : n = k
    · subst hn
      simp only [beq_self_eq_true]
      exact ⟨i, by rw [hv e (by simp) ek]⟩
    · rw [show (n == k) = false from beq_eq_false_iff_ne.2 hn]
      refine find8_yes n v es (i + 1) (fun x hx => hk x (by simp [hx])) ?_ (fun x hx => hv x (by simp [hx]))
      obtain ⟨y, hy, ey⟩ := hx
      rcases List.mem_cons.1 hy with rfl | hy
      · rw [ek] at ey; cases ey; exact absurd rfl hn
      · exact ⟨y, hy, ey⟩
theorem run_key8 (w : World) (em : Bool) (n : Int) : (Instr.checkKey em 10000 5 (.int .u8 n)).run Tryz.prog w = .ok () w := by
  have h := run_underlying (w := w) Tryz.underlying5
  unfold Instr.checkKey
  simp [h, Result.andThen]
def fE (c : Nat) : FuncId := if c = 1 then 46 else if c = 2 then 47 else if c = 3 then 48 else if c = 4 then 49 else if c = 5 then 50 else if c = 6 then 51 else if c = 7 then 52 else if c = 8 then 53 else 54
set_option maxRecDepth 100000 in
theorem fE_enters {c : Nat} (h1 : 1 ≤ c) (h2 : c ≤ 11) : ∀ args w, (callFunc (fE c) args).run Tryz.prog w = .ok (.enter (fE c) args) w := by
  rcases (show c = 1 ∨ c = 2 ∨ c = 3 ∨ c = 4 ∨ c = 5 ∨ c = 6 ∨ c = 7 ∨ c = 8 ∨ c = 9 ∨ c = 10 ∨ c = 11 by omega) with rfl | rfl | rfl | rfl | rfl | rfl | rfl | rfl | rfl | rfl | rfl
  all_goals exact fun args w => by kernel_rfl
def efV (c : Nat) : Value := .agg #[.func (.func (fE c)) #[] #[]]
def efs (n : Nat) : Array MapEntry := ((List.range n).map fun k => (⟨.int .u8 (k + 1 : Nat), efV (k + 1), k⟩ : MapEntry)).toArray
theorem efs_push (n : Nat) : (efs n).push ⟨.int .u8 (n + 1 : Nat), efV (n + 1), n⟩ = efs (n + 1) := by
  unfold efs
  rw [List.range_succ, List.map_append]
  simp
def Ep (W : World) (m : Nat) : Prop := W.heap[m]? = some (.map (efs 11) 11)
theorem Ep.lt {W : World} {m : Nat} (h : Ep W m) : m < W.heap.size := (Array.getElem?_eq_some_iff.1 h).1
theorem Ep.callee {W W' : World} {m : Nat} (h : Ep W m) (hb : Below W.heap.size W W') : Ep W' m := (hb.block m h.lt).trans h
theorem efs_mem {n : Nat} {e : MapEntry} (h : e ∈ (efs n).toList) : ∃ k : Nat, k < n ∧ e.key = .int .u8 (k + 1 : Nat) ∧ e.val = efV (k + 1) := by
  unfold efs at h
  simp only [List.mem_map, List.mem_range] at h
  obtain ⟨k, hk, rfl⟩ := h
  exact ⟨k, hk, rfl, rfl⟩
theorem run_lay8 {w W : World} {m c : Nat} {es : Array MapEntry} (n : Int) (v : Value) (h : W = w.alloc (.map es c)) (hm : m = w.heap.size) (hn : ∀ e ∈ es.toList, ∃ k, e.key = .int .u8 k ∧ (n == k) = false) :
    ∃ W', (Instr.mapUpdate 113 (.map (some m)) (.int .u8 n) v).run Tryz.prog W = .ok () W' ∧ W' = w.alloc (.map (es.push ⟨.int .u8 n, v, c⟩) (c + 1)) := by
  subst h hm
  refine ⟨_, ?_, rfl⟩
  have hb := (MapKept.heap_alloc w (.map es c)).1
  have h1 := run_underlying (w := w.alloc (.map es c)) Tryz.underlying5
  have h2 := run_underlying (w := w.alloc (.map es c)) Tryz.underlying113
  have h3 := run_key8 (w.alloc (.map es c)) false n
  have h4 := MapKept.run_setObj_map (P := Tryz.prog) (.map (es.push ⟨.int .u8 n, v, c⟩) (c + 1)) hb
  have e : { w.alloc (.map es c) with heap := (w.alloc (.map es c)).heap.setIfInBounds w.heap.size (.map (es.push ⟨.int .u8 n, v, c⟩) (c + 1)) } = w.alloc (.map (es.push ⟨.int .u8 n, v, c⟩) (c + 1)) :=
    congrArg (fun h : Array Obj => { w with heap := h }) (push_set w.heap (.map es c) (.map (es.push ⟨.int .u8 n, v, c⟩) (c + 1)))
  rw [e] at h4
  simp [Instr.mapUpdate, h2, MapKept.run_getObj_map hb, h3, Instr.findKey, h1, find8_no n es.toList 0 hn, h4, Result.andThen]
theorem lay_ef {w W : World} {m : Nat} (n : Nat) (N : Int) (v : Value) (hN : N = (n + 1 : Nat)) (hv : v = efV (n + 1)) (h : W = w.alloc (.map (efs n) n)) (hm : m = w.heap.size) :
    ∃ W', (Instr.mapUpdate 113 (.map (some m)) (.int .u8 N) v).run Tryz.prog W = .ok () W' ∧ W' = w.alloc (.map (efs (n + 1)) (n + 1)) := by
  obtain ⟨W', h1, h2⟩ := run_lay8 N v h hm (fun e he => by
    obtain ⟨k, hk, e1, _⟩ := efs_mem he
    exact ⟨_, e1, beq_eq_false_iff_ne.2 (by omega)⟩)
  refine ⟨W', h1, ?_⟩
  rw [h2, ← efs_push, hN, hv]
set_option maxHeartbeats 4000000 in
set_option maxRecDepth 100000 in
theorem effects_any (w : World) : Calls Tryz.prog 38 #[] w fun e w' => ∃ m, e = .returned (.map (some m)) ∧ Ep w' m ∧ w.heap.size ≤ m ∧ Below w.heap.size w w' := by
  have hmm := @run_makeMap Tryz.prog
  obtain ⟨W1, h1, e1⟩ := lay_ef (w := w) (W := w.alloc (.map #[] 0)) 0 1 (.agg #[.func (.func 46) #[] #[]]) rfl rfl rfl rfl
  obtain ⟨W2, h2, e2⟩ := lay_ef (w := w) 1 2 (.agg #[.func (.func 47) #[] #[]]) rfl rfl e1 rfl
  obtain ⟨W3, h3, e3⟩ := lay_ef (w := w) 2 3 (.agg #[.func (.func 48) #[] #[]]) rfl rfl e2 rfl
  obtain ⟨W4, h4, e4⟩ := lay_ef (w := w) 3 4 (.agg #[.func (.func 49) #[] #[]]) rfl rfl e3 rfl
  obtain ⟨W5, h5, e5⟩ := lay_ef (w := w) 4 5 (.agg #[.func (.func 50) #[] #[]]) rfl rfl e4 rfl
  obtain ⟨W6, h6, e6⟩ := lay_ef (w := w) 5 6 (.agg #[.func (.func 51) #[] #[]]) rfl rfl e5 rfl
  obtain ⟨W7, h7, e7⟩ := lay_ef (w := w) 6 7 (.agg #[.func (.func 52) #[] #[]]) rfl rfl e6 rfl
  obtain ⟨W8, h8, e8⟩ := lay_ef (w := w) 7 8 (.agg #[.func (.func 53) #[] #[]]) rfl rfl e7 rfl
  obtain ⟨W9, h9, e9⟩ := lay_ef (w := w) 8 9 (.agg #[.func (.func 54) #[] #[]]) rfl rfl e8 rfl
  obtain ⟨W10, h10, e10⟩ := lay_ef (w := w) 9 10 (.agg #[.func (.func 54) #[] #[]]) rfl rfl e9 rfl
  obtain ⟨W11, h11, e11⟩ := lay_ef (w := w) 10 11 (.agg #[.func (.func 54) #[] #[]]) rfl rfl e10 rfl
  have H : Hid (Ep W11 w.heap.size ∧ Below w.heap.size w W11) := by
    subst e11
    exact ⟨(MapKept.heap_alloc w _).1, (Below.refl _ _).alloc (Nat.le_refl _) _⟩
  clear e1 e2 e3 e4 e5 e6 e7 e8 e9 e10 e11
  go_enter Tryz.func38, Tryz.ntmps38
  go_wp2
  go_ret
  exact ⟨_, rfl, H.out.1, Nat.le_refl _, H.out.2⟩
theorem look_ef {c : Nat} (h1 : 1 ≤ c) (h2 : c ≤ 11) {W : World} {m : Nat} (h : Ep W m) :
    (Instr.lookup 113 (.map (some m)) (.int .u8 c) false).run Tryz.prog W = .ok (efV c) W := by
  have u1 := run_underlying (w := W) Tryz.underlying5
  have u2 := run_underlying (w := W) Tryz.underlying113
  have u3 := run_key8 W (efs 11).isEmpty c
  obtain ⟨j, hj⟩ := find8_yes c (efV c) (efs 11).toList 0 (fun e he => by obtain ⟨u, _, hk, _⟩ := efs_mem he; exact ⟨_, hk⟩) (by
      refine ⟨⟨.int .u8 (c - 1 + 1 : Nat), efV (c - 1 + 1), c - 1⟩, ?_, by rw [Nat.sub_add_cancel h1]⟩
      unfold efs
      simp only [List.mem_map, List.mem_range]
      exact ⟨c - 1, by omega, rfl⟩) (fun e he hk => by
    obtain ⟨u, _, hk', hv⟩ := efs_mem he
    have e2 := hk.symm.trans hk'
    simp only [Value.int.injEq, true_and] at e2
    rw [hv, show u + 1 = c by omega])
  have hb : W.heap[m]? = some (.map (efs 11) 11) := h
  simp [Instr.lookup, u2, MapKept.run_getObj_map hb, u3, Instr.findKey, u1, hj, Result.andThen]
end Go.Proofs.YtpppggicihfbgaaGreat.Neg

/- How a packet's event is followed; how a packet is received. Written by gen/neg_g.py. -/
namespace Go.Proofs.YtpppggicihfbgaaGreat.Neg
open Go.RowKit Go.Proofs.YtpppggicihfbgaaGreat.Oct Go.Proofs.YtpppggicihfbgaaGreat.Row Go.Proofs.YtpppggicihfbgaaGreat.Mem Go.Proofs.YtpppggicihfbgaaGreat.Opt Go.Proofs.YtpppggicihfbgaaGreat.Fsm Go.Proofs.YtpppggicihfbgaaGreat.Pkt
open Go.Proofs.YtpppggicihfbgaaGreat.Aut (Au Aut Inv evA evE evX state_any)

theorem out_end1 {K : Kd} {g a q : Nat} {s : Sd K} {l : List Pk} {T P : Int} {e : Bool} {w W : World} {b : Nat} {R : Option Addr} {rc : Nat} (hz : Blk W b zoutV 51) (hr : W.ownsRow w.heap.size 56 3 (.slice R l.length rc) l.length (pksV l)) (h : SAt K W g a q s) (hm : Moves (My g a q) w W) (hb : w.heap.size ≤ b) (hg : ∀ k, My g a q k → k < w.heap.size) :
    OutQ K g a q s l T P e w (.returned (.agg #[.slice R l.length rc, .int .u16 T, .int .u16 P, .bool e])) ((((W.setCell ⟨b, 0, none⟩ (.slice R l.length rc)).setCell ⟨b, 1, none⟩ (.int .u16 T)).setCell ⟨b, 2, none⟩ (.int .u16 P)).setCell ⟨b, 3, none⟩ (.bool e)) := by
  have HQ := out_put hz (.slice R l.length rc) T P e
  refine ⟨R, rc, rfl, HQ.2.row hr (fun k hk e => ?_), h.moves HQ.2 (fun k hk e => by have := hg k hk; omega), hm.trans (T := fun k => k = b) HQ.2 (fun j hj e => by omega)⟩
  subst e
  exact cells_not_row (e := 56) hz (by decide) hr hk
theorem out_rest {K : Kd} {g a q : Nat} {s : Sd K} {l : List Pk} {T P : Int} {e : Bool} {w W : World} {b : Nat} {R : Option Addr} {rc : Nat} (hz : Blk W b zoutV 51) (hr : W.ownsRow w.heap.size 56 3 (.slice R l.length rc) l.length (pksV l)) (h : SAt K W g a q s) (hm : Moves (My g a q) w W) (hb : w.heap.size ≤ b) (hg : ∀ k, My g a q k → k < w.heap.size) :
    ((((W.setCell ⟨b, 0, none⟩ (.slice R l.length rc)).setCell ⟨b, 1, none⟩ (.int .u16 T)).setCell ⟨b, 2, none⟩ (.int .u16 P)).setCell ⟨b, 3, none⟩ (.bool e)).ownsRow w.heap.size 56 3 (.slice R l.length rc) l.length (pksV l) ∧
    SAt K ((((W.setCell ⟨b, 0, none⟩ (.slice R l.length rc)).setCell ⟨b, 1, none⟩ (.int .u16 T)).setCell ⟨b, 2, none⟩ (.int .u16 P)).setCell ⟨b, 3, none⟩ (.bool e)) g a q s ∧
    Moves (My g a q) w ((((W.setCell ⟨b, 0, none⟩ (.slice R l.length rc)).setCell ⟨b, 1, none⟩ (.int .u16 T)).setCell ⟨b, 2, none⟩ (.int .u16 P)).setCell ⟨b, 3, none⟩ (.bool e)) := by
  have HQ := out_put hz (.slice R l.length rc) T P e
  refine ⟨HQ.2.row hr (fun k hk e => ?_), h.moves HQ.2 (fun k hk e => by have := hg k hk; omega), hm.trans (T := fun k => k = b) HQ.2 (fun j hj e => by omega)⟩
  subst e
  exact cells_not_row (e := 56) hz (by decide) hr hk
def fol {K : Kd} (i : In) (ev : Nat) (s : Sd K) : Sd K × List Pk := perL i (bitsTo (evA s.x ev) 13) { s with x := evX s.x ev }
set_option maxHeartbeats 4000000 in
set_option maxRecDepth 100000 in
theorem follow_any (K : Kd) (g a q : Nat) (s : Sd K) (ev : Nat) (i : In) (A : Option Addr) (n c : Nat) (w : World) (h : SAt K w g a q s) (hi : Inv s.x) (ha : Ans w g a q A n i.ans) (he : evE s.x ev = 0) (hd : Does K g a q i A n c (evA s.x ev) { s with x := evX s.x ev }) :
    Calls Tryz.prog 37 #[ptr g, .int .u8 ev, .agg #[.int .u32 i.draw, .int .u8 i.p.c.toNat, .int .u8 i.p.i.toNat, .string i.p.d, .int .u8 i.code, .slice A n c]] w (OutQ K g a q (fol i ev s).1 (fol i ev s).2 (told (evA s.x ev)) 0 false w) := by
  obtain ⟨W, hW, HW⟩ := box_io w i A n c
  have HO : Hid (∀ W, SAt K W g a q s → Ans W g a q A n i.ans → Calls Tryz.prog 26 #[.pointer (some ⟨g, 0, none⟩), .int .u8 ev, .agg #[.int .u32 i.draw, .int .u8 i.p.c.toNat, .int .u8 i.p.i.toNat, .string i.p.d, .int .u8 i.code, .slice A n c]] W (OccQ K g a q (fol i ev s).1 (fol i ev s).2 (told (evA s.x ev)) 0 W)) := fun W h1 h2 => occur_ok K g a q s ev i A n c W h1 hi h2 he hd
  have HG := Lib.hid h.old
  have H := Lib.hid (h.callee HW.out.2.2)
  have M : Hid (Moves (My g a q) w W) := Moves.of_below HW.out.2.2
  have HA := Lib.hid (ha.moves M.out)
  have HI := Lib.hid HW.out.1
  have HZ := Lib.hid HW.out.2.1
  have d0 : W.cell? ⟨w.heap.size, 0, none⟩ = some (.int .u32 i.draw) := HI.out.at_ 0
  have d1 : W.cell? ⟨w.heap.size, 1, none⟩ = some (.int .u8 i.p.c.toNat) := HI.out.at_ 1
  have d2 : W.cell? ⟨w.heap.size, 2, none⟩ = some (.int .u8 i.p.i.toNat) := HI.out.at_ 2
  have d3 : W.cell? ⟨w.heap.size, 3, none⟩ = some (.string i.p.d) := HI.out.at_ 3
  have d4 : W.cell? ⟨w.heap.size, 4, none⟩ = some (.int .u8 i.code) := HI.out.at_ 4
  have d5 : W.cell? ⟨w.heap.size, 5, none⟩ = some (.slice A n c) := HI.out.at_ 5
  clear h hi ha he hd HW
  generalize told (evA s.x ev) = T at *
  generalize fol i ev s = r at *
  obtain ⟨s', l⟩ := r
  simp only at HO ⊢
  unfold ptr
  go_enter Tryz.func37, Tryz.ntmps37
  go_wp2_with fail
  refine (HO.out _ H.out HA.out).mono ?_
  rintro e w1 ⟨R, rc, rfl, hr, h1, hm1⟩
  have H1 := Lib.hid h1
  have M1 := Lib.hid (M.out.trans hm1 fun _ _ x => x)
  have HR := Lib.hid (own_mono hr M.out.size)
  have HZ1 := Lib.hid (HZ.out.moves hm1 (fun e => by have := HG.out _ e; omega))
  clear h1 hm1 hr HO d0 d1 d2 d3 d4 d5
  obtain ⟨V, hV⟩ : ∃ V, V = w1.alloc (.cells #[.slice R l.length rc, .int .u16 T, .int .u16 0, .bool false] 51) := ⟨_, rfl⟩
  have hVb : Hid (Below w1.heap.size w1 V) := by rw [hV]; exact (Below.refl w1.heap.size w1).alloc (Nat.le_refl _) _
  have H2 := Lib.hid (H1.out.callee hVb.out)
  have M2 := Lib.hid (M1.out.trans (Moves.of_below (S := My g a q) hVb.out) fun _ _ x => x)
  have HR2 := Lib.hid ((Moves.of_below (S := fun _ => False) hVb.out).row HR.out (fun _ _ => id))
  have HZ2 := Lib.hid (HZ1.out.callee hVb.out)
  subst hV
  obtain ⟨z0, z1, z2, z3, y0, y1, y2, y3⟩ := out_facts HZ2.out
  clear HR HZ1 H1 M1 hVb
  go_wp2
  (try simp only [Exit.inBlock, Exit.then])
  refine bodyPost_ret (results_cell_row rfl _ _ (w.heap.size + 1) _ _ _ _ rfl (out_put HZ2.out (.slice R l.length rc) T 0 false).1 Tryz.underlying51 rfl (by kernel_rfl)) rfl ?_
  exact out_end1 HZ2.out HR2.out H2.out M2.out (Nat.le_succ _) HG.out

/-! ### receive -/
set_option maxHeartbeats 4000000 in
set_option maxRecDepth 100000 in
theorem receive_ruc (K : Kd) (g a q : Nat) (s : Sd K) (i : In) (A : Option Addr) (n c : Nat) (w : World) (h : SAt K w g a q s) (hs : ¬ s.x.s = 0) (hs1 : ¬ s.x.s = 1) (ha : Ans w g a q A n i.ans) (hk : known K.proto i.p.c.toNat = false) (hok : Ok s) (hc : i.code < 256) (he : evE s.x 12 = 0) (h4 : has (evA s.x 12) 4096 = false) :
    Calls Tryz.prog 27 #[ptr g, .agg #[.int .u32 i.draw, .int .u8 i.p.c.toNat, .int .u8 i.p.i.toNat, .string i.p.d, .int .u8 i.code, .slice A n c]] w (OutQ K g a q (fol i 12 s).1 (fol i 12 s).2 (told (evA s.x 12)) 0 false w) := by
  obtain ⟨W, hW, HW⟩ := box_io w i A n c
  have HG := Lib.hid h.old
  have H := Lib.hid (h.callee HW.out.2.2)
  have M : Hid (Moves (My g a q) w W) := Moves.of_below HW.out.2.2
  have HI := Lib.hid HW.out.1
  have HZ := Lib.hid HW.out.2.1
  have HA := Lib.hid (ha.moves M.out)
  have HS := Lib.hid (fun w h => state_any a s.x w h)
  have c0 : W.cell? ⟨g, 0, none⟩ = some (.pointer (some ⟨a, 0, none⟩)) := H.out.c 0
  have HWs : Hid (w.heap.size ≤ W.heap.size) := M.out.size
  have n0 : ((s.x.s : Int) == 0) = false := by rw [beq_eq_false_iff_ne]; omega
  have n1 : ((s.x.s : Int) == 1) = false := by rw [beq_eq_false_iff_ne]; omega
  have HK : Hid (∀ w, Calls Tryz.prog 36 #[.int .u16 K.proto, .int .u8 i.p.c.toNat] w fun e w' => e = .returned (.bool false) ∧ w = w') := fun w => by
    have := known_any K.proto i.p.c.toNat w
    rw [hk] at this
    exact this
  have HD : Hid (SAt K W.drew g a q s) := H.out.moves ((Moves.refl (fun _ => False) W).drew) (fun _ _ x => x)
  have MD : Hid (Moves (My g a q) w W.drew) := M.out.drew
  have HID : Hid (Blk W.drew w.heap.size (inC i A n c) 88) := HI.out.drew
  have HZD : Hid (Blk W.drew (w.heap.size + 1) zoutV 51) := HZ.out.drew
  have HF : Hid (∀ W, SAt K W g a q s → Ans W g a q A n i.ans → Calls Tryz.prog 37 #[.pointer (some ⟨g, 0, none⟩), .int .u8 12, .agg #[.int .u32 i.draw, .int .u8 i.p.c.toNat, .int .u8 i.p.i.toNat, .string i.p.d, .int .u8 i.code, .slice A n c]] W (OutQ K g a q (fol i 12 s).1 (fol i 12 s).2 (told (evA s.x 12)) 0 false W)) := fun W h1 h2 => follow_any K g a q s 12 i A n c W h1 hok.inv h2 he (does_no h4 ⟨evX_inv hok.inv 12, hok.pol, hok.m0, hok.m1, hok.c, hok.l⟩ hc)
  have HA1 : Hid (∀ W', Moves (My g a q) w W' → Ans W' g a q A n i.ans) := fun W' hm => ha.moves hm
  clear hok hc he h4
  generalize told (evA s.x 12) = T at *
  generalize fol i 12 s = r at *
  obtain ⟨s', l⟩ := r
  simp only at HF ⊢
  clear h HW hs hs1 ha hk
  unfold ptr at *
  go_enter Tryz.func27, Tryz.ntmps27
  go_wp2_with fail
  refine (HS.out _ H.out.2.1).mono ?_
  rintro e w1 ⟨rfl, rfl⟩
  go_wp2_with fail
  (try clear hW)
  have HK2 : Hid (∀ q' : HeldW (fun w' => SAt K w' g a q s ∧ Blk w' w.heap.size (inC i A n c) 88 ∧ Blk w' (w.heap.size + 1) zoutV 51 ∧ Moves (My g a q) w w'), Calls Tryz.prog 36 #[.int .u16 K.proto, .int .u8 i.p.c.toNat] q'.w fun e w' => e = .returned (.bool false) ∧ (SAt K w' g a q s ∧ Blk w' w.heap.size (inC i A n c) 88 ∧ Blk w' (w.heap.size + 1) zoutV 51 ∧ Moves (My g a q) w w')) := fun q' => (HK.out q'.w).mono fun e w' hh => ⟨hh.1, hh.2 ▸ q'.h⟩
  have l1 : ∀ q' : HeldW (fun w' => SAt K w' g a q s ∧ Blk w' w.heap.size (inC i A n c) 88 ∧ Blk w' (w.heap.size + 1) zoutV 51 ∧ Moves (My g a q) w w'), q'.w.cell? ⟨g, 1, none⟩ = some (.int .u16 K.proto) := fun q' => q'.h.1.c 1
  have l2 : ∀ q' : HeldW (fun w' => SAt K w' g a q s ∧ Blk w' w.heap.size (inC i A n c) 88 ∧ Blk w' (w.heap.size + 1) zoutV 51 ∧ Moves (My g a q) w w'), q'.w.cell? ⟨w.heap.size, 1, none⟩ = some (.int .u8 i.p.c.toNat) := fun q' => q'.h.2.1.at_ 1
  have hne : Nonempty (HeldW (fun w' => SAt K w' g a q s ∧ Blk w' w.heap.size (inC i A n c) 88 ∧ Blk w' (w.heap.size + 1) zoutV 51 ∧ Moves (My g a q) w w')) := ⟨⟨_, ⟨HD.out, HID.out, HZD.out, MD.out⟩⟩⟩
  refine wp_region_quiet_shut (fun w' => SAt K w' g a q s ∧ Blk w' w.heap.size (inC i A n c) 88 ∧ Blk w' (w.heap.size + 1) zoutV 51 ∧ Moves (My g a q) w w') (by kernel_rfl) (by kernel_rfl) ⟨HD.out, HID.out, HZD.out, MD.out⟩ (fun G hst hnil => ?_)
  repeat (
    refine hst.out _ _ _ (fun K hK => ?_)
    go_simp
    first
      | (refine hK _ ?_; clear hK K)
      | (apply Exists.intro
         refine ⟨fun _ => ?_, hK _ ?_⟩
         (first
           | (go_at_call 36; exact held_of (HK2.out _)))
         clear hK K))
  refine hnil.out _ (fun q_ => ?_)
  clear hnil hst
  obtain ⟨W2, hW2⟩ : ∃ U, U = q_.w := ⟨_, rfl⟩
  have h2 := q_.h
  rw [← hW2] at h2 ⊢
  clear hW2
  clear c0 H M HI HZ HD MD HID HZD HK HK2 l1 l2 hne
  have H2 := Lib.hid h2.1
  have HI2 := Lib.hid h2.2.1
  have HZ2 := Lib.hid h2.2.2.1
  have M2 := Lib.hid h2.2.2.2
  have HA2 := Lib.hid (HA1.out W2 M2.out)
  clear h2
  have d0 : W2.cell? ⟨w.heap.size, 0, none⟩ = some (.int .u32 i.draw) := HI2.out.at_ 0
  have d1 : W2.cell? ⟨w.heap.size, 1, none⟩ = some (.int .u8 i.p.c.toNat) := HI2.out.at_ 1
  have d2 : W2.cell? ⟨w.heap.size, 2, none⟩ = some (.int .u8 i.p.i.toNat) := HI2.out.at_ 2
  have d3 : W2.cell? ⟨w.heap.size, 3, none⟩ = some (.string i.p.d) := HI2.out.at_ 3
  have d4 : W2.cell? ⟨w.heap.size, 4, none⟩ = some (.int .u8 i.code) := HI2.out.at_ 4
  have d5 : W2.cell? ⟨w.heap.size, 5, none⟩ = some (.slice A n c) := HI2.out.at_ 5
  go_wp2_with fail
  refine (HF.out _ H2.out HA2.out).mono ?_
  rintro e w3 ⟨R, rc, rfl, hr, h3, hm3⟩
  have H3 := Lib.hid h3
  have HR := Lib.hid (own_mono hr M2.out.size)
  have HZ3 := Lib.hid (HZ2.out.moves hm3 (fun e => by have := HG.out _ e; omega))
  have M3 := Lib.hid (M2.out.trans hm3 fun _ _ x => x)
  clear h3 hr hm3 d0 d1 d2 d3 d4 d5
  obtain ⟨z0, z1, z2, z3, y0, y1, y2, y3⟩ := out_facts HZ3.out
  go_wp2
  (try simp only [Exit.inBlock, Exit.then])
  refine bodyPost_ret (results_cell_row rfl _ _ (w.heap.size + 1) _ _ _ _ rfl (out_put HZ3.out (.slice R l.length rc) T 0 false).1 Tryz.underlying51 rfl (by kernel_rfl)) rfl ?_
  exact out_end1 HZ3.out HR.out H3.out M3.out (Nat.le_succ _) HG.out
set_option maxHeartbeats 4000000 in
set_option maxRecDepth 100000 in
theorem receive_known (K : Kd) (g a q : Nat) (s : Sd K) (i : In) (A : Option Addr) (n c : Nat) (w : World) (h : SAt K w g a q s) (hs : ¬ s.x.s = 0) (hs1 : ¬ s.x.s = 1) (ha : Ans w g a q A n i.ans) (hk : known K.proto i.p.c.toNat = true) (h1 : 1 ≤ i.p.c.toNat) (h2 : i.p.c.toNat ≤ 11) (s' : Sd K) (l : List Pk) (T P : Int) (bb : Bool)
    (HC0 : ∀ W, SAt K W g a q s → Ans W g a q A n i.ans → Calls Tryz.prog (fE i.p.c.toNat) #[.pointer (some ⟨g, 0, none⟩), .agg #[.int .u32 i.draw, .int .u8 i.p.c.toNat, .int .u8 i.p.i.toNat, .string i.p.d, .int .u8 i.code, .slice A n c]] W (OutQ K g a q s' l T P bb W)) :
    Calls Tryz.prog 27 #[ptr g, .agg #[.int .u32 i.draw, .int .u8 i.p.c.toNat, .int .u8 i.p.i.toNat, .string i.p.d, .int .u8 i.code, .slice A n c]] w (OutQ K g a q s' l T P bb w) := by
  obtain ⟨W, hW, HW⟩ := box_io w i A n c
  have HG := Lib.hid h.old
  have H := Lib.hid (h.callee HW.out.2.2)
  have M : Hid (Moves (My g a q) w W) := Moves.of_below HW.out.2.2
  have HI := Lib.hid HW.out.1
  have HZ := Lib.hid HW.out.2.1
  have HA := Lib.hid (ha.moves M.out)
  have HS := Lib.hid (fun w h => state_any a s.x w h)
  have c0 : W.cell? ⟨g, 0, none⟩ = some (.pointer (some ⟨a, 0, none⟩)) := H.out.c 0
  have HWs : Hid (w.heap.size ≤ W.heap.size) := M.out.size
  have n0 : ((s.x.s : Int) == 0) = false := by rw [beq_eq_false_iff_ne]; omega
  have n1 : ((s.x.s : Int) == 1) = false := by rw [beq_eq_false_iff_ne]; omega
  have HK : Hid (∀ w, Calls Tryz.prog 36 #[.int .u16 K.proto, .int .u8 i.p.c.toNat] w fun e w' => e = .returned (.bool true) ∧ w = w') := fun w => by
    have := known_any K.proto i.p.c.toNat w
    rw [hk] at this
    exact this
  have HD : Hid (SAt K W.drew g a q s) := H.out.moves ((Moves.refl (fun _ => False) W).drew) (fun _ _ x => x)
  have MD : Hid (Moves (My g a q) w W.drew) := M.out.drew
  have HID : Hid (Blk W.drew w.heap.size (inC i A n c) 88) := HI.out.drew
  have HZD : Hid (Blk W.drew (w.heap.size + 1) zoutV 51) := HZ.out.drew
  have HC := Lib.hid HC0
  have HF := fE_enters h1 h2
  have HL : Hid (∀ W m, Ep W m → (Instr.lookup 113 (.map (some m)) (.int .u8 i.p.c.toNat) false).run Tryz.prog W = .ok (.agg #[.func (.func (fE i.p.c.toNat)) #[] #[]]) W) := fun W m h => look_ef h1 h2 h
  have HA1 : Hid (∀ W', Moves (My g a q) w W' → Ans W' g a q A n i.ans) := fun W' hm => ha.moves hm
  clear HC0 h1 h2
  generalize fE i.p.c.toNat = F at *
  have hfd : ∀ W : World, (Instr.field 112 (.agg #[.func (.func F) #[] #[]]) 0).run Tryz.prog W = .ok (.func (.func F) #[] #[]) W := fun W => by kernel_rfl
  clear h HW hs hs1 ha hk
  unfold ptr at *
  go_enter Tryz.func27, Tryz.ntmps27
  go_wp2_with fail
  refine (HS.out _ H.out.2.1).mono ?_
  rintro e w1 ⟨rfl, rfl⟩
  go_wp2_with fail
  (try clear hW)
  have HK2 : Hid (∀ q' : HeldW (fun w' => SAt K w' g a q s ∧ Blk w' w.heap.size (inC i A n c) 88 ∧ Blk w' (w.heap.size + 1) zoutV 51 ∧ Moves (My g a q) w w'), Calls Tryz.prog 36 #[.int .u16 K.proto, .int .u8 i.p.c.toNat] q'.w fun e w' => e = .returned (.bool true) ∧ (SAt K w' g a q s ∧ Blk w' w.heap.size (inC i A n c) 88 ∧ Blk w' (w.heap.size + 1) zoutV 51 ∧ Moves (My g a q) w w')) := fun q' => (HK.out q'.w).mono fun e w' hh => ⟨hh.1, hh.2 ▸ q'.h⟩
  have l1 : ∀ q' : HeldW (fun w' => SAt K w' g a q s ∧ Blk w' w.heap.size (inC i A n c) 88 ∧ Blk w' (w.heap.size + 1) zoutV 51 ∧ Moves (My g a q) w w'), q'.w.cell? ⟨g, 1, none⟩ = some (.int .u16 K.proto) := fun q' => q'.h.1.c 1
  have l2 : ∀ q' : HeldW (fun w' => SAt K w' g a q s ∧ Blk w' w.heap.size (inC i A n c) 88 ∧ Blk w' (w.heap.size + 1) zoutV 51 ∧ Moves (My g a q) w w'), q'.w.cell? ⟨w.heap.size, 1, none⟩ = some (.int .u8 i.p.c.toNat) := fun q' => q'.h.2.1.at_ 1
  have hne : Nonempty (HeldW (fun w' => SAt K w' g a q s ∧ Blk w' w.heap.size (inC i A n c) 88 ∧ Blk w' (w.heap.size + 1) zoutV 51 ∧ Moves (My g a q) w w')) := ⟨⟨_, ⟨HD.out, HID.out, HZD.out, MD.out⟩⟩⟩
  refine wp_region_quiet_shut (fun w' => SAt K w' g a q s ∧ Blk w' w.heap.size (inC i A n c) 88 ∧ Blk w' (w.heap.size + 1) zoutV 51 ∧ Moves (My g a q) w w') (by kernel_rfl) (by kernel_rfl) ⟨HD.out, HID.out, HZD.out, MD.out⟩ (fun G hst hnil => ?_)
  repeat (
    refine hst.out _ _ _ (fun K hK => ?_)
    go_simp
    first
      | (refine hK _ ?_; clear hK K)
      | (apply Exists.intro
         refine ⟨fun _ => ?_, hK _ ?_⟩
         (first
           | (go_at_call 36; exact held_of (HK2.out _)))
         clear hK K))
  refine hnil.out _ (fun q_ => ?_)
  clear hnil hst
  obtain ⟨W2, hW2⟩ : ∃ U, U = q_.w := ⟨_, rfl⟩
  have h2 := q_.h
  rw [← hW2] at h2 ⊢
  clear hW2
  clear c0 H M HI HZ HD MD HID HZD HK HK2 l1 l2 hne
  have H2 := Lib.hid h2.1
  have HI2 := Lib.hid h2.2.1
  have HZ2 := Lib.hid h2.2.2.1
  have M2 := Lib.hid h2.2.2.2
  have HA2 := Lib.hid (HA1.out W2 M2.out)
  clear h2
  have M2d : Hid (Moves (My g a q) w W2.drew) := M2.out.drew
  have H2d : Hid (SAt K W2.drew g a q s) := H2.out.moves ((Moves.refl (fun _ => False) W2).drew) (fun _ _ x => x)
  have HI2d : Hid (Blk W2.drew w.heap.size (inC i A n c) 88) := HI2.out.drew
  have HZ2d : Hid (Blk W2.drew (w.heap.size + 1) zoutV 51) := HZ2.out.drew
  have d0 : W2.drew.cell? ⟨w.heap.size, 0, none⟩ = some (.int .u32 i.draw) := HI2.out.at_ 0
  have d1 : W2.drew.cell? ⟨w.heap.size, 1, none⟩ = some (.int .u8 i.p.c.toNat) := HI2.out.at_ 1
  have d2 : W2.drew.cell? ⟨w.heap.size, 2, none⟩ = some (.int .u8 i.p.i.toNat) := HI2.out.at_ 2
  have d3 : W2.drew.cell? ⟨w.heap.size, 3, none⟩ = some (.string i.p.d) := HI2.out.at_ 3
  have d4 : W2.drew.cell? ⟨w.heap.size, 4, none⟩ = some (.int .u8 i.code) := HI2.out.at_ 4
  have d5 : W2.drew.cell? ⟨w.heap.size, 5, none⟩ = some (.slice A n c) := HI2.out.at_ 5
  go_wp2_with fail
  go_region_with (first
    | (go_at_call 38; refine (effects_any _).mono ?_; rintro e w3 ⟨m, rfl, hm, _, hb3⟩; have H3 := Lib.hid (H2d.out.callee hb3); have HI3 := Lib.hid (HI2d.out.callee hb3); have HZ3 := Lib.hid (HZ2d.out.callee hb3); have M3 := Lib.hid (M2d.out.trans (Moves.of_below (S := My g a q) hb3) fun _ _ x => x); have HA3 := Lib.hid (HA1.out w3 M3.out); have hl := HL.out _ _ hm; clear hm hb3; have k0 : w3.cell? ⟨w.heap.size, 0, none⟩ = some (.int .u32 i.draw) := HI3.out.at_ 0; have k1 : w3.cell? ⟨w.heap.size, 1, none⟩ = some (.int .u8 i.p.c.toNat) := HI3.out.at_ 1; have k2 : w3.cell? ⟨w.heap.size, 2, none⟩ = some (.int .u8 i.p.i.toNat) := HI3.out.at_ 2; have k3 : w3.cell? ⟨w.heap.size, 3, none⟩ = some (.string i.p.d) := HI3.out.at_ 3; have k4 : w3.cell? ⟨w.heap.size, 4, none⟩ = some (.int .u8 i.code) := HI3.out.at_ 4; have k5 : w3.cell? ⟨w.heap.size, 5, none⟩ = some (.slice A n c) := HI3.out.at_ 5)
    | (refine (HC.out _ H3.out HA3.out).mono ?_; rintro e w4 ⟨R, rc, rfl, hr, h4, hm4⟩; have H4 := Lib.hid h4; have HR := Lib.hid (own_mono hr M3.out.size); have HZ4 := Lib.hid (HZ3.out.moves hm4 (fun e => by have := HG.out _ e; omega)); have M4 := Lib.hid (M3.out.trans hm4 fun _ _ x => x); clear h4 hr hm4; obtain ⟨z0, z1, z2, z3, y0, y1, y2, y3⟩ := out_facts HZ4.out)
    | fail)
  all_goals (try go_wp2)
  all_goals (try simp only [Exit.inBlock, Exit.then])
  all_goals (refine bodyPost_ret (results_cell_row rfl _ _ (w.heap.size + 1) _ _ _ _ rfl (out_put HZ4.out (.slice R l.length rc) T P bb).1 Tryz.underlying51 rfl (by kernel_rfl)) rfl ?_)
  all_goals exact out_end1 HZ4.out HR.out H4.out M4.out (Nat.le_succ _) HG.out

/-! ### Packet -/
def PakQ (K : Kd) (g a q : Nat) (s : Sd K) (l : List Pk) (T P : Int) (b : Bool) (w : World) (e : Ending) (w' : World) : Prop :=
  ∃ R rc, e = .returned (.tuple #[.agg #[.slice R l.length rc, .int .u16 T, .int .u16 P, .bool b], .int .i64 0]) ∧ w'.ownsRow w.heap.size 56 3 (.slice R l.length rc) l.length (pksV l) ∧ SAt K w' g a q s ∧ Moves (My g a q) w w'
theorem box_po (w : World) (p : Pk) : ∃ W, (w.alloc (.cells #[.int .u8 p.c.toNat, .int .u8 p.i.toNat, .string p.d] 56)).alloc (.cells #[.slice none 0 0, .int .u16 0, .int .u16 0, .bool false] 51) = W ∧
    Hid (Blk W w.heap.size (pkV p) 56 ∧ Blk W (w.heap.size + 1) zoutV 51 ∧ Below w.heap.size w W) := by
  refine ⟨_, rfl, (blk_new w (pkV p) _).alloc _, ?_, ((Below.refl w.heap.size w).alloc (Nat.le_refl _) _).alloc (by rw [World.size_alloc]; exact Nat.le_succ _) _⟩
  have := blk_new (w.alloc (.cells #[.int .u8 p.c.toNat, .int .u8 p.i.toNat, .string p.d] 56)) zoutV 51
  rw [World.size_alloc] at this
  exact this
set_option maxHeartbeats 4000000 in
set_option maxRecDepth 100000 in
theorem packet_any (K : Kd) (g a q : Nat) (s s' : Sd K) (p : Pk) (d : UInt32) (l : List Pk) (T P : Int) (b : Bool) (w : World) (h : SAt K w g a q s)
    (hc : ∀ W, SAt K W g a q s → Calls Tryz.prog 27 #[.pointer (some ⟨g, 0, none⟩), .agg #[.int .u32 d.toNat, .int .u8 p.c.toNat, .int .u8 p.i.toNat, .string p.d, .int .u8 0, .slice none 0 0]] W (OutQ K g a q s' l T P b W)) :
    Calls Tryz.prog 17 #[ptr g, .agg #[.int .u8 p.c.toNat, .int .u8 p.i.toNat, .string p.d], .int .u32 d.toNat] w (PakQ K g a q s' l T P b w) := by
  obtain ⟨W, hW, HW⟩ := box_po w p
  have HG := Lib.hid h.old
  have H := Lib.hid (h.callee HW.out.2.2)
  have M : Hid (Moves (My g a q) w W) := Moves.of_below HW.out.2.2
  have HC := Lib.hid hc
  have HD : Hid (SAt K W.drew g a q s) := H.out.moves ((Moves.refl (fun _ => False) W).drew) (fun _ _ x => x)
  have MD : Hid (Moves (My g a q) w W.drew) := M.out.drew
  have HZD : Hid (Blk W.drew (w.heap.size + 1) zoutV 51) := HW.out.2.1.drew
  have e0 : W.drew.cell? ⟨w.heap.size, 0, none⟩ = some (.int .u8 p.c.toNat) := HW.out.1.at_ 0
  have e1 : W.drew.cell? ⟨w.heap.size, 1, none⟩ = some (.int .u8 p.i.toNat) := HW.out.1.at_ 1
  have e2 : W.drew.cell? ⟨w.heap.size, 2, none⟩ = some (.string p.d) := HW.out.1.at_ 2
  clear h hc HW H M
  unfold ptr
  go_enter Tryz.func17, Tryz.ntmps17
  go_wp2_with fail
  (try clear hW)
  go_region_with (first
    | (go_at_call 27; refine (HC.out _ HD.out).mono ?_; rintro e w4 ⟨R, rc, rfl, hr, h4, hm4⟩; have H4 := Lib.hid h4; have HR := Lib.hid (own_mono hr MD.out.size); have HZ4 := Lib.hid (HZD.out.moves hm4 (fun e => by have := HG.out _ e; omega)); have M4 := Lib.hid (MD.out.trans hm4 fun _ _ x => x); clear h4 hr hm4; obtain ⟨z0, z1, z2, z3, y0, y1, y2, y3⟩ := out_facts HZ4.out)
    | fail)
  all_goals (try go_wp2)
  all_goals (try simp only [Exit.inBlock, Exit.then])
  all_goals (refine bodyPost_ret (Mem.results_row1 rfl _ _ (w.heap.size + 1) _ _ _ rfl (out_put HZ4.out (.slice R l.length rc) T P b).1 Tryz.underlying51 rfl (by kernel_rfl)) rfl ?_)
  all_goals
    exact ⟨R, rc, rfl, out_rest HZ4.out HR.out H4.out M4.out (Nat.le_succ _) HG.out⟩
end Go.Proofs.YtpppggicihfbgaaGreat.Neg

/- Two sides that are joined, in memory: a wire's block, what is on the way to each. -/
namespace Go.Proofs.YtpppggicihfbgaaGreat.Neg
open Go.RowKit Go.Deep Go.Proofs.YtpppggicihfbgaaGreat.Oct Go.Proofs.YtpppggicihfbgaaGreat.Row Go.Proofs.YtpppggicihfbgaaGreat.Mem Go.Proofs.YtpppggicihfbgaaGreat.Opt Go.Proofs.YtpppggicihfbgaaGreat.Fsm

structure Ad where
  g : Nat
  a : Nat
  q : Nat
def Mn (x : Ad) : Nat → Prop := My x.g x.a x.q
structure Dj (B gw : Nat) (x y : Ad) : Prop where
  xy : ∀ k, Mn x k → ¬ Mn y k
  gx : ¬ Mn x gw
  gy : ¬ Mn y gw
  lo : ∀ k, k = gw ∨ Mn x k ∨ Mn y k → B ≤ k
def Fr (gw : Nat) (x y : Ad) (k : Nat) : Prop := k ≠ gw ∧ ¬ Mn x k ∧ ¬ Mn y k
structure Wi (K : Kd) (w W : World) (gw : Nat) (x y : Ad) (sa sb : Sd K) (vA vB : Value) (tA tB : List Pk) (sn : Nat) : Prop where
  b : ∃ d : UInt32, Blk W gw [ptr x.g, ptr y.g, vA, vB, .int .u32 d.toNat, .int .i64 sn] 64
  rA : W.ownsRow w.heap.size 56 3 vA tA.length (pksV tA)
  rB : W.ownsRow w.heap.size 56 3 vB tB.length (pksV tB)
  ap : ∀ k, vA.ownBlock = some k → vB.ownBlock ≠ some k
  sa : SAt K W x.g x.a x.q sa
  sb : SAt K W y.g y.a y.q sb
  d : Dj w.heap.size gw x y
  nA : ∀ k, vA.ownBlock = some k → Fr gw x y k
  nB : ∀ k, vB.ownBlock = some k → Fr gw x y k
  hb : Below w.heap.size w W
section
variable {K : Kd} {w W W' : World} {gw : Nat} {x y : Ad} {sa sb s' : Sd K} {vA vB : Value} {tA tB : List Pk} {sn : Nat}
theorem Wi.lt (h : Wi K w W gw x y sa sb vA vB tA tB sn) : gw < W.heap.size := by obtain ⟨_, hb⟩ := h.b; exact hb.lt
theorem Wi.callee (h : Wi K w W gw x y sa sb vA vB tA tB sn) (hb : Below W.heap.size W W') : Wi K w W' gw x y sa sb vA vB tA tB sn := by
  obtain ⟨d, hd⟩ := h.b
  have hm : Moves (fun _ => False) W W' := Moves.of_below hb
  exact ⟨⟨d, hd.callee hb⟩, hm.row h.rA (fun _ _ e => e), hm.row h.rB (fun _ _ e => e), h.ap, h.sa.callee hb, h.sb.callee hb, h.d, h.nA, h.nB, h.hb.trans (hb.mono h.hb.size)⟩
theorem Wi.drew (h : Wi K w W gw x y sa sb vA vB tA tB sn) : Wi K w W.drew gw x y sa sb vA vB tA tB sn := h.callee (Below.drewN' (Below.refl _ W) 1)
theorem Wi.drewN (h : Wi K w W gw x y sa sb vA vB tA tB sn) (k : Nat) : Wi K w (W.drewN k) gw x y sa sb vA vB tA tB sn := h.callee (Below.drewN' (Below.refl _ W) k)
theorem Wi.alloc (h : Wi K w W gw x y sa sb vA vB tA tB sn) (o : Obj) : Wi K w (W.alloc o) gw x y sa sb vA vB tA tB sn := h.callee ((Below.refl _ W).alloc (Nat.le_refl _) o)
theorem Wi.turnA (h : Wi K w W gw x y sa sb vA vB tA tB sn) (hs : SAt K W' x.g x.a x.q s') (hm : Moves (Mn x) W W') : Wi K w W' gw x y s' sb vA vB tA tB sn := by
  obtain ⟨d, hd⟩ := h.b
  exact ⟨⟨d, hd.moves hm h.d.gx⟩, hm.row h.rA (fun k hk => (h.nA k hk).2.1), hm.row h.rB (fun k hk => (h.nB k hk).2.1), h.ap, hs, h.sb.moves hm (fun k hk hx => h.d.xy k hx hk), h.d, h.nA, h.nB,
    h.hb.trans (hm.below h.hb.size (fun k hk => h.d.lo k (.inr (.inl hk))))⟩
theorem Wi.turnB (h : Wi K w W gw x y sa sb vA vB tA tB sn) (hs : SAt K W' y.g y.a y.q s') (hm : Moves (Mn y) W W') : Wi K w W' gw x y sa s' vA vB tA tB sn := by
  obtain ⟨d, hd⟩ := h.b
  exact ⟨⟨d, hd.moves hm h.d.gy⟩, hm.row h.rA (fun k hk => (h.nA k hk).2.2), hm.row h.rB (fun k hk => (h.nB k hk).2.2), h.ap, h.sa.moves hm (fun k hk hx => h.d.xy k hk hx), hs, h.d, h.nA, h.nB,
    h.hb.trans (hm.below h.hb.size (fun k hk => h.d.lo k (.inr (.inr hk))))⟩
theorem Wi.own (h : Wi K w W gw x y sa sb vA vB tA tB sn) {vA' vB' : Value} {tA' tB' : List Pk} {sn' : Nat} (hm : Moves (fun k => k = gw) W W') (hb : ∃ d : UInt32, Blk W' gw [ptr x.g, ptr y.g, vA', vB', .int .u32 d.toNat, .int .i64 sn'] 64)
    (rA : W.ownsRow w.heap.size 56 3 vA' tA'.length (pksV tA')) (rB : W.ownsRow w.heap.size 56 3 vB' tB'.length (pksV tB')) (ap : ∀ k, vA'.ownBlock = some k → vB'.ownBlock ≠ some k) (nA : ∀ k, vA'.ownBlock = some k → Fr gw x y k) (nB : ∀ k, vB'.ownBlock = some k → Fr gw x y k) :
    Wi K w W' gw x y sa sb vA' vB' tA' tB' sn' :=
  ⟨hb, hm.row rA (fun k hk => (nA k hk).1), hm.row rB (fun k hk => (nB k hk).1), ap, h.sa.moves hm (fun k hk e => h.d.gx (e ▸ hk)), h.sb.moves hm (fun k hk e => h.d.gy (e ▸ hk)), h.d, nA, nB,
    h.hb.trans (hm.below h.hb.size (fun k hk => h.d.lo k (.inl hk)))⟩
theorem Wi.setDraw (h : Wi K w W gw x y sa sb vA vB tA tB sn) (d : UInt32) : Wi K w (W.setCell ⟨gw, 4, none⟩ (.int .u32 d.toNat)) gw x y sa sb vA vB tA tB sn := by
  obtain ⟨d0, hd⟩ := h.b
  exact h.own (set1_moves W gw 4 _) ⟨d, hd.set 4 (.int .u32 d.toNat)⟩ h.rA h.rB h.ap h.nA h.nB
theorem Wi.setSent (h : Wi K w W gw x y sa sb vA vB tA tB sn) (n : Nat) : Wi K w (W.setCell ⟨gw, 5, none⟩ (.int .i64 n)) gw x y sa sb vA vB tA tB n := by
  obtain ⟨d0, hd⟩ := h.b
  exact h.own (set1_moves W gw 5 _) ⟨d0, hd.set 5 (.int .i64 n)⟩ h.rA h.rB h.ap h.nA h.nB
theorem fresh_fr (h : Wi K w W gw x y sa sb vA vB tA tB sn) : Fr gw x y W.heap.size :=
  ⟨by have := h.lt; omega, fun e => by have := h.sa.old _ e; omega, fun e => by have := h.sb.old _ e; omega⟩
theorem Wi.grown {v : Value} {tX : List Pk} (h : Wi K w W gw x y sa sb vA vB tA tB sn) (hv : W.ownsRow w.heap.size 56 3 v tX.length (pksV tX)) (nv : ∀ k, v.ownBlock = some k → Fr gw x y k) (hg : W.grownBy W' v.ownBlock) :
    (∃ d : UInt32, Blk W' gw [ptr x.g, ptr y.g, vA, vB, .int .u32 d.toNat, .int .i64 sn] 64) ∧ SAt K W' x.g x.a x.q sa ∧ SAt K W' y.g y.a y.q sb ∧ Below w.heap.size w W' ∧ Moves (fun k => v.ownBlock = some k) W W' := by
  obtain ⟨d, hd⟩ := h.b
  have hm : Moves (fun k => v.ownBlock = some k) W W' := Moves.of_grown hg (fun k e _ => e)
  exact ⟨⟨d, hd.moves hm (fun e => (nv _ e).1 rfl)⟩, h.sa.moves hm (fun k hk e => (nv k e).2.1 hk), h.sb.moves hm (fun k hk e => (nv k e).2.2 hk), h.hb.trans (hm.below h.hb.size (fun k hk => (hv.lt k hk).1)), hm⟩
theorem Wi.growB (h : Wi K w W gw x y sa sb vA vB tA tB sn) {v' : Value} {l : List Pk} (hg : W.grownBy W' vB.ownBlock) (hr : W'.ownsRow w.heap.size 56 3 v' (tB.length + l.length) (pksV (tB ++ l))) (hat : v'.ownBlock = vB.ownBlock ∨ v'.ownBlock = some W.heap.size) :
    Wi K w (W'.setCell ⟨gw, 3, none⟩ v') gw x y sa sb vA v' tA (tB ++ l) sn ∧ (∃ d : UInt32, Blk W' gw [ptr x.g, ptr y.g, vA, vB, .int .u32 d.toNat, .int .i64 sn] 64) := by
  obtain ⟨⟨d, hd⟩, h1, h2, h3, hm⟩ := h.grown h.rB h.nB hg
  have rA := hm.row h.rA (fun k hk e => h.ap k hk e)
  have ap' : ∀ k, vA.ownBlock = some k → v'.ownBlock ≠ some k := fun k hk e => by
    rcases hat with e' | e'
    · exact h.ap k hk (e' ▸ e)
    · rw [e'] at e
      cases e
      have := (h.rA.lt _ hk).2
      omega
  have nB' : ∀ k, v'.ownBlock = some k → Fr gw x y k := fun k e => by
    rcases hat with e' | e'
    · exact h.nB k (e' ▸ e)
    · rw [e'] at e
      cases e
      exact fresh_fr h
  have hW : Wi K w W' gw x y sa sb vA v' tA (tB ++ l) sn → True := fun _ => trivial
  have hs : Moves (fun k => k = gw) W' (W'.setCell ⟨gw, 3, none⟩ v') := set1_moves W' gw 3 v'
  have hr' : W'.ownsRow w.heap.size 56 3 v' (tB ++ l).length (pksV (tB ++ l)) := by rw [List.length_append]; exact hr
  exact ⟨⟨⟨d, hd.set 3 v'⟩, hs.row rA (fun k hk => (h.nA k hk).1), hs.row hr' (fun k hk => (nB' k hk).1), ap', h1.moves hs (fun k hk e => h.d.gx (e ▸ hk)), h2.moves hs (fun k hk e => h.d.gy (e ▸ hk)), h.d, h.nA, nB', h3.trans (hs.below h3.size (fun k hk => h.d.lo k (.inl hk)))⟩, d, hd⟩
theorem Wi.growA (h : Wi K w W gw x y sa sb vA vB tA tB sn) {v' : Value} {l : List Pk} (hg : W.grownBy W' vA.ownBlock) (hr : W'.ownsRow w.heap.size 56 3 v' (tA.length + l.length) (pksV (tA ++ l))) (hat : v'.ownBlock = vA.ownBlock ∨ v'.ownBlock = some W.heap.size) :
    Wi K w (W'.setCell ⟨gw, 2, none⟩ v') gw x y sa sb v' vB (tA ++ l) tB sn ∧ (∃ d : UInt32, Blk W' gw [ptr x.g, ptr y.g, vA, vB, .int .u32 d.toNat, .int .i64 sn] 64) := by
  obtain ⟨⟨d, hd⟩, h1, h2, h3, hm⟩ := h.grown h.rA h.nA hg
  have rB := hm.row h.rB (fun k hk e => h.ap k e hk)
  have ap' : ∀ k, v'.ownBlock = some k → vB.ownBlock ≠ some k := fun k e hk => by
    rcases hat with e' | e'
    · exact h.ap k (e' ▸ e) hk
    · rw [e'] at e
      cases e
      have := (h.rB.lt _ hk).2
      omega
  have nA' : ∀ k, v'.ownBlock = some k → Fr gw x y k := fun k e => by
    rcases hat with e' | e'
    · exact h.nA k (e' ▸ e)
    · rw [e'] at e
      cases e
      exact fresh_fr h
  have hs : Moves (fun k => k = gw) W' (W'.setCell ⟨gw, 2, none⟩ v') := set1_moves W' gw 2 v'
  have hr' : W'.ownsRow w.heap.size 56 3 v' (tA ++ l).length (pksV (tA ++ l)) := by rw [List.length_append]; exact hr
  exact ⟨⟨⟨d, hd.set 2 v'⟩, hs.row hr' (fun k hk => (nA' k hk).1), hs.row rB (fun k hk => (h.nB k hk).1), ap', h1.moves hs (fun k hk e => h.d.gx (e ▸ hk)), h2.moves hs (fun k hk e => h.d.gy (e ▸ hk)), h.d, nA', h.nB, h3.trans (hs.below h3.size (fun k hk => h.d.lo k (.inl hk)))⟩, d, hd⟩
theorem Wi.newA (h : Wi K w W gw x y sa sb vA vB tA tB sn) {v' : Value} {l : List Pk} (hg : W.grownBy W' none) (hr : W'.ownsRow w.heap.size 56 3 v' l.length (pksV l)) (hat : v'.ownBlock = none ∨ v'.ownBlock = some W.heap.size) :
    Wi K w (W'.setCell ⟨gw, 2, none⟩ v') gw x y sa sb v' vB l tB sn ∧ Wi K w W' gw x y sa sb vA vB tA tB sn := by
  have hb : Below W.heap.size W W' := ⟨hg.os, hg.tape, hg.output, hg.size, fun k hk => hg.block k hk (fun e => by cases e)⟩
  have h' := h.callee hb
  obtain ⟨d, hd⟩ := h'.b
  refine ⟨h'.own (set1_moves W' gw 2 v') ⟨d, hd.set 2 v'⟩ hr h'.rB (fun k e hk => ?_) (fun k e => ?_) h.nB, h'⟩
  · rcases hat with e' | e'
    · rw [e'] at e; cases e
    · rw [e'] at e
      cases e
      have := (h.rB.lt _ hk).2
      omega
  · rcases hat with e' | e'
    · rw [e'] at e; cases e
    · rw [e'] at e
      cases e
      exact fresh_fr h
theorem Wi.newB (h : Wi K w W gw x y sa sb vA vB tA tB sn) {v' : Value} {l : List Pk} (hg : W.grownBy W' none) (hr : W'.ownsRow w.heap.size 56 3 v' l.length (pksV l)) (hat : v'.ownBlock = none ∨ v'.ownBlock = some W.heap.size) :
    Wi K w (W'.setCell ⟨gw, 3, none⟩ v') gw x y sa sb vA v' tA l sn ∧ Wi K w W' gw x y sa sb vA vB tA tB sn := by
  have hb : Below W.heap.size W W' := ⟨hg.os, hg.tape, hg.output, hg.size, fun k hk => hg.block k hk (fun e => by cases e)⟩
  have h' := h.callee hb
  obtain ⟨d, hd⟩ := h'.b
  refine ⟨h'.own (set1_moves W' gw 3 v') ⟨d, hd.set 3 v'⟩ h'.rA hr (fun k hk e => ?_) h.nA (fun k e => ?_), h'⟩
  · rcases hat with e' | e'
    · rw [e'] at e; cases e
    · rw [e'] at e
      cases e
      have := (h.rA.lt _ hk).2
      omega
  · rcases hat with e' | e'
    · rw [e'] at e; cases e
    · rw [e'] at e
      cases e
      exact fresh_fr h
theorem Wi.fresh (h : Wi K w W gw x y sa sb vA vB tA tB sn) {b : Nat} (hm : Moves (fun k => k = b) W W') (hb : (∀ k, vA.ownBlock = some k → k ≠ b) ∧ (∀ k, vB.ownBlock = some k → k ≠ b) ∧ ¬ Mn x b ∧ ¬ Mn y b ∧ b ≠ gw ∧ w.heap.size ≤ b) : Wi K w W' gw x y sa sb vA vB tA tB sn := by
  obtain ⟨d, hd⟩ := h.b
  obtain ⟨h1, h2, h3, h4, h5, h6⟩ := hb
  exact ⟨⟨d, hd.moves hm (fun e => h5 e.symm)⟩, hm.row h.rA (fun k hk e => h1 k hk e), hm.row h.rB (fun k hk e => h2 k hk e), h.ap, h.sa.moves hm (fun k hk e => h3 (e ▸ hk)), h.sb.moves hm (fun k hk e => h4 (e ▸ hk)), h.d, h.nA, h.nB,
    h.hb.trans (hm.below h.hb.size (fun k hk => by rw [hk]; exact h6))⟩
theorem Wi.frs (h : Wi K w W gw x y sa sb vA vB tA tB sn) : (∀ k, vA.ownBlock = some k → k ≠ W.heap.size) ∧ (∀ k, vB.ownBlock = some k → k ≠ W.heap.size) ∧ ¬ Mn x W.heap.size ∧ ¬ Mn y W.heap.size ∧ W.heap.size ≠ gw ∧ w.heap.size ≤ W.heap.size := by
  have hf := fresh_fr h
  exact ⟨fun k hk e => by have := (h.rA.lt k hk).2; omega, fun k hk e => by have := (h.rB.lt k hk).2; omega, hf.2.1, hf.2.2, hf.1, h.hb.size⟩
theorem own_none {w : World} {base n c : Nat} {e : TypeId} {size : Nat} {R : Option Addr} {xs : List Value} (h : w.ownsRow base e size (.slice R n c) n xs) : R = none → c = 0 := by
  rintro rfl
  rcases h.2 with ⟨e1, _⟩ | ⟨g, cap, cur, e1, _⟩
  · cases e1; rfl
  · cases e1
theorem Wi.cells (h : Wi K w W gw x y sa sb vA vB tA tB sn) : W.cell? ⟨gw, 0, none⟩ = some (ptr x.g) ∧ W.cell? ⟨gw, 1, none⟩ = some (ptr y.g) ∧ W.cell? ⟨gw, 2, none⟩ = some vA ∧ W.cell? ⟨gw, 3, none⟩ = some vB ∧ W.cell? ⟨gw, 5, none⟩ = some (.int .i64 sn) ∧
    W.frozen? ⟨gw, 2, none⟩ = false ∧ W.frozen? ⟨gw, 3, none⟩ = false ∧ W.frozen? ⟨gw, 5, none⟩ = false := by
  obtain ⟨d, hd⟩ := h.b
  exact ⟨hd.at_ 0, hd.at_ 1, hd.at_ 2, hd.at_ 3, hd.at_ 5, hd.frozen 2, hd.frozen 3, hd.frozen 5⟩
end

theorem append_pks_at {P : Program} {w : World} {ops : Array Oper} {rest : List Oper} {o : Oper} {a : Act} {Q : Exit → Act → World → Prop} (hgd : o.guard = none) (s x : Operand) (t : TypeId)
    (ho : o.op = .call { callee := .builtin .append, args := #[s, x], argTypes := #[t, t] })
    (base : Nat) (e : TypeId) (i : TypeInfo) (z : Value) (bytes : Nat) (ht : P.underlying t = some (.slice e)) (hi : P.info? e = some i) (hz : i.zero = some z) (hsize : i.size = 3) (hby : i.bytes = bytes) (hzs : z.cells.size = 3)
    (v : Value) (n : Nat) (k : List Pk) (hs : a.eval s = v) (hown : w.ownsRow base e 3 v n (pksV k)) (A : Option Addr) (m c : Nat) (l : List Pk) (hm : l.length = m) (hA : A = none → c = 0) (hx : a.eval x = .slice A m c) (hl : Pks w A l)
    (h63 : n + m ≤ maxLen) (hbytes : (n + m) * bytes ≤ 140737488355328) (hbase : base ≤ w.heap.size)
    (h : ∀ v' w', w'.ownsRow base e 3 v' (n + m) (pksV (k ++ l)) → w.grownBy w' v.ownBlock → (v'.ownBlock = v.ownBlock ∨ v'.ownBlock = some w.heap.size) → wpList P ops Q rest (a.put o.dst v') w') : wpList P ops Q (o :: rest) a w := by
  cases A with
  | none =>
    have hc := hA rfl
    subst hc
    have hm0 : m = 0 := by
      rcases Nat.eq_zero_or_pos m with h0 | h0
      · exact h0
      · obtain ⟨ad, e', _⟩ := hl (by omega)
        cases e'
    subst hm0
    have hnil : l = [] := List.eq_nil_of_length_eq_zero hm
    subst hnil
    refine wpList_append_own_none hgd s x t ho base e i 3 ht hi v n (pksV k) hs hown hx (h v w ?_ ?_ (.inl rfl))
    · rw [List.append_nil]; exact hown
    · exact ⟨rfl, rfl, rfl, Nat.le_refl _, fun _ _ _ => rfl⟩
  | some ad =>
    refine wpList_append_own_at w hgd s x t ho base e i z 3 bytes ht hi hz hsize hby hzs (by decide) v n (pksV k) hs hown ad m c (pksV l) hx (by rw [pksV_length, hm]) (pks_cells hl) (pksV_ones l) h63 hbytes hbase (fun v' w' h1 h2 _ h4 => h v' w' (by rw [pksV_append]; exact h1) h2 h4)
theorem step_pks {P : Program} (w : World) {ops : Array Oper} {o : Oper} {a : Act} {K : Act → World → Prop} {Q : Exit → Act → World → Prop} {E : Prop} (hgd : o.guard = none) (s x : Operand) (t : TypeId)
    (ho : o.op = .call { callee := .builtin .append, args := #[s, x], argTypes := #[t, t] })
    (base : Nat) (e : TypeId) (i : TypeInfo) (z : Value) (bytes : Nat) (ht : P.underlying t = some (.slice e)) (hi : P.info? e = some i) (hz : i.zero = some z) (hsize : i.size = 3) (hby : i.bytes = bytes) (hzs : z.cells.size = 3)
    (v : Value) (n : Nat) (k : List Pk) (hs : a.eval s = v) (hown : w.ownsRow base e 3 v n (pksV k)) (A : Option Addr) (m c : Nat) (l : List Pk) (hm : l.length = m) (hA : A = none → c = 0) (hx : a.eval x = .slice A m c) (hl : Pks w A l)
    (h63 : n + m ≤ maxLen) (hbytes : (n + m) * bytes ≤ 140737488355328) (hbase : base ≤ w.heap.size)
    (h : ∀ v' w', w'.ownsRow base e 3 v' (n + m) (pksV (k ++ l)) → w.grownBy w' v.ownBlock → (v'.ownBlock = v.ownBlock ∨ v'.ownBlock = some w.heap.size) → K (a.put o.dst v') w') :
    if Region.wanted o (yielded ops a.tmps) = true then Oper.wp P o a w K Q else E := by
  cases A with
  | none =>
    have hc := hA rfl
    subst hc
    have hm0 : m = 0 := by
      rcases Nat.eq_zero_or_pos m with h0 | h0
      · exact h0
      · obtain ⟨ad, e', _⟩ := hl (by omega)
        cases e'
    subst hm0
    have hnil : l = [] := List.eq_nil_of_length_eq_zero hm
    subst hnil
    have hw : Region.wanted o (yielded ops a.tmps) = true := by simp [Region.wanted, hgd]
    rw [if_pos hw]
    have hrun := run_append_owned_none (P := P) (w := w) base t o.type e i 3 ht hi v n (pksV k) hown
    have hk := h v w (by rw [List.append_nil]; exact hown) ⟨rfl, rfl, rfl, Nat.le_refl _, fun _ _ _ => rfl⟩ (.inl rfl)
    unfold Oper.wp
    simp [execOp, ho, resolve, invoke, builtin, hs, hx, hrun, Result.andThen]
    exact hk
  | some ad =>
    exact step_append_any w hgd s x t ho base e i z 3 bytes ht hi hz hsize hby hzs (by decide) v n (pksV k) hs hown ad m c (pksV l) hx (by rw [pksV_length, hm]) (pks_cells hl) (pksV_ones l) h63 hbytes hbase (fun v' w' h1 h2 h4 => h v' w' (by rw [pksV_append]; exact h1) h2 h4)
theorem pks_tail {w : World} {ad : Addr} {p : Pk} {l : List Pk} (h : Pks w (some ad) (p :: l)) : Pks w (some (ad.add 3)) l := fun hn => by
  obtain ⟨ad', e, hlt, hc⟩ := h (by simp)
  cases e
  refine ⟨_, rfl, by rw [Oct.block_add]; exact hlt, fun j hj => ?_⟩
  have hj' : j + 1 < (p :: l).length := by simpa using hj
  have h1 := hc (j + 1) hj'
  rw [show (j + 1) * 3 = 3 + j * 3 by omega, ← add_add] at h1
  exact h1
theorem u32_next (d : UInt32) : ((d.toNat : Int) + 1) % 4294967296 = ((d + 1).toNat : Int) := by
  rw [UInt32.toNat_add]
  have := d.toNat_lt
  show _ = (((d.toNat + 1) % 4294967296 : Nat) : Int)
  omega

/-! ### next -/
set_option maxHeartbeats 2000000 in
set_option maxRecDepth 100000 in
theorem next_any {K : Kd} {w W : World} {gw : Nat} {x y : Ad} {sa sb : Sd K} {vA vB : Value} {tA tB : List Pk} {sn : Nat} (h : Wi K w W gw x y sa sb vA vB tA tB sn) :
    Calls Tryz.prog 21 #[.pointer (some ⟨gw, 0, none⟩)] W fun e w' => ∃ d : UInt32, e = .returned (.int .u32 d.toNat) ∧ Wi K w w' gw x y sa sb vA vB tA tB sn ∧ Moves (fun k => k = gw) W w' := by
  obtain ⟨d, hd⟩ := h.b
  have c4 : W.cell? ⟨gw, 4, none⟩ = some (.int .u32 d.toNat) := hd.at_ 4
  have f4 := hd.frozen 4
  have H := Lib.hid (h.setDraw (d + 1))
  have HN := Lib.hid (u32_next d)
  clear h hd
  go_enter Tryz.func21, Tryz.ntmps21
  go_wp2
  go_ret
  refine ⟨d + 1, ?_, ?_, set1_moves _ _ _ _⟩
  · rw [← HN.out]; rfl
  · have := H.out
    rw [← HN.out] at this
    exact this
end Go.Proofs.YtpppggicihfbgaaGreat.Neg

/- Two sides that are joined, in memory, and the wire's draw (NegO's wire, its number told). -/
namespace Go.Proofs.YtpppggicihfbgaaGreat.Neg
open Go.RowKit Go.Deep Go.Proofs.YtpppggicihfbgaaGreat.Oct Go.Proofs.YtpppggicihfbgaaGreat.Row Go.Proofs.YtpppggicihfbgaaGreat.Mem Go.Proofs.YtpppggicihfbgaaGreat.Opt Go.Proofs.YtpppggicihfbgaaGreat.Fsm

structure Wd (K : Kd) (w W : World) (gw : Nat) (x y : Ad) (sa sb : Sd K) (vA vB : Value) (tA tB : List Pk) (sn : Nat) (dr : UInt32) : Prop where
  b : Blk W gw [ptr x.g, ptr y.g, vA, vB, .int .u32 dr.toNat, .int .i64 sn] 64
  rA : W.ownsRow w.heap.size 56 3 vA tA.length (pksV tA)
  rB : W.ownsRow w.heap.size 56 3 vB tB.length (pksV tB)
  ap : ∀ k, vA.ownBlock = some k → vB.ownBlock ≠ some k
  sa : SAt K W x.g x.a x.q sa
  sb : SAt K W y.g y.a y.q sb
  d : Dj w.heap.size gw x y
  nA : ∀ k, vA.ownBlock = some k → Fr gw x y k
  nB : ∀ k, vB.ownBlock = some k → Fr gw x y k
  hb : Below w.heap.size w W
section
variable {K : Kd} {w W W' : World} {gw : Nat} {x y : Ad} {sa sb s' : Sd K} {vA vB : Value} {tA tB : List Pk} {sn : Nat} {dr : UInt32}
theorem Wd.lt (h : Wd K w W gw x y sa sb vA vB tA tB sn dr) : gw < W.heap.size := by exact h.b.lt
theorem Wd.callee (h : Wd K w W gw x y sa sb vA vB tA tB sn dr) (hb : Below W.heap.size W W') : Wd K w W' gw x y sa sb vA vB tA tB sn dr := by
  have hd := h.b
  have hm : Moves (fun _ => False) W W' := Moves.of_below hb
  exact ⟨hd.callee hb, hm.row h.rA (fun _ _ e => e), hm.row h.rB (fun _ _ e => e), h.ap, h.sa.callee hb, h.sb.callee hb, h.d, h.nA, h.nB, h.hb.trans (hb.mono h.hb.size)⟩
theorem Wd.drew (h : Wd K w W gw x y sa sb vA vB tA tB sn dr) : Wd K w W.drew gw x y sa sb vA vB tA tB sn dr := h.callee (Below.drewN' (Below.refl _ W) 1)
theorem Wd.alloc (h : Wd K w W gw x y sa sb vA vB tA tB sn dr) (o : Obj) : Wd K w (W.alloc o) gw x y sa sb vA vB tA tB sn dr := h.callee ((Below.refl _ W).alloc (Nat.le_refl _) o)
theorem Wd.turnA (h : Wd K w W gw x y sa sb vA vB tA tB sn dr) (hs : SAt K W' x.g x.a x.q s') (hm : Moves (Mn x) W W') : Wd K w W' gw x y s' sb vA vB tA tB sn dr := by
  have hd := h.b
  exact ⟨hd.moves hm h.d.gx, hm.row h.rA (fun k hk => (h.nA k hk).2.1), hm.row h.rB (fun k hk => (h.nB k hk).2.1), h.ap, hs, h.sb.moves hm (fun k hk hx => h.d.xy k hx hk), h.d, h.nA, h.nB,
    h.hb.trans (hm.below h.hb.size (fun k hk => h.d.lo k (.inr (.inl hk))))⟩
theorem Wd.turnB (h : Wd K w W gw x y sa sb vA vB tA tB sn dr) (hs : SAt K W' y.g y.a y.q s') (hm : Moves (Mn y) W W') : Wd K w W' gw x y sa s' vA vB tA tB sn dr := by
  have hd := h.b
  exact ⟨hd.moves hm h.d.gy, hm.row h.rA (fun k hk => (h.nA k hk).2.2), hm.row h.rB (fun k hk => (h.nB k hk).2.2), h.ap, h.sa.moves hm (fun k hk hx => h.d.xy k hk hx), hs, h.d, h.nA, h.nB,
    h.hb.trans (hm.below h.hb.size (fun k hk => h.d.lo k (.inr (.inr hk))))⟩
theorem Wd.own (h : Wd K w W gw x y sa sb vA vB tA tB sn dr) {vA' vB' : Value} {tA' tB' : List Pk} {sn' : Nat} (hm : Moves (fun k => k = gw) W W') {dr' : UInt32} (hb : Blk W' gw [ptr x.g, ptr y.g, vA', vB', .int .u32 dr'.toNat, .int .i64 sn'] 64)
    (rA : W.ownsRow w.heap.size 56 3 vA' tA'.length (pksV tA')) (rB : W.ownsRow w.heap.size 56 3 vB' tB'.length (pksV tB')) (ap : ∀ k, vA'.ownBlock = some k → vB'.ownBlock ≠ some k) (nA : ∀ k, vA'.ownBlock = some k → Fr gw x y k) (nB : ∀ k, vB'.ownBlock = some k → Fr gw x y k) :
    Wd K w W' gw x y sa sb vA' vB' tA' tB' sn' dr' :=
  ⟨hb, hm.row rA (fun k hk => (nA k hk).1), hm.row rB (fun k hk => (nB k hk).1), ap, h.sa.moves hm (fun k hk e => h.d.gx (e ▸ hk)), h.sb.moves hm (fun k hk e => h.d.gy (e ▸ hk)), h.d, nA, nB,
    h.hb.trans (hm.below h.hb.size (fun k hk => h.d.lo k (.inl hk)))⟩
theorem Wd.setDraw (h : Wd K w W gw x y sa sb vA vB tA tB sn dr) (d : UInt32) : Wd K w (W.setCell ⟨gw, 4, none⟩ (.int .u32 d.toNat)) gw x y sa sb vA vB tA tB sn d := by
  have hd := h.b
  exact h.own (set1_moves W gw 4 _) (hd.set 4 (.int .u32 d.toNat)) h.rA h.rB h.ap h.nA h.nB
theorem fresh_frd (h : Wd K w W gw x y sa sb vA vB tA tB sn dr) : Fr gw x y W.heap.size :=
  ⟨by have := h.lt; omega, fun e => by have := h.sa.old _ e; omega, fun e => by have := h.sb.old _ e; omega⟩
theorem Wd.grown {v : Value} {tX : List Pk} (h : Wd K w W gw x y sa sb vA vB tA tB sn dr) (hv : W.ownsRow w.heap.size 56 3 v tX.length (pksV tX)) (nv : ∀ k, v.ownBlock = some k → Fr gw x y k) (hg : W.grownBy W' v.ownBlock) :
    Blk W' gw [ptr x.g, ptr y.g, vA, vB, .int .u32 dr.toNat, .int .i64 sn] 64 ∧ SAt K W' x.g x.a x.q sa ∧ SAt K W' y.g y.a y.q sb ∧ Below w.heap.size w W' ∧ Moves (fun k => v.ownBlock = some k) W W' := by
  have hd := h.b
  have hm : Moves (fun k => v.ownBlock = some k) W W' := Moves.of_grown hg (fun k e _ => e)
  exact ⟨hd.moves hm (fun e => (nv _ e).1 rfl), h.sa.moves hm (fun k hk e => (nv k e).2.1 hk), h.sb.moves hm (fun k hk e => (nv k e).2.2 hk), h.hb.trans (hm.below h.hb.size (fun k hk => (hv.lt k hk).1)), hm⟩
theorem Wd.growB (h : Wd K w W gw x y sa sb vA vB tA tB sn dr) {v' : Value} {l : List Pk} (hg : W.grownBy W' vB.ownBlock) (hr : W'.ownsRow w.heap.size 56 3 v' (tB.length + l.length) (pksV (tB ++ l))) (hat : v'.ownBlock = vB.ownBlock ∨ v'.ownBlock = some W.heap.size) :
    Wd K w (W'.setCell ⟨gw, 3, none⟩ v') gw x y sa sb vA v' tA (tB ++ l) sn dr ∧ Blk W' gw [ptr x.g, ptr y.g, vA, vB, .int .u32 dr.toNat, .int .i64 sn] 64 := by
  obtain ⟨hd, h1, h2, h3, hm⟩ := h.grown h.rB h.nB hg
  have rA := hm.row h.rA (fun k hk e => h.ap k hk e)
  have ap' : ∀ k, vA.ownBlock = some k → v'.ownBlock ≠ some k := fun k hk e => by
    rcases hat with e' | e'
    · exact h.ap k hk (e' ▸ e)
    · rw [e'] at e
      cases e
      have := (h.rA.lt _ hk).2
      omega
  have nB' : ∀ k, v'.ownBlock = some k → Fr gw x y k := fun k e => by
    rcases hat with e' | e'
    · exact h.nB k (e' ▸ e)
    · rw [e'] at e
      cases e
      exact fresh_frd h
  have hs : Moves (fun k => k = gw) W' (W'.setCell ⟨gw, 3, none⟩ v') := set1_moves W' gw 3 v'
  have hr' : W'.ownsRow w.heap.size 56 3 v' (tB ++ l).length (pksV (tB ++ l)) := by rw [List.length_append]; exact hr
  exact ⟨⟨hd.set 3 v', hs.row rA (fun k hk => (h.nA k hk).1), hs.row hr' (fun k hk => (nB' k hk).1), ap', h1.moves hs (fun k hk e => h.d.gx (e ▸ hk)), h2.moves hs (fun k hk e => h.d.gy (e ▸ hk)), h.d, h.nA, nB', h3.trans (hs.below h3.size (fun k hk => h.d.lo k (.inl hk)))⟩, hd⟩
theorem Wd.growA (h : Wd K w W gw x y sa sb vA vB tA tB sn dr) {v' : Value} {l : List Pk} (hg : W.grownBy W' vA.ownBlock) (hr : W'.ownsRow w.heap.size 56 3 v' (tA.length + l.length) (pksV (tA ++ l))) (hat : v'.ownBlock = vA.ownBlock ∨ v'.ownBlock = some W.heap.size) :
    Wd K w (W'.setCell ⟨gw, 2, none⟩ v') gw x y sa sb v' vB (tA ++ l) tB sn dr ∧ Blk W' gw [ptr x.g, ptr y.g, vA, vB, .int .u32 dr.toNat, .int .i64 sn] 64 := by
  obtain ⟨hd, h1, h2, h3, hm⟩ := h.grown h.rA h.nA hg
  have rB := hm.row h.rB (fun k hk e => h.ap k e hk)
  have ap' : ∀ k, v'.ownBlock = some k → vB.ownBlock ≠ some k := fun k e hk => by
    rcases hat with e' | e'
    · exact h.ap k (e' ▸ e) hk
    · rw [e'] at e
      cases e
      have := (h.rB.lt _ hk).2
      omega
  have nA' : ∀ k, v'.ownBlock = some k → Fr gw x y k := fun k e => by
    rcases hat with e' | e'
    · exact h.nA k (e' ▸ e)
    · rw [e'] at e
      cases e
      exact fresh_frd h
  have hs : Moves (fun k => k = gw) W' (W'.setCell ⟨gw, 2, none⟩ v') := set1_moves W' gw 2 v'
  have hr' : W'.ownsRow w.heap.size 56 3 v' (tA ++ l).length (pksV (tA ++ l)) := by rw [List.length_append]; exact hr
  exact ⟨⟨hd.set 2 v', hs.row hr' (fun k hk => (nA' k hk).1), hs.row rB (fun k hk => (h.nB k hk).1), ap', h1.moves hs (fun k hk e => h.d.gx (e ▸ hk)), h2.moves hs (fun k hk e => h.d.gy (e ▸ hk)), h.d, nA', h.nB, h3.trans (hs.below h3.size (fun k hk => h.d.lo k (.inl hk)))⟩, hd⟩
theorem Wd.frs (h : Wd K w W gw x y sa sb vA vB tA tB sn dr) : (∀ k, vA.ownBlock = some k → k ≠ W.heap.size) ∧ (∀ k, vB.ownBlock = some k → k ≠ W.heap.size) ∧ ¬ Mn x W.heap.size ∧ ¬ Mn y W.heap.size ∧ W.heap.size ≠ gw ∧ w.heap.size ≤ W.heap.size := by
  have hf := fresh_frd h
  exact ⟨fun k hk e => by have := (h.rA.lt k hk).2; omega, fun k hk e => by have := (h.rB.lt k hk).2; omega, hf.2.1, hf.2.2, hf.1, h.hb.size⟩
theorem Wd.cells (h : Wd K w W gw x y sa sb vA vB tA tB sn dr) : W.cell? ⟨gw, 0, none⟩ = some (ptr x.g) ∧ W.cell? ⟨gw, 1, none⟩ = some (ptr y.g) ∧ W.cell? ⟨gw, 2, none⟩ = some vA ∧ W.cell? ⟨gw, 3, none⟩ = some vB ∧ W.cell? ⟨gw, 5, none⟩ = some (.int .i64 sn) ∧
    W.frozen? ⟨gw, 2, none⟩ = false ∧ W.frozen? ⟨gw, 3, none⟩ = false ∧ W.frozen? ⟨gw, 5, none⟩ = false := by
  have hd := h.b
  exact ⟨hd.at_ 0, hd.at_ 1, hd.at_ 2, hd.at_ 3, hd.at_ 5, hd.frozen 2, hd.frozen 3, hd.frozen 5⟩
end

/-! ### next -/
set_option maxHeartbeats 2000000 in
set_option maxRecDepth 100000 in
theorem next_anyd {K : Kd} {w W : World} {gw : Nat} {x y : Ad} {sa sb : Sd K} {vA vB : Value} {tA tB : List Pk} {sn : Nat} {d : UInt32} (h : Wd K w W gw x y sa sb vA vB tA tB sn d) :
    Calls Tryz.prog 21 #[.pointer (some ⟨gw, 0, none⟩)] W fun e w' => e = .returned (.int .u32 (d + 1).toNat) ∧ Wd K w w' gw x y sa sb vA vB tA tB sn (d + 1) ∧ Moves (fun k => k = gw) W w' := by
  have hd := h.b
  have c4 : W.cell? ⟨gw, 4, none⟩ = some (.int .u32 d.toNat) := hd.at_ 4
  have f4 := hd.frozen 4
  have H := Lib.hid (h.setDraw (d + 1))
  have HN := Lib.hid (u32_next d)
  clear h hd
  go_enter Tryz.func21, Tryz.ntmps21
  go_wp2
  go_ret
  refine ⟨?_, ?_, set1_moves _ _ _ _⟩
  · rw [← HN.out]; rfl
  · have := H.out
    rw [← HN.out] at this
    exact this
theorem Wd.wi {K : Kd} {w W : World} {gw : Nat} {x y : Ad} {sa sb : Sd K} {vA vB : Value} {tA tB : List Pk} {sn : Nat} {d : UInt32} (h : Wd K w W gw x y sa sb vA vB tA tB sn d) : Wi K w W gw x y sa sb vA vB tA tB sn :=
  ⟨⟨d, h.b⟩, h.rA, h.rB, h.ap, h.sa, h.sb, h.d, h.nA, h.nB, h.hb⟩
end Go.Proofs.YtpppggicihfbgaaGreat.Neg
