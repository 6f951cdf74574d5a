/- Contracts of the map's functions that go by a Nak, and by a Reject. -/
import Derived.Test.YtcncmddhjbnggaaGreatPolD
import Derived.Test.YtcncmddhjbnggaaGreatPolAa
namespace Go.Proofs.YtcncmddhjbnggaaGreat.Pol
open Go.RowKit Go.Proofs.YtcncmddhjbnggaaGreat.Oct Go.Proofs.YtcncmddhjbnggaaGreat.Row Go.Proofs.YtcncmddhjbnggaaGreat.Mem Go.Proofs.YtcncmddhjbnggaaGreat.Opt Go.Proofs.YtcncmddhjbnggaaGreat.Lco

/-- What a Nak's option of type t makes of the wishes. -/
def nkF (c : Conf) (w x : Lcp) (d : UInt32) (t : UInt8) : Lcp :=
  if t = 1 then (if 64 ≤ x.mru then { w with mru := x.mru } else w) else if t = 2 then { w with accm := w.accm ||| x.accm } else if t = 3 then (if c.takes &&& x.auth != 0 then { w with auth := x.auth } else w)
  else if t = 5 then { w with magic := nz d } else w
def NkQ (q : Po) (g : Nat) (w : World) (e : Ending) (w' : World) : Prop := e = .returned (.tuple #[]) ∧ PAt w' g q ∧ Moves (fun k => k = g) w w'
theorem u32_orv (a b : UInt32) : bits .or .u32 (a.toNat : Int) (b.toNat : Int) = ((a ||| b).toNat : Int) := by
  rw [UInt32.toNat_or]
  exact u32_or_nat a.toNat b.toNat a.toNat_lt b.toNat_lt
set_option maxHeartbeats 2000000 in
set_option maxRecDepth 100000 in
theorem nk1 (g : Nat) (p : Po) (x : Lcp) (d : UInt32) (w : World) (h : PAt w g p) : Calls Tryz.prog 69 #[.pointer (some ⟨g, 0, none⟩), .agg #[Value.bool x.hm, .int .u16 x.mru.toNat, .bool x.ha, .int .u32 x.accm.toNat, .int .u8 x.auth.toNat, .bool x.hg, .int .u32 x.magic.toNat, .bool x.pfc, .bool x.acfc], .int .u32 d.toNat] w (NkQ { p with w := nkF p.c p.w x d 1 } g w) := by
  obtain ⟨W, hW, HW⟩ := boxL w x
  have HP : Hid (PAt W g p) := h.callee HW.out.2.1
  have HL := Lib.hid HW.out.1
  have HM : Hid (Moves (fun k => k = g) w W) := Moves.of_below HW.out.2.1
  have hgl : ¬ g = w.heap.size := Nat.ne_of_lt h.lt
  have hgl2 : ¬ w.heap.size = g := fun e => hgl e.symm
  have c1 : W.cell? ⟨w.heap.size, 1, none⟩ = some (.int .u16 x.mru.toNat) := HL.out.c 1
  have p1 : W.cell? ⟨g, 1, none⟩ = some (.int .u16 p.w.mru.toNat) := HP.out.c 1
  have f1 := HP.out.f 1
  have hx := u16_ge x.mru
  by_cases hl : 64 ≤ x.mru
  · have HE : Hid (nkF p.c p.w x d 1 = { p.w with mru := x.mru }) := by show _ = _; unfold nkF; rw [if_pos rfl, if_pos hl]
    rw [decide_eq_true hl] at hx
    rw [HE.out]
    clear hl h HW
    go_enter Tryz.func69, Tryz.ntmps69
    go_wp2
    go_end0
    exact ⟨rfl, HP.out.setMru x.mru, HM.out.trans (set_moves W g _ _) (fun _ _ h => h)⟩
  · have HE : Hid (nkF p.c p.w x d 1 = p.w) := by show _ = _; unfold nkF; rw [if_pos rfl, if_neg hl]
    rw [decide_eq_false hl] at hx
    rw [HE.out]
    clear hl h HW
    go_enter Tryz.func69, Tryz.ntmps69
    go_wp2
    go_end0
    exact ⟨rfl, HP.out, HM.out⟩
set_option maxHeartbeats 2000000 in
set_option maxRecDepth 100000 in
theorem nk2 (g : Nat) (p : Po) (x : Lcp) (d : UInt32) (w : World) (h : PAt w g p) : Calls Tryz.prog 72 #[.pointer (some ⟨g, 0, none⟩), .agg #[Value.bool x.hm, .int .u16 x.mru.toNat, .bool x.ha, .int .u32 x.accm.toNat, .int .u8 x.auth.toNat, .bool x.hg, .int .u32 x.magic.toNat, .bool x.pfc, .bool x.acfc], .int .u32 d.toNat] w (NkQ { p with w := nkF p.c p.w x d 2 } g w) := by
  obtain ⟨W, hW, HW⟩ := boxL w x
  have HP : Hid (PAt W g p) := h.callee HW.out.2.1
  have HL := Lib.hid HW.out.1
  have HM : Hid (Moves (fun k => k = g) w W) := Moves.of_below HW.out.2.1
  have hgl : ¬ g = w.heap.size := Nat.ne_of_lt h.lt
  have hgl2 : ¬ w.heap.size = g := fun e => hgl e.symm
  have c3 : W.cell? ⟨w.heap.size, 3, none⟩ = some (.int .u32 x.accm.toNat) := HL.out.c 3
  have p3 : W.cell? ⟨g, 3, none⟩ = some (.int .u32 p.w.accm.toNat) := HP.out.c 3
  have f3 := HP.out.f 3
  have d3 : W.drew.cell? ⟨w.heap.size, 3, none⟩ = some (.int .u32 x.accm.toNat) := c3
  have e3 : W.drew.cell? ⟨g, 3, none⟩ = some (.int .u32 p.w.accm.toNat) := p3
  have g3 : W.drew.frozen? ⟨g, 3, none⟩ = false := f3
  have ho := u32_orv p.w.accm x.accm
  have HE : Hid (nkF p.c p.w x d 2 = { p.w with accm := p.w.accm ||| x.accm }) := rfl
  obtain ⟨v, hv⟩ : ∃ v, p.w.accm ||| x.accm = v := ⟨_, rfl⟩
  rw [hv] at ho HE
  rw [HE.out]
  clear h HW hv
  go_enter Tryz.func72, Tryz.ntmps72
  go_wp2
  clear hW
  go_region
  go_wp2
  go_end0
  exact ⟨rfl, HP.out.setAccm v, (HM.out.trans (set_moves W g 3 (.int .u32 v.toNat)) (fun _ _ h => h)).drew⟩
set_option maxHeartbeats 2000000 in
set_option maxRecDepth 100000 in
theorem nk3 (g : Nat) (p : Po) (x : Lcp) (d : UInt32) (w : World) (h : PAt w g p) : Calls Tryz.prog 75 #[.pointer (some ⟨g, 0, none⟩), .agg #[Value.bool x.hm, .int .u16 x.mru.toNat, .bool x.ha, .int .u32 x.accm.toNat, .int .u8 x.auth.toNat, .bool x.hg, .int .u32 x.magic.toNat, .bool x.pfc, .bool x.acfc], .int .u32 d.toNat] w (NkQ { p with w := nkF p.c p.w x d 3 } g w) := by
  obtain ⟨W, hW, HW⟩ := boxL w x
  have HP : Hid (PAt W g p) := h.callee HW.out.2.1
  have HL := Lib.hid HW.out.1
  have HM : Hid (Moves (fun k => k = g) w W) := Moves.of_below HW.out.2.1
  have hgl : ¬ g = w.heap.size := Nat.ne_of_lt h.lt
  have hgl2 : ¬ w.heap.size = g := fun e => hgl e.symm
  have c4 : W.cell? ⟨w.heap.size, 4, none⟩ = some (.int .u8 x.auth.toNat) := HL.out.c 4
  have p4 : W.cell? ⟨g, 4, none⟩ = some (.int .u8 p.w.auth.toNat) := HP.out.c 4
  have p13 : W.cell? ⟨g, 13, none⟩ = some (.int .u8 p.c.takes.toNat) := HP.out.c 13
  have f4 := HP.out.f 4
  have hx := u8_bits p.c.takes x.auth
  cases hl : (p.c.takes &&& x.auth != 0)
  · have HE : Hid (nkF p.c p.w x d 3 = p.w) := by show _ = _; unfold nkF; rw [if_neg (by decide), if_neg (by decide), if_pos rfl, hl]; rfl
    rw [hl] at hx
    rw [HE.out]
    clear hl h HW
    go_enter Tryz.func75, Tryz.ntmps75
    go_wp2
    clear hW
    go_quiet (fail)
    go_wp2
    go_end0
    exact ⟨rfl, HP.out, HM.out.drewN _⟩
  · have HE : Hid (nkF p.c p.w x d 3 = { p.w with auth := x.auth }) := by show _ = _; unfold nkF; rw [if_neg (by decide), if_neg (by decide), if_pos rfl, hl]; rfl
    rw [hl] at hx
    rw [HE.out]
    clear hl h HW
    go_enter Tryz.func75, Tryz.ntmps75
    go_wp2
    clear hW
    go_quiet (fail)
    have HPu : Hid (PAt (W.drewN nq) g p) := HP.out
    have HMu : Hid (Moves (fun k => k = g) w (W.drewN nq)) := HM.out.drewN nq
    have c4 : (W.drewN nq).cell? ⟨w.heap.size, 4, none⟩ = some (.int .u8 x.auth.toNat) := c4
    have p4 : (W.drewN nq).cell? ⟨g, 4, none⟩ = some (.int .u8 p.w.auth.toNat) := p4
    have f4 : (W.drewN nq).frozen? ⟨g, 4, none⟩ = false := f4
    clear HP HM HL p13
    generalize W.drewN nq = U at *
    go_wp2
    go_end0
    exact ⟨rfl, HPu.out.setAuth x.auth, HMu.out.trans (set_moves U g _ _) (fun _ _ h => h)⟩
set_option maxHeartbeats 2000000 in
set_option maxRecDepth 100000 in
theorem nk5 (g : Nat) (p : Po) (x : Lcp) (d : UInt32) (w : World) (h : PAt w g p) : Calls Tryz.prog 78 #[.pointer (some ⟨g, 0, none⟩), .agg #[Value.bool x.hm, .int .u16 x.mru.toNat, .bool x.ha, .int .u32 x.accm.toNat, .int .u8 x.auth.toNat, .bool x.hg, .int .u32 x.magic.toNat, .bool x.pfc, .bool x.acfc], .int .u32 d.toNat] w (NkQ { p with w := nkF p.c p.w x d 5 } g w) := by
  obtain ⟨W, hW, HW⟩ := boxL w x
  have HP : Hid (PAt W g p) := h.callee HW.out.2.1
  have HL := Lib.hid HW.out.1
  have HM : Hid (Moves (fun k => k = g) w W) := Moves.of_below HW.out.2.1
  have hgl : ¬ g = w.heap.size := Nat.ne_of_lt h.lt
  have hgl2 : ¬ w.heap.size = g := fun e => hgl e.symm
  have p6 : W.cell? ⟨g, 6, none⟩ = some (.int .u32 p.w.magic.toNat) := HP.out.c 6
  have f6 := HP.out.f 6
  have HNZ := Lib.hid (fun w => nz_any d w)
  clear h HW
  go_enter Tryz.func78, Tryz.ntmps78
  go_wp2_with fail
  refine (HNZ.out _).mono ?_
  rintro e _ ⟨rfl, rfl⟩
  go_wp2
  go_end0
  exact ⟨rfl, HP.out.setMagic (nz d), HM.out.trans (set_moves W g _ _) (fun _ _ h => h)⟩
set_option maxHeartbeats 2000000 in
set_option maxRecDepth 100000 in
theorem nk7 (g : Nat) (p : Po) (x : Lcp) (d : UInt32) (w : World) (h : PAt w g p) : Calls Tryz.prog 81 #[.pointer (some ⟨g, 0, none⟩), .agg #[Value.bool x.hm, .int .u16 x.mru.toNat, .bool x.ha, .int .u32 x.accm.toNat, .int .u8 x.auth.toNat, .bool x.hg, .int .u32 x.magic.toNat, .bool x.pfc, .bool x.acfc], .int .u32 d.toNat] w (NkQ { p with w := nkF p.c p.w x d 7 } g w) := by
  obtain ⟨W, hW, HW⟩ := boxL w x
  have HP : Hid (PAt W g p) := h.callee HW.out.2.1
  have HL := Lib.hid HW.out.1
  have HM : Hid (Moves (fun k => k = g) w W) := Moves.of_below HW.out.2.1
  have hgl : ¬ g = w.heap.size := Nat.ne_of_lt h.lt
  have hgl2 : ¬ w.heap.size = g := fun e => hgl e.symm
  clear h HW
  go_enter Tryz.func81, Tryz.ntmps81
  go_wp2
  go_end0
  exact ⟨rfl, HP.out, HM.out⟩
set_option maxHeartbeats 2000000 in
set_option maxRecDepth 100000 in
theorem nk8 (g : Nat) (p : Po) (x : Lcp) (d : UInt32) (w : World) (h : PAt w g p) : Calls Tryz.prog 83 #[.pointer (some ⟨g, 0, none⟩), .agg #[Value.bool x.hm, .int .u16 x.mru.toNat, .bool x.ha, .int .u32 x.accm.toNat, .int .u8 x.auth.toNat, .bool x.hg, .int .u32 x.magic.toNat, .bool x.pfc, .bool x.acfc], .int .u32 d.toNat] w (NkQ { p with w := nkF p.c p.w x d 8 } g w) := by
  obtain ⟨W, hW, HW⟩ := boxL w x
  have HP : Hid (PAt W g p) := h.callee HW.out.2.1
  have HL := Lib.hid HW.out.1
  have HM : Hid (Moves (fun k => k = g) w W) := Moves.of_below HW.out.2.1
  have hgl : ¬ g = w.heap.size := Nat.ne_of_lt h.lt
  have hgl2 : ¬ w.heap.size = g := fun e => hgl e.symm
  clear h HW
  go_enter Tryz.func83, Tryz.ntmps83
  go_wp2
  go_end0
  exact ⟨rfl, HP.out, HM.out⟩
set_option maxHeartbeats 1000000 in
theorem dr1 (g : Nat) (p : Po) (d : ByteArray) (w : World) (h : PAt w g p) : Calls Tryz.prog 70 #[.pointer (some ⟨g, 0, none⟩)] w (NkQ (dropP p (1, d)) g w) := by
  have a1 : w.cell? ⟨g, 0, none⟩ = some (Value.bool p.w.hm) := h.c 0
  have f1 := h.f 0
  have a2 : w.cell? ⟨g, 1, none⟩ = some (.int .u16 p.w.mru.toNat) := h.c 1
  have f2 := h.f 1
  have HQ : Hid (PAt _ g _) := Lib.hid ((h.setHm false).setMru 0)
  have HE : Hid (dropP p (1, d) = { p with w := dropW p.w 1, bad := p.bad }) := by show _ = _; unfold dropP; cases p.bad <;> rfl
  have H := Lib.hid h
  clear h
  go_enter Tryz.func70, Tryz.ntmps70
  go_wp2
  go_end0
  unfold NkQ
  rw [HE.out]
  exact ⟨rfl, HQ.out, (set_moves w g 0 _).trans (set_moves _ g 1 _) (fun _ _ h => h)⟩
set_option maxHeartbeats 1000000 in
theorem dr2 (g : Nat) (p : Po) (d : ByteArray) (w : World) (h : PAt w g p) : Calls Tryz.prog 73 #[.pointer (some ⟨g, 0, none⟩)] w (NkQ (dropP p (2, d)) g w) := by
  have a1 : w.cell? ⟨g, 2, none⟩ = some (Value.bool p.w.ha) := h.c 2
  have f1 := h.f 2
  have a2 : w.cell? ⟨g, 3, none⟩ = some (.int .u32 p.w.accm.toNat) := h.c 3
  have f2 := h.f 3
  have HQ : Hid (PAt _ g _) := Lib.hid ((h.setHa false).setAccm 0)
  have HE : Hid (dropP p (2, d) = { p with w := dropW p.w 2, bad := p.bad }) := by show _ = _; unfold dropP; cases p.bad <;> rfl
  have H := Lib.hid h
  clear h
  go_enter Tryz.func73, Tryz.ntmps73
  go_wp2
  go_end0
  unfold NkQ
  rw [HE.out]
  exact ⟨rfl, HQ.out, (set_moves w g 2 _).trans (set_moves _ g 3 _) (fun _ _ h => h)⟩
set_option maxHeartbeats 1000000 in
theorem dr3 (g : Nat) (p : Po) (d : ByteArray) (w : World) (h : PAt w g p) : Calls Tryz.prog 76 #[.pointer (some ⟨g, 0, none⟩)] w (NkQ (dropP p (3, d)) g w) := by
  have a1 : w.cell? ⟨g, 4, none⟩ = some (.int .u8 p.w.auth.toNat) := h.c 4
  have f1 := h.f 4
  have a2 : w.cell? ⟨g, 39, none⟩ = some (Value.bool p.bad) := h.c 39
  have f2 := h.f 39
  have HQ : Hid (PAt _ g _) := Lib.hid ((h.setAuth 0).setBad true)
  have HE : Hid (dropP p (3, d) = { p with w := dropW p.w 3, bad := true }) := by show _ = _; unfold dropP; cases p.bad <;> rfl
  have H := Lib.hid h
  clear h
  go_enter Tryz.func76, Tryz.ntmps76
  go_wp2
  go_end0
  unfold NkQ
  rw [HE.out]
  exact ⟨rfl, HQ.out, (set_moves w g 4 _).trans (set_moves _ g 39 _) (fun _ _ h => h)⟩
set_option maxHeartbeats 1000000 in
theorem dr5 (g : Nat) (p : Po) (d : ByteArray) (w : World) (h : PAt w g p) : Calls Tryz.prog 80 #[.pointer (some ⟨g, 0, none⟩)] w (NkQ (dropP p (5, d)) g w) := by
  have a1 : w.cell? ⟨g, 5, none⟩ = some (Value.bool p.w.hg) := h.c 5
  have f1 := h.f 5
  have a2 : w.cell? ⟨g, 6, none⟩ = some (.int .u32 p.w.magic.toNat) := h.c 6
  have f2 := h.f 6
  have HQ : Hid (PAt _ g _) := Lib.hid ((h.setHg false).setMagic 0)
  have HE : Hid (dropP p (5, d) = { p with w := dropW p.w 5, bad := p.bad }) := by show _ = _; unfold dropP; cases p.bad <;> rfl
  have H := Lib.hid h
  clear h
  go_enter Tryz.func80, Tryz.ntmps80
  go_wp2
  go_end0
  unfold NkQ
  rw [HE.out]
  exact ⟨rfl, HQ.out, (set_moves w g 5 _).trans (set_moves _ g 6 _) (fun _ _ h => h)⟩
set_option maxHeartbeats 1000000 in
theorem dr7 (g : Nat) (p : Po) (d : ByteArray) (w : World) (h : PAt w g p) : Calls Tryz.prog 82 #[.pointer (some ⟨g, 0, none⟩)] w (NkQ (dropP p (7, d)) g w) := by
  have a1 : w.cell? ⟨g, 7, none⟩ = some (Value.bool p.w.pfc) := h.c 7
  have f1 := h.f 7
  have HQ : Hid (PAt _ g _) := Lib.hid (h.setPfc false)
  have HE : Hid (dropP p (7, d) = { p with w := dropW p.w 7, bad := p.bad }) := by show _ = _; unfold dropP; cases p.bad <;> rfl
  have H := Lib.hid h
  clear h
  go_enter Tryz.func82, Tryz.ntmps82
  go_wp2
  go_end0
  unfold NkQ
  rw [HE.out]
  exact ⟨rfl, HQ.out, set_moves w g _ _⟩
set_option maxHeartbeats 1000000 in
theorem dr8 (g : Nat) (p : Po) (d : ByteArray) (w : World) (h : PAt w g p) : Calls Tryz.prog 84 #[.pointer (some ⟨g, 0, none⟩)] w (NkQ (dropP p (8, d)) g w) := by
  have a1 : w.cell? ⟨g, 8, none⟩ = some (Value.bool p.w.acfc) := h.c 8
  have f1 := h.f 8
  have HQ : Hid (PAt _ g _) := Lib.hid (h.setAcfc false)
  have HE : Hid (dropP p (8, d) = { p with w := dropW p.w 8, bad := p.bad }) := by show _ = _; unfold dropP; cases p.bad <;> rfl
  have H := Lib.hid h
  clear h
  go_enter Tryz.func84, Tryz.ntmps84
  go_wp2
  go_end0
  unfold NkQ
  rw [HE.out]
  exact ⟨rfl, HQ.out, set_moves w g _ _⟩
end Go.Proofs.YtcncmddhjbnggaaGreat.Pol
