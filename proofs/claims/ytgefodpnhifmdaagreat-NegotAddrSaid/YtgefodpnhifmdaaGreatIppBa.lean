/- Contracts of the map's functions that go by a Nak, and by a Reject. -/
import Derived.Test.YtgefodpnhifmdaaGreatGIpcA
import Derived.Test.YtgefodpnhifmdaaGreatGIppR
namespace Go.Proofs.YtgefodpnhifmdaaGreat.Ipp
open Go.RowKit Go.Proofs.YtgefodpnhifmdaaGreat.Oct Go.Proofs.YtgefodpnhifmdaaGreat.Row Go.Proofs.YtgefodpnhifmdaaGreat.Mem Go.Proofs.YtgefodpnhifmdaaGreat.Opt Go.Proofs.YtgefodpnhifmdaaGreat.Ipc

/-- What a Nak makes of the wish of type t. -/
def nkF (c : Conf) (w x : Ipc) (t : UInt8) : Ipc :=
  if t = 3 then (if c.addr = 0 then { w with addr := or32 x.addr w.addr } else w) else if t = 129 then { w with dns1 := or32 x.dns1 w.dns1 } else { w with dns2 := or32 x.dns2 w.dns2 }
def NkQ (q : Po) (g : Nat) (w : World) (e : Ending) (w' : World) : Prop := e = .returned (.tuple #[]) ∧ PAt w' g q ∧ Moves (fun k => k = g) w w'
set_option maxHeartbeats 4000000 in
set_option maxRecDepth 100000 in
theorem nk3 (g : Nat) (p : Po) (x : Ipc) (w : World) (h : PAt w g p) : Calls Tryz.prog 132 #[.pointer (some ⟨g, 0, none⟩), .agg #[Value.bool x.ha, .int .u32 x.addr.toNat, .bool x.h1, .int .u32 x.dns1.toNat, .bool x.h2, .int .u32 x.dns2.toNat]] w (NkQ { p with w := nkF p.c p.w x 3 } g w) := by
  obtain ⟨W, hW, HW⟩ := boxL w x
  have HP : Hid (PAt W g p) := h.callee HW.out.2.1
  have HL := Lib.hid HW.out.1
  have HM : Hid (Moves (fun k => k = g) w W) := Moves.of_below HW.out.2.1
  have p6 : W.cell? ⟨g, 6, none⟩ = some (.int .u32 p.c.addr.toNat) := HP.out.c 6
  have hz := u32_eq0 p.c.addr
  by_cases h0 : p.c.addr = 0
  · rw [show (p.c.addr == 0) = true from by rw [h0]; rfl] at hz
    have C1 := Lib.hid (or_any x.addr p.w.addr)
    obtain ⟨v, hv⟩ : ∃ v, or32 x.addr p.w.addr = v := ⟨_, rfl⟩
    rw [hv] at C1
    have HE : Hid (nkF p.c p.w x 3 = { p.w with addr := v }) := by show _ = _; unfold nkF; rw [if_pos rfl, if_pos h0]; rw [hv]
    rw [HE.out]
    have hgl : ¬ g = w.heap.size := Nat.ne_of_lt h.lt
    have hgl2 : ¬ w.heap.size = g := fun e => hgl e.symm
    have c1 : W.drew.cell? ⟨w.heap.size, 1, none⟩ = some (.int .u32 x.addr.toNat) := HL.out.c 1
    have p1 : W.drew.cell? ⟨g, 1, none⟩ = some (.int .u32 p.w.addr.toNat) := HP.out.c 1
    have HA : Hid (∀ U : World, Two32 (U.alloc (.cells #[.int .u32 x.addr.toNat, .int .u32 p.w.addr.toNat] 22)).drew U.heap.size x.addr p.w.addr) := fun U => blk_new U [.int .u32 x.addr.toNat, .int .u32 p.w.addr.toNat] _
    have HPU : Hid (PAt (W.alloc (.cells #[.int .u32 x.addr.toNat, .int .u32 p.w.addr.toNat] 22)).drew g p) := Blk.drew (HP.out.alloc (.cells #[.int .u32 x.addr.toNat, .int .u32 p.w.addr.toNat] 22))
    have HMU : Hid (Moves (fun k => k = g) w (W.alloc (.cells #[.int .u32 x.addr.toNat, .int .u32 p.w.addr.toNat] 22)).drew) := HM.out.trans (Moves.of_below ((Below.refl W.heap.size W).alloc (Nat.le_refl _) (.cells #[.int .u32 x.addr.toNat, .int .u32 p.w.addr.toNat] 22)).drew) (fun _ _ h => h)
    clear h HW hv h0
    go_enter Tryz.func132, Tryz.ntmps132
    go_wp2_with fail
    (try clear hW)
    go_region_with (first
      | (go_at_call 136; (refine (C1.out _ _ (HA.out _)).mono ?_; rintro e w6 ⟨rfl, rfl⟩; generalize (W.alloc (.cells #[.int .u32 x.addr.toNat, .int .u32 p.w.addr.toNat] 22)).drew = U at *; have q1 : U.cell? ⟨g, 1, none⟩ = some (.int .u32 p.w.addr.toNat) := HPU.out.c 1; have f1 := HPU.out.f 1))
      | fail)
    all_goals (try go_wp2)
    all_goals go_end0
    all_goals exact ⟨rfl, HPU.out.setAddr v, HMU.out.trans (set_moves U g 1 (.int .u32 v.toNat)) (fun _ _ h => h)⟩
  · rw [show (p.c.addr == 0) = false from beq_eq_false_iff_ne.2 h0] at hz
    have HE : Hid (nkF p.c p.w x 3 = p.w) := by show _ = _; unfold nkF; rw [if_pos rfl, if_neg h0]
    rw [HE.out]
    clear h HW h0
    go_enter Tryz.func132, Tryz.ntmps132
    go_wp2
    go_end0
    exact ⟨rfl, HP.out, HM.out⟩
set_option maxHeartbeats 4000000 in
set_option maxRecDepth 100000 in
theorem nk129 (g : Nat) (p : Po) (x : Ipc) (w : World) (h : PAt w g p) : Calls Tryz.prog 135 #[.pointer (some ⟨g, 0, none⟩), .agg #[Value.bool x.ha, .int .u32 x.addr.toNat, .bool x.h1, .int .u32 x.dns1.toNat, .bool x.h2, .int .u32 x.dns2.toNat]] w (NkQ { p with w := nkF p.c p.w x 129 } g w) := by
  obtain ⟨W, hW, HW⟩ := boxL w x
  have HP : Hid (PAt W g p) := h.callee HW.out.2.1
  have HL := Lib.hid HW.out.1
  have HM : Hid (Moves (fun k => k = g) w W) := Moves.of_below HW.out.2.1
  have C1 := Lib.hid (or_any x.dns1 p.w.dns1)
  obtain ⟨v, hv⟩ : ∃ v, or32 x.dns1 p.w.dns1 = v := ⟨_, rfl⟩
  rw [hv] at C1
  have HE : Hid (nkF p.c p.w x 129 = { p.w with dns1 := v }) := by show _ = _; unfold nkF; rw [if_neg (by decide), if_pos rfl]; rw [hv]
  rw [HE.out]
  have hgl : ¬ g = w.heap.size := Nat.ne_of_lt h.lt
  have hgl2 : ¬ w.heap.size = g := fun e => hgl e.symm
  have c1 : W.drew.cell? ⟨w.heap.size, 3, none⟩ = some (.int .u32 x.dns1.toNat) := HL.out.c 3
  have p1 : W.drew.cell? ⟨g, 3, none⟩ = some (.int .u32 p.w.dns1.toNat) := HP.out.c 3
  have HA : Hid (∀ U : World, Two32 (U.alloc (.cells #[.int .u32 x.dns1.toNat, .int .u32 p.w.dns1.toNat] 22)).drew U.heap.size x.dns1 p.w.dns1) := fun U => blk_new U [.int .u32 x.dns1.toNat, .int .u32 p.w.dns1.toNat] _
  have HPU : Hid (PAt (W.alloc (.cells #[.int .u32 x.dns1.toNat, .int .u32 p.w.dns1.toNat] 22)).drew g p) := Blk.drew (HP.out.alloc (.cells #[.int .u32 x.dns1.toNat, .int .u32 p.w.dns1.toNat] 22))
  have HMU : Hid (Moves (fun k => k = g) w (W.alloc (.cells #[.int .u32 x.dns1.toNat, .int .u32 p.w.dns1.toNat] 22)).drew) := HM.out.trans (Moves.of_below ((Below.refl W.heap.size W).alloc (Nat.le_refl _) (.cells #[.int .u32 x.dns1.toNat, .int .u32 p.w.dns1.toNat] 22)).drew) (fun _ _ h => h)
  clear h HW hv
  go_enter Tryz.func135, Tryz.ntmps135
  go_wp2_with fail
  (try clear hW)
  go_region_with (first
    | (go_at_call 136; (refine (C1.out _ _ (HA.out _)).mono ?_; rintro e w6 ⟨rfl, rfl⟩; generalize (W.alloc (.cells #[.int .u32 x.dns1.toNat, .int .u32 p.w.dns1.toNat] 22)).drew = U at *; have q1 : U.cell? ⟨g, 3, none⟩ = some (.int .u32 p.w.dns1.toNat) := HPU.out.c 3; have f1 := HPU.out.f 3))
    | fail)
  all_goals (try go_wp2)
  all_goals go_end0
  all_goals exact ⟨rfl, HPU.out.setDns1 v, HMU.out.trans (set_moves U g 3 (.int .u32 v.toNat)) (fun _ _ h => h)⟩
set_option maxHeartbeats 4000000 in
set_option maxRecDepth 100000 in
theorem nk131 (g : Nat) (p : Po) (x : Ipc) (w : World) (h : PAt w g p) : Calls Tryz.prog 139 #[.pointer (some ⟨g, 0, none⟩), .agg #[Value.bool x.ha, .int .u32 x.addr.toNat, .bool x.h1, .int .u32 x.dns1.toNat, .bool x.h2, .int .u32 x.dns2.toNat]] w (NkQ { p with w := nkF p.c p.w x 131 } g w) := by
  obtain ⟨W, hW, HW⟩ := boxL w x
  have HP : Hid (PAt W g p) := h.callee HW.out.2.1
  have HL := Lib.hid HW.out.1
  have HM : Hid (Moves (fun k => k = g) w W) := Moves.of_below HW.out.2.1
  have C1 := Lib.hid (or_any x.dns2 p.w.dns2)
  obtain ⟨v, hv⟩ : ∃ v, or32 x.dns2 p.w.dns2 = v := ⟨_, rfl⟩
  rw [hv] at C1
  have HE : Hid (nkF p.c p.w x 131 = { p.w with dns2 := v }) := by show _ = _; unfold nkF; rw [if_neg (by decide), if_neg (by decide)]; rw [hv]
  rw [HE.out]
  have hgl : ¬ g = w.heap.size := Nat.ne_of_lt h.lt
  have hgl2 : ¬ w.heap.size = g := fun e => hgl e.symm
  have c1 : W.drew.cell? ⟨w.heap.size, 5, none⟩ = some (.int .u32 x.dns2.toNat) := HL.out.c 5
  have p1 : W.drew.cell? ⟨g, 5, none⟩ = some (.int .u32 p.w.dns2.toNat) := HP.out.c 5
  have HA : Hid (∀ U : World, Two32 (U.alloc (.cells #[.int .u32 x.dns2.toNat, .int .u32 p.w.dns2.toNat] 22)).drew U.heap.size x.dns2 p.w.dns2) := fun U => blk_new U [.int .u32 x.dns2.toNat, .int .u32 p.w.dns2.toNat] _
  have HPU : Hid (PAt (W.alloc (.cells #[.int .u32 x.dns2.toNat, .int .u32 p.w.dns2.toNat] 22)).drew g p) := Blk.drew (HP.out.alloc (.cells #[.int .u32 x.dns2.toNat, .int .u32 p.w.dns2.toNat] 22))
  have HMU : Hid (Moves (fun k => k = g) w (W.alloc (.cells #[.int .u32 x.dns2.toNat, .int .u32 p.w.dns2.toNat] 22)).drew) := HM.out.trans (Moves.of_below ((Below.refl W.heap.size W).alloc (Nat.le_refl _) (.cells #[.int .u32 x.dns2.toNat, .int .u32 p.w.dns2.toNat] 22)).drew) (fun _ _ h => h)
  clear h HW hv
  go_enter Tryz.func139, Tryz.ntmps139
  go_wp2_with fail
  (try clear hW)
  go_region_with (first
    | (go_at_call 136; (refine (C1.out _ _ (HA.out _)).mono ?_; rintro e w6 ⟨rfl, rfl⟩; generalize (W.alloc (.cells #[.int .u32 x.dns2.toNat, .int .u32 p.w.dns2.toNat] 22)).drew = U at *; have q1 : U.cell? ⟨g, 5, none⟩ = some (.int .u32 p.w.dns2.toNat) := HPU.out.c 5; have f1 := HPU.out.f 5))
    | fail)
  all_goals (try go_wp2)
  all_goals go_end0
  all_goals exact ⟨rfl, HPU.out.setDns2 v, HMU.out.trans (set_moves U g 5 (.int .u32 v.toNat)) (fun _ _ h => h)⟩
set_option maxHeartbeats 1000000 in
set_option maxRecDepth 100000 in
theorem dr3 (g : Nat) (p : Po) (d : ByteArray) (w : World) (h : PAt w g p) : Calls Tryz.prog 133 #[.pointer (some ⟨g, 0, none⟩)] w (NkQ (dropP p (3, d)) g w) := by
  have HP := Lib.hid h
  have p0 : w.cell? ⟨g, 0, none⟩ = some (Value.bool p.w.ha) := h.c 0
  have f0 := h.f 0
  have p1 : w.cell? ⟨g, 1, none⟩ = some (.int .u32 p.w.addr.toNat) := h.c 1
  have f1 := h.f 1
  clear h
  go_enter Tryz.func133, Tryz.ntmps133
  go_wp2
  go_end0
  exact ⟨rfl, (HP.out.setHa false).setAddr 0, (set_moves w g 0 (.bool false)).trans (set_moves _ g 1 (.int .u32 0)) (fun _ _ h => h)⟩
set_option maxHeartbeats 1000000 in
set_option maxRecDepth 100000 in
theorem dr129 (g : Nat) (p : Po) (d : ByteArray) (w : World) (h : PAt w g p) : Calls Tryz.prog 137 #[.pointer (some ⟨g, 0, none⟩)] w (NkQ (dropP p (129, d)) g w) := by
  have HP := Lib.hid h
  have p0 : w.cell? ⟨g, 2, none⟩ = some (Value.bool p.w.h1) := h.c 2
  have f0 := h.f 2
  have p1 : w.cell? ⟨g, 3, none⟩ = some (.int .u32 p.w.dns1.toNat) := h.c 3
  have f1 := h.f 3
  clear h
  go_enter Tryz.func137, Tryz.ntmps137
  go_wp2
  go_end0
  exact ⟨rfl, (HP.out.setH1 false).setDns1 0, (set_moves w g 2 (.bool false)).trans (set_moves _ g 3 (.int .u32 0)) (fun _ _ h => h)⟩
set_option maxHeartbeats 1000000 in
set_option maxRecDepth 100000 in
theorem dr131 (g : Nat) (p : Po) (d : ByteArray) (w : World) (h : PAt w g p) : Calls Tryz.prog 140 #[.pointer (some ⟨g, 0, none⟩)] w (NkQ (dropP p (131, d)) g w) := by
  have HP := Lib.hid h
  have p0 : w.cell? ⟨g, 4, none⟩ = some (Value.bool p.w.h2) := h.c 4
  have f0 := h.f 4
  have p1 : w.cell? ⟨g, 5, none⟩ = some (.int .u32 p.w.dns2.toNat) := h.c 5
  have f1 := h.f 5
  clear h
  go_enter Tryz.func140, Tryz.ntmps140
  go_wp2
  go_end0
  exact ⟨rfl, (HP.out.setH2 false).setDns2 0, (set_moves w g 4 (.bool false)).trans (set_moves _ g 5 (.int .u32 0)) (fun _ _ h => h)⟩
theorem naked_fn {t : UInt8} (ht : known t = true) (g : Nat) (p : Po) (x : Ipc) (w : World) (h : PAt w g p) : Calls Tryz.prog (mN t) #[.pointer (some ⟨g, 0, none⟩), .agg (lv x).toArray] w (NkQ { p with w := nkF p.c p.w x t } g w) := by
  rcases known_cases ht with e | e | e <;> subst e
  · exact nk3 g p x w h
  · exact nk129 g p x w h
  · exact nk131 g p x w h
theorem drop_fn {o : Opt} (ht : known o.1 = true) (g : Nat) (p : Po) (w : World) (h : PAt w g p) : Calls Tryz.prog (mX o.1) #[.pointer (some ⟨g, 0, none⟩)] w (NkQ (dropP p o) g w) := by
  obtain ⟨t, d⟩ := o
  rcases known_cases ht with e | e | e <;> (simp only at e; subst e)
  · exact dr3 g p d w h
  · exact dr129 g p d w h
  · exact dr131 g p d w h
set_option maxRecDepth 100000 in
theorem field1 (a b c : Nat) (w : World) : (Instr.field 217 (.agg #[.func (.func a) #[] #[], .func (.func b) #[] #[], .func (.func c) #[] #[]]) 1).run Tryz.prog w = .ok (.func (.func b) #[] #[]) w := by kernel_rfl
set_option maxRecDepth 100000 in
theorem field2 (a b c : Nat) (w : World) : (Instr.field 217 (.agg #[.func (.func a) #[] #[], .func (.func b) #[] #[], .func (.func c) #[] #[]]) 2).run Tryz.prog w = .ok (.func (.func c) #[] #[]) w := by kernel_rfl
/-! ### plain mathematics -/
theorem nkW_step {c : Conf} {w x : Ipc} {m : UInt8 → Bool} {t : UInt8} (ht : known t = true) : nkF c (nkW c w x m) x t = nkW c w x (fun u => m u || u == t) := by
  rcases known_cases ht with e | e | e <;> subst e
  · unfold nkF nkW
    by_cases h : c.addr = 0
    · cases h1 : m 3 <;> simp [h, h1, or_or]
    · simp [h]
  · unfold nkF nkW
    cases h1 : m 129 <;> simp [h1, or_or]
  · unfold nkF nkW
    cases h1 : m 131 <;> simp [h1, or_or]
theorem nkW_congr {c : Conf} {w x : Ipc} {m m' : UInt8 → Bool} (h : ∀ t, known t = true → m t = m' t) : nkW c w x m = nkW c w x m' := by
  unfold nkW
  rw [h 3 rfl, h 129 rfl, h 131 rfl]
def mk (l : List Opt) (t : UInt8) : Bool := l.any fun o => t == o.1
theorem mk_snoc (l : List Opt) (k : Nat) (o : Opt) (h : l[k]? = some o) : mk (l.take (k + 1)) = fun t => mk (l.take k) t || t == o.1 := by
  obtain ⟨hk, rfl⟩ := List.getElem?_eq_some_iff.1 h
  funext t
  unfold mk
  rw [List.take_succ_eq_append_getElem hk, List.any_append, List.any_cons, List.any_nil, Bool.or_false]
theorem mk_put {x : Ipc} {t : UInt8} (ht : known t = true) : mk (put x) t = has t x := by
  rw [Bool.eq_iff_iff]
  unfold mk
  rw [List.any_eq_true]
  constructor
  · rintro ⟨⟨u, d⟩, ho, h⟩
    simp only [beq_iff_eq] at h
    subst h
    exact (mem_put.1 ho).2.1
  · intro h
    exact ⟨(t, dat t x), mem_put.2 ⟨ht, h, rfl⟩, by simp⟩
theorem nkW_may {c : Conf} {w x : Ipc} (h : may w = true) : may (nkW c w x (fun t => has t w)) = true := by
  rw [may_iff] at h ⊢
  obtain ⟨h1, h2, h3⟩ := h
  refine ⟨fun e => ?_, fun e => ?_, fun e => ?_⟩
  · have e' : w.ha = false := e
    show (if has 3 w && c.addr == 0 then or32 x.addr w.addr else w.addr) = 0
    rw [show has 3 w = w.ha from rfl, e']
    exact h1 e'
  · have e' : w.h1 = false := e
    show (if has 129 w then or32 x.dns1 w.dns1 else w.dns1) = 0
    rw [show has 129 w = w.h1 from rfl, e']
    exact h2 e'
  · have e' : w.h2 = false := e
    show (if has 131 w then or32 x.dns2 w.dns2 else w.dns2) = 0
    rw [show has 131 w = w.h2 from rfl, e']
    exact h3 e'
theorem drop_may {w : Ipc} (t : UInt8) (h : may w = true) : may (dropW w t) = true := by
  rw [may_iff] at h ⊢
  obtain ⟨h1, h2, h3⟩ := h
  unfold dropW
  split
  · exact ⟨fun _ => rfl, h2, h3⟩
  · split
    · exact ⟨h1, fun _ => rfl, h3⟩
    · split
      · exact ⟨h1, h2, fun _ => rfl⟩
      · exact ⟨h1, h2, h3⟩
theorem part_mem : ∀ {l r : List Opt}, part l r = true → ∀ o ∈ l, o ∈ r
  | [], _, _, o, h => by cases h
  | _ :: _, [], h, _, _ => by unfold part at h; cases h
  | a :: l, x :: r, h, o, ho => by
    unfold part at h
    by_cases e : x = a
    · rw [if_pos e] at h
      rcases List.mem_cons.1 ho with rfl | ho
      · rw [e]; simp
      · exact List.mem_cons_of_mem _ (part_mem h o ho)
    · rw [if_neg e] at h
      exact List.mem_cons_of_mem _ (part_mem h o ho)
theorem foldl_snoc (p : Po) (l : List Opt) (k : Nat) (o : Opt) (h : l[k]? = some o) : (l.take (k + 1)).foldl dropP p = dropP ((l.take k).foldl dropP p) o := by
  obtain ⟨hk, rfl⟩ := List.getElem?_eq_some_iff.1 h
  rw [List.take_succ_eq_append_getElem hk, List.foldl_append]
  rfl
/-- What a reply answers, and makes of the policy. -/
def RepQ (b : Bool) (q : Po) (g : Nat) (w : World) (e : Ending) (w' : World) : Prop := e = .returned (.bool b) ∧ PAt w' g q ∧ Moves (fun k => k = g) w w'
end Go.Proofs.YtgefodpnhifmdaaGreat.Ipp
