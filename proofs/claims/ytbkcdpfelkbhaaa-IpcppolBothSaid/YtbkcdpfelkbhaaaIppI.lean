/- Contract of improved. -/
import Derived.Test.YtbkcdpfelkbhaaaIppD
import Derived.Test.YtbkcdpfelkbhaaaIppE
import Derived.Test.YtbkcdpfelkbhaaaIppG
import Derived.Test.YtbkcdpfelkbhaaaG4
import Derived.Test.YtbkcdpfelkbhaaaIpcD
import Derived.Deep.CutRange
import Derived.OrdersHeld
set_option linter.unusedSimpArgs false
set_option linter.unusedVariables false
namespace Go.Proofs.Ytbkcdpfelkbhaaa.Ipp
open Go.RowKit Go.Proofs.Ytbkcdpfelkbhaaa.Oct Go.Proofs.Ytbkcdpfelkbhaaa.Row Go.Proofs.Ytbkcdpfelkbhaaa.Mem Go.Proofs.Ytbkcdpfelkbhaaa.Opt Go.Proofs.Ytbkcdpfelkbhaaa.Ipc

theorem put_len (x : Ipc) : (put x).length ≤ 3 := gat_three x ▸ gat_len x 3
theorem one_opt (w : World) (o : Opt) (hz : o.2.size ≤ 140737488351232) : Opts (w.alloc (.cells #[.int .u8 o.1.toNat, .string o.2] 48)) (w.alloc (.cells #[.int .u8 o.1.toNat, .string o.2] 48)).heap.size (some ⟨w.heap.size, 0, none⟩) 1 [o] := by
  refine ⟨rfl, fun p hp => by rw [List.mem_singleton] at hp; rw [hp]; exact hz, fun _ => ⟨_, rfl, by simp, fun j hj => ?_⟩⟩
  obtain rfl : j = 0 := by simp at hj; omega
  have h := at_new w o.1 o.2
  exact ⟨h.c0, h.c1⟩
/-- The three boxes ahead. -/
theorem boxI (w : World) (o : Opt) (a b c : Value) : ∃ W, ((w.alloc (.cells #[.int .u8 o.1.toNat, .string o.2] 48)).alloc (.cells #[a, b, c] 83)).alloc (.cells #[.int .u8 0, .string ⟨#[]⟩] 48) = W ∧ Hid (At W w.heap.size o ∧ Blk W (w.heap.size + 1) [a, b, c] 83 ∧ At W (w.heap.size + 1 + 1) (0, ⟨#[]⟩) ∧ Below w.heap.size w W ∧ W.heap.size = w.heap.size + 1 + 1 + 1) := by
  refine ⟨_, rfl, ((at_new w o.1 o.2).alloc _).alloc _, ?_, ?_, (((Below.refl w.heap.size w).alloc (Nat.le_refl _) _).alloc (by simp) _).alloc (by simp; omega) _, by simp⟩
  · have := (blk_new (w.alloc (.cells #[.int .u8 o.1.toNat, .string o.2] 48)) [a, b, c] 83).alloc (.cells #[.int .u8 0, .string ⟨#[]⟩] 48)
    rw [World.size_alloc] at this
    exact this
  · have := at_new ((w.alloc (.cells #[.int .u8 o.1.toNat, .string o.2] 48)).alloc (.cells #[a, b, c] 83)) 0 ⟨#[]⟩
    rw [World.size_alloc, World.size_alloc] at this
    exact this
/-- What stands on the way: the boxes, the policy, the struct. -/
structure Im (w wr : World) (bw : Unit) (o : Opt) (g : Nat) (p : Po) (a b c : Value) (x : Ipc) (bx : Nat) : Prop where
  p : PAt wr g p
  o : At wr w.heap.size o
  s : Blk wr (w.heap.size + 1) [a, b, c] 83
  r : At wr (w.heap.size + 1 + 1) (0, ⟨#[]⟩)
  x : LAt wr bx x
  b : Below w.heap.size w wr
  n : w.heap.size + 1 + 1 < bx
theorem Im.callee {w wr w' : World} {bw : Unit} {o : Opt} {g : Nat} {p : Po} {a b c : Value} {x : Ipc} {bx : Nat} (h : Im w wr bw o g p a b c x bx) (hb : Below wr.heap.size wr w') : Im w w' bw o g p a b c x bx :=
  ⟨h.p.callee hb, h.o.callee hb, Blk.callee h.s hb, h.r.callee hb, h.x.callee hb, h.b.trans (hb.mono h.b.size), h.n⟩
theorem Im.cells {w wr : World} {bw : Unit} {o : Opt} {g : Nat} {p : Po} {a b c : Value} {x : Ipc} {bx : Nat} (h : Im w wr bw o g p a b c x bx) : wr.cell? ⟨w.heap.size, 0, none⟩ = some (.int .u8 o.1.toNat) ∧ wr.cell? ⟨w.heap.size + 1, 0, none⟩ = some a ∧ wr.cell? ⟨bx, 0, none⟩ = some (Value.bool x.ha) ∧ wr.cell? ⟨bx, 1, none⟩ = some (.int .u32 x.addr.toNat) ∧ wr.cell? ⟨bx, 2, none⟩ = some (.bool x.h1) ∧ wr.cell? ⟨bx, 3, none⟩ = some (.int .u32 x.dns1.toNat) ∧ wr.cell? ⟨bx, 4, none⟩ = some (.bool x.h2) ∧ wr.cell? ⟨bx, 5, none⟩ = some (.int .u32 x.dns2.toNat) :=
  ⟨h.o.c0, Blk.at_ h.s 0, h.x.c 0, h.x.c 1, h.x.c 2, h.x.c 3, h.x.c 4, h.x.c 5⟩
theorem Im.cells' {w wr w' : World} {bw : Unit} {o : Opt} {g : Nat} {p : Po} {a b c : Value} {x : Ipc} {bx : Nat} (h : Im w wr bw o g p a b c x bx) (hm : Moves (fun k => k = w.heap.size + 1 + 1) wr w') (hn : bx ≠ w.heap.size + 1 + 1) : w'.cell? ⟨w.heap.size, 0, none⟩ = some (.int .u8 o.1.toNat) ∧ w'.cell? ⟨w.heap.size + 1, 0, none⟩ = some a ∧ w'.cell? ⟨bx, 0, none⟩ = some (Value.bool x.ha) ∧ w'.cell? ⟨bx, 1, none⟩ = some (.int .u32 x.addr.toNat) ∧ w'.cell? ⟨bx, 2, none⟩ = some (.bool x.h1) ∧ w'.cell? ⟨bx, 3, none⟩ = some (.int .u32 x.dns1.toNat) ∧ w'.cell? ⟨bx, 4, none⟩ = some (.bool x.h2) ∧ w'.cell? ⟨bx, 5, none⟩ = some (.int .u32 x.dns2.toNat) := by
  have h1 : At w' w.heap.size o := Blk.moves h.o hm (by omega)
  have h2 : Blk w' (w.heap.size + 1) [a, b, c] 83 := Blk.moves h.s hm (by omega)
  have h3 : LAt w' bx x := Blk.moves h.x hm hn
  exact ⟨h1.c0, Blk.at_ h2 0, h3.c 0, h3.c 1, h3.c 2, h3.c 3, h3.c 4, h3.c 5⟩
set_option maxHeartbeats 8000000 in
set_option maxRecDepth 100000 in
theorem improved_any (g : Nat) (p : Po) (o : Opt) (a b c : Value) (w : World) (h : PAt w g p) (hs : known o.1 = true → .agg #[a, b, c] = trip o.1) (hd : o.2.size ≤ 140737488351232) :
    Calls Try.prog 50 #[.pointer (some ⟨g, 0, none⟩), .agg #[.int .u8 o.1.toNat, .string o.2], .agg #[a, b, c]] w (PickQ (imp p o) (ok p o) w) := by
  obtain ⟨W, hW, HW⟩ := boxI w o a b c
  have HB := Lib.hid HW.out.2.2.2.1
  have HP := Lib.hid (h.callee HB.out)
  have c0 := HW.out.1.c0
  have c1 := HW.out.1.c1
  have HO := Lib.hid HW.out.1
  have HF := Lib.hid HW.out.2.1
  have HR := Lib.hid HW.out.2.2.1
  have HSZ := Lib.hid HW.out.2.2.2.2
  have HD := Lib.hid hd
  have C1 := Lib.hid (fun W => good_any o.1 o.2 W (by unfold maxLen; omega))
  cases hg : good o
  · have HE : Hid (ok p o = false ∧ imp p o = zo) := by
      have : ok p o = false := by unfold ok; rw [hg]; rfl
      refine ⟨this, ?_⟩
      unfold imp
      rw [this]
      rfl
    rw [HE.out.1, HE.out.2]
    rw [hg] at C1
    clear h HW hs hd hg
    go_enter Try.func50, Try.ntmps50
    go_wp2_with fail
    refine (C1.out _).mono ?_
    rintro e w1 ⟨rfl, hb1⟩
    have HB1 := Lib.hid (HB.out.trans (hb1.mono HB.out.size))
    have HR1 := Lib.hid (HR.out.callee hb1)
    have f0 := Blk.frozen HR1.out 0
    have f1 := Blk.frozen HR1.out 1
    have z0 := HR1.out.c0
    have z1 := HR1.out.c1
    clear hb1 hW
    go_wp2
    (try simp only [Exit.inBlock, Exit.then])
    refine bodyPost_ret (pick_end rfl _ zo (HR1.out.set zo) rfl) rfl ?_
    exact ⟨rfl, (HB1.out.setCell (p := ⟨w.heap.size + 1 + 1, 0, none⟩) (by show w.heap.size ≤ w.heap.size + 1 + 1; omega) _).setCell (p := ⟨w.heap.size + 1 + 1, 1, none⟩) (by show w.heap.size ≤ w.heap.size + 1 + 1; omega) _⟩
  · have hk := good_known hg
    have ht := hs hk
    have HT := Lib.hid (fun g p x w h => bet_any hk g p x w h)
    have hE := mB_enters hk
    have HFD := Lib.hid (find_bet (p := p) hg)
    unfold trip at ht
    obtain ⟨e1, e2, e3⟩ : a = .func (.func (mB o.1)) #[] #[] ∧ b = .func (.func (mN o.1)) #[] #[] ∧ c = .func (.func (mX o.1)) #[] #[] := by simpa using ht
    subst e1 e2 e3
    generalize mB o.1 = F1 at *
    generalize mN o.1 = F2 at *
    generalize mX o.1 = F3 at *
    rw [hg] at C1
    clear h HW hs hd hg ht hk
    go_enter Try.func50, Try.ntmps50
    go_wp2_with fail
    refine (C1.out _).mono ?_
    rintro e W1 ⟨rfl, hb1⟩
    have HB1 := Lib.hid (HB.out.trans (hb1.mono HB.out.size))
    have HR1 := Lib.hid (HR.out.callee hb1)
    have HO1 := Lib.hid (HO.out.callee hb1)
    have HF1 := Lib.hid (Blk.callee HF.out hb1)
    have HP1 := Lib.hid (HP.out.callee hb1)
    have HZ1 : Hid (w.heap.size + 1 + 1 < W1.heap.size) := by have := hb1.size; have := HSZ.out; show _ < _; omega
    have HG := Lib.hid (get_any [o] _ (some ⟨W1.heap.size, 0, none⟩) 1 1 (W1.alloc (.cells #[.int .u8 o.1.toNat, .string o.2] 48)) (one_opt W1 o HD.out) (by omega) (Nat.le_refl _))
    have c0 := HO1.out.c0
    have c1 := HO1.out.c1
    clear hb1 hW HB HR HO HF HP HSZ C1
    go_wp2_with fail
    refine HG.out.mono ?_
    rintro e w1 ⟨A, c, rfl, _, hb1⟩
    have HB2 := Lib.hid (((Below.refl W1.heap.size W1).alloc (Nat.le_refl _) (.cells #[.int .u8 o.1.toNat, .string o.2] 48)).trans (hb1.mono (by simp)))
    clear hb1 HG
    rw [show Ipc.gL [o] = lo o from rfl]
    generalize (gO [o]).length = n1
    generalize gE [o] = e1
    generalize lo o = x at *
    obtain ⟨V, hV, HV⟩ := boxL w1 x
    have HB3 : Hid (Below W1.heap.size W1 V) := HB2.out.trans (HV.out.2.1.mono HB2.out.size)
    have HI : Hid (Im w V () o g p (.func (.func F1) #[] #[]) (.func (.func F2) #[] #[]) (.func (.func F3) #[] #[]) x w1.heap.size) :=
      ⟨HP1.out.callee HB3.out, HO1.out.callee HB3.out, Blk.callee HF1.out HB3.out, HR1.out.callee HB3.out, HV.out.1, HB1.out.trans (HB3.out.mono HB1.out.size), by have := HB2.out.size; have := HZ1.out; omega⟩
    have HL := Lib.hid (fun w => list_any (bet p o.1 x) w (bet_may p o.1 x))
    obtain ⟨t0, k0, d0, d1, d2, d3, d4, d5⟩ := HI.out.cells
    have HF := HFD
    clear HFD HP1 HO1 HF1 HR1 HB1 HB2 HB3 HV HZ1 c0 c1
    unfold lv
    generalize hbw : () = bw at HI
    clear hbw
    go_wp2_with fail
    clear hV
    refine wp_region_held_drew (S := (fun w' => w'.cell? ⟨w.heap.size, 0, none⟩ = some (.int .u8 o.1.toNat) ∧ w'.cell? ⟨w.heap.size + 1, 0, none⟩ = some (.func (.func F1) #[] #[]) ∧ w'.cell? ⟨w1.heap.size, 0, none⟩ = some (Value.bool x.ha) ∧ w'.cell? ⟨w1.heap.size, 1, none⟩ = some (.int .u32 x.addr.toNat) ∧ w'.cell? ⟨w1.heap.size, 2, none⟩ = some (.bool x.h1) ∧ w'.cell? ⟨w1.heap.size, 3, none⟩ = some (.int .u32 x.dns1.toNat) ∧ w'.cell? ⟨w1.heap.size, 4, none⟩ = some (.bool x.h2) ∧ w'.cell? ⟨w1.heap.size, 5, none⟩ = some (.int .u32 x.dns2.toNat))) (by kernel_rfl) ⟨t0, k0, d0, d1, d2, d3, d4, d5⟩ (fun hHeld => ?_)
    have HJ : Hid (Im w V.drew bw o g p (.func (.func F1) #[] #[]) (.func (.func F2) #[] #[]) (.func (.func F3) #[] #[]) x w1.heap.size) := HI.out.callee (Below.refl _ V).drew
    clear HI t0 k0 d0 d1 d2 d3 d4 d5
    generalize V.drew = U at *
    refine wpAnyH_take (i := 0) (v := ?vv0_1) rfl (by kernel_rfl) (by kernel_rfl) (by kernel_rfl) (fun _ _ _ h => h) (Or.inl ⟨by rfl, ?yy0_1⟩) (by assumption) ?rr0_1
    case yy0_1 => (intro w hSw; (try dsimp only at hSw); obtain ⟨hc0, hk0, hs0, hs1, hs2, hs3, hs4, hs5⟩ := hSw; (try simp only [List.getElem_toArray, List.getElem_cons_succ, List.getElem_cons_zero, Act.put, List.setIfInBounds_toArray, List.set_cons_zero, List.set_cons_succ]); go_simp; (try (with_reducible rfl)))
    try simp only [List.getElem_toArray, List.getElem_cons_succ, List.getElem_cons_zero, Act.put, List.setIfInBounds_toArray, List.set_cons_zero, List.set_cons_succ]
    refine wpAnyH_take (i := 1) (v := ?vv1_2) rfl (by kernel_rfl) (by kernel_rfl) (by kernel_rfl) (fun _ _ _ h => h) (Or.inl ⟨by rfl, ?yy1_2⟩) (by assumption) ?rr1_2
    case yy1_2 => (intro w hSw; (try dsimp only at hSw); obtain ⟨hc0, hk0, hs0, hs1, hs2, hs3, hs4, hs5⟩ := hSw; (try simp only [List.getElem_toArray, List.getElem_cons_succ, List.getElem_cons_zero, Act.put, List.setIfInBounds_toArray, List.set_cons_zero, List.set_cons_succ]); go_simp; (try (with_reducible rfl)))
    try simp only [List.getElem_toArray, List.getElem_cons_succ, List.getElem_cons_zero, Act.put, List.setIfInBounds_toArray, List.set_cons_zero, List.set_cons_succ]
    refine wpAnyH_take (i := 2) (v := ?vv2_3) rfl (by kernel_rfl) (by kernel_rfl) (by kernel_rfl) (fun _ _ _ h => h) (Or.inl ⟨by rfl, ?yy2_3⟩) (by assumption) ?rr2_3
    case yy2_3 => (intro w hSw; (try dsimp only at hSw); obtain ⟨hc0, hk0, hs0, hs1, hs2, hs3, hs4, hs5⟩ := hSw; (try simp only [List.getElem_toArray, List.getElem_cons_succ, List.getElem_cons_zero, Act.put, List.setIfInBounds_toArray, List.set_cons_zero, List.set_cons_succ]); go_simp; (try (with_reducible rfl)))
    try simp only [List.getElem_toArray, List.getElem_cons_succ, List.getElem_cons_zero, Act.put, List.setIfInBounds_toArray, List.set_cons_zero, List.set_cons_succ]
    refine wpAnyH_take (i := 3) (v := ?vv3_4) rfl (by kernel_rfl) (by kernel_rfl) (by kernel_rfl) (fun _ _ _ h => h) (Or.inl ⟨by rfl, ?yy3_4⟩) (by assumption) ?rr3_4
    case yy3_4 => (intro w hSw; (try dsimp only at hSw); obtain ⟨hc0, hk0, hs0, hs1, hs2, hs3, hs4, hs5⟩ := hSw; (try simp only [List.getElem_toArray, List.getElem_cons_succ, List.getElem_cons_zero, Act.put, List.setIfInBounds_toArray, List.set_cons_zero, List.set_cons_succ]); go_simp; (try (with_reducible rfl)))
    try simp only [List.getElem_toArray, List.getElem_cons_succ, List.getElem_cons_zero, Act.put, List.setIfInBounds_toArray, List.set_cons_zero, List.set_cons_succ]
    refine wpAnyH_take (i := 4) (v := ?vv4_5) rfl (by kernel_rfl) (by kernel_rfl) (by kernel_rfl) (fun _ _ _ h => h) (Or.inl ⟨by rfl, ?yy4_5⟩) (by assumption) ?rr4_5
    case yy4_5 => (intro w hSw; (try dsimp only at hSw); obtain ⟨hc0, hk0, hs0, hs1, hs2, hs3, hs4, hs5⟩ := hSw; (try simp only [List.getElem_toArray, List.getElem_cons_succ, List.getElem_cons_zero, Act.put, List.setIfInBounds_toArray, List.set_cons_zero, List.set_cons_succ]); go_simp; (try (with_reducible rfl)))
    try simp only [List.getElem_toArray, List.getElem_cons_succ, List.getElem_cons_zero, Act.put, List.setIfInBounds_toArray, List.set_cons_zero, List.set_cons_succ]
    refine wpAnyH_take (i := 5) (v := ?vv5_6) rfl (by kernel_rfl) (by kernel_rfl) (by kernel_rfl) (fun _ _ _ h => h) (Or.inl ⟨by rfl, ?yy5_6⟩) (by assumption) ?rr5_6
    case yy5_6 => (intro w hSw; (try dsimp only at hSw); obtain ⟨hc0, hk0, hs0, hs1, hs2, hs3, hs4, hs5⟩ := hSw; (try simp only [List.getElem_toArray, List.getElem_cons_succ, List.getElem_cons_zero, Act.put, List.setIfInBounds_toArray, List.set_cons_zero, List.set_cons_succ]); go_simp; (try (with_reducible rfl)))
    try simp only [List.getElem_toArray, List.getElem_cons_succ, List.getElem_cons_zero, Act.put, List.setIfInBounds_toArray, List.set_cons_zero, List.set_cons_succ]
    refine wpAnyH_ready (rs := [6]) (by kernel_rfl) (by simp) ?_
    refine AllReadyH.cons (o := _) rfl (fun K hK => ?_) AllReadyH.nil
    try simp only [List.getElem_toArray, List.getElem_cons_succ, List.getElem_cons_zero, Act.put, List.setIfInBounds_toArray, List.set_cons_zero, List.set_cons_succ]
    go_simp
    refine (HT.out g p x _ HJ.out.p).mono ?_
    rintro e w2 ⟨rfl, hb2⟩
    have HJ2 := Lib.hid (HJ.out.callee hb2)
    clear hb2
    obtain ⟨t0, k0, d0, d1, d2, d3, d4, d5⟩ := HJ2.out.cells
    refine hK.out _ _ ⟨t0, k0, d0, d1, d2, d3, d4, d5⟩ (fun hHeld => ?_)
    clear hK K t0 k0 d0 d1 d2 d3 d4 d5
    try simp only [List.getElem_toArray, List.getElem_cons_succ, List.getElem_cons_zero, Act.put, List.setIfInBounds_toArray, List.set_cons_zero, List.set_cons_succ]
    refine wpAnyH_ready (rs := [7]) (by kernel_rfl) (by simp) ?_
    refine AllReadyH.cons (o := _) rfl (fun K hK => ?_) AllReadyH.nil
    try simp only [List.getElem_toArray, List.getElem_cons_succ, List.getElem_cons_zero, Act.put, List.setIfInBounds_toArray, List.set_cons_zero, List.set_cons_succ]
    go_simp
    refine (HL.out _).mono ?_
    rintro e w3 ⟨A, cc, rfl, hO, hA, hb3⟩
    have HJ3 := Lib.hid (HJ2.out.callee hb3)
    have HO := Lib.hid hO
    clear hb3 hO hA
    obtain ⟨t0, k0, d0, d1, d2, d3, d4, d5⟩ := HJ3.out.cells
    refine hK.out _ _ ⟨t0, k0, d0, d1, d2, d3, d4, d5⟩ (fun hHeld => ?_)
    clear hK K t0 k0 d0 d1 d2 d3 d4 d5
    try simp only [List.getElem_toArray, List.getElem_cons_succ, List.getElem_cons_zero, Act.put, List.setIfInBounds_toArray, List.set_cons_zero, List.set_cons_succ]
    refine wpAnyH_ready (rs := [8]) (by kernel_rfl) (by simp) ?_
    refine AllReadyH.cons (o := _) rfl (fun K hK => ?_) AllReadyH.nil
    try simp only [List.getElem_toArray, List.getElem_cons_succ, List.getElem_cons_zero, Act.put, List.setIfInBounds_toArray, List.set_cons_zero, List.set_cons_succ]
    go_simp
    refine (find_any o.1 (put (bet p o.1 x)) _ A _ cc w3 HO.out (by have := put_len (bet p o.1 x); unfold maxLen; omega) (Nat.le_refl _)).mono ?_
    rintro e w4 ⟨rfl, hb4⟩
    have HJ4 := Lib.hid (HJ3.out.callee hb4)
    clear hb4 HO
    obtain ⟨t0, k0, d0, d1, d2, d3, d4, d5⟩ := HJ4.out.cells
    refine hK.out _ _ ⟨t0, k0, d0, d1, d2, d3, d4, d5⟩ (fun hHeld => ?_)
    clear hK K t0 k0 d0 d1 d2 d3 d4 d5
    try simp only [List.getElem_toArray, List.getElem_cons_succ, List.getElem_cons_zero, Act.put, List.setIfInBounds_toArray, List.set_cons_zero, List.set_cons_succ]
    rw [HF.out.1, HF.out.2]
    generalize imp p o = r at *
    generalize ok p o = q at *
    refine wpAnyH_take (i := 9) (v := ?vv9_7) rfl (by kernel_rfl) (by kernel_rfl) (by kernel_rfl) (fun _ _ _ h => h) (Or.inl ⟨by rfl, ?yy9_7⟩) (by assumption) ?rr9_7
    case yy9_7 => (intro w hSw; (try dsimp only at hSw); obtain ⟨hc0, hk0, hs0, hs1, hs2, hs3, hs4, hs5⟩ := hSw; (try simp only [List.getElem_toArray, List.getElem_cons_succ, List.getElem_cons_zero, Act.put, List.setIfInBounds_toArray, List.set_cons_zero, List.set_cons_succ]); go_simp; (try (with_reducible rfl)))
    try simp only [List.getElem_toArray, List.getElem_cons_succ, List.getElem_cons_zero, Act.put, List.setIfInBounds_toArray, List.set_cons_zero, List.set_cons_succ]
    refine wpAnyH_take (i := 10) (v := ?vv10_8) rfl (by kernel_rfl) (by kernel_rfl) (by kernel_rfl) (fun _ _ _ h => h) (Or.inl ⟨by rfl, ?yy10_8⟩) (by assumption) ?rr10_8
    case yy10_8 => (intro w hSw; (try dsimp only at hSw); obtain ⟨hc0, hk0, hs0, hs1, hs2, hs3, hs4, hs5⟩ := hSw; (try simp only [List.getElem_toArray, List.getElem_cons_succ, List.getElem_cons_zero, Act.put, List.setIfInBounds_toArray, List.set_cons_zero, List.set_cons_succ]); go_simp; (try (with_reducible rfl)))
    try simp only [List.getElem_toArray, List.getElem_cons_succ, List.getElem_cons_zero, Act.put, List.setIfInBounds_toArray, List.set_cons_zero, List.set_cons_succ]
    refine wpAnyH_ready (rs := [11]) (by kernel_rfl) (by simp) ?_
    have f0 := Blk.frozen HJ4.out.r 0
    have f1 := Blk.frozen HJ4.out.r 1
    have z0 := HJ4.out.r.c0
    have z1 := HJ4.out.r.c1
    refine AllReadyH.cons (o := _) rfl (fun K hK => ?_) AllReadyH.nil
    try simp only [List.getElem_toArray, List.getElem_cons_succ, List.getElem_cons_zero, Act.put, List.setIfInBounds_toArray, List.set_cons_zero, List.set_cons_succ]
    go_simp
    have HM : Hid (Moves (fun k => k = w.heap.size + 1 + 1) w4 ((w4.setCell ⟨w.heap.size + 1 + 1, 0, none⟩ (.int .u8 r.1.toNat)).setCell ⟨w.heap.size + 1 + 1, 1, none⟩ (.string r.2))) := (set_moves _ _ _ _).trans (set_moves _ _ _ _) (fun _ _ h => h)
    have HR : Hid (At ((w4.setCell ⟨w.heap.size + 1 + 1, 0, none⟩ (.int .u8 r.1.toNat)).setCell ⟨w.heap.size + 1 + 1, 1, none⟩ (.string r.2)) (w.heap.size + 1 + 1) r) := HJ4.out.r.set r
    have HB : Hid (Below w.heap.size w ((w4.setCell ⟨w.heap.size + 1 + 1, 0, none⟩ (.int .u8 r.1.toNat)).setCell ⟨w.heap.size + 1 + 1, 1, none⟩ (.string r.2))) := HJ4.out.b.trans (HM.out.below HJ4.out.b.size (fun k e => by omega))
    obtain ⟨t0, k0, d0, d1, d2, d3, d4, d5⟩ := HJ4.out.cells' HM.out (by have := HJ4.out.n; omega)
    refine hK.out _ _ ⟨t0, k0, d0, d1, d2, d3, d4, d5⟩ (fun hHeld => ?_)
    clear hK K
    try simp only [List.getElem_toArray, List.getElem_cons_succ, List.getElem_cons_zero, Act.put, List.setIfInBounds_toArray, List.set_cons_zero, List.set_cons_succ]
    refine wpAnyH_take (i := 12) (v := ?vv12_9) rfl (by kernel_rfl) (by kernel_rfl) (by kernel_rfl) (fun _ _ _ h => h) (Or.inl ⟨by rfl, ?yy12_9⟩) (by assumption) ?rr12_9
    case yy12_9 => (intro w hSw; (try dsimp only at hSw); obtain ⟨hc0, hk0, hs0, hs1, hs2, hs3, hs4, hs5⟩ := hSw; (try simp only [List.getElem_toArray, List.getElem_cons_succ, List.getElem_cons_zero, Act.put, List.setIfInBounds_toArray, List.set_cons_zero, List.set_cons_succ]); go_simp; (try (with_reducible rfl)))
    try simp only [List.getElem_toArray, List.getElem_cons_succ, List.getElem_cons_zero, Act.put, List.setIfInBounds_toArray, List.set_cons_zero, List.set_cons_succ]
    refine wpAnyH_done (by kernel_rfl) ?_ _
    go_wp2
    (try simp only [Exit.inBlock, Exit.then])
    refine bodyPost_ret (pick_end rfl _ r HR.out rfl) rfl ?_
    exact ⟨rfl, HB.out⟩
end Go.Proofs.Ytbkcdpfelkbhaaa.Ipp
