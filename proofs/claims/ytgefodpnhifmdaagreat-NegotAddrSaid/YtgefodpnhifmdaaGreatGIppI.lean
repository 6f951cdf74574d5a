/- Put together: IppI, IppJ, IppL. -/
import Derived.Test.YtgefodpnhifmdaaGreatGIpcA
import Derived.Test.YtgefodpnhifmdaaGreatGIppE
import Derived.Test.YtgefodpnhifmdaaGreatGIppN
import Derived.Test.YtgefodpnhifmdaaGreatGOptRf
import Derived.Test.YtgefodpnhifmdaaGreatGIpcD
import Derived.Deep.CutRange
import Derived.OrdersHeld
import Derived.Test.YtgefodpnhifmdaaGreatGTxt
import Derived.Deep.LoopGhost
import Derived.Deep.RegionHeld3

/- Contract of improved. -/
set_option linter.unusedSimpArgs false
set_option linter.unusedVariables false
namespace Go.Proofs.YtgefodpnhifmdaaGreat.Ipp
open Go.RowKit Go.Proofs.YtgefodpnhifmdaaGreat.Oct Go.Proofs.YtgefodpnhifmdaaGreat.Row Go.Proofs.YtgefodpnhifmdaaGreat.Mem Go.Proofs.YtgefodpnhifmdaaGreat.Opt Go.Proofs.YtgefodpnhifmdaaGreat.Ipc

theorem put_len (x : Ipc) : (put x).length ≤ 3 := gat_three x ▸ gat_len x 3
theorem one_opt (w : World) (o : Opt) (hz : o.2.size ≤ 140737488351232) : Opts (w.alloc (.cells #[.int .u8 o.1.toNat, .string o.2] 157)) (w.alloc (.cells #[.int .u8 o.1.toNat, .string o.2] 157)).heap.size (some ⟨w.heap.size, 0, none⟩) 1 [o] := by
  refine ⟨rfl, fun p hp => by rw [List.mem_singleton] at hp; rw [hp]; exact hz, fun _ => ⟨_, rfl, by simp, fun j hj => ?_⟩⟩
  obtain rfl : j = 0 := by simp at hj; omega
  have h := at_new w o.1 o.2
  exact ⟨h.c0, h.c1⟩
/-- The three boxes ahead. -/
theorem boxI (w : World) (o : Opt) (a b c : Value) : ∃ W, ((w.alloc (.cells #[.int .u8 o.1.toNat, .string o.2] 157)).alloc (.cells #[a, b, c] 217)).alloc (.cells #[.int .u8 0, .string ⟨#[]⟩] 157) = W ∧ Hid (At W w.heap.size o ∧ Blk W (w.heap.size + 1) [a, b, c] 217 ∧ At W (w.heap.size + 1 + 1) (0, ⟨#[]⟩) ∧ Below w.heap.size w W ∧ W.heap.size = w.heap.size + 1 + 1 + 1) := by
  refine ⟨_, rfl, ((at_new w o.1 o.2).alloc _).alloc _, ?_, ?_, (((Below.refl w.heap.size w).alloc (Nat.le_refl _) _).alloc (by simp) _).alloc (by simp; omega) _, by simp⟩
  · have := (blk_new (w.alloc (.cells #[.int .u8 o.1.toNat, .string o.2] 157)) [a, b, c] 217).alloc (.cells #[.int .u8 0, .string ⟨#[]⟩] 157)
    rw [World.size_alloc] at this
    exact this
  · have := at_new ((w.alloc (.cells #[.int .u8 o.1.toNat, .string o.2] 157)).alloc (.cells #[a, b, c] 217)) 0 ⟨#[]⟩
    rw [World.size_alloc, World.size_alloc] at this
    exact this
/-- What stands on the way: the boxes, the policy, the struct. -/
structure Im (w wr : World) (bw : Unit) (o : Opt) (g : Nat) (p : Po) (a b c : Value) (x : Ipc) (bx : Nat) : Prop where
  p : PAt wr g p
  o : At wr w.heap.size o
  s : Blk wr (w.heap.size + 1) [a, b, c] 217
  r : At wr (w.heap.size + 1 + 1) (0, ⟨#[]⟩)
  x : LAt wr bx x
  b : Below w.heap.size w wr
  n : w.heap.size + 1 + 1 < bx
theorem Im.callee {w wr w' : World} {bw : Unit} {o : Opt} {g : Nat} {p : Po} {a b c : Value} {x : Ipc} {bx : Nat} (h : Im w wr bw o g p a b c x bx) (hb : Below wr.heap.size wr w') : Im w w' bw o g p a b c x bx :=
  ⟨h.p.callee hb, h.o.callee hb, Blk.callee h.s hb, h.r.callee hb, h.x.callee hb, h.b.trans (hb.mono h.b.size), h.n⟩
theorem Im.cells {w wr : World} {bw : Unit} {o : Opt} {g : Nat} {p : Po} {a b c : Value} {x : Ipc} {bx : Nat} (h : Im w wr bw o g p a b c x bx) : wr.cell? ⟨w.heap.size, 0, none⟩ = some (.int .u8 o.1.toNat) ∧ wr.cell? ⟨w.heap.size + 1, 0, none⟩ = some a ∧ wr.cell? ⟨bx, 0, none⟩ = some (Value.bool x.ha) ∧ wr.cell? ⟨bx, 1, none⟩ = some (.int .u32 x.addr.toNat) ∧ wr.cell? ⟨bx, 2, none⟩ = some (.bool x.h1) ∧ wr.cell? ⟨bx, 3, none⟩ = some (.int .u32 x.dns1.toNat) ∧ wr.cell? ⟨bx, 4, none⟩ = some (.bool x.h2) ∧ wr.cell? ⟨bx, 5, none⟩ = some (.int .u32 x.dns2.toNat) :=
  ⟨h.o.c0, Blk.at_ h.s 0, h.x.c 0, h.x.c 1, h.x.c 2, h.x.c 3, h.x.c 4, h.x.c 5⟩
theorem Im.cells' {w wr w' : World} {bw : Unit} {o : Opt} {g : Nat} {p : Po} {a b c : Value} {x : Ipc} {bx : Nat} (h : Im w wr bw o g p a b c x bx) (hm : Moves (fun k => k = w.heap.size + 1 + 1) wr w') (hn : bx ≠ w.heap.size + 1 + 1) : w'.cell? ⟨w.heap.size, 0, none⟩ = some (.int .u8 o.1.toNat) ∧ w'.cell? ⟨w.heap.size + 1, 0, none⟩ = some a ∧ w'.cell? ⟨bx, 0, none⟩ = some (Value.bool x.ha) ∧ w'.cell? ⟨bx, 1, none⟩ = some (.int .u32 x.addr.toNat) ∧ w'.cell? ⟨bx, 2, none⟩ = some (.bool x.h1) ∧ w'.cell? ⟨bx, 3, none⟩ = some (.int .u32 x.dns1.toNat) ∧ w'.cell? ⟨bx, 4, none⟩ = some (.bool x.h2) ∧ w'.cell? ⟨bx, 5, none⟩ = some (.int .u32 x.dns2.toNat) := by
  have h1 : At w' w.heap.size o := Blk.moves h.o hm (by omega)
  have h2 : Blk w' (w.heap.size + 1) [a, b, c] 217 := Blk.moves h.s hm (by omega)
  have h3 : LAt w' bx x := Blk.moves h.x hm hn
  exact ⟨h1.c0, Blk.at_ h2 0, h3.c 0, h3.c 1, h3.c 2, h3.c 3, h3.c 4, h3.c 5⟩
set_option maxHeartbeats 8000000 in
set_option maxRecDepth 100000 in
theorem improved_any (g : Nat) (p : Po) (o : Opt) (a b c : Value) (w : World) (h : PAt w g p) (hs : known o.1 = true → .agg #[a, b, c] = trip o.1) (hd : o.2.size ≤ 140737488351232) :
    Calls Tryz.prog 126 #[.pointer (some ⟨g, 0, none⟩), .agg #[.int .u8 o.1.toNat, .string o.2], .agg #[a, b, c]] w (PickQ (imp p o) (ok p o) w) := by
  obtain ⟨W, hW, HW⟩ := boxI w o a b c
  have HB := Lib.hid HW.out.2.2.2.1
  have HP := Lib.hid (h.callee HB.out)
  have c0 := HW.out.1.c0
  have c1 := HW.out.1.c1
  have HO := Lib.hid HW.out.1
  have HF := Lib.hid HW.out.2.1
  have HR := Lib.hid HW.out.2.2.1
  have HSZ := Lib.hid HW.out.2.2.2.2
  have HD := Lib.hid hd
  have C1 := Lib.hid (fun W => good_any o.1 o.2 W (by unfold maxLen; omega))
  cases hg : good o
  · have HE : Hid (ok p o = false ∧ imp p o = zo) := by
      have : ok p o = false := by unfold ok; rw [hg]; rfl
      refine ⟨this, ?_⟩
      unfold imp
      rw [this]
      rfl
    rw [HE.out.1, HE.out.2]
    rw [hg] at C1
    clear h HW hs hd hg
    go_enter Tryz.func126, Tryz.ntmps126
    go_wp2_with fail
    refine (C1.out _).mono ?_
    rintro e w1 ⟨rfl, hb1⟩
    have HB1 := Lib.hid (HB.out.trans (hb1.mono HB.out.size))
    have HR1 := Lib.hid (HR.out.callee hb1)
    have f0 := Blk.frozen HR1.out 0
    have f1 := Blk.frozen HR1.out 1
    have z0 := HR1.out.c0
    have z1 := HR1.out.c1
    clear hb1 hW
    go_wp2
    (try simp only [Exit.inBlock, Exit.then])
    refine bodyPost_ret (pick_end rfl _ zo (HR1.out.set zo) rfl) rfl ?_
    exact ⟨rfl, (HB1.out.setCell (p := ⟨w.heap.size + 1 + 1, 0, none⟩) (by show w.heap.size ≤ w.heap.size + 1 + 1; omega) _).setCell (p := ⟨w.heap.size + 1 + 1, 1, none⟩) (by show w.heap.size ≤ w.heap.size + 1 + 1; omega) _⟩
  · have hk := good_known hg
    have ht := hs hk
    have HT := Lib.hid (fun g p x w h => bet_any hk g p x w h)
    have hE := mB_enters hk
    have HFD := Lib.hid (find_bet (p := p) hg)
    unfold trip at ht
    obtain ⟨e1, e2, e3⟩ : a = .func (.func (mB o.1)) #[] #[] ∧ b = .func (.func (mN o.1)) #[] #[] ∧ c = .func (.func (mX o.1)) #[] #[] := by simpa using ht
    subst e1 e2 e3
    generalize mB o.1 = F1 at *
    generalize mN o.1 = F2 at *
    generalize mX o.1 = F3 at *
    rw [hg] at C1
    clear h HW hs hd hg ht hk
    go_enter Tryz.func126, Tryz.ntmps126
    go_wp2_with fail
    refine (C1.out _).mono ?_
    rintro e W1 ⟨rfl, hb1⟩
    have HB1 := Lib.hid (HB.out.trans (hb1.mono HB.out.size))
    have HR1 := Lib.hid (HR.out.callee hb1)
    have HO1 := Lib.hid (HO.out.callee hb1)
    have HF1 := Lib.hid (Blk.callee HF.out hb1)
    have HP1 := Lib.hid (HP.out.callee hb1)
    have HZ1 : Hid (w.heap.size + 1 + 1 < W1.heap.size) := by have := hb1.size; have := HSZ.out; show _ < _; omega
    have HG := Lib.hid (get_any [o] _ (some ⟨W1.heap.size, 0, none⟩) 1 1 (W1.alloc (.cells #[.int .u8 o.1.toNat, .string o.2] 157)) (one_opt W1 o HD.out) (by omega) (Nat.le_refl _))
    have c0 := HO1.out.c0
    have c1 := HO1.out.c1
    clear hb1 hW HB HR HO HF HP HSZ C1
    go_wp2_with fail
    refine HG.out.mono ?_
    rintro e w1 ⟨A, c, rfl, _, hb1⟩
    have HB2 := Lib.hid (((Below.refl W1.heap.size W1).alloc (Nat.le_refl _) (.cells #[.int .u8 o.1.toNat, .string o.2] 157)).trans (hb1.mono (by simp)))
    clear hb1 HG
    rw [show Ipc.gL [o] = lo o from rfl]
    generalize (gO [o]).length = n1
    generalize gE [o] = e1
    generalize lo o = x at *
    obtain ⟨V, hV, HV⟩ := boxL w1 x
    have HB3 : Hid (Below W1.heap.size W1 V) := HB2.out.trans (HV.out.2.1.mono HB2.out.size)
    have HI : Hid (Im w V () o g p (.func (.func F1) #[] #[]) (.func (.func F2) #[] #[]) (.func (.func F3) #[] #[]) x w1.heap.size) :=
      ⟨HP1.out.callee HB3.out, HO1.out.callee HB3.out, Blk.callee HF1.out HB3.out, HR1.out.callee HB3.out, HV.out.1, HB1.out.trans (HB3.out.mono HB1.out.size), by have := HB2.out.size; have := HZ1.out; omega⟩
    have HL := Lib.hid (fun w => list_any (bet p o.1 x) w (bet_may p o.1 x))
    obtain ⟨t0, k0, d0, d1, d2, d3, d4, d5⟩ := HI.out.cells
    have HF := HFD
    clear HFD HP1 HO1 HF1 HR1 HB1 HB2 HB3 HV HZ1 c0 c1
    unfold lv
    generalize hbw : () = bw at HI
    clear hbw
    go_wp2_with fail
    clear hV
    refine wp_region_held_drew (S := (fun w' => w'.cell? ⟨w.heap.size, 0, none⟩ = some (.int .u8 o.1.toNat) ∧ w'.cell? ⟨w.heap.size + 1, 0, none⟩ = some (.func (.func F1) #[] #[]) ∧ w'.cell? ⟨w1.heap.size, 0, none⟩ = some (Value.bool x.ha) ∧ w'.cell? ⟨w1.heap.size, 1, none⟩ = some (.int .u32 x.addr.toNat) ∧ w'.cell? ⟨w1.heap.size, 2, none⟩ = some (.bool x.h1) ∧ w'.cell? ⟨w1.heap.size, 3, none⟩ = some (.int .u32 x.dns1.toNat) ∧ w'.cell? ⟨w1.heap.size, 4, none⟩ = some (.bool x.h2) ∧ w'.cell? ⟨w1.heap.size, 5, none⟩ = some (.int .u32 x.dns2.toNat))) (by kernel_rfl) ⟨t0, k0, d0, d1, d2, d3, d4, d5⟩ (fun hHeld => ?_)
    have HJ : Hid (Im w V.drew bw o g p (.func (.func F1) #[] #[]) (.func (.func F2) #[] #[]) (.func (.func F3) #[] #[]) x w1.heap.size) := HI.out.callee (Below.refl _ V).drew
    clear HI t0 k0 d0 d1 d2 d3 d4 d5
    generalize V.drew = U at *
    refine wpAnyH_take (i := 0) (v := ?vv0_1) rfl (by kernel_rfl) (by kernel_rfl) (by kernel_rfl) (fun _ _ _ h => h) (Or.inl ⟨by rfl, ?yy0_1⟩) (by assumption) ?rr0_1
    case yy0_1 => (intro w hSw; (try dsimp only at hSw); obtain ⟨hc0, hk0, hs0, hs1, hs2, hs3, hs4, hs5⟩ := hSw; (try simp only [List.getElem_toArray, List.getElem_cons_succ, List.getElem_cons_zero, Act.put, List.setIfInBounds_toArray, List.set_cons_zero, List.set_cons_succ]); go_simp; (try (with_reducible rfl)))
    try simp only [List.getElem_toArray, List.getElem_cons_succ, List.getElem_cons_zero, Act.put, List.setIfInBounds_toArray, List.set_cons_zero, List.set_cons_succ]
    refine wpAnyH_take (i := 1) (v := ?vv1_2) rfl (by kernel_rfl) (by kernel_rfl) (by kernel_rfl) (fun _ _ _ h => h) (Or.inl ⟨by rfl, ?yy1_2⟩) (by assumption) ?rr1_2
    case yy1_2 => (intro w hSw; (try dsimp only at hSw); obtain ⟨hc0, hk0, hs0, hs1, hs2, hs3, hs4, hs5⟩ := hSw; (try simp only [List.getElem_toArray, List.getElem_cons_succ, List.getElem_cons_zero, Act.put, List.setIfInBounds_toArray, List.set_cons_zero, List.set_cons_succ]); go_simp; (try (with_reducible rfl)))
    try simp only [List.getElem_toArray, List.getElem_cons_succ, List.getElem_cons_zero, Act.put, List.setIfInBounds_toArray, List.set_cons_zero, List.set_cons_succ]
    refine wpAnyH_take (i := 2) (v := ?vv2_3) rfl (by kernel_rfl) (by kernel_rfl) (by kernel_rfl) (fun _ _ _ h => h) (Or.inl ⟨by rfl, ?yy2_3⟩) (by assumption) ?rr2_3
    case yy2_3 => (intro w hSw; (try dsimp only at hSw); obtain ⟨hc0, hk0, hs0, hs1, hs2, hs3, hs4, hs5⟩ := hSw; (try simp only [List.getElem_toArray, List.getElem_cons_succ, List.getElem_cons_zero, Act.put, List.setIfInBounds_toArray, List.set_cons_zero, List.set_cons_succ]); go_simp; (try (with_reducible rfl)))
    try simp only [List.getElem_toArray, List.getElem_cons_succ, List.getElem_cons_zero, Act.put, List.setIfInBounds_toArray, List.set_cons_zero, List.set_cons_succ]
    refine wpAnyH_take (i := 3) (v := ?vv3_4) rfl (by kernel_rfl) (by kernel_rfl) (by kernel_rfl) (fun _ _ _ h => h) (Or.inl ⟨by rfl, ?yy3_4⟩) (by assumption) ?rr3_4
    case yy3_4 => (intro w hSw; (try dsimp only at hSw); obtain ⟨hc0, hk0, hs0, hs1, hs2, hs3, hs4, hs5⟩ := hSw; (try simp only [List.getElem_toArray, List.getElem_cons_succ, List.getElem_cons_zero, Act.put, List.setIfInBounds_toArray, List.set_cons_zero, List.set_cons_succ]); go_simp; (try (with_reducible rfl)))
    try simp only [List.getElem_toArray, List.getElem_cons_succ, List.getElem_cons_zero, Act.put, List.setIfInBounds_toArray, List.set_cons_zero, List.set_cons_succ]
    refine wpAnyH_take (i := 4) (v := ?vv4_5) rfl (by kernel_rfl) (by kernel_rfl) (by kernel_rfl) (fun _ _ _ h => h) (Or.inl ⟨by rfl, ?yy4_5⟩) (by assumption) ?rr4_5
    case yy4_5 => (intro w hSw; (try dsimp only at hSw); obtain ⟨hc0, hk0, hs0, hs1, hs2, hs3, hs4, hs5⟩ := hSw; (try simp only [List.getElem_toArray, List.getElem_cons_succ, List.getElem_cons_zero, Act.put, List.setIfInBounds_toArray, List.set_cons_zero, List.set_cons_succ]); go_simp; (try (with_reducible rfl)))
    try simp only [List.getElem_toArray, List.getElem_cons_succ, List.getElem_cons_zero, Act.put, List.setIfInBounds_toArray, List.set_cons_zero, List.set_cons_succ]
    refine wpAnyH_take (i := 5) (v := ?vv5_6) rfl (by kernel_rfl) (by kernel_rfl) (by kernel_rfl) (fun _ _ _ h => h) (Or.inl ⟨by rfl, ?yy5_6⟩) (by assumption) ?rr5_6
    case yy5_6 => (intro w hSw; (try dsimp only at hSw); obtain ⟨hc0, hk0, hs0, hs1, hs2, hs3, hs4, hs5⟩ := hSw; (try simp only [List.getElem_toArray, List.getElem_cons_succ, List.getElem_cons_zero, Act.put, List.setIfInBounds_toArray, List.set_cons_zero, List.set_cons_succ]); go_simp; (try (with_reducible rfl)))
    try simp only [List.getElem_toArray, List.getElem_cons_succ, List.getElem_cons_zero, Act.put, List.setIfInBounds_toArray, List.set_cons_zero, List.set_cons_succ]
    refine wpAnyH_ready (rs := [6]) (by kernel_rfl) (by simp) ?_
    refine AllReadyH.cons (o := _) rfl (fun K hK => ?_) AllReadyH.nil
    try simp only [List.getElem_toArray, List.getElem_cons_succ, List.getElem_cons_zero, Act.put, List.setIfInBounds_toArray, List.set_cons_zero, List.set_cons_succ]
    go_simp
    refine (HT.out g p x _ HJ.out.p).mono ?_
    rintro e w2 ⟨rfl, hb2⟩
    have HJ2 := Lib.hid (HJ.out.callee hb2)
    clear hb2
    obtain ⟨t0, k0, d0, d1, d2, d3, d4, d5⟩ := HJ2.out.cells
    refine hK.out _ _ ⟨t0, k0, d0, d1, d2, d3, d4, d5⟩ (fun hHeld => ?_)
    clear hK K t0 k0 d0 d1 d2 d3 d4 d5
    try simp only [List.getElem_toArray, List.getElem_cons_succ, List.getElem_cons_zero, Act.put, List.setIfInBounds_toArray, List.set_cons_zero, List.set_cons_succ]
    refine wpAnyH_ready (rs := [7]) (by kernel_rfl) (by simp) ?_
    refine AllReadyH.cons (o := _) rfl (fun K hK => ?_) AllReadyH.nil
    try simp only [List.getElem_toArray, List.getElem_cons_succ, List.getElem_cons_zero, Act.put, List.setIfInBounds_toArray, List.set_cons_zero, List.set_cons_succ]
    go_simp
    refine (HL.out _).mono ?_
    rintro e w3 ⟨A, cc, rfl, hO, hA, hb3⟩
    have HJ3 := Lib.hid (HJ2.out.callee hb3)
    have HO := Lib.hid hO
    clear hb3 hO hA
    obtain ⟨t0, k0, d0, d1, d2, d3, d4, d5⟩ := HJ3.out.cells
    refine hK.out _ _ ⟨t0, k0, d0, d1, d2, d3, d4, d5⟩ (fun hHeld => ?_)
    clear hK K t0 k0 d0 d1 d2 d3 d4 d5
    try simp only [List.getElem_toArray, List.getElem_cons_succ, List.getElem_cons_zero, Act.put, List.setIfInBounds_toArray, List.set_cons_zero, List.set_cons_succ]
    refine wpAnyH_ready (rs := [8]) (by kernel_rfl) (by simp) ?_
    refine AllReadyH.cons (o := _) rfl (fun K hK => ?_) AllReadyH.nil
    try simp only [List.getElem_toArray, List.getElem_cons_succ, List.getElem_cons_zero, Act.put, List.setIfInBounds_toArray, List.set_cons_zero, List.set_cons_succ]
    go_simp
    refine (find_any o.1 (put (bet p o.1 x)) _ A _ cc w3 HO.out (by have := put_len (bet p o.1 x); unfold maxLen; omega) (Nat.le_refl _)).mono ?_
    rintro e w4 ⟨rfl, hb4⟩
    have HJ4 := Lib.hid (HJ3.out.callee hb4)
    clear hb4 HO
    obtain ⟨t0, k0, d0, d1, d2, d3, d4, d5⟩ := HJ4.out.cells
    refine hK.out _ _ ⟨t0, k0, d0, d1, d2, d3, d4, d5⟩ (fun hHeld => ?_)
    clear hK K t0 k0 d0 d1 d2 d3 d4 d5
    try simp only [List.getElem_toArray, List.getElem_cons_succ, List.getElem_cons_zero, Act.put, List.setIfInBounds_toArray, List.set_cons_zero, List.set_cons_succ]
    rw [HF.out.1, HF.out.2]
    generalize imp p o = r at *
    generalize ok p o = q at *
    refine wpAnyH_take (i := 9) (v := ?vv9_7) rfl (by kernel_rfl) (by kernel_rfl) (by kernel_rfl) (fun _ _ _ h => h) (Or.inl ⟨by rfl, ?yy9_7⟩) (by assumption) ?rr9_7
    case yy9_7 => (intro w hSw; (try dsimp only at hSw); obtain ⟨hc0, hk0, hs0, hs1, hs2, hs3, hs4, hs5⟩ := hSw; (try simp only [List.getElem_toArray, List.getElem_cons_succ, List.getElem_cons_zero, Act.put, List.setIfInBounds_toArray, List.set_cons_zero, List.set_cons_succ]); go_simp; (try (with_reducible rfl)))
    try simp only [List.getElem_toArray, List.getElem_cons_succ, List.getElem_cons_zero, Act.put, List.setIfInBounds_toArray, List.set_cons_zero, List.set_cons_succ]
    refine wpAnyH_take (i := 10) (v := ?vv10_8) rfl (by kernel_rfl) (by kernel_rfl) (by kernel_rfl) (fun _ _ _ h => h) (Or.inl ⟨by rfl, ?yy10_8⟩) (by assumption) ?rr10_8
    case yy10_8 => (intro w hSw; (try dsimp only at hSw); obtain ⟨hc0, hk0, hs0, hs1, hs2, hs3, hs4, hs5⟩ := hSw; (try simp only [List.getElem_toArray, List.getElem_cons_succ, List.getElem_cons_zero, Act.put, List.setIfInBounds_toArray, List.set_cons_zero, List.set_cons_succ]); go_simp; (try (with_reducible rfl)))
    try simp only [List.getElem_toArray, List.getElem_cons_succ, List.getElem_cons_zero, Act.put, List.setIfInBounds_toArray, List.set_cons_zero, List.set_cons_succ]
    refine wpAnyH_ready (rs := [11]) (by kernel_rfl) (by simp) ?_
    have f0 := Blk.frozen HJ4.out.r 0
    have f1 := Blk.frozen HJ4.out.r 1
    have z0 := HJ4.out.r.c0
    have z1 := HJ4.out.r.c1
    refine AllReadyH.cons (o := _) rfl (fun K hK => ?_) AllReadyH.nil
    try simp only [List.getElem_toArray, List.getElem_cons_succ, List.getElem_cons_zero, Act.put, List.setIfInBounds_toArray, List.set_cons_zero, List.set_cons_succ]
    go_simp
    have HM : Hid (Moves (fun k => k = w.heap.size + 1 + 1) w4 ((w4.setCell ⟨w.heap.size + 1 + 1, 0, none⟩ (.int .u8 r.1.toNat)).setCell ⟨w.heap.size + 1 + 1, 1, none⟩ (.string r.2))) := (set_moves _ _ _ _).trans (set_moves _ _ _ _) (fun _ _ h => h)
    have HR : Hid (At ((w4.setCell ⟨w.heap.size + 1 + 1, 0, none⟩ (.int .u8 r.1.toNat)).setCell ⟨w.heap.size + 1 + 1, 1, none⟩ (.string r.2)) (w.heap.size + 1 + 1) r) := HJ4.out.r.set r
    have HB : Hid (Below w.heap.size w ((w4.setCell ⟨w.heap.size + 1 + 1, 0, none⟩ (.int .u8 r.1.toNat)).setCell ⟨w.heap.size + 1 + 1, 1, none⟩ (.string r.2))) := HJ4.out.b.trans (HM.out.below HJ4.out.b.size (fun k e => by omega))
    obtain ⟨t0, k0, d0, d1, d2, d3, d4, d5⟩ := HJ4.out.cells' HM.out (by have := HJ4.out.n; omega)
    refine hK.out _ _ ⟨t0, k0, d0, d1, d2, d3, d4, d5⟩ (fun hHeld => ?_)
    clear hK K
    try simp only [List.getElem_toArray, List.getElem_cons_succ, List.getElem_cons_zero, Act.put, List.setIfInBounds_toArray, List.set_cons_zero, List.set_cons_succ]
    refine wpAnyH_take (i := 12) (v := ?vv12_9) rfl (by kernel_rfl) (by kernel_rfl) (by kernel_rfl) (fun _ _ _ h => h) (Or.inl ⟨by rfl, ?yy12_9⟩) (by assumption) ?rr12_9
    case yy12_9 => (intro w hSw; (try dsimp only at hSw); obtain ⟨hc0, hk0, hs0, hs1, hs2, hs3, hs4, hs5⟩ := hSw; (try simp only [List.getElem_toArray, List.getElem_cons_succ, List.getElem_cons_zero, Act.put, List.setIfInBounds_toArray, List.set_cons_zero, List.set_cons_succ]); go_simp; (try (with_reducible rfl)))
    try simp only [List.getElem_toArray, List.getElem_cons_succ, List.getElem_cons_zero, Act.put, List.setIfInBounds_toArray, List.set_cons_zero, List.set_cons_succ]
    refine wpAnyH_done (by kernel_rfl) ?_ _
    go_wp2
    (try simp only [Exit.inBlock, Exit.then])
    refine bodyPost_ret (pick_end rfl _ r HR.out rfl) rfl ?_
    exact ⟨rfl, HB.out⟩
end Go.Proofs.YtgefodpnhifmdaaGreat.Ipp

/- Contract of evaluate. -/
set_option linter.unusedSimpArgs false
set_option linter.unusedVariables false
namespace Go.Proofs.YtgefodpnhifmdaaGreat.Ipp
open Go.RowKit Go.Proofs.YtgefodpnhifmdaaGreat.Oct Go.Proofs.YtgefodpnhifmdaaGreat.Row Go.Proofs.YtgefodpnhifmdaaGreat.Mem Go.Proofs.YtgefodpnhifmdaaGreat.Opt Go.Proofs.YtgefodpnhifmdaaGreat.Ipc

theorem boxO (w : World) (o : Opt) : ∃ W, w.alloc (.cells #[.int .u8 o.1.toNat, .string o.2] 157) = W ∧ Hid (At W w.heap.size o ∧ Below w.heap.size w W ∧ W.heap.size = w.heap.size + 1) :=
  ⟨_, rfl, at_new w o.1 o.2, (Below.refl w.heap.size w).alloc (Nat.le_refl _) _, by simp⟩
theorem say_any (t : UInt8) {W : World} {m : Nat} (h : Sy W m) : ∃ a b c, (Instr.lookup 211 (.map (some m)) (.int .u8 t.toNat) false).run Tryz.prog W = .ok (.agg #[a, b, c]) W ∧ (known t = true → Value.agg #[a, b, c] = trip t) := by
  cases hk : known t
  · exact ⟨_, _, _, say_none hk h, fun e => by cases e⟩
  · exact ⟨_, _, _, say_look hk h, fun _ => rfl⟩
set_option maxHeartbeats 8000000 in
set_option maxRecDepth 100000 in
theorem evaluate_any (g : Nat) (p : Po) (l : List Opt) (A : Option Addr) (n c : Nat) (w : World) (h : PAt w g p) (hl : Opts w w.heap.size A n l) (hn : n ≤ 1000) :
    Calls Tryz.prog 113 #[.pointer (some ⟨g, 0, none⟩), .slice A n c] w (EvQ p l n w) := by
  obtain ⟨i1, hi, hz0, hz1, hz2⟩ := info_parts Tryz.info204
  have Hn := Lib.hid hl.1
  have Hl := Lib.hid hl; clear hl
  have HP := Lib.hid h; clear h
  have hz := zero_tabB
  go_enter Tryz.func113, Tryz.ntmps113
  go_wp2_with fail
  refine (sayings_any w).mono ?_
  rintro e w1 ⟨m, rfl, hm1, hs1, hb1⟩
  have HB1 := Lib.hid hb1
  have HP1 := Lib.hid (HP.out.callee hb1)
  have HS1 := Lib.hid hs1
  have HT1 : Hid (TabB (w1.alloc (.cells (arrB fun _ => false) 219)) w1.heap.size (sn [])) := World.alloc_heap_new w1 _
  have HE1 := Lib.hid hb1.size
  clear hb1 hs1 HP
  have HE2 : Hid (w.heap.size ≤ (w1.alloc (.cells (arrB fun _ => false) 219)).heap.size) := by show _ ≤ _; rw [World.size_alloc]; exact Nat.le_succ_of_le HE1.out
  go_wp2_with (at_make; refine wpList_make_own _ rfl _ _ 200 rfl w.heap.size 204 i1 _ 5 Tryz.underlying200 hi hz0 hz1 .i64 .i64 _ n rfl rfl rfl (by rw [hz2]; omega) (by unfold maxLen; omega) HE2.out ?_; intro w2 hown2 hgr2; have Hown2 := Lib.hid hown2; have Hgr2 := Lib.hid hgr2; clear hown2 hgr2)
  have HG2 : Hid (Below (w1.alloc (.cells (arrB fun _ => false) 219)).heap.size (w1.alloc (.cells (arrB fun _ => false) 219)) w2) := (Below.refl _ _).grown Hgr2.out (Nat.le_refl _) (fun q e => by cases e)
  have HF2 : Hid (Below w1.heap.size w1 w2) := ((Below.refl _ _).alloc (Nat.le_refl _) _).trans (HG2.out.mono (by rw [World.size_alloc]; exact Nat.le_succ _))
  have H0 : Hid (∃ v, v = .slice (some ⟨(w1.alloc (.cells (arrB fun _ => false) 219)).heap.size, 0, none⟩) 0 n ∧ Ev w w2 g p m w1.heap.size v l 0) :=
    ⟨_, rfl, HP1.out.callee HF2.out, HS1.out.callee HF2.out, HT1.out.callee HG2.out, Hown2.out, HB1.out.trans (HF2.out.mono HB1.out.size), HE1.out⟩
  clear HP1 HS1 HT1 Hown2 Hgr2 HG2 HF2 HB1 hz HE2
  rw [World.size_alloc] at H0
  generalize w1.heap.size = ge at *
  go_loopg [7, 18] n (fun gk v i wr => ∃ k : Nat, k ≤ n ∧ gk = n - k ∧ i = .int .i64 k ∧ Hid (Ev w wr g p m ge v l k))
  case atStart => obtain ⟨v, rfl, hv⟩ := H0.out; exact ⟨0, Nat.zero_le _, rfl, rfl, hv⟩
  case round =>
    obtain ⟨k, hk, hgk, rfl, HE⟩ := hrel
    have Hgk := Lib.hid hgk; clear hgk
    by_cases hlt : k < n
    · obtain ⟨ad, o, rfl, hB, ho, hS1, hc0, hc1⟩ := (Hl.out.below HE.out.hb).at_ hlt
      have Hvs := Lib.hid (vs_snoc p l k o ho)
      have Hsn := Lib.hid (sn_next l k o ho)
      have HSz := Lib.hid hS1
      clear ho hS1
      obtain ⟨W, hW, HW⟩ := boxO wr o
      have HEW := Lib.hid (HE.out.callee HW.out.2.1)
      have HOW := Lib.hid HW.out.1
      obtain ⟨a, b, cc, hlk, htr⟩ := say_any o.1 HEW.out.hm
      have HI := Lib.hid (improved_any g p o a b cc W HEW.out.hp htr HSz.out)
      have a0 := HOW.out.c0
      have a1 := HOW.out.c1
      clear htr HW
      go_wp2_with fail
      refine HI.out.mono ?_
      rintro e w5 ⟨rfl, hb5⟩
      generalize wr.heap.size = bo at *
      have HE5 := Lib.hid (HEW.out.callee hb5)
      have HO5 := Lib.hid (HOW.out.callee hb5)
      clear hb5 hW hlk HI HEW HOW HE a0 a1 hc0 hc1
      have Hver : Hid (ver p (l.take k) o = ⟨o, seen (l.take k) o.1 || !ok p o, imp p o⟩) := rfl
      generalize imp p o = r at *
      generalize ok p o = q at *
      have hq : o.1.toNat < 256 := o.1.toNat_lt
      have q0 : (0 : Int) ≤ (o.1.toNat : Int) := Int.natCast_nonneg _
      have q1 : (o.1.toNat : Int) < 256 := by omega
      obtain ⟨Y, hY, HY⟩ := boxO w5 r
      have HE : Hid (Ev w Y.drew g p m ge u7 l k) := (HE5.out.callee HY.out.2.1).callee (Below.refl _ Y).drew
      have HO : Hid (At Y.drew bo o) := (HO5.out.callee HY.out.2.1).callee (Below.refl _ Y).drew
      have HR : Hid (At Y.drew w5.heap.size r) := HY.out.1.callee (Below.refl _ Y).drew
      have d0 := HO.out.c0
      have d1 := HO.out.c1
      have d3 := HR.out.c0
      have d4 := HR.out.c1
      clear HE5 HO5
      cases hs : seen (l.take k) o.1
      · have Hs0 : Hid (sn (l.take k) o.1.toNat = false) := by show _ = _; rw [sn_at]; exact hs
        have d2 := HE.out.ht.cell o.1.toNat hq
        rw [Hs0.out] at d2
        rw [hs] at Hver
        simp only [Bool.false_or] at Hver
        clear hs HY
        go_wp2_with fail
        clear hY
        refine wp_region_held_drew (S := (fun w' => w'.cell? ⟨bo, 0, none⟩ = some (.int .u8 o.1.toNat) ∧ w'.cell? ⟨bo, 1, none⟩ = some (.string o.2) ∧ w'.cell? ⟨ge, o.1.toNat, none⟩ = some (.bool false) ∧ w'.cell? ⟨w5.heap.size, 0, none⟩ = some (.int .u8 r.1.toNat) ∧ w'.cell? ⟨w5.heap.size, 1, none⟩ = some (.string r.2))) (by kernel_rfl) ⟨d0, d1, d2, d3, d4⟩ (fun hHeld => ?_)
        generalize Y.drew = U at *
        refine wpAnyH_take (i := 0) (v := ?vv0_1) rfl (by kernel_rfl) (by kernel_rfl) (by kernel_rfl) (fun _ _ _ h => h) (Or.inl ⟨by rfl, ?yy0_1⟩) (by assumption) ?rr0_1
        case yy0_1 => (intro w hSw; (try dsimp only at hSw); obtain ⟨hS1', hS2', hS3', hS4', hS5'⟩ := hSw; (try simp only [List.getElem_toArray, List.getElem_cons_succ, List.getElem_cons_zero, Act.put, List.setIfInBounds_toArray, List.set_cons_zero, List.set_cons_succ]); go_simp; (try (with_reducible rfl)))
        try simp only [List.getElem_toArray, List.getElem_cons_succ, List.getElem_cons_zero, Act.put, List.setIfInBounds_toArray, List.set_cons_zero, List.set_cons_succ]
        refine wpAnyH_take (i := 1) (v := ?vv1_2) rfl (by kernel_rfl) (by kernel_rfl) (by kernel_rfl) (fun _ _ _ h => h) (Or.inl ⟨by rfl, ?yy1_2⟩) (by assumption) ?rr1_2
        case yy1_2 => (intro w hSw; (try dsimp only at hSw); obtain ⟨hS1', hS2', hS3', hS4', hS5'⟩ := hSw; (try simp only [List.getElem_toArray, List.getElem_cons_succ, List.getElem_cons_zero, Act.put, List.setIfInBounds_toArray, List.set_cons_zero, List.set_cons_succ]); go_simp; (try (with_reducible rfl)))
        try simp only [List.getElem_toArray, List.getElem_cons_succ, List.getElem_cons_zero, Act.put, List.setIfInBounds_toArray, List.set_cons_zero, List.set_cons_succ]
        refine wpAnyH_take (i := 2) (v := ?vv2_3) rfl (by kernel_rfl) (by kernel_rfl) (by kernel_rfl) (fun _ _ _ h => h) (Or.inl ⟨by rfl, ?yy2_3⟩) (by assumption) ?rr2_3
        case yy2_3 => (intro w hSw; (try dsimp only at hSw); obtain ⟨hS1', hS2', hS3', hS4', hS5'⟩ := hSw; (try simp only [List.getElem_toArray, List.getElem_cons_succ, List.getElem_cons_zero, Act.put, List.setIfInBounds_toArray, List.set_cons_zero, List.set_cons_succ]); go_simp; (try (with_reducible rfl)))
        try simp only [List.getElem_toArray, List.getElem_cons_succ, List.getElem_cons_zero, Act.put, List.setIfInBounds_toArray, List.set_cons_zero, List.set_cons_succ]
        refine wpAnyH_take (i := 3) (v := ?vv3_4) rfl (by kernel_rfl) (by kernel_rfl) (by kernel_rfl) (fun _ _ _ h => h) (Or.inl ⟨by rfl, ?yy3_4⟩) (by assumption) ?rr3_4
        case yy3_4 => (intro w hSw; (try dsimp only at hSw); obtain ⟨hS1', hS2', hS3', hS4', hS5'⟩ := hSw; (try simp only [List.getElem_toArray, List.getElem_cons_succ, List.getElem_cons_zero, Act.put, List.setIfInBounds_toArray, List.set_cons_zero, List.set_cons_succ]); go_simp; (try (with_reducible rfl)))
        try simp only [List.getElem_toArray, List.getElem_cons_succ, List.getElem_cons_zero, Act.put, List.setIfInBounds_toArray, List.set_cons_zero, List.set_cons_succ]
        refine wpAnyH_take (i := 4) (v := ?vv4_5) rfl (by kernel_rfl) (by kernel_rfl) (by kernel_rfl) (fun _ _ _ h => h) (Or.inl ⟨by rfl, ?yy4_5⟩) (by assumption) ?rr4_5
        case yy4_5 => (intro w hSw; (try dsimp only at hSw); obtain ⟨hS1', hS2', hS3', hS4', hS5'⟩ := hSw; (try simp only [List.getElem_toArray, List.getElem_cons_succ, List.getElem_cons_zero, Act.put, List.setIfInBounds_toArray, List.set_cons_zero, List.set_cons_succ]); go_simp; (try (with_reducible rfl)))
        try simp only [List.getElem_toArray, List.getElem_cons_succ, List.getElem_cons_zero, Act.put, List.setIfInBounds_toArray, List.set_cons_zero, List.set_cons_succ]
        refine wpAnyH_take (i := 5) (v := ?vv5_6) rfl (by kernel_rfl) (by kernel_rfl) (by kernel_rfl) (fun _ _ _ h => h) (Or.inl ⟨by rfl, ?yy5_6⟩) (by assumption) ?rr5_6
        case yy5_6 => (intro w hSw; (try dsimp only at hSw); obtain ⟨hS1', hS2', hS3', hS4', hS5'⟩ := hSw; (try simp only [List.getElem_toArray, List.getElem_cons_succ, List.getElem_cons_zero, Act.put, List.setIfInBounds_toArray, List.set_cons_zero, List.set_cons_succ]); go_simp; (try (with_reducible rfl)))
        try simp only [List.getElem_toArray, List.getElem_cons_succ, List.getElem_cons_zero, Act.put, List.setIfInBounds_toArray, List.set_cons_zero, List.set_cons_succ]
        refine wpAnyH_take (i := 6) (v := ?vv6_7) rfl (by kernel_rfl) (by kernel_rfl) (by kernel_rfl) (fun _ _ _ h => h) (Or.inl ⟨by rfl, ?yy6_7⟩) (by assumption) ?rr6_7
        case yy6_7 => (intro w hSw; (try dsimp only at hSw); obtain ⟨hS1', hS2', hS3', hS4', hS5'⟩ := hSw; (try simp only [List.getElem_toArray, List.getElem_cons_succ, List.getElem_cons_zero, Act.put, List.setIfInBounds_toArray, List.set_cons_zero, List.set_cons_succ]); go_simp; (try (with_reducible rfl)))
        try simp only [List.getElem_toArray, List.getElem_cons_succ, List.getElem_cons_zero, Act.put, List.setIfInBounds_toArray, List.set_cons_zero, List.set_cons_succ]
        refine wpAnyH_take (i := 7) (v := ?vv7_8) rfl (by kernel_rfl) (by kernel_rfl) (by kernel_rfl) (fun _ _ _ h => h) (Or.inl ⟨by rfl, ?yy7_8⟩) (by assumption) ?rr7_8
        case yy7_8 => (intro w hSw; (try dsimp only at hSw); obtain ⟨hS1', hS2', hS3', hS4', hS5'⟩ := hSw; (try simp only [List.getElem_toArray, List.getElem_cons_succ, List.getElem_cons_zero, Act.put, List.setIfInBounds_toArray, List.set_cons_zero, List.set_cons_succ]); go_simp; (try (with_reducible rfl)))
        try simp only [List.getElem_toArray, List.getElem_cons_succ, List.getElem_cons_zero, Act.put, List.setIfInBounds_toArray, List.set_cons_zero, List.set_cons_succ]
        refine wpAnyH_take (i := 8) (v := ?vv8_9) rfl (by kernel_rfl) (by kernel_rfl) (by kernel_rfl) (fun _ _ _ h => h) (Or.inl ⟨by rfl, ?yy8_9⟩) (by assumption) ?rr8_9
        case yy8_9 => (intro w hSw; (try dsimp only at hSw); obtain ⟨hS1', hS2', hS3', hS4', hS5'⟩ := hSw; (try simp only [List.getElem_toArray, List.getElem_cons_succ, List.getElem_cons_zero, Act.put, List.setIfInBounds_toArray, List.set_cons_zero, List.set_cons_succ]); go_simp; (try (with_reducible rfl)))
        try simp only [List.getElem_toArray, List.getElem_cons_succ, List.getElem_cons_zero, Act.put, List.setIfInBounds_toArray, List.set_cons_zero, List.set_cons_succ]
        refine wpAnyH_take (i := 9) (v := ?vv9_10) rfl (by kernel_rfl) (by kernel_rfl) (by kernel_rfl) (fun _ _ _ h => h) (Or.inl ⟨by rfl, ?yy9_10⟩) (by assumption) ?rr9_10
        case yy9_10 => (intro w hSw; (try dsimp only at hSw); obtain ⟨hS1', hS2', hS3', hS4', hS5'⟩ := hSw; (try simp only [List.getElem_toArray, List.getElem_cons_succ, List.getElem_cons_zero, Act.put, List.setIfInBounds_toArray, List.set_cons_zero, List.set_cons_succ]); go_simp; (try (with_reducible rfl)))
        try simp only [List.getElem_toArray, List.getElem_cons_succ, List.getElem_cons_zero, Act.put, List.setIfInBounds_toArray, List.set_cons_zero, List.set_cons_succ]
        refine wpAnyH_take (i := 10) (v := ?vv10_11) rfl (by kernel_rfl) (by kernel_rfl) (by kernel_rfl) (fun _ _ _ h => h) (Or.inl ⟨by rfl, ?yy10_11⟩) (by assumption) ?rr10_11
        case yy10_11 => (intro w hSw; (try dsimp only at hSw); obtain ⟨hS1', hS2', hS3', hS4', hS5'⟩ := hSw; (try simp only [List.getElem_toArray, List.getElem_cons_succ, List.getElem_cons_zero, Act.put, List.setIfInBounds_toArray, List.set_cons_zero, List.set_cons_succ]); go_simp; (try (with_reducible rfl)))
        try simp only [List.getElem_toArray, List.getElem_cons_succ, List.getElem_cons_zero, Act.put, List.setIfInBounds_toArray, List.set_cons_zero, List.set_cons_succ]
        refine wpAnyH_take (i := 11) (v := ?vv11_12) rfl (by kernel_rfl) (by kernel_rfl) (by kernel_rfl) (fun _ _ _ h => h) (Or.inl ⟨by rfl, ?yy11_12⟩) (by assumption) ?rr11_12
        case yy11_12 => (intro w hSw; (try dsimp only at hSw); obtain ⟨hS1', hS2', hS3', hS4', hS5'⟩ := hSw; (try simp only [List.getElem_toArray, List.getElem_cons_succ, List.getElem_cons_zero, Act.put, List.setIfInBounds_toArray, List.set_cons_zero, List.set_cons_succ]); go_simp; (try (with_reducible rfl)))
        try simp only [List.getElem_toArray, List.getElem_cons_succ, List.getElem_cons_zero, Act.put, List.setIfInBounds_toArray, List.set_cons_zero, List.set_cons_succ]
        refine wpAnyH_ready (rs := [12]) (by kernel_rfl) (by simp) ?_
        refine AllReadyH.cons (o := _) rfl (fun K hK => ?_) AllReadyH.nil
        try simp only [List.getElem_toArray, List.getElem_cons_succ, List.getElem_cons_zero, Act.put, List.setIfInBounds_toArray, List.set_cons_zero, List.set_cons_succ]
        go_simp
        have HA3 := Lib.hid (HO.out.alloc (.cells #[.int .u8 o.1.toNat, .string o.2, .bool (!q), .int .u8 r.1.toNat, .string r.2] 204))
        have HB3 := Lib.hid (HE.out.alloc (.cells #[.int .u8 o.1.toNat, .string o.2, .bool (!q), .int .u8 r.1.toNat, .string r.2] 204))
        have HC3 := Lib.hid (HR.out.alloc (.cells #[.int .u8 o.1.toNat, .string o.2, .bool (!q), .int .u8 r.1.toNat, .string r.2] 204))
        have e0 := HA3.out.c0
        have e1 := HA3.out.c1
        have e2 := HB3.out.ht.cell o.1.toNat hq
        rw [Hs0.out] at e2
        have e3 := HC3.out.c0
        have e4 := HC3.out.c1
        refine hK.out _ _ ⟨e0, e1, e2, e3, e4⟩ (fun hHeld => ?_)
        clear hK K
        try simp only [List.getElem_toArray, List.getElem_cons_succ, List.getElem_cons_zero, Act.put, List.setIfInBounds_toArray, List.set_cons_zero, List.set_cons_succ]
        refine wpAnyH_ready (rs := [13]) (by kernel_rfl) (by simp) ?_
        refine AllReadyH.cons (o := _) rfl (fun K hK => ?_) AllReadyH.nil
        refine step_append_any (U.alloc (.cells #[.int .u8 o.1.toNat, .string o.2, .bool (!q), .int .u8 r.1.toNat, .string r.2] 204)) (by rfl) _ _ _ (by rfl) w.heap.size 204 i1 _ 5 56 Tryz.underlying200 hi hz0 hz1 hz2 rfl (by decide) u7 k (versV (vs p (l.take k))) (by rfl) HB3.out.hr ⟨U.heap.size, 0, none⟩ 1 1 (verV ⟨o, (!q), r⟩) (by rfl) (by rfl) (cells_new _ (verV ⟨o, (!q), r⟩).toArray _) (verV_ones _) (by unfold maxLen; omega) (by omega) HB3.out.hb.size ?_
        intro v1 w9 hown1 hgr1 _
        have HN : Hid (Ew w w9 g p m ge v1 l k) := HE.out.grown hgr1 hown1 (by rw [Hvs.out, Hver.out])
        have HO9 : Hid (At w9 bo o) := Blk.moves HA3.out (Moves.of_grown hgr1 (fun k e _ => e)) (cells_not_row HA3.out (by decide) HB3.out.hr)
        have HR9 : Hid (At w9 w5.heap.size r) := Blk.moves HC3.out (Moves.of_grown hgr1 (fun k e _ => e)) (cells_not_row HC3.out (by decide) HB3.out.hr)
        have y0 := HO9.out.c0
        have y1 := HO9.out.c1
        have y2 := HN.out.ht.cell o.1.toNat hq
        rw [Hs0.out] at y2
        have y3 := HR9.out.c0
        have y4 := HR9.out.c1
        clear hown1 hgr1
        refine hK.out _ _ ⟨y0, y1, y2, y3, y4⟩ (fun hHeld => ?_)
        clear hK K
        try simp only [List.getElem_toArray, List.getElem_cons_succ, List.getElem_cons_zero, Act.put, List.setIfInBounds_toArray, List.set_cons_zero, List.set_cons_succ]
        refine wpAnyH_take (i := 14) (v := ?vv14_13) rfl (by kernel_rfl) (by kernel_rfl) (by kernel_rfl) (fun _ _ _ h => h) (Or.inl ⟨by rfl, ?yy14_13⟩) (by assumption) ?rr14_13
        case yy14_13 => (intro w hSw; (try dsimp only at hSw); obtain ⟨hS1', hS2', hS3', hS4', hS5'⟩ := hSw; (try simp only [List.getElem_toArray, List.getElem_cons_succ, List.getElem_cons_zero, Act.put, List.setIfInBounds_toArray, List.set_cons_zero, List.set_cons_succ]); go_simp; (try (with_reducible rfl)))
        try simp only [List.getElem_toArray, List.getElem_cons_succ, List.getElem_cons_zero, Act.put, List.setIfInBounds_toArray, List.set_cons_zero, List.set_cons_succ]
        refine wpAnyH_done (by kernel_rfl) ?_ _
        clear e0 e1 e2 e3 e4 y1 y2 y3 y4 d0 d1 d2 d3 d4 HA3 HB3 HC3 HE HO HR HR9 Hs0 hHeld
        have m2 := HN.out.ht.frozen o.1.toNat
        have m1 := HN.out.ht.cell o.1.toNat hq
        obtain ⟨X, hX⟩ : ∃ X, w9.setCell ⟨ge, o.1.toNat, none⟩ (.bool true) = X := ⟨_, rfl⟩
        have HM : Hid (Ev w X g p m ge v1 l (k + 1)) := by show Ev _ _ _ _ _ _ _ _ _; rw [← hX]; exact HN.out.mark hq Hsn.out
        clear HN HO9
        go_wp2
        go_roundg (n - (k + 1))
        case measure => rw [Hgk.out]; omega
        case rel => exact ⟨k + 1, by omega, rfl, by go_num, HM⟩
      · have Hs0 : Hid (sn (l.take k) o.1.toNat = true) := by show _ = _; rw [sn_at]; exact hs
        have d2 := HE.out.ht.cell o.1.toNat hq
        rw [Hs0.out] at d2
        rw [hs] at Hver
        simp only [Bool.true_or] at Hver
        clear hs HY
        go_wp2_with fail
        clear hY
        refine wp_region_held_drew (S := (fun w' => w'.cell? ⟨bo, 0, none⟩ = some (.int .u8 o.1.toNat) ∧ w'.cell? ⟨bo, 1, none⟩ = some (.string o.2) ∧ w'.cell? ⟨ge, o.1.toNat, none⟩ = some (.bool true) ∧ w'.cell? ⟨w5.heap.size, 0, none⟩ = some (.int .u8 r.1.toNat) ∧ w'.cell? ⟨w5.heap.size, 1, none⟩ = some (.string r.2))) (by kernel_rfl) ⟨d0, d1, d2, d3, d4⟩ (fun hHeld => ?_)
        generalize Y.drew = U at *
        refine wpAnyH_take (i := 0) (v := ?vv0_14) rfl (by kernel_rfl) (by kernel_rfl) (by kernel_rfl) (fun _ _ _ h => h) (Or.inl ⟨by rfl, ?yy0_14⟩) (by assumption) ?rr0_14
        case yy0_14 => (intro w hSw; (try dsimp only at hSw); obtain ⟨hS1', hS2', hS3', hS4', hS5'⟩ := hSw; (try simp only [List.getElem_toArray, List.getElem_cons_succ, List.getElem_cons_zero, Act.put, List.setIfInBounds_toArray, List.set_cons_zero, List.set_cons_succ]); go_simp; (try (with_reducible rfl)))
        try simp only [List.getElem_toArray, List.getElem_cons_succ, List.getElem_cons_zero, Act.put, List.setIfInBounds_toArray, List.set_cons_zero, List.set_cons_succ]
        refine wpAnyH_take (i := 1) (v := ?vv1_15) rfl (by kernel_rfl) (by kernel_rfl) (by kernel_rfl) (fun _ _ _ h => h) (Or.inl ⟨by rfl, ?yy1_15⟩) (by assumption) ?rr1_15
        case yy1_15 => (intro w hSw; (try dsimp only at hSw); obtain ⟨hS1', hS2', hS3', hS4', hS5'⟩ := hSw; (try simp only [List.getElem_toArray, List.getElem_cons_succ, List.getElem_cons_zero, Act.put, List.setIfInBounds_toArray, List.set_cons_zero, List.set_cons_succ]); go_simp; (try (with_reducible rfl)))
        try simp only [List.getElem_toArray, List.getElem_cons_succ, List.getElem_cons_zero, Act.put, List.setIfInBounds_toArray, List.set_cons_zero, List.set_cons_succ]
        refine wpAnyH_take (i := 2) (v := ?vv2_16) rfl (by kernel_rfl) (by kernel_rfl) (by kernel_rfl) (fun _ _ _ h => h) (Or.inl ⟨by rfl, ?yy2_16⟩) (by assumption) ?rr2_16
        case yy2_16 => (intro w hSw; (try dsimp only at hSw); obtain ⟨hS1', hS2', hS3', hS4', hS5'⟩ := hSw; (try simp only [List.getElem_toArray, List.getElem_cons_succ, List.getElem_cons_zero, Act.put, List.setIfInBounds_toArray, List.set_cons_zero, List.set_cons_succ]); go_simp; (try (with_reducible rfl)))
        try simp only [List.getElem_toArray, List.getElem_cons_succ, List.getElem_cons_zero, Act.put, List.setIfInBounds_toArray, List.set_cons_zero, List.set_cons_succ]
        refine wpAnyH_take (i := 3) (v := ?vv3_17) rfl (by kernel_rfl) (by kernel_rfl) (by kernel_rfl) (fun _ _ _ h => h) (Or.inl ⟨by rfl, ?yy3_17⟩) (by assumption) ?rr3_17
        case yy3_17 => (intro w hSw; (try dsimp only at hSw); obtain ⟨hS1', hS2', hS3', hS4', hS5'⟩ := hSw; (try simp only [List.getElem_toArray, List.getElem_cons_succ, List.getElem_cons_zero, Act.put, List.setIfInBounds_toArray, List.set_cons_zero, List.set_cons_succ]); go_simp; (try (with_reducible rfl)))
        try simp only [List.getElem_toArray, List.getElem_cons_succ, List.getElem_cons_zero, Act.put, List.setIfInBounds_toArray, List.set_cons_zero, List.set_cons_succ]
        refine wpAnyH_take (i := 4) (v := ?vv4_18) rfl (by kernel_rfl) (by kernel_rfl) (by kernel_rfl) (fun _ _ _ h => h) (Or.inl ⟨by rfl, ?yy4_18⟩) (by assumption) ?rr4_18
        case yy4_18 => (intro w hSw; (try dsimp only at hSw); obtain ⟨hS1', hS2', hS3', hS4', hS5'⟩ := hSw; (try simp only [List.getElem_toArray, List.getElem_cons_succ, List.getElem_cons_zero, Act.put, List.setIfInBounds_toArray, List.set_cons_zero, List.set_cons_succ]); go_simp; (try (with_reducible rfl)))
        try simp only [List.getElem_toArray, List.getElem_cons_succ, List.getElem_cons_zero, Act.put, List.setIfInBounds_toArray, List.set_cons_zero, List.set_cons_succ]
        refine wpAnyH_take (i := 5) (v := ?vv5_19) rfl (by kernel_rfl) (by kernel_rfl) (by kernel_rfl) (fun _ _ _ h => h) (Or.inl ⟨by rfl, ?yy5_19⟩) (by assumption) ?rr5_19
        case yy5_19 => (intro w hSw; (try dsimp only at hSw); obtain ⟨hS1', hS2', hS3', hS4', hS5'⟩ := hSw; (try simp only [List.getElem_toArray, List.getElem_cons_succ, List.getElem_cons_zero, Act.put, List.setIfInBounds_toArray, List.set_cons_zero, List.set_cons_succ]); go_simp; (try (with_reducible rfl)))
        try simp only [List.getElem_toArray, List.getElem_cons_succ, List.getElem_cons_zero, Act.put, List.setIfInBounds_toArray, List.set_cons_zero, List.set_cons_succ]
        refine wpAnyH_take (i := 6) (v := ?vv6_20) rfl (by kernel_rfl) (by kernel_rfl) (by kernel_rfl) (fun _ _ _ h => h) (Or.inl ⟨by rfl, ?yy6_20⟩) (by assumption) ?rr6_20
        case yy6_20 => (intro w hSw; (try dsimp only at hSw); obtain ⟨hS1', hS2', hS3', hS4', hS5'⟩ := hSw; (try simp only [List.getElem_toArray, List.getElem_cons_succ, List.getElem_cons_zero, Act.put, List.setIfInBounds_toArray, List.set_cons_zero, List.set_cons_succ]); go_simp; (try (with_reducible rfl)))
        try simp only [List.getElem_toArray, List.getElem_cons_succ, List.getElem_cons_zero, Act.put, List.setIfInBounds_toArray, List.set_cons_zero, List.set_cons_succ]
        refine wpAnyH_take (i := 7) (v := undef) rfl (by kernel_rfl) (by kernel_rfl) (by kernel_rfl) (fun _ _ _ h => h) (Or.inr ⟨by rfl, rfl⟩) (by assumption) ?_
        try simp only [List.getElem_toArray, List.getElem_cons_succ, List.getElem_cons_zero, Act.put, List.setIfInBounds_toArray, List.set_cons_zero, List.set_cons_succ]
        refine wpAnyH_take (i := 8) (v := undef) rfl (by kernel_rfl) (by kernel_rfl) (by kernel_rfl) (fun _ _ _ h => h) (Or.inr ⟨by rfl, rfl⟩) (by assumption) ?_
        try simp only [List.getElem_toArray, List.getElem_cons_succ, List.getElem_cons_zero, Act.put, List.setIfInBounds_toArray, List.set_cons_zero, List.set_cons_succ]
        refine wpAnyH_take (i := 9) (v := ?vv9_21) rfl (by kernel_rfl) (by kernel_rfl) (by kernel_rfl) (fun _ _ _ h => h) (Or.inl ⟨by rfl, ?yy9_21⟩) (by assumption) ?rr9_21
        case yy9_21 => (intro w hSw; (try dsimp only at hSw); obtain ⟨hS1', hS2', hS3', hS4', hS5'⟩ := hSw; (try simp only [List.getElem_toArray, List.getElem_cons_succ, List.getElem_cons_zero, Act.put, List.setIfInBounds_toArray, List.set_cons_zero, List.set_cons_succ]); go_simp; (try (with_reducible rfl)))
        try simp only [List.getElem_toArray, List.getElem_cons_succ, List.getElem_cons_zero, Act.put, List.setIfInBounds_toArray, List.set_cons_zero, List.set_cons_succ]
        refine wpAnyH_take (i := 10) (v := ?vv10_22) rfl (by kernel_rfl) (by kernel_rfl) (by kernel_rfl) (fun _ _ _ h => h) (Or.inl ⟨by rfl, ?yy10_22⟩) (by assumption) ?rr10_22
        case yy10_22 => (intro w hSw; (try dsimp only at hSw); obtain ⟨hS1', hS2', hS3', hS4', hS5'⟩ := hSw; (try simp only [List.getElem_toArray, List.getElem_cons_succ, List.getElem_cons_zero, Act.put, List.setIfInBounds_toArray, List.set_cons_zero, List.set_cons_succ]); go_simp; (try (with_reducible rfl)))
        try simp only [List.getElem_toArray, List.getElem_cons_succ, List.getElem_cons_zero, Act.put, List.setIfInBounds_toArray, List.set_cons_zero, List.set_cons_succ]
        refine wpAnyH_take (i := 11) (v := ?vv11_23) rfl (by kernel_rfl) (by kernel_rfl) (by kernel_rfl) (fun _ _ _ h => h) (Or.inl ⟨by rfl, ?yy11_23⟩) (by assumption) ?rr11_23
        case yy11_23 => (intro w hSw; (try dsimp only at hSw); obtain ⟨hS1', hS2', hS3', hS4', hS5'⟩ := hSw; (try simp only [List.getElem_toArray, List.getElem_cons_succ, List.getElem_cons_zero, Act.put, List.setIfInBounds_toArray, List.set_cons_zero, List.set_cons_succ]); go_simp; (try (with_reducible rfl)))
        try simp only [List.getElem_toArray, List.getElem_cons_succ, List.getElem_cons_zero, Act.put, List.setIfInBounds_toArray, List.set_cons_zero, List.set_cons_succ]
        refine wpAnyH_ready (rs := [12]) (by kernel_rfl) (by simp) ?_
        refine AllReadyH.cons (o := _) rfl (fun K hK => ?_) AllReadyH.nil
        try simp only [List.getElem_toArray, List.getElem_cons_succ, List.getElem_cons_zero, Act.put, List.setIfInBounds_toArray, List.set_cons_zero, List.set_cons_succ]
        go_simp
        have HA3 := Lib.hid (HO.out.alloc (.cells #[.int .u8 o.1.toNat, .string o.2, .bool true, .int .u8 r.1.toNat, .string r.2] 204))
        have HB3 := Lib.hid (HE.out.alloc (.cells #[.int .u8 o.1.toNat, .string o.2, .bool true, .int .u8 r.1.toNat, .string r.2] 204))
        have HC3 := Lib.hid (HR.out.alloc (.cells #[.int .u8 o.1.toNat, .string o.2, .bool true, .int .u8 r.1.toNat, .string r.2] 204))
        have e0 := HA3.out.c0
        have e1 := HA3.out.c1
        have e2 := HB3.out.ht.cell o.1.toNat hq
        rw [Hs0.out] at e2
        have e3 := HC3.out.c0
        have e4 := HC3.out.c1
        refine hK.out _ _ ⟨e0, e1, e2, e3, e4⟩ (fun hHeld => ?_)
        clear hK K
        try simp only [List.getElem_toArray, List.getElem_cons_succ, List.getElem_cons_zero, Act.put, List.setIfInBounds_toArray, List.set_cons_zero, List.set_cons_succ]
        refine wpAnyH_ready (rs := [13]) (by kernel_rfl) (by simp) ?_
        refine AllReadyH.cons (o := _) rfl (fun K hK => ?_) AllReadyH.nil
        refine step_append_any (U.alloc (.cells #[.int .u8 o.1.toNat, .string o.2, .bool true, .int .u8 r.1.toNat, .string r.2] 204)) (by rfl) _ _ _ (by rfl) w.heap.size 204 i1 _ 5 56 Tryz.underlying200 hi hz0 hz1 hz2 rfl (by decide) u7 k (versV (vs p (l.take k))) (by rfl) HB3.out.hr ⟨U.heap.size, 0, none⟩ 1 1 (verV ⟨o, true, r⟩) (by rfl) (by rfl) (cells_new _ (verV ⟨o, true, r⟩).toArray _) (verV_ones _) (by unfold maxLen; omega) (by omega) HB3.out.hb.size ?_
        intro v1 w9 hown1 hgr1 _
        have HN : Hid (Ew w w9 g p m ge v1 l k) := HE.out.grown hgr1 hown1 (by rw [Hvs.out, Hver.out])
        have HO9 : Hid (At w9 bo o) := Blk.moves HA3.out (Moves.of_grown hgr1 (fun k e _ => e)) (cells_not_row HA3.out (by decide) HB3.out.hr)
        have HR9 : Hid (At w9 w5.heap.size r) := Blk.moves HC3.out (Moves.of_grown hgr1 (fun k e _ => e)) (cells_not_row HC3.out (by decide) HB3.out.hr)
        have y0 := HO9.out.c0
        have y1 := HO9.out.c1
        have y2 := HN.out.ht.cell o.1.toNat hq
        rw [Hs0.out] at y2
        have y3 := HR9.out.c0
        have y4 := HR9.out.c1
        clear hown1 hgr1
        refine hK.out _ _ ⟨y0, y1, y2, y3, y4⟩ (fun hHeld => ?_)
        clear hK K
        try simp only [List.getElem_toArray, List.getElem_cons_succ, List.getElem_cons_zero, Act.put, List.setIfInBounds_toArray, List.set_cons_zero, List.set_cons_succ]
        refine wpAnyH_take (i := 14) (v := ?vv14_24) rfl (by kernel_rfl) (by kernel_rfl) (by kernel_rfl) (fun _ _ _ h => h) (Or.inl ⟨by rfl, ?yy14_24⟩) (by assumption) ?rr14_24
        case yy14_24 => (intro w hSw; (try dsimp only at hSw); obtain ⟨hS1', hS2', hS3', hS4', hS5'⟩ := hSw; (try simp only [List.getElem_toArray, List.getElem_cons_succ, List.getElem_cons_zero, Act.put, List.setIfInBounds_toArray, List.set_cons_zero, List.set_cons_succ]); go_simp; (try (with_reducible rfl)))
        try simp only [List.getElem_toArray, List.getElem_cons_succ, List.getElem_cons_zero, Act.put, List.setIfInBounds_toArray, List.set_cons_zero, List.set_cons_succ]
        refine wpAnyH_done (by kernel_rfl) ?_ _
        clear e0 e1 e2 e3 e4 y1 y2 y3 y4 d0 d1 d2 d3 d4 HA3 HB3 HC3 HE HO HR HR9 Hs0 hHeld
        have m2 := HN.out.ht.frozen o.1.toNat
        have m1 := HN.out.ht.cell o.1.toNat hq
        obtain ⟨X, hX⟩ : ∃ X, w9.setCell ⟨ge, o.1.toNat, none⟩ (.bool true) = X := ⟨_, rfl⟩
        have HM : Hid (Ev w X g p m ge v1 l (k + 1)) := by show Ev _ _ _ _ _ _ _ _ _; rw [← hX]; exact HN.out.mark hq Hsn.out
        clear HN HO9
        go_wp2
        go_roundg (n - (k + 1))
        case measure => rw [Hgk.out]; omega
        case rel => exact ⟨k + 1, by omega, rfl, by go_num, HM⟩
    · obtain rfl : k = n := by omega
      have HEnd : Hid (EvQ p l k w (.returned u7) wr) := by
        have h1 := HE.out.hr
        rw [List.take_of_length_le (by rw [Hn.out]; exact Nat.le_refl _)] at h1
        obtain ⟨A1, c1, e1, hv⟩ := vers_own h1
        exact ⟨A1, c1, by rw [e1], hv, HE.out.hb⟩
      go_wp2
      go_ret
      exact HEnd.out
end Go.Proofs.YtgefodpnhifmdaaGreat.Ipp

/- What Judge keeps: rows past a turn of the policy. -/
namespace Go.Proofs.YtgefodpnhifmdaaGreat.Ipp
open Go.RowKit Go.Proofs.YtgefodpnhifmdaaGreat.Oct Go.Proofs.YtgefodpnhifmdaaGreat.Row Go.Proofs.YtgefodpnhifmdaaGreat.Mem Go.Proofs.YtgefodpnhifmdaaGreat.Opt Go.Proofs.YtgefodpnhifmdaaGreat.Ipc

theorem lv_no (x : Ipc) (s : ByteArray) : Value.string s ∉ lv x := by unfold lv; simp
theorem cv_no (c : Conf) (s : ByteArray) : Value.string s ∉ cv c := by unfold cv; simp
theorem pv_no (p : Po) (s : ByteArray) : Value.string s ∉ pv p := by
  unfold pv
  simp only [List.mem_append, not_or]
  exact ⟨lv_no _ s, cv_no _ s, lv_no _ s, lv_no _ s, by simp⟩
theorem str_apart {w : World} {g b i : Nat} {t : TypeId} {cs : List Value} {s : ByteArray} (h : Blk w g cs t) (hn : Value.string s ∉ cs) (hc : w.cell? ⟨b, i, none⟩ = some (.string s)) : b ≠ g := by
  rintro rfl
  rw [Blk.at_ h i] at hc
  exact hn (List.mem_of_getElem? hc)
/-- A row of options past a turn of a block that holds no text. -/
theorem opts_past {w w' : World} {g B n : Nat} {t : TypeId} {cs : List Value} {A : Option Addr} {l : List Opt} (h : Opts w B A n l) (hP : Blk w g cs t) (hs : ∀ s, Value.string s ∉ cs) (hm : Moves (fun k => k = g) w w') (hB : B ≤ w.heap.size) : Opts w' B A n l :=
  ⟨h.1, h.2.1, fun hn => by
    obtain ⟨ad, e, hb, hc⟩ := h.2.2 hn
    refine ⟨ad, e, hb, fun j hj => ?_⟩
    have hk : (ad.add (j * 2)).block = ad.block := Oct.block_add _ _
    have hne : (ad.add (j * 2)).block ≠ g := str_apart hP (hs _) (hc j hj).2
    exact ⟨(hm.cell (by rw [hk]; omega) (by exact hne)).trans (hc j hj).1, (hm.cell (by show (ad.add (j * 2)).block < _; rw [hk]; omega) (by exact hne)).trans (hc j hj).2⟩⟩
theorem vers_past {w w' : World} {g B n : Nat} {t : TypeId} {cs : List Value} {A : Option Addr} {l : List Ver} (h : Vers w B A n l) (hP : Blk w g cs t) (hs : ∀ s, Value.string s ∉ cs) (hm : Moves (fun k => k = g) w w') (hB : B ≤ w.heap.size) : Vers w' B A n l :=
  ⟨h.1, fun hn => by
    obtain ⟨ad, e, hb, hc⟩ := h.2 hn
    refine ⟨ad, e, hb, fun j hj => ?_⟩
    have hk : (ad.add (j * 5)).block = ad.block := Oct.block_add _ _
    obtain ⟨c0, c1, c2, c3, c4⟩ := hc j hj
    have hne : (ad.add (j * 5)).block ≠ g := str_apart hP (hs _) c1
    have hl : (ad.add (j * 5)).block < w.heap.size := by rw [hk]; omega
    exact ⟨(hm.cell hl hne).trans c0, (hm.cell (by exact hl) (by exact hne)).trans c1, (hm.cell (by exact hl) (by exact hne)).trans c2, (hm.cell (by exact hl) (by exact hne)).trans c3, (hm.cell (by exact hl) (by exact hne)).trans c4⟩⟩
theorem ver_got (p : Po) (l : List Opt) (o : Opt) : (ver p l o).got = o := rfl
theorem vs_mem {p : Po} {l : List Opt} {v : Ver} (h : v ∈ vs p l) : v.got ∈ l ∧ v.bet.2.size ≤ 4 := by
  unfold vs at h
  obtain ⟨i, hi, rfl⟩ := List.mem_map.1 h
  have hi' : i < l.length := List.mem_range.1 hi
  rw [List.getD_eq_getElem?_getD, List.getElem?_eq_getElem hi']
  exact ⟨List.getElem_mem hi', imp_size _ _⟩
/-- What Judge answers. -/
def JudQ (p : Po) (l : List Opt) (g : Nat) (w : World) (e : Ending) (w' : World) : Prop := ∃ A c, e = .returned (.tuple #[.int .u8 (jC p l), .slice A (jA p l).length c]) ∧ Opts w' w'.heap.size A (jA p l).length (jA p l) ∧ PAt w' g (jP p l) ∧ Moves (fun k => k = g) w w'
/-- On the way. -/
structure Jd (w wr : World) (g : Nat) (p : Po) (A : Option Addr) (n : Nat) (l : List Opt) : Prop where
  hp : PAt wr g p
  hm : Moves (fun k => k = g) w wr
  ho : Opts wr w.heap.size A n l
theorem Jd.callee {w wr w' : World} {g : Nat} {p : Po} {A : Option Addr} {n : Nat} {l : List Opt} (h : Jd w wr g p A n l) (hb : Below wr.heap.size wr w') : Jd w w' g p A n l :=
  ⟨h.hp.callee hb, h.hm.trans (Moves.of_below hb) (fun j hj e => e), h.ho.callee hb h.hm.size⟩
theorem Jd.turn {w wr w' : World} {g : Nat} {p p' : Po} {A : Option Addr} {n : Nat} {l : List Opt} (h : Jd w wr g p A n l) (hm : Moves (fun k => k = g) wr w') (hp : PAt w' g p') : Jd w w' g p' A n l :=
  ⟨hp, h.hm.trans hm (fun j hj e => e), opts_past h.ho h.hp (pv_no p) hm h.hm.size⟩
end Go.Proofs.YtgefodpnhifmdaaGreat.Ipp
