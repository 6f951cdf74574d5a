/- Put together: PolQa, PolQn. -/
import Derived.Test.YtpohcejgblahiaaGreatGPolDa
import Derived.Test.YtpohcejgblahiaaGreatGPolP
import Derived.Test.YtpohcejgblahiaaGreatOptA

/- Contracts of Reset, Copy, Mine, Acked. Written by gen/pol_qa.py. -/
namespace Go.Proofs.YtpohcejgblahiaaGreat.Pol
open Go.RowKit Go.Proofs.YtpohcejgblahiaaGreat.Oct Go.Proofs.YtpohcejgblahiaaGreat.Row Go.Proofs.YtpohcejgblahiaaGreat.Mem Go.Proofs.YtpohcejgblahiaaGreat.Opt Go.Proofs.YtpohcejgblahiaaGreat.Lco

set_option maxHeartbeats 4000000 in
set_option maxRecDepth 100000 in
theorem reset_any (g : Nat) (p : Po) (m : UInt32) (w : World) (h : PAt w g p) : Calls Tryz.prog 16 #[.pointer (some ⟨g, 0, none⟩), .int .u32 m.toNat] w fun e w' => e = .returned (.int .i64 0) ∧ PAt w' g (newP p.c m) ∧ Moves (fun k => k = g) w w' := by
  have HP := Lib.hid h
  have c9 : w.cell? ⟨g, 9, none⟩ = some (.int .u16 p.c.mru.toNat) := HP.out.c 9
  have c10 : w.cell? ⟨g, 10, none⟩ = some (.bool p.c.ha) := HP.out.c 10
  have c11 : w.cell? ⟨g, 11, none⟩ = some (.int .u32 p.c.accm.toNat) := HP.out.c 11
  have c12 : w.cell? ⟨g, 12, none⟩ = some (.int .u8 p.c.auth.toNat) := HP.out.c 12
  have c13 : w.cell? ⟨g, 13, none⟩ = some (.int .u8 p.c.takes.toNat) := HP.out.c 13
  have c14 : w.cell? ⟨g, 14, none⟩ = some (.int .u8 p.c.can.toNat) := HP.out.c 14
  have c15 : w.cell? ⟨g, 15, none⟩ = some (.bool p.c.mg) := HP.out.c 15
  have c16 : w.cell? ⟨g, 16, none⟩ = some (.bool p.c.pfc) := HP.out.c 16
  have c17 : w.cell? ⟨g, 17, none⟩ = some (.bool p.c.acfc) := HP.out.c 17
  have c18 : w.cell? ⟨g, 18, none⟩ = some (.int .i64 p.c.mn) := HP.out.c 18
  have HM := Lib.hid (fun w => made_any p.c m w)
  have HN := Lib.hid (pol_size (newP p.c m))
  have HO := Lib.hid (pv_one (newP p.c m))
  have HE : Hid (∀ W : World, PAt W g p → PAt (W.setRow g (pv (newP p.c m)).toArray) g (newP p.c m)) := fun W hW => pat_row hW _
  have HZ : Hid ((pv p).toArray.size = (pv (newP p.c m)).toArray.size) := rfl
  generalize (pv (newP p.c m)).toArray = cs at *
  clear h
  go_enter Tryz.func16, Tryz.ntmps16
  go_wp2_with fail
  refine (HM.out _).mono ?_
  rintro e w2 ⟨rfl, hb2⟩
  have HB2 := Lib.hid hb2
  have HP2 := Lib.hid (HP.out.callee hb2)
  clear hb2
  go_wp2_with (refine wpList_store_row rfl 61 _ _ rfl g cs rfl rfl 61 _ HP2.out HN.out HZ.out HO.out ?_)
  go_ret
  exact ⟨rfl, HE.out _ HP2.out, (Moves.of_below HB2.out).trans (moves_row w2 g _) (fun _ _ h => h)⟩
set_option maxHeartbeats 4000000 in
set_option maxRecDepth 100000 in
theorem copy_any (g : Nat) (p : Po) (w : World) (h : PAt w g p) : Calls Tryz.prog 17 #[.pointer (some ⟨g, 0, none⟩)] w fun e w' => ∃ g', e = .returned (.pointer (some ⟨g', 0, none⟩)) ∧ w.heap.size ≤ g' ∧ PAt w' g' p ∧ Below w.heap.size w w' := by
  have HP : Hid (w.heap[g]? = some (.cells (pv p).toArray 61 (0, 0))) := h
  have HN := Lib.hid (pol_size p)
  have HO := Lib.hid (pv_one p)
  have HE : Hid (∀ W : World, PAt (W.alloc (.cells (pv p).toArray 61)) W.heap.size p) := fun W => pat_new W _
  have HZ : Hid ((pv zp).toArray.size = (pv p).toArray.size) := rfl
  have hz := zero_pol
  generalize (pv zp).toArray = zs at *
  generalize (pv p).toArray = cs at *
  clear h
  go_enter Tryz.func17, Tryz.ntmps17
  go_wp2_with (first
    | (refine wpList_load_row rfl 61 _ rfl g rfl 61 cs (0, 0) _ HP.out Tryz.underlying61 rfl HN.out ?_)
    | (refine wpList_store_row rfl 61 _ _ rfl w.heap.size cs rfl rfl 61 zs (World.alloc_heap_new w _) HN.out HZ.out HO.out ?_))
  go_ret
  rw [World.setRow_alloc_new]
  exact ⟨_, rfl, Nat.le_refl _, HE.out w, (Below.refl _ _).alloc (Nat.le_refl _) _⟩
set_option maxHeartbeats 1000000 in
set_option maxRecDepth 100000 in
theorem mine_any (g : Nat) (p : Po) (w : World) (h : PAt w g p) : Calls Tryz.prog 12 #[.pointer (some ⟨g, 0, none⟩)] w (BetQ p.mine w) := by
  have HP := Lib.hid h
  clear h
  obtain ⟨V, hV, HV⟩ := boxZ w
  have HQ : Hid (PAt V g p) := HP.out.callee HV.out.2.1
  have p19 : V.cell? ⟨g, 19, none⟩ = some (.bool p.mine.hm) := HQ.out.c 19
  have p20 : V.cell? ⟨g, 20, none⟩ = some (.int .u16 p.mine.mru.toNat) := HQ.out.c 20
  have p21 : V.cell? ⟨g, 21, none⟩ = some (.bool p.mine.ha) := HQ.out.c 21
  have p22 : V.cell? ⟨g, 22, none⟩ = some (.int .u32 p.mine.accm.toNat) := HQ.out.c 22
  have p23 : V.cell? ⟨g, 23, none⟩ = some (.int .u8 p.mine.auth.toNat) := HQ.out.c 23
  have p24 : V.cell? ⟨g, 24, none⟩ = some (.bool p.mine.hg) := HQ.out.c 24
  have p25 : V.cell? ⟨g, 25, none⟩ = some (.int .u32 p.mine.magic.toNat) := HQ.out.c 25
  have p26 : V.cell? ⟨g, 26, none⟩ = some (.bool p.mine.pfc) := HQ.out.c 26
  have p27 : V.cell? ⟨g, 27, none⟩ = some (.bool p.mine.acfc) := HQ.out.c 27
  have HN := Lib.hid (lcp_size p.mine)
  have HZ := Lib.hid HV.out.1
  have HB := Lib.hid HV.out.2.1
  go_enter Tryz.func12, Tryz.ntmps12
  go_wp2_with (refine wpList_store_row rfl 37 _ _ rfl w.heap.size (lv p.mine).toArray rfl rfl 37 _ HZ.out HN.out rfl (lv_one _) ?_)
  (try simp only [Exit.inBlock, Exit.then])
  refine bodyPost_ret (bet_res rfl _ p.mine HZ.out rfl) rfl ?_
  exact bet_q p.mine HB.out (Nat.le_refl _)
set_option maxHeartbeats 4000000 in
set_option maxRecDepth 100000 in
theorem acked_any (g : Nat) (p : Po) (l : List Opt) (A : Option Addr) (n c : Nat) (w : World) (h : PAt w g p) (hm : may p.w = true) (hl : Opts w w.heap.size A n l) (hn : n ≤ 1000) :
    Calls Tryz.prog 8 #[.pointer (some ⟨g, 0, none⟩), .slice A n c] w (RepQ (akB p l) (akP p l) g w) := by
  have HP := Lib.hid h
  have HL := Lib.hid hl
  have HR := Lib.hid (request_any g p w h hm)
  have hlg : (req p).length ≤ 6 := put_len p.w
  clear h hl hm
  go_enter Tryz.func8, Tryz.ntmps8
  go_wp2_with fail
  refine HR.out.mono ?_
  rintro e w1 ⟨A2, c2, rfl, hO, hb1, _, _⟩
  have HP1 := Lib.hid (HP.out.callee hb1)
  have HB1 := Lib.hid hb1
  have HA := Lib.hid (alike_any l (req p) _ A A2 n (req p).length c c2 w1 (HL.out.next hb1) hO (by unfold maxLen; omega) (by unfold maxLen; omega) (Nat.le_refl _))
  have HE : Hid (akB p l = sm l (req p)) := rfl
  clear HR hO hb1
  cases hs : sm l (req p)
  · have HE2 : Hid (akB p l = false ∧ akP p l = p) := by
      have e : akB p l = false := by rw [HE.out, hs]
      exact ⟨e, by unfold akP; rw [e]; rfl⟩
    rw [hs] at HA
    clear hs HE
    go_wp2_with fail
    refine HA.out.mono ?_
    rintro e w2 ⟨rfl, hb2⟩
    have HP2 := Lib.hid (HP1.out.callee hb2)
    have HB2 := Lib.hid (HB1.out.trans (hb2.mono HB1.out.size))
    clear hb2 HA
    go_wp2
    go_ret
    unfold RepQ
    rw [HE2.out.1, HE2.out.2]
    exact ⟨rfl, HP2.out, Moves.of_below HB2.out⟩
  · have HE2 : Hid (akB p l = true ∧ akP p l = { p with mine := p.w }) := by
      have e : akB p l = true := by rw [HE.out, hs]
      exact ⟨e, by unfold akP; rw [e]; rfl⟩
    rw [hs] at HA
    clear hs HE
    go_wp2_with fail
    refine HA.out.mono ?_
    rintro e w2 ⟨rfl, hb2⟩
    have HP2 := Lib.hid (HP1.out.callee hb2)
    have HB2 := Lib.hid (HB1.out.trans (hb2.mono HB1.out.size))
    clear hb2 HA
    go_wp2_with fail
    refine (wish_any g p w2 HP2.out).mono ?_
    rintro e w3 ⟨rfl, hb3⟩
    have HP3 := Lib.hid (HP2.out.callee hb3)
    have HB3 := Lib.hid (HB2.out.trans (hb3.mono HB2.out.size))
    clear hb3
    have p19 : w3.cell? ⟨g, 19, none⟩ = some (.bool p.mine.hm) := HP3.out.c 19
    have p20 : w3.cell? ⟨g, 20, none⟩ = some (.int .u16 p.mine.mru.toNat) := HP3.out.c 20
    have p21 : w3.cell? ⟨g, 21, none⟩ = some (.bool p.mine.ha) := HP3.out.c 21
    have p22 : w3.cell? ⟨g, 22, none⟩ = some (.int .u32 p.mine.accm.toNat) := HP3.out.c 22
    have p23 : w3.cell? ⟨g, 23, none⟩ = some (.int .u8 p.mine.auth.toNat) := HP3.out.c 23
    have p24 : w3.cell? ⟨g, 24, none⟩ = some (.bool p.mine.hg) := HP3.out.c 24
    have p25 : w3.cell? ⟨g, 25, none⟩ = some (.int .u32 p.mine.magic.toNat) := HP3.out.c 25
    have p26 : w3.cell? ⟨g, 26, none⟩ = some (.bool p.mine.pfc) := HP3.out.c 26
    have p27 : w3.cell? ⟨g, 27, none⟩ = some (.bool p.mine.acfc) := HP3.out.c 27
    have q19 := HP3.out.f 19
    have q20 := HP3.out.f 20
    have q21 := HP3.out.f 21
    have q22 := HP3.out.f 22
    have q23 := HP3.out.f 23
    have q24 := HP3.out.f 24
    have q25 := HP3.out.f 25
    have q26 := HP3.out.f 26
    have q27 := HP3.out.f 27
    obtain ⟨V, hV⟩ : ∃ V, w3.setCells g 19 (lv p.w) = V := ⟨_, rfl⟩
    have HPV : Hid (PAt V g { p with mine := p.w }) := by show PAt _ _ _; rw [← hV]; exact HP3.out.setMine p.w
    have HMV : Hid (Moves (fun k => k = g) w V) := by show Moves _ _ _; rw [← hV]; exact (Moves.of_below HB3.out).trans (sets_moves _ _ _ _) (fun _ _ h => h)
    simp only [World.setCells, lv] at hV
    unfold lv
    go_wp2
    go_ret
    unfold RepQ
    rw [HE2.out.1, HE2.out.2]
    exact ⟨rfl, HPV.out, HMV.out⟩
end Go.Proofs.YtpohcejgblahiaaGreat.Pol

/- Contracts of every call of a nil policy; Loops. Written by gen/pol_qn.py. -/
set_option linter.unusedSimpArgs false
set_option linter.unusedVariables false
namespace Go.Proofs.YtpohcejgblahiaaGreat.Pol
open Go.RowKit Go.Proofs.YtpohcejgblahiaaGreat.Oct Go.Proofs.YtpohcejgblahiaaGreat.Row Go.Proofs.YtpohcejgblahiaaGreat.Mem Go.Proofs.YtpohcejgblahiaaGreat.Opt Go.Proofs.YtpohcejgblahiaaGreat.Lco

set_option maxHeartbeats 1000000 in
set_option maxRecDepth 100000 in
theorem loops_any (g : Nat) (p : Po) (w : World) (h : PAt w g p) : Calls Tryz.prog 14 #[.pointer (some ⟨g, 0, none⟩)] w fun e w' => e = .returned (.int .i64 p.loops) ∧ w = w' := by
  have c38 : w.cell? ⟨g, 38, none⟩ = some (.int .i64 p.loops) := h.c 38
  clear h
  go_enter Tryz.func14, Tryz.ntmps14
  go_wp2
  go_ret
  exact ⟨rfl, rfl⟩
set_option maxHeartbeats 1000000 in
set_option maxRecDepth 100000 in
theorem judge_nil (w : World) : Calls Tryz.prog 6 #[.pointer none, .slice none 0 0] w fun e w' => e = .returned (.tuple #[.int .u8 0, .slice none 0 0]) ∧ Below w.heap.size w w' := by
  go_enter Tryz.func6, Tryz.ntmps6
  go_wp2
  go_ret2
  exact ⟨rfl, Below.refl _ _⟩
set_option maxHeartbeats 1000000 in
set_option maxRecDepth 100000 in
theorem acked_nil (w : World) : Calls Tryz.prog 8 #[.pointer none, .slice none 0 0] w fun e w' => e = .returned (.bool false) ∧ Below w.heap.size w w' := by
  go_enter Tryz.func8, Tryz.ntmps8
  go_wp2
  go_ret
  exact ⟨rfl, Below.refl _ _⟩
set_option maxHeartbeats 1000000 in
set_option maxRecDepth 100000 in
theorem naked_nil (w : World) : Calls Tryz.prog 9 #[.pointer none, .int .u32 1, .slice none 0 0] w fun e w' => e = .returned (.bool false) ∧ Below w.heap.size w w' := by
  go_enter Tryz.func9, Tryz.ntmps9
  go_wp2
  go_ret
  exact ⟨rfl, Below.refl _ _⟩
set_option maxHeartbeats 1000000 in
set_option maxRecDepth 100000 in
theorem rejected_nil (w : World) : Calls Tryz.prog 10 #[.pointer none, .slice none 0 0] w fun e w' => e = .returned (.bool false) ∧ Below w.heap.size w w' := by
  go_enter Tryz.func10, Tryz.ntmps10
  go_wp2
  go_ret
  exact ⟨rfl, Below.refl _ _⟩
set_option maxHeartbeats 1000000 in
set_option maxRecDepth 100000 in
theorem reset_nil (w : World) : Calls Tryz.prog 16 #[.pointer none, .int .u32 1] w fun e w' => e = .returned (.int .i64 1) ∧ Below w.heap.size w w' := by
  go_enter Tryz.func16, Tryz.ntmps16
  go_wp2
  go_ret
  exact ⟨rfl, Below.refl _ _⟩
set_option maxHeartbeats 1000000 in
set_option maxRecDepth 100000 in
theorem copy_nil (w : World) : Calls Tryz.prog 17 #[.pointer none] w fun e w' => e = .returned (.pointer none) ∧ Below w.heap.size w w' := by
  go_enter Tryz.func17, Tryz.ntmps17
  go_wp2
  go_ret
  exact ⟨rfl, Below.refl _ _⟩
set_option maxHeartbeats 1000000 in
set_option maxRecDepth 100000 in
theorem loops_nil (w : World) : Calls Tryz.prog 14 #[.pointer none] w fun e w' => e = .returned (.int .i64 0) ∧ Below w.heap.size w w' := by
  go_enter Tryz.func14, Tryz.ntmps14
  go_wp2
  go_ret
  exact ⟨rfl, Below.refl _ _⟩
set_option maxHeartbeats 1000000 in
set_option maxRecDepth 100000 in
theorem bad_nil (w : World) : Calls Tryz.prog 15 #[.pointer none] w fun e w' => e = .returned (.bool false) ∧ Below w.heap.size w w' := by
  go_enter Tryz.func15, Tryz.ntmps15
  go_wp2
  go_ret
  exact ⟨rfl, Below.refl _ _⟩
set_option maxHeartbeats 1000000 in
set_option maxRecDepth 100000 in
theorem request_nil (w : World) : Calls Tryz.prog 7 #[.pointer none] w fun e w' => e = .returned (.slice none 0 0) ∧ Below w.heap.size w w' := by
  go_enter Tryz.func7, Tryz.ntmps7
  go_wp2
  go_ret
  exact ⟨rfl, Below.refl _ _⟩
set_option maxHeartbeats 1000000 in
set_option maxRecDepth 100000 in
theorem wish_nil (w : World) : Calls Tryz.prog 11 #[.pointer none] w (BetQ lz w) := by
  obtain ⟨V, hV, HV⟩ := boxZ w
  have HN := Lib.hid (lcp_size lz)
  have HZ := Lib.hid HV.out.1
  have HB := Lib.hid HV.out.2.1
  go_enter Tryz.func11, Tryz.ntmps11
  go_wp2_with (refine wpList_store_row rfl 37 _ _ rfl w.heap.size (lv lz).toArray rfl rfl 37 _ HZ.out HN.out rfl (lv_one _) ?_)
  (try simp only [Exit.inBlock, Exit.then])
  refine bodyPost_ret (bet_res rfl _ lz HZ.out rfl) rfl ?_
  exact bet_q lz HB.out (Nat.le_refl _)
set_option maxHeartbeats 1000000 in
set_option maxRecDepth 100000 in
theorem mine_nil (w : World) : Calls Tryz.prog 12 #[.pointer none] w (BetQ lz w) := by
  obtain ⟨V, hV, HV⟩ := boxZ w
  have HN := Lib.hid (lcp_size lz)
  have HZ := Lib.hid HV.out.1
  have HB := Lib.hid HV.out.2.1
  go_enter Tryz.func12, Tryz.ntmps12
  go_wp2_with (refine wpList_store_row rfl 37 _ _ rfl w.heap.size (lv lz).toArray rfl rfl 37 _ HZ.out HN.out rfl (lv_one _) ?_)
  (try simp only [Exit.inBlock, Exit.then])
  refine bodyPost_ret (bet_res rfl _ lz HZ.out rfl) rfl ?_
  exact bet_q lz HB.out (Nat.le_refl _)
set_option maxHeartbeats 1000000 in
set_option maxRecDepth 100000 in
theorem peer_nil (w : World) : Calls Tryz.prog 13 #[.pointer none] w (BetQ lz w) := by
  obtain ⟨V, hV, HV⟩ := boxZ w
  have HN := Lib.hid (lcp_size lz)
  have HZ := Lib.hid HV.out.1
  have HB := Lib.hid HV.out.2.1
  go_enter Tryz.func13, Tryz.ntmps13
  go_wp2_with (refine wpList_store_row rfl 37 _ _ rfl w.heap.size (lv lz).toArray rfl rfl 37 _ HZ.out HN.out rfl (lv_one _) ?_)
  (try simp only [Exit.inBlock, Exit.then])
  refine bodyPost_ret (bet_res rfl _ lz HZ.out rfl) rfl ?_
  exact bet_q lz HB.out (Nat.le_refl _)
end Go.Proofs.YtpohcejgblahiaaGreat.Pol
