/- Contracts of Naked, Acked. -/
import Derived.Test.YthoangihndplkaaGIppCa
import Derived.Test.YthoangihndplkaaOptA
import Derived.Test.YthoangihndplkaaIpcGr
namespace Go.Proofs.Ythoangihndplkaa.Ipp
open Go.RowKit Go.Proofs.Ythoangihndplkaa.Oct Go.Proofs.Ythoangihndplkaa.Row Go.Proofs.Ythoangihndplkaa.Mem Go.Proofs.Ythoangihndplkaa.Opt Go.Proofs.Ythoangihndplkaa.Ipc

theorem nk_no {p : Po} {l : List Opt} (h : nkB l = false) : nkP p l = p := by unfold nkP; rw [h]; rfl
def nkS (p : Po) (x : Ipc) (k : Nat) : Po := { p with w := nkW p.c p.w x (mk ((req p).take k)) }
theorem nkS_zero (p : Po) (x : Ipc) : nkS p x 0 = p := by
  unfold nkS nkW
  rw [List.take_zero]
  rfl
theorem nkS_step {p : Po} {x : Ipc} {k : Nat} {o : Opt} (h : (req p)[k]? = some o) (hk : known o.1 = true) : nkS p x (k + 1) = { nkS p x k with w := nkF (nkS p x k).c (nkS p x k).w x o.1 } := by
  unfold nkS
  rw [mk_snoc (req p) k o h]
  have := nkW_step (c := p.c) (w := p.w) (x := x) (m := mk ((req p).take k)) hk
  simp only [this]
theorem nkS_end {p : Po} {l : List Opt} (hn : l ≠ []) (h : Ipc.gE l = 0) : nkP p l = nkS p (Ipc.gL l) (req p).length ∧ nkB l = true := by
  have hb : nkB l = true := by
    unfold nkB
    rw [h]
    simpa using hn
  refine ⟨?_, hb⟩
  unfold nkP nkS
  rw [hb, if_pos rfl, List.take_of_length_le (Nat.le_refl _), nkW_congr (fun t ht => (mk_put ht).symm)]
  rfl
/-- What a round keeps. -/
structure Nj (w wr : World) (g m bx B4 : Nat) (q : Po) (x : Ipc) (r : List Opt) (A : Option Addr) (n : Nat) (l : List Opt) (A4 : Option Addr) (n4 : Nat) : Prop where
  hj : Jd w wr g q A n l
  hs : Sy wr m
  hx : LAt wr bx x
  ho : Opts wr B4 A4 n4 r
  hb : B4 ≤ wr.heap.size
  hne : bx ≠ g
theorem Nj.callee {w wr w' : World} {g m bx B4 : Nat} {q : Po} {x : Ipc} {r : List Opt} {A : Option Addr} {n : Nat} {l : List Opt} {A4 : Option Addr} {n4 : Nat} (h : Nj w wr g m bx B4 q x r A n l A4 n4) (hb : Below wr.heap.size wr w') : Nj w w' g m bx B4 q x r A n l A4 n4 :=
  ⟨h.hj.callee hb, h.hs.callee hb, h.hx.callee hb, h.ho.callee hb h.hb, Nat.le_trans h.hb hb.size, h.hne⟩
theorem Nj.turn {w wr w' : World} {g m bx B4 : Nat} {q q' : Po} {x : Ipc} {r : List Opt} {A : Option Addr} {n : Nat} {l : List Opt} {A4 : Option Addr} {n4 : Nat} (h : Nj w wr g m bx B4 q x r A n l A4 n4) (hm : Moves (fun k => k = g) wr w') (hp : PAt w' g q') : Nj w w' g m bx B4 q' x r A n l A4 n4 :=
  ⟨h.hj.turn hm hp, h.hs.moves hm (fun e => sy_blk h.hs h.hj.hp e), Blk.moves h.hx hm h.hne, opts_past h.ho h.hj.hp (pv_no q) hm h.hb, Nat.le_trans h.hb hm.size, h.hne⟩
set_option maxHeartbeats 8000000 in
set_option maxRecDepth 100000 in
theorem naked_any (g : Nat) (p : Po) (l : List Opt) (A : Option Addr) (n c : Nat) (w : World) (h : PAt w g p) (hm : may p.w = true) (hl : Opts w w.heap.size A n l) (hn : n ≤ 1000) :
    Calls Try.prog 9 #[.pointer (some ⟨g, 0, none⟩), .slice A n c] w (RepQ (nkB l) (nkP p l) g w) := by
  have HP := Lib.hid h
  have HL := Lib.hid hl
  have Hn := Lib.hid hl.1
  have HR := Lib.hid (fun W h => request_room g p W h hm)
  have HG := Lib.hid (get_row l A n c w hl (by omega))
  have hlt0 := Lib.hid h.lt
  clear h hl hm
  go_enter Try.func9, Try.ntmps9
  by_cases hn0 : n = 0
  · subst hn0
    have HE : Hid (nkB l = false ∧ nkP p l = p) := by
      have e := List.length_eq_zero_iff.1 Hn.out
      show _ ∧ _
      rw [e]
      exact ⟨rfl, rfl⟩
    go_wp2
    go_ret
    unfold RepQ
    rw [HE.out.1, HE.out.2]
    exact ⟨rfl, HP.out, Moves.refl _ _⟩
  · have hn1 : ¬ (n : Int) = 0 := by omega
    have HNN : Hid (l ≠ []) := by show _ ≠ _; rintro rfl; exact hn0 (by rw [← Hn.out]; rfl)
    go_wp2_with fail
    refine HG.out.mono ?_
    rintro e w1 ⟨A1, c1, rfl, _, hb1⟩
    have HB1 := Lib.hid hb1
    have HP1 := Lib.hid (HP.out.callee hb1)
    have HGN : Hid (w1.heap.size ≠ g) := Nat.ne_of_gt (Nat.lt_of_lt_of_le hlt0.out hb1.size)
    clear hb1 HG
    generalize (Ipc.gO l).length = n1
    obtain ⟨V, hV, HV⟩ := boxL w1 (Ipc.gL l)
    have HBV := Lib.hid (HB1.out.trans (HV.out.2.1.mono HB1.out.size))
    have HPV := Lib.hid (HP1.out.callee HV.out.2.1)
    have HLV := Lib.hid HV.out.1
    have HSZ := Lib.hid HV.out.2.2
    clear HV HP1 HP HB1
    unfold lv
    cases he : decide (Ipc.gE l = 0)
    · have he' : ¬ Ipc.gE l = 0 := of_decide_eq_false he
      have HE : Hid (nkB l = false) := by
        show _ = _
        unfold nkB
        rw [show (Ipc.gE l == 0) = false by simpa using he', Bool.and_false]
      have he2 : ¬ (Ipc.gE l : Int) = 0 := by omega
      have he3 : ((Ipc.gE l : Int) != 0) = true := by simpa using he2
      clear he he'
      generalize Ipc.gE l = E at *
      go_wp2
      go_ret
      unfold RepQ
      rw [nk_no HE.out, HE.out]
      exact ⟨rfl, HPV.out, Moves.of_below HBV.out⟩
    · have he' : Ipc.gE l = 0 := of_decide_eq_true he
      have HE := Lib.hid (nkS_end (p := p) HNN.out he')
      have he3 : ((Ipc.gE l : Int) != 0) = false := by rw [he']; rfl
      rw [he'] at he3 ⊢
      clear he he'
      have HZ := Lib.hid (nkS_zero p (Ipc.gL l))
      have HST := Lib.hid (fun k o h => @nkS_step p (Ipc.gL l) k o h)
      generalize Ipc.gL l = x at *
      go_wp2_with fail
      refine (sayings_any V).mono ?_
      rintro e w3 ⟨m, rfl, hm3, hs3, hb3⟩
      have HP3 := Lib.hid (HPV.out.callee hb3)
      have HL3 := Lib.hid (HLV.out.callee hb3)
      have HS3 := Lib.hid hs3
      have HB3 := Lib.hid (HBV.out.trans (hb3.mono HBV.out.size))
      clear hb3 hs3 hm3 HPV HLV HBV hV
      go_wp2_with fail
      refine (HR.out _ HP3.out).mono ?_
      rintro e w4 ⟨A4, c4, rfl, hO4, hb4, _, _⟩
      have HP4 := Lib.hid (HP3.out.callee hb4)
      have HL4 := Lib.hid (HL3.out.callee hb4)
      have HS4 := Lib.hid (HS3.out.callee hb4)
      have HB4 := Lib.hid (HB3.out.trans (hb4.mono HB3.out.size))
      have HO4 := Lib.hid hO4
      have HK : Hid (∀ o ∈ req p, known o.1 = true) := fun o ho => (req_known ho).1
      have hlg : (req p).length ≤ 3 := put_len p.w
      clear hb4 hO4 HP3 HL3 HS3 HB3 HR
      obtain ⟨r, hr⟩ : ∃ r, req p = r := ⟨_, rfl⟩
      rw [hr] at HO4 HK hlg HST HE ⊢
      have Hr := Lib.hid HO4.out.1
      clear hr
      generalize r.length = n4 at *
      go_wp2
      go_loopw [30] (fun i wr => ∃ k : Nat, k ≤ n4 ∧ i = .int .i64 k ∧ Hid (Nj w wr g m w1.heap.size w4.heap.size (nkS p x k) x r A n l A4 n4)) (fun i _ => n4 - (intOf i).toNat)
      case atStart => exact ⟨0, Nat.zero_le _, rfl, ⟨⟨by rw [HZ.out]; exact HP4.out, Moves.of_below HB4.out, HL.out.below HB4.out⟩, HS4.out, HL4.out, HO4.out, Nat.le_refl _, HGN.out⟩⟩
      case round =>
        obtain ⟨k, hk, rfl, HJ⟩ := hrel
        by_cases hlt : k < n4
        · obtain ⟨ad, o, rfl, hB, ho, hS1, hc0, hc1⟩ := HJ.out.ho.at_ hlt
          have hkn : known o.1 = true := HK.out o (List.mem_of_getElem? ho)
          have HT : Hid (∀ g p w, PAt w g p → Calls Try.prog (mN o.1) #[.pointer (some ⟨g, 0, none⟩), .agg (lv x).toArray] w (NkQ { p with w := nkF p.c p.w x o.1 } g w)) := fun g p w h => naked_fn hkn g p x w h
          have hE := mN_enters hkn
          have HF := Lib.hid (HST.out k o ho hkn)
          obtain ⟨U, hU, HU⟩ := boxO wr o
          have HJ1 := Lib.hid (HJ.out.callee HU.out.2.1)
          have hlk := say_look hkn HJ1.out.hs
          unfold trip at hlk
          have o0 := HU.out.1.c0
          obtain ⟨x0, x1, x2, x3, x4, x5⟩ := cells6 HJ1.out.hx
          clear ho hkn
          generalize mB o.1 = F1 at *
          generalize mN o.1 = F2 at *
          generalize mX o.1 = F3 at *
          generalize nkS p x k = q at *
          have hf1 := fun w => field1 F1 F2 F3 w
          unfold lv at HT
          go_wp2_with fail
          refine (HT.out g q _ HJ1.out.hj.hp).mono ?_
          rintro e w5 ⟨rfl, hp5, hm5⟩
          have HJ5 := Lib.hid (HJ1.out.turn hm5 hp5)
          rw [← HF.out] at HJ5
          clear hm5 hp5 HT hE hlk hU HU HJ1 HJ HF o0 hf1 hc0 hc1 x0 x1 x2 x3 x4 x5
          go_wp2
          go_roundw
          case rel => exact ⟨k + 1, by omega, by go_num, HJ5⟩
          case measure => simp [intOf]; omega
        · obtain rfl : k = n4 := by omega
          go_wp2
          go_ret
          unfold RepQ
          rw [HE.out.1, HE.out.2]
          exact ⟨rfl, HJ.out.hj.hp, HJ.out.hj.hm⟩
set_option maxHeartbeats 4000000 in
set_option maxRecDepth 100000 in
theorem acked_any (g : Nat) (p : Po) (l : List Opt) (A : Option Addr) (n c : Nat) (w : World) (h : PAt w g p) (hm : may p.w = true) (hl : Opts w w.heap.size A n l) (hn : n ≤ 1000) :
    Calls Try.prog 8 #[.pointer (some ⟨g, 0, none⟩), .slice A n c] w (RepQ (akB p l) (akP p l) g w) := by
  have HP := Lib.hid h
  have HL := Lib.hid hl
  have HR := Lib.hid (request_room g p w h hm)
  have hlg : (req p).length ≤ 3 := put_len p.w
  clear h hl hm
  go_enter Try.func8, Try.ntmps8
  go_wp2_with fail
  refine HR.out.mono ?_
  rintro e w1 ⟨A2, c2, rfl, hO, hb1, _, _⟩
  have HP1 := Lib.hid (HP.out.callee hb1)
  have HB1 := Lib.hid hb1
  have HA := Lib.hid (alike_any l (req p) _ A A2 n (req p).length c c2 w1 (HL.out.next hb1) hO (by unfold maxLen; omega) (by unfold maxLen; omega) (Nat.le_refl _))
  have HE : Hid (akB p l = sm l (req p)) := rfl
  clear HR hO hb1
  cases hs : sm l (req p)
  · have HE2 : Hid (akB p l = false ∧ akP p l = p) := by
      have e : akB p l = false := by rw [HE.out, hs]
      exact ⟨e, by unfold akP; rw [e]; rfl⟩
    rw [hs] at HA
    clear hs HE
    go_wp2_with fail
    refine HA.out.mono ?_
    rintro e w2 ⟨rfl, hb2⟩
    have HP2 := Lib.hid (HP1.out.callee hb2)
    have HB2 := Lib.hid (HB1.out.trans (hb2.mono HB1.out.size))
    clear hb2 HA
    go_wp2
    go_ret
    unfold RepQ
    rw [HE2.out.1, HE2.out.2]
    exact ⟨rfl, HP2.out, Moves.of_below HB2.out⟩
  · have HE2 : Hid (akB p l = true ∧ akP p l = { p with mine := p.w }) := by
      have e : akB p l = true := by rw [HE.out, hs]
      exact ⟨e, by unfold akP; rw [e]; rfl⟩
    rw [hs] at HA
    clear hs HE
    go_wp2_with fail
    refine HA.out.mono ?_
    rintro e w2 ⟨rfl, hb2⟩
    have HP2 := Lib.hid (HP1.out.callee hb2)
    have HB2 := Lib.hid (HB1.out.trans (hb2.mono HB1.out.size))
    clear hb2 HA
    go_wp2_with fail
    refine (wish_any g p w2 HP2.out).mono ?_
    rintro e w3 ⟨rfl, hb3⟩
    have HP3 := Lib.hid (HP2.out.callee hb3)
    have HB3 := Lib.hid (HB2.out.trans (hb3.mono HB2.out.size))
    clear hb3
    have p12 : w3.cell? ⟨g, 12, none⟩ = some (Value.bool p.mine.ha) := HP3.out.c 12
    have q12 := HP3.out.f 12
    have p13 : w3.cell? ⟨g, 13, none⟩ = some (.int .u32 p.mine.addr.toNat) := HP3.out.c 13
    have q13 := HP3.out.f 13
    have p14 : w3.cell? ⟨g, 14, none⟩ = some (.bool p.mine.h1) := HP3.out.c 14
    have q14 := HP3.out.f 14
    have p15 : w3.cell? ⟨g, 15, none⟩ = some (.int .u32 p.mine.dns1.toNat) := HP3.out.c 15
    have q15 := HP3.out.f 15
    have p16 : w3.cell? ⟨g, 16, none⟩ = some (.bool p.mine.h2) := HP3.out.c 16
    have q16 := HP3.out.f 16
    have p17 : w3.cell? ⟨g, 17, none⟩ = some (.int .u32 p.mine.dns2.toNat) := HP3.out.c 17
    have q17 := HP3.out.f 17
    obtain ⟨V, hV⟩ : ∃ V, w3.setCells g 12 (lv p.w) = V := ⟨_, rfl⟩
    have HPV : Hid (PAt V g { p with mine := p.w }) := by show PAt _ _ _; rw [← hV]; exact HP3.out.setMine p.w
    have HMV : Hid (Moves (fun k => k = g) w V) := by show Moves _ _ _; rw [← hV]; exact (Moves.of_below HB3.out).trans (sets_moves _ _ _ _) (fun _ _ h => h)
    simp only [World.setCells, lv] at hV
    unfold lv
    go_wp2
    go_ret
    unfold RepQ
    rw [HE2.out.1, HE2.out.2]
    exact ⟨rfl, HPV.out, HMV.out⟩
end Go.Proofs.Ythoangihndplkaa.Ipp
