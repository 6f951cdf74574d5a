/- PROVED: 'halyardlaw15.IpcppolOnly' returns true for every configuration and row of requests, and leaves them as they were. No condition. -/
import Derived.Test.YtbkcdpfelkbhaaaIppW
import Derived.Test.YtbkcdpfelkbhaaaIppX
import Derived.Test.YtbkcdpfelkbhaaaIppO
import Derived.Test.YtbkcdpfelkbhaaaOpts2
import Derived.Test.YtbkcdpfelkbhaaaQuietS
import Derived.Test.YtbkcdpfelkbhaaaLaw
import Derived.Test.YtbkcdpfelkbhaaaRows
import Derived.SizedLaws
import Derived.Deep.QuietTactic
import Derived.Deep.Quiet
import Derived.BigQuiet
set_option linter.unusedSimpArgs false
set_option linter.unusedVariables false
namespace Go.Proofs.Ytbkcdpfelkbhaaa.IpcppolOnly
open Go.ChangeShapes Go.WideShapes Go.ChangeAt Go.RowKit Go.Proofs.Ytbkcdpfelkbhaaa.Oct Go.Proofs.Ytbkcdpfelkbhaaa.Row Go.Proofs.Ytbkcdpfelkbhaaa.Mem Go.Proofs.Ytbkcdpfelkbhaaa.Opt Go.Proofs.Ytbkcdpfelkbhaaa.Ipc Go.Proofs.Ytbkcdpfelkbhaaa.Law Go.Proofs.Ytbkcdpfelkbhaaa.Ipp
theorem own : ownKnob Try.prog.godebug = none := by kernel_rfl
theorem laidOut : laidOutB Try.prog = true := by kernel_rfl
theorem newP_ok {c : Conf} (h : mayC c = true) : (newP c).naks = 0 ∧ 1 ≤ (newP c).c.mn ∧ (newP c).c = c ∧ c.mn ≤ 10 := by
  unfold mayC at h
  simp only [Bool.and_eq_true, decide_eq_true_eq] at h
  exact ⟨rfl, h.1, rfl, h.2⟩
theorem long_row (l : List Opt) (A : Option Addr) (n c : Nat) (w : World) (hl : Opts w w.heap.size A n l) (hn : n ≤ maxLen) : Calls Try.prog 26 #[.slice A n c] w (LongQ l n w) := long_any l _ A n c w hl hn
/-- Between two requests. -/
structure Oz (cf : Conf) (w wr : World) (g : Nat) (p : Po) : Prop where
  hp : PAt wr g p
  hc : CAt wr w.heap.size cf
  hb : Below w.heap.size w wr
  hg : w.heap.size < g
  c1 : p.c = cf
  n1 : (p.naks : Int) ≤ p.c.mn
  n2 : p.c.mn ≤ 10
  n3 : 0 ≤ p.c.mn
theorem Oz.callee {cf : Conf} {w wr w' : World} {g : Nat} {p : Po} (h : Oz cf w wr g p) (hb : Below wr.heap.size wr w') : Oz cf w w' g p := ⟨h.hp.callee hb, h.hc.callee hb, h.hb.trans (hb.mono h.hb.size), h.hg, h.c1, h.n1, h.n2, h.n3⟩
theorem Oz.judged {cf : Conf} {w wr w' : World} {g : Nat} {p q : Po} {l : List Opt} (h : Oz cf w wr g p) (hp : PAt w' g q) (hm : Moves (fun j => j = g) wr w') (hq : q = jP p l) : Oz cf w w' g q := by
  subst hq
  obtain ⟨_, j2, _, _⟩ := jP_w p l
  exact ⟨hp, Blk.moves h.hc hm (Nat.ne_of_lt h.hg), h.hb.trans (hm.below h.hb.size (fun j e => by rw [e]; exact Nat.le_of_lt h.hg)), h.hg, by rw [j2]; exact h.c1, by have := naks_le h.n1 h.n3 (l := l); rw [j2]; exact this, by rw [j2]; exact h.n2, by rw [j2]; exact h.n3⟩
/-- Behind an Ack. -/
structure Sx (cf : Conf) (w : World) (g : Nat) (p : Po) (bx : Nat) (y : Ipc) (B : Nat) (A : Option Addr) (n : Nat) (l : List Opt) (w' : World) : Prop where
  hp : PAt w' g p
  hc : CAt w' w.heap.size cf
  hy : LAt w' bx y
  ho : Opts w' B A n l
  hs : B ≤ w'.heap.size
  hb : Below w.heap.size w w'
theorem Sx.callee {cf : Conf} {w : World} {g : Nat} {p : Po} {bx : Nat} {y : Ipc} {B : Nat} {A : Option Addr} {n : Nat} {l : List Opt} {wr w' : World} (h : Sx cf w g p bx y B A n l wr) (hb : Below wr.heap.size wr w') : Sx cf w g p bx y B A n l w' :=
  ⟨h.hp.callee hb, h.hc.callee hb, h.hy.callee hb, h.ho.below (hb.mono h.hs), Nat.le_trans h.hs hb.size, h.hb.trans (hb.mono h.hb.size)⟩
set_option maxHeartbeats 16000000 in
set_option maxRecDepth 100000 in
theorem walk (cf : Conf) (A : Option Addr) (n c : Nat) (ls : List (List Opt)) (w : World) (hn : n ≤ maxLen) (hl : Rows2 w w.heap.size A n ls) :
    Calls Try.prog 4 #[.agg #[Value.int .u32 cf.addr.toNat, .int .u32 cf.peer.toNat, .int .u32 cf.dns1.toNat, .int .u32 cf.dns2.toNat, .bool cf.want, .int .i64 cf.mn], .slice A n c] w fun e w' => e = .returned (.bool true) ∧ Below w.heap.size w w' := by
  obtain ⟨W, hW, HW⟩ := boxC w cf
  obtain ⟨c0, c1, c2, c3, c4, c5⟩ := HW.out.1.all
  have HB := Lib.hid HW.out.2.1
  have HC := Lib.hid HW.out.1
  have HS := Lib.hid HW.out.2.2
  have HL := Lib.hid hl
  clear hl HW
  by_cases h40 : n ≤ 40
  · have h41 : ¬ (40 : Int) < (n : Int) := by omega
    have h42 := decide_eq_false h41
    clear hn
    cases hm : mayC cf
    · go_enter Try.func4, Try.ntmps4
      go_wp2_with fail
      refine (new_no cf W hm).mono ?_
      rintro e w1 ⟨rfl, hb1⟩
      have HB1 := Lib.hid (HB.out.trans (hb1.mono HB.out.size))
      clear hb1 hm
      go_wp2_with fail
      refine (alive_any _).mono ?_
      rintro e w2 ⟨rfl, hb2⟩
      have HB2 := Lib.hid (HB1.out.trans (hb2.mono HB1.out.size))
      clear hb2
      go_wp2
      go_ret
      exact ⟨rfl, HB2.out⟩
    · have HK := Lib.hid (newP_ok hm)
      go_enter Try.func4, Try.ntmps4
      go_wp2_with fail
      refine (new_ok cf W hm).mono ?_
      rintro e w1 ⟨g, rfl, hg, hp, hb1⟩
      have H0 : Hid (Oz cf w w1 g (newP cf)) := ⟨hp, HC.out.callee hb1, HB.out.trans (hb1.mono HB.out.size), by have := HS.out; omega, rfl, by have := HK.out.2.1; have := HK.out.1; rw [this]; omega, HK.out.2.2.2, by have := HK.out.2.1; omega⟩
      clear hb1 hp hg hm c0 c1 c2 c3 c4 c5 hW HB HC HS HK
      generalize newP cf = p at *
      go_wp2_with fail
      go_loopw [7] (fun i wr => ∃ (k : Nat) (p' : Po), k ≤ n ∧ i = .int .i64 k ∧ Hid (Oz cf w wr g p')) (fun i _ => n - (intOf i).toNat)
      case atStart => exact ⟨0, p, Nat.zero_le _, rfl, H0⟩
      case round =>
        obtain ⟨k, p', hk, rfl, HM⟩ := hrel
        clear H0
        by_cases hlt : k < n
        · obtain ⟨ad, l, A', c', hA, hB, hl0, hcw, hOw, hl1, hA'⟩ := HL.out.at_ hlt
          subst hA
          have hc0 := (HM.out.hb.cell (by rw [Oct.block_add]; exact hB)).trans hcw
          have hO := hOw.below HM.out.hb
          obtain ⟨n', hn'⟩ : ∃ n', l.length = n' := ⟨_, rfl⟩
          rw [hn'] at hc0 hcw hO hOw hl1
          have HCW := Lib.hid hcw
          have HOW := Lib.hid hOw
          clear hcw hOw
          have HO := Lib.hid hO
          have HL0 := Lib.hid hl0
          have HA := Lib.hid hA'
          have HNL := Lib.hid hn'
          have HG := Lib.hid (long_row l A' n' c' wr (HO.out.more HM.out.hb.size) hl1)
          clear hO hl0 hA' hn'
          go_wp2_with fail
          refine HG.out.mono ?_
          rintro e _ ⟨b, rfl, hb, rfl⟩
          cases b
          · obtain ⟨hn70, _⟩ := hb rfl
            clear hb HG hl1
            have HJ := Lib.hid (judge_any g p' l A' n' c' wr HM.out.hp (HO.out.more HM.out.hb.size) HA.out (by omega) (by have := HM.out.n1; have := HM.out.n2; omega))
            go_wp2_with fail
            refine HJ.out.mono ?_
            rintro e w2 ⟨A2, q2, rfl, ho2, hp2, hm2⟩
            have HN := Lib.hid (HM.out.judged hp2 hm2 rfl)
            have HX := Lib.hid ho2
            have hways := waysOf p' l
            have HC1 := Lib.hid HM.out.c1
            clear ho2 hp2 hm2 HJ HM
            rcases hways with ⟨hC, hxl⟩ | ⟨hC, hr, ha, hs, _, hxl⟩ | ⟨hC, hr, hpo, ha, hpe⟩
            · rw [hC]
              rw [HNL.out] at hxl
              clear hC
              generalize jA p' l = x at *
              have HGt := Lib.hid (get_any x _ A2 _ q2 w2 HX.out (by omega) (Nat.le_refl _))
              go_wp2_with fail
              refine HGt.out.mono ?_
              rintro e w3 ⟨A3, q3, rfl, hO3, hb3⟩
              have HB3 : Hid (Below w2.heap.size w2 (w3.alloc (.cells (lv (Ipc.gL x)).toArray 35))) := hb3.alloc hb3.size _
              have HN3 := Lib.hid (HN.out.callee HB3.out)
              clear hO3 hb3 HGt HN
              have HN := HN3
              unfold lv at *
              generalize (Ipc.gO x).length = no at *
              generalize Ipc.gE x = ne at *
              generalize Ipc.gL x = y at *
              go_wp2
              go_roundw
              case rel => exact ⟨k + 1, _, by omega, by go_num, HN⟩
              case measure => simp [intOf]; omega
            · rw [hC, ha]
              obtain ⟨h1, h2, h3⟩ := nak_says hr
              have hlen : 0 < (sugs p' l).length := List.length_pos_iff.2 hs
              rw [ha, HNL.out] at hxl
              rw [ha] at HX
              rw [HC1.out] at h3
              obtain ⟨x, hx⟩ : ∃ x, sugs p' l = x := ⟨_, rfl⟩
              rw [hx] at h1 h2 h3 hlen hxl HX ⊢
              obtain ⟨m2, hm2⟩ : ∃ m2, x.length = m2 := ⟨_, rfl⟩
              rw [hm2] at hlen hxl HX ⊢
              have HGt := Lib.hid (get_any x _ A2 m2 q2 w2 HX.out (by omega) (Nat.le_refl _))
              unfold GetQ at HGt
              rw [h1, h2] at HGt
              have H3 := Lib.hid h3
              clear hC ha hr hs hx h1 h2 h3 hm2
              go_wp2_with fail
              refine HGt.out.mono ?_
              rintro e w3 ⟨A3, q3, rfl, hO3, hb3⟩
              obtain ⟨y, hy⟩ : ∃ y, Ipc.gL x = y := ⟨_, rfl⟩
              rw [hy] at H3 ⊢
              obtain ⟨V, hV, HV⟩ := boxL w3 y
              have hb4 : Below w2.heap.size w2 V := hb3.trans (HV.out.2.1.mono hb3.size)
              have HN3 := Lib.hid (HN.out.callee hb4)
              have d0 : V.cell? ⟨w3.heap.size, 0, none⟩ = some (Value.bool y.ha) := HV.out.1.c 0
              have d1 : V.cell? ⟨w3.heap.size, 1, none⟩ = some (.int .u32 y.addr.toNat) := HV.out.1.c 1
              have d7 : V.cell? ⟨w.heap.size, 1, none⟩ = some (.int .u32 cf.peer.toNat) := HN3.out.hc.all.2.1
              have i0 : ((m2 : Int) == 0) = false := by rw [beq_eq_false_iff_ne]; omega
              have i1 : ¬ m2 = 0 := by omega
              rw [List.length_nil]
              clear hO3 hb3 hb4 HGt HN HV hy
              have HN := HN3
              unfold lv
              cases hh : y.ha
              · rw [hh] at d0 hV
                go_wp2
                go_roundw
                case rel => exact ⟨k + 1, _, by omega, by go_num, HN⟩
                case measure => simp [intOf]; omega
              · rw [hh] at d0 hV
                have he : y.addr = cf.peer := H3.out hh
                have hne : ((y.addr.toNat : Int) != (cf.peer.toNat : Int)) = false := by rw [he]; simp
                clear he
                go_wp2
                go_roundw
                case rel => exact ⟨k + 1, _, by omega, by go_num, HN⟩
                case measure => simp [intOf]; omega
            · rw [hC, ha]
              obtain ⟨h1, h2, h3, h4, h5⟩ := ack_says hr hpo
              rw [ha] at HX
              rw [HC1.out] at h3 h4 h5
              rw [HNL.out] at HX ⊢
              have HGt := Lib.hid (get_any l _ A2 _ q2 w2 HX.out (by omega) (Nat.le_refl _))
              unfold GetQ at HGt
              rw [h1, h2] at HGt
              have H3 := Lib.hid h3
              have H4 := Lib.hid h4
              have H5 := Lib.hid h5
              have HPe := Lib.hid hpe
              clear hC ha hr hpo h1 h2 h3 h4 h5 hpe
              generalize jP p' l = p2 at *
              go_wp2_with fail
              refine HGt.out.mono ?_
              rintro e w3 ⟨A3, q3, rfl, hO3, hb3⟩
              obtain ⟨y, hy⟩ : ∃ y, Ipc.gL l = y := ⟨_, rfl⟩
              rw [hy] at H3 H4 H5 HPe ⊢
              obtain ⟨V, hV, HV⟩ := boxL w3 y
              have hb4 : Below w2.heap.size w2 V := hb3.trans (HV.out.2.1.mono hb3.size)
              have HN3 := Lib.hid (HN.out.callee hb4)
              have HX3 := Lib.hid (HX.out.below hb4)
              have HY3 := Lib.hid HV.out.1
              rw [List.length_nil]
              clear hO3 hb3 HGt HN HX hy
              have hw4 : w2.heap.size ≤ V.heap.size := hb4.size
              clear HV hb4
              obtain ⟨w4, hw4e⟩ : ∃ w4, w2 = w4 := ⟨_, rfl⟩
              rw [hw4e] at HX3 hw4
              unfold lv
              obtain ⟨y0, y1, y2, y3, y4, y5⟩ := y
              have K3 : Hid (y0 = true → ((y1.toNat : Int) == 0) = false ∧ (cf.peer ≠ 0 → ((y1.toNat : Int) != (cf.peer.toNat : Int)) = false)) := fun h => by
                obtain ⟨h1, h2⟩ := H3.out h
                refine ⟨?_, fun hp => ?_⟩
                · rw [u32_eq0]; exact beq_eq_false_iff_ne.2 h1
                · rw [show y1 = cf.peer from h2 hp]; simp
              have K4 : Hid (y2 = true → ((y3.toNat : Int) != (cf.dns1.toNat : Int)) = false) := fun h => by rw [show y3 = cf.dns1 from H4.out h]; simp
              have K5 : Hid (y4 = true → ((y5.toNat : Int) != (cf.dns2.toNat : Int)) = false) := fun h => by rw [show y5 = cf.dns2 from H5.out h]; simp
              have HSx : Hid (Sx cf w g p2 w3.heap.size ⟨y0, y1, y2, y3, y4, y5⟩ w4.heap.size A2 n' l V) := ⟨HN3.out.hp, HN3.out.hc, HY3.out, HX3.out, hw4, HN3.out.hb⟩
              have HPC : Hid (∀ q : HeldW (fun w' => Sx cf w g p2 w3.heap.size ⟨y0, y1, y2, y3, y4, y5⟩ w4.heap.size A2 n' l w'), Calls Try.prog 16 #[.pointer (some ⟨g, 0, none⟩)] q.w fun e w' => e = .returned (.agg #[Value.bool y0, .int .u32 y1.toNat, .bool y2, .int .u32 y3.toNat, .bool y4, .int .u32 y5.toNat]) ∧ Sx cf w g p2 w3.heap.size ⟨y0, y1, y2, y3, y4, y5⟩ w4.heap.size A2 n' l w') := fun q => by
                have h := peer_any g p2 q.w q.h.hp
                rw [HPe.out] at h
                exact h.mono fun e w' ⟨he, hb⟩ => ⟨he, q.h.callee hb⟩
              have HSC : Hid (∀ q : HeldW (fun w' => Sx cf w g p2 w3.heap.size ⟨y0, y1, y2, y3, y4, y5⟩ w4.heap.size A2 n' l w'), Calls Try.prog 24 #[.slice A2 n' q2, .slice A' n' c'] q.w fun e w' => e = .returned (.bool true) ∧ Sx cf w g p2 w3.heap.size ⟨y0, y1, y2, y3, y4, y5⟩ w4.heap.size A2 n' l w') := fun q =>
                (same_self l A2 A' n' n' q2 c' q.w (q.h.ho.more q.h.hs) ((HOW.out.below q.h.hb).more q.h.hb.size) (by unfold maxLen; omega) (by unfold maxLen; omega)).mono fun e w' ⟨he, hb⟩ => ⟨he, q.h.callee hb⟩
              have r0 : ∀ q : HeldW (fun w' => Sx cf w g p2 w3.heap.size ⟨y0, y1, y2, y3, y4, y5⟩ w4.heap.size A2 n' l w'), q.w.cell? (ad.add k) = some (.slice A' n' c') := fun q => (q.h.hb.cell (by rw [Oct.block_add]; exact hB)).trans HCW.out
              have z0 : ∀ q : HeldW (fun w' => Sx cf w g p2 w3.heap.size ⟨y0, y1, y2, y3, y4, y5⟩ w4.heap.size A2 n' l w'), q.w.cell? ⟨w3.heap.size, 0, none⟩ = some (Value.bool y0) := fun q => q.h.hy.c 0
              have s1 : ∀ q : HeldW (fun w' => Sx cf w g p2 w3.heap.size ⟨y0, y1, y2, y3, y4, y5⟩ w4.heap.size A2 n' l w'), q.w.cell? ⟨w3.heap.size, 1, none⟩ = some (.int .u32 y1.toNat) := fun q => q.h.hy.c 1
              have s2 : ∀ q : HeldW (fun w' => Sx cf w g p2 w3.heap.size ⟨y0, y1, y2, y3, y4, y5⟩ w4.heap.size A2 n' l w'), q.w.cell? ⟨w3.heap.size, 2, none⟩ = some (.bool y2) := fun q => q.h.hy.c 2
              have s3 : ∀ q : HeldW (fun w' => Sx cf w g p2 w3.heap.size ⟨y0, y1, y2, y3, y4, y5⟩ w4.heap.size A2 n' l w'), q.w.cell? ⟨w3.heap.size, 3, none⟩ = some (.int .u32 y3.toNat) := fun q => q.h.hy.c 3
              have s4 : ∀ q : HeldW (fun w' => Sx cf w g p2 w3.heap.size ⟨y0, y1, y2, y3, y4, y5⟩ w4.heap.size A2 n' l w'), q.w.cell? ⟨w3.heap.size, 4, none⟩ = some (.bool y4) := fun q => q.h.hy.c 4
              have s5 : ∀ q : HeldW (fun w' => Sx cf w g p2 w3.heap.size ⟨y0, y1, y2, y3, y4, y5⟩ w4.heap.size A2 n' l w'), q.w.cell? ⟨w3.heap.size, 5, none⟩ = some (.int .u32 y5.toNat) := fun q => q.h.hy.c 5
              have t0 : ∀ q : HeldW (fun w' => Sx cf w g p2 w3.heap.size ⟨y0, y1, y2, y3, y4, y5⟩ w4.heap.size A2 n' l w'), q.w.cell? ⟨w.heap.size, 0, none⟩ = some (.int .u32 cf.addr.toNat) := fun q => Blk.at_ q.h.hc 0
              have t1 : ∀ q : HeldW (fun w' => Sx cf w g p2 w3.heap.size ⟨y0, y1, y2, y3, y4, y5⟩ w4.heap.size A2 n' l w'), q.w.cell? ⟨w.heap.size, 1, none⟩ = some (.int .u32 cf.peer.toNat) := fun q => Blk.at_ q.h.hc 1
              have t2 : ∀ q : HeldW (fun w' => Sx cf w g p2 w3.heap.size ⟨y0, y1, y2, y3, y4, y5⟩ w4.heap.size A2 n' l w'), q.w.cell? ⟨w.heap.size, 2, none⟩ = some (.int .u32 cf.dns1.toNat) := fun q => Blk.at_ q.h.hc 2
              have t3 : ∀ q : HeldW (fun w' => Sx cf w g p2 w3.heap.size ⟨y0, y1, y2, y3, y4, y5⟩ w4.heap.size A2 n' l w'), q.w.cell? ⟨w.heap.size, 3, none⟩ = some (.int .u32 cf.dns2.toNat) := fun q => Blk.at_ q.h.hc 3
              have hNq := fun w => ipc_neq (x := ⟨y0, y1, y2, y3, y4, y5⟩) (y := ⟨y0, y1, y2, y3, y4, y5⟩) (decide_eq_true rfl) w
              have hEq := fun w => ipc_eq (x := ⟨y0, y1, y2, y3, y4, y5⟩) (y := ⟨y0, y1, y2, y3, y4, y5⟩) (decide_eq_true rfl) w
              have s0 : V.cell? ⟨w3.heap.size, 0, none⟩ = some (Value.bool y0) := HSx.out.hy.c 0
              clear H3 H4 H5 HPe HY3 HX3
              go_wp2_with fail
              clear hV s0
              have hne : Nonempty (HeldW (fun w' => Sx cf w g p2 w3.heap.size ⟨y0, y1, y2, y3, y4, y5⟩ w4.heap.size A2 n' l w')) := ⟨⟨V.drew, (HSx.out.callee (Below.refl _ V).drew)⟩⟩
              refine wp_region_quiet_shut (fun w' => Sx cf w g p2 w3.heap.size ⟨y0, y1, y2, y3, y4, y5⟩ w4.heap.size A2 n' l w') (by kernel_rfl) (by kernel_rfl) (HSx.out.callee (Below.refl _ V).drew) (fun G hst hnil => ?_)
              repeat (
                refine hst.out _ _ _ (fun K hK => ?_)
                go_simp
                first
                  | (refine hK _ ?_; clear hK K)
                  | (apply Exists.intro
                     refine ⟨fun _ => ?_, hK _ ?_⟩
                     (first
                       | (go_at_call 16; exact held_of (HPC.out _))
                       | (go_at_call 24; exact held_of (HSC.out _)))
                     clear hK K))
              refine hnil.out _ (fun q => ?_)
              clear hnil hst
              have HQ := Lib.hid q.h
              have HN : Hid (Oz cf w q.w g p2) := ⟨HQ.out.hp, HQ.out.hc, HQ.out.hb, HN3.out.hg, HN3.out.c1, HN3.out.n1, HN3.out.n2, HN3.out.n3⟩
              clear HQ HPC HSC HN3 r0 hNq hEq
              cases y0 <;> cases y2 <;> cases y4
              · go_wp2
                go_roundw
                case rel => exact ⟨k + 1, _, by omega, by go_num, HN⟩
                case measure => simp [intOf]; omega
              · have k5 := K5.out rfl
                go_wp2
                go_roundw
                case rel => exact ⟨k + 1, _, by omega, by go_num, HN⟩
                case measure => simp [intOf]; omega
              · have k4 := K4.out rfl
                go_wp2
                go_roundw
                case rel => exact ⟨k + 1, _, by omega, by go_num, HN⟩
                case measure => simp [intOf]; omega
              · have k4 := K4.out rfl
                have k5 := K5.out rfl
                go_wp2
                go_roundw
                case rel => exact ⟨k + 1, _, by omega, by go_num, HN⟩
                case measure => simp [intOf]; omega
              · obtain ⟨k1, k2⟩ := K3.out rfl
                have hpz := u32_ne0 cf.peer
                by_cases hz : cf.peer = 0
                · rw [show (cf.peer != 0) = false from by rw [hz]; rfl] at hpz
                  clear hz k2
                  go_wp2
                  go_roundw
                  case rel => exact ⟨k + 1, _, by omega, by go_num, HN⟩
                  case measure => simp [intOf]; omega
                · rw [show (cf.peer != 0) = true from bne_iff_ne.2 hz] at hpz
                  have k3 := k2 hz
                  clear hz k2
                  go_wp2
                  go_roundw
                  case rel => exact ⟨k + 1, _, by omega, by go_num, HN⟩
                  case measure => simp [intOf]; omega
              · have k5 := K5.out rfl
                obtain ⟨k1, k2⟩ := K3.out rfl
                have hpz := u32_ne0 cf.peer
                by_cases hz : cf.peer = 0
                · rw [show (cf.peer != 0) = false from by rw [hz]; rfl] at hpz
                  clear hz k2
                  go_wp2
                  go_roundw
                  case rel => exact ⟨k + 1, _, by omega, by go_num, HN⟩
                  case measure => simp [intOf]; omega
                · rw [show (cf.peer != 0) = true from bne_iff_ne.2 hz] at hpz
                  have k3 := k2 hz
                  clear hz k2
                  go_wp2
                  go_roundw
                  case rel => exact ⟨k + 1, _, by omega, by go_num, HN⟩
                  case measure => simp [intOf]; omega
              · have k4 := K4.out rfl
                obtain ⟨k1, k2⟩ := K3.out rfl
                have hpz := u32_ne0 cf.peer
                by_cases hz : cf.peer = 0
                · rw [show (cf.peer != 0) = false from by rw [hz]; rfl] at hpz
                  clear hz k2
                  go_wp2
                  go_roundw
                  case rel => exact ⟨k + 1, _, by omega, by go_num, HN⟩
                  case measure => simp [intOf]; omega
                · rw [show (cf.peer != 0) = true from bne_iff_ne.2 hz] at hpz
                  have k3 := k2 hz
                  clear hz k2
                  go_wp2
                  go_roundw
                  case rel => exact ⟨k + 1, _, by omega, by go_num, HN⟩
                  case measure => simp [intOf]; omega
              · have k4 := K4.out rfl
                have k5 := K5.out rfl
                obtain ⟨k1, k2⟩ := K3.out rfl
                have hpz := u32_ne0 cf.peer
                by_cases hz : cf.peer = 0
                · rw [show (cf.peer != 0) = false from by rw [hz]; rfl] at hpz
                  clear hz k2
                  go_wp2
                  go_roundw
                  case rel => exact ⟨k + 1, _, by omega, by go_num, HN⟩
                  case measure => simp [intOf]; omega
                · rw [show (cf.peer != 0) = true from bne_iff_ne.2 hz] at hpz
                  have k3 := k2 hz
                  clear hz k2
                  go_wp2
                  go_roundw
                  case rel => exact ⟨k + 1, _, by omega, by go_num, HN⟩
                  case measure => simp [intOf]; omega
          · clear hb HG hl1
            go_wp2_with fail
            refine (alive_any _).mono ?_
            rintro e w2 ⟨rfl, hb2⟩
            have HB2 := Lib.hid (HM.out.hb.trans (hb2.mono HM.out.hb.size))
            clear hb2
            go_wp2
            go_ret
            exact ⟨rfl, HB2.out⟩
        · obtain rfl : k = n := by omega
          go_wp2_with fail
          refine (alive_any _).mono ?_
          rintro e w2 ⟨rfl, hb2⟩
          have HB2 := Lib.hid (HM.out.hb.trans (hb2.mono HM.out.hb.size))
          clear hb2
          go_wp2
          go_ret
          exact ⟨rfl, HB2.out⟩
  · have h41 : (40 : Int) < (n : Int) := by omega
    have h42 := decide_eq_true h41
    clear hn
    go_enter Try.func4, Try.ntmps4
    go_wp2_with fail
    refine (alive_any _).mono ?_
    rintro e w2 ⟨rfl, hb2⟩
    have HB2 := Lib.hid (HB.out.trans (hb2.mono HB.out.size))
    clear hb2
    go_wp2
    go_ret
    exact ⟨rfl, HB2.out⟩

set_option maxRecDepth 100000 in
theorem lifted (os : Os) (started : os.Started) (H : Type) (enc : TypeId × Value → H) :
    ReturnsInHanded {} Try.checked os 4 .any (Rows.ipcppolOnlySpec.pre6 enc Try.prog Try.f4 Rows.ipcppolOnlyRow.domain false) (Rows.ipcppolOnlySpec.post enc Try.prog Try.f4 false true false false) := by
  refine returnsInHanded_of_change_sized (C := Try.checked) own started (by kernel_rfl) Try.func4
    (ChangeSpec.witness6 (enc := enc) (C := Try.checked) false ⟨#[], #[.agg #[.int .u32 0, .int .u32 0, .int .u32 0, .int .u32 0, .bool false, .int .i64 0], .slice none 0 0], []⟩ 8 (by kernel_rfl) (by kernel_rfl) (by kernel_rfl) (by kernel_rfl)) ?_
  intro W base args ds gs before hval0 hW hcnd hsz0 _
  have hsz : (DataW.weightsEach Try.prog (Try.f4.params.toList ++ Rows.ipcppolOnlySpec.plain.varTypes Try.prog) (ds ++ gs)).all (· ≤ reachBytes) = true := hsz0
  have hval : ∀ (j : Nat) t v, Try.f4.params[j]? = some t → args[j]? = some v → Value.okWide Try.prog W .any base t v := hval0
  have hW' := hW
  obtain ⟨p, q, hA0, hV, rfl, hfz, hnd⟩ := hW
  have hlt := hW'.lt
  have hA : DataW.TrodAll enc Try.prog W 0 (fun _ => true) true Try.f4.params.toList args.toList ds p := hA0
  rw [Try.params4] at hA hval hsz
  obtain ⟨v0, vs0, d0, ds0, p0, q0, hargs, rfl, rfl, h0, r0⟩ := trodAll_cons hA
  obtain ⟨v1, vs1, d1, ds1, p1, q1, rfl, rfl, rfl, h1, r1⟩ := trodAll_cons r0
  obtain ⟨rfl, rfl, rfl⟩ := trodAll_nil r1
  obtain rfl : args = #[v0, v1] := by cases args; simp_all
  obtain ⟨rfl, rfl⟩ := trodVars_none hV
  obtain ⟨a0, rfl⟩ := conf_of Try.underlying24 (by kernel_rfl) (by kernel_rfl) Try.underlying22 Try.underlying22 Try.underlying22 Try.underlying22 Try.underlying4 Try.underlying3 (hval 0 24 v0 rfl rfl) h0
  obtain ⟨A1, n1, c1, rfl, m1, l1, hO1⟩ := rows2_of Try.underlying55 Try.underlying29 (by kernel_rfl) Try.underlying48 (by kernel_rfl) (by kernel_rfl) Try.underlying5 Try.underlying9 (hval 1 55 v1 rfl rfl) h1 (fun n hn => of_decide_eq_true (List.all_eq_true.1 hsz n (DataW.weights_mem_each (j := 1) (t := 55) rfl rfl n hn)))
  clear hA0 hval0 hsz0
  exact (walk a0 A1 n1 c1 l1 W m1 hO1).mono fun e W' ⟨he, hb⟩ => ⟨_, he, law_post (t := 4) laidOut (by kernel_rfl) rfl rfl Try.underlying4 ⟨rfl, rfl, rfl⟩ hW' hb⟩

theorem over : Rows.ipcppolOnlyRow.holds Try.pinned (OpenSpec.ofChange Rows.ipcppolOnlySpec) :=
  OpenClaim.holds_of_wide 4 Try.f4 rfl rfl rfl rfl rfl rfl rfl ⟨rfl, rfl, rfl, rfl, rfl⟩ rfl rfl rfl rfl rfl (by kernel_rfl) Try.func4 (by kernel_rfl)
    (of_decide_eq_true (by kernel_rfl)) (by unfold Func.isWrapper; first | (rw [if_pos (by decide +kernel)]; kernel_rfl) | (rw [if_neg (by decide +kernel)]; exact ⟨rfl, rfl⟩))
    (fun os started H enc _ => lifted os started H enc)

theorem proved : Rows.IpcppolOnlySaid :=
  over
#print axioms proved
end Go.Proofs.Ytbkcdpfelkbhaaa.IpcppolOnly
