/- PROVED: 'halyard/halyardlaw20.AuthOlder' returns true for any draw, any number of tries, any secret and any two names, and leaves them as they were. Its row lists package md5's two tables as they are laid; the card ties that to the program's text. No other condition. -/
import Derived.Test.YtpfbknbloeilmaaDoorAthOn
import Derived.Test.YtpfbknbloeilmaaDoorGAthH
import Derived.Test.YtpfbknbloeilmaaDoorAthN
import Derived.Test.YtpfbknbloeilmaaDoorChpC
import Derived.Test.YtpfbknbloeilmaaDoorAthCf
import Derived.Test.YtpfbknbloeilmaaDoorMd5La
import Derived.Test.YtpfbknbloeilmaaDoorLaw
import Derived.Test.YtpfbknbloeilmaaDoorRows
import Derived.Test.YtpfbknbloeilmaaDoorCards
import Derived.Test.YtpfbknbloeilmaaDoorTie
import Derived.SevenTiedAt
import Derived.ChangeMaps5
import Derived.SizedLaws
import Derived.StillTailTactics
import Derived.Deep.DeepCutAuto
namespace Go.Proofs.YtpfbknbloeilmaaDoor.AuthOlder
open Go.ChangeShapes Go.WideShapes Go.ChangeAt Go.RowKit Go.WideElems Go.Proofs.YtpfbknbloeilmaaDoor.Oct Go.Proofs.YtpfbknbloeilmaaDoor.Row Go.Proofs.YtpfbknbloeilmaaDoor.Mem Go.Proofs.YtpfbknbloeilmaaDoor.Ath
open Go.Proofs.YtpfbknbloeilmaaDoor.Md5 (Globs of_laid laid2 door_met own laidOut)
open Go.ChangeMaps (open_string shut_string)

set_option maxHeartbeats 8000000 in
set_option maxRecDepth 100000 in
theorem walk (d : UInt32) (tries : UInt8) (sec name other : ByteArray) (w : World) (z2 : sec.size ≤ 140737488351232) (z3 : name.size ≤ 140737488351232) (z4 : other.size ≤ 140737488351232) (hG : Globs w) :
    Calls Tryd.prog 4 #[.int .u32 d.toNat, .int .u8 tries.toNat, .string sec, .string name, .string other] w fun e w' => e = .returned (.bool true) ∧ Below w.heap.size w w' := by
  have HA := Lib.hid (fun W (h : Globs W) => alive_any W h)
  have HG := Lib.hid hG
  obtain ⟨n, hn⟩ : ∃ n : Nat, 1 + tries.toNat % 19 = n := ⟨_, rfl⟩
  have hn1 : 1 ≤ n := by omega
  have hn2 : n ≤ 19 := by omega
  have hn3 : (1 : Int) + (tries.toNat : Int) % 19 = (n : Int) := by omega
  have hn4 : (1 : Int) + (tries.toNat : Int).tmod 19 = (n : Int) := by rw [Int.tmod_eq_emod_of_nonneg (by omega)]; exact hn3
  have hw1 : wrap64 (tries.toNat : Int) = (tries.toNat : Int) := Oct.wrap64_u8 tries
  have hw2 : wrap64 (1 + (tries.toNat : Int).tmod 19) = (n : Int) := by rw [hn4]; exact IntWalk.wrap64_in _ (by omega)
  have hw3 : wrap64 ((n : Int) + 1) = (n : Int) + 1 := IntWalk.wrap64_in _ (by omega)
  clear hG hn
  obtain ⟨p1, hp1⟩ : ∃ p : Bool, decide ((1024 : Int) < (sec.size : Int) + (name.size : Int) + (other.size : Int)) = p := ⟨_, rfl⟩
  obtain ⟨p2, hp2⟩ : ∃ p : Bool, decide ((255 : Int) < (name.size : Int)) = p := ⟨_, rfl⟩
  obtain ⟨p3, hp3⟩ : ∃ p : Bool, decide ((255 : Int) < (other.size : Int)) = p := ⟨_, rfl⟩
  cases p1
  · cases p2
    · cases p3
      · have q1 := of_decide_eq_false hp1
        have q2 := of_decide_eq_false hp2
        have q3 := of_decide_eq_false hp3
        have hs1 : sec.size ≤ 8192 := by omega
        have hs2 : name.size ≤ 255 := by omega
        have hs3 : other.size ≤ 255 := by omega
        clear hp1 hp2 hp3
        have hm := cO_may hn1 hn2
        have HN : Hid (∀ W, Calls Tryd.prog 5 #[.agg #[.int .u8 2, .int .i64 ((n : Int) + 1), .int .i64 1, .int .i64 1], .string ⟨#[115]⟩] W (NewQ (newS (cO n) tS) W)) := fun W => newServer_ok (cO n) tS W (by decide) hm
        have HS0 : Hid (∀ g W, SAt W g (newS (cO n) tS) → Globs W → Calls Tryd.prog 9 #[.pointer (some ⟨g, 0, none⟩), .int .u32 d.toNat] W (OutQ g (pv (sO n tS d 0)) 67 (sends [chO d 0]) W)) := fun g W h hG => by
          have := start_any g _ d W h (inv_new hm (by decide)) hG
          rw [sO_start, sO_first (by decide)] at this
          exact this
        have hgw := Lib.hid HG.out.size
        clear hm
        go_enter Tryd.func4, Tryd.ntmps4
        go_wp2_with fail
        have Q1 := Lib.hid q1; clear q1
        have Q2 := Lib.hid q2; clear q2
        have Q3 := Lib.hid q3; clear q3
        refine (HN.out _).mono ?_
        rintro e w1 ⟨g, rfl, h1, h2, h3⟩
        have HS1 := Lib.hid (HS0.out g w1 h2 (HG.out.below h3))
        have HO : Hid (On w w1 g (newS (cO n) tS)) := ⟨HG.out.below h3, h2, h3, h1⟩
        clear h1 h2 h3 HN HS0
        unfold ptr
        go_wp2_with fail
        refine HS1.out.mono ?_
        rintro e w3 ⟨A, c, rfl, hr, hx, hm⟩
        obtain ⟨q, hA, hq⟩ : ∃ q, A = some ⟨q, 0, none⟩ ∧ w1.heap.size ≤ q := by
          rcases hr.2 with ⟨_, h0⟩ | ⟨g', cap, cur, e1, hg', _⟩
          · cases h0
          · cases e1; exact ⟨g', rfl, hg'⟩
        subst hA
        have HIv : Hid (Iv w (w3.alloc (.cells #[.slice (some ⟨q, 0, none⟩) 1 c, .bool false, .bool false, .string (bOf [])] 39)) g w3.heap.size n d sec name 0 0 none 0) := by
          have hon := HO.out.turn hm hx
          have hlt := HO.out.lt
          have hq3 : q < w3.heap.size := by
            obtain ⟨ad, _, e2, _, d0, _⟩ := (pks_own hr).at_ (k := 0) (by exact Nat.lt_succ_self 0)
            cases e2
            have := World.block_lt_of_cell? _ _ d0
            rw [Nat.zero_mul, show (⟨q, 0, none⟩ : Addr).add 0 = ⟨q, 0, none⟩ from by unfold Addr.add; simp] at this
            exact this
          exact ⟨hon.below ((Below.refl _ _).alloc (Nat.le_refl _) _), ⟨q, c, blk_new w3 _ _, (pks_own hr).below ((Below.refl _ _).alloc (Nat.le_refl _) _), by omega, by omega⟩, World.ownsRow_nil _ _ _ _, fun _ => rfl, hon.lt⟩
        unfold outV outC sends
        simp only [List.length_cons, List.length_nil, Nat.zero_add]
        clear hr hx hm hq HS1 HO
        go_wp2
        generalize w3.heap.size = ob at *
        go_loopw [14, 16] (fun v i wr => ∃ k : Nat, k ≤ n + 1 ∧ i = .int .i64 k ∧ ∃ A c, v = .slice A k c ∧ Hid (Iv w wr g ob n d sec name (min k n) k A c)) (fun _ i _ => n + 1 - (intOf i).toNat)
        case atStart => exact ⟨0, Nat.zero_le _, rfl, none, 0, rfl, by rw [Nat.zero_min]; exact HIv⟩
        case round =>
          obtain ⟨k, hk, rfl, A, c, rfl, HV⟩ := hrel
          clear HIv
          by_cases hlt : k < n + 1
          · skip
            clear hw1 hw2 hw3 hn3 hn4
            have hmin : min k n = k := Nat.min_eq_left (by omega)
            rw [hmin] at HV
            have HI : Hid (Inv (sO n tS d k)) := inv_sO hn1 hn2 d (by omega)
            obtain ⟨q, co, o1, o2, o3, o4⟩ := HV.out.bx
            obtain ⟨ad, P, e2, hP, d0, d1, d2⟩ := o2.at_ (k := 0) (by exact Nat.lt_succ_self 0)
            cases e2; cases hP
            rw [Nat.zero_mul, show (⟨q, 0, none⟩ : Addr).add 0 = ⟨q, 0, none⟩ from by unfold Addr.add; simp] at d0 d1 d2
            simp only [Nat.zero_add] at d1 d2
            have x0 : wr.cell? ⟨ob, 0, none⟩ = some (.slice (some ⟨q, 0, none⟩) 1 co) := o1.at_ 0
            have HOn : Hid (On w wr g (sO n tS d k)) := HV.out.on
            have hVz := Md5.md5_length
            have put := Chp.put_read (c := 1) (.inl rfl) (v := valueD d) (n := tS) (by rw [value_size]; omega) (by rw [value_size]; omega) (by decide)
            have CR : Hid (∀ W, Calls Tryd.prog 10 #[.agg #[.int .u8 1, .int .u8 (UInt8.ofNat (k + 1)).toNat, .string (Chp.vn (valueD d) tS)]] W fun e w' => e = .returned (.tuple #[.string (valueD d), .string tS, .int .i64 0]) ∧ Below W.heap.size W w') := fun W => by
              have h := Chp.read_any 1 (UInt8.ofNat (k + 1)) (Chp.vn (valueD d) tS) W (by have := vn_sz (valueD d) tS (by rw [value_size]; omega) (by decide); unfold maxLen; omega)
              unfold Chp.rdV at h
              rw [put.1, put.2.1, put.2.2] at h
              exact h
            have CS : Hid (∀ W, Globs W → Calls Tryd.prog 18 #[.int .u8 (UInt8.ofNat (k + 1)).toNat, .string sec, .string (valueD d), .string name] W fun e w' => e = .returned (.tuple #[.agg #[.int .u8 2, .int .u8 (UInt8.ofNat (k + 1)).toNat, .string (rO sec name d k).d], .int .i64 0]) ∧ Below W.heap.size W w') := fun W hW => by
              have h := Chp.response_any (UInt8.ofNat (k + 1)) sec (valueD d) name W hs1 (by rw [value_size]; omega) (by omega) hW
              rw [chE_ok (by rw [value_size]; omega) (by rw [value_size]; omega) hs2, Chp.pkV_ok rfl] at h
              exact h
            have CC : Hid (∀ j p, j < k → p = rO sec name d j → ∀ W, SAt W g (sO n tS d k) → Calls Tryd.prog 19 #[.pointer (some ⟨g, 0, none⟩), .agg #[.int .u8 p.c.toNat, .int .u8 p.i.toNat, .string p.d]] W fun e w' => e = .returned (.tuple #[.string (nameIn (sO n tS d k) p), .bool false]) ∧ Below W.heap.size W w') := fun j p hj hp W hW => by
              have hz : p.d.size ≤ maxLen := by rw [hp]; have := rO_sz (sec := sec) hs2 d j; unfold maxLen; omega
              have h := claims_any g _ p W hW hz HI.out.vl
              unfold ClQ at h
              rw [hp] at h
              rw [(rO_old (n := n) (own := tS) (secret := sec) (name := name) (d := d) hj (by omega) sec).1] at h
              rw [hp]
              exact h
            have CP : Hid (∀ j p, j < k → p = rO sec name d j → ∀ W, SAt W g (sO n tS d k) → Globs W → Calls Tryd.prog 21 #[.pointer (some ⟨g, 0, none⟩), .agg #[.int .u8 p.c.toNat, .int .u8 p.i.toNat, .string p.d], .string sec, .bool true] W (OutQ g (pv (sO n tS d k)) 67 no W)) := fun j p hj hp W hW hGW => by
              have hz : p.d.size ≤ maxLen := by rw [hp]; have := rO_sz (sec := sec) hs2 d j; unfold maxLen; omega
              have h := packet_any g _ p sec true W hW HI.out hGW hz hs1
              obtain ⟨_, e2, e3⟩ := rO_old (n := n) (own := tS) (secret := sec) (name := name) (d := d) hj (by omega) sec
              rw [← hp] at e2 e3
              rw [e2, e3] at h
              exact h
            have CSt : Hid (∀ W, SAt W g (sO n tS d k) → Calls Tryd.prog 13 #[.pointer (some ⟨g, 0, none⟩)] W fun e w' => e = .returned (.int .u8 1) ∧ W = w') := fun W hW => state_any g _ W hW
            have CL : Hid (∀ W, SAt W g (sO n tS d k) → Calls Tryd.prog 19 #[.pointer (some ⟨g, 0, none⟩), .agg #[.int .u8 2, .int .u8 (UInt8.ofNat (k + 1)).toNat, .string (rO sec name d k).d]] W fun e w' => e = .returned (.tuple #[.string name, .bool true]) ∧ Below W.heap.size W w') := fun W hW => by
              have h := claims_any g _ (rO sec name d k) W hW (by have := rO_sz (sec := sec) hs2 d k; unfold maxLen; omega) HI.out.vl
              unfold ClQ at h
              obtain ⟨e1, e2, _⟩ := rO_last (n := n) (own := tS) (secret := sec) hs2 d k
              rw [e1, e2] at h
              exact h
            have hI : ((UInt8.ofNat (k + 1)).toNat : Int) = (k : Int) + 1 := by rw [UInt8.toNat_ofNat']; omega
            have hk1 : wrap64 ((k : Int) + 1) = (k : Int) + 1 := IntWalk.wrap64_in _ (by omega)
            have CT : Hid (k < n → ∀ W, SAt W g (sO n tS d k) → Globs W → Calls Tryd.prog 17 #[.pointer (some ⟨g, 0, none⟩), .int .u32 d.toNat] W (OutQ g (pv (sO n tS d (k + 1))) 67 (sends [chO d (k + 1)]) W)) := fun hk W hW hGW => by
              have h := stick_any g _ d W hW HI.out hGW
              obtain ⟨e1, e2⟩ := sO_tick (n := n) (own := tS) (by decide) d d hk
              rw [e1, e2] at h
              exact h
            have HrO : Hid (rO sec name d k = ⟨2, UInt8.ofNat (k + 1), (rO sec name d k).d⟩) := rfl
            replace d0 : wr.cell? ⟨q, 0, none⟩ = some (.int .u8 1) := d0
            replace d1 : wr.cell? ⟨q, 1, none⟩ = some (.int .u8 (UInt8.ofNat (k + 1)).toNat) := d1
            replace d2 : wr.cell? ⟨q, 2, none⟩ = some (.string (Chp.vn (valueD d) tS)) := d2
            have lob : ob < wr.heap.size := o1.lt
            have lq : q < wr.heap.size := World.block_lt_of_cell? _ _ d0
            have hI2 : wrap64 ((UInt8.ofNat (k + 1)).toNat : Int) = (k : Int) + 1 := by rw [hI]; exact hk1
            have hnn : (name.toList == name.toList) = true := by simp
            have hle : decide ((k : Int) ≤ (n : Int)) = true := decide_eq_true (Int.ofNat_le.2 (Nat.le_of_lt_succ hlt))
            have HVsz : Hid ((valueD d).size ≤ 255) := by show _ ≤ _; rw [value_size]; omega
            have HDsz : Hid ((Chp.vn (valueD d) tS).size ≤ 600) := vn_sz (valueD d) tS HVsz.out (by decide)
            generalize (rO sec name d k).d = R at *
            generalize Chp.vn (valueD d) tS = D at *
            generalize valueD d = V at *
            generalize UInt8.ofNat (k + 1) = I at *
            clear o1 o2 put hVz hI
            have HRN : Hid (k + 1 ≤ n + 1) := hlt
            clear hmin
            go_wp2_with fail
            refine (CR.out _).mono ?_
            rintro e w5 ⟨rfl, hb⟩
            have HV5 := Lib.hid (HV.out.below hb)
            have e0 : w5.cell? ⟨ob, 0, none⟩ = some (.slice (some ⟨q, 0, none⟩) 1 co) := (hb.cell (p := ⟨ob, 0, none⟩) lob).trans x0
            have e1 : w5.cell? ⟨q, 1, none⟩ = some (.int .u8 I.toNat) := (hb.cell (p := ⟨q, 1, none⟩) lq).trans d1
            clear hb x0 d0 d1 d2 lob lq
            go_wp2_with fail
            refine (CS.out _ HV5.out.on.gl).mono ?_
            rintro e w6 ⟨rfl, hb⟩
            have HV6 := Lib.hid (HV5.out.below hb)
            have hbx := (Below.refl _ w6).alloc (Nat.le_refl _) (.cells #[.int .u8 2, .int .u8 I.toNat, .string R] 46)
            have HV7 : Hid (Iv w (w6.alloc (.cells #[.int .u8 2, .int .u8 I.toNat, .string R] 46)) g ob n d sec name k k A c ∧ Blk (w6.alloc (.cells #[.int .u8 2, .int .u8 I.toNat, .string R] 46)) w6.heap.size [.int .u8 2, .int .u8 I.toNat, .string R] 46 ∧ g < w6.heap.size) := ⟨HV6.out.below hbx, blk_new w6 [.int .u8 2, .int .u8 I.toNat, .string R] 46, HV6.out.on.lt⟩
            clear hb hbx e0 e1 HV5 HV6 CR CS HV HOn
            go_upto_region 18 with (fail)
            generalize w6.heap.size = pb at *
            generalize w6.alloc (.cells #[.int .u8 2, .int .u8 I.toNat, .string R] 46) = W7 at *
            go_wp2
            go_loopw [22] (fun i wr => ∃ j : Nat, j ≤ k ∧ i = .int .i64 j ∧ Hid (Iv w wr g ob n d sec name k k A c ∧ Blk wr pb [.int .u8 2, .int .u8 I.toNat, .string R] 46 ∧ g < pb)) (fun i _ => k - (intOf i).toNat)
            case atStart => exact ⟨0, Nat.zero_le _, rfl, HV7⟩
            case round =>
              obtain ⟨j, hj, rfl, HW⟩ := hrel
              clear HV7
              by_cases hjk : j < k
              · skip
                obtain ⟨ad, p, hA, hp, c0, c1, c2⟩ := HW.out.1.pks.at_ (k := j) (by rw [olds_len]; exact hjk)
                have hpe : p = rO sec name d j := by rw [olds_at hjk] at hp; exact (Option.some.inj hp).symm
                clear hp
                subst hA
                have lad := World.block_lt_of_cell? _ _ c0
                have CC2 := Lib.hid (CC.out j p hjk hpe)
                have CP2 := Lib.hid (CP.out j p hjk hpe)
                generalize nameIn (sO n tS d k) p = nm at *
                have hng : (ad.add (j * 3)).block ≠ g := fun e => by have h1 : Blk _ g _ _ := HW.out.1.on.s; have h2 : wr.cell? ⟨g, 3, none⟩ = some (.string tS) := h1.at_ 3; exact HW.out.1.ad_ne hjk (by rw [← e, Oct.block_add])
                clear hpe
                go_wp2_with fail
                refine (CC2.out _ HW.out.1.on.s).mono ?_
                rintro e w8 ⟨rfl, hb⟩
                have HW8 : Hid (Iv w w8 g ob n d sec name k k (some ad) c ∧ Blk w8 pb [.int .u8 2, .int .u8 I.toNat, .string R] 46 ∧ g < pb) := ⟨HW.out.1.below hb, HW.out.2.1.callee hb, HW.out.2.2⟩
                replace c0 := (hb.cell (p := ad.add (j * 3)) lad).trans c0
                replace c1 := (hb.cell (p := ⟨(ad.add (j * 3)).block, (ad.add (j * 3)).off + 1, none⟩) lad).trans c1
                replace c2 := (hb.cell (p := ⟨(ad.add (j * 3)).block, (ad.add (j * 3)).off + 2, none⟩) lad).trans c2
                clear hb lad hng
                go_wp2_with fail
                refine (CP2.out _ HW8.out.1.on.s HW8.out.1.on.gl).mono ?_
                rintro e w9 ⟨A9, c9, rfl, hr, hx, hm⟩
                have HW9 : Hid (Iv w w9 g ob n d sec name k k (some ad) c ∧ Blk w9 pb [.int .u8 2, .int .u8 I.toNat, .string R] 46 ∧ g < pb) := ⟨HW8.out.1.same hm hx, HW8.out.2.1.moves hm (by have := HW8.out.2.2; omega), HW8.out.2.2⟩
                have HSm : Hid (Calls Tryd.prog 20 #[.agg #[.slice A9 0 c9, .bool false, .bool false, .string (bOf [])], .agg #[.slice none 0 0, .bool false, .bool false, .string ⟨#[]⟩]] w9 fun e w' => e = .returned (.bool true) ∧ Below w9.heap.size w9 w') := same20_yes no A9 none c9 0 0 w9 rfl (by omega) (pks_own hr) (fun h => absurd h (by show ¬ 0 < 0; omega))
                unfold outV outC no
                simp only [List.length_nil]
                clear hr hx hm c0 c1 c2 HW8
                go_wp2_with fail
                refine HSm.out.mono ?_
                rintro e w10 ⟨rfl, hb⟩
                have HW10 : Hid (Iv w w10 g ob n d sec name k k (some ad) c ∧ Blk w10 pb [.int .u8 2, .int .u8 I.toNat, .string R] 46 ∧ g < pb) := ⟨HW9.out.1.below hb, HW9.out.2.1.callee hb, HW9.out.2.2⟩
                clear hb HW9 HSm
                go_wp2_with fail
                refine (CSt.out _ HW10.out.1.on.s).mono ?_
                rintro e w11 ⟨rfl, rfl⟩
                go_wp2
                go_roundw
                case rel => exact ⟨j + 1, by omega, by go_num, HW10⟩
                case measure => simp [intOf]; omega
              · skip
                obtain rfl : j = k := by omega
                clear CC CP CSt
                have y0 := HW.out.2.1.at_ 0
                have y1 := HW.out.2.1.at_ 1
                have y2 := HW.out.2.1.at_ 2
                simp only [List.getElem?_cons_zero, List.getElem?_cons_succ] at y0 y1 y2
                obtain ⟨i0, hi0, hz0, hz1, hz2⟩ := info_parts infoP
                go_wp2_with fail
                refine (CL.out _ HW.out.1.on.s).mono ?_
                rintro e w8 ⟨rfl, hb⟩
                have HW8 : Hid (Iv w w8 g ob n d sec name j j A c ∧ Blk w8 pb [.int .u8 2, .int .u8 I.toNat, .string R] 46 ∧ g < pb) := ⟨HW.out.1.below hb, HW.out.2.1.callee hb, HW.out.2.2⟩
                clear hb y0 y1 y2
                have y0 := HW8.out.2.1.at_ 0
                have y1 := HW8.out.2.1.at_ 1
                have y2 := HW8.out.2.1.at_ 2
                simp only [List.getElem?_cons_zero, List.getElem?_cons_succ] at y0 y1 y2
                have hbx := (Below.refl _ w8).alloc (Nat.le_refl _) (.cells #[.int .u8 2, .int .u8 I.toNat, .string R] 46)
                have HV9 := Lib.hid (HW8.out.1.below hbx)
                have HL := Lib.hid (pks_one w8 ⟨2, I, R⟩ 46)
                have HS := Lib.hid HV9.out.on.hb.size
                have HO := Lib.hid HV9.out.old
                clear hbx
                go_upto_region 28 with (at_builtin; refine append_pks rfl _ _ 37 rfl w.heap.size 46 i0 _ 24 Tryd.underlying37 hi0 hz0 hz1 hz2 rfl _ j (olds sec name d j) rfl HO.out (some ⟨w8.heap.size, 0, none⟩) 1 1 [⟨2, I, R⟩] rfl (fun e => by cases e) rfl HL.out (by unfold maxLen; omega) (by omega) HS.out ?_; intro v1 w2 hown1 hgr1; have Hown1 := Lib.hid hown1; have Hgr1 := Lib.hid hgr1; clear hown1 hgr1)
                obtain ⟨A1, c1, e1⟩ := own_slice Hown1.out
                subst e1
                have HV10 : Hid (Iv w w2 g ob n d sec name j (j + 1) A1 c1) := HV9.out.more hgw.out Hgr1.out (by rw [HrO.out]; exact Hown1.out)
                clear y0 y1 y2 HW8 HL HS HO HV9 Hown1 Hgr1 hi0 hz0 hz1 hz2 HW CL
                by_cases hjn : j < n
                · skip
                  have dlt : decide ((j : Int) < (n : Int)) = true := decide_eq_true (by omega)
                  have CT2 := Lib.hid (CT.out hjn)
                  clear CT
                  obtain ⟨q', co', o1', o2', o3', o4'⟩ := HV10.out.bx
                  have hgob : Hid (ob ≠ g) := fun e => by have := HV10.out.lo; omega
                  go_wp2_with fail
                  refine (CT2.out _ HV10.out.on.s HV10.out.on.gl).mono ?_
                  rintro e w11 ⟨A2, c2, rfl, hr, hx, hm⟩
                  have hob := o1'.moves hm hgob.out
                  have HN2 := Lib.hid (HV10.out.next hm hx hr)
                  unfold outV outC sends
                  unfold outC at hob
                  simp only [List.length_cons, List.length_nil, Nat.zero_add] at hob ⊢
                  have u0 := hob.at_ 0
                  have u1 := hob.at_ 1
                  have u2 := hob.at_ 2
                  have u3 := hob.at_ 3
                  simp only [List.getElem?_cons_zero, List.getElem?_cons_succ] at u0 u1 u2 u3
                  have f0 := hob.frozen 0
                  have f1 := hob.frozen 1
                  have f2 := hob.frozen 2
                  have f3 := hob.frozen 3
                  clear hr hx hm hob o1' o2' o3' o4' HV10 CT2
                  unfold sends at u0 u1 u2 u3
                  go_wp2
                  go_roundw
                  case rel => exact ⟨j + 1, HRN.out, by go_num, A1, c1, rfl, by rw [Nat.min_eq_left (by omega)]; exact HN2⟩
                  case measure => simp [intOf]; omega
                · skip
                  have dlt : decide ((j : Int) < (n : Int)) = false := decide_eq_false (by omega)
                  obtain rfl : j = n := by omega
                  clear CT
                  go_wp2
                  go_roundw
                  case rel => exact ⟨j + 1, HRN.out, by go_num, A1, c1, rfl, by rw [Nat.min_eq_right (by omega)]; exact HV10⟩
                  case measure => simp [intOf] <;> omega
          · skip
            obtain rfl : k = n + 1 := by omega
            rw [show min (n + 1) n = n from Nat.min_eq_right (by omega)] at HV
            clear hw1 hw2 hn3 hn4
            have hw4 : wrap64 ((n : Int) + 1 - 1) = (n : Int) := by rw [show (n : Int) + 1 - 1 = (n : Int) by omega]; exact IntWalk.wrap64_in _ (by omega)
            have hle : decide (((n + 1 : Nat) : Int) ≤ (n : Int)) = false := decide_eq_false (by omega)
            obtain ⟨ad, p, hA, hp, c0, c1, c2⟩ := HV.out.pks.at_ (k := n) (by rw [olds_len]; omega)
            have hpe : p = rO sec name d n := by rw [olds_at (by omega)] at hp; exact (Option.some.inj hp).symm
            clear hp
            subst hA
            have HOn : Hid (On w wr g (sO n tS d n)) := HV.out.on
            have HI : Hid (Inv (sO n tS d n)) := inv_sO hn1 hn2 d (Nat.le_refl _)
            have HID : Hid (Inv (sD n tS sec name d)) := by
              have := inv_pack HI.out (rO sec name d n) sec true
              rw [(sD_is (n := n) (own := tS) (secret := sec) hs2 d).1] at this
              exact this
            have HIA : Hid (Inv (sA n tS sec name d (d + 1))) := by
              have := inv_tick HID.out (d + 1)
              rw [(sD_tick (n := n) (own := tS) (secret := sec) (name := name) (by decide) d (d + 1)).1] at this
              exact this
            have hpz : p.d.size ≤ maxLen := by rw [hpe]; have := rO_sz (sec := sec) hs2 d n; unfold maxLen; omega
            have K1 : Hid (∀ W, SAt W g (sO n tS d n) → Globs W → Calls Tryd.prog 21 #[.pointer (some ⟨g, 0, none⟩), .agg #[.int .u8 p.c.toNat, .int .u8 p.i.toNat, .string p.d], .string sec, .bool true] W (OutQ g (pv (sD n tS sec name d)) 67 ⟨true, false, name, [⟨3, UInt8.ofNat (n + 1), bOf []⟩]⟩ W)) := fun W hW hGW => by
              have h := packet_any g _ p sec true W hW HI.out hGW hpz hs1
              obtain ⟨e2, e3⟩ := sD_is (n := n) (own := tS) (secret := sec) hs2 d
              rw [← hpe] at e2 e3
              rw [e2, e3] at h
              exact h
            have K2 : Hid (∀ W, SAt W g (sD n tS sec name d) → Globs W → Calls Tryd.prog 21 #[.pointer (some ⟨g, 0, none⟩), .agg #[.int .u8 p.c.toNat, .int .u8 p.i.toNat, .string p.d], .string sec, .bool true] W (OutQ g (pv (sD n tS sec name d)) 67 (sends [⟨3, UInt8.ofNat (n + 1), bOf []⟩]) W)) := fun W hW hGW => by
              have h := packet_any g _ p sec true W hW HID.out hGW hpz hs1
              obtain ⟨e2, e3⟩ := sD_again n tS sec name d sec
              rw [← hpe] at e2 e3
              rw [e2, e3] at h
              exact h
            have K3 : Hid (∀ W, SAt W g (sD n tS sec name d) → Calls Tryd.prog 13 #[.pointer (some ⟨g, 0, none⟩)] W fun e w' => e = .returned (.int .u8 2) ∧ W = w') := fun W hW => state_any g _ W hW
            obtain ⟨J, hJ⟩ : ∃ J, (sA n tS sec name d (d + 1)).id = J := ⟨_, rfl⟩
            have K4 : Hid (∀ W, SAt W g (sD n tS sec name d) → Globs W → Calls Tryd.prog 17 #[.pointer (some ⟨g, 0, none⟩), .int .u32 (d + 1).toNat] W (OutQ g (pv (sA n tS sec name d (d + 1))) 67 (sends [⟨1, J, Chp.vn (valueD (d + 1)) tS⟩]) W)) := fun W hW hGW => by
              have h := stick_any g _ (d + 1) W hW HID.out hGW
              obtain ⟨e1, e2⟩ := sD_tick (n := n) (own := tS) (secret := sec) (name := name) (by decide) d (d + 1)
              rw [hJ] at e2
              rw [e1, e2] at h
              exact h
            have put := Chp.put_read (c := 1) (.inl rfl) (v := valueD (d + 1)) (n := tS) (by rw [value_size]; omega) (by rw [value_size]; omega) (by decide)
            have K5 : Hid (∀ W, Calls Tryd.prog 10 #[.agg #[.int .u8 1, .int .u8 J.toNat, .string (Chp.vn (valueD (d + 1)) tS)]] W fun e w' => e = .returned (.tuple #[.string (valueD (d + 1)), .string tS, .int .i64 0]) ∧ Below W.heap.size W w') := fun W => by
              have h := Chp.read_any 1 J (Chp.vn (valueD (d + 1)) tS) W (by have := vn_sz (valueD (d + 1)) tS (by rw [value_size]; omega) (by decide); unfold maxLen; omega)
              unfold Chp.rdV at h
              rw [put.1, put.2.1, put.2.2] at h
              exact h
            have K6 : Hid (∀ W, Globs W → Calls Tryd.prog 18 #[.int .u8 J.toNat, .string sec, .string (valueD (d + 1)), .string other] W fun e w' => e = .returned (.tuple #[.agg #[.int .u8 2, .int .u8 J.toNat, .string (Chp.vn (Chp.dg J sec (valueD (d + 1))) other)], .int .i64 0]) ∧ Below W.heap.size W w') := fun W hW => by
              have h := Chp.response_any J sec (valueD (d + 1)) other W hs1 (by rw [value_size]; omega) (by omega) hW
              rw [chE_ok (by rw [value_size]; omega) (by rw [value_size]; omega) hs3, Chp.pkV_ok rfl] at h
              exact h
            obtain ⟨X, hX⟩ : ∃ X, packS (sA n tS sec name d (d + 1)) ⟨2, J, Chp.vn (Chp.dg J sec (valueD (d + 1))) other⟩ sec true = X := ⟨_, rfl⟩
            obtain ⟨E, hE⟩ : ∃ E, packO (sA n tS sec name d (d + 1)) ⟨2, J, Chp.vn (Chp.dg J sec (valueD (d + 1))) other⟩ sec true = E := ⟨_, rfl⟩
            have K7 : Hid (∀ W, SAt W g (sA n tS sec name d (d + 1)) → Globs W → Calls Tryd.prog 21 #[.pointer (some ⟨g, 0, none⟩), .agg #[.int .u8 2, .int .u8 J.toNat, .string (Chp.vn (Chp.dg J sec (valueD (d + 1))) other)], .string sec, .bool true] W (OutQ g (pv X) 67 E W)) := fun W hW hGW => by
              have h := packet_any g _ ⟨2, J, Chp.vn (Chp.dg J sec (valueD (d + 1))) other⟩ sec true W hW HIA.out hGW (by show (Chp.vn _ _).size ≤ _; have := vn_sz (Chp.dg J sec (valueD (d + 1))) other (by rw [Chp.dg_size]; omega) hs3; unfold maxLen; omega) hs1
              rw [hX, hE] at h
              exact h
            have hend := sA_end (n := n) (own := tS) (secret := sec) (name := name) (other := other) hs3 d (d + 1)
            simp only [hJ] at hend
            rw [hX, hE] at hend
            obtain ⟨ef, es, ew⟩ := hend
            have K8 : Hid (∀ W, SAt W g X → Calls Tryd.prog 13 #[.pointer (some ⟨g, 0, none⟩)] W fun e w' => e = .returned (.int .u8 ((if other = name then 2 else 3 : Nat) : Int)) ∧ W = w') := fun W hW => by rw [← es]; exact state_any g X W hW
            have K9 : Hid (∀ W, SAt W g X → Calls Tryd.prog 15 #[.pointer (some ⟨g, 0, none⟩)] W fun e w' => e = .returned (.string name) ∧ W = w') := fun W hW => by rw [← ew]; exact name_any g X W hW
            have hd1 : ((d.toNat : Int) + 1) % 4294967296 = ((d + 1).toNat : Int) := by rw [UInt32.toNat_add]; rfl
            have hnn : (name.toList == name.toList) = true := by simp
            have hon := str_eqb other name
            have hVs : (valueD (d + 1)).size = 16 := value_size _
            have hpc : (p.c.toNat : Int) = 2 ∧ True := by rw [hpe]; exact ⟨rfl, trivial⟩
            clear put es ew hJ hX hE HI HID HIA hpe hpc
            generalize d + 1 = dn at *
            generalize packS (sA n tS sec name d dn) ⟨2, J, Chp.vn (Chp.dg J sec (valueD dn)) other⟩ sec true = X' at *
            generalize hRq : Chp.vn (Chp.dg J sec (valueD dn)) other = R at *
            generalize Chp.vn (valueD dn) tS = D at *
            generalize valueD dn = V at *
            generalize sO n tS d n = s1 at *
            generalize sD n tS sec name d = s2 at *
            generalize sA n tS sec name d dn = s3 at *
            generalize UInt8.ofNat (n + 1) = I at *
            have HO := HOn
            clear HOn HV
            have hbx := (Below.refl _ wr).alloc (Nat.le_refl _) (.cells #[.int .u8 p.c.toNat, .int .u8 p.i.toNat, .string p.d] 46)
            have QL : Hid (Blk (wr.alloc (.cells #[.int .u8 p.c.toNat, .int .u8 p.i.toNat, .string p.d] 46)) wr.heap.size [.int .u8 p.c.toNat, .int .u8 p.i.toNat, .string p.d] 46) := blk_new wr [.int .u8 p.c.toNat, .int .u8 p.i.toNat, .string p.d] 46
            have QLn : Hid (¬ wr.heap.size = g) := fun e => by have := HO.out.lt; omega
            replace HO := Lib.hid (HO.out.below hbx)
            clear hbx
            have y0 := QL.out.at_ 0
            have y1 := QL.out.at_ 1
            have y2 := QL.out.at_ 2
            simp only [List.getElem?_cons_zero, List.getElem?_cons_succ] at y0 y1 y2
            go_wp2_with fail
            refine (K1.out _ HO.out.s HO.out.gl).mono ?_
            rintro e w31 ⟨A31, c31, rfl, hr, hx, hm⟩
            have hgl := HO.out.lt
            have hsz := hm.size
            replace QL := Lib.hid (QL.out.moves hm QLn.out)
            replace HO := Lib.hid (HO.out.turn hm hx)
            have OD := Lib.hid (obox_new hr hgl hsz #[.slice A31 1 c31, .bool true, .bool false, .string name] rfl)
            have hbx := (Below.refl _ w31).alloc (Nat.le_refl _) (.cells #[.slice A31 1 c31, .bool true, .bool false, .string name] 39)
            replace QL := Lib.hid (QL.out.callee hbx)
            replace HO := Lib.hid (HO.out.below hbx)
            clear hbx
            clear hr hx hm hgl hsz K1 y0 y1 y2 c0 c1 c2
            unfold outV outC 
            (try simp only [List.length_cons, List.length_nil, Nat.zero_add])
            have y0 := QL.out.at_ 0
            have y1 := QL.out.at_ 1
            have y2 := QL.out.at_ 2
            simp only [List.getElem?_cons_zero, List.getElem?_cons_succ] at y0 y1 y2
            go_wp2_with fail
            refine (K2.out _ HO.out.s HO.out.gl).mono ?_
            rintro e w32 ⟨A32, c32, rfl, hr, hx, hm⟩
            have hgl := HO.out.lt
            have hsz := hm.size
            replace OD := Lib.hid (OD.out.move1 hm)
            replace QL := Lib.hid (QL.out.moves hm QLn.out)
            replace HO := Lib.hid (HO.out.turn hm hx)
            have OA := Lib.hid (obox_new hr hgl hsz #[.slice A32 1 c32, .bool false, .bool false, .string (bOf [])] rfl)
            have hbx := (Below.refl _ w32).alloc (Nat.le_refl _) (.cells #[.slice A32 1 c32, .bool false, .bool false, .string (bOf [])] 39)
            replace OD := Lib.hid (OD.out.below hbx)
            replace QL := Lib.hid (QL.out.callee hbx)
            replace HO := Lib.hid (HO.out.below hbx)
            clear hbx
            clear hr hx hm hgl hsz K2 y0 y1 y2
            unfold outV outC sends
            (try simp only [List.length_cons, List.length_nil, Nat.zero_add])
            have b0 := OD.out.1.at_ 0
            have b1 := OD.out.1.at_ 1
            have b3 := OD.out.1.at_ 3
            have b4 := OA.out.1.at_ 0
            have b5 := OA.out.1.at_ 1
            unfold outC at b0 b1 b3 b4 b5
            unfold sends at b4 b5
            simp only [List.getElem?_cons_zero, List.getElem?_cons_succ, List.length_cons, List.length_nil, Nat.zero_add] at b0 b1 b3 b4 b5
            have HSm := Lib.hid (same17_yes [⟨3, I, bOf []⟩] 1 A32 A31 c32 c31 _ rfl (by decide) OA.out.2.1 OD.out.2.1)
            go_wp2_with fail
            refine HSm.out.mono ?_
            rintro e w33 ⟨rfl, qq, rfl⟩
            replace HO : Hid (On w _ g s2) := Lib.hid (HO.out.below (Below.drewN' (Below.refl _ _) qq))
            clear b0 b1 b3 b4 b5 HSm OD OA QL QLn
            go_wp2_with fail
            refine (K3.out _ HO.out.s).mono ?_
            rintro e w34 ⟨rfl, rfl⟩
            clear K3
            go_wp2_with fail
            refine (K4.out _ HO.out.s HO.out.gl).mono ?_
            rintro e w35 ⟨A35, c35, rfl, hr, hx, hm⟩
            have hgl := HO.out.lt
            have hsz := hm.size
            replace HO := Lib.hid (HO.out.turn hm hx)
            have ON := Lib.hid (obox_new hr hgl hsz #[.slice A35 1 c35, .bool false, .bool false, .string (bOf [])] rfl)
            have hbx := (Below.refl _ w35).alloc (Nat.le_refl _) (.cells #[.slice A35 1 c35, .bool false, .bool false, .string (bOf [])] 39)
            replace HO := Lib.hid (HO.out.below hbx)
            clear hbx
            clear hr hx hm hgl hsz K4 
            unfold outV outC sends
            (try simp only [List.length_cons, List.length_nil, Nat.zero_add])
            have b0 := ON.out.1.at_ 0
            unfold outC at b0
            unfold sends at b0
            simp only [List.getElem?_cons_zero, List.length_cons, List.length_nil, Nat.zero_add] at b0
            obtain ⟨ad2, P2, e2, hP2, d0, d1, d2⟩ := ON.out.2.1.at_ (k := 0) (by exact Nat.lt_succ_self 0)
            cases hP2
            rw [Nat.zero_mul, show ad2.add 0 = ad2 from by unfold Addr.add; simp] at d0 d1 d2
            subst e2
            have lnb := ON.out.1.lt
            have lad := World.block_lt_of_cell? _ _ d0
            go_wp2_with fail
            refine (K5.out _).mono ?_
            rintro e w36 ⟨rfl, hb⟩
            replace HO := Lib.hid (HO.out.below hb)
            replace b0 := (hb.cell (p := ⟨w35.heap.size, 0, none⟩) lnb).trans b0
            replace d1 := (hb.cell (p := ⟨ad2.block, ad2.off + 1, none⟩) lad).trans d1
            clear hb K5 d0 d2 lnb lad ON
            go_wp2_with fail
            refine (K6.out _ HO.out.gl).mono ?_
            rintro e w37 ⟨rfl, hb⟩
            replace HO := Lib.hid (HO.out.below hb)
            clear hb K6 b0 d1
            have hbx := (Below.refl _ w37).alloc (Nat.le_refl _) (.cells #[.int .u8 2, .int .u8 J.toNat, .string R] 46)
            have QQ : Hid (Blk (w37.alloc (.cells #[.int .u8 2, .int .u8 J.toNat, .string R] 46)) w37.heap.size [.int .u8 2, .int .u8 J.toNat, .string R] 46) := blk_new w37 [.int .u8 2, .int .u8 J.toNat, .string R] 46
            have QQn : Hid (¬ w37.heap.size = g) := fun e => by have := HO.out.lt; omega
            replace HO := Lib.hid (HO.out.below hbx)
            clear hbx
            have y0 := QQ.out.at_ 0
            have y1 := QQ.out.at_ 1
            have y2 := QQ.out.at_ 2
            simp only [List.getElem?_cons_zero, List.getElem?_cons_succ] at y0 y1 y2
            obtain ⟨ed, efl, enm, epk⟩ := E
            replace ef : efl = decide (other ≠ name) := ef
            by_cases ho : other = name
            · skip
              obtain rfl : efl = false := by rw [ef]; simp [ho]
              rw [if_pos ho] at K8
              rw [decide_eq_true ho] at hon
              clear ho ef
              go_wp2_with fail
              refine (K7.out _ HO.out.s HO.out.gl).mono ?_
              rintro e w38 ⟨A38, c38, rfl, hr, hx, hm⟩
              have hgl := HO.out.lt
              have hsz := hm.size
              replace QQ := Lib.hid (QQ.out.moves hm QQn.out)
              replace HO := Lib.hid (HO.out.turn hm hx)
              clear hr hx hm hgl hsz K7 y0 y1 y2
              unfold outV outC 
              (try simp only [List.length_cons, List.length_nil, Nat.zero_add])
              have hbx := (Below.refl _ w38).alloc (Nat.le_refl _) (.cells #[.slice A38 epk.length c38, .bool ed, .bool false, .string enm] 39)
              replace HO := Lib.hid (HO.out.below hbx)
              clear hbx QQ QQn
              (try dsimp only)
              generalize epk.length = en at *
              go_wp2_with fail
              refine (K8.out _ HO.out.s).mono ?_
              rintro e w39 ⟨rfl, rfl⟩
              go_wp2_with fail
              refine (K9.out _ HO.out.s).mono ?_
              rintro e w40 ⟨rfl, rfl⟩
              go_wp2_with fail
              refine (HA.out _ HO.out.gl).mono ?_
              rintro e w41 ⟨rfl, hb⟩
              have HBz := Lib.hid (HO.out.hb.trans (hb.mono HO.out.hb.size))
              clear hb
              go_wp2
              go_ret
              exact ⟨rfl, HBz.out⟩
            · skip
              obtain rfl : efl = true := by rw [ef]; simp [ho]
              rw [if_neg ho] at K8
              rw [decide_eq_false ho] at hon
              clear ho ef
              go_wp2_with fail
              refine (K7.out _ HO.out.s HO.out.gl).mono ?_
              rintro e w38 ⟨A38, c38, rfl, hr, hx, hm⟩
              have hgl := HO.out.lt
              have hsz := hm.size
              replace QQ := Lib.hid (QQ.out.moves hm QQn.out)
              replace HO := Lib.hid (HO.out.turn hm hx)
              clear hr hx hm hgl hsz K7 y0 y1 y2
              unfold outV outC 
              (try simp only [List.length_cons, List.length_nil, Nat.zero_add])
              have hbx := (Below.refl _ w38).alloc (Nat.le_refl _) (.cells #[.slice A38 epk.length c38, .bool ed, .bool true, .string enm] 39)
              replace HO := Lib.hid (HO.out.below hbx)
              clear hbx QQ QQn
              (try dsimp only)
              generalize epk.length = en at *
              go_wp2_with fail
              refine (K8.out _ HO.out.s).mono ?_
              rintro e w39 ⟨rfl, rfl⟩
              go_wp2_with fail
              refine (K9.out _ HO.out.s).mono ?_
              rintro e w40 ⟨rfl, rfl⟩
              go_wp2_with fail
              refine (HA.out _ HO.out.gl).mono ?_
              rintro e w41 ⟨rfl, hb⟩
              have HBz := Lib.hid (HO.out.hb.trans (hb.mono HO.out.hb.size))
              clear hb
              go_wp2
              go_ret
              exact ⟨rfl, HBz.out⟩
      · go_enter Tryd.func4, Tryd.ntmps4
        go_wp2_with fail
        refine (HA.out _ HG.out).mono ?_
        rintro e w1 ⟨rfl, hb⟩
        have HB := Lib.hid hb
        clear hb
        go_wp2
        go_ret
        exact ⟨rfl, HB.out⟩
    · go_enter Tryd.func4, Tryd.ntmps4
      go_wp2_with fail
      refine (HA.out _ HG.out).mono ?_
      rintro e w1 ⟨rfl, hb⟩
      have HB := Lib.hid hb
      clear hb
      go_wp2
      go_ret
      exact ⟨rfl, HB.out⟩
  · go_enter Tryd.func4, Tryd.ntmps4
    go_wp2_with fail
    refine (HA.out _ HG.out).mono ?_
    rintro e w1 ⟨rfl, hb⟩
    have HB := Lib.hid hb
    clear hb
    go_wp2
    go_ret
    exact ⟨rfl, HB.out⟩
theorem walk' (a0 : Nat) (hb : a0 < 4294967296) (tries : UInt8) (sec name other : ByteArray) (w : World) (z2 : sec.size ≤ 140737488351232) (z3 : name.size ≤ 140737488351232) (z4 : other.size ≤ 140737488351232) (hG : Globs w) :
    Calls Tryd.prog 4 #[.int .u32 a0, .int .u8 tries.toNat, .string sec, .string name, .string other] w fun e w' => e = .returned (.bool true) ∧ Below w.heap.size w w' := by
  have h := walk (UInt32.ofNat a0) tries sec name other w z2 z3 z4 hG
  rw [UInt32.toNat_ofNat', Nat.mod_eq_of_lt (by omega)] at h
  exact h

set_option maxRecDepth 100000 in
theorem lifted (os : Os) (started : os.Started) (H : Type) (enc : TypeId × Value → H) :
    ReturnsInHanded {} Tryd.checked os 4 .any (fun w args => (Rows.authOlderSpec.pre enc Tryd.prog Tryd.f4 [] false w args ∧ laidMetH Tryd.prog laid2 w) ∧ sizedMet enc Tryd.prog Tryd.f4 (OpenSpec.ofChange Rows.authOlderSpec) false w args)
      (Rows.authOlderSpec.post enc Tryd.prog Tryd.f4 false true false false) := by
  refine returnsInHanded_of_change_and (C := Tryd.checked) (X := fun w _ => laidMetH Tryd.prog laid2 w) (fun _ _ _ hh h => h.of_heap hh) own started (by kernel_rfl) Tryd.func4
    (ChangeSpec.witness_shaped (enc := enc) (C := Tryd.checked) (os := os) (X := fun w _ => laidMetH Tryd.prog laid2 w) false (World.doorLaid Tryd.prog 400 os) #[.int .u32 0, .int .u8 0, .string ByteArray.empty, .string ByteArray.empty, .string ByteArray.empty] 8 rfl (World.shaped_of_RefB (by kernel_rfl) (by kernel_rfl)) (by kernel_rfl) (by kernel_rfl) (by kernel_rfl) (door_met os _)) ?_
  intro W base args ds gs before hval0 hW _ hsz0 hL _
  have hsz : (DataW.weightsEach Tryd.prog (Tryd.f4.params.toList ++ Rows.authOlderSpec.plain.varTypes Tryd.prog) (ds ++ gs)).all (· ≤ reachBytes) = true := hsz0
  have hval : ∀ (j : Nat) t v, Tryd.f4.params[j]? = some t → args[j]? = some v → Value.okWide Tryd.prog W .any base t v := hval0
  have hW' := hW
  obtain ⟨p, q, hA0, hV, rfl, hfz, hnd⟩ := hW
  have hlt := hW'.lt
  have hA : DataW.TrodAll enc Tryd.prog W 0 (fun _ => true) true Tryd.f4.params.toList args.toList ds p := hA0
  rw [Tryd.params4] at hA hval hsz
  obtain ⟨v0, vs0, d0, ds0, p0, q0, hargs, rfl, rfl, h0, r0⟩ := trodAll_cons hA
  obtain ⟨v1, vs1, d1, ds1, p1, q1, rfl, rfl, rfl, h1, r1⟩ := trodAll_cons r0
  obtain ⟨v2, vs2, d2, ds2, p2, q2, rfl, rfl, rfl, h2, r2⟩ := trodAll_cons r1
  obtain ⟨v3, vs3, d3, ds3, p3, q3, rfl, rfl, rfl, h3, r3⟩ := trodAll_cons r2
  obtain ⟨v4, vs4, d4, ds4, p4, q4, rfl, rfl, rfl, h4, r4⟩ := trodAll_cons r3
  obtain ⟨rfl, rfl, rfl⟩ := trodAll_nil r4
  obtain rfl : args = #[v0, v1, v2, v3, v4] := by cases args; simp_all
  obtain ⟨rfl, rfl⟩ := trodVars_none hV
  obtain ⟨z0, rfl, rfl, rfl, w0⟩ := open_int Tryd.underlying42 (hval 0 42 v0 rfl rfl) h0
  obtain ⟨a0, rfl⟩ : ∃ n : Nat, z0 = n := ⟨z0.toNat, by have := bounds_u32 w0; omega⟩
  have b0 := bounds_u32 w0
  obtain ⟨z1, rfl, rfl, rfl, w1⟩ := open_int Tryd.underlying5 (hval 1 5 v1 rfl rfl) h1
  have b1 := bounds_u8 w1
  obtain ⟨a1, rfl⟩ := u8_of' (z := z1) (by omega) (by omega)
  obtain ⟨a2, rfl, rfl, rfl, w2⟩ := open_string Tryd.underlying9 (hval 2 9 v2 rfl rfl) h2
  obtain ⟨a3, rfl, rfl, rfl, w3⟩ := open_string Tryd.underlying9 (hval 3 9 v3 rfl rfl) h3
  obtain ⟨a4, rfl, rfl, rfl, w4⟩ := open_string Tryd.underlying9 (hval 4 9 v4 rfl rfl) h4
  have z2 : a2.size ≤ 140737488351232 := by have h := sized_string hsz (j := 2) (t := 9) rfl rfl; rw [Array.length_toList] at h; exact h
  have z3 : a3.size ≤ 140737488351232 := by have h := sized_string hsz (j := 3) (t := 9) rfl rfl; rw [Array.length_toList] at h; exact h
  have z4 : a4.size ≤ 140737488351232 := by have h := sized_string hsz (j := 4) (t := 9) rfl rfl; rw [Array.length_toList] at h; exact h
  clear hA0 hval0 hsz0
  exact (walk' a0 (by omega) a1 a2 a3 a4 W z2 z3 z4 (of_laid hL)).mono fun e W' ⟨he, hb⟩ => ⟨_, he, Law.law_post (t := 4) laidOut (by kernel_rfl) rfl rfl Tryd.underlying4 ⟨rfl, rfl, rfl⟩ hW' hb⟩

theorem over : Rows.authOlderRow.holds Tryd.pinned (OpenSpec.ofChange Rows.authOlderSpec) :=
  OpenClaim.holds_of_wide 4 Tryd.f4 rfl rfl rfl rfl rfl rfl rfl ⟨rfl, rfl, rfl, rfl, rfl⟩ rfl rfl rfl rfl rfl (by kernel_rfl) Tryd.func4 (by kernel_rfl)
    (of_decide_eq_true (by kernel_rfl)) (by unfold Func.isWrapper; first | (rw [if_pos (by decide +kernel)]; kernel_rfl) | (rw [if_neg (by decide +kernel)]; exact ⟨rfl, rfl⟩))
    (fun os started H enc _ => lifted os started H enc)

theorem proved : Rows.AuthOlderCardSaid :=
  Claim7.holds_tied_plain_at .later [] [.data, .data] true _ false
    over (fun _ h => by cases h) (by kernel_rfl) (fun _ h => by cases h) authOlder_row_tie rfl ⟨rfl, rfl⟩ (by kernel_rfl) rfl
    (fun f fn hf hfn => by
      obtain rfl : f = 4 := Option.some.inj ((show Tryd.prog.funcNamed "halyard/halyardlaw20.AuthOlder" = some 4 by kernel_rfl).symm.trans hf) |>.symm
      obtain rfl : fn = Tryd.f4 := (Option.some.inj (Tryd.func4.symm.trans hfn)).symm
      exact ⟨by kernel_rfl, fun j t ht => by
        rw [Tryd.params4] at ht
        rcases j with _ | j
        · obtain rfl : t = 42 := by simpa using ht.symm
          exact (show Tryd.prog.wantsStandIn 42 = false by kernel_rfl)
        rcases j with _ | j
        · obtain rfl : t = 5 := by simpa using ht.symm
          exact (show Tryd.prog.wantsStandIn 5 = false by kernel_rfl)
        rcases j with _ | j
        · obtain rfl : t = 9 := by simpa using ht.symm
          exact (show Tryd.prog.wantsStandIn 9 = false by kernel_rfl)
        rcases j with _ | j
        · obtain rfl : t = 9 := by simpa using ht.symm
          exact (show Tryd.prog.wantsStandIn 9 = false by kernel_rfl)
        rcases j with _ | j
        · obtain rfl : t = 9 := by simpa using ht.symm
          exact (show Tryd.prog.wantsStandIn 9 = false by kernel_rfl)
        simp at ht⟩)
    (by kernel_rfl)
#print axioms proved
end Go.Proofs.YtpfbknbloeilmaaDoor.AuthOlder
