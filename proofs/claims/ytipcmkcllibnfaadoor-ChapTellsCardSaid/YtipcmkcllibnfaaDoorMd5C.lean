/- Contracts of the document's Padded and Sum. -/
import Derived.Test.YtipcmkcllibnfaaDoorMd5B
namespace Go.Proofs.YtipcmkcllibnfaaDoor.Md5
open Go.RowKit Go.Proofs.YtipcmkcllibnfaaDoor.Oct Go.Proofs.YtipcmkcllibnfaaDoor.Row Go.Proofs.YtipcmkcllibnfaaDoor.Mem

theorem snoc_text (l : List UInt8) (j : Nat) : bOf (l ++ 128 :: List.replicate j 0) ++ (⟨#[0]⟩ : ByteArray) = bOf (l ++ 128 :: List.replicate (j + 1) 0) := by
  rw [show (⟨#[0]⟩ : ByteArray) = bOf [0] from rfl, append_bOf, toList_bOf, toList_bOf, List.replicate_succ']
  simp
theorem first_text (s : ByteArray) : s ++ (⟨#[128]⟩ : ByteArray) = bOf (s.toList ++ 128 :: List.replicate 0 0) := by
  rw [show (⟨#[128]⟩ : ByteArray) = bOf [128] from rfl, append_bOf, toList_bOf]; rfl
theorem padded_text (l : List UInt8) : (bOf (l ++ 128 :: List.replicate (zeros l.length) 0) ++ bOf (le4 (8 * l.length % 4294967296))) ++ bOf (le4 (8 * l.length / 4294967296)) = bOf (padded l) := by
  rw [append_bOf, append_bOf]
  simp only [toList_bOf]
  congr 1
  unfold padded pad le8
  simp
def strLen : Value → Nat
  | .string s => s.size
  | _ => 0
set_option maxHeartbeats 1000000 in
theorem rpadded_any (s : ByteArray) (w : World) (hs : s.size ≤ 1048576) :
    Calls Tryd.prog 44 #[.string s] w fun e w' => e = .returned (.string (bOf (padded s.toList))) ∧ Below w.heap.size w w' := by
  have HE := Lib.hid (padded_text s.toList)
  have HF := Lib.hid (first_text s)
  obtain ⟨n, hn⟩ : ∃ n, s.size = n := ⟨_, rfl⟩
  rw [← size_toList, hn] at HE
  have Hn := Lib.hid hn
  have h8 : IntKind.u64.wrap (IntKind.u64.wrap (n : Int) * 8) = ((8 * n : Nat) : Int) := by simp only [IntKind.wrap_u64]; omega
  have hz : zeros n ≤ 63 := by unfold zeros; omega
  have hmod : ∀ j, j ≤ zeros n → ((n + 1 + j) % 64 = 56 ↔ j = zeros n) := by intro j; unfold zeros; omega
  have HM := Lib.hid hmod; clear hmod
  generalize zeros n = z at *
  have hlen : ∀ j, (bOf (s.toList ++ 128 :: List.replicate j 0)).size = n + 1 + j := fun j => by
    rw [size_bOf, List.length_append, List.length_cons, List.length_replicate, ← size_toList, hn]; omega
  have HL := Lib.hid hlen; clear hlen
  have HS : Hid (∀ j, bOf (s.toList ++ 128 :: List.replicate j 0) ++ (⟨#[0]⟩ : ByteArray) = bOf (s.toList ++ 128 :: List.replicate (j + 1) 0)) := snoc_text s.toList
  go_enter Tryd.func44, Tryd.ntmps44
  go_wp2
  rw [HF.out]
  clear h8
  go_loop [4] (fun t => ∃ j : Nat, j ≤ z ∧ t = .string (bOf (s.toList ++ 128 :: List.replicate j 0))) (fun t => n + 1 + z - strLen t)
  case atStart => exact ⟨0, Nat.zero_le _, rfl⟩
  case round =>
    obtain ⟨j, hj, rfl⟩ := hrel
    by_cases he : j = z
    · subst he
      have hsz := HL.out j
      have hm := (HM.out j hj).2 rfl
      obtain ⟨T, hT⟩ : ∃ T, bOf (s.toList ++ 128 :: List.replicate j 0) = T := ⟨_, rfl⟩
      rw [hT] at hsz
      have HT := Lib.hid hT
      have h1 : ((T.size : Int) % 64 != 56) = false := by
        rw [hsz]; simp; omega
      rw [hT]
      have hTs : T.size ≤ 1048700 := by omega
      have ha := Lib.hid (show ((n : Int) * 8) = ((8 * n % 4294967296 : Nat) : Int) by omega)
      have hb := Lib.hid (show 8 * (n : Int) % 4294967296 / 4294967296 = ((8 * n / 4294967296 : Nat) : Int) by omega)
      have hbl : 8 * n / 4294967296 ≤ 4294967295 := by omega
      have hal : 8 * n % 4294967296 ≤ 4294967295 := by omega
      have HE2 : Hid (T ++ bOf (le4 (8 * n % 4294967296)) ++ bOf (le4 (8 * n / 4294967296)) = bOf (padded s.toList)) := by have := HE.out; rw [hT] at this; exact this
      have hp1 : (bOf (le4 (8 * n % 4294967296))).size = 4 := by rw [size_bOf]; rfl
      have hp2 : (bOf (le4 (8 * n / 4294967296))).size = 4 := by rw [size_bOf]; rfl
      have C1 := Lib.hid (fun W => four_any (8 * n % 4294967296) W hal)
      have C2 := Lib.hid (fun W => four_any (8 * n / 4294967296) W hbl)
      clear hT hm HE
      generalize bOf (le4 (8 * n % 4294967296)) = P1 at *
      generalize bOf (le4 (8 * n / 4294967296)) = P2 at *
      go_wp2_with fail
      rw [ha.out]
      refine (C1.out _).mono ?_
      clear C1
      rintro e w1 ⟨rfl, hb1⟩
      go_wp2_with fail
      rw [hb.out]
      refine (C2.out _).mono ?_
      clear C2
      rintro e w2 ⟨rfl, hb2⟩
      go_wp2
      go_ret
      exact ⟨by rw [← HE2.out]; rfl, hb1.trans (hb2.mono hb1.size)⟩
    · have hsz := HL.out j
      have hm : ¬ (n + 1 + j) % 64 = 56 := fun h => he ((HM.out j hj).1 h)
      have hs1 := HS.out j
      have hsz1 := HL.out (j + 1)
      rw [← hs1] at hsz1
      obtain ⟨T, hT⟩ : ∃ T, bOf (s.toList ++ 128 :: List.replicate j 0) = T := ⟨_, rfl⟩
      rw [hT] at hsz hs1 hsz1
      have Hs1 := Lib.hid hs1; clear hs1
      have Hsz1 := Lib.hid hsz1; clear hsz1
      have h1 : ((T.size : Int) % 64 != 56) = true := by
        rw [hsz]; simp; omega
      rw [hT]
      have hTs : T.size ≤ 1048700 := by omega
      have Hsz := Lib.hid hsz
      clear hT hm hsz
      go_wp2
      go_round
      case rel => exact ⟨j + 1, by omega, by rw [Hs1.out]⟩
      case measure =>
        show n + 1 + z - strLen (.string (T ++ _)) < n + 1 + z - strLen (.string T)
        unfold strLen
        simp only
        rw [Hsz1.out, Hsz.out]
        omega

theorem chunk_text (T : ByteArray) (k : Nat) : (T.extract (64 * k) (64 * k + 64)).toList = chunk T.toList k := by
  rw [toList_extract]; unfold chunk; rw [Nat.add_sub_cancel_left]
set_option maxHeartbeats 1000000 in
set_option maxRecDepth 100000 in
theorem rsum_any (s : ByteArray) (w : World) (hss : s.size ≤ 1048576) :
    Calls Tryd.prog 35 #[.string s] w fun e w' => e = .returned (.string (bOf (md5 s.toList))) ∧ Below w.heap.size w w' := by
  obtain ⟨T, hT⟩ : ∃ T, bOf (padded s.toList) = T := ⟨_, rfl⟩
  have hTl : T.toList = padded s.toList := by rw [← hT, toList_bOf]
  have hTs : T.size = (padded s.toList).length := by rw [size_toList, hTl]
  obtain ⟨N, hN⟩ : ∃ N, (padded s.toList).length = 64 * N ∧ N ≤ 16500 := by
    unfold padded
    rw [List.length_append]
    have h1 := pad_fits s.toList.length
    have h2 := size_toList s
    exact ⟨(s.toList.length + (pad s.toList.length).length) / 64, by omega, by omega⟩
  have HM : Hid (md5 s.toList = text4 (hs T.toList N)) := by
    show _ = _
    unfold md5
    rw [hN.1, Nat.mul_div_cancel_left _ (by omega), hTl]
  have C0 := Lib.hid (fun W => rpadded_any s W hss)
  rw [hT] at C0
  rw [HM.out]
  have hsz : T.size = 64 * N := by rw [hTs, hN.1]
  have hN2 := hN.2
  have Hsz := Lib.hid hsz
  clear hT hTl hTs hN hss HM
  go_enter Tryd.func35, Tryd.ntmps35
  go_wp2_with fail
  refine (C0.out _).mono ?_
  clear C0
  rintro e w1 ⟨rfl, hb1⟩
  go_wp2
  have Hb1 := Lib.hid hb1; clear hb1
  go_loopw [4, 5, 6, 7, 8] (fun a b c d i wr => ∃ k : Nat, k ≤ N ∧ i = .int .i64 ((64 * k : Nat) : Int) ∧ a = .int .u32 (hs T.toList k).a ∧ b = .int .u32 (hs T.toList k).b ∧ c = .int .u32 (hs T.toList k).c ∧ d = .int .u32 (hs T.toList k).d ∧ Below w.heap.size w wr) (fun _ _ _ _ i _ => 64 * N - (intOf i).toNat)
  case atStart => exact ⟨0, Nat.zero_le _, rfl, rfl, rfl, rfl, rfl, Hb1.out⟩
  case round =>
    obtain ⟨k, hk, rfl, rfl, rfl, rfl, rfl, hb⟩ := hrel
    by_cases hlt : k < N
    · obtain ⟨X, hX⟩ : ∃ X, T.extract (64 * k) (64 * k + 64) = X := ⟨_, rfl⟩
      have hXl : X.toList = chunk T.toList k := by rw [← hX, chunk_text]
      have hXs : X.size = 64 := by
        rw [size_toList, hXl]; unfold chunk; rw [List.length_take, List.length_drop, ← size_toList, hsz]; omega
      have HR : Hid (hs T.toList (k + 1) = blk (hs T.toList k) (chunk T.toList k)) := rfl
      have HO := hs_ok T.toList k
      rw [← hXl] at HR
      generalize hs T.toList k = v at *
      have C1 := Lib.hid (fun W => rblock_any v X W HO hXs)
      have Hb := Lib.hid hb; clear hb
      have hm1 : 64 * k + 64 ≤ 64 * N := by omega
      have HX := Lib.hid hX
      clear HO hXs hXl hX hsz
      have hms : 64 * k + 64 ≤ T.size := by rw [Hsz.out]; exact hm1
      have hts : T.size ≤ 1056000 := by rw [Hsz.out]; omega
      have hkk : (64 * (k + 1) : Nat) = 64 * k + 64 := by omega
      have HK := Lib.hid hkk; clear hkk
      generalize 64 * k = m at *
      have hm0 : (0 : Int) ≤ m := by omega
      have h1 : (m : Int) < (T.size : Int) := by omega
      have h2 : (m : Int) + 64 ≤ (T.size : Int) := by omega
      have h3 : (m : Int) ≤ 1056000 := by omega
      go_wp2_with fail
      rw [HX.out]
      refine (C1.out _).mono ?_
      clear C1
      rintro e w2 ⟨rfl, hb2⟩
      have Hb2 := Lib.hid (Hb.out.trans (hb2.mono Hb.out.size)); clear hb2
      go_wp2
      go_roundw
      case rel => exact ⟨k + 1, by omega, by rw [HK.out]; go_num, by rw [HR.out], by rw [HR.out], by rw [HR.out], by rw [HR.out], Hb2.out⟩
      case measure => simp [intOf]; omega
    · obtain rfl : k = N := by omega
      have HO := hs_ok T.toList k
      generalize hv : hs T.toList k = v at HO ⊢
      obtain ⟨a, b, c, d⟩ := v
      have HV := Lib.hid hv; clear hv
      have C1 := Lib.hid (fun W => four_any a W (by have := HO.1; simp only at this; omega))
      have C2 := Lib.hid (fun W => four_any b W (by have := HO.2.1; simp only at this; omega))
      have C3 := Lib.hid (fun W => four_any c W (by have := HO.2.2.1; simp only at this; omega))
      have C4 := Lib.hid (fun W => four_any d W (by have := HO.2.2.2; simp only at this; omega))
      have HE : Hid (((bOf (le4 a) ++ bOf (le4 b) : ByteArray) ++ bOf (le4 c)) ++ bOf (le4 d) = bOf (text4 ⟨a, b, c, d⟩)) := by
        show _ = _
        rw [append_bOf, append_bOf, append_bOf]
        simp only [toList_bOf]
        congr 1
      have z1 : (bOf (le4 a)).size = 4 := by rw [size_bOf]; rfl
      have z2 : (bOf (le4 b)).size = 4 := by rw [size_bOf]; rfl
      have z3 : (bOf (le4 c)).size = 4 := by rw [size_bOf]; rfl
      have z4 : (bOf (le4 d)).size = 4 := by rw [size_bOf]; rfl
      generalize bOf (le4 a) = A at *
      generalize bOf (le4 b) = B at *
      generalize bOf (le4 c) = C at *
      generalize bOf (le4 d) = D at *
      have Hb := Lib.hid hb; clear hb HO
      have hsn : ¬ (64 * (k : Int)) < (T.size : Int) := by omega
      go_wp2_with fail
      refine (C1.out _).mono ?_
      clear C1
      rintro e w1 ⟨rfl, hb1⟩
      go_wp2_with fail
      refine (C2.out _).mono ?_
      clear C2
      rintro e w2 ⟨rfl, hb2⟩
      go_wp2_with fail
      refine (C3.out _).mono ?_
      clear C3
      rintro e w3 ⟨rfl, hb3⟩
      go_wp2_with fail
      refine (C4.out _).mono ?_
      clear C4
      rintro e w4 ⟨rfl, hb4⟩
      go_wp2
      go_ret
      refine ⟨by rw [HV.out, ← HE.out]; rfl, ?_⟩
      have e1 := Hb.out.trans (hb1.mono Hb.out.size)
      have e2 := e1.trans (hb2.mono e1.size)
      have e3 := e2.trans (hb3.mono e2.size)
      exact e3.trans (hb4.mono e3.size)

end Go.Proofs.YtipcmkcllibnfaaDoor.Md5
