/- Contract of the document's Read. -/
import Derived.Test.YtlbnbbpokphgbaaDoorIpcS
namespace Go.Proofs.YtlbnbbpokphgbaaDoor.Ipc
open Go.RowKit Go.Proofs.YtlbnbbpokphgbaaDoor.Oct Go.Proofs.YtlbnbbpokphgbaaDoor.Row Go.Proofs.YtlbnbbpokphgbaaDoor.Mem

theorem dfo_snoc {l : List UInt8} {k : Nat} (h : k < l.length) : dfo (l.take (k + 1)) (0, 0) = dst (dfo (l.take k) (0, 0)) l[k] := by
  rw [List.take_succ_eq_append_getElem h, dfo_append]
  rfl
theorem or_join (V N : Nat) (hN : N < 4294967296) : bits .or .u32 ((V : Int) * 256 % 4294967296) ((N : Int) % 256) = (((V * 256 + N % 256) % 4294967296 : Nat) : Int) := by
  have e1 : (V : Int) * 256 % 4294967296 = ((V * 256 % 4294967296 : Nat) : Int) := by omega
  have e2 : (N : Int) % 256 = ((N % 256 : Nat) : Int) := by omega
  rw [e1, e2, u32_or_nat _ _ (by omega) (by omega)]
  have h3 : V * 256 % 4294967296 = V % 16777216 * 256 := by omega
  rw [h3]
  obtain ⟨A, hA⟩ : ∃ A, V % 16777216 = A := ⟨_, rfl⟩
  obtain ⟨M, hM⟩ : ∃ M, N % 256 = M := ⟨_, rfl⟩
  rw [hA, hM]
  have hM2 : M < 2 ^ 8 := by rw [← hM]; exact Nat.mod_lt _ (by decide)
  have hA2 : A * 256 % 2 ^ 8 = 0 := Nat.mul_mod_left _ _
  rw [nat_join 8 (A * 256) M hA2 hM2]
  have hf : A * 256 + M = (V * 256 + M) % 4294967296 := by
    have hM3 : M < 256 := hM2
    omega
  rw [hf]
set_option maxHeartbeats 4000000 in
set_option maxRecDepth 100000 in
theorem rread_any (s : ByteArray) (w : World) {B : Nat} (hG : Glb B w) (hs : s.size ≤ 100) : Calls Tryd.prog 18 #[.string s] w fun e w' => e = .returned (.tuple #[.int .u32 (rdV s).toNat, .int .i64 (rdE s)]) ∧ Below w.heap.size w w' := by
  by_cases h15 : 15 < s.size
  · have HE := Lib.hid (rd_long h15)
    have HV := Lib.hid (rd_bad HE.out).1
    have h1 : (15 : Int) < s.size := by omega
    rw [HE.out, HV.out]
    go_enter Tryd.func18, Tryd.ntmps18
    go_wp2
    go_ret2
    exact ⟨rfl, Below.refl _ _⟩
  · have h1 : ¬ (15 : Int) < s.size := by omega
    have hl : s.size = s.toList.length := size_toList s
    have HL := Lib.hid hl; clear hl
    have HG := Lib.hid hG; clear hG
    go_enter Tryd.func18, Tryd.ntmps18
    go_wp2
    go_loopw [4, 5, 6] (fun a b i wr => ∃ k V N : Nat, k ≤ s.size ∧ i = .int .i64 k ∧ a = .int .u32 V ∧ b = .int .u32 N ∧ V ≤ 4294967295 ∧ N ≤ 4294967295 ∧ Hid (dfo (s.toList.take k) (0, 0) = (V, N)) ∧ Hid (Below w.heap.size w wr)) (fun _ _ i _ => s.size - (intOf i).toNat)
    case atStart => exact ⟨0, 0, 0, Nat.zero_le _, rfl, rfl, rfl, by omega, by omega, rfl, Below.refl _ _⟩
    case round =>
      obtain ⟨k, V, N, hk, rfl, rfl, rfl, hV, hN, HD, HB⟩ := hrel
      by_cases hlt : k < s.size
      · have hkl : k < s.toList.length := by rw [← HL.out]; exact hlt
        have hc := getElem_toList s k hlt
        have hS : dfo (s.toList.take (k + 1)) (0, 0) = dst (V, N) s.toList[k] := by rw [dfo_snoc hkl, HD.out]
        generalize s.toList[k] = c at *
        have HS := Lib.hid hS; clear hS
        have hlt1 : (k : Int) < s.size := by omega
        have hc8 : (c.toNat : Int) ≤ 255 := by have := c.toNat_lt; omega
        by_cases h46 : c = 46
        · have ht : ((c.toNat : Int) == 46) = true := by rw [h46]; rfl
          have HO := Lib.hid (or_join V N (by omega))
          have HX : Hid (dst (V, N) c = ((V * 256 + N % 256) % 4294967296, 0)) := by show _ = _; unfold dst; rw [if_pos h46]
          clear h46
          go_wp2
          go_roundw
          case rel => exact ⟨k + 1, (V * 256 + N % 256) % 4294967296, 0, by omega, by go_num, by rw [HO.out], rfl, by omega, by omega, by show _ = _; rw [HS.out, HX.out], HB⟩
          case measure => simp [intOf]; omega
        · have ht : ((c.toNat : Int) == 46) = false := by
            rw [beq_eq_false_iff_ne]
            intro e
            exact h46 (UInt8.toNat_inj.1 (by show c.toNat = 46; omega))
          have HX : Hid (dst (V, N) c = (V, ns N c)) := by show _ = _; unfold dst; rw [if_neg h46]
          have HN : Hid ((((N : Int) * 10 + (c.toNat : Int) % 64) % 4294967296 - 48) % 4294967296 = ((ns N c : Nat) : Int)) := by
            show _ = _
            unfold ns
            omega
          have HNl : Hid (ns N c ≤ 4294967295) := by show _ ≤ _; unfold ns; omega
          clear h46
          generalize ns N c = M at *
          go_wp2
          go_roundw
          case rel => exact ⟨k + 1, V, M, by omega, by go_num, rfl, by rw [HN.out], hV, HNl.out, by show _ = _; rw [HS.out, HX.out], HB⟩
          case measure => simp [intOf]; omega
      · have hlt1 : ¬ (k : Int) < s.size := by omega
        have hD := HD.out
        rw [List.take_of_length_le (by rw [← HL.out]; omega)] at hD
        have hdv : dv s = (V * 256 + N % 256) % 4294967296 := by unfold dv; rw [hD]
        have HO : Hid (bits .or .u32 ((V : Int) * 256 % 4294967296) ((N : Int) % 256) = (((UInt32.ofNat (dv s)).toNat : Nat) : Int)) := by
          show _ = _
          rw [or_join V N (by omega), UInt32.toNat_ofNat', hdv]
          omega
        have HR := Lib.hid (@dv_rd s)
        have HGr := Lib.hid (HG.out.callee HB.out)
        clear hD hdv
        generalize UInt32.ofNat (dv s) = u at *
        have C := Lib.hid (fun W hW => rtext_any u W (B := B) hW)
        by_cases hx : txt u = s
        · have HR1 := Lib.hid (HR.out.1 hx)
          have ht : ((txt u).toList == s.toList) = true := by rw [hx]; simp
          clear HR hx
          generalize txt u = t at *
          have ho := HO.out
          go_wp2_with fail
          refine (C.out _ HGr.out).mono ?_
          rintro e w1 ⟨rfl, hb1⟩
          have HB1 := Lib.hid (HB.out.trans (hb1.mono HB.out.size))
          clear hb1 C ho
          go_wp2
          go_ret2
          rw [HR1.out.1, HR1.out.2]
          exact ⟨rfl, HB1.out⟩
        · have HR1 := Lib.hid (HR.out.2 hx)
          have HR2 := Lib.hid (rd_bad HR1.out).1
          have ht : ((txt u).toList == s.toList) = false := by rw [beq_eq_false_iff_ne]; intro e; exact hx (toList_inj e)
          clear HR hx
          generalize txt u = t at *
          have ho := HO.out
          go_wp2_with fail
          refine (C.out _ HGr.out).mono ?_
          rintro e w1 ⟨rfl, hb1⟩
          have HB1 := Lib.hid (HB.out.trans (hb1.mono HB.out.size))
          clear hb1 C ho
          go_wp2
          go_ret2
          rw [HR2.out, HR1.out]
          exact ⟨rfl, HB1.out⟩
end Go.Proofs.YtlbnbbpokphgbaaDoor.Ipc
