/- join: two sides of LCP that are opened, and up. Written by gen/neg_joind.py. -/
import Derived.Test.YtpppggicihfbgaaGreatGNegF
import Derived.Test.YtpppggicihfbgaaGreatGNegLc
import Derived.Test.YtpppggicihfbgaaGreatGNegIr
import Derived.Test.YtpppggicihfbgaaGreatGNegIp
import Derived.Test.YtpppggicihfbgaaGreatGHeldX
import Derived.Deep.CutRange
namespace Go.Proofs.YtpppggicihfbgaaGreat.Neg
open List (getElem_toArray getElem_cons_succ getElem_cons_zero setIfInBounds_toArray set_cons_zero set_cons_succ)
open Go.RowKit Go.Deep Go.Proofs.YtpppggicihfbgaaGreat.Oct Go.Proofs.YtpppggicihfbgaaGreat.Row Go.Proofs.YtpppggicihfbgaaGreat.Mem Go.Proofs.YtpppggicihfbgaaGreat.Opt Go.Proofs.YtpppggicihfbgaaGreat.Fsm

set_option maxRecDepth 100000 in
theorem Tryz.infoPd : (Tryz.prog.info? 56).map (fun i => (i.zero, i.size, i.bytes)) = some (some (.agg #[.int .u8 0, .int .u8 0, .string ByteArray.empty]), 3, 24) := by kernel_rfl
def kS (p q : Pol.Po) (k : Nat) : Sd lcK := if k = 0 then newSd lcK 3 10 2 p else if k = 1 then { newSd lcK 3 10 2 p with x := x1 3 10 2 } else s6 lcK 3 10 2 9 3 1 q
def kL (q : Pol.Po) (k : Nat) : List Pk := if k = 1 then rqs (reqD lcK q) 1 else []
def kT (q : Pol.Po) (k : Nat) : List Pk := if k = 2 then rqs (reqD lcK q) 1 else []
def kE (k : Nat) : Nat := if k = 0 then 2 else 0
def kA (k : Nat) : Int := if k = 0 then told 4 else told 80
def kD (k : Nat) : UInt32 := if k = 0 then 1000 else if k = 1 then 1002 else 1004
theorem kD_step {k : Nat} (h : k < 2) : kD k + 1 + 1 = kD (k + 1) := by
  rcases (show k = 0 ∨ k = 1 by omega) with rfl | rfl <;> rfl
theorem kT_step (p : Pol.Po) {k : Nat} (h : k < 2) : kT p k ++ kL p k = kT p (k + 1) := by
  rcases (show k = 0 ∨ k = 1 by omega) with rfl | rfl <;> rfl
theorem kL_len (p : Pol.Po) {k : Nat} (h : k < 2) : (kL p k).length ≤ 1 := by
  rcases (show k = 0 ∨ k = 1 by omega) with rfl | rfl
  · exact Nat.zero_le 1
  · show (rqs (reqD lcK p) 1).length ≤ 1
    rw [rqs_len]
    exact Nat.le_refl 1
theorem kT_len (p : Pol.Po) {k : Nat} (h : k < 2) : (kT p k).length = 0 := by
  rcases (show k = 0 ∨ k = 1 by omega) with rfl | rfl <;> rfl
theorem k_event (p q0 : Pol.Po) (hok : lcK.ok p) {k : Nat} (hk : k < 2) (d : UInt32) (hr : k = 1 → lcK.renew p d = q0) (g a q : Nat) (w : World) (h : SAt lcK w g a q (kS p q0 k)) :
    Calls Tryz.prog 16 #[.pointer (some ⟨g, 0, none⟩), .int .u8 (kE k), .int .u32 d.toNat] w (OccQ lcK g a q (kS p q0 (k + 1)) (kL q0 k) (kA k) 0 w) := by
  rcases (show k = 0 ∨ k = 1 by omega) with rfl | rfl
  · have h1 := event_ok lcK g a q (newSd lcK 3 10 2 p) 2 d w h (new_ok' may3 hok) (by decide) (open_x 3 10 2).2.1 (by rw [show (newSd lcK 3 10 2 p).x = x0 3 10 2 from rfl, (open_x 3 10 2).1]; decide)
    rw [show (newSd lcK 3 10 2 p).x = x0 3 10 2 from rfl, (open_x 3 10 2).1, open_s lcK 3 10 2 p d] at h1
    exact h1
  · have h1 := event_ok lcK g a q ({ newSd lcK 3 10 2 p with x := x1 3 10 2 }) 0 d w h (new1_ok may3 hok) (by decide) (up_x 3 10 2).2.1 (by rw [show ({ newSd lcK 3 10 2 p with x := x1 3 10 2 } : Sd lcK).x = x1 3 10 2 from rfl, (up_x 3 10 2).1]; decide)
    rw [show ({ newSd lcK 3 10 2 p with x := x1 3 10 2 } : Sd lcK).x = x1 3 10 2 from rfl, (up_x 3 10 2).1, up_s lcK 3 10 2 p d, hr rfl] at h1
    exact h1
set_option maxHeartbeats 16000000 in
set_option maxRecDepth 100000 in
theorem join_anyd (pa pb qa qb : Pol.Po) (oka : lcK.ok pa) (okb : lcK.ok pb) (hra : lcK.renew pa (kD 1 + 1) = qa) (hrb : lcK.renew pb (kD 1 + 1 + 1) = qb) {w W : World} (x y : Ad) (hx : SAt lcK W x.g x.a x.q (kS pa qa 0)) (hy : SAt lcK W y.g y.a y.q (kS pb qb 0))
    (hxy : ∀ k, Mn x k → ¬ Mn y k) (hlo : ∀ k, Mn x k ∨ Mn y k → w.heap.size ≤ k) (hb : Below w.heap.size w W) :
    Calls Tryz.prog 8 #[.pointer (some ⟨x.g, 0, none⟩), .pointer (some ⟨y.g, 0, none⟩)] W fun e w' => ∃ gw vA vB, e = .returned (.pointer (some ⟨gw, 0, none⟩)) ∧ Wi lcK w w' gw x y (kS pa qa 2) (kS pb qb 2) vA vB (kT qb 2) (kT qa 2) 0 := by
  obtain ⟨i0, hi0, hz0, hz1, hz2⟩ := info_parts Tryz.infoPd
  have HP : Hid (lcK.ok pa ∧ lcK.ok pb ∧ lcK.renew pa (kD 1 + 1) = qa ∧ lcK.renew pb (kD 1 + 1 + 1) = qb) := ⟨oka, okb, hra, hrb⟩
  obtain ⟨V, hV⟩ : ∃ V, W.alloc (.cells #[.pointer (some ⟨x.g, 0, none⟩), .pointer (some ⟨y.g, 0, none⟩), .slice none 0 0, .slice none 0 0, .int .u32 1000, .int .i64 0] 64) = V := ⟨_, rfl⟩
  obtain ⟨gw, hgw⟩ : ∃ g, W.heap.size = g := ⟨_, rfl⟩
  have H0 : Hid (Wd lcK w V gw x y (kS pa qa 0) (kS pb qb 0) (.slice none 0 0) (.slice none 0 0) (kT qb 0) (kT qa 0) 0 (kD 0)) := by
    have hba := (Below.refl W.heap.size W).alloc (Nat.le_refl _) (.cells #[.pointer (some ⟨x.g, 0, none⟩), .pointer (some ⟨y.g, 0, none⟩), .slice none 0 0, .slice none 0 0, .int .u32 1000, .int .i64 0] 64)
    rw [hV] at hba
    have hbk : Blk V gw [ptr x.g, ptr y.g, .slice none 0 0, .slice none 0 0, .int .u32 (1000 : UInt32).toNat, .int .i64 (0 : Nat)] 64 := by
      rw [← hV, ← hgw]; exact blk_new W [ptr x.g, ptr y.g, .slice none 0 0, .slice none 0 0, .int .u32 1000, .int .i64 0] _
    exact ⟨hbk, World.ownsRow_nil _ _ _ _, World.ownsRow_nil _ _ _ _, (fun _ e => by cases e), hx.callee hba, hy.callee hba,
      ⟨hxy, fun e => by have := hx.old _ e; omega, fun e => by have := hy.old _ e; omega, fun k hk => by
        rcases hk with rfl | hk
        · rw [← hgw]; exact hb.size
        · exact hlo k hk⟩, (fun _ e => by cases e), (fun _ e => by cases e), hb.trans (hba.mono hb.size)⟩
  clear oka okb hra hrb hx hy hxy hlo hb
  go_enter Tryz.func8, Tryz.ntmps8
  go_wp2
  (try rw [hgw])
  go_loopw [6] (fun i wr => ∃ (k : Nat), k ≤ 2 ∧ i = .int .i64 k ∧ Hid (∃ vA vB, Wd lcK w wr gw x y (kS pa qa k) (kS pb qb k) vA vB (kT qb k) (kT qa k) 0 (kD k))) (fun i _ => 2 - (intOf i).toNat)
  case atStart => exact ⟨0, Nat.zero_le _, rfl, _, _, H0.out⟩
  case round =>
    obtain ⟨k, hk, rfl, HE⟩ := hrel
    obtain ⟨vA, vB, hW⟩ := HE.out
    have HW := Lib.hid hW
    clear hW HE
    by_cases hlt : k < 2
    · have hk2 : (k : Int) < 2 := by omega
      have HEA := Lib.hid (fun d hr g a q w h => k_event pa qa HP.out.1 hlt d hr g a q w h)
      have HEB := Lib.hid (fun d hr g a q w h => k_event pb qb HP.out.2.1 hlt d hr g a q w h)
      have HDk := Lib.hid (kD_step hlt)
      have HTA := Lib.hid (kT_step qa hlt)
      have HTB := Lib.hid (kT_step qb hlt)
      obtain ⟨RA, cA, hvA⟩ := own_slice HW.out.rA
      obtain ⟨RB, cB, hvB⟩ := own_slice HW.out.rB
      rw [kT_len qb hlt] at hvA
      rw [kT_len qa hlt] at hvB
      subst hvA hvB
      have Ha := Lib.hid (kT_len qb hlt)
      have Hb := Lib.hid (kT_len qa hlt)
      obtain ⟨LX, hLX⟩ : ∃ L, (kL qa k).length = L := ⟨_, rfl⟩
      obtain ⟨LY, hLY⟩ : ∃ L, (kL qb k).length = L := ⟨_, rfl⟩
      have hLX1 : LX ≤ 1 := by rw [← hLX]; exact kL_len qa hlt
      have hLY1 : LY ≤ 1 := by rw [← hLY]; exact kL_len qb hlt
      have HLX := Lib.hid hLX
      have HLY := Lib.hid hLY
      clear hLX hLY
      obtain ⟨tA, htA⟩ : ∃ l, l = kT qb k := ⟨_, rfl⟩
      obtain ⟨tB, htB⟩ : ∃ l, l = kT qa k := ⟨_, rfl⟩
      obtain ⟨lX, hlX⟩ : ∃ l, l = kL qa k := ⟨_, rfl⟩
      obtain ⟨lY, hlY⟩ : ∃ l, l = kL qb k := ⟨_, rfl⟩
      rw [← htA] at HW Ha HTB
      rw [← htB] at HW Hb HTA
      rw [← hlX] at HEA HLX HTA
      rw [← hlY] at HEB HLY HTB
      clear htA htB hlX hlY
      have hev : (kE k : Int) = if k = 0 then 2 else 0 := by unfold kE; split <;> rfl
      obtain ⟨TX, hTX⟩ : ∃ T, kA k = T := ⟨_, rfl⟩
      rw [hTX] at HEA HEB
      clear hTX
      rcases (show k = 0 ∨ k = 1 by omega) with rfl | rfl
      · have hev' : (kE 0 : Int) = 2 := rfl
        rw [hev'] at HEA HEB
        clear hev hev'
        go_wp2_with fail
        refine (next_anyd HW.out).mono ?_
        rintro e y1 ⟨rfl, h1, _⟩
        have H1 := Lib.hid h1
        clear h1
        go_wp2_with fail
        refine (HEA.out (kD 0 + 1) (fun e => by first | exact absurd e (by decide) | exact HP.out.2.2.1) _ _ _ _ H1.out.sa).mono ?_
        rintro e y2 ⟨RX, rx, rfl, hrow, hs, hm⟩
        have HRow := Lib.hid hrow
        rw [HLX.out] at HRow ⊢
        have H2 := Lib.hid (H1.out.turnA hs hm)
        have H2a := Lib.hid (H2.out.alloc (.cells #[.slice RX LX rx, .int .u16 TX, .int .u16 0, .bool false] 51))
        have HX0 := Lib.hid (blk_new y2 [.slice RX LX rx, .int .u16 TX, .int .u16 0, .bool false] 51)
        have HF2 := Lib.hid H2.out.frs
        have HPX := Lib.hid ((pks_own (l := lX) (by have h5 := HRow.out; rw [← HLX.out] at h5; exact h5)).below ((Below.refl _ y2).alloc (Nat.le_refl _) (.cells #[.slice RX LX rx, .int .u16 TX, .int .u16 0, .bool false] 51)))
        have HRn := Lib.hid (own_none HRow.out)
        have HRg : Hid (∀ ad', RX = some ad' → ad'.block ≠ gw ∧ ¬ Mn y ad'.block) := fun ad' e1 => by
          have h5 := (HRow.out.lt ad'.block (by rw [e1]; rfl)).1
          exact ⟨by have := H1.out.lt; omega, fun e2 => by have := H1.out.sb.old _ e2; omega⟩
        clear hrow hs hm HRow H2
        go_wp2_with fail
        refine (next_anyd H2a.out).mono ?_
        rintro e y3 ⟨rfl, h3, hm3⟩
        rw [HDk.out] at h3
        have H3 := Lib.hid h3
        have HX3 := Lib.hid (HX0.out.moves hm3 HF2.out.2.2.2.2.1)
        have HP3 := Lib.hid (HPX.out.moves hm3 (fun ad' e1 => (HRg.out ad' e1).1))
        clear h3 hm3 H2a HX0 HPX
        go_wp2_with fail
        refine (HEB.out (kD 0 + 1 + 1) (fun e => by first | exact absurd e (by decide) | exact HP.out.2.2.2) _ _ _ _ H3.out.sb).mono ?_
        rintro e y4 ⟨RY, ry, rfl, hrow, hs, hm⟩
        have HRow := Lib.hid hrow
        rw [HLY.out] at HRow ⊢
        have H4 := Lib.hid (H3.out.turnB hs hm)
        have HX4 := Lib.hid ((HX3.out.moves hm HF2.out.2.2.2.1).alloc (.cells #[.slice RY LY ry, .int .u16 TX, .int .u16 0, .bool false] 51))
        have HP4 := Lib.hid ((HP3.out.moves hm (fun ad' e1 => (HRg.out ad' e1).2)).below ((Below.refl _ y4).alloc (Nat.le_refl _) (.cells #[.slice RY LY ry, .int .u16 TX, .int .u16 0, .bool false] 51)))
        have H4a := Lib.hid (H4.out.alloc (.cells #[.slice RY LY ry, .int .u16 TX, .int .u16 0, .bool false] 51))
        have HY4 := Lib.hid (blk_new y4 [.slice RY LY ry, .int .u16 TX, .int .u16 0, .bool false] 51)
        have HPY := Lib.hid ((pks_own (l := lY) (by have h5 := HRow.out; rw [← HLY.out] at h5; exact h5)).below ((Below.refl _ y4).alloc (Nat.le_refl _) (.cells #[.slice RY LY ry, .int .u16 TX, .int .u16 0, .bool false] 51)))
        have HRn2 := Lib.hid (own_none HRow.out)
        have hgx : y2.heap.size ≠ gw := HF2.out.2.2.2.2.1
        have HGY : Hid (y4.heap.size ≠ gw) := fun e => by have := H4.out.lt; omega
        have HRy : Hid (∀ ad', RY = some ad' → y3.heap.size ≤ ad'.block) := fun ad' e1 => (HRow.out.lt ad'.block (by rw [e1]; rfl)).1
        have HGw := Lib.hid H3.out.lt
        have HRB : Hid (∀ k, (Value.slice RB 0 cB).ownBlock = some k → k < y3.heap.size) := fun k e => (H3.out.rB.lt k e).2
        have HS4 := Lib.hid hm.size
        go_upto_region 10 with (fail)
        obtain ⟨wq, hwq⟩ : ∃ wq, y4.alloc (.cells #[.slice RY LY ry, .int .u16 TX, .int .u16 0, .bool false] 51) = wq := ⟨_, rfl⟩
        have HW5 : Hid (Wd lcK w wq gw x y (kS pa qa (0 + 1)) (kS pb qb (0 + 1)) (.slice RA 0 cA) (.slice RB 0 cB) tA tB 0 (kD (0 + 1))) := by show Wd _ _ _ _ _ _ _ _ _ _ _ _ _ _; rw [← hwq]; exact H4a.out
        have HX5 : Hid (Blk wq y2.heap.size [.slice RX LX rx, .int .u16 TX, .int .u16 0, .bool false] 51) := by show Blk _ _ _ _; rw [← hwq]; exact HX4.out
        have HY5 : Hid (Blk wq y4.heap.size [.slice RY LY ry, .int .u16 TX, .int .u16 0, .bool false] 51) := by show Blk _ _ _ _; rw [← hwq]; exact HY4.out
        have HPX5 : Hid (Pks wq RX lX) := by show Pks _ _ _; rw [← hwq]; exact HP4.out
        have HPY5 : Hid (Pks wq RY lY) := by show Pks _ _ _; rw [← hwq]; exact HPY.out
        rw [hwq]
        clear HDk hwq hrow hs hm HRow H3 H4 H4a HX3 HX4 HY4 HP3 HP4 HPY HF2 H1 HW HEA HEB
        have HrO : Hid (wq.drew.ownsRow w.heap.size 56 3 (.slice RB 0 cB) 0 (pksV tB)) := by
          have h5 := HW5.out.drew.rB
          rw [Hb.out] at h5
          exact h5
        have HR5 : Hid (Pks wq.drew RX lX) := HPX5.out.below (Below.drewN' (Below.refl _ wq) 1)
        have hHeld8 : Wd lcK w wq.drew gw x y (kS pa qa (0 + 1)) (kS pb qb (0 + 1)) (.slice RA 0 cA) (.slice RB 0 cB) tA tB 0 (kD (0 + 1)) ∧ Blk wq.drew y2.heap.size [.slice RX LX rx, .int .u16 TX, .int .u16 0, .bool false] 51 := ⟨HW5.out.drew, HX5.out.drew⟩
        go_cut [8, 10] from 16 to 57 (fun _ u wx => u = .pointer (some ⟨y4.heap.size, 0, none⟩) ∧ ∃ v6, Hid (Wd lcK w wx gw x y (kS pa qa (0 + 1)) (kS pb qb (0 + 1)) (.slice RA 0 cA) v6 tA (tB ++ lX) 0 (kD (0 + 1))) ∧ Hid (Blk wx y4.heap.size [.slice RY LY ry, .int .u16 TX, .int .u16 0, .bool false] 51) ∧ Hid (Pks wx RY lY))
        case first =>
          refine wp_region_t 7 (fun w' => Wd lcK w w' gw x y (kS pa qa (0 + 1)) (kS pb qb (0 + 1)) (.slice RA 0 cA) (.slice RB 0 cB) tA tB 0 (kD (0 + 1)) ∧ Blk w' y2.heap.size [.slice RX LX rx, .int .u16 TX, .int .u16 0, .bool false] 51) (fun _ => True) (by kernel_rfl) (fun hSh => ?_)
          refine wpAnyT_take (i := 1) (n := 80) (v := ?vv1_1) (fun w' => Wd lcK w w' gw x y (kS pa qa (0 + 1)) (kS pb qb (0 + 1)) (.slice RA 0 cA) (.slice RB 0 cB) tA tB 0 (kD (0 + 1)) ∧ Blk w' y2.heap.size [.slice RX LX rx, .int .u16 TX, .int .u16 0, .bool false] 51) rfl (by kernel_rfl) (by kernel_rfl) (by kernel_rfl) (fun _ _ _ h => h) ⟨by decide, .inr ⟨by kernel_rfl, by kernel_rfl, rfl⟩⟩ hSh (Or.inl ⟨by rfl, ?yy1_1⟩) (by assumption) ?rr1_1
          case yy1_1 => (intro w hSw; (skip); (try simp only [getElem_toArray, getElem_cons_succ, getElem_cons_zero, Act.put, setIfInBounds_toArray, set_cons_zero, set_cons_succ]); go_simp; (try (with_reducible rfl)))
          clear hSh; intro hSh
          try simp only [getElem_toArray, getElem_cons_succ, getElem_cons_zero, Act.put, setIfInBounds_toArray, set_cons_zero, set_cons_succ]
          refine wpAnyT_take (i := 2) (n := 80) (v := ?vv2_2) (fun w' => Wd lcK w w' gw x y (kS pa qa (0 + 1)) (kS pb qb (0 + 1)) (.slice RA 0 cA) (.slice RB 0 cB) tA tB 0 (kD (0 + 1)) ∧ Blk w' y2.heap.size [.slice RX LX rx, .int .u16 TX, .int .u16 0, .bool false] 51) rfl (by kernel_rfl) (by kernel_rfl) (by kernel_rfl) (fun _ _ _ h => h) ⟨by decide, .inr ⟨by kernel_rfl, by kernel_rfl, rfl⟩⟩ hSh (Or.inl ⟨by rfl, ?yy2_2⟩) (by assumption) ?rr2_2
          case yy2_2 => (intro w hSw; (skip); (try simp only [getElem_toArray, getElem_cons_succ, getElem_cons_zero, Act.put, setIfInBounds_toArray, set_cons_zero, set_cons_succ]); go_simp; (try (with_reducible rfl)))
          clear hSh; intro hSh
          try simp only [getElem_toArray, getElem_cons_succ, getElem_cons_zero, Act.put, setIfInBounds_toArray, set_cons_zero, set_cons_succ]
          refine wpAnyT_take (i := 3) (n := 80) (v := ?vv3_3) (fun w' => Wd lcK w w' gw x y (kS pa qa (0 + 1)) (kS pb qb (0 + 1)) (.slice RA 0 cA) (.slice RB 0 cB) tA tB 0 (kD (0 + 1)) ∧ Blk w' y2.heap.size [.slice RX LX rx, .int .u16 TX, .int .u16 0, .bool false] 51) rfl (by kernel_rfl) (by kernel_rfl) (by kernel_rfl) (fun _ _ _ h => h) ⟨by decide, .inr ⟨by kernel_rfl, by kernel_rfl, rfl⟩⟩ hSh (Or.inl ⟨by rfl, ?yy3_3⟩) (by assumption) ?rr3_3
          case yy3_3 => (intro w hSw; (skip); (try simp only [getElem_toArray, getElem_cons_succ, getElem_cons_zero, Act.put, setIfInBounds_toArray, set_cons_zero, set_cons_succ]); go_simp; (try (with_reducible rfl)))
          clear hSh; intro hSh
          try simp only [getElem_toArray, getElem_cons_succ, getElem_cons_zero, Act.put, setIfInBounds_toArray, set_cons_zero, set_cons_succ]
          refine wpAnyT_take (i := 4) (n := 80) (v := ?vv4_4) (fun w' => Wd lcK w w' gw x y (kS pa qa (0 + 1)) (kS pb qb (0 + 1)) (.slice RA 0 cA) (.slice RB 0 cB) tA tB 0 (kD (0 + 1)) ∧ Blk w' y2.heap.size [.slice RX LX rx, .int .u16 TX, .int .u16 0, .bool false] 51) rfl (by kernel_rfl) (by kernel_rfl) (by kernel_rfl) (fun _ _ _ h => h) ⟨by decide, .inr ⟨by kernel_rfl, by kernel_rfl, rfl⟩⟩ hSh (Or.inl ⟨by rfl, ?yy4_4⟩) (by assumption) ?rr4_4
          case yy4_4 => (intro w hSw; (obtain ⟨c0, c1, c2, c3, c5, f2, f3, f5⟩ := hSw.1.cells); (try simp only [getElem_toArray, getElem_cons_succ, getElem_cons_zero, Act.put, setIfInBounds_toArray, set_cons_zero, set_cons_succ]); go_simp; (try (with_reducible rfl)))
          clear hSh; intro hSh
          try simp only [getElem_toArray, getElem_cons_succ, getElem_cons_zero, Act.put, setIfInBounds_toArray, set_cons_zero, set_cons_succ]
          refine wpAnyT_take (i := 5) (n := 80) (v := ?vv5_5) (fun w' => Wd lcK w w' gw x y (kS pa qa (0 + 1)) (kS pb qb (0 + 1)) (.slice RA 0 cA) (.slice RB 0 cB) tA tB 0 (kD (0 + 1)) ∧ Blk w' y2.heap.size [.slice RX LX rx, .int .u16 TX, .int .u16 0, .bool false] 51) rfl (by kernel_rfl) (by kernel_rfl) (by kernel_rfl) (fun _ _ _ h => h) ⟨by decide, .inr ⟨by kernel_rfl, by kernel_rfl, rfl⟩⟩ hSh (Or.inl ⟨by rfl, ?yy5_5⟩) (by assumption) ?rr5_5
          case yy5_5 => (intro w hSw; (skip); (try simp only [getElem_toArray, getElem_cons_succ, getElem_cons_zero, Act.put, setIfInBounds_toArray, set_cons_zero, set_cons_succ]); go_simp; (try (with_reducible rfl)))
          clear hSh; intro hSh
          try simp only [getElem_toArray, getElem_cons_succ, getElem_cons_zero, Act.put, setIfInBounds_toArray, set_cons_zero, set_cons_succ]
          refine wpAnyT_take (i := 6) (n := 80) (v := ?vv6_6) (fun w' => Wd lcK w w' gw x y (kS pa qa (0 + 1)) (kS pb qb (0 + 1)) (.slice RA 0 cA) (.slice RB 0 cB) tA tB 0 (kD (0 + 1)) ∧ Blk w' y2.heap.size [.slice RX LX rx, .int .u16 TX, .int .u16 0, .bool false] 51) rfl (by kernel_rfl) (by kernel_rfl) (by kernel_rfl) (fun _ _ _ h => h) ⟨by decide, .inr ⟨by kernel_rfl, by kernel_rfl, rfl⟩⟩ hSh (Or.inl ⟨by rfl, ?yy6_6⟩) (by assumption) ?rr6_6
          case yy6_6 => (intro w hSw; (have x0 : w.cell? ⟨y2.heap.size, 0, none⟩ = some (.slice RX LX rx) := hSw.2.at_ 0); (try simp only [getElem_toArray, getElem_cons_succ, getElem_cons_zero, Act.put, setIfInBounds_toArray, set_cons_zero, set_cons_succ]); go_simp; (try (with_reducible rfl)))
          clear hSh; intro hSh
          try simp only [getElem_toArray, getElem_cons_succ, getElem_cons_zero, Act.put, setIfInBounds_toArray, set_cons_zero, set_cons_succ]
          refine wpAnyT_ready (rs := [0, 7]) (by kernel_rfl) (by simp) ?_
          refine AllReadyT.cons (o := _) (fun w' => Wd lcK w w' gw x y (kS pa qa (0 + 1)) (kS pb qb (0 + 1)) (.slice RA 0 cA) (.slice RB 0 cB) tA tB 0 (kD (0 + 1)) ∧ Blk w' y2.heap.size [.slice RX LX rx, .int .u16 TX, .int .u16 0, .bool false] 51) (fun _ => cond_ahead (by kernel_rfl)) (by kernel_rfl) hSh rfl (fun K hK => ?_) (AllReadyT.cons (o := _) (fun _ => True) (fun _ => cond_at (by kernel_rfl)) (by kernel_rfl) hSh rfl (fun K hK => ?_) AllReadyT.nil)
          · try simp only [getElem_toArray, getElem_cons_succ, getElem_cons_zero, Act.put, setIfInBounds_toArray, set_cons_zero, set_cons_succ]
            go_simp
            clear hSh
            refine hK.out _ _ hHeld8 (fun _ hSh => ?_)
            clear hK K
            try simp only [getElem_toArray, getElem_cons_succ, getElem_cons_zero, Act.put, setIfInBounds_toArray, set_cons_zero, set_cons_succ]
            refine wpAnyT_ready (rs := [7]) (by kernel_rfl) (by simp) ?_
            refine AllReadyT.cons (o := _) (fun _ => True) (fun _ => cond_at (by kernel_rfl)) (by kernel_rfl) hSh rfl (fun K hK => ?_) AllReadyT.nil
            refine step_pks wq.drew (by rfl) _ _ 49 (by rfl) w.heap.size 56 i0 _ 24 Tryz.underlying49 hi0 hz0 hz1 hz2 rfl (.slice RB 0 cB) 0 tB (by rfl) HrO.out RX LX rx lX HLX.out HRn.out (by rfl) HR5.out (by unfold maxLen; omega) (by omega) HW5.out.drew.hb.size ?_
            intro v6 y6 hr6 hg6 hat6
            rw [← Hb.out, ← HLX.out] at hr6
            obtain ⟨R6, q6, hv6⟩ := own_slice hr6
            subst hv6
            have HN6 := Lib.hid (HW5.out.drew.growB (l := lX) hg6 hr6 hat6)
            have HG6 := Lib.hid hg6
            clear hr6 hg6 hat6
            have hd6 := HN6.out.2
            have c3 := hd6.at_ 3
            have f3 := hd6.frozen 3
            clear hd6
            clear hSh
            refine hK.out _ _ trivial (fun _ hSh => ?_)
            clear hK K
            try simp only [getElem_toArray, getElem_cons_succ, getElem_cons_zero, Act.put, setIfInBounds_toArray, set_cons_zero, set_cons_succ]
            refine wpAnyT_take (i := 8) (n := 80) (v := ?vv8_7) (fun _ => True) rfl (by kernel_rfl) (by kernel_rfl) (by kernel_rfl) (fun _ _ _ h => h) ⟨by decide, .inl ⟨by kernel_rfl, rfl⟩⟩ hSh (Or.inl ⟨by rfl, ?yy8_7⟩) (by assumption) ?rr8_7
            case yy8_7 => (intro w hSw; (skip); (try simp only [getElem_toArray, getElem_cons_succ, getElem_cons_zero, Act.put, setIfInBounds_toArray, set_cons_zero, set_cons_succ]); go_simp; (try (with_reducible rfl)))
            clear hSh; intro hSh
            try simp only [getElem_toArray, getElem_cons_succ, getElem_cons_zero, Act.put, setIfInBounds_toArray, set_cons_zero, set_cons_succ]
            refine wpAnyT_take (i := 9) (n := 80) (v := ?vv9_8) (fun _ => True) rfl (by kernel_rfl) (by kernel_rfl) (by kernel_rfl) (fun _ _ _ h => h) ⟨by decide, .inl ⟨by kernel_rfl, rfl⟩⟩ hSh (Or.inl ⟨by rfl, ?yy9_8⟩) (by assumption) ?rr9_8
            case yy9_8 => (intro w hSw; (skip); (try simp only [getElem_toArray, getElem_cons_succ, getElem_cons_zero, Act.put, setIfInBounds_toArray, set_cons_zero, set_cons_succ]); go_simp; (try (with_reducible rfl)))
            clear hSh; intro hSh
            try simp only [getElem_toArray, getElem_cons_succ, getElem_cons_zero, Act.put, setIfInBounds_toArray, set_cons_zero, set_cons_succ]
            refine wpAnyT_ready (rs := [10]) (by kernel_rfl) (by simp) ?_
            refine AllReadyT.cons (o := _) (fun _ => True) (fun _ => cond_at (by kernel_rfl)) (by kernel_rfl) hSh rfl (fun K hK => ?_) AllReadyT.nil
            try simp only [getElem_toArray, getElem_cons_succ, getElem_cons_zero, Act.put, setIfInBounds_toArray, set_cons_zero, set_cons_succ]
            go_simp
            clear hSh
            refine hK.out _ _ trivial (fun _ hSh => ?_)
            clear hK K
            try simp only [getElem_toArray, getElem_cons_succ, getElem_cons_zero, Act.put, setIfInBounds_toArray, set_cons_zero, set_cons_succ]
            refine wpAnyT_done (by kernel_rfl) ?_ _
            clear hSh
            have hm6 : Moves (fun k => (Value.slice RB 0 cB).ownBlock = some k ∨ k = gw) wq.drew (y6.setCell ⟨gw, 3, none⟩ (.slice R6 (tB.length + lX.length) q6)) := (Moves.of_grown (S := fun k => (Value.slice RB 0 cB).ownBlock = some k ∨ k = gw) HG6.out (fun k e _ => .inl e)).trans (T := fun k => k = gw) (set1_moves y6 gw 3 _) (fun _ _ e => .inr e)
            have HYk := Lib.hid (HY5.out.drew.moves hm6 (fun e => by
              rcases e with e | e
              · have := HRB.out _ e; have := HS4.out; omega
              · exact HGY.out e))
            have HPk := Lib.hid ((HPY5.out.below (Below.drewN' (Below.refl _ wq) 1)).moves hm6 (fun ad' e1 e => by
              have h7 := HRy.out ad' e1
              rcases e with e | e
              · have := HRB.out _ e; omega
              · have := HGw.out; omega))
            clear hm6
            go_wp2
            go_meet
            exact ⟨rfl, _, HN6.out.1, HYk, HPk⟩
          · refine step_pks wq.drew (by rfl) _ _ 49 (by rfl) w.heap.size 56 i0 _ 24 Tryz.underlying49 hi0 hz0 hz1 hz2 rfl (.slice RB 0 cB) 0 tB (by rfl) HrO.out RX LX rx lX HLX.out HRn.out (by rfl) HR5.out (by unfold maxLen; omega) (by omega) HW5.out.drew.hb.size ?_
            intro v6 y6 hr6 hg6 hat6
            rw [← Hb.out, ← HLX.out] at hr6
            obtain ⟨R6, q6, hv6⟩ := own_slice hr6
            subst hv6
            have HN6 := Lib.hid (HW5.out.drew.growB (l := lX) hg6 hr6 hat6)
            have HG6 := Lib.hid hg6
            clear hr6 hg6 hat6
            have hd6 := HN6.out.2
            have c3 := hd6.at_ 3
            have f3 := hd6.frozen 3
            clear hd6
            clear hSh
            refine hK.out _ _ trivial (fun _ hSh => ?_)
            clear hK K
            try simp only [getElem_toArray, getElem_cons_succ, getElem_cons_zero, Act.put, setIfInBounds_toArray, set_cons_zero, set_cons_succ]
            refine wpAnyT_take (i := 0) (n := 80) (v := ?vv0_9) (fun _ => True) rfl (by kernel_rfl) (by kernel_rfl) (by kernel_rfl) (fun _ _ _ h => h) ⟨by decide, .inl ⟨by kernel_rfl, rfl⟩⟩ hSh (Or.inl ⟨by rfl, ?yy0_9⟩) (by assumption) ?rr0_9
            case yy0_9 => (intro w hSw; (skip); (try simp only [getElem_toArray, getElem_cons_succ, getElem_cons_zero, Act.put, setIfInBounds_toArray, set_cons_zero, set_cons_succ]); go_simp; (try (with_reducible rfl)))
            clear hSh; intro hSh
            try simp only [getElem_toArray, getElem_cons_succ, getElem_cons_zero, Act.put, setIfInBounds_toArray, set_cons_zero, set_cons_succ]
            refine wpAnyT_take (i := 8) (n := 80) (v := ?vv8_10) (fun _ => True) rfl (by kernel_rfl) (by kernel_rfl) (by kernel_rfl) (fun _ _ _ h => h) ⟨by decide, .inl ⟨by kernel_rfl, rfl⟩⟩ hSh (Or.inl ⟨by rfl, ?yy8_10⟩) (by assumption) ?rr8_10
            case yy8_10 => (intro w hSw; (skip); (try simp only [getElem_toArray, getElem_cons_succ, getElem_cons_zero, Act.put, setIfInBounds_toArray, set_cons_zero, set_cons_succ]); go_simp; (try (with_reducible rfl)))
            clear hSh; intro hSh
            try simp only [getElem_toArray, getElem_cons_succ, getElem_cons_zero, Act.put, setIfInBounds_toArray, set_cons_zero, set_cons_succ]
            refine wpAnyT_take (i := 9) (n := 80) (v := ?vv9_11) (fun _ => True) rfl (by kernel_rfl) (by kernel_rfl) (by kernel_rfl) (fun _ _ _ h => h) ⟨by decide, .inl ⟨by kernel_rfl, rfl⟩⟩ hSh (Or.inl ⟨by rfl, ?yy9_11⟩) (by assumption) ?rr9_11
            case yy9_11 => (intro w hSw; (skip); (try simp only [getElem_toArray, getElem_cons_succ, getElem_cons_zero, Act.put, setIfInBounds_toArray, set_cons_zero, set_cons_succ]); go_simp; (try (with_reducible rfl)))
            clear hSh; intro hSh
            try simp only [getElem_toArray, getElem_cons_succ, getElem_cons_zero, Act.put, setIfInBounds_toArray, set_cons_zero, set_cons_succ]
            refine wpAnyT_ready (rs := [10]) (by kernel_rfl) (by simp) ?_
            refine AllReadyT.cons (o := _) (fun _ => True) (fun _ => cond_at (by kernel_rfl)) (by kernel_rfl) hSh rfl (fun K hK => ?_) AllReadyT.nil
            try simp only [getElem_toArray, getElem_cons_succ, getElem_cons_zero, Act.put, setIfInBounds_toArray, set_cons_zero, set_cons_succ]
            go_simp
            clear hSh
            refine hK.out _ _ trivial (fun _ hSh => ?_)
            clear hK K
            try simp only [getElem_toArray, getElem_cons_succ, getElem_cons_zero, Act.put, setIfInBounds_toArray, set_cons_zero, set_cons_succ]
            refine wpAnyT_done (by kernel_rfl) ?_ _
            clear hSh
            have hm6 : Moves (fun k => (Value.slice RB 0 cB).ownBlock = some k ∨ k = gw) wq.drew (y6.setCell ⟨gw, 3, none⟩ (.slice R6 (tB.length + lX.length) q6)) := (Moves.of_grown (S := fun k => (Value.slice RB 0 cB).ownBlock = some k ∨ k = gw) HG6.out (fun k e _ => .inl e)).trans (T := fun k => k = gw) (set1_moves y6 gw 3 _) (fun _ _ e => .inr e)
            have HYk := Lib.hid (HY5.out.drew.moves hm6 (fun e => by
              rcases e with e | e
              · have := HRB.out _ e; have := HS4.out; omega
              · exact HGY.out e))
            have HPk := Lib.hid ((HPY5.out.below (Below.drewN' (Below.refl _ wq) 1)).moves hm6 (fun ad' e1 e => by
              have h7 := HRy.out ad' e1
              rcases e with e | e
              · have := HRB.out _ e; omega
              · have := HGw.out; omega))
            clear hm6
            go_wp2
            go_meet
            exact ⟨rfl, _, HN6.out.1, HYk, HPk⟩
        case rest =>
        obtain ⟨rfl, v6, HW7, HY7, HP7⟩ := hcut
        clear HrO HR5 hHeld8 HW5 HX5 HY5 HPX5 HPY5
        generalize wc = wz at *
        have HrO : Hid (wz.drew.ownsRow w.heap.size 56 3 (.slice RA 0 cA) 0 (pksV tA)) := by
          have h5 := HW7.out.drew.rA
          rw [Ha.out] at h5
          exact h5
        have HR5 : Hid (Pks wz.drew RY lY) := HP7.out.below (Below.drewN' (Below.refl _ wz) 1)
        have hHeld8 : Wd lcK w wz.drew gw x y (kS pa qa (0 + 1)) (kS pb qb (0 + 1)) (.slice RA 0 cA) v6 tA (tB ++ lX) 0 (kD (0 + 1)) ∧ Blk wz.drew y4.heap.size [.slice RY LY ry, .int .u16 TX, .int .u16 0, .bool false] 51 := ⟨HW7.out.drew, HY7.out.drew⟩
        go_upto_region 11 with (fail)
        refine wp_region_t 7 (fun w' => Wd lcK w w' gw x y (kS pa qa (0 + 1)) (kS pb qb (0 + 1)) (.slice RA 0 cA) v6 tA (tB ++ lX) 0 (kD (0 + 1)) ∧ Blk w' y4.heap.size [.slice RY LY ry, .int .u16 TX, .int .u16 0, .bool false] 51) (fun _ => True) (by kernel_rfl) (fun hSh => ?_)
        refine wpAnyT_take (i := 1) (n := 80) (v := ?vv1_12) (fun w' => Wd lcK w w' gw x y (kS pa qa (0 + 1)) (kS pb qb (0 + 1)) (.slice RA 0 cA) v6 tA (tB ++ lX) 0 (kD (0 + 1)) ∧ Blk w' y4.heap.size [.slice RY LY ry, .int .u16 TX, .int .u16 0, .bool false] 51) rfl (by kernel_rfl) (by kernel_rfl) (by kernel_rfl) (fun _ _ _ h => h) ⟨by decide, .inr ⟨by kernel_rfl, by kernel_rfl, rfl⟩⟩ hSh (Or.inl ⟨by rfl, ?yy1_12⟩) (by assumption) ?rr1_12
        case yy1_12 => (intro w hSw; (skip); (try simp only [getElem_toArray, getElem_cons_succ, getElem_cons_zero, Act.put, setIfInBounds_toArray, set_cons_zero, set_cons_succ]); go_simp; (try (with_reducible rfl)))
        clear hSh; intro hSh
        try simp only [getElem_toArray, getElem_cons_succ, getElem_cons_zero, Act.put, setIfInBounds_toArray, set_cons_zero, set_cons_succ]
        refine wpAnyT_take (i := 2) (n := 80) (v := ?vv2_13) (fun w' => Wd lcK w w' gw x y (kS pa qa (0 + 1)) (kS pb qb (0 + 1)) (.slice RA 0 cA) v6 tA (tB ++ lX) 0 (kD (0 + 1)) ∧ Blk w' y4.heap.size [.slice RY LY ry, .int .u16 TX, .int .u16 0, .bool false] 51) rfl (by kernel_rfl) (by kernel_rfl) (by kernel_rfl) (fun _ _ _ h => h) ⟨by decide, .inr ⟨by kernel_rfl, by kernel_rfl, rfl⟩⟩ hSh (Or.inl ⟨by rfl, ?yy2_13⟩) (by assumption) ?rr2_13
        case yy2_13 => (intro w hSw; (skip); (try simp only [getElem_toArray, getElem_cons_succ, getElem_cons_zero, Act.put, setIfInBounds_toArray, set_cons_zero, set_cons_succ]); go_simp; (try (with_reducible rfl)))
        clear hSh; intro hSh
        try simp only [getElem_toArray, getElem_cons_succ, getElem_cons_zero, Act.put, setIfInBounds_toArray, set_cons_zero, set_cons_succ]
        refine wpAnyT_take (i := 3) (n := 80) (v := ?vv3_14) (fun w' => Wd lcK w w' gw x y (kS pa qa (0 + 1)) (kS pb qb (0 + 1)) (.slice RA 0 cA) v6 tA (tB ++ lX) 0 (kD (0 + 1)) ∧ Blk w' y4.heap.size [.slice RY LY ry, .int .u16 TX, .int .u16 0, .bool false] 51) rfl (by kernel_rfl) (by kernel_rfl) (by kernel_rfl) (fun _ _ _ h => h) ⟨by decide, .inr ⟨by kernel_rfl, by kernel_rfl, rfl⟩⟩ hSh (Or.inl ⟨by rfl, ?yy3_14⟩) (by assumption) ?rr3_14
        case yy3_14 => (intro w hSw; (skip); (try simp only [getElem_toArray, getElem_cons_succ, getElem_cons_zero, Act.put, setIfInBounds_toArray, set_cons_zero, set_cons_succ]); go_simp; (try (with_reducible rfl)))
        clear hSh; intro hSh
        try simp only [getElem_toArray, getElem_cons_succ, getElem_cons_zero, Act.put, setIfInBounds_toArray, set_cons_zero, set_cons_succ]
        refine wpAnyT_take (i := 4) (n := 80) (v := ?vv4_15) (fun w' => Wd lcK w w' gw x y (kS pa qa (0 + 1)) (kS pb qb (0 + 1)) (.slice RA 0 cA) v6 tA (tB ++ lX) 0 (kD (0 + 1)) ∧ Blk w' y4.heap.size [.slice RY LY ry, .int .u16 TX, .int .u16 0, .bool false] 51) rfl (by kernel_rfl) (by kernel_rfl) (by kernel_rfl) (fun _ _ _ h => h) ⟨by decide, .inr ⟨by kernel_rfl, by kernel_rfl, rfl⟩⟩ hSh (Or.inl ⟨by rfl, ?yy4_15⟩) (by assumption) ?rr4_15
        case yy4_15 => (intro w hSw; (obtain ⟨c0, c1, c2, c3, c5, f2, f3, f5⟩ := hSw.1.cells); (try simp only [getElem_toArray, getElem_cons_succ, getElem_cons_zero, Act.put, setIfInBounds_toArray, set_cons_zero, set_cons_succ]); go_simp; (try (with_reducible rfl)))
        clear hSh; intro hSh
        try simp only [getElem_toArray, getElem_cons_succ, getElem_cons_zero, Act.put, setIfInBounds_toArray, set_cons_zero, set_cons_succ]
        refine wpAnyT_take (i := 5) (n := 80) (v := ?vv5_16) (fun w' => Wd lcK w w' gw x y (kS pa qa (0 + 1)) (kS pb qb (0 + 1)) (.slice RA 0 cA) v6 tA (tB ++ lX) 0 (kD (0 + 1)) ∧ Blk w' y4.heap.size [.slice RY LY ry, .int .u16 TX, .int .u16 0, .bool false] 51) rfl (by kernel_rfl) (by kernel_rfl) (by kernel_rfl) (fun _ _ _ h => h) ⟨by decide, .inr ⟨by kernel_rfl, by kernel_rfl, rfl⟩⟩ hSh (Or.inl ⟨by rfl, ?yy5_16⟩) (by assumption) ?rr5_16
        case yy5_16 => (intro w hSw; (skip); (try simp only [getElem_toArray, getElem_cons_succ, getElem_cons_zero, Act.put, setIfInBounds_toArray, set_cons_zero, set_cons_succ]); go_simp; (try (with_reducible rfl)))
        clear hSh; intro hSh
        try simp only [getElem_toArray, getElem_cons_succ, getElem_cons_zero, Act.put, setIfInBounds_toArray, set_cons_zero, set_cons_succ]
        refine wpAnyT_take (i := 6) (n := 80) (v := ?vv6_17) (fun w' => Wd lcK w w' gw x y (kS pa qa (0 + 1)) (kS pb qb (0 + 1)) (.slice RA 0 cA) v6 tA (tB ++ lX) 0 (kD (0 + 1)) ∧ Blk w' y4.heap.size [.slice RY LY ry, .int .u16 TX, .int .u16 0, .bool false] 51) rfl (by kernel_rfl) (by kernel_rfl) (by kernel_rfl) (fun _ _ _ h => h) ⟨by decide, .inr ⟨by kernel_rfl, by kernel_rfl, rfl⟩⟩ hSh (Or.inl ⟨by rfl, ?yy6_17⟩) (by assumption) ?rr6_17
        case yy6_17 => (intro w hSw; (have x0 : w.cell? ⟨y4.heap.size, 0, none⟩ = some (.slice RY LY ry) := hSw.2.at_ 0); (try simp only [getElem_toArray, getElem_cons_succ, getElem_cons_zero, Act.put, setIfInBounds_toArray, set_cons_zero, set_cons_succ]); go_simp; (try (with_reducible rfl)))
        clear hSh; intro hSh
        try simp only [getElem_toArray, getElem_cons_succ, getElem_cons_zero, Act.put, setIfInBounds_toArray, set_cons_zero, set_cons_succ]
        refine wpAnyT_ready (rs := [0, 7]) (by kernel_rfl) (by simp) ?_
        refine AllReadyT.cons (o := _) (fun w' => Wd lcK w w' gw x y (kS pa qa (0 + 1)) (kS pb qb (0 + 1)) (.slice RA 0 cA) v6 tA (tB ++ lX) 0 (kD (0 + 1)) ∧ Blk w' y4.heap.size [.slice RY LY ry, .int .u16 TX, .int .u16 0, .bool false] 51) (fun _ => cond_ahead (by kernel_rfl)) (by kernel_rfl) hSh rfl (fun K hK => ?_) (AllReadyT.cons (o := _) (fun _ => True) (fun _ => cond_at (by kernel_rfl)) (by kernel_rfl) hSh rfl (fun K hK => ?_) AllReadyT.nil)
        · try simp only [getElem_toArray, getElem_cons_succ, getElem_cons_zero, Act.put, setIfInBounds_toArray, set_cons_zero, set_cons_succ]
          go_simp
          clear hSh
          refine hK.out _ _ hHeld8 (fun _ hSh => ?_)
          clear hK K
          try simp only [getElem_toArray, getElem_cons_succ, getElem_cons_zero, Act.put, setIfInBounds_toArray, set_cons_zero, set_cons_succ]
          refine wpAnyT_ready (rs := [7]) (by kernel_rfl) (by simp) ?_
          refine AllReadyT.cons (o := _) (fun _ => True) (fun _ => cond_at (by kernel_rfl)) (by kernel_rfl) hSh rfl (fun K hK => ?_) AllReadyT.nil
          refine step_pks wz.drew (by rfl) _ _ 49 (by rfl) w.heap.size 56 i0 _ 24 Tryz.underlying49 hi0 hz0 hz1 hz2 rfl (.slice RA 0 cA) 0 tA (by rfl) HrO.out RY LY ry lY HLY.out HRn2.out (by rfl) HR5.out (by unfold maxLen; omega) (by omega) HW7.out.drew.hb.size ?_
          intro v7 y6 hr6 hg6 hat6
          rw [← Ha.out, ← HLY.out] at hr6
          obtain ⟨R6, q6, hv7⟩ := own_slice hr6
          subst hv7
          have HN6 := Lib.hid (HW7.out.drew.growA (l := lY) hg6 hr6 hat6)
          have HG6 := Lib.hid hg6
          clear hr6 hg6 hat6
          have hd6 := HN6.out.2
          have c3 := hd6.at_ 2
          have f3 := hd6.frozen 2
          clear hd6
          clear hSh
          refine hK.out _ _ trivial (fun _ hSh => ?_)
          clear hK K
          try simp only [getElem_toArray, getElem_cons_succ, getElem_cons_zero, Act.put, setIfInBounds_toArray, set_cons_zero, set_cons_succ]
          refine wpAnyT_take (i := 8) (n := 80) (v := ?vv8_18) (fun _ => True) rfl (by kernel_rfl) (by kernel_rfl) (by kernel_rfl) (fun _ _ _ h => h) ⟨by decide, .inl ⟨by kernel_rfl, rfl⟩⟩ hSh (Or.inl ⟨by rfl, ?yy8_18⟩) (by assumption) ?rr8_18
          case yy8_18 => (intro w hSw; (skip); (try simp only [getElem_toArray, getElem_cons_succ, getElem_cons_zero, Act.put, setIfInBounds_toArray, set_cons_zero, set_cons_succ]); go_simp; (try (with_reducible rfl)))
          clear hSh; intro hSh
          try simp only [getElem_toArray, getElem_cons_succ, getElem_cons_zero, Act.put, setIfInBounds_toArray, set_cons_zero, set_cons_succ]
          refine wpAnyT_take (i := 9) (n := 80) (v := ?vv9_19) (fun _ => True) rfl (by kernel_rfl) (by kernel_rfl) (by kernel_rfl) (fun _ _ _ h => h) ⟨by decide, .inl ⟨by kernel_rfl, rfl⟩⟩ hSh (Or.inl ⟨by rfl, ?yy9_19⟩) (by assumption) ?rr9_19
          case yy9_19 => (intro w hSw; (skip); (try simp only [getElem_toArray, getElem_cons_succ, getElem_cons_zero, Act.put, setIfInBounds_toArray, set_cons_zero, set_cons_succ]); go_simp; (try (with_reducible rfl)))
          clear hSh; intro hSh
          try simp only [getElem_toArray, getElem_cons_succ, getElem_cons_zero, Act.put, setIfInBounds_toArray, set_cons_zero, set_cons_succ]
          refine wpAnyT_ready (rs := [10]) (by kernel_rfl) (by simp) ?_
          refine AllReadyT.cons (o := _) (fun _ => True) (fun _ => cond_at (by kernel_rfl)) (by kernel_rfl) hSh rfl (fun K hK => ?_) AllReadyT.nil
          try simp only [getElem_toArray, getElem_cons_succ, getElem_cons_zero, Act.put, setIfInBounds_toArray, set_cons_zero, set_cons_succ]
          go_simp
          clear hSh
          refine hK.out _ _ trivial (fun _ hSh => ?_)
          clear hK K
          try simp only [getElem_toArray, getElem_cons_succ, getElem_cons_zero, Act.put, setIfInBounds_toArray, set_cons_zero, set_cons_succ]
          refine wpAnyT_done (by kernel_rfl) ?_ _
          clear hSh
          have h9 := HN6.out.1
          rw [HTA.out, HTB.out] at h9
          have H9 := Lib.hid h9
          clear h9
          go_wp2
          go_roundw
          case rel => exact ⟨0 + 1, by decide, by first | rfl | go_num, ⟨_, _, H9.out⟩⟩
          case measure => simp [intOf]
        · refine step_pks wz.drew (by rfl) _ _ 49 (by rfl) w.heap.size 56 i0 _ 24 Tryz.underlying49 hi0 hz0 hz1 hz2 rfl (.slice RA 0 cA) 0 tA (by rfl) HrO.out RY LY ry lY HLY.out HRn2.out (by rfl) HR5.out (by unfold maxLen; omega) (by omega) HW7.out.drew.hb.size ?_
          intro v7 y6 hr6 hg6 hat6
          rw [← Ha.out, ← HLY.out] at hr6
          obtain ⟨R6, q6, hv7⟩ := own_slice hr6
          subst hv7
          have HN6 := Lib.hid (HW7.out.drew.growA (l := lY) hg6 hr6 hat6)
          have HG6 := Lib.hid hg6
          clear hr6 hg6 hat6
          have hd6 := HN6.out.2
          have c3 := hd6.at_ 2
          have f3 := hd6.frozen 2
          clear hd6
          clear hSh
          refine hK.out _ _ trivial (fun _ hSh => ?_)
          clear hK K
          try simp only [getElem_toArray, getElem_cons_succ, getElem_cons_zero, Act.put, setIfInBounds_toArray, set_cons_zero, set_cons_succ]
          refine wpAnyT_take (i := 0) (n := 80) (v := ?vv0_20) (fun _ => True) rfl (by kernel_rfl) (by kernel_rfl) (by kernel_rfl) (fun _ _ _ h => h) ⟨by decide, .inl ⟨by kernel_rfl, rfl⟩⟩ hSh (Or.inl ⟨by rfl, ?yy0_20⟩) (by assumption) ?rr0_20
          case yy0_20 => (intro w hSw; (skip); (try simp only [getElem_toArray, getElem_cons_succ, getElem_cons_zero, Act.put, setIfInBounds_toArray, set_cons_zero, set_cons_succ]); go_simp; (try (with_reducible rfl)))
          clear hSh; intro hSh
          try simp only [getElem_toArray, getElem_cons_succ, getElem_cons_zero, Act.put, setIfInBounds_toArray, set_cons_zero, set_cons_succ]
          refine wpAnyT_take (i := 8) (n := 80) (v := ?vv8_21) (fun _ => True) rfl (by kernel_rfl) (by kernel_rfl) (by kernel_rfl) (fun _ _ _ h => h) ⟨by decide, .inl ⟨by kernel_rfl, rfl⟩⟩ hSh (Or.inl ⟨by rfl, ?yy8_21⟩) (by assumption) ?rr8_21
          case yy8_21 => (intro w hSw; (skip); (try simp only [getElem_toArray, getElem_cons_succ, getElem_cons_zero, Act.put, setIfInBounds_toArray, set_cons_zero, set_cons_succ]); go_simp; (try (with_reducible rfl)))
          clear hSh; intro hSh
          try simp only [getElem_toArray, getElem_cons_succ, getElem_cons_zero, Act.put, setIfInBounds_toArray, set_cons_zero, set_cons_succ]
          refine wpAnyT_take (i := 9) (n := 80) (v := ?vv9_22) (fun _ => True) rfl (by kernel_rfl) (by kernel_rfl) (by kernel_rfl) (fun _ _ _ h => h) ⟨by decide, .inl ⟨by kernel_rfl, rfl⟩⟩ hSh (Or.inl ⟨by rfl, ?yy9_22⟩) (by assumption) ?rr9_22
          case yy9_22 => (intro w hSw; (skip); (try simp only [getElem_toArray, getElem_cons_succ, getElem_cons_zero, Act.put, setIfInBounds_toArray, set_cons_zero, set_cons_succ]); go_simp; (try (with_reducible rfl)))
          clear hSh; intro hSh
          try simp only [getElem_toArray, getElem_cons_succ, getElem_cons_zero, Act.put, setIfInBounds_toArray, set_cons_zero, set_cons_succ]
          refine wpAnyT_ready (rs := [10]) (by kernel_rfl) (by simp) ?_
          refine AllReadyT.cons (o := _) (fun _ => True) (fun _ => cond_at (by kernel_rfl)) (by kernel_rfl) hSh rfl (fun K hK => ?_) AllReadyT.nil
          try simp only [getElem_toArray, getElem_cons_succ, getElem_cons_zero, Act.put, setIfInBounds_toArray, set_cons_zero, set_cons_succ]
          go_simp
          clear hSh
          refine hK.out _ _ trivial (fun _ hSh => ?_)
          clear hK K
          try simp only [getElem_toArray, getElem_cons_succ, getElem_cons_zero, Act.put, setIfInBounds_toArray, set_cons_zero, set_cons_succ]
          refine wpAnyT_done (by kernel_rfl) ?_ _
          clear hSh
          have h9 := HN6.out.1
          rw [HTA.out, HTB.out] at h9
          have H9 := Lib.hid h9
          clear h9
          go_wp2
          go_roundw
          case rel => exact ⟨0 + 1, by decide, by first | rfl | go_num, ⟨_, _, H9.out⟩⟩
          case measure => simp [intOf]
      · have hev' : (kE 1 : Int) = 0 := rfl
        rw [hev'] at HEA HEB
        clear hev hev'
        go_wp2_with fail
        refine (next_anyd HW.out).mono ?_
        rintro e y1 ⟨rfl, h1, _⟩
        have H1 := Lib.hid h1
        clear h1
        go_wp2_with fail
        refine (HEA.out (kD 1 + 1) (fun e => by first | exact absurd e (by decide) | exact HP.out.2.2.1) _ _ _ _ H1.out.sa).mono ?_
        rintro e y2 ⟨RX, rx, rfl, hrow, hs, hm⟩
        have HRow := Lib.hid hrow
        rw [HLX.out] at HRow ⊢
        have H2 := Lib.hid (H1.out.turnA hs hm)
        have H2a := Lib.hid (H2.out.alloc (.cells #[.slice RX LX rx, .int .u16 TX, .int .u16 0, .bool false] 51))
        have HX0 := Lib.hid (blk_new y2 [.slice RX LX rx, .int .u16 TX, .int .u16 0, .bool false] 51)
        have HF2 := Lib.hid H2.out.frs
        have HPX := Lib.hid ((pks_own (l := lX) (by have h5 := HRow.out; rw [← HLX.out] at h5; exact h5)).below ((Below.refl _ y2).alloc (Nat.le_refl _) (.cells #[.slice RX LX rx, .int .u16 TX, .int .u16 0, .bool false] 51)))
        have HRn := Lib.hid (own_none HRow.out)
        have HRg : Hid (∀ ad', RX = some ad' → ad'.block ≠ gw ∧ ¬ Mn y ad'.block) := fun ad' e1 => by
          have h5 := (HRow.out.lt ad'.block (by rw [e1]; rfl)).1
          exact ⟨by have := H1.out.lt; omega, fun e2 => by have := H1.out.sb.old _ e2; omega⟩
        clear hrow hs hm HRow H2
        go_wp2_with fail
        refine (next_anyd H2a.out).mono ?_
        rintro e y3 ⟨rfl, h3, hm3⟩
        rw [HDk.out] at h3
        have H3 := Lib.hid h3
        have HX3 := Lib.hid (HX0.out.moves hm3 HF2.out.2.2.2.2.1)
        have HP3 := Lib.hid (HPX.out.moves hm3 (fun ad' e1 => (HRg.out ad' e1).1))
        clear h3 hm3 H2a HX0 HPX
        go_wp2_with fail
        refine (HEB.out (kD 1 + 1 + 1) (fun e => by first | exact absurd e (by decide) | exact HP.out.2.2.2) _ _ _ _ H3.out.sb).mono ?_
        rintro e y4 ⟨RY, ry, rfl, hrow, hs, hm⟩
        have HRow := Lib.hid hrow
        rw [HLY.out] at HRow ⊢
        have H4 := Lib.hid (H3.out.turnB hs hm)
        have HX4 := Lib.hid ((HX3.out.moves hm HF2.out.2.2.2.1).alloc (.cells #[.slice RY LY ry, .int .u16 TX, .int .u16 0, .bool false] 51))
        have HP4 := Lib.hid ((HP3.out.moves hm (fun ad' e1 => (HRg.out ad' e1).2)).below ((Below.refl _ y4).alloc (Nat.le_refl _) (.cells #[.slice RY LY ry, .int .u16 TX, .int .u16 0, .bool false] 51)))
        have H4a := Lib.hid (H4.out.alloc (.cells #[.slice RY LY ry, .int .u16 TX, .int .u16 0, .bool false] 51))
        have HY4 := Lib.hid (blk_new y4 [.slice RY LY ry, .int .u16 TX, .int .u16 0, .bool false] 51)
        have HPY := Lib.hid ((pks_own (l := lY) (by have h5 := HRow.out; rw [← HLY.out] at h5; exact h5)).below ((Below.refl _ y4).alloc (Nat.le_refl _) (.cells #[.slice RY LY ry, .int .u16 TX, .int .u16 0, .bool false] 51)))
        have HRn2 := Lib.hid (own_none HRow.out)
        have hgx : y2.heap.size ≠ gw := HF2.out.2.2.2.2.1
        have HGY : Hid (y4.heap.size ≠ gw) := fun e => by have := H4.out.lt; omega
        have HRy : Hid (∀ ad', RY = some ad' → y3.heap.size ≤ ad'.block) := fun ad' e1 => (HRow.out.lt ad'.block (by rw [e1]; rfl)).1
        have HGw := Lib.hid H3.out.lt
        have HRB : Hid (∀ k, (Value.slice RB 0 cB).ownBlock = some k → k < y3.heap.size) := fun k e => (H3.out.rB.lt k e).2
        have HS4 := Lib.hid hm.size
        go_upto_region 10 with (fail)
        obtain ⟨wq, hwq⟩ : ∃ wq, y4.alloc (.cells #[.slice RY LY ry, .int .u16 TX, .int .u16 0, .bool false] 51) = wq := ⟨_, rfl⟩
        have HW5 : Hid (Wd lcK w wq gw x y (kS pa qa (1 + 1)) (kS pb qb (1 + 1)) (.slice RA 0 cA) (.slice RB 0 cB) tA tB 0 (kD (1 + 1))) := by show Wd _ _ _ _ _ _ _ _ _ _ _ _ _ _; rw [← hwq]; exact H4a.out
        have HX5 : Hid (Blk wq y2.heap.size [.slice RX LX rx, .int .u16 TX, .int .u16 0, .bool false] 51) := by show Blk _ _ _ _; rw [← hwq]; exact HX4.out
        have HY5 : Hid (Blk wq y4.heap.size [.slice RY LY ry, .int .u16 TX, .int .u16 0, .bool false] 51) := by show Blk _ _ _ _; rw [← hwq]; exact HY4.out
        have HPX5 : Hid (Pks wq RX lX) := by show Pks _ _ _; rw [← hwq]; exact HP4.out
        have HPY5 : Hid (Pks wq RY lY) := by show Pks _ _ _; rw [← hwq]; exact HPY.out
        rw [hwq]
        clear HDk hwq hrow hs hm HRow H3 H4 H4a HX3 HX4 HY4 HP3 HP4 HPY HF2 H1 HW HEA HEB
        have HrO : Hid (wq.drew.ownsRow w.heap.size 56 3 (.slice RB 0 cB) 0 (pksV tB)) := by
          have h5 := HW5.out.drew.rB
          rw [Hb.out] at h5
          exact h5
        have HR5 : Hid (Pks wq.drew RX lX) := HPX5.out.below (Below.drewN' (Below.refl _ wq) 1)
        have hHeld8 : Wd lcK w wq.drew gw x y (kS pa qa (1 + 1)) (kS pb qb (1 + 1)) (.slice RA 0 cA) (.slice RB 0 cB) tA tB 0 (kD (1 + 1)) ∧ Blk wq.drew y2.heap.size [.slice RX LX rx, .int .u16 TX, .int .u16 0, .bool false] 51 := ⟨HW5.out.drew, HX5.out.drew⟩
        go_cut [8, 10] from 16 to 57 (fun _ u wx => u = .pointer (some ⟨y4.heap.size, 0, none⟩) ∧ ∃ v6, Hid (Wd lcK w wx gw x y (kS pa qa (1 + 1)) (kS pb qb (1 + 1)) (.slice RA 0 cA) v6 tA (tB ++ lX) 0 (kD (1 + 1))) ∧ Hid (Blk wx y4.heap.size [.slice RY LY ry, .int .u16 TX, .int .u16 0, .bool false] 51) ∧ Hid (Pks wx RY lY))
        case first =>
          refine wp_region_t 7 (fun w' => Wd lcK w w' gw x y (kS pa qa (1 + 1)) (kS pb qb (1 + 1)) (.slice RA 0 cA) (.slice RB 0 cB) tA tB 0 (kD (1 + 1)) ∧ Blk w' y2.heap.size [.slice RX LX rx, .int .u16 TX, .int .u16 0, .bool false] 51) (fun _ => True) (by kernel_rfl) (fun hSh => ?_)
          refine wpAnyT_take (i := 1) (n := 80) (v := ?vv1_23) (fun w' => Wd lcK w w' gw x y (kS pa qa (1 + 1)) (kS pb qb (1 + 1)) (.slice RA 0 cA) (.slice RB 0 cB) tA tB 0 (kD (1 + 1)) ∧ Blk w' y2.heap.size [.slice RX LX rx, .int .u16 TX, .int .u16 0, .bool false] 51) rfl (by kernel_rfl) (by kernel_rfl) (by kernel_rfl) (fun _ _ _ h => h) ⟨by decide, .inr ⟨by kernel_rfl, by kernel_rfl, rfl⟩⟩ hSh (Or.inl ⟨by rfl, ?yy1_23⟩) (by assumption) ?rr1_23
          case yy1_23 => (intro w hSw; (skip); (try simp only [getElem_toArray, getElem_cons_succ, getElem_cons_zero, Act.put, setIfInBounds_toArray, set_cons_zero, set_cons_succ]); go_simp; (try (with_reducible rfl)))
          clear hSh; intro hSh
          try simp only [getElem_toArray, getElem_cons_succ, getElem_cons_zero, Act.put, setIfInBounds_toArray, set_cons_zero, set_cons_succ]
          refine wpAnyT_take (i := 2) (n := 80) (v := ?vv2_24) (fun w' => Wd lcK w w' gw x y (kS pa qa (1 + 1)) (kS pb qb (1 + 1)) (.slice RA 0 cA) (.slice RB 0 cB) tA tB 0 (kD (1 + 1)) ∧ Blk w' y2.heap.size [.slice RX LX rx, .int .u16 TX, .int .u16 0, .bool false] 51) rfl (by kernel_rfl) (by kernel_rfl) (by kernel_rfl) (fun _ _ _ h => h) ⟨by decide, .inr ⟨by kernel_rfl, by kernel_rfl, rfl⟩⟩ hSh (Or.inl ⟨by rfl, ?yy2_24⟩) (by assumption) ?rr2_24
          case yy2_24 => (intro w hSw; (skip); (try simp only [getElem_toArray, getElem_cons_succ, getElem_cons_zero, Act.put, setIfInBounds_toArray, set_cons_zero, set_cons_succ]); go_simp; (try (with_reducible rfl)))
          clear hSh; intro hSh
          try simp only [getElem_toArray, getElem_cons_succ, getElem_cons_zero, Act.put, setIfInBounds_toArray, set_cons_zero, set_cons_succ]
          refine wpAnyT_take (i := 3) (n := 80) (v := ?vv3_25) (fun w' => Wd lcK w w' gw x y (kS pa qa (1 + 1)) (kS pb qb (1 + 1)) (.slice RA 0 cA) (.slice RB 0 cB) tA tB 0 (kD (1 + 1)) ∧ Blk w' y2.heap.size [.slice RX LX rx, .int .u16 TX, .int .u16 0, .bool false] 51) rfl (by kernel_rfl) (by kernel_rfl) (by kernel_rfl) (fun _ _ _ h => h) ⟨by decide, .inr ⟨by kernel_rfl, by kernel_rfl, rfl⟩⟩ hSh (Or.inl ⟨by rfl, ?yy3_25⟩) (by assumption) ?rr3_25
          case yy3_25 => (intro w hSw; (skip); (try simp only [getElem_toArray, getElem_cons_succ, getElem_cons_zero, Act.put, setIfInBounds_toArray, set_cons_zero, set_cons_succ]); go_simp; (try (with_reducible rfl)))
          clear hSh; intro hSh
          try simp only [getElem_toArray, getElem_cons_succ, getElem_cons_zero, Act.put, setIfInBounds_toArray, set_cons_zero, set_cons_succ]
          refine wpAnyT_take (i := 4) (n := 80) (v := ?vv4_26) (fun w' => Wd lcK w w' gw x y (kS pa qa (1 + 1)) (kS pb qb (1 + 1)) (.slice RA 0 cA) (.slice RB 0 cB) tA tB 0 (kD (1 + 1)) ∧ Blk w' y2.heap.size [.slice RX LX rx, .int .u16 TX, .int .u16 0, .bool false] 51) rfl (by kernel_rfl) (by kernel_rfl) (by kernel_rfl) (fun _ _ _ h => h) ⟨by decide, .inr ⟨by kernel_rfl, by kernel_rfl, rfl⟩⟩ hSh (Or.inl ⟨by rfl, ?yy4_26⟩) (by assumption) ?rr4_26
          case yy4_26 => (intro w hSw; (obtain ⟨c0, c1, c2, c3, c5, f2, f3, f5⟩ := hSw.1.cells); (try simp only [getElem_toArray, getElem_cons_succ, getElem_cons_zero, Act.put, setIfInBounds_toArray, set_cons_zero, set_cons_succ]); go_simp; (try (with_reducible rfl)))
          clear hSh; intro hSh
          try simp only [getElem_toArray, getElem_cons_succ, getElem_cons_zero, Act.put, setIfInBounds_toArray, set_cons_zero, set_cons_succ]
          refine wpAnyT_take (i := 5) (n := 80) (v := ?vv5_27) (fun w' => Wd lcK w w' gw x y (kS pa qa (1 + 1)) (kS pb qb (1 + 1)) (.slice RA 0 cA) (.slice RB 0 cB) tA tB 0 (kD (1 + 1)) ∧ Blk w' y2.heap.size [.slice RX LX rx, .int .u16 TX, .int .u16 0, .bool false] 51) rfl (by kernel_rfl) (by kernel_rfl) (by kernel_rfl) (fun _ _ _ h => h) ⟨by decide, .inr ⟨by kernel_rfl, by kernel_rfl, rfl⟩⟩ hSh (Or.inl ⟨by rfl, ?yy5_27⟩) (by assumption) ?rr5_27
          case yy5_27 => (intro w hSw; (skip); (try simp only [getElem_toArray, getElem_cons_succ, getElem_cons_zero, Act.put, setIfInBounds_toArray, set_cons_zero, set_cons_succ]); go_simp; (try (with_reducible rfl)))
          clear hSh; intro hSh
          try simp only [getElem_toArray, getElem_cons_succ, getElem_cons_zero, Act.put, setIfInBounds_toArray, set_cons_zero, set_cons_succ]
          refine wpAnyT_take (i := 6) (n := 80) (v := ?vv6_28) (fun w' => Wd lcK w w' gw x y (kS pa qa (1 + 1)) (kS pb qb (1 + 1)) (.slice RA 0 cA) (.slice RB 0 cB) tA tB 0 (kD (1 + 1)) ∧ Blk w' y2.heap.size [.slice RX LX rx, .int .u16 TX, .int .u16 0, .bool false] 51) rfl (by kernel_rfl) (by kernel_rfl) (by kernel_rfl) (fun _ _ _ h => h) ⟨by decide, .inr ⟨by kernel_rfl, by kernel_rfl, rfl⟩⟩ hSh (Or.inl ⟨by rfl, ?yy6_28⟩) (by assumption) ?rr6_28
          case yy6_28 => (intro w hSw; (have x0 : w.cell? ⟨y2.heap.size, 0, none⟩ = some (.slice RX LX rx) := hSw.2.at_ 0); (try simp only [getElem_toArray, getElem_cons_succ, getElem_cons_zero, Act.put, setIfInBounds_toArray, set_cons_zero, set_cons_succ]); go_simp; (try (with_reducible rfl)))
          clear hSh; intro hSh
          try simp only [getElem_toArray, getElem_cons_succ, getElem_cons_zero, Act.put, setIfInBounds_toArray, set_cons_zero, set_cons_succ]
          refine wpAnyT_ready (rs := [0, 7]) (by kernel_rfl) (by simp) ?_
          refine AllReadyT.cons (o := _) (fun w' => Wd lcK w w' gw x y (kS pa qa (1 + 1)) (kS pb qb (1 + 1)) (.slice RA 0 cA) (.slice RB 0 cB) tA tB 0 (kD (1 + 1)) ∧ Blk w' y2.heap.size [.slice RX LX rx, .int .u16 TX, .int .u16 0, .bool false] 51) (fun _ => cond_ahead (by kernel_rfl)) (by kernel_rfl) hSh rfl (fun K hK => ?_) (AllReadyT.cons (o := _) (fun _ => True) (fun _ => cond_at (by kernel_rfl)) (by kernel_rfl) hSh rfl (fun K hK => ?_) AllReadyT.nil)
          · try simp only [getElem_toArray, getElem_cons_succ, getElem_cons_zero, Act.put, setIfInBounds_toArray, set_cons_zero, set_cons_succ]
            go_simp
            clear hSh
            refine hK.out _ _ hHeld8 (fun _ hSh => ?_)
            clear hK K
            try simp only [getElem_toArray, getElem_cons_succ, getElem_cons_zero, Act.put, setIfInBounds_toArray, set_cons_zero, set_cons_succ]
            refine wpAnyT_ready (rs := [7]) (by kernel_rfl) (by simp) ?_
            refine AllReadyT.cons (o := _) (fun _ => True) (fun _ => cond_at (by kernel_rfl)) (by kernel_rfl) hSh rfl (fun K hK => ?_) AllReadyT.nil
            refine step_pks wq.drew (by rfl) _ _ 49 (by rfl) w.heap.size 56 i0 _ 24 Tryz.underlying49 hi0 hz0 hz1 hz2 rfl (.slice RB 0 cB) 0 tB (by rfl) HrO.out RX LX rx lX HLX.out HRn.out (by rfl) HR5.out (by unfold maxLen; omega) (by omega) HW5.out.drew.hb.size ?_
            intro v6 y6 hr6 hg6 hat6
            rw [← Hb.out, ← HLX.out] at hr6
            obtain ⟨R6, q6, hv6⟩ := own_slice hr6
            subst hv6
            have HN6 := Lib.hid (HW5.out.drew.growB (l := lX) hg6 hr6 hat6)
            have HG6 := Lib.hid hg6
            clear hr6 hg6 hat6
            have hd6 := HN6.out.2
            have c3 := hd6.at_ 3
            have f3 := hd6.frozen 3
            clear hd6
            clear hSh
            refine hK.out _ _ trivial (fun _ hSh => ?_)
            clear hK K
            try simp only [getElem_toArray, getElem_cons_succ, getElem_cons_zero, Act.put, setIfInBounds_toArray, set_cons_zero, set_cons_succ]
            refine wpAnyT_take (i := 8) (n := 80) (v := ?vv8_29) (fun _ => True) rfl (by kernel_rfl) (by kernel_rfl) (by kernel_rfl) (fun _ _ _ h => h) ⟨by decide, .inl ⟨by kernel_rfl, rfl⟩⟩ hSh (Or.inl ⟨by rfl, ?yy8_29⟩) (by assumption) ?rr8_29
            case yy8_29 => (intro w hSw; (skip); (try simp only [getElem_toArray, getElem_cons_succ, getElem_cons_zero, Act.put, setIfInBounds_toArray, set_cons_zero, set_cons_succ]); go_simp; (try (with_reducible rfl)))
            clear hSh; intro hSh
            try simp only [getElem_toArray, getElem_cons_succ, getElem_cons_zero, Act.put, setIfInBounds_toArray, set_cons_zero, set_cons_succ]
            refine wpAnyT_take (i := 9) (n := 80) (v := ?vv9_30) (fun _ => True) rfl (by kernel_rfl) (by kernel_rfl) (by kernel_rfl) (fun _ _ _ h => h) ⟨by decide, .inl ⟨by kernel_rfl, rfl⟩⟩ hSh (Or.inl ⟨by rfl, ?yy9_30⟩) (by assumption) ?rr9_30
            case yy9_30 => (intro w hSw; (skip); (try simp only [getElem_toArray, getElem_cons_succ, getElem_cons_zero, Act.put, setIfInBounds_toArray, set_cons_zero, set_cons_succ]); go_simp; (try (with_reducible rfl)))
            clear hSh; intro hSh
            try simp only [getElem_toArray, getElem_cons_succ, getElem_cons_zero, Act.put, setIfInBounds_toArray, set_cons_zero, set_cons_succ]
            refine wpAnyT_ready (rs := [10]) (by kernel_rfl) (by simp) ?_
            refine AllReadyT.cons (o := _) (fun _ => True) (fun _ => cond_at (by kernel_rfl)) (by kernel_rfl) hSh rfl (fun K hK => ?_) AllReadyT.nil
            try simp only [getElem_toArray, getElem_cons_succ, getElem_cons_zero, Act.put, setIfInBounds_toArray, set_cons_zero, set_cons_succ]
            go_simp
            clear hSh
            refine hK.out _ _ trivial (fun _ hSh => ?_)
            clear hK K
            try simp only [getElem_toArray, getElem_cons_succ, getElem_cons_zero, Act.put, setIfInBounds_toArray, set_cons_zero, set_cons_succ]
            refine wpAnyT_done (by kernel_rfl) ?_ _
            clear hSh
            have hm6 : Moves (fun k => (Value.slice RB 0 cB).ownBlock = some k ∨ k = gw) wq.drew (y6.setCell ⟨gw, 3, none⟩ (.slice R6 (tB.length + lX.length) q6)) := (Moves.of_grown (S := fun k => (Value.slice RB 0 cB).ownBlock = some k ∨ k = gw) HG6.out (fun k e _ => .inl e)).trans (T := fun k => k = gw) (set1_moves y6 gw 3 _) (fun _ _ e => .inr e)
            have HYk := Lib.hid (HY5.out.drew.moves hm6 (fun e => by
              rcases e with e | e
              · have := HRB.out _ e; have := HS4.out; omega
              · exact HGY.out e))
            have HPk := Lib.hid ((HPY5.out.below (Below.drewN' (Below.refl _ wq) 1)).moves hm6 (fun ad' e1 e => by
              have h7 := HRy.out ad' e1
              rcases e with e | e
              · have := HRB.out _ e; omega
              · have := HGw.out; omega))
            clear hm6
            go_wp2
            go_meet
            exact ⟨rfl, _, HN6.out.1, HYk, HPk⟩
          · refine step_pks wq.drew (by rfl) _ _ 49 (by rfl) w.heap.size 56 i0 _ 24 Tryz.underlying49 hi0 hz0 hz1 hz2 rfl (.slice RB 0 cB) 0 tB (by rfl) HrO.out RX LX rx lX HLX.out HRn.out (by rfl) HR5.out (by unfold maxLen; omega) (by omega) HW5.out.drew.hb.size ?_
            intro v6 y6 hr6 hg6 hat6
            rw [← Hb.out, ← HLX.out] at hr6
            obtain ⟨R6, q6, hv6⟩ := own_slice hr6
            subst hv6
            have HN6 := Lib.hid (HW5.out.drew.growB (l := lX) hg6 hr6 hat6)
            have HG6 := Lib.hid hg6
            clear hr6 hg6 hat6
            have hd6 := HN6.out.2
            have c3 := hd6.at_ 3
            have f3 := hd6.frozen 3
            clear hd6
            clear hSh
            refine hK.out _ _ trivial (fun _ hSh => ?_)
            clear hK K
            try simp only [getElem_toArray, getElem_cons_succ, getElem_cons_zero, Act.put, setIfInBounds_toArray, set_cons_zero, set_cons_succ]
            refine wpAnyT_take (i := 0) (n := 80) (v := ?vv0_31) (fun _ => True) rfl (by kernel_rfl) (by kernel_rfl) (by kernel_rfl) (fun _ _ _ h => h) ⟨by decide, .inl ⟨by kernel_rfl, rfl⟩⟩ hSh (Or.inl ⟨by rfl, ?yy0_31⟩) (by assumption) ?rr0_31
            case yy0_31 => (intro w hSw; (skip); (try simp only [getElem_toArray, getElem_cons_succ, getElem_cons_zero, Act.put, setIfInBounds_toArray, set_cons_zero, set_cons_succ]); go_simp; (try (with_reducible rfl)))
            clear hSh; intro hSh
            try simp only [getElem_toArray, getElem_cons_succ, getElem_cons_zero, Act.put, setIfInBounds_toArray, set_cons_zero, set_cons_succ]
            refine wpAnyT_take (i := 8) (n := 80) (v := ?vv8_32) (fun _ => True) rfl (by kernel_rfl) (by kernel_rfl) (by kernel_rfl) (fun _ _ _ h => h) ⟨by decide, .inl ⟨by kernel_rfl, rfl⟩⟩ hSh (Or.inl ⟨by rfl, ?yy8_32⟩) (by assumption) ?rr8_32
            case yy8_32 => (intro w hSw; (skip); (try simp only [getElem_toArray, getElem_cons_succ, getElem_cons_zero, Act.put, setIfInBounds_toArray, set_cons_zero, set_cons_succ]); go_simp; (try (with_reducible rfl)))
            clear hSh; intro hSh
            try simp only [getElem_toArray, getElem_cons_succ, getElem_cons_zero, Act.put, setIfInBounds_toArray, set_cons_zero, set_cons_succ]
            refine wpAnyT_take (i := 9) (n := 80) (v := ?vv9_33) (fun _ => True) rfl (by kernel_rfl) (by kernel_rfl) (by kernel_rfl) (fun _ _ _ h => h) ⟨by decide, .inl ⟨by kernel_rfl, rfl⟩⟩ hSh (Or.inl ⟨by rfl, ?yy9_33⟩) (by assumption) ?rr9_33
            case yy9_33 => (intro w hSw; (skip); (try simp only [getElem_toArray, getElem_cons_succ, getElem_cons_zero, Act.put, setIfInBounds_toArray, set_cons_zero, set_cons_succ]); go_simp; (try (with_reducible rfl)))
            clear hSh; intro hSh
            try simp only [getElem_toArray, getElem_cons_succ, getElem_cons_zero, Act.put, setIfInBounds_toArray, set_cons_zero, set_cons_succ]
            refine wpAnyT_ready (rs := [10]) (by kernel_rfl) (by simp) ?_
            refine AllReadyT.cons (o := _) (fun _ => True) (fun _ => cond_at (by kernel_rfl)) (by kernel_rfl) hSh rfl (fun K hK => ?_) AllReadyT.nil
            try simp only [getElem_toArray, getElem_cons_succ, getElem_cons_zero, Act.put, setIfInBounds_toArray, set_cons_zero, set_cons_succ]
            go_simp
            clear hSh
            refine hK.out _ _ trivial (fun _ hSh => ?_)
            clear hK K
            try simp only [getElem_toArray, getElem_cons_succ, getElem_cons_zero, Act.put, setIfInBounds_toArray, set_cons_zero, set_cons_succ]
            refine wpAnyT_done (by kernel_rfl) ?_ _
            clear hSh
            have hm6 : Moves (fun k => (Value.slice RB 0 cB).ownBlock = some k ∨ k = gw) wq.drew (y6.setCell ⟨gw, 3, none⟩ (.slice R6 (tB.length + lX.length) q6)) := (Moves.of_grown (S := fun k => (Value.slice RB 0 cB).ownBlock = some k ∨ k = gw) HG6.out (fun k e _ => .inl e)).trans (T := fun k => k = gw) (set1_moves y6 gw 3 _) (fun _ _ e => .inr e)
            have HYk := Lib.hid (HY5.out.drew.moves hm6 (fun e => by
              rcases e with e | e
              · have := HRB.out _ e; have := HS4.out; omega
              · exact HGY.out e))
            have HPk := Lib.hid ((HPY5.out.below (Below.drewN' (Below.refl _ wq) 1)).moves hm6 (fun ad' e1 e => by
              have h7 := HRy.out ad' e1
              rcases e with e | e
              · have := HRB.out _ e; omega
              · have := HGw.out; omega))
            clear hm6
            go_wp2
            go_meet
            exact ⟨rfl, _, HN6.out.1, HYk, HPk⟩
        case rest =>
        obtain ⟨rfl, v6, HW7, HY7, HP7⟩ := hcut
        clear HrO HR5 hHeld8 HW5 HX5 HY5 HPX5 HPY5
        generalize wc = wz at *
        have HrO : Hid (wz.drew.ownsRow w.heap.size 56 3 (.slice RA 0 cA) 0 (pksV tA)) := by
          have h5 := HW7.out.drew.rA
          rw [Ha.out] at h5
          exact h5
        have HR5 : Hid (Pks wz.drew RY lY) := HP7.out.below (Below.drewN' (Below.refl _ wz) 1)
        have hHeld8 : Wd lcK w wz.drew gw x y (kS pa qa (1 + 1)) (kS pb qb (1 + 1)) (.slice RA 0 cA) v6 tA (tB ++ lX) 0 (kD (1 + 1)) ∧ Blk wz.drew y4.heap.size [.slice RY LY ry, .int .u16 TX, .int .u16 0, .bool false] 51 := ⟨HW7.out.drew, HY7.out.drew⟩
        go_upto_region 11 with (fail)
        refine wp_region_t 7 (fun w' => Wd lcK w w' gw x y (kS pa qa (1 + 1)) (kS pb qb (1 + 1)) (.slice RA 0 cA) v6 tA (tB ++ lX) 0 (kD (1 + 1)) ∧ Blk w' y4.heap.size [.slice RY LY ry, .int .u16 TX, .int .u16 0, .bool false] 51) (fun _ => True) (by kernel_rfl) (fun hSh => ?_)
        refine wpAnyT_take (i := 1) (n := 80) (v := ?vv1_34) (fun w' => Wd lcK w w' gw x y (kS pa qa (1 + 1)) (kS pb qb (1 + 1)) (.slice RA 0 cA) v6 tA (tB ++ lX) 0 (kD (1 + 1)) ∧ Blk w' y4.heap.size [.slice RY LY ry, .int .u16 TX, .int .u16 0, .bool false] 51) rfl (by kernel_rfl) (by kernel_rfl) (by kernel_rfl) (fun _ _ _ h => h) ⟨by decide, .inr ⟨by kernel_rfl, by kernel_rfl, rfl⟩⟩ hSh (Or.inl ⟨by rfl, ?yy1_34⟩) (by assumption) ?rr1_34
        case yy1_34 => (intro w hSw; (skip); (try simp only [getElem_toArray, getElem_cons_succ, getElem_cons_zero, Act.put, setIfInBounds_toArray, set_cons_zero, set_cons_succ]); go_simp; (try (with_reducible rfl)))
        clear hSh; intro hSh
        try simp only [getElem_toArray, getElem_cons_succ, getElem_cons_zero, Act.put, setIfInBounds_toArray, set_cons_zero, set_cons_succ]
        refine wpAnyT_take (i := 2) (n := 80) (v := ?vv2_35) (fun w' => Wd lcK w w' gw x y (kS pa qa (1 + 1)) (kS pb qb (1 + 1)) (.slice RA 0 cA) v6 tA (tB ++ lX) 0 (kD (1 + 1)) ∧ Blk w' y4.heap.size [.slice RY LY ry, .int .u16 TX, .int .u16 0, .bool false] 51) rfl (by kernel_rfl) (by kernel_rfl) (by kernel_rfl) (fun _ _ _ h => h) ⟨by decide, .inr ⟨by kernel_rfl, by kernel_rfl, rfl⟩⟩ hSh (Or.inl ⟨by rfl, ?yy2_35⟩) (by assumption) ?rr2_35
        case yy2_35 => (intro w hSw; (skip); (try simp only [getElem_toArray, getElem_cons_succ, getElem_cons_zero, Act.put, setIfInBounds_toArray, set_cons_zero, set_cons_succ]); go_simp; (try (with_reducible rfl)))
        clear hSh; intro hSh
        try simp only [getElem_toArray, getElem_cons_succ, getElem_cons_zero, Act.put, setIfInBounds_toArray, set_cons_zero, set_cons_succ]
        refine wpAnyT_take (i := 3) (n := 80) (v := ?vv3_36) (fun w' => Wd lcK w w' gw x y (kS pa qa (1 + 1)) (kS pb qb (1 + 1)) (.slice RA 0 cA) v6 tA (tB ++ lX) 0 (kD (1 + 1)) ∧ Blk w' y4.heap.size [.slice RY LY ry, .int .u16 TX, .int .u16 0, .bool false] 51) rfl (by kernel_rfl) (by kernel_rfl) (by kernel_rfl) (fun _ _ _ h => h) ⟨by decide, .inr ⟨by kernel_rfl, by kernel_rfl, rfl⟩⟩ hSh (Or.inl ⟨by rfl, ?yy3_36⟩) (by assumption) ?rr3_36
        case yy3_36 => (intro w hSw; (skip); (try simp only [getElem_toArray, getElem_cons_succ, getElem_cons_zero, Act.put, setIfInBounds_toArray, set_cons_zero, set_cons_succ]); go_simp; (try (with_reducible rfl)))
        clear hSh; intro hSh
        try simp only [getElem_toArray, getElem_cons_succ, getElem_cons_zero, Act.put, setIfInBounds_toArray, set_cons_zero, set_cons_succ]
        refine wpAnyT_take (i := 4) (n := 80) (v := ?vv4_37) (fun w' => Wd lcK w w' gw x y (kS pa qa (1 + 1)) (kS pb qb (1 + 1)) (.slice RA 0 cA) v6 tA (tB ++ lX) 0 (kD (1 + 1)) ∧ Blk w' y4.heap.size [.slice RY LY ry, .int .u16 TX, .int .u16 0, .bool false] 51) rfl (by kernel_rfl) (by kernel_rfl) (by kernel_rfl) (fun _ _ _ h => h) ⟨by decide, .inr ⟨by kernel_rfl, by kernel_rfl, rfl⟩⟩ hSh (Or.inl ⟨by rfl, ?yy4_37⟩) (by assumption) ?rr4_37
        case yy4_37 => (intro w hSw; (obtain ⟨c0, c1, c2, c3, c5, f2, f3, f5⟩ := hSw.1.cells); (try simp only [getElem_toArray, getElem_cons_succ, getElem_cons_zero, Act.put, setIfInBounds_toArray, set_cons_zero, set_cons_succ]); go_simp; (try (with_reducible rfl)))
        clear hSh; intro hSh
        try simp only [getElem_toArray, getElem_cons_succ, getElem_cons_zero, Act.put, setIfInBounds_toArray, set_cons_zero, set_cons_succ]
        refine wpAnyT_take (i := 5) (n := 80) (v := ?vv5_38) (fun w' => Wd lcK w w' gw x y (kS pa qa (1 + 1)) (kS pb qb (1 + 1)) (.slice RA 0 cA) v6 tA (tB ++ lX) 0 (kD (1 + 1)) ∧ Blk w' y4.heap.size [.slice RY LY ry, .int .u16 TX, .int .u16 0, .bool false] 51) rfl (by kernel_rfl) (by kernel_rfl) (by kernel_rfl) (fun _ _ _ h => h) ⟨by decide, .inr ⟨by kernel_rfl, by kernel_rfl, rfl⟩⟩ hSh (Or.inl ⟨by rfl, ?yy5_38⟩) (by assumption) ?rr5_38
        case yy5_38 => (intro w hSw; (skip); (try simp only [getElem_toArray, getElem_cons_succ, getElem_cons_zero, Act.put, setIfInBounds_toArray, set_cons_zero, set_cons_succ]); go_simp; (try (with_reducible rfl)))
        clear hSh; intro hSh
        try simp only [getElem_toArray, getElem_cons_succ, getElem_cons_zero, Act.put, setIfInBounds_toArray, set_cons_zero, set_cons_succ]
        refine wpAnyT_take (i := 6) (n := 80) (v := ?vv6_39) (fun w' => Wd lcK w w' gw x y (kS pa qa (1 + 1)) (kS pb qb (1 + 1)) (.slice RA 0 cA) v6 tA (tB ++ lX) 0 (kD (1 + 1)) ∧ Blk w' y4.heap.size [.slice RY LY ry, .int .u16 TX, .int .u16 0, .bool false] 51) rfl (by kernel_rfl) (by kernel_rfl) (by kernel_rfl) (fun _ _ _ h => h) ⟨by decide, .inr ⟨by kernel_rfl, by kernel_rfl, rfl⟩⟩ hSh (Or.inl ⟨by rfl, ?yy6_39⟩) (by assumption) ?rr6_39
        case yy6_39 => (intro w hSw; (have x0 : w.cell? ⟨y4.heap.size, 0, none⟩ = some (.slice RY LY ry) := hSw.2.at_ 0); (try simp only [getElem_toArray, getElem_cons_succ, getElem_cons_zero, Act.put, setIfInBounds_toArray, set_cons_zero, set_cons_succ]); go_simp; (try (with_reducible rfl)))
        clear hSh; intro hSh
        try simp only [getElem_toArray, getElem_cons_succ, getElem_cons_zero, Act.put, setIfInBounds_toArray, set_cons_zero, set_cons_succ]
        refine wpAnyT_ready (rs := [0, 7]) (by kernel_rfl) (by simp) ?_
        refine AllReadyT.cons (o := _) (fun w' => Wd lcK w w' gw x y (kS pa qa (1 + 1)) (kS pb qb (1 + 1)) (.slice RA 0 cA) v6 tA (tB ++ lX) 0 (kD (1 + 1)) ∧ Blk w' y4.heap.size [.slice RY LY ry, .int .u16 TX, .int .u16 0, .bool false] 51) (fun _ => cond_ahead (by kernel_rfl)) (by kernel_rfl) hSh rfl (fun K hK => ?_) (AllReadyT.cons (o := _) (fun _ => True) (fun _ => cond_at (by kernel_rfl)) (by kernel_rfl) hSh rfl (fun K hK => ?_) AllReadyT.nil)
        · try simp only [getElem_toArray, getElem_cons_succ, getElem_cons_zero, Act.put, setIfInBounds_toArray, set_cons_zero, set_cons_succ]
          go_simp
          clear hSh
          refine hK.out _ _ hHeld8 (fun _ hSh => ?_)
          clear hK K
          try simp only [getElem_toArray, getElem_cons_succ, getElem_cons_zero, Act.put, setIfInBounds_toArray, set_cons_zero, set_cons_succ]
          refine wpAnyT_ready (rs := [7]) (by kernel_rfl) (by simp) ?_
          refine AllReadyT.cons (o := _) (fun _ => True) (fun _ => cond_at (by kernel_rfl)) (by kernel_rfl) hSh rfl (fun K hK => ?_) AllReadyT.nil
          refine step_pks wz.drew (by rfl) _ _ 49 (by rfl) w.heap.size 56 i0 _ 24 Tryz.underlying49 hi0 hz0 hz1 hz2 rfl (.slice RA 0 cA) 0 tA (by rfl) HrO.out RY LY ry lY HLY.out HRn2.out (by rfl) HR5.out (by unfold maxLen; omega) (by omega) HW7.out.drew.hb.size ?_
          intro v7 y6 hr6 hg6 hat6
          rw [← Ha.out, ← HLY.out] at hr6
          obtain ⟨R6, q6, hv7⟩ := own_slice hr6
          subst hv7
          have HN6 := Lib.hid (HW7.out.drew.growA (l := lY) hg6 hr6 hat6)
          have HG6 := Lib.hid hg6
          clear hr6 hg6 hat6
          have hd6 := HN6.out.2
          have c3 := hd6.at_ 2
          have f3 := hd6.frozen 2
          clear hd6
          clear hSh
          refine hK.out _ _ trivial (fun _ hSh => ?_)
          clear hK K
          try simp only [getElem_toArray, getElem_cons_succ, getElem_cons_zero, Act.put, setIfInBounds_toArray, set_cons_zero, set_cons_succ]
          refine wpAnyT_take (i := 8) (n := 80) (v := ?vv8_40) (fun _ => True) rfl (by kernel_rfl) (by kernel_rfl) (by kernel_rfl) (fun _ _ _ h => h) ⟨by decide, .inl ⟨by kernel_rfl, rfl⟩⟩ hSh (Or.inl ⟨by rfl, ?yy8_40⟩) (by assumption) ?rr8_40
          case yy8_40 => (intro w hSw; (skip); (try simp only [getElem_toArray, getElem_cons_succ, getElem_cons_zero, Act.put, setIfInBounds_toArray, set_cons_zero, set_cons_succ]); go_simp; (try (with_reducible rfl)))
          clear hSh; intro hSh
          try simp only [getElem_toArray, getElem_cons_succ, getElem_cons_zero, Act.put, setIfInBounds_toArray, set_cons_zero, set_cons_succ]
          refine wpAnyT_take (i := 9) (n := 80) (v := ?vv9_41) (fun _ => True) rfl (by kernel_rfl) (by kernel_rfl) (by kernel_rfl) (fun _ _ _ h => h) ⟨by decide, .inl ⟨by kernel_rfl, rfl⟩⟩ hSh (Or.inl ⟨by rfl, ?yy9_41⟩) (by assumption) ?rr9_41
          case yy9_41 => (intro w hSw; (skip); (try simp only [getElem_toArray, getElem_cons_succ, getElem_cons_zero, Act.put, setIfInBounds_toArray, set_cons_zero, set_cons_succ]); go_simp; (try (with_reducible rfl)))
          clear hSh; intro hSh
          try simp only [getElem_toArray, getElem_cons_succ, getElem_cons_zero, Act.put, setIfInBounds_toArray, set_cons_zero, set_cons_succ]
          refine wpAnyT_ready (rs := [10]) (by kernel_rfl) (by simp) ?_
          refine AllReadyT.cons (o := _) (fun _ => True) (fun _ => cond_at (by kernel_rfl)) (by kernel_rfl) hSh rfl (fun K hK => ?_) AllReadyT.nil
          try simp only [getElem_toArray, getElem_cons_succ, getElem_cons_zero, Act.put, setIfInBounds_toArray, set_cons_zero, set_cons_succ]
          go_simp
          clear hSh
          refine hK.out _ _ trivial (fun _ hSh => ?_)
          clear hK K
          try simp only [getElem_toArray, getElem_cons_succ, getElem_cons_zero, Act.put, setIfInBounds_toArray, set_cons_zero, set_cons_succ]
          refine wpAnyT_done (by kernel_rfl) ?_ _
          clear hSh
          have h9 := HN6.out.1
          rw [HTA.out, HTB.out] at h9
          have H9 := Lib.hid h9
          clear h9
          go_wp2
          go_roundw
          case rel => exact ⟨1 + 1, by decide, by first | rfl | go_num, ⟨_, _, H9.out⟩⟩
          case measure => simp [intOf]
        · refine step_pks wz.drew (by rfl) _ _ 49 (by rfl) w.heap.size 56 i0 _ 24 Tryz.underlying49 hi0 hz0 hz1 hz2 rfl (.slice RA 0 cA) 0 tA (by rfl) HrO.out RY LY ry lY HLY.out HRn2.out (by rfl) HR5.out (by unfold maxLen; omega) (by omega) HW7.out.drew.hb.size ?_
          intro v7 y6 hr6 hg6 hat6
          rw [← Ha.out, ← HLY.out] at hr6
          obtain ⟨R6, q6, hv7⟩ := own_slice hr6
          subst hv7
          have HN6 := Lib.hid (HW7.out.drew.growA (l := lY) hg6 hr6 hat6)
          have HG6 := Lib.hid hg6
          clear hr6 hg6 hat6
          have hd6 := HN6.out.2
          have c3 := hd6.at_ 2
          have f3 := hd6.frozen 2
          clear hd6
          clear hSh
          refine hK.out _ _ trivial (fun _ hSh => ?_)
          clear hK K
          try simp only [getElem_toArray, getElem_cons_succ, getElem_cons_zero, Act.put, setIfInBounds_toArray, set_cons_zero, set_cons_succ]
          refine wpAnyT_take (i := 0) (n := 80) (v := ?vv0_42) (fun _ => True) rfl (by kernel_rfl) (by kernel_rfl) (by kernel_rfl) (fun _ _ _ h => h) ⟨by decide, .inl ⟨by kernel_rfl, rfl⟩⟩ hSh (Or.inl ⟨by rfl, ?yy0_42⟩) (by assumption) ?rr0_42
          case yy0_42 => (intro w hSw; (skip); (try simp only [getElem_toArray, getElem_cons_succ, getElem_cons_zero, Act.put, setIfInBounds_toArray, set_cons_zero, set_cons_succ]); go_simp; (try (with_reducible rfl)))
          clear hSh; intro hSh
          try simp only [getElem_toArray, getElem_cons_succ, getElem_cons_zero, Act.put, setIfInBounds_toArray, set_cons_zero, set_cons_succ]
          refine wpAnyT_take (i := 8) (n := 80) (v := ?vv8_43) (fun _ => True) rfl (by kernel_rfl) (by kernel_rfl) (by kernel_rfl) (fun _ _ _ h => h) ⟨by decide, .inl ⟨by kernel_rfl, rfl⟩⟩ hSh (Or.inl ⟨by rfl, ?yy8_43⟩) (by assumption) ?rr8_43
          case yy8_43 => (intro w hSw; (skip); (try simp only [getElem_toArray, getElem_cons_succ, getElem_cons_zero, Act.put, setIfInBounds_toArray, set_cons_zero, set_cons_succ]); go_simp; (try (with_reducible rfl)))
          clear hSh; intro hSh
          try simp only [getElem_toArray, getElem_cons_succ, getElem_cons_zero, Act.put, setIfInBounds_toArray, set_cons_zero, set_cons_succ]
          refine wpAnyT_take (i := 9) (n := 80) (v := ?vv9_44) (fun _ => True) rfl (by kernel_rfl) (by kernel_rfl) (by kernel_rfl) (fun _ _ _ h => h) ⟨by decide, .inl ⟨by kernel_rfl, rfl⟩⟩ hSh (Or.inl ⟨by rfl, ?yy9_44⟩) (by assumption) ?rr9_44
          case yy9_44 => (intro w hSw; (skip); (try simp only [getElem_toArray, getElem_cons_succ, getElem_cons_zero, Act.put, setIfInBounds_toArray, set_cons_zero, set_cons_succ]); go_simp; (try (with_reducible rfl)))
          clear hSh; intro hSh
          try simp only [getElem_toArray, getElem_cons_succ, getElem_cons_zero, Act.put, setIfInBounds_toArray, set_cons_zero, set_cons_succ]
          refine wpAnyT_ready (rs := [10]) (by kernel_rfl) (by simp) ?_
          refine AllReadyT.cons (o := _) (fun _ => True) (fun _ => cond_at (by kernel_rfl)) (by kernel_rfl) hSh rfl (fun K hK => ?_) AllReadyT.nil
          try simp only [getElem_toArray, getElem_cons_succ, getElem_cons_zero, Act.put, setIfInBounds_toArray, set_cons_zero, set_cons_succ]
          go_simp
          clear hSh
          refine hK.out _ _ trivial (fun _ hSh => ?_)
          clear hK K
          try simp only [getElem_toArray, getElem_cons_succ, getElem_cons_zero, Act.put, setIfInBounds_toArray, set_cons_zero, set_cons_succ]
          refine wpAnyT_done (by kernel_rfl) ?_ _
          clear hSh
          have h9 := HN6.out.1
          rw [HTA.out, HTB.out] at h9
          have H9 := Lib.hid h9
          clear h9
          go_wp2
          go_roundw
          case rel => exact ⟨1 + 1, by decide, by first | rfl | go_num, ⟨_, _, H9.out⟩⟩
          case measure => simp [intOf]
    · obtain rfl : k = 2 := by omega
      go_wp2
      go_ret
      exact ⟨gw, vA, vB, rfl, HW.out.wi⟩
end Go.Proofs.YtpppggicihfbgaaGreat.Neg
