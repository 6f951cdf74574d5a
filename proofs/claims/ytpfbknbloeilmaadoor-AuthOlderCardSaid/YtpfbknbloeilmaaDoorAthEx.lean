/- The chapter's examples, as mathematics. -/
import Derived.Test.YtpfbknbloeilmaaDoorGAthRun
import Derived.Test.YtpfbknbloeilmaaDoorAthV
namespace Go.Proofs.YtpfbknbloeilmaaDoor.Ath
open Go.RowKit Go.Proofs.YtpfbknbloeilmaaDoor.Oct Go.Proofs.YtpfbknbloeilmaaDoor.Row Go.Proofs.YtpfbknbloeilmaaDoor.Md5 Go.Proofs.YtpfbknbloeilmaaDoor.Mem

def tMe : ByteArray := ⟨#[109, 101]⟩
def tU : ByteArray := ⟨#[117]⟩
def tBad : ByteArray := ⟨#[98, 97, 100]⟩
def tGood : ByteArray := ⟨#[103, 111, 111, 100]⟩
def xP : Cf := ⟨1, 2, 3, 0⟩
def xC : Cf := ⟨2, 2, 3, 0⟩
theorem xP_may : mayC xP = true := by decide
theorem xC_may : mayC xC = true := by decide
theorem x0_may : mayC ⟨0, 0, 0, 0⟩ = false := by decide
def exS1 : Sv := { newS xP tMe with st := 1, clock := 3 * 2 }
def exS2 : Sv := { exS1 with bad := 1 }
theorem ex_start : startS (newS xP tMe) 1 = exS1 ∧ startO (newS xP tMe) 1 = no := startS_pap rfl tMe 1
theorem ex_bad : packS exS1 ⟨1, 1, joinS [tU, tBad]⟩ tGood true = exS2 ∧ packO exS1 ⟨1, 1, joinS [tU, tBad]⟩ tGood true = sends [⟨3, 1, bOf [0]⟩] := by
  obtain ⟨h1, h2, h3⟩ := pap_claims (s := exS1) rfl rfl (name := tU) (one := tBad) (by decide) (by decide) 1
  have h4 : well exS1 ⟨1, 1, joinS [tU, tBad]⟩ tGood = false := by rw [h3]; decide
  unfold packS packO
  rw [h1, h4]
  exact ⟨rfl, rfl⟩
theorem ex_good : (packO exS2 ⟨1, 2, joinS [tU, tGood]⟩ tGood true) = ⟨true, false, tU, [⟨2, 2, bOf [0]⟩]⟩ := by
  obtain ⟨h1, h2, h3⟩ := pap_claims (s := exS2) rfl rfl (name := tU) (one := tGood) (by decide) (by decide) 2
  have h4 : well exS2 ⟨1, 2, joinS [tU, tGood]⟩ tGood = true := by rw [h3]; decide
  unfold packO
  rw [h1, h4, h2]
  rfl
/-- A challenger, behind a few ticks. -/
def exT (id : UInt8) (sent clock : Int) : Sv := ⟨xC, tMe, 1, bOf [], valueD 1, id, true, sent, clock, 0, ⟨0, 0, bOf []⟩, ⟨0, 0, bOf []⟩⟩
theorem ex_chal : startS (newS xC tMe) 1 = exT 1 1 3 ∧ startO (newS xC tMe) 1 = sends [⟨1, 1, Chp.vn (valueD 1) tMe⟩] := by
  have hz := value_size 1
  obtain ⟨h1, h2⟩ := startS_chap (c := xC) rfl tMe 1
  rw [h1, h2, chalP_is (s := ofDraw (newS xC tMe) 1) (by show 1 ≤ (valueD 1).size; omega) (by show (valueD 1).size ≤ 255; omega) (by decide)]
  exact ⟨rfl, rfl⟩
theorem ex_t1 : tickS (exT 1 1 3) 2 = exT 1 1 2 ∧ tickO (exT 1 1 3) 2 = no := ⟨rfl, rfl⟩
theorem ex_t2 : tickS (exT 1 1 2) 2 = exT 1 1 1 ∧ tickO (exT 1 1 2) 2 = no := ⟨rfl, rfl⟩
theorem ex_t3 : tickS (exT 1 1 1) 2 = exT 2 2 3 ∧ tickO (exT 1 1 1) 2 = sends [⟨1, 2, Chp.vn (valueD 1) tMe⟩] := by
  have hz := value_size 1
  have h : chalP (exT 1 1 1) = ⟨1, 2, Chp.vn (valueD 1) tMe⟩ := chalP_is (s := exT 1 1 1) (by show 1 ≤ (valueD 1).size; omega) (by show (valueD 1).size ≤ 255; omega) (by decide)
  refine ⟨rfl, ?_⟩
  rw [← h]
  rfl
theorem ex_t4 : tickS (exT 2 2 3) 2 = exT 2 2 2 ∧ tickO (exT 2 2 3) 2 = no := ⟨rfl, rfl⟩
theorem ex_t5 : tickS (exT 2 2 2) 2 = exT 2 2 1 ∧ tickO (exT 2 2 2) 2 = no := ⟨rfl, rfl⟩
theorem ex_t6 : tickO (exT 2 2 1) 2 = fails [] := rfl
theorem ex_inv : Inv (newS xP tMe) ∧ Inv exS1 ∧ Inv exS2 ∧ Inv (newS xC tMe) ∧ Inv (exT 1 1 3) ∧ Inv (exT 1 1 2) ∧ Inv (exT 1 1 1) ∧ Inv (exT 2 2 3) ∧ Inv (exT 2 2 2) ∧ Inv (exT 2 2 1) := by
  have a0 := inv_new (own := tMe) xP_may (by decide)
  have a1 := inv_start a0 1
  rw [ex_start.1] at a1
  have a2 := inv_pack a1 ⟨1, 1, joinS [tU, tBad]⟩ tGood true
  rw [ex_bad.1] at a2
  have b0 := inv_new (own := tMe) xC_may (by decide)
  have b1 := inv_start b0 1
  rw [ex_chal.1] at b1
  have b2 := inv_tick b1 2
  rw [ex_t1.1] at b2
  have b3 := inv_tick b2 2
  rw [ex_t2.1] at b3
  have b4 := inv_tick b3 2
  rw [ex_t3.1] at b4
  have b5 := inv_tick b4 2
  rw [ex_t4.1] at b5
  have b6 := inv_tick b5 2
  rw [ex_t5.1] at b6
  exact ⟨a0, a1, a2, b0, b1, b2, b3, b4, b5, b6⟩
end Go.Proofs.YtpfbknbloeilmaaDoor.Ath
