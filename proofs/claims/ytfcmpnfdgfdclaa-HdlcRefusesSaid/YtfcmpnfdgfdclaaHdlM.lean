/- What comes of a frame that is aborted. -/
import Derived.Test.YtfcmpnfdgfdclaaHdlL
import Derived.Deep.RegionHeld3
namespace Go.Proofs.Ytfcmpnfdgfdclaa.Hdl
open Go.RowKit Go.Proofs.Ytfcmpnfdgfdclaa.Oct Go.Proofs.Ytfcmpnfdgfdclaa.Row Go.Proofs.Ytfcmpnfdgfdclaa.Esc Go.Proofs.Ytfcmpnfdgfdclaa.Fcs

theorem abort_one {r : St} (hb : r.begun = true) (hp : r.piece = []) (q : List UInt8) (hq : ∀ x ∈ q, x ≠ 126 ∧ mapped r.accm x = false) :
    feeds r (126 :: (q ++ [125, 126])) = (r.bump 1).ends ∧ outs r (126 :: (q ++ [125, 126])) = [] := by
  have e1 : r.ends = r := by
    cases r
    simp only at hb hp
    subst hb hp
    rfl
  have h1 := feeds_piece hb (q ++ [125]) (fun x hx => by
    rcases List.mem_append.1 hx with hx | hx
    · exact hq x hx
    · rw [List.mem_singleton.1 hx]; exact ⟨by decide, mapped_high (by decide)⟩)
  rw [feeds_cons, outs_cons, (feed_none hp).1, (feed_none hp).2, e1, List.nil_append, show q ++ [125, 126] = (q ++ [125]) ++ [126] by simp, feeds_snoc, outs_snoc, h1.1, h1.2, hp, List.nil_append, List.nil_append]
  have hne : ({ r with piece := q ++ [125] } : St).piece ≠ [] := by simp
  have hk : kind ({ r with piece := q ++ [125] } : St).most ({ r with piece := q ++ [125] } : St).piece = 1 := kind_abort (by simp)
  rw [feed_some hne, hk, gives_bad (by rw [hk]; omega), bump_ends, bump_ends]
  exact ⟨rfl, rfl⟩
/-- A frame that is aborted, and another one. -/
theorem abort_next {r : St} (hb : r.begun = true) (hp : r.piece = []) (hm : 2 ≤ r.most) (l : List UInt8) (k : Nat) (hk1 : 1 ≤ k) (hk2 : k ≤ (put r.accm (seal_ l)).length + 1) :
    feeds r (((126 :: (put r.accm (seal_ l) ++ [126])).take k ++ [125, 126]) ++ (126 :: (put r.accm (seal_ [111, 107]) ++ [126]))) = (((r.bump 1).ends).bump 0).ends ∧
    outs r (((126 :: (put r.accm (seal_ l) ++ [126])).take k ++ [125, 126]) ++ (126 :: (put r.accm (seal_ [111, 107]) ++ [126]))) = [bOf [111, 107]] := by
  have e : (126 :: (put r.accm (seal_ l) ++ [126])).take k ++ [125, 126] = 126 :: ((put r.accm (seal_ l)).take (k - 1) ++ [125, 126]) := by
    obtain ⟨j, rfl⟩ : ∃ j, k = j + 1 := ⟨k - 1, by omega⟩
    rw [List.take_succ_cons, List.take_append_of_le_length (by omega)]
    rfl
  have h1 := abort_one hb hp ((put r.accm (seal_ l)).take (k - 1)) (fun x hx => put_clean _ _ x (List.mem_of_mem_take hx))
  have ha : ((r.bump 1).ends).accm = r.accm := rfl
  have hm' : ((r.bump 1).ends).most = r.most := rfl
  have h2 := frame_whole (r := (r.bump 1).ends) rfl [111, 107]
  rw [ha, hm', if_neg (by simp; omega), if_neg (by simp), if_neg (by simp; omega), if_neg (by simp)] at h2
  rw [e, feeds_append, outs_append, h1.1, h1.2, h2.1, h2.2]
  exact ⟨rfl, rfl⟩
theorem toList_ok : (⟨#[111, 107]⟩ : ByteArray).toList = [111, 107] := toList_bOf [111, 107]
theorem abort_text (F G : ByteArray) (f g : List UInt8) (k : Nat) (hF : F.toList = f) (hG : G.toList = g) : ((F.extract 0 k ++ ⟨#[125, 126]⟩) ++ G).toList = (f.take k ++ [125, 126]) ++ g := by
  rw [show (⟨#[125, 126]⟩ : ByteArray) = bOf [125, 126] from rfl, append_bOf, append_bOf, extract_front]
  simp only [toList_bOf]
  rw [hF, hG]
end Go.Proofs.Ytfcmpnfdgfdclaa.Hdl
