/- Contracts of ipcpopt's Text, of the document's, and of the document's Read. -/
import Derived.Test.YtlbnbbpokphgbaaDoorIpcG
import Derived.Test.YtlbnbbpokphgbaaDoorBlk
import Derived.Test.YtlbnbbpokphgbaaDoorPut32
import Derived.Test.YtlbnbbpokphgbaaDoorTxt
import Derived.OwnWalk
import Derived.Maps.AppendAt
import Derived.RangeFuncBox
namespace Go.Proofs.YtlbnbbpokphgbaaDoor.Ipc
open Go.RowKit Go.Proofs.YtlbnbbpokphgbaaDoor.Oct Go.Proofs.YtlbnbbpokphgbaaDoor.Row Go.Proofs.YtlbnbbpokphgbaaDoor.Mem

theorem Tryd.info9s : (Tryd.prog.info? 9).map (fun i => (i.zero, i.size, i.bytes)) = some (some (.string ByteArray.empty), 1, 16) := by kernel_rfl
/-- The words of bytes. -/
def wds (bs : List UInt8) : List ByteArray := bs.map fun b => bOf (dec b)
theorem wds_join (bs : List UInt8) : Lib.join ((wds bs).map (·.data.toList)) [46] = txtL bs := by
  unfold wds txtL
  rw [List.map_map]
  rfl
/-- What stands while the bytes are gone over. -/
def Txs (w wr : World) (g k : Nat) (bs : List UInt8) (v : Value) : Prop := Reads wr g bs ∧ w.heap.size ≤ g ∧ wr.ownsRow (g + 1) 9 1 v k (textsV (wds (bs.take k))) ∧ Below w.heap.size w wr
theorem wds_snoc {bs : List UInt8} {k : Nat} (h : k < bs.length) : wds (bs.take (k + 1)) = wds (bs.take k) ++ [bOf (dec bs[k])] := by
  unfold wds
  rw [List.take_succ_eq_append_getElem h, List.map_append]
  rfl
theorem textsV_snoc (l : List ByteArray) (t : ByteArray) : textsV (l ++ [t]) = textsV l ++ [.string t] := by unfold textsV; rw [List.map_append]; rfl
theorem texts_at {w : World} {base g n cap : Nat} {e : TypeId} {l : List ByteArray} (h : w.ownsRow base e 1 (.slice (some ⟨g, 0, none⟩) n cap) n (textsV l)) : (∀ (j : Nat) x, l[j]? = some x → w.cell? ⟨g, 0 + j, none⟩ = some (.string x)) ∧ g < w.heap.size ∧ n ≤ cap ∧ l.length = n := by
  have hl : l.length = n := by have := h.1; simpa [textsV] using this
  rcases h.2 with ⟨h0, _⟩ | ⟨g', c', cur, e', hg, hh, hr⟩
  · cases h0
  · cases e'
    refine ⟨fun j x hx => ?_, (Array.getElem?_eq_some_iff.1 hh).1, by have := hr.1; omega, hl⟩
    have := h.cells (g := g) rfl j (.string x) (by unfold textsV; rw [List.getElem?_map, hx]; rfl)
    rw [add_zero_at] at this
    exact this
set_option maxHeartbeats 4000000 in
set_option maxRecDepth 100000 in
theorem text_any (v : UInt32) (w : World) {B : Nat} (hG : Glb B w) : Calls Tryd.prog 19 #[.int .u32 v.toNat] w fun e w' => e = .returned (.string (txt v)) ∧ Below w.heap.size w w' := by
  obtain ⟨i0, hi, hz0, hz1, hz2⟩ := info_parts Tryd.info9s
  have hl := numS_length v.toNat 4
  have HV : Hid (txt v = bOf (txtL (numS v.toNat 4))) := rfl
  rw [HV.out]
  have C1 := Lib.hid (fun W => put32_any v.toNat W (by have := v.toNat_lt; omega))
  have HT15 : Hid ((txtL (numS v.toNat 4)).length ≤ 15) := by have := size_txt v; unfold txt at this; rw [size_bOf] at this; exact this
  have HG := Lib.hid hG; clear hG HV
  generalize numS v.toNat 4 = bs at *
  have hbz : (bOf bs).size = 4 := by rw [size_bOf, hl]
  have HL := Lib.hid hl
  have hcv := fun w s => run_bytes_of_string (P := Tryd.prog) w 9 63 5 s Tryd.underlying9 Tryd.underlying63 Tryd.underlying5
  go_enter Tryd.func19, Tryd.ntmps19
  go_wp2_with fail
  refine (C1.out _).mono ?_
  rintro e w1 ⟨rfl, hb1⟩
  have HB1 := Lib.hid hb1; clear hb1 C1
  have hY := reads_made w1 (bOf bs) 5 (grownCap w1 4 0 5)
  rw [toList_bOf] at hY
  have HX : Hid (Txs w (w1.alloc (.cells (bytesRow (bOf bs) (grownCap w1 4 0 5)) 5 ((bytesRow (bOf bs) (grownCap w1 4 0 5)).size, (bytesRow (bOf bs) (grownCap w1 4 0 5)).size + 1))).drew w1.heap.size 0 bs (.slice none 0 0)) := ⟨hY, HB1.out.size, World.ownsRow_nil _ _ _ _, (HB1.out.alloc HB1.out.size _).drew⟩
  clear hY
  go_wp2
  clear hcv hbz
  generalize (w1.alloc (.cells (bytesRow (bOf bs) (grownCap w1 4 0 5)) 5 ((bytesRow (bOf bs) (grownCap w1 4 0 5)).size, (bytesRow (bOf bs) (grownCap w1 4 0 5)).size + 1))).drew = W1 at *
  generalize grownCap w1 4 0 5 = cap at *
  generalize w1.heap.size = g at *
  go_loopw [3, 10] (fun v i wr => ∃ k : Nat, k ≤ 4 ∧ i = .int .i64 k ∧ Hid (Txs w wr g k bs v)) (fun _ i _ => 4 - (intOf i).toNat)
  case atStart => exact ⟨0, Nat.zero_le _, rfl, HX⟩
  case round =>
    obtain ⟨k, hk, rfl, HR⟩ := hrel
    by_cases hlt : k < 4
    · have hl1 : (k : Int) < 4 := by omega
      have hl2 : ¬ (4 : Int) ≤ k := by omega
      have hkl : k < bs.length := by rw [HL.out]; exact hlt
      have c0 : wr.cell? ⟨g, k, none⟩ = some (.int .u8 (bs[k].toNat : Int)) := HR.out.1.2 k hkl
      have c1 : wr.cell? ((⟨g, 0, none⟩ : Addr).add k) = some (.int .u8 (bs[k].toNat : Int)) := by rw [add_zero_at, Nat.zero_add]; exact c0
      have HGr := Lib.hid (HG.out.callee HR.out.2.2.2)
      have C := Lib.hid (fun W hW => itoa_any bs[k].toNat W (B := B) hW (by have := bs[k].toNat_lt; omega))
      have HS := Lib.hid (wds_snoc hkl)
      have HZ := Lib.hid (dec_facts bs[k]).2.2
      have HD : Hid (Lib.decDigits bs[k].toNat = dec bs[k]) := rfl
      have hb8 : (bs[k].toNat : Int) ≤ 255 := by have := bs[k].toNat_lt; omega
      rw [HD.out] at C
      generalize bs[k].toNat = b at *
      generalize hdt : dec bs[k] = d at *
      clear hdt
      go_wp2_with fail
      refine (C.out _ HGr.out).mono ?_
      rintro e w2 ⟨rfl, hb2⟩
      have HR2 : Hid (Txs w w2 g k bs u3) := ⟨HR.out.1.callee hb2, HR.out.2.1, (Moves.of_below (S := fun _ => False) hb2).row HR.out.2.2.1 (fun _ _ x => x), HR.out.2.2.2.trans (hb2.mono HR.out.2.2.2.size)⟩
      have HO := Lib.hid HR2.out.2.2.1
      have hgl : g < w2.heap.size := HR2.out.1.1
      have hz : (bOf d).size ≤ 3 := by rw [size_bOf]; exact HZ.out
      generalize bOf d = t at *
      clear hb2 C HR HGr c0 c1
      go_wp2_with (at_builtin; refine wpList_append_own _ rfl _ _ 65 rfl (g + 1) 9 i0 (.string ByteArray.empty) 1 16 Tryd.underlying65 hi hz0 hz1 hz2 rfl (by decide) u3 k (textsV (wds (bs.take k))) rfl (HO.out.alloc _) ⟨w2.heap.size, 0, none⟩ 1 1 [.string t] rfl rfl (cell_one_new _ _ _) (fun x hx => by simp at hx; subst hx; rfl) (by unfold maxLen; omega) (by omega) (by simp; omega) ?_; intro v3 w3 hown3 hgr3 _; have Hown3 := Lib.hid hown3; clear hown3; have Hgr3 := Lib.hid hgr3; clear hgr3)
      have HR3 : Hid (Txs w w3 g (k + 1) bs v3) := by
        have hbb : Below (g + 1) w2 w3 := ((Below.refl (g + 1) w2).alloc (by omega) _).grown Hgr3.out (by simp; omega) (fun q hq => (HO.out.lt q hq).1)
        refine ⟨⟨Nat.lt_of_lt_of_le hgl hbb.size, fun j hj => (hbb.cell (p := ⟨g, j, none⟩) (Nat.lt_succ_self _)).trans (HR2.out.1.2 j hj)⟩, HR2.out.2.1, ?_, HR2.out.2.2.2.trans (hbb.mono (Nat.le_succ_of_le HR2.out.2.1))⟩
        rw [HS.out, textsV_snoc]
        exact Hown3.out
      go_roundw
      case rel => exact ⟨k + 1, by omega, by go_num, HR3⟩
      case measure => simp [intOf]; omega
    · have HK : Hid (k = 4) := by show k = 4; omega
      have hl1 : ¬ (k : Int) < 4 := by omega
      have hl2 : (4 : Int) ≤ k := by omega
      have ht : bs.take k = bs := List.take_of_length_le (by rw [HL.out]; omega)
      have HB := Lib.hid HR.out.2.2.2
      have hown := HR.out.2.2.1
      rw [ht, HK.out] at hown
      obtain ⟨g5, cap5, e5⟩ := ownsRow_succ (k := 3) hown
      rw [e5] at hown
      obtain ⟨hc, hg5, hcp, hln⟩ := texts_at hown
      have C := Lib.hid (join_dot g5 cap5 (wds bs) wr hc hg5 (by omega) (by omega) (by
        rw [wds_join]
        exact Nat.le_trans HT15.out (by omega)))
      rw [wds_join, hln] at C
      clear hc hg5 hcp hln hown ht
      subst e5
      go_wp2_with fail
      refine C.out.mono ?_
      rintro e w5 ⟨rfl, hb5⟩
      have HB5 := Lib.hid (HB.out.trans (hb5.mono HB.out.size))
      clear hb5 C
      go_wp2
      go_ret
      exact ⟨rfl, HB5.out⟩
/-- What the document has told behind k words. -/
def dpre (bs : List UInt8) (k : Nat) : List UInt8 := if k < 4 then ((bs.take k).map fun b => dec b ++ [46]).flatten else txtL bs
theorem dpre_size (b0 b1 b2 b3 : UInt8) (k : Nat) (h : k < 4) : (dpre [b0, b1, b2, b3] k).length ≤ 12 := by
  have h0 := (dec_facts b0).2.2
  have h1 := (dec_facts b1).2.2
  have h2 := (dec_facts b2).2.2
  rcases (show k = 0 ∨ k = 1 ∨ k = 2 ∨ k = 3 by omega) with rfl | rfl | rfl | rfl <;> simp [dpre] <;> omega
theorem dpre_next (b0 b1 b2 b3 : UInt8) :
    bOf (dpre [b0, b1, b2, b3] 0) ++ bOf (dec b0) ++ (⟨#[46]⟩ : ByteArray) = bOf (dpre [b0, b1, b2, b3] 1) ∧ bOf (dpre [b0, b1, b2, b3] 1) ++ bOf (dec b1) ++ (⟨#[46]⟩ : ByteArray) = bOf (dpre [b0, b1, b2, b3] 2) ∧
    bOf (dpre [b0, b1, b2, b3] 2) ++ bOf (dec b2) ++ (⟨#[46]⟩ : ByteArray) = bOf (dpre [b0, b1, b2, b3] 3) ∧ bOf (dpre [b0, b1, b2, b3] 3) ++ bOf (dec b3) = bOf (dpre [b0, b1, b2, b3] 4) := by
  have e : (⟨#[46]⟩ : ByteArray) = bOf [46] := rfl
  rw [e]
  simp only [append_bOf, toList_bOf]
  refine ⟨by simp [dpre], by simp [dpre], by simp [dpre], ?_⟩
  congr 1
  show ((([b0, b1, b2, b3].take 3).map fun b => dec b ++ [46]).flatten) ++ dec b3 = txtL [b0, b1, b2, b3]
  rw [txtL_cons, txtL_cons, txtL_cons, txtL_one]
  simp
set_option maxHeartbeats 4000000 in
set_option maxRecDepth 100000 in
theorem rtext_any (v : UInt32) (w : World) {B : Nat} (hG : Glb B w) : Calls Tryd.prog 20 #[.int .u32 v.toNat] w fun e w' => e = .returned (.string (txt v)) ∧ Below w.heap.size w w' := by
  have hv := v.toNat_lt
  obtain ⟨b0, b1, b2, b3, hbs, e0, e1, e2, e3⟩ : ∃ b0 b1 b2 b3 : UInt8, numS v.toNat 4 = [b0, b1, b2, b3] ∧ b0.toNat = v.toNat / 16777216 % 256 ∧ b1.toNat = v.toNat / 65536 % 256 ∧ b2.toNat = v.toNat / 256 % 256 ∧ b3.toNat = v.toNat % 256 :=
    ⟨_, _, _, _, numS_four _, by rw [UInt8.toNat_ofNat']; omega, by rw [UInt8.toNat_ofNat']; omega, by rw [UInt8.toNat_ofNat']; omega, by rw [UInt8.toNat_ofNat']; omega⟩
  have HV : Hid (txt v = bOf (dpre [b0, b1, b2, b3] 4)) := by show bOf (txtL (numS v.toNat 4)) = _; rw [hbs]; rfl
  rw [HV.out]
  have hv1 : (0 : Int) ≤ v.toNat := by omega
  have hv2 : (v.toNat : Int) ≤ 4294967295 := by omega
  have HE := Lib.hid (And.intro e0 (And.intro e1 (And.intro e2 e3)))
  clear HV hbs e0 e1 e2 e3 hv
  generalize v.toNat = n at *
  have HG := Lib.hid hG; clear hG
  go_enter Tryd.func20, Tryd.ntmps20
  go_wp2
  go_loopw [3, 4] (fun s i wr => ∃ k : Nat, k ≤ 4 ∧ i = .int .i64 (3 - (k : Int)) ∧ s = .string (bOf (dpre [b0, b1, b2, b3] k)) ∧ Hid (Below w.heap.size w wr)) (fun _ i _ => (intOf i + 1).toNat)
  case atStart => exact ⟨0, Nat.zero_le _, rfl, rfl, Below.refl _ _⟩
  case round =>
    obtain ⟨k, hk, rfl, rfl, HB⟩ := hrel
    have HGr := Lib.hid (HG.out.callee HB.out)
    rcases (show k = 0 ∨ k = 1 ∨ k = 2 ∨ k = 3 ∨ k = 4 by omega) with rfl | rfl | rfl | rfl | rfl
    · have hN : ((n : Int) / 16777216 % 256) = ((b0.toNat : Nat) : Int) := by have := HE.out.1; omega
      have C : Hid (Calls Tryd.prog 30 #[.int .i64 ((n : Int) / 16777216 % 256)] wr fun e w' => e = .returned (.string (bOf (dec b0))) ∧ Below wr.heap.size wr w') := by
        show Calls _ _ _ _ _
        rw [hN]
        exact itoa_any b0.toNat wr HGr.out (by have := b0.toNat_lt; omega)
      have hzt : (bOf (dec b0)).size ≤ 3 := by rw [size_bOf]; exact (dec_facts b0).2.2
      have hzp : (bOf (dpre [b0, b1, b2, b3] 0)).size ≤ 12 := by rw [size_bOf]; exact dpre_size b0 b1 b2 b3 0 (by omega)
      have HJ := Lib.hid (dpre_next b0 b1 b2 b3).1
      clear hN
      generalize bOf (dpre [b0, b1, b2, b3] 0) = p at *
      generalize bOf (dec b0) = t at *
      go_wp2_with fail
      refine C.out.mono ?_
      rintro e w1 ⟨rfl, hb1⟩
      have HB1 := Lib.hid (HB.out.trans (hb1.mono HB.out.size))
      clear hb1 C
      go_wp2
      go_roundw
      case rel => exact ⟨1, by omega, by go_num, by rw [HJ.out], HB1⟩
      case measure => simp [intOf]
    · have hN : ((n : Int) / 65536 % 256) = ((b1.toNat : Nat) : Int) := by have := HE.out.2.1; omega
      have C : Hid (Calls Tryd.prog 30 #[.int .i64 ((n : Int) / 65536 % 256)] wr fun e w' => e = .returned (.string (bOf (dec b1))) ∧ Below wr.heap.size wr w') := by
        show Calls _ _ _ _ _
        rw [hN]
        exact itoa_any b1.toNat wr HGr.out (by have := b1.toNat_lt; omega)
      have hzt : (bOf (dec b1)).size ≤ 3 := by rw [size_bOf]; exact (dec_facts b1).2.2
      have hzp : (bOf (dpre [b0, b1, b2, b3] 1)).size ≤ 12 := by rw [size_bOf]; exact dpre_size b0 b1 b2 b3 1 (by omega)
      have HJ := Lib.hid (dpre_next b0 b1 b2 b3).2.1
      clear hN
      generalize bOf (dpre [b0, b1, b2, b3] 1) = p at *
      generalize bOf (dec b1) = t at *
      go_wp2_with fail
      refine C.out.mono ?_
      rintro e w1 ⟨rfl, hb1⟩
      have HB1 := Lib.hid (HB.out.trans (hb1.mono HB.out.size))
      clear hb1 C
      go_wp2
      go_roundw
      case rel => exact ⟨2, by omega, by go_num, by rw [HJ.out], HB1⟩
      case measure => simp [intOf]
    · have hN : ((n : Int) / 256 % 256) = ((b2.toNat : Nat) : Int) := by have := HE.out.2.2.1; omega
      have C : Hid (Calls Tryd.prog 30 #[.int .i64 ((n : Int) / 256 % 256)] wr fun e w' => e = .returned (.string (bOf (dec b2))) ∧ Below wr.heap.size wr w') := by
        show Calls _ _ _ _ _
        rw [hN]
        exact itoa_any b2.toNat wr HGr.out (by have := b2.toNat_lt; omega)
      have hzt : (bOf (dec b2)).size ≤ 3 := by rw [size_bOf]; exact (dec_facts b2).2.2
      have hzp : (bOf (dpre [b0, b1, b2, b3] 2)).size ≤ 12 := by rw [size_bOf]; exact dpre_size b0 b1 b2 b3 2 (by omega)
      have HJ := Lib.hid (dpre_next b0 b1 b2 b3).2.2.1
      clear hN
      generalize bOf (dpre [b0, b1, b2, b3] 2) = p at *
      generalize bOf (dec b2) = t at *
      go_wp2_with fail
      refine C.out.mono ?_
      rintro e w1 ⟨rfl, hb1⟩
      have HB1 := Lib.hid (HB.out.trans (hb1.mono HB.out.size))
      clear hb1 C
      go_wp2
      go_roundw
      case rel => exact ⟨3, by omega, by go_num, by rw [HJ.out], HB1⟩
      case measure => simp [intOf]
    · have hN : ((n : Int) % 256) = ((b3.toNat : Nat) : Int) := by have := HE.out.2.2.2; omega
      have C : Hid (Calls Tryd.prog 30 #[.int .i64 ((n : Int) % 256)] wr fun e w' => e = .returned (.string (bOf (dec b3))) ∧ Below wr.heap.size wr w') := by
        show Calls _ _ _ _ _
        rw [hN]
        exact itoa_any b3.toNat wr HGr.out (by have := b3.toNat_lt; omega)
      have hzt : (bOf (dec b3)).size ≤ 3 := by rw [size_bOf]; exact (dec_facts b3).2.2
      have hzp : (bOf (dpre [b0, b1, b2, b3] 3)).size ≤ 12 := by rw [size_bOf]; exact dpre_size b0 b1 b2 b3 3 (by omega)
      have HJ := Lib.hid (dpre_next b0 b1 b2 b3).2.2.2
      clear hN
      generalize bOf (dpre [b0, b1, b2, b3] 3) = p at *
      generalize bOf (dec b3) = t at *
      go_wp2_with fail
      refine C.out.mono ?_
      rintro e w1 ⟨rfl, hb1⟩
      have HB1 := Lib.hid (HB.out.trans (hb1.mono HB.out.size))
      clear hb1 C
      go_wp2
      go_roundw
      case rel => exact ⟨4, by omega, by go_num, by rw [HJ.out], HB1⟩
      case measure => simp [intOf]
    · go_wp2
      go_ret
      exact ⟨rfl, HB.out⟩
end Go.Proofs.YtlbnbbpokphgbaaDoor.Ipc
