/- PROVED: 'halyardlaw10.IpcpoptTells' returns true for every value, every row and every option, and leaves them as they were. Its row lists the library's variables that strconv reads (two errors, a table of powers of ten, two tables of math/bits) as they are laid; the card ties that to the program's text. No other condition. -/
import Derived.Test.YtlbnbbpokphgbaaDoorIpcQ
import Derived.Test.YtlbnbbpokphgbaaDoorIpcO
import Derived.Test.YtlbnbbpokphgbaaDoorIpcK
import Derived.Test.YtlbnbbpokphgbaaDoorLaw
import Derived.Test.YtlbnbbpokphgbaaDoorRows
import Derived.Test.YtlbnbbpokphgbaaDoorTie
import Derived.Test.YtlbnbbpokphgbaaDoorCards
import Derived.SizedLaws
import Derived.HandedShaped
import Derived.Test.YtlbnbbpokphgbaaDoorIpcU
namespace Go.Proofs.YtlbnbbpokphgbaaDoor.IpcpoptTells
open Go.ChangeShapes Go.WideShapes Go.ChangeAt Go.RowKit Go.Proofs.YtlbnbbpokphgbaaDoor.Oct Go.Proofs.YtlbnbbpokphgbaaDoor.Row Go.Proofs.YtlbnbbpokphgbaaDoor.Mem Go.Proofs.YtlbnbbpokphgbaaDoor.Opt Go.Proofs.YtlbnbbpokphgbaaDoor.Ipc Go.Proofs.YtlbnbbpokphgbaaDoor.Law
open Go.ChangeMaps (open_string shut_string)

set_option maxHeartbeats 4000000 in
set_option maxRecDepth 100000 in
theorem walk (x : Ipc) (A : Option Addr) (n c : Nat) (l : List Opt) (t : UInt8) (d : ByteArray) (hn : n ≤ maxLen) (hA : A = none → c = 0) (hdm : d.size ≤ maxLen) (w : World) (hl : Opts w w.heap.size A n l) {B : Nat} (hG : Glb B w) :
    Calls Tryd.prog 3 #[.agg (lv x).toArray, .slice A n c, .agg #[.int .u8 t.toNat, .string d]] w fun e w' => e = .returned (.bool true) ∧ Below w.heap.size w w' := by
  show Calls Tryd.prog 3 #[.agg #[Value.bool x.ha, .int .u32 x.addr.toNat, .bool x.h1, .int .u32 x.dns1.toNat, .bool x.h2, .int .u32 x.dns2.toNat], .slice A n c, .agg #[.int .u8 t.toNat, .string d]] w fun e w' => e = .returned (.bool true) ∧ Below w.heap.size w w'
  obtain ⟨i0, hi, hz0, hz1, hz2⟩ := info_parts Tryd.info27
  obtain ⟨W, hW, HW⟩ := boxLO w x t d
  have HX := Lib.hid HW.out.1
  have HO := Lib.hid HW.out.2.1
  have HH := Lib.hid HW.out.2.2
  have HG := Lib.hid (hG.callee HW.out.2.2)
  have HL := Lib.hid (hl.next HW.out.2.2)
  have HAA := Lib.hid hA
  have Hll := Lib.hid hl.1
  have HDM := Lib.hid hdm
  clear hl hA hdm HW hG
  go_enter Tryd.func3, Tryd.ntmps3
  go_wp2_with fail
  refine (long_row l A n c _ HL.out hn).mono ?_
  rintro e w' ⟨b, rfl, hq1, rfl⟩
  clear hW
  have o0 := HO.out.c0
  have o1 := HO.out.c1
  simp only at o0 o1
  cases b
  case true =>
    clear hq1
    go_wp2_with fail
    refine (alive_any _ HG.out).mono ?_
    rintro e w1 ⟨rfl, hb1⟩
    have HG := Lib.hid (HG.out.callee hb1)
    have HH := Lib.hid (HH.out.trans (hb1.mono HH.out.size))
    clear hb1
    go_wp2
    go_ret
    exact ⟨rfl, HH.out⟩
  case false =>
    obtain ⟨hn70, hd⟩ := hq1 rfl
    clear hq1 hd
    by_cases h1000 : 1000 < d.size
    · have hx0 : (1000 : Int) < (d.size : Int) := by omega
      go_wp2_with fail
      refine (alive_any _ HG.out).mono ?_
      rintro e w1 ⟨rfl, hb1⟩
      have HG := Lib.hid (HG.out.callee hb1)
      have HH := Lib.hid (HH.out.trans (hb1.mono HH.out.size))
      clear hb1
      go_wp2
      go_ret
      exact ⟨rfl, HH.out⟩
    · have hx0 : ¬ (1000 : Int) < (d.size : Int) := by omega
      have Hn1 := Lib.hid (show n ≤ 1001 by omega)
      have HD1 := Lib.hid h1000
      have p0 : W.cell? ⟨w.heap.size, 0, none⟩ = some (Value.bool x.ha) := HX.out.c 0
      have p1 : W.cell? ⟨w.heap.size, 1, none⟩ = some (.int .u32 x.addr.toNat) := HX.out.c 1
      have p2 : W.cell? ⟨w.heap.size, 2, none⟩ = some (.bool x.h1) := HX.out.c 2
      have p3 : W.cell? ⟨w.heap.size, 3, none⟩ = some (.int .u32 x.dns1.toNat) := HX.out.c 3
      have p4 : W.cell? ⟨w.heap.size, 4, none⟩ = some (.bool x.h2) := HX.out.c 4
      have p5 : W.cell? ⟨w.heap.size, 5, none⟩ = some (.int .u32 x.dns2.toNat) := HX.out.c 5
      have HPM : Hid ((may x = true ∧ pL x = put x ∧ pE x = 0) ∨ (may x = false ∧ pL x = [] ∧ pE x = 2)) := by
        cases hm : may x
        · exact .inr ⟨rfl, pL_no hm⟩
        · exact .inl ⟨rfl, pL_yes hm⟩
      have HPC := Lib.hid (put_c x)
      have HP3 := Lib.hid (pL_len x)
      unfold PutC at HPC
      generalize pL x = pl at *
      generalize pE x = pe at *
      go_wp2_with fail
      refine (HPC.out _).mono ?_
      rintro e w1 ⟨A1, c1, rfl, hO1, hb1⟩
      have HL := Lib.hid (HL.out.next hb1)
      have HO := Lib.hid (HO.out.callee hb1)
      have HX := Lib.hid (HX.out.callee hb1)
      have HG := Lib.hid (HG.out.callee hb1)
      have HH := Lib.hid (HH.out.trans (hb1.mono HH.out.size))
      clear hb1
      have HP := Lib.hid hO1
      clear hO1
      clear HPC
      clear p0 p1 p2 p3 p4 p5
      clear o0 o1
      have hsz := HH.out.size
      go_wp2_with (at_builtin; refine append_opts rfl _ _ 25 rfl w.heap.size 27 i0 _ 24 Tryd.underlying25 hi hz0 hz1 hz2 rfl (.slice none 0 0) 0 [] rfl (World.ownsRow_nil _ _ _ _) w1.heap.size A n c l HAA.out rfl HL.out (by unfold maxLen; omega) (by omega) hsz ?_; intro v1 w0 hown0 hgr0; rw [List.nil_append, Nat.zero_add] at hown0; obtain ⟨A0, c0, rfl, hO0⟩ := opts_own hown0 HL.out.2.1; have HB0 := Lib.hid ((Below.refl w1.heap.size w1).grown hgr0 (Nat.le_refl _) (fun q hq => by cases hq)); have HH0 := Lib.hid (HH.out.trans (HB0.out.mono hsz)); have HL0 := Lib.hid (HL.out.next HB0.out); have HX0 := Lib.hid (HX.out.callee HB0.out); have HG0 := Lib.hid (HG.out.callee HB0.out); have HO0 := Lib.hid (HO.out.callee HB0.out); have HP0 := Lib.hid (HP.out.next HB0.out); have HN0 := Lib.hid hO0; clear hown0 hgr0 hO0 HB0)
      clear HH HL HX HO HP HG hsz
      have HH := HH0
      have HL := HL0
      have HX := HX0
      have HO := HO0
      have HP := HP0
      have HN := HN0
      have HG := HG0
      clear HH0 HL0 HX0 HO0 HP0 HN0 HG0
      have G1 := Lib.hid (get_c l)
      have G2 := Lib.hid (rget_c l)
      have HGL := Lib.hid (show (gO l).length ≤ maxLen by have h1 := gO_len l; have h2 := Hll.out; unfold maxLen; omega)
      generalize gL l = y at *
      generalize gO l = odd at *
      generalize gE l = E at *
      go_wp2_with fail
      refine (G1.out A0 n c0 _ HN.out Hn1.out).mono ?_
      rintro e w2 ⟨A2, c2, rfl, hO2, hb2⟩
      have HL := Lib.hid (HL.out.next hb2)
      have HP := Lib.hid (HP.out.next hb2)
      have HN := Lib.hid (HN.out.next hb2)
      have HO := Lib.hid (HO.out.callee hb2)
      have HX := Lib.hid (HX.out.callee hb2)
      have HG := Lib.hid (HG.out.callee hb2)
      have HH := Lib.hid (HH.out.trans (hb2.mono HH.out.size))
      clear hb2
      have HU := Lib.hid hO2
      clear hO2
      have HL := Lib.hid (HL.out.laid (.cells #[Value.bool y.ha, .int .u32 y.addr.toNat, .bool y.h1, .int .u32 y.dns1.toNat, .bool y.h2, .int .u32 y.dns2.toNat] 24))
      have HP := Lib.hid (HP.out.laid (.cells #[Value.bool y.ha, .int .u32 y.addr.toNat, .bool y.h1, .int .u32 y.dns1.toNat, .bool y.h2, .int .u32 y.dns2.toNat] 24))
      have HN := Lib.hid (HN.out.laid (.cells #[Value.bool y.ha, .int .u32 y.addr.toNat, .bool y.h1, .int .u32 y.dns1.toNat, .bool y.h2, .int .u32 y.dns2.toNat] 24))
      have HU := Lib.hid (HU.out.laid (.cells #[Value.bool y.ha, .int .u32 y.addr.toNat, .bool y.h1, .int .u32 y.dns1.toNat, .bool y.h2, .int .u32 y.dns2.toNat] 24))
      have HO := Lib.hid (HO.out.alloc (.cells #[Value.bool y.ha, .int .u32 y.addr.toNat, .bool y.h1, .int .u32 y.dns1.toNat, .bool y.h2, .int .u32 y.dns2.toNat] 24))
      have HX := Lib.hid (HX.out.alloc (.cells #[Value.bool y.ha, .int .u32 y.addr.toNat, .bool y.h1, .int .u32 y.dns1.toNat, .bool y.h2, .int .u32 y.dns2.toNat] 24))
      have HG := Lib.hid (HG.out.callee ((Below.refl w2.heap.size w2).alloc (Nat.le_refl _) (.cells #[Value.bool y.ha, .int .u32 y.addr.toNat, .bool y.h1, .int .u32 y.dns1.toNat, .bool y.h2, .int .u32 y.dns2.toNat] 24)))
      have HY : Hid (LAt (w2.alloc (.cells #[Value.bool y.ha, .int .u32 y.addr.toNat, .bool y.h1, .int .u32 y.dns1.toNat, .bool y.h2, .int .u32 y.dns2.toNat] 24)) w2.heap.size y) := lat_new w2 y
      have HH := Lib.hid (HH.out.alloc HH.out.size (.cells #[Value.bool y.ha, .int .u32 y.addr.toNat, .bool y.h1, .int .u32 y.dns1.toNat, .bool y.h2, .int .u32 y.dns2.toNat] 24))
      go_wp2_with fail
      refine (G2.out A n c _ HL.out Hn1.out).mono ?_
      rintro e w3 ⟨A3, c3, rfl, hO3, hb3⟩
      have HL := Lib.hid (HL.out.next hb3)
      have HP := Lib.hid (HP.out.next hb3)
      have HN := Lib.hid (HN.out.next hb3)
      have HU := Lib.hid (HU.out.next hb3)
      have HO := Lib.hid (HO.out.callee hb3)
      have HX := Lib.hid (HX.out.callee hb3)
      have HY := Lib.hid (HY.out.callee hb3)
      have HG := Lib.hid (HG.out.callee hb3)
      have HH := Lib.hid (HH.out.trans (hb3.mono HH.out.size))
      clear hb3
      have HV := Lib.hid hO3
      clear hO3
      have HL := Lib.hid (HL.out.laid (.cells #[Value.bool y.ha, .int .u32 y.addr.toNat, .bool y.h1, .int .u32 y.dns1.toNat, .bool y.h2, .int .u32 y.dns2.toNat] 24))
      have HP := Lib.hid (HP.out.laid (.cells #[Value.bool y.ha, .int .u32 y.addr.toNat, .bool y.h1, .int .u32 y.dns1.toNat, .bool y.h2, .int .u32 y.dns2.toNat] 24))
      have HN := Lib.hid (HN.out.laid (.cells #[Value.bool y.ha, .int .u32 y.addr.toNat, .bool y.h1, .int .u32 y.dns1.toNat, .bool y.h2, .int .u32 y.dns2.toNat] 24))
      have HU := Lib.hid (HU.out.laid (.cells #[Value.bool y.ha, .int .u32 y.addr.toNat, .bool y.h1, .int .u32 y.dns1.toNat, .bool y.h2, .int .u32 y.dns2.toNat] 24))
      have HV := Lib.hid (HV.out.laid (.cells #[Value.bool y.ha, .int .u32 y.addr.toNat, .bool y.h1, .int .u32 y.dns1.toNat, .bool y.h2, .int .u32 y.dns2.toNat] 24))
      have HO := Lib.hid (HO.out.alloc (.cells #[Value.bool y.ha, .int .u32 y.addr.toNat, .bool y.h1, .int .u32 y.dns1.toNat, .bool y.h2, .int .u32 y.dns2.toNat] 24))
      have HX := Lib.hid (HX.out.alloc (.cells #[Value.bool y.ha, .int .u32 y.addr.toNat, .bool y.h1, .int .u32 y.dns1.toNat, .bool y.h2, .int .u32 y.dns2.toNat] 24))
      have HY := Lib.hid (HY.out.alloc (.cells #[Value.bool y.ha, .int .u32 y.addr.toNat, .bool y.h1, .int .u32 y.dns1.toNat, .bool y.h2, .int .u32 y.dns2.toNat] 24))
      have HG := Lib.hid (HG.out.callee ((Below.refl w3.heap.size w3).alloc (Nat.le_refl _) (.cells #[Value.bool y.ha, .int .u32 y.addr.toNat, .bool y.h1, .int .u32 y.dns1.toNat, .bool y.h2, .int .u32 y.dns2.toNat] 24)))
      have HZ : Hid (LAt (w3.alloc (.cells #[Value.bool y.ha, .int .u32 y.addr.toNat, .bool y.h1, .int .u32 y.dns1.toNat, .bool y.h2, .int .u32 y.dns2.toNat] 24)) w3.heap.size y) := lat_new w3 y
      have HH := Lib.hid (HH.out.alloc HH.out.size (.cells #[Value.bool y.ha, .int .u32 y.addr.toNat, .bool y.h1, .int .u32 y.dns1.toNat, .bool y.h2, .int .u32 y.dns2.toNat] 24))
      have C1 := Lib.hid (fun W => good_any t d W HDM.out)
      have C2 := Lib.hid (fun W => rgood_any t d W)
      generalize good (t, d) = gb at *
      have r0 : ∀ W, (Op.equalIn 10000 24 (.agg #[Value.bool y.ha, .int .u32 y.addr.toNat, .bool y.h1, .int .u32 y.dns1.toNat, .bool y.h2, .int .u32 y.dns2.toNat]) (.agg #[Value.bool y.ha, .int .u32 y.addr.toNat, .bool y.h1, .int .u32 y.dns1.toNat, .bool y.h2, .int .u32 y.dns2.toNat])).run Tryd.prog W = .ok true W := ipc_eq (decide_eq_true rfl)
      have r1 : ∀ W, (binOp .neq 24 (.agg #[Value.bool y.ha, .int .u32 y.addr.toNat, .bool y.h1, .int .u32 y.dns1.toNat, .bool y.h2, .int .u32 y.dns2.toNat]) (.agg #[Value.bool y.ha, .int .u32 y.addr.toNat, .bool y.h1, .int .u32 y.dns1.toNat, .bool y.h2, .int .u32 y.dns2.toNat])).run Tryd.prog W = .ok (.bool false) W := ipc_neq (decide_eq_true rfl)
      go_wp2
      obtain ⟨V, hV⟩ : ∃ V, (w3.alloc (.cells #[Value.bool y.ha, .int .u32 y.addr.toNat, .bool y.h1, .int .u32 y.dns1.toNat, .bool y.h2, .int .u32 y.dns2.toNat] 24)) = V := ⟨_, rfl⟩
      have ya0 : V.drew.cell? ⟨w2.heap.size, 0, none⟩ = some (Value.bool y.ha) := by rw [← hV]; exact HY.out.c 0
      have ya1 : V.drew.cell? ⟨w2.heap.size, 1, none⟩ = some (.int .u32 y.addr.toNat) := by rw [← hV]; exact HY.out.c 1
      have ya2 : V.drew.cell? ⟨w2.heap.size, 2, none⟩ = some (.bool y.h1) := by rw [← hV]; exact HY.out.c 2
      have ya3 : V.drew.cell? ⟨w2.heap.size, 3, none⟩ = some (.int .u32 y.dns1.toNat) := by rw [← hV]; exact HY.out.c 3
      have ya4 : V.drew.cell? ⟨w2.heap.size, 4, none⟩ = some (.bool y.h2) := by rw [← hV]; exact HY.out.c 4
      have ya5 : V.drew.cell? ⟨w2.heap.size, 5, none⟩ = some (.int .u32 y.dns2.toNat) := by rw [← hV]; exact HY.out.c 5
      have yb0 : V.drew.cell? ⟨w3.heap.size, 0, none⟩ = some (Value.bool y.ha) := by rw [← hV]; exact HZ.out.c 0
      have yb1 : V.drew.cell? ⟨w3.heap.size, 1, none⟩ = some (.int .u32 y.addr.toNat) := by rw [← hV]; exact HZ.out.c 1
      have yb2 : V.drew.cell? ⟨w3.heap.size, 2, none⟩ = some (.bool y.h1) := by rw [← hV]; exact HZ.out.c 2
      have yb3 : V.drew.cell? ⟨w3.heap.size, 3, none⟩ = some (.int .u32 y.dns1.toNat) := by rw [← hV]; exact HZ.out.c 3
      have yb4 : V.drew.cell? ⟨w3.heap.size, 4, none⟩ = some (.bool y.h2) := by rw [← hV]; exact HZ.out.c 4
      have yb5 : V.drew.cell? ⟨w3.heap.size, 5, none⟩ = some (.int .u32 y.dns2.toNat) := by rw [← hV]; exact HZ.out.c 5
      have o0 : V.drew.cell? ⟨w.heap.size + 1, 0, none⟩ = some (.int .u8 t.toNat) := by rw [← hV]; exact HO.out.c0
      have o1 : V.drew.cell? ⟨w.heap.size + 1, 1, none⟩ = some (.string d) := by rw [← hV]; exact HO.out.c1
      have HLv : Hid (Opts V.drew V.drew.heap.size A n l) := by rw [← hV]; exact HL.out
      have HNv : Hid (Opts V.drew V.drew.heap.size A0 n l) := by rw [← hV]; exact HN.out
      have HUv : Hid (Opts V.drew V.drew.heap.size A2 odd.length odd) := by rw [← hV]; exact HU.out
      have HVv : Hid (Opts V.drew V.drew.heap.size A3 odd.length odd) := by rw [← hV]; exact HV.out
      have HPv : Hid (Opts V.drew V.drew.heap.size A1 pl.length pl) := by rw [← hV]; exact HP.out
      have HXv : Hid (LAt V.drew w.heap.size x) := by rw [← hV]; exact HX.out
      have HHv : Hid (Below w.heap.size w V.drew) := by rw [← hV]; exact HH.out.drew
      have HGv : Hid (Glb B V.drew) := by rw [← hV]; exact HG.out.callee (Below.refl _ _).drew
      rw [hV]
      clear hV HL HN HU HV HP HX HO HH HY HZ HG G1 G2 HAA
      have HL := HLv
      have HN := HNv
      have HP := HPv
      have HX := HXv
      have HH := HHv
      have HG := HGv
      clear HLv HNv HPv HXv HHv HGv
      go_region_held3 (fun w' => w'.cell? ⟨w2.heap.size, 0, none⟩ = some (Value.bool y.ha) ∧ w'.cell? ⟨w2.heap.size, 1, none⟩ = some (.int .u32 y.addr.toNat) ∧ w'.cell? ⟨w2.heap.size, 2, none⟩ = some (.bool y.h1) ∧ w'.cell? ⟨w2.heap.size, 3, none⟩ = some (.int .u32 y.dns1.toNat) ∧ w'.cell? ⟨w2.heap.size, 4, none⟩ = some (.bool y.h2) ∧ w'.cell? ⟨w2.heap.size, 5, none⟩ = some (.int .u32 y.dns2.toNat) ∧ w'.cell? ⟨w3.heap.size, 0, none⟩ = some (Value.bool y.ha) ∧ w'.cell? ⟨w3.heap.size, 1, none⟩ = some (.int .u32 y.addr.toNat) ∧ w'.cell? ⟨w3.heap.size, 2, none⟩ = some (.bool y.h1) ∧ w'.cell? ⟨w3.heap.size, 3, none⟩ = some (.int .u32 y.dns1.toNat) ∧ w'.cell? ⟨w3.heap.size, 4, none⟩ = some (.bool y.h2) ∧ w'.cell? ⟨w3.heap.size, 5, none⟩ = some (.int .u32 y.dns2.toNat) ∧ w'.cell? ⟨w.heap.size + 1, 0, none⟩ = some (.int .u8 t.toNat) ∧ w'.cell? ⟨w.heap.size + 1, 1, none⟩ = some (.string d))
        (first | (with_reducible assumption) | (refine ⟨?_, ?_, ?_, ?_, ?_, ?_, ?_, ?_, ?_, ?_, ?_, ?_, ?_, ?_⟩ <;> with_reducible assumption) | (go_split_ands; refine ⟨?_, ?_, ?_, ?_, ?_, ?_, ?_, ?_, ?_, ?_, ?_, ?_, ?_, ?_⟩ <;> with_reducible assumption))
        (first
          | (go_at_call 12; (refine (same_self odd A2 A3 _ _ c2 c3 _ HUv.out HVv.out HGL.out HGL.out).mono ?_; rintro e w7 ⟨rfl, hb7⟩; replace ya0 := (hb7.cell (p := ⟨w2.heap.size, 0, none⟩) (World.block_lt_of_cell? _ _ ya0)).trans ya0; replace ya1 := (hb7.cell (p := ⟨w2.heap.size, 1, none⟩) (World.block_lt_of_cell? _ _ ya1)).trans ya1; replace ya2 := (hb7.cell (p := ⟨w2.heap.size, 2, none⟩) (World.block_lt_of_cell? _ _ ya2)).trans ya2; replace ya3 := (hb7.cell (p := ⟨w2.heap.size, 3, none⟩) (World.block_lt_of_cell? _ _ ya3)).trans ya3; replace ya4 := (hb7.cell (p := ⟨w2.heap.size, 4, none⟩) (World.block_lt_of_cell? _ _ ya4)).trans ya4; replace ya5 := (hb7.cell (p := ⟨w2.heap.size, 5, none⟩) (World.block_lt_of_cell? _ _ ya5)).trans ya5; replace yb0 := (hb7.cell (p := ⟨w3.heap.size, 0, none⟩) (World.block_lt_of_cell? _ _ yb0)).trans yb0; replace yb1 := (hb7.cell (p := ⟨w3.heap.size, 1, none⟩) (World.block_lt_of_cell? _ _ yb1)).trans yb1; replace yb2 := (hb7.cell (p := ⟨w3.heap.size, 2, none⟩) (World.block_lt_of_cell? _ _ yb2)).trans yb2; replace yb3 := (hb7.cell (p := ⟨w3.heap.size, 3, none⟩) (World.block_lt_of_cell? _ _ yb3)).trans yb3; replace yb4 := (hb7.cell (p := ⟨w3.heap.size, 4, none⟩) (World.block_lt_of_cell? _ _ yb4)).trans yb4; replace yb5 := (hb7.cell (p := ⟨w3.heap.size, 5, none⟩) (World.block_lt_of_cell? _ _ yb5)).trans yb5; replace o0 := (hb7.cell (p := ⟨w.heap.size + 1, 0, none⟩) (World.block_lt_of_cell? _ _ o0)).trans o0; replace o1 := (hb7.cell (p := ⟨w.heap.size + 1, 1, none⟩) (World.block_lt_of_cell? _ _ o1)).trans o1; replace HL := Lib.hid (HL.out.next hb7); replace HN := Lib.hid (HN.out.next hb7); replace HP := Lib.hid (HP.out.next hb7); replace HX := Lib.hid (HX.out.callee hb7); replace HG := Lib.hid (HG.out.callee hb7); replace HH := Lib.hid (HH.out.trans (hb7.mono HH.out.size)); clear HUv HVv))
          | (go_at_call 12; (refine (same_self l A0 A n n c0 c _ HN.out HL.out hn hn).mono ?_; rintro e w7 ⟨rfl, hb7⟩; replace ya0 := (hb7.cell (p := ⟨w2.heap.size, 0, none⟩) (World.block_lt_of_cell? _ _ ya0)).trans ya0; replace ya1 := (hb7.cell (p := ⟨w2.heap.size, 1, none⟩) (World.block_lt_of_cell? _ _ ya1)).trans ya1; replace ya2 := (hb7.cell (p := ⟨w2.heap.size, 2, none⟩) (World.block_lt_of_cell? _ _ ya2)).trans ya2; replace ya3 := (hb7.cell (p := ⟨w2.heap.size, 3, none⟩) (World.block_lt_of_cell? _ _ ya3)).trans ya3; replace ya4 := (hb7.cell (p := ⟨w2.heap.size, 4, none⟩) (World.block_lt_of_cell? _ _ ya4)).trans ya4; replace ya5 := (hb7.cell (p := ⟨w2.heap.size, 5, none⟩) (World.block_lt_of_cell? _ _ ya5)).trans ya5; replace yb0 := (hb7.cell (p := ⟨w3.heap.size, 0, none⟩) (World.block_lt_of_cell? _ _ yb0)).trans yb0; replace yb1 := (hb7.cell (p := ⟨w3.heap.size, 1, none⟩) (World.block_lt_of_cell? _ _ yb1)).trans yb1; replace yb2 := (hb7.cell (p := ⟨w3.heap.size, 2, none⟩) (World.block_lt_of_cell? _ _ yb2)).trans yb2; replace yb3 := (hb7.cell (p := ⟨w3.heap.size, 3, none⟩) (World.block_lt_of_cell? _ _ yb3)).trans yb3; replace yb4 := (hb7.cell (p := ⟨w3.heap.size, 4, none⟩) (World.block_lt_of_cell? _ _ yb4)).trans yb4; replace yb5 := (hb7.cell (p := ⟨w3.heap.size, 5, none⟩) (World.block_lt_of_cell? _ _ yb5)).trans yb5; replace o0 := (hb7.cell (p := ⟨w.heap.size + 1, 0, none⟩) (World.block_lt_of_cell? _ _ o0)).trans o0; replace o1 := (hb7.cell (p := ⟨w.heap.size + 1, 1, none⟩) (World.block_lt_of_cell? _ _ o1)).trans o1; replace HL := Lib.hid (HL.out.next hb7); replace HN := Lib.hid (HN.out.next hb7); replace HP := Lib.hid (HP.out.next hb7); replace HX := Lib.hid (HX.out.callee hb7); replace HG := Lib.hid (HG.out.callee hb7); replace HH := Lib.hid (HH.out.trans (hb7.mono HH.out.size))))
          | (go_at_call 13; (refine (C1.out _).mono ?_; rintro e w7 ⟨rfl, hb7⟩; replace ya0 := (hb7.cell (p := ⟨w2.heap.size, 0, none⟩) (World.block_lt_of_cell? _ _ ya0)).trans ya0; replace ya1 := (hb7.cell (p := ⟨w2.heap.size, 1, none⟩) (World.block_lt_of_cell? _ _ ya1)).trans ya1; replace ya2 := (hb7.cell (p := ⟨w2.heap.size, 2, none⟩) (World.block_lt_of_cell? _ _ ya2)).trans ya2; replace ya3 := (hb7.cell (p := ⟨w2.heap.size, 3, none⟩) (World.block_lt_of_cell? _ _ ya3)).trans ya3; replace ya4 := (hb7.cell (p := ⟨w2.heap.size, 4, none⟩) (World.block_lt_of_cell? _ _ ya4)).trans ya4; replace ya5 := (hb7.cell (p := ⟨w2.heap.size, 5, none⟩) (World.block_lt_of_cell? _ _ ya5)).trans ya5; replace yb0 := (hb7.cell (p := ⟨w3.heap.size, 0, none⟩) (World.block_lt_of_cell? _ _ yb0)).trans yb0; replace yb1 := (hb7.cell (p := ⟨w3.heap.size, 1, none⟩) (World.block_lt_of_cell? _ _ yb1)).trans yb1; replace yb2 := (hb7.cell (p := ⟨w3.heap.size, 2, none⟩) (World.block_lt_of_cell? _ _ yb2)).trans yb2; replace yb3 := (hb7.cell (p := ⟨w3.heap.size, 3, none⟩) (World.block_lt_of_cell? _ _ yb3)).trans yb3; replace yb4 := (hb7.cell (p := ⟨w3.heap.size, 4, none⟩) (World.block_lt_of_cell? _ _ yb4)).trans yb4; replace yb5 := (hb7.cell (p := ⟨w3.heap.size, 5, none⟩) (World.block_lt_of_cell? _ _ yb5)).trans yb5; replace o0 := (hb7.cell (p := ⟨w.heap.size + 1, 0, none⟩) (World.block_lt_of_cell? _ _ o0)).trans o0; replace o1 := (hb7.cell (p := ⟨w.heap.size + 1, 1, none⟩) (World.block_lt_of_cell? _ _ o1)).trans o1; replace HL := Lib.hid (HL.out.next hb7); replace HN := Lib.hid (HN.out.next hb7); replace HP := Lib.hid (HP.out.next hb7); replace HX := Lib.hid (HX.out.callee hb7); replace HG := Lib.hid (HG.out.callee hb7); replace HH := Lib.hid (HH.out.trans (hb7.mono HH.out.size))))
          | (go_at_call 14; (refine (C2.out _).mono ?_; rintro e w7 ⟨rfl, hb7⟩; replace ya0 := (hb7.cell (p := ⟨w2.heap.size, 0, none⟩) (World.block_lt_of_cell? _ _ ya0)).trans ya0; replace ya1 := (hb7.cell (p := ⟨w2.heap.size, 1, none⟩) (World.block_lt_of_cell? _ _ ya1)).trans ya1; replace ya2 := (hb7.cell (p := ⟨w2.heap.size, 2, none⟩) (World.block_lt_of_cell? _ _ ya2)).trans ya2; replace ya3 := (hb7.cell (p := ⟨w2.heap.size, 3, none⟩) (World.block_lt_of_cell? _ _ ya3)).trans ya3; replace ya4 := (hb7.cell (p := ⟨w2.heap.size, 4, none⟩) (World.block_lt_of_cell? _ _ ya4)).trans ya4; replace ya5 := (hb7.cell (p := ⟨w2.heap.size, 5, none⟩) (World.block_lt_of_cell? _ _ ya5)).trans ya5; replace yb0 := (hb7.cell (p := ⟨w3.heap.size, 0, none⟩) (World.block_lt_of_cell? _ _ yb0)).trans yb0; replace yb1 := (hb7.cell (p := ⟨w3.heap.size, 1, none⟩) (World.block_lt_of_cell? _ _ yb1)).trans yb1; replace yb2 := (hb7.cell (p := ⟨w3.heap.size, 2, none⟩) (World.block_lt_of_cell? _ _ yb2)).trans yb2; replace yb3 := (hb7.cell (p := ⟨w3.heap.size, 3, none⟩) (World.block_lt_of_cell? _ _ yb3)).trans yb3; replace yb4 := (hb7.cell (p := ⟨w3.heap.size, 4, none⟩) (World.block_lt_of_cell? _ _ yb4)).trans yb4; replace yb5 := (hb7.cell (p := ⟨w3.heap.size, 5, none⟩) (World.block_lt_of_cell? _ _ yb5)).trans yb5; replace o0 := (hb7.cell (p := ⟨w.heap.size + 1, 0, none⟩) (World.block_lt_of_cell? _ _ o0)).trans o0; replace o1 := (hb7.cell (p := ⟨w.heap.size + 1, 1, none⟩) (World.block_lt_of_cell? _ _ o1)).trans o1; replace HL := Lib.hid (HL.out.next hb7); replace HN := Lib.hid (HN.out.next hb7); replace HP := Lib.hid (HP.out.next hb7); replace HX := Lib.hid (HX.out.callee hb7); replace HG := Lib.hid (HG.out.callee hb7); replace HH := Lib.hid (HH.out.trans (hb7.mono HH.out.size))))
          | fail)
      all_goals (
        rcases HPM.out with ⟨hm, hp, hq⟩ | ⟨hm, hp, hq⟩
        · have M1 := Lib.hid (fun W => rmay_any x W)
          rw [hm] at M1
          clear HL HN C1 C2
          subst hp hq
          clear ya0 ya1 ya2 ya3 ya4 ya5 yb0 yb1 yb2 yb3 yb4 yb5 o0 o1
          have p0 : w7.cell? ⟨w.heap.size, 0, none⟩ = some (Value.bool x.ha) := HX.out.c 0
          have p1 : w7.cell? ⟨w.heap.size, 1, none⟩ = some (.int .u32 x.addr.toNat) := HX.out.c 1
          have p2 : w7.cell? ⟨w.heap.size, 2, none⟩ = some (.bool x.h1) := HX.out.c 2
          have p3 : w7.cell? ⟨w.heap.size, 3, none⟩ = some (.int .u32 x.dns1.toNat) := HX.out.c 3
          have p4 : w7.cell? ⟨w.heap.size, 4, none⟩ = some (.bool x.h2) := HX.out.c 4
          have p5 : w7.cell? ⟨w.heap.size, 5, none⟩ = some (.int .u32 x.dns2.toNat) := HX.out.c 5
          go_wp2_with fail
          refine (M1.out _).mono ?_
          rintro e w8 ⟨rfl, hb8⟩
          have HP := Lib.hid (HP.out.next hb8)
          have HX := Lib.hid (HX.out.callee hb8)
          have HG := Lib.hid (HG.out.callee hb8)
          have HH := Lib.hid (HH.out.trans (hb8.mono HH.out.size))
          clear hb8
          have p0 : w8.cell? ⟨w.heap.size, 0, none⟩ = some (Value.bool x.ha) := HX.out.c 0
          have p1 : w8.cell? ⟨w.heap.size, 1, none⟩ = some (.int .u32 x.addr.toNat) := HX.out.c 1
          have p2 : w8.cell? ⟨w.heap.size, 2, none⟩ = some (.bool x.h1) := HX.out.c 2
          have p3 : w8.cell? ⟨w.heap.size, 3, none⟩ = some (.int .u32 x.dns1.toNat) := HX.out.c 3
          have p4 : w8.cell? ⟨w.heap.size, 4, none⟩ = some (.bool x.h2) := HX.out.c 4
          have p5 : w8.cell? ⟨w.heap.size, 5, none⟩ = some (.int .u32 x.dns2.toNat) := HX.out.c 5
          go_wp2_with fail
          refine (rput_any x _).mono ?_
          rintro e w9 ⟨A9, c9, rfl, hO9, hb9⟩
          have HP := Lib.hid (HP.out.next hb9)
          have HX := Lib.hid (HX.out.callee hb9)
          have HG := Lib.hid (HG.out.callee hb9)
          have HH := Lib.hid (HH.out.trans (hb9.mono HH.out.size))
          clear hb9
          have HC := Lib.hid hO9
          clear hO9
          go_wp2_with fail
          refine (same_self (put x) A1 A9 _ _ c1 c9 _ HP.out HC.out (by have := put_len x; unfold maxLen; omega) (by have := put_len x; unfold maxLen; omega)).mono ?_
          rintro e w10 ⟨rfl, hb10⟩
          have HP := Lib.hid (HP.out.next hb10)
          have HC := Lib.hid (HC.out.next hb10)
          have HX := Lib.hid (HX.out.callee hb10)
          have HG := Lib.hid (HG.out.callee hb10)
          have HH := Lib.hid (HH.out.trans (hb10.mono HH.out.size))
          clear hb10
          go_wp2_with fail
          refine (alive_any _ HG.out).mono ?_
          rintro e w11 ⟨rfl, hb11⟩
          have HP := Lib.hid (HP.out.next hb11)
          have HC := Lib.hid (HC.out.next hb11)
          have HX := Lib.hid (HX.out.callee hb11)
          have HG := Lib.hid (HG.out.callee hb11)
          have HH := Lib.hid (HH.out.trans (hb11.mono HH.out.size))
          clear hb11
          go_wp2
          go_ret
          exact ⟨rfl, HH.out⟩
        · have M1 := Lib.hid (fun W => rmay_any x W)
          rw [hm] at M1
          clear HL HN HP C1 C2
          subst hp hq
          clear ya0 ya1 ya2 ya3 ya4 ya5 yb0 yb1 yb2 yb3 yb4 yb5 o0 o1
          have p0 : w7.cell? ⟨w.heap.size, 0, none⟩ = some (Value.bool x.ha) := HX.out.c 0
          have p1 : w7.cell? ⟨w.heap.size, 1, none⟩ = some (.int .u32 x.addr.toNat) := HX.out.c 1
          have p2 : w7.cell? ⟨w.heap.size, 2, none⟩ = some (.bool x.h1) := HX.out.c 2
          have p3 : w7.cell? ⟨w.heap.size, 3, none⟩ = some (.int .u32 x.dns1.toNat) := HX.out.c 3
          have p4 : w7.cell? ⟨w.heap.size, 4, none⟩ = some (.bool x.h2) := HX.out.c 4
          have p5 : w7.cell? ⟨w.heap.size, 5, none⟩ = some (.int .u32 x.dns2.toNat) := HX.out.c 5
          go_wp2_with fail
          refine (M1.out _).mono ?_
          rintro e w8 ⟨rfl, hb8⟩
          have HX := Lib.hid (HX.out.callee hb8)
          have HG := Lib.hid (HG.out.callee hb8)
          have HH := Lib.hid (HH.out.trans (hb8.mono HH.out.size))
          clear hb8
          go_wp2_with fail
          refine (alive_any _ HG.out).mono ?_
          rintro e w9 ⟨rfl, hb9⟩
          have HX := Lib.hid (HX.out.callee hb9)
          have HG := Lib.hid (HG.out.callee hb9)
          have HH := Lib.hid (HH.out.trans (hb9.mono HH.out.size))
          clear hb9
          go_wp2
          go_ret
          exact ⟨rfl, HH.out⟩)

set_option maxRecDepth 100000 in
theorem lifted (os : Os) (started : os.Started) (H : Type) (enc : TypeId × Value → H) :
    ReturnsInHanded {} Tryd.checked os 3 .any (fun w args => (Rows.ipcpoptTellsSpec.pre enc Tryd.prog Tryd.f3 [] false w args ∧ laidMetH Tryd.prog laid5 w) ∧ sizedMet enc Tryd.prog Tryd.f3 (OpenSpec.ofChange Rows.ipcpoptTellsSpec) false w args)
      (Rows.ipcpoptTellsSpec.post enc Tryd.prog Tryd.f3 false true false false) := by
  refine returns_laid_shaped (C := Tryd.checked) (X := fun w _ => laidMetH Tryd.prog laid5 w) (fun _ _ _ hh h => h.of_heap hh) own started (by kernel_rfl) Tryd.func3
    (ChangeSpec.witness_shaped (enc := enc) (C := Tryd.checked) (os := os) (X := fun w _ => laidMetH Tryd.prog laid5 w) false (World.doorLaid Tryd.prog 400 os) #[.agg #[.bool false, .int .u32 0, .bool false, .int .u32 0, .bool false, .int .u32 0], .slice none 0 0, .agg #[.int .u8 0, .string ByteArray.empty]] 8 rfl (World.shaped_of_RefB (by kernel_rfl) (by kernel_rfl)) (by kernel_rfl) (by kernel_rfl) (by kernel_rfl) (door_met os _)) ?_
  intro W base args ds gs before hval0 hW _ hsz0 hL hsh _
  have hsz : (DataW.weightsEach Tryd.prog (Tryd.f3.params.toList ++ Rows.ipcpoptTellsSpec.plain.varTypes Tryd.prog) (ds ++ gs)).all (· ≤ reachBytes) = true := hsz0
  have hval : ∀ (j : Nat) t v, Tryd.f3.params[j]? = some t → args[j]? = some v → Value.okWide Tryd.prog W .any base t v := hval0
  have hW' := hW
  obtain ⟨p, q, hA0, hV, rfl, hfz, hnd⟩ := hW
  have hlt := hW'.lt
  have hA : DataW.TrodAll enc Tryd.prog W 0 (fun _ => true) true Tryd.f3.params.toList args.toList ds p := hA0
  rw [Tryd.params3] at hA hval hsz
  obtain ⟨v0, vs0, d0, ds0, p0, q0, hargs, rfl, rfl, h0, r0⟩ := trodAll_cons hA
  obtain ⟨v1, vs1, d1, ds1, p1, q1, rfl, rfl, rfl, h1, r1⟩ := trodAll_cons r0
  obtain ⟨v2, vs2, d2, ds2, p2, q2, rfl, rfl, rfl, h2, r2⟩ := trodAll_cons r1
  obtain ⟨rfl, rfl, rfl⟩ := trodAll_nil r2
  obtain rfl : args = #[v0, v1, v2] := by cases args; simp_all
  obtain ⟨rfl, rfl⟩ := trodVars_none hV
  obtain ⟨a0, rfl⟩ := ipc_of Tryd.underlying24 (by kernel_rfl) (by kernel_rfl) Tryd.underlying4 Tryd.underlying22 Tryd.underlying4 Tryd.underlying22 Tryd.underlying4 Tryd.underlying22 (hval 0 24 v0 rfl rfl) h0
  obtain ⟨A1, n1, c1, rfl, m1, hA1, l1, hO1⟩ := opts_of Tryd.underlying25 Tryd.underlying27 (by kernel_rfl) (by kernel_rfl) Tryd.underlying5 Tryd.underlying9 (hval 1 25 v1 rfl rfl) h1 (fun n hn => of_decide_eq_true (List.all_eq_true.1 hsz n (DataW.weights_mem_each (j := 1) (t := 25) rfl rfl n hn)))
  obtain ⟨c2, a2, rfl, z2⟩ := opt_of Tryd.underlying27 (by kernel_rfl) (by kernel_rfl) Tryd.underlying5 Tryd.underlying9 (hval 2 27 v2 rfl rfl) h2 (fun n hn => of_decide_eq_true (List.all_eq_true.1 hsz n (DataW.weights_mem_each (j := 2) (t := 27) rfl rfl n hn)))
  clear hA0 hval0 hsz0
  exact (walk a0 A1 n1 c1 l1 c2 a2 m1 hA1 (by unfold maxLen; omega) W hO1 (of_laid hL hsh)).mono fun e W' ⟨he, hb⟩ => ⟨_, he, law_post (t := 4) laidOut (by kernel_rfl) rfl rfl Tryd.underlying4 ⟨rfl, rfl, rfl⟩ hW' hb⟩

theorem over : Rows.ipcpoptTellsRow.holds Tryd.pinned (OpenSpec.ofChange Rows.ipcpoptTellsSpec) :=
  OpenClaim.holds_of_wide 3 Tryd.f3 rfl rfl rfl rfl rfl rfl rfl ⟨rfl, rfl, rfl, rfl, rfl⟩ rfl rfl rfl rfl rfl (by kernel_rfl) Tryd.func3 (by kernel_rfl)
    (of_decide_eq_true (by kernel_rfl)) (by unfold Func.isWrapper; first | (rw [if_pos (by decide +kernel)]; kernel_rfl) | (rw [if_neg (by decide +kernel)]; exact ⟨rfl, rfl⟩))
    (fun os started H enc _ => lifted os started H enc)

theorem proved : Rows.IpcpoptTellsCardSaid :=
  Claim7.holds_tied_plain_at .later [] [.data, .data, .data, .sentinel, .sentinel] true _ true
    over (fun _ h => by cases h) (by kernel_rfl) (fun _ h => by cases h) ipcpoptTells_row_tie rfl ⟨rfl, rfl⟩ (by kernel_rfl) rfl
    (fun f fn hf hfn => by
      obtain rfl : f = 3 := Option.some.inj ((show Tryd.prog.funcNamed "halyard/halyardlaw10.IpcpoptTells" = some 3 by kernel_rfl).symm.trans hf) |>.symm
      obtain rfl : fn = Tryd.f3 := (Option.some.inj (Tryd.func3.symm.trans hfn)).symm
      exact ⟨by kernel_rfl, fun j t ht => by
        rw [Tryd.params3] at ht
        rcases j with _ | j
        · obtain rfl : t = 24 := by simpa using ht.symm
          exact (show Tryd.prog.wantsStandIn 24 = false by kernel_rfl)
        rcases j with _ | j
        · obtain rfl : t = 25 := by simpa using ht.symm
          exact (show Tryd.prog.wantsStandIn 25 = false by kernel_rfl)
        rcases j with _ | j
        · obtain rfl : t = 27 := by simpa using ht.symm
          exact (show Tryd.prog.wantsStandIn 27 = false by kernel_rfl)
        simp at ht⟩)
    (by kernel_rfl)
#print axioms proved
end Go.Proofs.YtlbnbbpokphgbaaDoor.IpcpoptTells
