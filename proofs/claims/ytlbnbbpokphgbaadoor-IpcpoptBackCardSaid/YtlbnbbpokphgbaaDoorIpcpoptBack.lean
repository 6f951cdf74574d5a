/- PROVED: 'halyardlaw10.IpcpoptBack' returns true for every value, every two addresses and every text, and leaves them as they were. Its row lists the library's variables that strconv reads (two errors, a table of powers of ten, two tables of math/bits) as they are laid; the card ties that to the program's text. No other condition. -/
import Derived.Test.YtlbnbbpokphgbaaDoorIpcQ
import Derived.Test.YtlbnbbpokphgbaaDoorIpcO
import Derived.Test.YtlbnbbpokphgbaaDoorIpcK
import Derived.Test.YtlbnbbpokphgbaaDoorLaw
import Derived.Test.YtlbnbbpokphgbaaDoorRows
import Derived.Test.YtlbnbbpokphgbaaDoorTie
import Derived.Test.YtlbnbbpokphgbaaDoorCards
import Derived.SizedLaws
import Derived.HandedShaped
import Derived.Test.YtlbnbbpokphgbaaDoorIpcU
namespace Go.Proofs.YtlbnbbpokphgbaaDoor.IpcpoptBack
open Go.ChangeShapes Go.WideShapes Go.ChangeAt Go.RowKit Go.Proofs.YtlbnbbpokphgbaaDoor.Oct Go.Proofs.YtlbnbbpokphgbaaDoor.Row Go.Proofs.YtlbnbbpokphgbaaDoor.Mem Go.Proofs.YtlbnbbpokphgbaaDoor.Opt Go.Proofs.YtlbnbbpokphgbaaDoor.Ipc Go.Proofs.YtlbnbbpokphgbaaDoor.Law
open Go.ChangeMaps (open_string shut_string)

set_option maxHeartbeats 4000000 in
set_option maxRecDepth 100000 in
theorem walk (x : Ipc) (a b : UInt32) (s : ByteArray) (w : World) {B : Nat} (hG : Glb B w) : Calls Tryd.prog 5 #[.agg (lv x).toArray, .int .u32 a.toNat, .int .u32 b.toNat, .string s] w fun e w' => e = .returned (.bool true) ∧ Below w.heap.size w w' := by
  show Calls Tryd.prog 5 #[.agg #[Value.bool x.ha, .int .u32 x.addr.toNat, .bool x.h1, .int .u32 x.dns1.toNat, .bool x.h2, .int .u32 x.dns2.toNat], .int .u32 a.toNat, .int .u32 b.toNat, .string s] w fun e w' => e = .returned (.bool true) ∧ Below w.heap.size w w'
  obtain ⟨W, hW, HW⟩ := boxL w x
  have HX := Lib.hid HW.out.1
  have HH := Lib.hid HW.out.2.1
  have HG := Lib.hid (hG.callee HW.out.2.1)
  clear HW hG
  by_cases h100 : 100 < s.size
  · have hx0 : (100 : Int) < (s.size : Int) := by omega
    go_enter Tryd.func5, Tryd.ntmps5
    go_wp2_with fail
    refine (alive_any _ HG.out).mono ?_
    rintro e w1 ⟨rfl, hb1⟩
    have HG := Lib.hid (HG.out.callee hb1)
    have HH := Lib.hid (HH.out.trans (hb1.mono HH.out.size))
    clear hb1
    go_wp2
    go_ret
    exact ⟨rfl, HH.out⟩
  · have hx0 : ¬ (100 : Int) < (s.size : Int) := by omega
    have hs : s.size ≤ 100 := by omega
    have hra : ∀ W (h : Glb B W), Calls Tryd.prog 17 #[.string (txt a)] W fun e w' => e = .returned (.tuple #[.int .u32 a.toNat, .int .i64 0]) ∧ Below W.heap.size W w' := fun W h => by
      have h1 := read_any (txt a) W h (Nat.le_trans (size_txt a) (by decide))
      rw [(rdV_txt a).1, (rdV_txt a).2] at h1
      exact h1
    have RA := Lib.hid hra
    have RS := Lib.hid (fun W (h : Glb B W) => read_any s W h hs)
    have TA := Lib.hid (fun W (h : Glb B W) => text_any a W h)
    have TB := Lib.hid (fun W (h : Glb B W) => text_any b W h)
    have TW := Lib.hid (fun W (h : Glb B W) => text_any (rdV s) W h)
    have HE := Lib.hid (fun h : rdE s = 0 => txt_rd h)
    obtain ⟨r, e1, e2⟩ : ∃ r : Bool, ((a.toNat : Int) == (b.toNat : Int)) = r ∧ ((txt a).toList == (txt b).toList) = r := by
      by_cases hab : a = b
      · subst hab
        exact ⟨true, by simp, by simp⟩
      · exact ⟨false, beq_eq_false_iff_ne.2 (fun e => hab (UInt32.toNat_inj.1 (Int.ofNat_inj.1 e))), beq_eq_false_iff_ne.2 (fun e => hab (txt_inj (toList_inj e)))⟩
    clear hra hs
    generalize txt (rdV s) = tw at *
    generalize (rdV s).toNat = q at *
    generalize rdE s = E at *
    generalize txt a = ta at *
    generalize txt b = tb at *
    have HPC := Lib.hid (put_c x)
    unfold PutC at HPC
    have p0 : W.cell? ⟨w.heap.size, 0, none⟩ = some (Value.bool x.ha) := HX.out.c 0
    have p1 : W.cell? ⟨w.heap.size, 1, none⟩ = some (.int .u32 x.addr.toNat) := HX.out.c 1
    have p2 : W.cell? ⟨w.heap.size, 2, none⟩ = some (.bool x.h1) := HX.out.c 2
    have p3 : W.cell? ⟨w.heap.size, 3, none⟩ = some (.int .u32 x.dns1.toNat) := HX.out.c 3
    have p4 : W.cell? ⟨w.heap.size, 4, none⟩ = some (.bool x.h2) := HX.out.c 4
    have p5 : W.cell? ⟨w.heap.size, 5, none⟩ = some (.int .u32 x.dns2.toNat) := HX.out.c 5
    go_enter Tryd.func5, Tryd.ntmps5
    cases hm : may x
    case false =>
      rw [(pL_no hm).2] at HPC
      generalize pL x = pl at *
      clear hm
      go_wp2_with fail
      refine (HPC.out _).mono ?_
      rintro e w1 ⟨A1, c1, rfl, hO1, hb1⟩
      clear HX
      have HG := Lib.hid (HG.out.callee hb1)
      have HH := Lib.hid (HH.out.trans (hb1.mono HH.out.size))
      clear hb1
      have HP := Lib.hid hO1
      clear hO1
      clear p0 p1 p2 p3 p4 p5
      go_wp2_with fail
      refine (TA.out _ HG.out).mono ?_
      rintro e w2 ⟨rfl, hb2⟩
      clear HP
      have HG := Lib.hid (HG.out.callee hb2)
      have HH := Lib.hid (HH.out.trans (hb2.mono HH.out.size))
      clear hb2
      go_wp2_with fail
      refine (RA.out _ HG.out).mono ?_
      rintro e w3 ⟨rfl, hb3⟩
      have HG := Lib.hid (HG.out.callee hb3)
      have HH := Lib.hid (HH.out.trans (hb3.mono HH.out.size))
      clear hb3
      go_wp2_with fail
      refine (RS.out _ HG.out).mono ?_
      rintro e w4 ⟨rfl, hb4⟩
      have HG := Lib.hid (HG.out.callee hb4)
      have HH := Lib.hid (HH.out.trans (hb4.mono HH.out.size))
      clear hb4
      by_cases hE : E = 0
      · subst hE
        obtain rfl := HE.out rfl
        have hq := beq_self tw
        go_wp2_with fail
        refine (TW.out _ HG.out).mono ?_
        rintro e w5 ⟨rfl, hb5⟩
        have HG := Lib.hid (HG.out.callee hb5)
        have HH := Lib.hid (HH.out.trans (hb5.mono HH.out.size))
        clear hb5
        go_wp2_with fail
        refine (TA.out _ HG.out).mono ?_
        rintro e w6 ⟨rfl, hb6⟩
        have HG := Lib.hid (HG.out.callee hb6)
        have HH := Lib.hid (HH.out.trans (hb6.mono HH.out.size))
        clear hb6
        go_wp2_with fail
        refine (TB.out _ HG.out).mono ?_
        rintro e w7 ⟨rfl, hb7⟩
        have HG := Lib.hid (HG.out.callee hb7)
        have HH := Lib.hid (HH.out.trans (hb7.mono HH.out.size))
        clear hb7
        go_wp2_with fail
        refine (alive_any _ HG.out).mono ?_
        rintro e w8 ⟨rfl, hb8⟩
        have HG := Lib.hid (HG.out.callee hb8)
        have HH := Lib.hid (HH.out.trans (hb8.mono HH.out.size))
        clear hb8
        go_wp2
        go_ret
        exact ⟨rfl, HH.out⟩
      · have e0 : ((E : Int) != 0) = true := by simpa using hE
        go_wp2_with fail
        refine (TA.out _ HG.out).mono ?_
        rintro e w5 ⟨rfl, hb5⟩
        have HG := Lib.hid (HG.out.callee hb5)
        have HH := Lib.hid (HH.out.trans (hb5.mono HH.out.size))
        clear hb5
        go_wp2_with fail
        refine (TB.out _ HG.out).mono ?_
        rintro e w6 ⟨rfl, hb6⟩
        have HG := Lib.hid (HG.out.callee hb6)
        have HH := Lib.hid (HH.out.trans (hb6.mono HH.out.size))
        clear hb6
        go_wp2_with fail
        refine (alive_any _ HG.out).mono ?_
        rintro e w7 ⟨rfl, hb7⟩
        have HG := Lib.hid (HG.out.callee hb7)
        have HH := Lib.hid (HH.out.trans (hb7.mono HH.out.size))
        clear hb7
        go_wp2
        go_ret
        exact ⟨rfl, HH.out⟩
    case true =>
      rw [(pL_yes hm).1, (pL_yes hm).2] at HPC
      have S0 := Lib.hid (get_put hm)
      clear hm
      go_wp2_with fail
      refine (HPC.out _).mono ?_
      rintro e w1 ⟨A1, c1, rfl, hO1, hb1⟩
      have HX := Lib.hid (HX.out.callee hb1)
      have HG := Lib.hid (HG.out.callee hb1)
      have HH := Lib.hid (HH.out.trans (hb1.mono HH.out.size))
      clear hb1
      have HP := Lib.hid hO1
      clear hO1
      clear p0 p1 p2 p3 p4 p5
      generalize put x = pl at *
      go_wp2_with fail
      refine (S0.out A1 c1 _ HP.out).mono ?_
      rintro e w2 ⟨A2, c2, rfl, hb2⟩
      clear HP
      have HX := Lib.hid (HX.out.callee hb2)
      have HG := Lib.hid (HG.out.callee hb2)
      have HH := Lib.hid (HH.out.trans (hb2.mono HH.out.size))
      clear hb2
      have HX := Lib.hid (HX.out.alloc (.cells #[Value.bool x.ha, .int .u32 x.addr.toNat, .bool x.h1, .int .u32 x.dns1.toNat, .bool x.h2, .int .u32 x.dns2.toNat] 24))
      have HG := Lib.hid (HG.out.callee ((Below.refl w2.heap.size w2).alloc (Nat.le_refl _) (.cells #[Value.bool x.ha, .int .u32 x.addr.toNat, .bool x.h1, .int .u32 x.dns1.toNat, .bool x.h2, .int .u32 x.dns2.toNat] 24)))
      have HY : Hid (LAt (w2.alloc (.cells #[Value.bool x.ha, .int .u32 x.addr.toNat, .bool x.h1, .int .u32 x.dns1.toNat, .bool x.h2, .int .u32 x.dns2.toNat] 24)) w2.heap.size x) := lat_new w2 x
      have HH := Lib.hid (HH.out.alloc HH.out.size (.cells #[Value.bool x.ha, .int .u32 x.addr.toNat, .bool x.h1, .int .u32 x.dns1.toNat, .bool x.h2, .int .u32 x.dns2.toNat] 24))
      have p0 : (w2.alloc (.cells #[Value.bool x.ha, .int .u32 x.addr.toNat, .bool x.h1, .int .u32 x.dns1.toNat, .bool x.h2, .int .u32 x.dns2.toNat] 24)).cell? ⟨w.heap.size, 0, none⟩ = some (Value.bool x.ha) := HX.out.c 0
      have p1 : (w2.alloc (.cells #[Value.bool x.ha, .int .u32 x.addr.toNat, .bool x.h1, .int .u32 x.dns1.toNat, .bool x.h2, .int .u32 x.dns2.toNat] 24)).cell? ⟨w.heap.size, 1, none⟩ = some (.int .u32 x.addr.toNat) := HX.out.c 1
      have p2 : (w2.alloc (.cells #[Value.bool x.ha, .int .u32 x.addr.toNat, .bool x.h1, .int .u32 x.dns1.toNat, .bool x.h2, .int .u32 x.dns2.toNat] 24)).cell? ⟨w.heap.size, 2, none⟩ = some (.bool x.h1) := HX.out.c 2
      have p3 : (w2.alloc (.cells #[Value.bool x.ha, .int .u32 x.addr.toNat, .bool x.h1, .int .u32 x.dns1.toNat, .bool x.h2, .int .u32 x.dns2.toNat] 24)).cell? ⟨w.heap.size, 3, none⟩ = some (.int .u32 x.dns1.toNat) := HX.out.c 3
      have p4 : (w2.alloc (.cells #[Value.bool x.ha, .int .u32 x.addr.toNat, .bool x.h1, .int .u32 x.dns1.toNat, .bool x.h2, .int .u32 x.dns2.toNat] 24)).cell? ⟨w.heap.size, 4, none⟩ = some (.bool x.h2) := HX.out.c 4
      have p5 : (w2.alloc (.cells #[Value.bool x.ha, .int .u32 x.addr.toNat, .bool x.h1, .int .u32 x.dns1.toNat, .bool x.h2, .int .u32 x.dns2.toNat] 24)).cell? ⟨w.heap.size, 5, none⟩ = some (.int .u32 x.dns2.toNat) := HX.out.c 5
      have y0 : (w2.alloc (.cells #[Value.bool x.ha, .int .u32 x.addr.toNat, .bool x.h1, .int .u32 x.dns1.toNat, .bool x.h2, .int .u32 x.dns2.toNat] 24)).cell? ⟨w2.heap.size, 0, none⟩ = some (Value.bool x.ha) := HY.out.c 0
      have y1 : (w2.alloc (.cells #[Value.bool x.ha, .int .u32 x.addr.toNat, .bool x.h1, .int .u32 x.dns1.toNat, .bool x.h2, .int .u32 x.dns2.toNat] 24)).cell? ⟨w2.heap.size, 1, none⟩ = some (.int .u32 x.addr.toNat) := HY.out.c 1
      have y2 : (w2.alloc (.cells #[Value.bool x.ha, .int .u32 x.addr.toNat, .bool x.h1, .int .u32 x.dns1.toNat, .bool x.h2, .int .u32 x.dns2.toNat] 24)).cell? ⟨w2.heap.size, 2, none⟩ = some (.bool x.h1) := HY.out.c 2
      have y3 : (w2.alloc (.cells #[Value.bool x.ha, .int .u32 x.addr.toNat, .bool x.h1, .int .u32 x.dns1.toNat, .bool x.h2, .int .u32 x.dns2.toNat] 24)).cell? ⟨w2.heap.size, 3, none⟩ = some (.int .u32 x.dns1.toNat) := HY.out.c 3
      have y4 : (w2.alloc (.cells #[Value.bool x.ha, .int .u32 x.addr.toNat, .bool x.h1, .int .u32 x.dns1.toNat, .bool x.h2, .int .u32 x.dns2.toNat] 24)).cell? ⟨w2.heap.size, 4, none⟩ = some (.bool x.h2) := HY.out.c 4
      have y5 : (w2.alloc (.cells #[Value.bool x.ha, .int .u32 x.addr.toNat, .bool x.h1, .int .u32 x.dns1.toNat, .bool x.h2, .int .u32 x.dns2.toNat] 24)).cell? ⟨w2.heap.size, 5, none⟩ = some (.int .u32 x.dns2.toNat) := HY.out.c 5
      have r0 : ∀ W, (Op.equalIn 10000 24 (.agg #[Value.bool x.ha, .int .u32 x.addr.toNat, .bool x.h1, .int .u32 x.dns1.toNat, .bool x.h2, .int .u32 x.dns2.toNat]) (.agg #[Value.bool x.ha, .int .u32 x.addr.toNat, .bool x.h1, .int .u32 x.dns1.toNat, .bool x.h2, .int .u32 x.dns2.toNat])).run Tryd.prog W = .ok true W := ipc_eq (decide_eq_true rfl)
      have r1 : ∀ W, (binOp .neq 24 (.agg #[Value.bool x.ha, .int .u32 x.addr.toNat, .bool x.h1, .int .u32 x.dns1.toNat, .bool x.h2, .int .u32 x.dns2.toNat]) (.agg #[Value.bool x.ha, .int .u32 x.addr.toNat, .bool x.h1, .int .u32 x.dns1.toNat, .bool x.h2, .int .u32 x.dns2.toNat])).run Tryd.prog W = .ok (.bool false) W := ipc_neq (decide_eq_true rfl)
      go_wp2_with fail
      refine (TA.out _ HG.out).mono ?_
      rintro e w3 ⟨rfl, hb3⟩
      clear HX
      clear HY
      have HG := Lib.hid (HG.out.callee hb3)
      have HH := Lib.hid (HH.out.trans (hb3.mono HH.out.size))
      clear hb3
      go_wp2_with fail
      refine (RA.out _ HG.out).mono ?_
      rintro e w4 ⟨rfl, hb4⟩
      have HG := Lib.hid (HG.out.callee hb4)
      have HH := Lib.hid (HH.out.trans (hb4.mono HH.out.size))
      clear hb4
      go_wp2_with fail
      refine (RS.out _ HG.out).mono ?_
      rintro e w5 ⟨rfl, hb5⟩
      have HG := Lib.hid (HG.out.callee hb5)
      have HH := Lib.hid (HH.out.trans (hb5.mono HH.out.size))
      clear hb5
      by_cases hE : E = 0
      · subst hE
        obtain rfl := HE.out rfl
        have hq := beq_self tw
        go_wp2_with fail
        refine (TW.out _ HG.out).mono ?_
        rintro e w6 ⟨rfl, hb6⟩
        have HG := Lib.hid (HG.out.callee hb6)
        have HH := Lib.hid (HH.out.trans (hb6.mono HH.out.size))
        clear hb6
        go_wp2_with fail
        refine (TA.out _ HG.out).mono ?_
        rintro e w7 ⟨rfl, hb7⟩
        have HG := Lib.hid (HG.out.callee hb7)
        have HH := Lib.hid (HH.out.trans (hb7.mono HH.out.size))
        clear hb7
        go_wp2_with fail
        refine (TB.out _ HG.out).mono ?_
        rintro e w8 ⟨rfl, hb8⟩
        have HG := Lib.hid (HG.out.callee hb8)
        have HH := Lib.hid (HH.out.trans (hb8.mono HH.out.size))
        clear hb8
        go_wp2_with fail
        refine (alive_any _ HG.out).mono ?_
        rintro e w9 ⟨rfl, hb9⟩
        have HG := Lib.hid (HG.out.callee hb9)
        have HH := Lib.hid (HH.out.trans (hb9.mono HH.out.size))
        clear hb9
        go_wp2
        go_ret
        exact ⟨rfl, HH.out⟩
      · have e0 : ((E : Int) != 0) = true := by simpa using hE
        go_wp2_with fail
        refine (TA.out _ HG.out).mono ?_
        rintro e w6 ⟨rfl, hb6⟩
        have HG := Lib.hid (HG.out.callee hb6)
        have HH := Lib.hid (HH.out.trans (hb6.mono HH.out.size))
        clear hb6
        go_wp2_with fail
        refine (TB.out _ HG.out).mono ?_
        rintro e w7 ⟨rfl, hb7⟩
        have HG := Lib.hid (HG.out.callee hb7)
        have HH := Lib.hid (HH.out.trans (hb7.mono HH.out.size))
        clear hb7
        go_wp2_with fail
        refine (alive_any _ HG.out).mono ?_
        rintro e w8 ⟨rfl, hb8⟩
        have HG := Lib.hid (HG.out.callee hb8)
        have HH := Lib.hid (HH.out.trans (hb8.mono HH.out.size))
        clear hb8
        go_wp2
        go_ret
        exact ⟨rfl, HH.out⟩

set_option maxRecDepth 100000 in
theorem lifted (os : Os) (started : os.Started) (H : Type) (enc : TypeId × Value → H) :
    ReturnsInHanded {} Tryd.checked os 5 .any (fun w args => (Rows.ipcpoptBackSpec.pre enc Tryd.prog Tryd.f5 [] false w args ∧ laidMetH Tryd.prog laid5 w) ∧ sizedMet enc Tryd.prog Tryd.f5 (OpenSpec.ofChange Rows.ipcpoptBackSpec) false w args)
      (Rows.ipcpoptBackSpec.post enc Tryd.prog Tryd.f5 false true false false) := by
  refine returns_laid_shaped (C := Tryd.checked) (X := fun w _ => laidMetH Tryd.prog laid5 w) (fun _ _ _ hh h => h.of_heap hh) own started (by kernel_rfl) Tryd.func5
    (ChangeSpec.witness_shaped (enc := enc) (C := Tryd.checked) (os := os) (X := fun w _ => laidMetH Tryd.prog laid5 w) false (World.doorLaid Tryd.prog 400 os) #[.agg #[.bool false, .int .u32 0, .bool false, .int .u32 0, .bool false, .int .u32 0], .int .u32 0, .int .u32 0, .string ByteArray.empty] 8 rfl (World.shaped_of_RefB (by kernel_rfl) (by kernel_rfl)) (by kernel_rfl) (by kernel_rfl) (by kernel_rfl) (door_met os _)) ?_
  intro W base args ds gs before hval0 hW _ hsz0 hL hsh _
  have hsz : (DataW.weightsEach Tryd.prog (Tryd.f5.params.toList ++ Rows.ipcpoptBackSpec.plain.varTypes Tryd.prog) (ds ++ gs)).all (· ≤ reachBytes) = true := hsz0
  have hval : ∀ (j : Nat) t v, Tryd.f5.params[j]? = some t → args[j]? = some v → Value.okWide Tryd.prog W .any base t v := hval0
  have hW' := hW
  obtain ⟨p, q, hA0, hV, rfl, hfz, hnd⟩ := hW
  have hlt := hW'.lt
  have hA : DataW.TrodAll enc Tryd.prog W 0 (fun _ => true) true Tryd.f5.params.toList args.toList ds p := hA0
  rw [Tryd.params5] at hA hval hsz
  obtain ⟨v0, vs0, d0, ds0, p0, q0, hargs, rfl, rfl, h0, r0⟩ := trodAll_cons hA
  obtain ⟨v1, vs1, d1, ds1, p1, q1, rfl, rfl, rfl, h1, r1⟩ := trodAll_cons r0
  obtain ⟨v2, vs2, d2, ds2, p2, q2, rfl, rfl, rfl, h2, r2⟩ := trodAll_cons r1
  obtain ⟨v3, vs3, d3, ds3, p3, q3, rfl, rfl, rfl, h3, r3⟩ := trodAll_cons r2
  obtain ⟨rfl, rfl, rfl⟩ := trodAll_nil r3
  obtain rfl : args = #[v0, v1, v2, v3] := by cases args; simp_all
  obtain ⟨rfl, rfl⟩ := trodVars_none hV
  obtain ⟨a0, rfl⟩ := ipc_of Tryd.underlying24 (by kernel_rfl) (by kernel_rfl) Tryd.underlying4 Tryd.underlying22 Tryd.underlying4 Tryd.underlying22 Tryd.underlying4 Tryd.underlying22 (hval 0 24 v0 rfl rfl) h0
  obtain ⟨z1, rfl, rfl, rfl, w1⟩ := open_int Tryd.underlying22 (hval 1 22 v1 rfl rfl) h1
  obtain ⟨a1, rfl⟩ := u32_of (z := z1) (bounds_u32 w1)
  obtain ⟨z2, rfl, rfl, rfl, w2⟩ := open_int Tryd.underlying22 (hval 2 22 v2 rfl rfl) h2
  obtain ⟨a2, rfl⟩ := u32_of (z := z2) (bounds_u32 w2)
  obtain ⟨a3, rfl, rfl, rfl, w3⟩ := open_string Tryd.underlying9 (hval 3 9 v3 rfl rfl) h3
  have z3 : a3.size ≤ 140737488351232 := by have h := sized_string hsz (j := 3) (t := 9) rfl rfl; rw [Array.length_toList] at h; exact h
  clear hA0 hval0 hsz0
  exact (walk a0 a1 a2 a3 W (of_laid hL hsh)).mono fun e W' ⟨he, hb⟩ => ⟨_, he, law_post (t := 4) laidOut (by kernel_rfl) rfl rfl Tryd.underlying4 ⟨rfl, rfl, rfl⟩ hW' hb⟩

theorem over : Rows.ipcpoptBackRow.holds Tryd.pinned (OpenSpec.ofChange Rows.ipcpoptBackSpec) :=
  OpenClaim.holds_of_wide 5 Tryd.f5 rfl rfl rfl rfl rfl rfl rfl ⟨rfl, rfl, rfl, rfl, rfl⟩ rfl rfl rfl rfl rfl (by kernel_rfl) Tryd.func5 (by kernel_rfl)
    (of_decide_eq_true (by kernel_rfl)) (by unfold Func.isWrapper; first | (rw [if_pos (by decide +kernel)]; kernel_rfl) | (rw [if_neg (by decide +kernel)]; exact ⟨rfl, rfl⟩))
    (fun os started H enc _ => lifted os started H enc)

theorem proved : Rows.IpcpoptBackCardSaid :=
  Claim7.holds_tied_plain_at .later [] [.data, .data, .data, .sentinel, .sentinel] true _ true
    over (fun _ h => by cases h) (by kernel_rfl) (fun _ h => by cases h) ipcpoptBack_row_tie rfl ⟨rfl, rfl⟩ (by kernel_rfl) rfl
    (fun f fn hf hfn => by
      obtain rfl : f = 5 := Option.some.inj ((show Tryd.prog.funcNamed "halyard/halyardlaw10.IpcpoptBack" = some 5 by kernel_rfl).symm.trans hf) |>.symm
      obtain rfl : fn = Tryd.f5 := (Option.some.inj (Tryd.func5.symm.trans hfn)).symm
      exact ⟨by kernel_rfl, fun j t ht => by
        rw [Tryd.params5] at ht
        rcases j with _ | j
        · obtain rfl : t = 24 := by simpa using ht.symm
          exact (show Tryd.prog.wantsStandIn 24 = false by kernel_rfl)
        rcases j with _ | j
        · obtain rfl : t = 22 := by simpa using ht.symm
          exact (show Tryd.prog.wantsStandIn 22 = false by kernel_rfl)
        rcases j with _ | j
        · obtain rfl : t = 22 := by simpa using ht.symm
          exact (show Tryd.prog.wantsStandIn 22 = false by kernel_rfl)
        rcases j with _ | j
        · obtain rfl : t = 9 := by simpa using ht.symm
          exact (show Tryd.prog.wantsStandIn 9 = false by kernel_rfl)
        simp at ht⟩)
    (by kernel_rfl)
#print axioms proved
end Go.Proofs.YtlbnbbpokphgbaaDoor.IpcpoptBack
