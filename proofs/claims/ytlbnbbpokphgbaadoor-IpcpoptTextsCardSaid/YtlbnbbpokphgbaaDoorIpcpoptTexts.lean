/- PROVED: 'halyardlaw10.IpcpoptTexts' returns true for every address and every text, and leaves them as they were. Its row lists the library's variables that strconv reads (two errors, a table of powers of ten, two tables of math/bits) as they are laid; the card ties that to the program's text. No other condition. -/
import Derived.Test.YtlbnbbpokphgbaaDoorIpcQ
import Derived.Test.YtlbnbbpokphgbaaDoorIpcO
import Derived.Test.YtlbnbbpokphgbaaDoorIpcK
import Derived.Test.YtlbnbbpokphgbaaDoorLaw
import Derived.Test.YtlbnbbpokphgbaaDoorRows
import Derived.Test.YtlbnbbpokphgbaaDoorTie
import Derived.Test.YtlbnbbpokphgbaaDoorCards
import Derived.SizedLaws
import Derived.HandedShaped
namespace Go.Proofs.YtlbnbbpokphgbaaDoor.IpcpoptTexts
open Go.ChangeShapes Go.WideShapes Go.ChangeAt Go.RowKit Go.Proofs.YtlbnbbpokphgbaaDoor.Oct Go.Proofs.YtlbnbbpokphgbaaDoor.Row Go.Proofs.YtlbnbbpokphgbaaDoor.Mem Go.Proofs.YtlbnbbpokphgbaaDoor.Opt Go.Proofs.YtlbnbbpokphgbaaDoor.Ipc Go.Proofs.YtlbnbbpokphgbaaDoor.Law
open Go.ChangeMaps (open_string shut_string)

set_option maxHeartbeats 4000000 in
set_option maxRecDepth 100000 in
theorem walk (v : UInt32) (s : ByteArray) (w : World) {B : Nat} (hG : Glb B w) : Calls Tryd.prog 4 #[.int .u32 v.toNat, .string s] w fun e w' => e = .returned (.bool true) ∧ Below w.heap.size w w' := by
  have HH := Lib.hid (Below.refl w.heap.size w)
  have HG := Lib.hid hG; clear hG
  by_cases h100 : 100 < s.size
  · have hx0 : (100 : Int) < (s.size : Int) := by omega
    go_enter Tryd.func4, Tryd.ntmps4
    go_wp2_with fail
    refine (alive_any _ HG.out).mono ?_
    rintro e w1 ⟨rfl, hb1⟩
    have HG := Lib.hid (HG.out.callee hb1)
    have HH := Lib.hid (HH.out.trans (hb1.mono HH.out.size))
    clear hb1
    go_wp2
    go_ret
    exact ⟨rfl, HH.out⟩
  · have hx0 : ¬ (100 : Int) < (s.size : Int) := by omega
    have hs : s.size ≤ 100 := by omega
    have hq := beq_self (txt v)
    have R1 := Lib.hid (fun W (h : Glb B W) => read_any s W h hs)
    have R2 := Lib.hid (fun W (h : Glb B W) => rread_any s W h hs)
    have T1 := Lib.hid (fun W (h : Glb B W) => text_any v W h)
    have T2 := Lib.hid (fun W (h : Glb B W) => rtext_any v W h)
    generalize (rdV s).toNat = q at *
    generalize rdE s = E at *
    generalize txt v = t at *
    go_enter Tryd.func4, Tryd.ntmps4
    go_wp2_with fail
    refine (R1.out _ HG.out).mono ?_
    rintro e w1 ⟨rfl, hb1⟩
    have HG := Lib.hid (HG.out.callee hb1)
    have HH := Lib.hid (HH.out.trans (hb1.mono HH.out.size))
    clear hb1
    go_wp2_with fail
    refine (R2.out _ HG.out).mono ?_
    rintro e w2 ⟨rfl, hb2⟩
    have HG := Lib.hid (HG.out.callee hb2)
    have HH := Lib.hid (HH.out.trans (hb2.mono HH.out.size))
    clear hb2
    go_wp2_with fail
    refine (T1.out _ HG.out).mono ?_
    rintro e w3 ⟨rfl, hb3⟩
    have HG := Lib.hid (HG.out.callee hb3)
    have HH := Lib.hid (HH.out.trans (hb3.mono HH.out.size))
    clear hb3
    go_wp2_with fail
    refine (T2.out _ HG.out).mono ?_
    rintro e w4 ⟨rfl, hb4⟩
    have HG := Lib.hid (HG.out.callee hb4)
    have HH := Lib.hid (HH.out.trans (hb4.mono HH.out.size))
    clear hb4
    go_wp2_with fail
    refine (alive_any _ HG.out).mono ?_
    rintro e w5 ⟨rfl, hb5⟩
    have HG := Lib.hid (HG.out.callee hb5)
    have HH := Lib.hid (HH.out.trans (hb5.mono HH.out.size))
    clear hb5
    go_wp2
    go_ret
    exact ⟨rfl, HH.out⟩

set_option maxRecDepth 100000 in
theorem lifted (os : Os) (started : os.Started) (H : Type) (enc : TypeId × Value → H) :
    ReturnsInHanded {} Tryd.checked os 4 .any (fun w args => (Rows.ipcpoptTextsSpec.pre enc Tryd.prog Tryd.f4 [] false w args ∧ laidMetH Tryd.prog laid5 w) ∧ sizedMet enc Tryd.prog Tryd.f4 (OpenSpec.ofChange Rows.ipcpoptTextsSpec) false w args)
      (Rows.ipcpoptTextsSpec.post enc Tryd.prog Tryd.f4 false true false false) := by
  refine returns_laid_shaped (C := Tryd.checked) (X := fun w _ => laidMetH Tryd.prog laid5 w) (fun _ _ _ hh h => h.of_heap hh) own started (by kernel_rfl) Tryd.func4
    (ChangeSpec.witness_shaped (enc := enc) (C := Tryd.checked) (os := os) (X := fun w _ => laidMetH Tryd.prog laid5 w) false (World.doorLaid Tryd.prog 400 os) #[.int .u32 0, .string ByteArray.empty] 8 rfl (World.shaped_of_RefB (by kernel_rfl) (by kernel_rfl)) (by kernel_rfl) (by kernel_rfl) (by kernel_rfl) (door_met os _)) ?_
  intro W base args ds gs before hval0 hW _ hsz0 hL hsh _
  have hsz : (DataW.weightsEach Tryd.prog (Tryd.f4.params.toList ++ Rows.ipcpoptTextsSpec.plain.varTypes Tryd.prog) (ds ++ gs)).all (· ≤ reachBytes) = true := hsz0
  have hval : ∀ (j : Nat) t v, Tryd.f4.params[j]? = some t → args[j]? = some v → Value.okWide Tryd.prog W .any base t v := hval0
  have hW' := hW
  obtain ⟨p, q, hA0, hV, rfl, hfz, hnd⟩ := hW
  have hlt := hW'.lt
  have hA : DataW.TrodAll enc Tryd.prog W 0 (fun _ => true) true Tryd.f4.params.toList args.toList ds p := hA0
  rw [Tryd.params4] at hA hval hsz
  obtain ⟨v0, vs0, d0, ds0, p0, q0, hargs, rfl, rfl, h0, r0⟩ := trodAll_cons hA
  obtain ⟨v1, vs1, d1, ds1, p1, q1, rfl, rfl, rfl, h1, r1⟩ := trodAll_cons r0
  obtain ⟨rfl, rfl, rfl⟩ := trodAll_nil r1
  obtain rfl : args = #[v0, v1] := by cases args; simp_all
  obtain ⟨rfl, rfl⟩ := trodVars_none hV
  obtain ⟨z0, rfl, rfl, rfl, w0⟩ := open_int Tryd.underlying22 (hval 0 22 v0 rfl rfl) h0
  obtain ⟨a0, rfl⟩ := u32_of (z := z0) (bounds_u32 w0)
  obtain ⟨a1, rfl, rfl, rfl, w1⟩ := open_string Tryd.underlying9 (hval 1 9 v1 rfl rfl) h1
  have z1 : a1.size ≤ 140737488351232 := by have h := sized_string hsz (j := 1) (t := 9) rfl rfl; rw [Array.length_toList] at h; exact h
  clear hA0 hval0 hsz0
  exact (walk a0 a1 W (of_laid hL hsh)).mono fun e W' ⟨he, hb⟩ => ⟨_, he, law_post (t := 4) laidOut (by kernel_rfl) rfl rfl Tryd.underlying4 ⟨rfl, rfl, rfl⟩ hW' hb⟩

theorem over : Rows.ipcpoptTextsRow.holds Tryd.pinned (OpenSpec.ofChange Rows.ipcpoptTextsSpec) :=
  OpenClaim.holds_of_wide 4 Tryd.f4 rfl rfl rfl rfl rfl rfl rfl ⟨rfl, rfl, rfl, rfl, rfl⟩ rfl rfl rfl rfl rfl (by kernel_rfl) Tryd.func4 (by kernel_rfl)
    (of_decide_eq_true (by kernel_rfl)) (by unfold Func.isWrapper; first | (rw [if_pos (by decide +kernel)]; kernel_rfl) | (rw [if_neg (by decide +kernel)]; exact ⟨rfl, rfl⟩))
    (fun os started H enc _ => lifted os started H enc)

theorem proved : Rows.IpcpoptTextsCardSaid :=
  Claim7.holds_tied_plain_at .later [] [.data, .data, .data, .sentinel, .sentinel] true _ true
    over (fun _ h => by cases h) (by kernel_rfl) (fun _ h => by cases h) ipcpoptTexts_row_tie rfl ⟨rfl, rfl⟩ (by kernel_rfl) rfl
    (fun f fn hf hfn => by
      obtain rfl : f = 4 := Option.some.inj ((show Tryd.prog.funcNamed "halyard/halyardlaw10.IpcpoptTexts" = some 4 by kernel_rfl).symm.trans hf) |>.symm
      obtain rfl : fn = Tryd.f4 := (Option.some.inj (Tryd.func4.symm.trans hfn)).symm
      exact ⟨by kernel_rfl, fun j t ht => by
        rw [Tryd.params4] at ht
        rcases j with _ | j
        · obtain rfl : t = 22 := by simpa using ht.symm
          exact (show Tryd.prog.wantsStandIn 22 = false by kernel_rfl)
        rcases j with _ | j
        · obtain rfl : t = 9 := by simpa using ht.symm
          exact (show Tryd.prog.wantsStandIn 9 = false by kernel_rfl)
        simp at ht⟩)
    (by kernel_rfl)
#print axioms proved
end Go.Proofs.YtlbnbbpokphgbaaDoor.IpcpoptTexts
