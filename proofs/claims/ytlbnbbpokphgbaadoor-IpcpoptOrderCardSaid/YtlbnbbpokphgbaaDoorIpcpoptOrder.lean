/- PROVED: 'halyardlaw10.IpcpoptOrder' returns true for every row, every two places, every option and every place, and leaves them as they were. Its row lists the library's variables that strconv reads (two errors, a table of powers of ten, two tables of math/bits) as they are laid; the card ties that to the program's text. No other condition. -/
import Derived.Test.YtlbnbbpokphgbaaDoorIpcQ
import Derived.Test.YtlbnbbpokphgbaaDoorIpcO
import Derived.Test.YtlbnbbpokphgbaaDoorIpcK
import Derived.Test.YtlbnbbpokphgbaaDoorLaw
import Derived.Test.YtlbnbbpokphgbaaDoorRows
import Derived.Test.YtlbnbbpokphgbaaDoorTie
import Derived.Test.YtlbnbbpokphgbaaDoorCards
import Derived.SizedLaws
import Derived.HandedShaped
import Derived.Test.YtlbnbbpokphgbaaDoorIpcU
import Derived.Test.YtlbnbbpokphgbaaDoorOptsStep
import Derived.Deep.QuietTactic
import Derived.Deep.Quiet
import Derived.BigQuiet
namespace Go.Proofs.YtlbnbbpokphgbaaDoor.IpcpoptOrder
open Go.ChangeShapes Go.WideShapes Go.ChangeAt Go.RowKit Go.Proofs.YtlbnbbpokphgbaaDoor.Oct Go.Proofs.YtlbnbbpokphgbaaDoor.Row Go.Proofs.YtlbnbbpokphgbaaDoor.Mem Go.Proofs.YtlbnbbpokphgbaaDoor.Opt Go.Proofs.YtlbnbbpokphgbaaDoor.Ipc Go.Proofs.YtlbnbbpokphgbaaDoor.Law
open Go.ChangeMaps (open_string shut_string)

/-- What Get has answered, the odd ones by their number. -/
def GetW (y : Ipc) (p E : Nat) (w : World) (e : Ending) (w' : World) : Prop := ∃ A c, e = .returned (.tuple #[.agg #[Value.bool y.ha, .int .u32 y.addr.toNat, .bool y.h1, .int .u32 y.dns1.toNat, .bool y.h2, .int .u32 y.dns2.toNat], .slice A p c, .int .i64 E]) ∧ Below w.heap.size w w'
theorem get_w (l : List Opt) (A : Option Addr) (n c : Nat) (w : World) (hl : Opts w w.heap.size A n l) (hn : n ≤ 1001) : Calls Tryd.prog 10 #[.slice A n c] w (GetW (gL l) (gO l).length (gE l) w) :=
  (get_c l A n c w hl hn).mono fun _ _ ⟨A', c', he, _, hb⟩ => ⟨A', c', he, hb⟩
theorem get_swp {l : List Opt} {a b : Nat} {oa ob : Opt} (ha : l[a]? = some oa) (hb : l[b]? = some ob) (A : Option Addr) (n c : Nat) (w : World) (hl : Opts w w.heap.size A n (swp l a b oa ob)) (hn : n ≤ 1001) : Calls Tryd.prog 10 #[.slice A n c] w (GetW (gL l) (gO l).length (gE l) w) := by
  have h := get_w (swp l a b oa ob) A n c w hl hn
  rw [(swp_gets ha hb).1, (swp_gets ha hb).2.1, (swp_gets ha hb).2.2] at h
  exact h
set_option maxHeartbeats 4000000 in
set_option maxRecDepth 100000 in
theorem walk (A : Option Addr) (n c : Nat) (l : List Opt) (i k t : UInt8) (d : ByteArray) (at_ : UInt8) (hn : n ≤ maxLen) (hA : A = none → c = 0) (hdm : d.size ≤ maxLen) (hnc : n ≤ c) (w : World) (hl : Opts w w.heap.size A n l) {B : Nat} (hG : Glb B w) :
    Calls Tryd.prog 6 #[.slice A n c, .int .u8 i.toNat, .int .u8 k.toNat, .agg #[.int .u8 t.toNat, .string d], .int .u8 at_.toNat] w fun e w' => e = .returned (.bool true) ∧ Below w.heap.size w w' := by
  obtain ⟨i0, hi, hz0, hz1, hz2⟩ := info_parts Tryd.info27
  obtain ⟨W, hW, HW⟩ := boxO w t d
  have HO := Lib.hid HW.out.1
  have HH := Lib.hid HW.out.2
  have HG := Lib.hid (hG.callee HW.out.2)
  have HL := Lib.hid (hl.next HW.out.2)
  have HAA := Lib.hid hA
  have Hll := Lib.hid hl.1
  have HDM := Lib.hid hdm
  clear hl hA hdm HW hG
  go_enter Tryd.func6, Tryd.ntmps6
  go_wp2_with fail
  refine (long_row l A n c _ HL.out hn).mono ?_
  rintro e w' ⟨b, rfl, hq1, rfl⟩
  clear hW
  have o0 := HO.out.c0
  have o1 := HO.out.c1
  simp only at o0 o1
  cases b
  case true =>
    clear hq1
    go_wp2_with fail
    refine (alive_any _ HG.out).mono ?_
    rintro e w1 ⟨rfl, hb1⟩
    have HG := Lib.hid (HG.out.callee hb1)
    have HH := Lib.hid (HH.out.trans (hb1.mono HH.out.size))
    clear hb1
    go_wp2
    go_ret
    exact ⟨rfl, HH.out⟩
  case false =>
    obtain ⟨hn70, hd⟩ := hq1 rfl
    clear hq1 hd
    by_cases h300 : 300 < d.size
    · have hx0 : (300 : Int) < (d.size : Int) := by omega
      go_wp2_with fail
      refine (alive_any _ HG.out).mono ?_
      rintro e w1 ⟨rfl, hb1⟩
      have HG := Lib.hid (HG.out.callee hb1)
      have HH := Lib.hid (HH.out.trans (hb1.mono HH.out.size))
      clear hb1
      go_wp2
      go_ret
      exact ⟨rfl, HH.out⟩
    · have hx0 : ¬ (300 : Int) < (d.size : Int) := by omega
      have Hn1 := Lib.hid (show n ≤ 1001 by omega)
      have G1 := Lib.hid (get_w l)
      have G2 := Lib.hid (fun a b oa ob ha hb => @get_swp l a b oa ob ha hb)
      have G4 := Lib.hid (fun (hb : good (t, d) = false) k => odd_gets (l := l) hb k)
      have hpn : (gO l).length ≤ n := by rw [← Hll.out]; exact gO_len l
      generalize gL l = y at *
      generalize (gO l).length = p at *
      generalize gE l = E at *
      go_wp2_with fail
      refine (G1.out A n c _ HL.out Hn1.out).mono ?_
      rintro e w1 ⟨A1, c1, rfl, hb1⟩
      have HL := Lib.hid (HL.out.next hb1)
      have HO := Lib.hid (HO.out.callee hb1)
      have HG := Lib.hid (HG.out.callee hb1)
      have HH := Lib.hid (HH.out.trans (hb1.mono HH.out.size))
      clear hb1
      clear o0 o1
      have HL := Lib.hid (HL.out.laid (.cells #[Value.bool y.ha, .int .u32 y.addr.toNat, .bool y.h1, .int .u32 y.dns1.toNat, .bool y.h2, .int .u32 y.dns2.toNat] 24))
      have HO := Lib.hid (HO.out.alloc (.cells #[Value.bool y.ha, .int .u32 y.addr.toNat, .bool y.h1, .int .u32 y.dns1.toNat, .bool y.h2, .int .u32 y.dns2.toNat] 24))
      have HG := Lib.hid (HG.out.callee ((Below.refl w1.heap.size w1).alloc (Nat.le_refl _) (.cells #[Value.bool y.ha, .int .u32 y.addr.toNat, .bool y.h1, .int .u32 y.dns1.toNat, .bool y.h2, .int .u32 y.dns2.toNat] 24)))
      have HY : Hid (LAt (w1.alloc (.cells #[Value.bool y.ha, .int .u32 y.addr.toNat, .bool y.h1, .int .u32 y.dns1.toNat, .bool y.h2, .int .u32 y.dns2.toNat] 24)) w1.heap.size y) := lat_new w1 y
      have HH := Lib.hid (HH.out.alloc HH.out.size (.cells #[Value.bool y.ha, .int .u32 y.addr.toNat, .bool y.h1, .int .u32 y.dns1.toNat, .bool y.h2, .int .u32 y.dns2.toNat] 24))
      by_cases hpos : 0 < n
      · have hp1 : (0 : Int) < (n : Int) := by omega
        go_wp2_with (at_builtin; refine append_opts rfl _ _ 25 rfl (w1.alloc (.cells #[Value.bool y.ha, .int .u32 y.addr.toNat, .bool y.h1, .int .u32 y.dns1.toNat, .bool y.h2, .int .u32 y.dns2.toNat] 24)).heap.size 27 i0 _ 24 Tryd.underlying25 hi hz0 hz1 hz2 rfl (.slice none 0 0) 0 [] rfl (World.ownsRow_nil _ _ _ _) (w1.alloc (.cells #[Value.bool y.ha, .int .u32 y.addr.toNat, .bool y.h1, .int .u32 y.dns1.toNat, .bool y.h2, .int .u32 y.dns2.toNat] 24)).heap.size A n c l HAA.out rfl HL.out (by unfold maxLen; omega) (by omega) (Nat.le_refl _) ?_; intro v1 w2 hown2 hgr2; rw [List.nil_append, Nat.zero_add] at hown2; obtain ⟨g, cap, rfl, hg1, hg2⟩ := own_pos hown2 hpos; have HR := Lib.hid hown2; have HB2 := Lib.hid ((Below.refl (w1.alloc (.cells #[Value.bool y.ha, .int .u32 y.addr.toNat, .bool y.h1, .int .u32 y.dns1.toNat, .bool y.h2, .int .u32 y.dns2.toNat] 24)).heap.size (w1.alloc (.cells #[Value.bool y.ha, .int .u32 y.addr.toNat, .bool y.h1, .int .u32 y.dns1.toNat, .bool y.h2, .int .u32 y.dns2.toNat] 24))).grown hgr2 (Nat.le_refl _) (fun q hq => by cases hq)); clear hown2 hgr2)
        have HL2 := Lib.hid (HL.out.next HB2.out)
        have HO2 := Lib.hid (HO.out.callee HB2.out)
        have HY2 := Lib.hid (HY.out.callee HB2.out)
        have HH2 := Lib.hid (HH.out.trans (HB2.out.mono HH.out.size))
        have hi8 : i.toNat ≤ 255 := by have := i.toNat_lt; omega
        have hk8 : k.toNat ≤ 255 := by have := k.toNat_lt; omega
        have hn0 : ¬ (n : Int) = 0 := by omega
        have hra : (i.toNat : Int).tmod (n : Int) = ((i.toNat % n : Nat) : Int) := rfl
        have hrb : (k.toNat : Int).tmod (n : Int) = ((k.toNat % n : Nat) : Int) := rfl
        have hla : i.toNat % n < n := Nat.mod_lt _ hpos
        have hlb : k.toNat % n < n := Nat.mod_lt _ hpos
        obtain ⟨oa, hoa⟩ : ∃ oa, l[i.toNat % n]? = some oa := ⟨_, List.getElem?_eq_getElem (by rw [Hll.out]; exact hla)⟩
        obtain ⟨ob, hob⟩ : ∃ ob, l[k.toNat % n]? = some ob := ⟨_, List.getElem?_eq_getElem (by rw [Hll.out]; exact hlb)⟩
        generalize i.toNat % n = a at *
        generalize k.toNat % n = b at *
        obtain ⟨ca0, ca1, fa0, fa1⟩ := own_at HR.out hoa
        obtain ⟨cb0, cb1, fb0, fb1⟩ := own_at HR.out hob
        have G3 := Lib.hid (G2.out a b oa ob hoa hob)
        have HOA := Lib.hid hoa
        have HOB := Lib.hid hob
        clear hoa hob
        have ha1 : ¬ (n : Int) ≤ (a : Int) := by omega
        have ha2 : decide ((n : Int) ≤ (a : Int)) = false := decide_eq_false ha1
        have hb1 : ¬ (n : Int) ≤ (b : Int) := by omega
        have hb2 : decide ((n : Int) ≤ (b : Int)) = false := decide_eq_false hb1
        clear ca0 ca1 fa0 fa1 cb0 cb1 fb0 fb1
        go_wp2
        go_quiet (fail)
        generalize hw3 : World.drewN w2 _ = w3
        have HR3 : Hid (w3.ownsRow (w1.alloc (.cells #[Value.bool y.ha, .int .u32 y.addr.toNat, .bool y.h1, .int .u32 y.dns1.toNat, .bool y.h2, .int .u32 y.dns2.toNat] 24)).heap.size 27 2 (.slice (some ⟨g, 0, none⟩) n cap) n (optsV l)) := by rw [← hw3]; exact HR.out
        have HB3 : Hid (Below (w1.alloc (.cells #[Value.bool y.ha, .int .u32 y.addr.toNat, .bool y.h1, .int .u32 y.dns1.toNat, .bool y.h2, .int .u32 y.dns2.toNat] 24)).heap.size (w1.alloc (.cells #[Value.bool y.ha, .int .u32 y.addr.toNat, .bool y.h1, .int .u32 y.dns1.toNat, .bool y.h2, .int .u32 y.dns2.toNat] 24)) w3) := by rw [← hw3]; exact HB2.out.drewN' _
        have hg3 : g < w3.heap.size := by rw [← hw3]; exact hg2
        clear hw3
        obtain ⟨ca0, ca1, _, _⟩ := own_at HR3.out HOA.out
        have HR4 := Lib.hid (HR3.out.alloc (.cells #[.int .u8 oa.1.toNat, .string oa.2] 27))
        have HW4 := Lib.hid (at_new w3 oa.1 oa.2)
        obtain ⟨cb0, cb1, _, _⟩ := own_at HR4.out HOB.out
        obtain ⟨da0, da1, fa0, fa1⟩ := own_at HR4.out HOA.out
        obtain ⟨ea1, ga1⟩ := own_mid HR4.out HOA.out (.int .u8 ob.1.toNat)
        have HR5 := Lib.hid ((own_set HR3.out a ob).alloc (.cells #[.int .u8 oa.1.toNat, .string oa.2] 27))
        have HW5 : Hid (At (((w3.setCell ⟨g, a * 2, none⟩ (.int .u8 ob.1.toNat)).setCell ⟨g, a * 2 + 1, none⟩ (.string ob.2)).alloc (.cells #[.int .u8 oa.1.toNat, .string oa.2] 27)) w3.heap.size (oa.1, oa.2)) := by
          have h := at_new ((w3.setCell ⟨g, a * 2, none⟩ (.int .u8 ob.1.toNat)).setCell ⟨g, a * 2 + 1, none⟩ (.string ob.2)) oa.1 oa.2
          rw [show ((w3.setCell ⟨g, a * 2, none⟩ (.int .u8 ob.1.toNat)).setCell ⟨g, a * 2 + 1, none⟩ (.string ob.2)).heap.size = w3.heap.size by simp] at h
          exact h
        obtain ⟨oq, hoq⟩ : ∃ oq, (l.set a ob)[b]? = some oq := ⟨_, List.getElem?_eq_getElem (by rw [List.length_set, Hll.out]; exact hlb)⟩
        have HB5 := Lib.hid (((HB3.out.setCell (p := ⟨g, a * 2, none⟩) hg1 (.int .u8 ob.1.toNat)).setCell (p := ⟨g, a * 2 + 1, none⟩) hg1 (.string ob.2)).alloc (Nat.le_trans HB3.out.size (by simp)) (.cells #[.int .u8 oa.1.toNat, .string oa.2] 27))
        go_upto_region 9 with fail
        generalize hw5 : ((w3.setCell ⟨g, a * 2, none⟩ (.int .u8 ob.1.toNat)).setCell ⟨g, a * 2 + 1, none⟩ (.string ob.2)).alloc (.cells #[.int .u8 oa.1.toNat, .string oa.2] 27) = w5
        rw [hw5] at HR5 HW5 HB5
        clear hw5 ca0 ca1 cb0 cb1 da0 da1 fa0 fa1 ea1 ga1
        have wb0 := HW5.out.at_ 0
        have wb1 := HW5.out.at_ 1
        simp only [List.getElem?_cons_zero, List.getElem?_cons_succ] at wb0 wb1
        obtain ⟨dq0, dq1, fq0, fq1⟩ := own_at HR5.out hoq
        obtain ⟨eq1, gq1⟩ := own_mid HR5.out hoq (.int .u8 oa.1.toNat)
        have HR6 := Lib.hid (own_set HR5.out b oa)
        clear hoq
        have HB6 := Lib.hid ((HB5.out.setCell (p := ⟨g, b * 2, none⟩) hg1 (.int .u8 oa.1.toNat)).setCell (p := ⟨g, b * 2 + 1, none⟩) hg1 (.string oa.2))
        have HS6 := Lib.hid (row_opts HR6.out (swp_size HOA.out HOB.out HL.out.2.1))
        have HLl := Lib.hid (HL.out.next HB6.out)
        have HOo := Lib.hid (HO.out.callee HB6.out)
        have HYy := Lib.hid (HY.out.callee HB6.out)
        have HHh := Lib.hid (HH.out.trans (HB6.out.mono HH.out.size))
        have HGg := Lib.hid (HG.out.callee HB6.out)
        go_wp2_with fail
        refine (G3.out (some ⟨g, 0, none⟩) n cap _ HS6.out Hn1.out).mono ?_
        rintro e w7 ⟨A7, c7, rfl, hb7⟩
        clear HG HL HO HY HH HR HR3 HR4 HR5 HR6 HW4 HW5 HB2 HB3 HB5 HB6 HS6 HL2 HO2 HY2 HH2 wb0 wb1 dq0 dq1 fq0 fq1 eq1 gq1 G2 G3 HOA HOB
        have HL := Lib.hid (HLl.out.next hb7)
        have HO := Lib.hid (HOo.out.callee hb7)
        have HY := Lib.hid (HYy.out.callee hb7)
        have HH := Lib.hid (HHh.out.trans (hb7.mono HHh.out.size))
        have HG := Lib.hid (HGg.out.callee hb7)
        clear HLl HOo HYy HHh HGg hb7
        have HL := Lib.hid (HL.out.laid (.cells #[Value.bool y.ha, .int .u32 y.addr.toNat, .bool y.h1, .int .u32 y.dns1.toNat, .bool y.h2, .int .u32 y.dns2.toNat] 24))
        have HO := Lib.hid (HO.out.alloc (.cells #[Value.bool y.ha, .int .u32 y.addr.toNat, .bool y.h1, .int .u32 y.dns1.toNat, .bool y.h2, .int .u32 y.dns2.toNat] 24))
        have HY := Lib.hid (HY.out.alloc (.cells #[Value.bool y.ha, .int .u32 y.addr.toNat, .bool y.h1, .int .u32 y.dns1.toNat, .bool y.h2, .int .u32 y.dns2.toNat] 24))
        have HG := Lib.hid (HG.out.callee ((Below.refl w7.heap.size w7).alloc (Nat.le_refl _) (.cells #[Value.bool y.ha, .int .u32 y.addr.toNat, .bool y.h1, .int .u32 y.dns1.toNat, .bool y.h2, .int .u32 y.dns2.toNat] 24)))
        have HZ : Hid (LAt (w7.alloc (.cells #[Value.bool y.ha, .int .u32 y.addr.toNat, .bool y.h1, .int .u32 y.dns1.toNat, .bool y.h2, .int .u32 y.dns2.toNat] 24)) w7.heap.size y) := lat_new w7 y
        have HH := Lib.hid (HH.out.alloc HH.out.size (.cells #[Value.bool y.ha, .int .u32 y.addr.toNat, .bool y.h1, .int .u32 y.dns1.toNat, .bool y.h2, .int .u32 y.dns2.toNat] 24))
        have ya0 : (w7.alloc (.cells #[Value.bool y.ha, .int .u32 y.addr.toNat, .bool y.h1, .int .u32 y.dns1.toNat, .bool y.h2, .int .u32 y.dns2.toNat] 24)).cell? ⟨w1.heap.size, 0, none⟩ = some (Value.bool y.ha) := HY.out.c 0
        have ya1 : (w7.alloc (.cells #[Value.bool y.ha, .int .u32 y.addr.toNat, .bool y.h1, .int .u32 y.dns1.toNat, .bool y.h2, .int .u32 y.dns2.toNat] 24)).cell? ⟨w1.heap.size, 1, none⟩ = some (.int .u32 y.addr.toNat) := HY.out.c 1
        have ya2 : (w7.alloc (.cells #[Value.bool y.ha, .int .u32 y.addr.toNat, .bool y.h1, .int .u32 y.dns1.toNat, .bool y.h2, .int .u32 y.dns2.toNat] 24)).cell? ⟨w1.heap.size, 2, none⟩ = some (.bool y.h1) := HY.out.c 2
        have ya3 : (w7.alloc (.cells #[Value.bool y.ha, .int .u32 y.addr.toNat, .bool y.h1, .int .u32 y.dns1.toNat, .bool y.h2, .int .u32 y.dns2.toNat] 24)).cell? ⟨w1.heap.size, 3, none⟩ = some (.int .u32 y.dns1.toNat) := HY.out.c 3
        have ya4 : (w7.alloc (.cells #[Value.bool y.ha, .int .u32 y.addr.toNat, .bool y.h1, .int .u32 y.dns1.toNat, .bool y.h2, .int .u32 y.dns2.toNat] 24)).cell? ⟨w1.heap.size, 4, none⟩ = some (.bool y.h2) := HY.out.c 4
        have ya5 : (w7.alloc (.cells #[Value.bool y.ha, .int .u32 y.addr.toNat, .bool y.h1, .int .u32 y.dns1.toNat, .bool y.h2, .int .u32 y.dns2.toNat] 24)).cell? ⟨w1.heap.size, 5, none⟩ = some (.int .u32 y.dns2.toNat) := HY.out.c 5
        have yb0 : (w7.alloc (.cells #[Value.bool y.ha, .int .u32 y.addr.toNat, .bool y.h1, .int .u32 y.dns1.toNat, .bool y.h2, .int .u32 y.dns2.toNat] 24)).cell? ⟨w7.heap.size, 0, none⟩ = some (Value.bool y.ha) := HZ.out.c 0
        have yb1 : (w7.alloc (.cells #[Value.bool y.ha, .int .u32 y.addr.toNat, .bool y.h1, .int .u32 y.dns1.toNat, .bool y.h2, .int .u32 y.dns2.toNat] 24)).cell? ⟨w7.heap.size, 1, none⟩ = some (.int .u32 y.addr.toNat) := HZ.out.c 1
        have yb2 : (w7.alloc (.cells #[Value.bool y.ha, .int .u32 y.addr.toNat, .bool y.h1, .int .u32 y.dns1.toNat, .bool y.h2, .int .u32 y.dns2.toNat] 24)).cell? ⟨w7.heap.size, 2, none⟩ = some (.bool y.h1) := HZ.out.c 2
        have yb3 : (w7.alloc (.cells #[Value.bool y.ha, .int .u32 y.addr.toNat, .bool y.h1, .int .u32 y.dns1.toNat, .bool y.h2, .int .u32 y.dns2.toNat] 24)).cell? ⟨w7.heap.size, 3, none⟩ = some (.int .u32 y.dns1.toNat) := HZ.out.c 3
        have yb4 : (w7.alloc (.cells #[Value.bool y.ha, .int .u32 y.addr.toNat, .bool y.h1, .int .u32 y.dns1.toNat, .bool y.h2, .int .u32 y.dns2.toNat] 24)).cell? ⟨w7.heap.size, 4, none⟩ = some (.bool y.h2) := HZ.out.c 4
        have yb5 : (w7.alloc (.cells #[Value.bool y.ha, .int .u32 y.addr.toNat, .bool y.h1, .int .u32 y.dns1.toNat, .bool y.h2, .int .u32 y.dns2.toNat] 24)).cell? ⟨w7.heap.size, 5, none⟩ = some (.int .u32 y.dns2.toNat) := HZ.out.c 5
        have r0 : ∀ W, (Op.equalIn 10000 24 (.agg #[Value.bool y.ha, .int .u32 y.addr.toNat, .bool y.h1, .int .u32 y.dns1.toNat, .bool y.h2, .int .u32 y.dns2.toNat]) (.agg #[Value.bool y.ha, .int .u32 y.addr.toNat, .bool y.h1, .int .u32 y.dns1.toNat, .bool y.h2, .int .u32 y.dns2.toNat])).run Tryd.prog W = .ok true W := ipc_eq (decide_eq_true rfl)
        have r1 : ∀ W, (binOp .neq 24 (.agg #[Value.bool y.ha, .int .u32 y.addr.toNat, .bool y.h1, .int .u32 y.dns1.toNat, .bool y.h2, .int .u32 y.dns2.toNat]) (.agg #[Value.bool y.ha, .int .u32 y.addr.toNat, .bool y.h1, .int .u32 y.dns1.toNat, .bool y.h2, .int .u32 y.dns2.toNat])).run Tryd.prog W = .ok (.bool false) W := ipc_neq (decide_eq_true rfl)
        have o0 := HO.out.c0
        have o1 := HO.out.c1
        simp only at o0 o1
        have C1 := Lib.hid (fun W => good_any t d W HDM.out)
        cases hgd : good (t, d)
        case true =>
          rw [hgd] at C1
          clear hgd
          go_wp2_with fail
          refine (C1.out _).mono ?_
          rintro e w8 ⟨rfl, hb8⟩
          have HL := Lib.hid (HL.out.next hb8)
          have HO := Lib.hid (HO.out.callee hb8)
          have HY := Lib.hid (HY.out.callee hb8)
          have HG := Lib.hid (HG.out.callee hb8)
          have HH := Lib.hid (HH.out.trans (hb8.mono HH.out.size))
          clear hb8
          clear r0 r1
          clear ya0 ya1 ya2 ya3 ya4 ya5
          clear yb0 yb1 yb2 yb3 yb4 yb5
          clear o0 o1
          go_wp2_with fail
          refine (alive_any _ HG.out).mono ?_
          rintro e w9 ⟨rfl, hb9⟩
          have HL := Lib.hid (HL.out.next hb9)
          have HO := Lib.hid (HO.out.callee hb9)
          have HY := Lib.hid (HY.out.callee hb9)
          have HG := Lib.hid (HG.out.callee hb9)
          have HH := Lib.hid (HH.out.trans (hb9.mono HH.out.size))
          clear hb9
          go_wp2
          go_ret
          exact ⟨rfl, HH.out⟩
        case false =>
          rw [hgd] at C1
          have HGD := Lib.hid hgd
          clear hgd
          go_wp2_with fail
          refine (C1.out _).mono ?_
          rintro e w8 ⟨rfl, hb8⟩
          have HL := Lib.hid (HL.out.next hb8)
          have HO := Lib.hid (HO.out.callee hb8)
          have HY := Lib.hid (HY.out.callee hb8)
          have HG := Lib.hid (HG.out.callee hb8)
          have HH := Lib.hid (HH.out.trans (hb8.mono HH.out.size))
          clear hb8
          clear r0 r1
          clear ya0 ya1 ya2 ya3 ya4 ya5
          clear yb0 yb1 yb2 yb3 yb4 yb5
          have ha8 : at_.toNat ≤ 255 := by have := at_.toNat_lt; omega
          have hn1 : ¬ ((n : Int) + 1 = 0) := by omega
          have hrq : (at_.toNat : Int).tmod ((n : Int) + 1) = ((at_.toNat % (n + 1) : Nat) : Int) := rfl
          have hqn : at_.toNat % (n + 1) ≤ n := Nat.lt_succ_iff.1 (Nat.mod_lt _ (Nat.succ_pos n))
          have GQ := Lib.hid (G4.out HGD.out (at_.toNat % (n + 1)))
          generalize at_.toNat % (n + 1) = q at *
          clear G4 HGD
          have hs1 := fun W => run_front (P := Tryd.prog) 25 Tryd.underlying25 (fun W => by kernel_rfl) A n c q (Nat.le_trans hqn hnc) W
          have hs2 := fun W => run_rest (P := Tryd.prog) 25 Tryd.underlying25 (fun W => by kernel_rfl) A n c q hqn hnc W
          have HR1 := Lib.hid (opts_take HL.out hqn)
          have HR2 := Lib.hid (opts_rest HL.out HAA.out hqn hnc)
          have HQN := Lib.hid hqn
          have HNC := Lib.hid hnc
          have hq0 : (0 : Int) ≤ (q : Int) := by omega
          generalize restA A c q = A2 at *
          obtain ⟨n2, hn2⟩ : ∃ n2, n - q = n2 := ⟨_, rfl⟩
          obtain ⟨c2, hc2⟩ : ∃ c2, c - q = c2 := ⟨_, rfl⟩
          rw [hn2] at HR2
          rw [hc2] at HR2
          simp only [hn2, hc2] at hs2
          have HN2 : Hid (q + 1 + n2 = n + 1) := by show _ = _; omega
          clear hn2 hc2 hqn
          have hbb : q ≤ 1000 ∧ n2 ≤ 1000 := by have h1 := HN2.out; have h2 := Hn1.out; omega
          obtain ⟨hq1000, hn21000⟩ := hbb
          have hwV : w.heap.size < w8.heap.size := Blk.lt HO.out
          go_wp2_with (at_builtin; refine append_opts rfl _ _ 25 rfl w8.heap.size 27 i0 _ 24 Tryd.underlying25 hi hz0 hz1 hz2 rfl (.slice none 0 0) 0 [] rfl (World.ownsRow_nil _ _ _ _) w8.heap.size A q c (l.take q) HAA.out rfl HR1.out (by unfold maxLen; omega) (by omega) (Nat.le_refl _) ?_; intro va wa howna hgra; rw [List.nil_append, Nat.zero_add] at howna; have HRa := Lib.hid howna; have HBa := Lib.hid ((Below.refl w8.heap.size w8).grown hgra (Nat.le_refl _) (fun j hj => by cases hj)); clear howna hgra)
          have HOa := Lib.hid (HO.out.below HBa.out hwV)
          have HOb := Lib.hid (HOa.out.alloc (.cells #[.int .u8 t.toNat, .string d] 27))
          have HA2 := Lib.hid HR2.out.2
          have hBsz := HBa.out.size
          have p0 : wa.drew.cell? ⟨w.heap.size, 0, none⟩ = some (.int .u8 t.toNat) := HOa.out.c0
          have p1 : wa.drew.cell? ⟨w.heap.size, 1, none⟩ = some (.string d) := HOa.out.c1
          have q0 : (wa.alloc (.cells #[.int .u8 t.toNat, .string d] 27)).drew.cell? ⟨w.heap.size, 0, none⟩ = some (.int .u8 t.toNat) := HOb.out.c0
          have q1 : (wa.alloc (.cells #[.int .u8 t.toNat, .string d] 27)).drew.cell? ⟨w.heap.size, 1, none⟩ = some (.string d) := HOb.out.c1
          go_wp2
          go_region_held3 (fun w' => w'.cell? ⟨w.heap.size, 0, none⟩ = some (.int .u8 t.toNat) ∧ w'.cell? ⟨w.heap.size, 1, none⟩ = some (.string d))
            (first | assumption | (refine ⟨?_, ?_⟩ <;> assumption) | (go_split_ands; refine ⟨?_, ?_⟩ <;> assumption))
            (first
              | (refine Row.step_append_any ((wa.alloc (.cells #[.int .u8 t.toNat, .string d] 27)).drew) (by rfl) _ _ _ (by rfl) w8.heap.size 27 i0 _ 2 24 Tryd.underlying25 hi hz0 hz1 hz2 rfl (by decide) va q (optsV (l.take q)) (by rfl) (HRa.out.alloc _) ⟨wa.heap.size, 0, none⟩ 1 1 (optsV [(t, d)]) (by rfl) (by rfl) (by rw [optsV_one]; exact cells_new _ _ _) (optsV_ones _) (by unfold maxLen; omega) (by omega) (by show _ ≤ (wa.alloc _).heap.size; simp; omega) ?_; intro vb wb hownb hgrb _; rw [← optsV_append] at hownb; have HBb := Lib.hid (HBa.out.trans (((Below.refl w8.heap.size wa).alloc hBsz (.cells #[.int .u8 t.toNat, .string d] 27)).drew.grown hgrb (by show _ ≤ (wa.alloc _).heap.size; simp; omega) (fun j hj => (HRa.out.lt j hj).1))); have y0 : wb.cell? ⟨w.heap.size, 0, none⟩ = some (.int .u8 t.toNat) := (HO.out.below HBb.out hwV).c0; have y1 : wb.cell? ⟨w.heap.size, 1, none⟩ = some (.string d) := (HO.out.below HBb.out hwV).c1)
              | (refine step_append_opts wb (by rfl) _ _ _ (by rfl) w8.heap.size 27 i0 _ 24 Tryd.underlying25 hi hz0 hz1 hz2 rfl vb (q + 1) (l.take q ++ [(t, d)]) (by rfl) hownb w8.heap.size A2 n2 c2 (l.drop q) HA2.out (by rfl) (HR2.out.1.below HBb.out) (by unfold maxLen; omega) (by omega) HBb.out.size ?_; intro vc wc hownc hgrc; have HBc := Lib.hid (HBb.out.trans ((Below.refl w8.heap.size wb).grown hgrc HBb.out.size (fun j hj => (hownb.lt j hj).1))); have z0 : wc.cell? ⟨w.heap.size, 0, none⟩ = some (.int .u8 t.toNat) := (HO.out.below HBc.out hwV).c0; have z1 : wc.cell? ⟨w.heap.size, 1, none⟩ = some (.string d) := (HO.out.below HBc.out hwV).c1)
              | fail)
          go_wp2_with fail
          clear p0 p1 q0 q1 y0 y1 z0 z1 HRa HBa HOa HOb HA2 HR1 HR2 hs1 hs2 hgrc hgrb hownb HBb HQN HNC
          rw [HN2.out] at hownc
          have hdS : d.size ≤ 140737488351232 := by omega
          obtain ⟨A9, c9, rfl, hr9⟩ := opts_own hownc (by intro o ho; rcases List.mem_append.1 ho with h | h; rcases List.mem_append.1 h with h | h; exact HL.out.2.1 o (List.mem_of_mem_take h); rw [List.mem_singleton.1 h]; exact hdS; exact HL.out.2.1 o (List.mem_of_mem_drop h))
          clear hownc hdS
          have G6 := Lib.hid (get_w _ A9 (n + 1) c9 wc hr9 (by omega))
          have HP := Lib.hid GQ.out.2.2
          rw [GQ.out.1, GQ.out.2.1] at G6
          generalize (gO (l.take q ++ [(t, d)] ++ l.drop q)).length = p2 at *
          clear GQ hr9
          have HLl := Lib.hid ((HL.out.below HBc.out).more HBc.out.size)
          have HOo := Lib.hid (HO.out.below HBc.out hwV)
          have HYy := Lib.hid (HY.out.below HBc.out HY.out.lt)
          have HHh := Lib.hid (HH.out.trans (HBc.out.mono HH.out.size))
          have HGg := Lib.hid (HG.out.callee HBc.out)
          clear HL HO HY HH HBc HG
          have HL := HLl
          have HO := HOo
          have HY := HYy
          have HH := HHh
          have HG := HGg
          clear HLl HOo HYy HHh HGg
          refine (G6.out).mono ?_
          rintro e w20 ⟨A10, c10, rfl, hb20⟩
          clear G6
          have HL := Lib.hid (HL.out.next hb20)
          have HO := Lib.hid (HO.out.callee hb20)
          have HY := Lib.hid (HY.out.callee hb20)
          have HG := Lib.hid (HG.out.callee hb20)
          have HH := Lib.hid (HH.out.trans (hb20.mono HH.out.size))
          clear hb20
          have HL := Lib.hid (HL.out.laid (.cells #[Value.bool y.ha, .int .u32 y.addr.toNat, .bool y.h1, .int .u32 y.dns1.toNat, .bool y.h2, .int .u32 y.dns2.toNat] 24))
          have HO := Lib.hid (HO.out.alloc (.cells #[Value.bool y.ha, .int .u32 y.addr.toNat, .bool y.h1, .int .u32 y.dns1.toNat, .bool y.h2, .int .u32 y.dns2.toNat] 24))
          have HY := Lib.hid (HY.out.alloc (.cells #[Value.bool y.ha, .int .u32 y.addr.toNat, .bool y.h1, .int .u32 y.dns1.toNat, .bool y.h2, .int .u32 y.dns2.toNat] 24))
          have HG := Lib.hid (HG.out.callee ((Below.refl w20.heap.size w20).alloc (Nat.le_refl _) (.cells #[Value.bool y.ha, .int .u32 y.addr.toNat, .bool y.h1, .int .u32 y.dns1.toNat, .bool y.h2, .int .u32 y.dns2.toNat] 24)))
          have HX : Hid (LAt (w20.alloc (.cells #[Value.bool y.ha, .int .u32 y.addr.toNat, .bool y.h1, .int .u32 y.dns1.toNat, .bool y.h2, .int .u32 y.dns2.toNat] 24)) w20.heap.size y) := lat_new w20 y
          have HH := Lib.hid (HH.out.alloc HH.out.size (.cells #[Value.bool y.ha, .int .u32 y.addr.toNat, .bool y.h1, .int .u32 y.dns1.toNat, .bool y.h2, .int .u32 y.dns2.toNat] 24))
          have ya0 : (w20.alloc (.cells #[Value.bool y.ha, .int .u32 y.addr.toNat, .bool y.h1, .int .u32 y.dns1.toNat, .bool y.h2, .int .u32 y.dns2.toNat] 24)).cell? ⟨w1.heap.size, 0, none⟩ = some (Value.bool y.ha) := HY.out.c 0
          have ya1 : (w20.alloc (.cells #[Value.bool y.ha, .int .u32 y.addr.toNat, .bool y.h1, .int .u32 y.dns1.toNat, .bool y.h2, .int .u32 y.dns2.toNat] 24)).cell? ⟨w1.heap.size, 1, none⟩ = some (.int .u32 y.addr.toNat) := HY.out.c 1
          have ya2 : (w20.alloc (.cells #[Value.bool y.ha, .int .u32 y.addr.toNat, .bool y.h1, .int .u32 y.dns1.toNat, .bool y.h2, .int .u32 y.dns2.toNat] 24)).cell? ⟨w1.heap.size, 2, none⟩ = some (.bool y.h1) := HY.out.c 2
          have ya3 : (w20.alloc (.cells #[Value.bool y.ha, .int .u32 y.addr.toNat, .bool y.h1, .int .u32 y.dns1.toNat, .bool y.h2, .int .u32 y.dns2.toNat] 24)).cell? ⟨w1.heap.size, 3, none⟩ = some (.int .u32 y.dns1.toNat) := HY.out.c 3
          have ya4 : (w20.alloc (.cells #[Value.bool y.ha, .int .u32 y.addr.toNat, .bool y.h1, .int .u32 y.dns1.toNat, .bool y.h2, .int .u32 y.dns2.toNat] 24)).cell? ⟨w1.heap.size, 4, none⟩ = some (.bool y.h2) := HY.out.c 4
          have ya5 : (w20.alloc (.cells #[Value.bool y.ha, .int .u32 y.addr.toNat, .bool y.h1, .int .u32 y.dns1.toNat, .bool y.h2, .int .u32 y.dns2.toNat] 24)).cell? ⟨w1.heap.size, 5, none⟩ = some (.int .u32 y.dns2.toNat) := HY.out.c 5
          have yb0 : (w20.alloc (.cells #[Value.bool y.ha, .int .u32 y.addr.toNat, .bool y.h1, .int .u32 y.dns1.toNat, .bool y.h2, .int .u32 y.dns2.toNat] 24)).cell? ⟨w20.heap.size, 0, none⟩ = some (Value.bool y.ha) := HX.out.c 0
          have yb1 : (w20.alloc (.cells #[Value.bool y.ha, .int .u32 y.addr.toNat, .bool y.h1, .int .u32 y.dns1.toNat, .bool y.h2, .int .u32 y.dns2.toNat] 24)).cell? ⟨w20.heap.size, 1, none⟩ = some (.int .u32 y.addr.toNat) := HX.out.c 1
          have yb2 : (w20.alloc (.cells #[Value.bool y.ha, .int .u32 y.addr.toNat, .bool y.h1, .int .u32 y.dns1.toNat, .bool y.h2, .int .u32 y.dns2.toNat] 24)).cell? ⟨w20.heap.size, 2, none⟩ = some (.bool y.h1) := HX.out.c 2
          have yb3 : (w20.alloc (.cells #[Value.bool y.ha, .int .u32 y.addr.toNat, .bool y.h1, .int .u32 y.dns1.toNat, .bool y.h2, .int .u32 y.dns2.toNat] 24)).cell? ⟨w20.heap.size, 3, none⟩ = some (.int .u32 y.dns1.toNat) := HX.out.c 3
          have yb4 : (w20.alloc (.cells #[Value.bool y.ha, .int .u32 y.addr.toNat, .bool y.h1, .int .u32 y.dns1.toNat, .bool y.h2, .int .u32 y.dns2.toNat] 24)).cell? ⟨w20.heap.size, 4, none⟩ = some (.bool y.h2) := HX.out.c 4
          have yb5 : (w20.alloc (.cells #[Value.bool y.ha, .int .u32 y.addr.toNat, .bool y.h1, .int .u32 y.dns1.toNat, .bool y.h2, .int .u32 y.dns2.toNat] 24)).cell? ⟨w20.heap.size, 5, none⟩ = some (.int .u32 y.dns2.toNat) := HX.out.c 5
          have r0 : ∀ W, (Op.equalIn 10000 24 (.agg #[Value.bool y.ha, .int .u32 y.addr.toNat, .bool y.h1, .int .u32 y.dns1.toNat, .bool y.h2, .int .u32 y.dns2.toNat]) (.agg #[Value.bool y.ha, .int .u32 y.addr.toNat, .bool y.h1, .int .u32 y.dns1.toNat, .bool y.h2, .int .u32 y.dns2.toNat])).run Tryd.prog W = .ok true W := ipc_eq (decide_eq_true rfl)
          have r1 : ∀ W, (binOp .eql 24 (.agg #[Value.bool y.ha, .int .u32 y.addr.toNat, .bool y.h1, .int .u32 y.dns1.toNat, .bool y.h2, .int .u32 y.dns2.toNat]) (.agg #[Value.bool y.ha, .int .u32 y.addr.toNat, .bool y.h1, .int .u32 y.dns1.toNat, .bool y.h2, .int .u32 y.dns2.toNat])).run Tryd.prog W = .ok (.bool true) W := ipc_eql (decide_eq_true rfl)
          by_cases hE : E = 0
          · subst hE
            have hp2 := HP.out rfl
            subst hp2
            have e0 : (((0 : Nat) : Int) != 0) = false := rfl
            have e1 : (((p + 1 : Nat) : Int) == (p : Int) + 1) = true := by simp
            go_wp2_with fail
            refine (alive_any _ HG.out).mono ?_
            rintro e w21 ⟨rfl, hb21⟩
            have HL := Lib.hid (HL.out.next hb21)
            have HO := Lib.hid (HO.out.callee hb21)
            have HY := Lib.hid (HY.out.callee hb21)
            have HX := Lib.hid (HX.out.callee hb21)
            have HG := Lib.hid (HG.out.callee hb21)
            have HH := Lib.hid (HH.out.trans (hb21.mono HH.out.size))
            clear hb21
            go_wp2
            go_ret
            exact ⟨rfl, HH.out⟩
          · have e0 : ((E : Int) != 0) = true := by simpa using hE
            clear hE HP
            go_wp2_with fail
            refine (alive_any _ HG.out).mono ?_
            rintro e w21 ⟨rfl, hb21⟩
            have HL := Lib.hid (HL.out.next hb21)
            have HO := Lib.hid (HO.out.callee hb21)
            have HY := Lib.hid (HY.out.callee hb21)
            have HX := Lib.hid (HX.out.callee hb21)
            have HG := Lib.hid (HG.out.callee hb21)
            have HH := Lib.hid (HH.out.trans (hb21.mono HH.out.size))
            clear hb21
            go_wp2
            go_ret
            exact ⟨rfl, HH.out⟩
      · have hp1 : ¬ (0 : Int) < (n : Int) := by omega
        have o0 := HO.out.c0
        have o1 := HO.out.c1
        simp only at o0 o1
        have C1 := Lib.hid (fun W => good_any t d W HDM.out)
        cases hgd : good (t, d)
        case true =>
          rw [hgd] at C1
          clear hgd
          go_wp2_with fail
          refine (C1.out _).mono ?_
          rintro e w2 ⟨rfl, hb2⟩
          have HL := Lib.hid (HL.out.next hb2)
          have HO := Lib.hid (HO.out.callee hb2)
          have HY := Lib.hid (HY.out.callee hb2)
          have HG := Lib.hid (HG.out.callee hb2)
          have HH := Lib.hid (HH.out.trans (hb2.mono HH.out.size))
          clear hb2
          clear o0 o1
          go_wp2_with fail
          refine (alive_any _ HG.out).mono ?_
          rintro e w3 ⟨rfl, hb3⟩
          have HL := Lib.hid (HL.out.next hb3)
          have HO := Lib.hid (HO.out.callee hb3)
          have HY := Lib.hid (HY.out.callee hb3)
          have HG := Lib.hid (HG.out.callee hb3)
          have HH := Lib.hid (HH.out.trans (hb3.mono HH.out.size))
          clear hb3
          go_wp2
          go_ret
          exact ⟨rfl, HH.out⟩
        case false =>
          rw [hgd] at C1
          have HGD := Lib.hid hgd
          clear hgd
          go_wp2_with fail
          refine (C1.out _).mono ?_
          rintro e w2 ⟨rfl, hb2⟩
          have HL := Lib.hid (HL.out.next hb2)
          have HO := Lib.hid (HO.out.callee hb2)
          have HY := Lib.hid (HY.out.callee hb2)
          have HG := Lib.hid (HG.out.callee hb2)
          have HH := Lib.hid (HH.out.trans (hb2.mono HH.out.size))
          clear hb2
          have ha8 : at_.toNat ≤ 255 := by have := at_.toNat_lt; omega
          have hn1 : ¬ ((n : Int) + 1 = 0) := by omega
          have hrq : (at_.toNat : Int).tmod ((n : Int) + 1) = ((at_.toNat % (n + 1) : Nat) : Int) := rfl
          have hqn : at_.toNat % (n + 1) ≤ n := Nat.lt_succ_iff.1 (Nat.mod_lt _ (Nat.succ_pos n))
          have GQ := Lib.hid (G4.out HGD.out (at_.toNat % (n + 1)))
          generalize at_.toNat % (n + 1) = q at *
          clear G4 HGD
          have hs1 := fun W => run_front (P := Tryd.prog) 25 Tryd.underlying25 (fun W => by kernel_rfl) A n c q (Nat.le_trans hqn hnc) W
          have hs2 := fun W => run_rest (P := Tryd.prog) 25 Tryd.underlying25 (fun W => by kernel_rfl) A n c q hqn hnc W
          have HR1 := Lib.hid (opts_take HL.out hqn)
          have HR2 := Lib.hid (opts_rest HL.out HAA.out hqn hnc)
          have HQN := Lib.hid hqn
          have HNC := Lib.hid hnc
          have hq0 : (0 : Int) ≤ (q : Int) := by omega
          generalize restA A c q = A2 at *
          obtain ⟨n2, hn2⟩ : ∃ n2, n - q = n2 := ⟨_, rfl⟩
          obtain ⟨c2, hc2⟩ : ∃ c2, c - q = c2 := ⟨_, rfl⟩
          rw [hn2] at HR2
          rw [hc2] at HR2
          simp only [hn2, hc2] at hs2
          have HN2 : Hid (q + 1 + n2 = n + 1) := by show _ = _; omega
          clear hn2 hc2 hqn
          have hbb : q ≤ 1000 ∧ n2 ≤ 1000 := by have h1 := HN2.out; have h2 := Hn1.out; omega
          obtain ⟨hq1000, hn21000⟩ := hbb
          have hwV : w.heap.size < w2.heap.size := Blk.lt HO.out
          go_wp2_with (at_builtin; refine append_opts rfl _ _ 25 rfl w2.heap.size 27 i0 _ 24 Tryd.underlying25 hi hz0 hz1 hz2 rfl (.slice none 0 0) 0 [] rfl (World.ownsRow_nil _ _ _ _) w2.heap.size A q c (l.take q) HAA.out rfl HR1.out (by unfold maxLen; omega) (by omega) (Nat.le_refl _) ?_; intro va wa howna hgra; rw [List.nil_append, Nat.zero_add] at howna; have HRa := Lib.hid howna; have HBa := Lib.hid ((Below.refl w2.heap.size w2).grown hgra (Nat.le_refl _) (fun j hj => by cases hj)); clear howna hgra)
          have HOa := Lib.hid (HO.out.below HBa.out hwV)
          have HOb := Lib.hid (HOa.out.alloc (.cells #[.int .u8 t.toNat, .string d] 27))
          have HA2 := Lib.hid HR2.out.2
          have hBsz := HBa.out.size
          have p0 : wa.drew.cell? ⟨w.heap.size, 0, none⟩ = some (.int .u8 t.toNat) := HOa.out.c0
          have p1 : wa.drew.cell? ⟨w.heap.size, 1, none⟩ = some (.string d) := HOa.out.c1
          have q0 : (wa.alloc (.cells #[.int .u8 t.toNat, .string d] 27)).drew.cell? ⟨w.heap.size, 0, none⟩ = some (.int .u8 t.toNat) := HOb.out.c0
          have q1 : (wa.alloc (.cells #[.int .u8 t.toNat, .string d] 27)).drew.cell? ⟨w.heap.size, 1, none⟩ = some (.string d) := HOb.out.c1
          go_wp2
          go_region_held3 (fun w' => w'.cell? ⟨w.heap.size, 0, none⟩ = some (.int .u8 t.toNat) ∧ w'.cell? ⟨w.heap.size, 1, none⟩ = some (.string d))
            (first | assumption | (refine ⟨?_, ?_⟩ <;> assumption) | (go_split_ands; refine ⟨?_, ?_⟩ <;> assumption))
            (first
              | (refine Row.step_append_any ((wa.alloc (.cells #[.int .u8 t.toNat, .string d] 27)).drew) (by rfl) _ _ _ (by rfl) w2.heap.size 27 i0 _ 2 24 Tryd.underlying25 hi hz0 hz1 hz2 rfl (by decide) va q (optsV (l.take q)) (by rfl) (HRa.out.alloc _) ⟨wa.heap.size, 0, none⟩ 1 1 (optsV [(t, d)]) (by rfl) (by rfl) (by rw [optsV_one]; exact cells_new _ _ _) (optsV_ones _) (by unfold maxLen; omega) (by omega) (by show _ ≤ (wa.alloc _).heap.size; simp; omega) ?_; intro vb wb hownb hgrb _; rw [← optsV_append] at hownb; have HBb := Lib.hid (HBa.out.trans (((Below.refl w2.heap.size wa).alloc hBsz (.cells #[.int .u8 t.toNat, .string d] 27)).drew.grown hgrb (by show _ ≤ (wa.alloc _).heap.size; simp; omega) (fun j hj => (HRa.out.lt j hj).1))); have y0 : wb.cell? ⟨w.heap.size, 0, none⟩ = some (.int .u8 t.toNat) := (HO.out.below HBb.out hwV).c0; have y1 : wb.cell? ⟨w.heap.size, 1, none⟩ = some (.string d) := (HO.out.below HBb.out hwV).c1)
              | (refine step_append_opts wb (by rfl) _ _ _ (by rfl) w2.heap.size 27 i0 _ 24 Tryd.underlying25 hi hz0 hz1 hz2 rfl vb (q + 1) (l.take q ++ [(t, d)]) (by rfl) hownb w2.heap.size A2 n2 c2 (l.drop q) HA2.out (by rfl) (HR2.out.1.below HBb.out) (by unfold maxLen; omega) (by omega) HBb.out.size ?_; intro vc wc hownc hgrc; have HBc := Lib.hid (HBb.out.trans ((Below.refl w2.heap.size wb).grown hgrc HBb.out.size (fun j hj => (hownb.lt j hj).1))); have z0 : wc.cell? ⟨w.heap.size, 0, none⟩ = some (.int .u8 t.toNat) := (HO.out.below HBc.out hwV).c0; have z1 : wc.cell? ⟨w.heap.size, 1, none⟩ = some (.string d) := (HO.out.below HBc.out hwV).c1)
              | fail)
          go_wp2_with fail
          clear p0 p1 q0 q1 y0 y1 z0 z1 HRa HBa HOa HOb HA2 HR1 HR2 hs1 hs2 hgrc hgrb hownb HBb HQN HNC
          rw [HN2.out] at hownc
          have hdS : d.size ≤ 140737488351232 := by omega
          obtain ⟨A9, c9, rfl, hr9⟩ := opts_own hownc (by intro o ho; rcases List.mem_append.1 ho with h | h; rcases List.mem_append.1 h with h | h; exact HL.out.2.1 o (List.mem_of_mem_take h); rw [List.mem_singleton.1 h]; exact hdS; exact HL.out.2.1 o (List.mem_of_mem_drop h))
          clear hownc hdS
          have G6 := Lib.hid (get_w _ A9 (n + 1) c9 wc hr9 (by omega))
          have HP := Lib.hid GQ.out.2.2
          rw [GQ.out.1, GQ.out.2.1] at G6
          generalize (gO (l.take q ++ [(t, d)] ++ l.drop q)).length = p2 at *
          clear GQ hr9
          have HLl := Lib.hid ((HL.out.below HBc.out).more HBc.out.size)
          have HOo := Lib.hid (HO.out.below HBc.out hwV)
          have HYy := Lib.hid (HY.out.below HBc.out HY.out.lt)
          have HHh := Lib.hid (HH.out.trans (HBc.out.mono HH.out.size))
          have HGg := Lib.hid (HG.out.callee HBc.out)
          clear HL HO HY HH HBc HG
          have HL := HLl
          have HO := HOo
          have HY := HYy
          have HH := HHh
          have HG := HGg
          clear HLl HOo HYy HHh HGg
          refine (G6.out).mono ?_
          rintro e w20 ⟨A10, c10, rfl, hb20⟩
          clear G6
          have HL := Lib.hid (HL.out.next hb20)
          have HO := Lib.hid (HO.out.callee hb20)
          have HY := Lib.hid (HY.out.callee hb20)
          have HG := Lib.hid (HG.out.callee hb20)
          have HH := Lib.hid (HH.out.trans (hb20.mono HH.out.size))
          clear hb20
          have HL := Lib.hid (HL.out.laid (.cells #[Value.bool y.ha, .int .u32 y.addr.toNat, .bool y.h1, .int .u32 y.dns1.toNat, .bool y.h2, .int .u32 y.dns2.toNat] 24))
          have HO := Lib.hid (HO.out.alloc (.cells #[Value.bool y.ha, .int .u32 y.addr.toNat, .bool y.h1, .int .u32 y.dns1.toNat, .bool y.h2, .int .u32 y.dns2.toNat] 24))
          have HY := Lib.hid (HY.out.alloc (.cells #[Value.bool y.ha, .int .u32 y.addr.toNat, .bool y.h1, .int .u32 y.dns1.toNat, .bool y.h2, .int .u32 y.dns2.toNat] 24))
          have HG := Lib.hid (HG.out.callee ((Below.refl w20.heap.size w20).alloc (Nat.le_refl _) (.cells #[Value.bool y.ha, .int .u32 y.addr.toNat, .bool y.h1, .int .u32 y.dns1.toNat, .bool y.h2, .int .u32 y.dns2.toNat] 24)))
          have HX : Hid (LAt (w20.alloc (.cells #[Value.bool y.ha, .int .u32 y.addr.toNat, .bool y.h1, .int .u32 y.dns1.toNat, .bool y.h2, .int .u32 y.dns2.toNat] 24)) w20.heap.size y) := lat_new w20 y
          have HH := Lib.hid (HH.out.alloc HH.out.size (.cells #[Value.bool y.ha, .int .u32 y.addr.toNat, .bool y.h1, .int .u32 y.dns1.toNat, .bool y.h2, .int .u32 y.dns2.toNat] 24))
          have ya0 : (w20.alloc (.cells #[Value.bool y.ha, .int .u32 y.addr.toNat, .bool y.h1, .int .u32 y.dns1.toNat, .bool y.h2, .int .u32 y.dns2.toNat] 24)).cell? ⟨w1.heap.size, 0, none⟩ = some (Value.bool y.ha) := HY.out.c 0
          have ya1 : (w20.alloc (.cells #[Value.bool y.ha, .int .u32 y.addr.toNat, .bool y.h1, .int .u32 y.dns1.toNat, .bool y.h2, .int .u32 y.dns2.toNat] 24)).cell? ⟨w1.heap.size, 1, none⟩ = some (.int .u32 y.addr.toNat) := HY.out.c 1
          have ya2 : (w20.alloc (.cells #[Value.bool y.ha, .int .u32 y.addr.toNat, .bool y.h1, .int .u32 y.dns1.toNat, .bool y.h2, .int .u32 y.dns2.toNat] 24)).cell? ⟨w1.heap.size, 2, none⟩ = some (.bool y.h1) := HY.out.c 2
          have ya3 : (w20.alloc (.cells #[Value.bool y.ha, .int .u32 y.addr.toNat, .bool y.h1, .int .u32 y.dns1.toNat, .bool y.h2, .int .u32 y.dns2.toNat] 24)).cell? ⟨w1.heap.size, 3, none⟩ = some (.int .u32 y.dns1.toNat) := HY.out.c 3
          have ya4 : (w20.alloc (.cells #[Value.bool y.ha, .int .u32 y.addr.toNat, .bool y.h1, .int .u32 y.dns1.toNat, .bool y.h2, .int .u32 y.dns2.toNat] 24)).cell? ⟨w1.heap.size, 4, none⟩ = some (.bool y.h2) := HY.out.c 4
          have ya5 : (w20.alloc (.cells #[Value.bool y.ha, .int .u32 y.addr.toNat, .bool y.h1, .int .u32 y.dns1.toNat, .bool y.h2, .int .u32 y.dns2.toNat] 24)).cell? ⟨w1.heap.size, 5, none⟩ = some (.int .u32 y.dns2.toNat) := HY.out.c 5
          have yb0 : (w20.alloc (.cells #[Value.bool y.ha, .int .u32 y.addr.toNat, .bool y.h1, .int .u32 y.dns1.toNat, .bool y.h2, .int .u32 y.dns2.toNat] 24)).cell? ⟨w20.heap.size, 0, none⟩ = some (Value.bool y.ha) := HX.out.c 0
          have yb1 : (w20.alloc (.cells #[Value.bool y.ha, .int .u32 y.addr.toNat, .bool y.h1, .int .u32 y.dns1.toNat, .bool y.h2, .int .u32 y.dns2.toNat] 24)).cell? ⟨w20.heap.size, 1, none⟩ = some (.int .u32 y.addr.toNat) := HX.out.c 1
          have yb2 : (w20.alloc (.cells #[Value.bool y.ha, .int .u32 y.addr.toNat, .bool y.h1, .int .u32 y.dns1.toNat, .bool y.h2, .int .u32 y.dns2.toNat] 24)).cell? ⟨w20.heap.size, 2, none⟩ = some (.bool y.h1) := HX.out.c 2
          have yb3 : (w20.alloc (.cells #[Value.bool y.ha, .int .u32 y.addr.toNat, .bool y.h1, .int .u32 y.dns1.toNat, .bool y.h2, .int .u32 y.dns2.toNat] 24)).cell? ⟨w20.heap.size, 3, none⟩ = some (.int .u32 y.dns1.toNat) := HX.out.c 3
          have yb4 : (w20.alloc (.cells #[Value.bool y.ha, .int .u32 y.addr.toNat, .bool y.h1, .int .u32 y.dns1.toNat, .bool y.h2, .int .u32 y.dns2.toNat] 24)).cell? ⟨w20.heap.size, 4, none⟩ = some (.bool y.h2) := HX.out.c 4
          have yb5 : (w20.alloc (.cells #[Value.bool y.ha, .int .u32 y.addr.toNat, .bool y.h1, .int .u32 y.dns1.toNat, .bool y.h2, .int .u32 y.dns2.toNat] 24)).cell? ⟨w20.heap.size, 5, none⟩ = some (.int .u32 y.dns2.toNat) := HX.out.c 5
          have r0 : ∀ W, (Op.equalIn 10000 24 (.agg #[Value.bool y.ha, .int .u32 y.addr.toNat, .bool y.h1, .int .u32 y.dns1.toNat, .bool y.h2, .int .u32 y.dns2.toNat]) (.agg #[Value.bool y.ha, .int .u32 y.addr.toNat, .bool y.h1, .int .u32 y.dns1.toNat, .bool y.h2, .int .u32 y.dns2.toNat])).run Tryd.prog W = .ok true W := ipc_eq (decide_eq_true rfl)
          have r1 : ∀ W, (binOp .eql 24 (.agg #[Value.bool y.ha, .int .u32 y.addr.toNat, .bool y.h1, .int .u32 y.dns1.toNat, .bool y.h2, .int .u32 y.dns2.toNat]) (.agg #[Value.bool y.ha, .int .u32 y.addr.toNat, .bool y.h1, .int .u32 y.dns1.toNat, .bool y.h2, .int .u32 y.dns2.toNat])).run Tryd.prog W = .ok (.bool true) W := ipc_eql (decide_eq_true rfl)
          by_cases hE : E = 0
          · subst hE
            have hp2 := HP.out rfl
            subst hp2
            have e0 : (((0 : Nat) : Int) != 0) = false := rfl
            have e1 : (((p + 1 : Nat) : Int) == (p : Int) + 1) = true := by simp
            go_wp2_with fail
            refine (alive_any _ HG.out).mono ?_
            rintro e w21 ⟨rfl, hb21⟩
            have HL := Lib.hid (HL.out.next hb21)
            have HO := Lib.hid (HO.out.callee hb21)
            have HY := Lib.hid (HY.out.callee hb21)
            have HX := Lib.hid (HX.out.callee hb21)
            have HG := Lib.hid (HG.out.callee hb21)
            have HH := Lib.hid (HH.out.trans (hb21.mono HH.out.size))
            clear hb21
            go_wp2
            go_ret
            exact ⟨rfl, HH.out⟩
          · have e0 : ((E : Int) != 0) = true := by simpa using hE
            clear hE HP
            go_wp2_with fail
            refine (alive_any _ HG.out).mono ?_
            rintro e w21 ⟨rfl, hb21⟩
            have HL := Lib.hid (HL.out.next hb21)
            have HO := Lib.hid (HO.out.callee hb21)
            have HY := Lib.hid (HY.out.callee hb21)
            have HX := Lib.hid (HX.out.callee hb21)
            have HG := Lib.hid (HG.out.callee hb21)
            have HH := Lib.hid (HH.out.trans (hb21.mono HH.out.size))
            clear hb21
            go_wp2
            go_ret
            exact ⟨rfl, HH.out⟩

set_option maxRecDepth 100000 in
theorem lifted (os : Os) (started : os.Started) (H : Type) (enc : TypeId × Value → H) :
    ReturnsInHanded {} Tryd.checked os 6 .any (fun w args => (Rows.ipcpoptOrderSpec.pre enc Tryd.prog Tryd.f6 [] false w args ∧ laidMetH Tryd.prog laid5 w) ∧ sizedMet enc Tryd.prog Tryd.f6 (OpenSpec.ofChange Rows.ipcpoptOrderSpec) false w args)
      (Rows.ipcpoptOrderSpec.post enc Tryd.prog Tryd.f6 false true false false) := by
  refine returns_laid_shaped (C := Tryd.checked) (X := fun w _ => laidMetH Tryd.prog laid5 w) (fun _ _ _ hh h => h.of_heap hh) own started (by kernel_rfl) Tryd.func6
    (ChangeSpec.witness_shaped (enc := enc) (C := Tryd.checked) (os := os) (X := fun w _ => laidMetH Tryd.prog laid5 w) false (World.doorLaid Tryd.prog 400 os) #[.slice none 0 0, .int .u8 0, .int .u8 0, .agg #[.int .u8 0, .string ByteArray.empty], .int .u8 0] 8 rfl (World.shaped_of_RefB (by kernel_rfl) (by kernel_rfl)) (by kernel_rfl) (by kernel_rfl) (by kernel_rfl) (door_met os _)) ?_
  intro W base args ds gs before hval0 hW _ hsz0 hL hsh _
  have hsz : (DataW.weightsEach Tryd.prog (Tryd.f6.params.toList ++ Rows.ipcpoptOrderSpec.plain.varTypes Tryd.prog) (ds ++ gs)).all (· ≤ reachBytes) = true := hsz0
  have hval : ∀ (j : Nat) t v, Tryd.f6.params[j]? = some t → args[j]? = some v → Value.okWide Tryd.prog W .any base t v := hval0
  have hW' := hW
  obtain ⟨p, q, hA0, hV, rfl, hfz, hnd⟩ := hW
  have hlt := hW'.lt
  have hA : DataW.TrodAll enc Tryd.prog W 0 (fun _ => true) true Tryd.f6.params.toList args.toList ds p := hA0
  rw [Tryd.params6] at hA hval hsz
  obtain ⟨v0, vs0, d0, ds0, p0, q0, hargs, rfl, rfl, h0, r0⟩ := trodAll_cons hA
  obtain ⟨v1, vs1, d1, ds1, p1, q1, rfl, rfl, rfl, h1, r1⟩ := trodAll_cons r0
  obtain ⟨v2, vs2, d2, ds2, p2, q2, rfl, rfl, rfl, h2, r2⟩ := trodAll_cons r1
  obtain ⟨v3, vs3, d3, ds3, p3, q3, rfl, rfl, rfl, h3, r3⟩ := trodAll_cons r2
  obtain ⟨v4, vs4, d4, ds4, p4, q4, rfl, rfl, rfl, h4, r4⟩ := trodAll_cons r3
  obtain ⟨rfl, rfl, rfl⟩ := trodAll_nil r4
  obtain rfl : args = #[v0, v1, v2, v3, v4] := by cases args; simp_all
  obtain ⟨rfl, rfl⟩ := trodVars_none hV
  obtain ⟨A0, n0, c0, rfl, m0, hA0, l0, hO0⟩ := opts_of Tryd.underlying25 Tryd.underlying27 (by kernel_rfl) (by kernel_rfl) Tryd.underlying5 Tryd.underlying9 (hval 0 25 v0 rfl rfl) h0 (fun n hn => of_decide_eq_true (List.all_eq_true.1 hsz n (DataW.weights_mem_each (j := 0) (t := 25) rfl rfl n hn)))
  obtain ⟨z1, rfl, rfl, rfl, w1⟩ := open_int Tryd.underlying5 (hval 1 5 v1 rfl rfl) h1
  have b1 := bounds_u8 w1
  obtain ⟨a1, rfl⟩ := u8_of (z := z1) (by omega) (by omega)
  obtain ⟨z2, rfl, rfl, rfl, w2⟩ := open_int Tryd.underlying5 (hval 2 5 v2 rfl rfl) h2
  have b2 := bounds_u8 w2
  obtain ⟨a2, rfl⟩ := u8_of (z := z2) (by omega) (by omega)
  obtain ⟨c3, a3, rfl, z3⟩ := opt_of Tryd.underlying27 (by kernel_rfl) (by kernel_rfl) Tryd.underlying5 Tryd.underlying9 (hval 3 27 v3 rfl rfl) h3 (fun n hn => of_decide_eq_true (List.all_eq_true.1 hsz n (DataW.weights_mem_each (j := 3) (t := 27) rfl rfl n hn)))
  obtain ⟨z4, rfl, rfl, rfl, w4⟩ := open_int Tryd.underlying5 (hval 4 5 v4 rfl rfl) h4
  have b4 := bounds_u8 w4
  obtain ⟨a4, rfl⟩ := u8_of (z := z4) (by omega) (by omega)
  clear hA0 hval0 hsz0
  exact (walk A0 n0 c0 l0 a1 a2 c3 a3 a4 m0 hA0 (by unfold maxLen; omega) (cap_of Tryd.underlying25 h0) W hO0 (of_laid hL hsh)).mono fun e W' ⟨he, hb⟩ => ⟨_, he, law_post (t := 4) laidOut (by kernel_rfl) rfl rfl Tryd.underlying4 ⟨rfl, rfl, rfl⟩ hW' hb⟩

theorem over : Rows.ipcpoptOrderRow.holds Tryd.pinned (OpenSpec.ofChange Rows.ipcpoptOrderSpec) :=
  OpenClaim.holds_of_wide 6 Tryd.f6 rfl rfl rfl rfl rfl rfl rfl ⟨rfl, rfl, rfl, rfl, rfl⟩ rfl rfl rfl rfl rfl (by kernel_rfl) Tryd.func6 (by kernel_rfl)
    (of_decide_eq_true (by kernel_rfl)) (by unfold Func.isWrapper; first | (rw [if_pos (by decide +kernel)]; kernel_rfl) | (rw [if_neg (by decide +kernel)]; exact ⟨rfl, rfl⟩))
    (fun os started H enc _ => lifted os started H enc)

theorem proved : Rows.IpcpoptOrderCardSaid :=
  Claim7.holds_tied_plain_at .later [] [.data, .data, .data, .sentinel, .sentinel] true _ true
    over (fun _ h => by cases h) (by kernel_rfl) (fun _ h => by cases h) ipcpoptOrder_row_tie rfl ⟨rfl, rfl⟩ (by kernel_rfl) rfl
    (fun f fn hf hfn => by
      obtain rfl : f = 6 := Option.some.inj ((show Tryd.prog.funcNamed "halyard/halyardlaw10.IpcpoptOrder" = some 6 by kernel_rfl).symm.trans hf) |>.symm
      obtain rfl : fn = Tryd.f6 := (Option.some.inj (Tryd.func6.symm.trans hfn)).symm
      exact ⟨by kernel_rfl, fun j t ht => by
        rw [Tryd.params6] at ht
        rcases j with _ | j
        · obtain rfl : t = 25 := by simpa using ht.symm
          exact (show Tryd.prog.wantsStandIn 25 = false by kernel_rfl)
        rcases j with _ | j
        · obtain rfl : t = 5 := by simpa using ht.symm
          exact (show Tryd.prog.wantsStandIn 5 = false by kernel_rfl)
        rcases j with _ | j
        · obtain rfl : t = 5 := by simpa using ht.symm
          exact (show Tryd.prog.wantsStandIn 5 = false by kernel_rfl)
        rcases j with _ | j
        · obtain rfl : t = 27 := by simpa using ht.symm
          exact (show Tryd.prog.wantsStandIn 27 = false by kernel_rfl)
        rcases j with _ | j
        · obtain rfl : t = 5 := by simpa using ht.symm
          exact (show Tryd.prog.wantsStandIn 5 = false by kernel_rfl)
        simp at ht⟩)
    (by kernel_rfl)
#print axioms proved
end Go.Proofs.YtlbnbbpokphgbaaDoor.IpcpoptOrder
