/- Contracts of list and Request with their rows' room. -/
import Derived.Test.YthoangihndplkaaGIppN
import Derived.Test.YthoangihndplkaaGIpcB
namespace Go.Proofs.Ythoangihndplkaa.Ipp
open Go.RowKit Go.Proofs.Ythoangihndplkaa.Oct Go.Proofs.Ythoangihndplkaa.Row Go.Proofs.Ythoangihndplkaa.Mem Go.Proofs.Ythoangihndplkaa.Opt Go.Proofs.Ythoangihndplkaa.Ipc

/-- A row that is handed back, with its room. -/
def RmQ (l : List Opt) (w : World) (e : Ending) (w' : World) : Prop := ∃ A c, e = .returned (.slice A l.length c) ∧ Opts w' w'.heap.size A l.length l ∧ Below w.heap.size w w' ∧ l.length ≤ c ∧ (A = none → c = 0)
set_option maxHeartbeats 1000000 in
set_option maxRecDepth 100000 in
theorem list_room (x : Ipc) (w : World) (hm : may x = true) : Calls Try.prog 33 #[.agg (lv x).toArray] w (RmQ (put x) w) := by
  show Calls Try.prog 33 #[.agg #[Value.bool x.ha, .int .u32 x.addr.toNat, .bool x.h1, .int .u32 x.dns1.toNat, .bool x.h2, .int .u32 x.dns2.toNat]] w (RmQ (put x) w)
  obtain ⟨W, hW, HW⟩ := boxL w x
  obtain ⟨c0, c1, c2, c3, c4, c5⟩ := cells6 HW.out.1
  have HB := Lib.hid HW.out.2.1
  have HC : Hid (∀ U, Calls Try.prog 49 #[.agg #[Value.bool x.ha, .int .u32 x.addr.toNat, .bool x.h1, .int .u32 x.dns1.toNat, .bool x.h2, .int .u32 x.dns2.toNat]] U (PutR x U)) := fun U => put_room x U
  have HM := Lib.hid hm
  clear HW hm
  go_enter Try.func33, Try.ntmps33
  go_wp2_with fail
  refine (HC.out _).mono ?_
  rintro e w2 ⟨A, c, rfl, hA, hO, hb2, hr⟩
  rw [(pL_yes HM.out).1] at hO hr ⊢
  rw [(pL_yes HM.out).2]
  have HB2 := Lib.hid (HB.out.trans (hb2.mono HB.out.size))
  have HO := Lib.hid hO
  have HA := Lib.hid hA
  have HR := Lib.hid hr
  clear hb2 hO hA hr
  go_wp2
  go_ret
  exact ⟨A, c, rfl, HO.out, HB2.out, HR.out, HA.out⟩
set_option maxHeartbeats 1000000 in
set_option maxRecDepth 100000 in
theorem request_room (g : Nat) (p : Po) (w : World) (h : PAt w g p) (hm : may p.w = true) : Calls Try.prog 7 #[.pointer (some ⟨g, 0, none⟩)] w (RmQ (req p) w) := by
  have HW := Lib.hid (wish_any g p w h)
  have HL := Lib.hid (fun w => list_room p.w w hm)
  clear h hm
  go_enter Try.func7, Try.ntmps7
  go_wp2_with fail
  refine HW.out.mono ?_
  rintro e w1 ⟨rfl, hb1⟩
  have HB1 := Lib.hid hb1
  clear hb1
  go_wp2_with fail
  refine (HL.out w1).mono ?_
  rintro e w2 ⟨A, c, rfl, hO, hb2, hr, hA⟩
  have HB2 := Lib.hid (HB1.out.trans (hb2.mono HB1.out.size))
  have HO := Lib.hid hO
  have HA := Lib.hid hA
  have HR := Lib.hid hr
  clear hb2 hO hA hr
  go_wp2
  go_ret
  exact ⟨A, c, rfl, HO.out, HB2.out, HR.out, HA.out⟩
end Go.Proofs.Ythoangihndplkaa.Ipp
