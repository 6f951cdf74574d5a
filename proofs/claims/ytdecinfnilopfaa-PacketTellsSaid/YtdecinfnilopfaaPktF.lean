/- A packet in a block of its own; the laws' own examples ('alive') of packets. -/
import Derived.Test.YtdecinfnilopfaaPktC
import Derived.Test.YtdecinfnilopfaaPktE
namespace Go.Proofs.Ytdecinfnilopfaa.Pkt
open Go.RowKit Go.Proofs.Ytdecinfnilopfaa.Oct Go.Proofs.Ytdecinfnilopfaa.Row Go.Proofs.Ytdecinfnilopfaa.Mem

/-- A packet lies in block g. -/
def At (W : World) (g : Nat) (c i : UInt8) (s : ByteArray) : Prop := Blk W g [.int .u8 c.toNat, .int .u8 i.toNat, .string s] 23
theorem At.callee {W W' : World} {g : Nat} {c i : UInt8} {s : ByteArray} (h : At W g c i s) (hb : Below W.heap.size W W') : At W' g c i s := Blk.callee h hb
theorem At.alloc {W : World} {g : Nat} {c i : UInt8} {s : ByteArray} (h : At W g c i s) (o : Obj) : At (W.alloc o) g c i s := Blk.alloc h o
theorem at_new (w : World) (c i : UInt8) (s : ByteArray) : At (w.alloc (.cells #[.int .u8 c.toNat, .int .u8 i.toNat, .string s] 23)) w.heap.size c i s := blk_new w [.int .u8 c.toNat, .int .u8 i.toNat, .string s] _
theorem At.c0 {W : World} {g : Nat} {c i : UInt8} {s : ByteArray} (h : At W g c i s) : W.cell? ⟨g, 0, none⟩ = some (.int .u8 c.toNat) := Blk.at_ h 0
theorem At.c1 {W : World} {g : Nat} {c i : UInt8} {s : ByteArray} (h : At W g c i s) : W.cell? ⟨g, 1, none⟩ = some (.int .u8 i.toNat) := Blk.at_ h 1
theorem At.c2 {W : World} {g : Nat} {c i : UInt8} {s : ByteArray} (h : At W g c i s) : W.cell? ⟨g, 2, none⟩ = some (.string s) := Blk.at_ h 2

theorem calls_below_eq {f : FuncId} {args : Array Value} {w : World} {v : Value} (h : Calls Try.prog f args w fun e w' => e = .returned v ∧ w = w') : Calls Try.prog f args w fun e w' => e = .returned v ∧ Below w.heap.size w w' :=
  h.mono fun _ _ ⟨he, hk⟩ => ⟨he, by rw [← hk]; exact Below.refl _ _⟩
theorem beq_self (s : ByteArray) : (s.toList == s.toList) = true := by simp
theorem own : ownKnob Try.prog.godebug = none := by kernel_rfl
theorem laidOut : laidOutB Try.prog = true := by kernel_rfl

theorem ex_put (w : World) : Calls Try.prog 8 #[.agg #[.int .u8 9, .int .u8 1, .string ⟨#[97, 98]⟩]] w fun e w' => e = .returned (.tuple #[.string ⟨#[9, 1, 0, 6, 97, 98]⟩, .int .i64 0]) ∧ Below w.heap.size w w' := by
  have h := put_any 9 1 (bOf [97, 98]) w
  rw [toList_bOf, show pA 9 1 [97, 98] = [9, 1, 0, 6, 97, 98] by decide +kernel, show pE [97, 98] = 0 by decide +kernel] at h
  exact h
theorem ex_get (l : List UInt8) (c i : UInt8) (d : List UInt8) (n e : Nat) (w : World) (hl : l.length ≤ 1048576) (h1 : gC l = c) (h2 : gI l = i) (h3 : gD l = d) (h4 : gN l = n) (h5 : gE l = e) : Calls Try.prog 10 #[.string (bOf l)] w fun x w' => x = .returned (.tuple #[.agg #[.int .u8 c.toNat, .int .u8 i.toNat, .string (bOf d)], .int .i64 n, .int .i64 e]) ∧ Below w.heap.size w w' := by
  have h := get_any (bOf l) w (by rw [size_bOf]; exact hl)
  rw [toList_bOf, h1, h2, h3, h4, h5] at h
  exact h
theorem ex_get1 (w : World) : Calls Try.prog 10 #[.string ⟨#[9, 1, 0, 4, 0]⟩] w fun x w' => x = .returned (.tuple #[.agg #[.int .u8 (9 : UInt8).toNat, .int .u8 (1 : UInt8).toNat, .string ⟨#[]⟩], .int .i64 1, .int .i64 0]) ∧ Below w.heap.size w w' :=
  ex_get [9, 1, 0, 4, 0] 9 1 [] 1 0 w (by decide) (by decide +kernel) (by decide +kernel) (by decide +kernel) (by decide +kernel) (by decide +kernel)
theorem ex_get2 (w : World) : Calls Try.prog 10 #[.string ⟨#[9, 1, 0, 5]⟩] w fun x w' => x = .returned (.tuple #[.agg #[.int .u8 (0 : UInt8).toNat, .int .u8 (0 : UInt8).toNat, .string ⟨#[]⟩], .int .i64 0, .int .i64 6]) ∧ Below w.heap.size w w' :=
  ex_get [9, 1, 0, 5] 0 0 [] 0 6 w (by decide) (by decide +kernel) (by decide +kernel) (by decide +kernel) (by decide +kernel) (by decide +kernel)
theorem ex_get3 (w : World) : Calls Try.prog 10 #[.string ⟨#[9, 1, 0, 3, 0]⟩] w fun x w' => x = .returned (.tuple #[.agg #[.int .u8 (0 : UInt8).toNat, .int .u8 (0 : UInt8).toNat, .string ⟨#[]⟩], .int .i64 0, .int .i64 7]) ∧ Below w.heap.size w w' :=
  ex_get [9, 1, 0, 3, 0] 0 0 [] 0 7 w (by decide) (by decide +kernel) (by decide +kernel) (by decide +kernel) (by decide +kernel) (by decide +kernel)
theorem ex_trim (w : World) : Calls Try.prog 12 #[.string ⟨#[97]⟩, .int .i64 (-1)] w fun x w' => x = .returned (.tuple #[.string (bOf []), .int .i64 2]) ∧ Below w.heap.size w w' :=
  calls_below_eq (trim_any ⟨#[97]⟩ (-1) w (by decide))

set_option maxHeartbeats 4000000 in
set_option maxRecDepth 100000 in
theorem alive_any (w : World) : Calls Try.prog 7 #[] w fun e w' => e = .returned (.bool true) ∧ Below w.heap.size w w' := by
  have HH0 := Lib.hid (Below.refl w.heap.size w)
  go_enter Try.func7, Try.ntmps7
  go_wp2_with fail
  refine (ex_put _).mono ?_
  rintro e w1 ⟨rfl, hb1⟩
  have HH1 := Lib.hid (HH0.out.trans (hb1.mono HH0.out.size))
  clear hb1
  go_wp2_with fail
  refine (ex_get1 _).mono ?_
  rintro e w2 ⟨rfl, hb2⟩
  have HH2 := Lib.hid (HH1.out.trans (hb2.mono HH1.out.size))
  clear hb2
  have HX := Lib.hid (at_new w2 (9 : UInt8) (1 : UInt8) ⟨#[]⟩ : At (w2.alloc (.cells #[.int .u8 9, .int .u8 1, .string ⟨#[]⟩] 23)) w2.heap.size (9 : UInt8) (1 : UInt8) ⟨#[]⟩)
  have HH2 := Lib.hid (HH2.out.alloc HH2.out.size _ : Below w.heap.size w (w2.alloc (.cells #[.int .u8 9, .int .u8 1, .string ⟨#[]⟩] 23)))
  go_wp2_with fail
  refine (ex_get2 _).mono ?_
  rintro e w3 ⟨rfl, hb3⟩
  have HX := Lib.hid (HX.out.callee hb3)
  have HH3 := Lib.hid (HH2.out.trans (hb3.mono HH2.out.size))
  clear hb3
  have HX := Lib.hid (HX.out.alloc _ : At (w3.alloc (.cells #[.int .u8 0, .int .u8 0, .string ⟨#[]⟩] 23)) w2.heap.size (9 : UInt8) (1 : UInt8) ⟨#[]⟩)
  have HY := Lib.hid (at_new w3 (0 : UInt8) (0 : UInt8) ⟨#[]⟩ : At (w3.alloc (.cells #[.int .u8 0, .int .u8 0, .string ⟨#[]⟩] 23)) w3.heap.size (0 : UInt8) (0 : UInt8) ⟨#[]⟩)
  have HH3 := Lib.hid (HH3.out.alloc HH3.out.size _ : Below w.heap.size w (w3.alloc (.cells #[.int .u8 0, .int .u8 0, .string ⟨#[]⟩] 23)))
  go_wp2_with fail
  refine (ex_get3 _).mono ?_
  rintro e w4 ⟨rfl, hb4⟩
  have HX := Lib.hid (HX.out.callee hb4)
  have HH4 := Lib.hid (HH3.out.trans (hb4.mono HH3.out.size))
  clear hb4
  have HX := Lib.hid (HX.out.alloc _ : At (w4.alloc (.cells #[.int .u8 0, .int .u8 0, .string ⟨#[]⟩] 23)) w2.heap.size (9 : UInt8) (1 : UInt8) ⟨#[]⟩)
  have HZ := Lib.hid (at_new w4 (0 : UInt8) (0 : UInt8) ⟨#[]⟩ : At (w4.alloc (.cells #[.int .u8 0, .int .u8 0, .string ⟨#[]⟩] 23)) w4.heap.size (0 : UInt8) (0 : UInt8) ⟨#[]⟩)
  have HH4 := Lib.hid (HH4.out.alloc HH4.out.size _ : Below w.heap.size w (w4.alloc (.cells #[.int .u8 0, .int .u8 0, .string ⟨#[]⟩] 23)))
  go_wp2_with fail
  refine (ex_trim _).mono ?_
  rintro e w5 ⟨rfl, hb5⟩
  have HX := Lib.hid (HX.out.callee hb5)
  have HH5 := Lib.hid (HH4.out.trans (hb5.mono HH4.out.size))
  clear hb5
  have c0 : w5.cell? ⟨w2.heap.size, 0, none⟩ = some (.int .u8 9) := HX.out.c0
  have c1 : w5.cell? ⟨w2.heap.size, 1, none⟩ = some (.int .u8 1) := HX.out.c1
  have c2 := HX.out.c2
  go_wp2
  go_ret
  exact ⟨rfl, HH5.out⟩

/-- What was put; what is got of it; what is not got; what is put again. -/
theorem put_yes (c i : UInt8) (s : ByteArray) (w : World) (h : s.size ≤ 1496) :
    Calls Try.prog 8 #[.agg #[.int .u8 c.toNat, .int .u8 i.toNat, .string s]] w fun e w' => e = .returned (.tuple #[.string (bOf (enc c i s.toList)), .int .i64 0]) ∧ Below w.heap.size w w' := put_ok c i s w h
theorem get_back (c i : UInt8) (s m : ByteArray) (w : World) (h : s.size ≤ 1496) (hm : m.size ≤ 131072) :
    Calls Try.prog 10 #[.string (bOf (enc c i s.toList) ++ m)] w fun e w' => e = .returned (.tuple #[.agg #[.int .u8 c.toNat, .int .u8 i.toNat, .string s], .int .i64 m.size, .int .i64 0]) ∧ Below w.heap.size w w' := by
  have hX : bOf (enc c i s.toList) ++ m = bOf (enc c i s.toList ++ m.toList) := by rw [append_bOf, toList_bOf]
  have h' := get_any (bOf (enc c i s.toList ++ m.toList)) w (by rw [size_bOf, List.length_append, enc_length, ← size_toList, ← size_toList]; omega)
  have hg := got_enc c i s.toList m.toList (by rw [← size_toList]; exact h)
  rw [toList_bOf, hg.1, hg.2.1, hg.2.2.1, hg.2.2.2.1, hg.2.2.2.2, bOf_toList, ← size_toList] at h'
  rw [hX]
  exact h'
theorem get_no (s : ByteArray) (w : World) (hs : s.size ≤ 1048576) (h : gE s.toList ≠ 0) :
    Calls Try.prog 10 #[.string s] w fun e w' => e = .returned (.tuple #[.agg #[.int .u8 0, .int .u8 0, .string ⟨#[]⟩], .int .i64 0, .int .i64 (gE s.toList)]) ∧ Below w.heap.size w w' := by
  have h' := get_any s w hs
  have hn := g_none h
  rw [hn.1, hn.2.1, hn.2.2.1, hn.2.2.2] at h'
  exact h'
theorem get_yes (s : ByteArray) (hs : s.size ≤ 1048576) (h : gE s.toList = 0) : ∃ (c i : UInt8) (d : ByteArray) (n m : Nat), n + m = s.size ∧ d.size ≤ 1496 ∧
    (∀ w, Calls Try.prog 10 #[.string s] w fun e w' => e = .returned (.tuple #[.agg #[.int .u8 c.toNat, .int .u8 i.toNat, .string d], .int .i64 n, .int .i64 0]) ∧ Below w.heap.size w w') ∧
    (∀ w, Calls Try.prog 8 #[.agg #[.int .u8 c.toNat, .int .u8 i.toNat, .string d]] w fun e w' => e = .returned (.tuple #[.string (s.extract 0 m), .int .i64 0]) ∧ Below w.heap.size w w') := by
  have hg := enc_got h
  have hk := gE_ok h
  rw [← size_toList] at hk hg
  refine ⟨gC s.toList, gI s.toList, bOf (gD s.toList), gN s.toList, plen s.toList, by omega, by rw [size_bOf]; omega, fun w => ?_, fun w => ?_⟩
  · have h' := get_any s w hs
    rw [h] at h'
    exact h'
  · have h' := put_ok (gC s.toList) (gI s.toList) (bOf (gD s.toList)) w (by rw [size_bOf]; omega)
    rw [toList_bOf, hg.2.2, ← extract_front] at h'
    exact h'
end Go.Proofs.Ytdecinfnilopfaa.Pkt
