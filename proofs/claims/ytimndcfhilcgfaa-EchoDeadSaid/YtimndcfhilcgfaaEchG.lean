/- Packet. -/
import Derived.Test.YtimndcfhilcgfaaEchF
import Derived.Test.YtimndcfhilcgfaaPktAt
namespace Go.Proofs.Ytimndcfhilcgfaa.Ech
open Go.RowKit Go.Proofs.Ytimndcfhilcgfaa.Oct Go.Proofs.Ytimndcfhilcgfaa.Row Go.Proofs.Ytimndcfhilcgfaa.Mem

def efX (x : Ec) (c : Nat) (i : UInt8) : Ec := if c = 10 then (if lateB x i then x else { x with mi := 0 }) else x
def efL (x : Ec) (c : Nat) (i : UInt8) (s : ByteArray) : List Pk := if c = 9 then [⟨10, i, own x ++ s⟩] else []
def efE (x : Ec) (c : Nat) (i : UInt8) : Nat := if c = 10 then (if lateB x i then 3 else 0) else 0
def Fb (w : World) (b : Nat) (v : Value) : Prop := Blk w b [v] 62
def Sb (w : World) (b : Nat) (s : ByteArray) : Prop := Blk w b [.string s] 9
set_option maxHeartbeats 1000000 in
set_option maxRecDepth 100000 in
theorem do_any (g ob eb b6 b3 b8 : Nat) (x : Ec) (c i : UInt8) (d s : ByteArray) (w : World) (hc : c.toNat = 9 ∨ c.toNat = 10 ∨ c.toNat = 11) (h : EAt w g x) (hg : x.mg < 4294967296) (ho : Out w ob none [] 0) (he : Eb w eb g)
    (h6 : Fb w b6 (effV g c.toNat)) (h3 : Pkt.At w b3 c i d) (h8 : Sb w b8 s) (hs : s.size ≤ 140737488351232) :
    Calls Try.prog 26 #[sV ob eb, ptr b6, ptr b3, ptr b8] w (DoQ g ob (efX x c.toNat i) (efL x c.toNat i s) (efE x c.toNat i) w) := by
  have c6 : w.cell? ⟨b6, 0, none⟩ = some (effV g c.toNat) := Blk.at_ h6 0
  have c3 : w.cell? ⟨b3, 1, none⟩ = some (.int .u8 i.toNat) := h3.c1
  have c8 : w.cell? ⟨b8, 0, none⟩ = some (.string s) := Blk.at_ h8 0
  have H1 := Lib.hid (request_any g ob eb x i s w h hg ho he hs)
  have H2 := Lib.hid (answer_any g ob x i s (sV ob eb) w h ho)
  have H3 := Lib.hid (discard_any g ob x i s (sV ob eb) w h ho)
  clear h ho he h6 h3 h8 hg hs
  unfold effV at *
  unfold sV ptr at *
  rcases hc with hc | hc | hc
  · rw [hc] at c6 ⊢
    simp only [if_true] at c6
    rw [show efX x 9 i = x from rfl, show efL x 9 i s = [⟨10, i, own x ++ s⟩] from rfl, show efE x 9 i = 0 from rfl]
    generalize [(⟨10, i, own x ++ s⟩ : Pk)] = L at *
    clear hc H2 H3
    go_enter Try.func26, Try.ntmps26
    go_wp2_with fail
    refine H1.out.mono ?_
    rintro e w1 ⟨rfl, h⟩
    have HQ := Lib.hid h
    clear h H1
    go_wp2
    go_ret
    exact ⟨rfl, HQ.out⟩
  · rw [hc] at c6 ⊢
    rw [if_neg (by decide), if_pos rfl] at c6
    rw [show efX x 10 i = (if lateB x i = true then x else { x with mi := 0 }) from rfl, show efL x 10 i s = [] from rfl, show efE x 10 i = (if lateB x i = true then 3 else 0) from rfl]
    generalize (if lateB x i = true then x else { x with mi := 0 }) = y at *
    generalize (if lateB x i = true then (3 : Nat) else 0) = E at *
    clear hc H1 H3
    go_enter Try.func26, Try.ntmps26
    go_wp2_with fail
    refine H2.out.mono ?_
    rintro e w1 ⟨rfl, h⟩
    have HQ := Lib.hid h
    clear h H2
    go_wp2
    go_ret
    exact ⟨rfl, HQ.out⟩
  · rw [hc] at c6 ⊢
    rw [if_neg (by decide), if_neg (by decide), if_pos rfl] at c6
    rw [show efX x 11 i = x from rfl, show efL x 11 i s = [] from rfl, show efE x 11 i = 0 from rfl]
    clear hc H1 H2
    go_enter Try.func26, Try.ntmps26
    go_wp2_with fail
    refine H3.out.mono ?_
    rintro e w1 ⟨rfl, h⟩
    have HQ := Lib.hid h
    clear h H3
    go_wp2
    go_ret
    exact ⟨rfl, HQ.out⟩
set_option maxHeartbeats 1000000 in
set_option maxRecDepth 100000 in
theorem sending_do (g b6 b3 b8 : Nat) (x : Ec) (c i : UInt8) (d s : ByteArray) (w : World) (hc : c.toNat = 9 ∨ c.toNat = 10 ∨ c.toNat = 11) (h : EAt w g x) (hg : x.mg < 4294967296)
    (h6 : Fb w b6 (effV g c.toNat)) (h3 : Pkt.At w b3 c i d) (h8 : Sb w b8 s) (hs : s.size ≤ 140737488351232) :
    Calls Try.prog 21 #[ptr g, .func (.func 26) #[] #[ptr b6, ptr b3, ptr b8]] w (OutQ g (efX x c.toNat i) (efL x c.toNat i s) (efE x c.toNat i) w) := by
  obtain ⟨W, hW, HW⟩ := box_s w g
  have HS : Hid (Calls Try.prog 26 #[.func (.func 28) #[] #[.pointer (some ⟨w.heap.size + 1, 0, none⟩), .pointer (some ⟨w.heap.size, 0, none⟩)], .pointer (some ⟨b6, 0, none⟩), .pointer (some ⟨b3, 0, none⟩), .pointer (some ⟨b8, 0, none⟩)] W (DoQ g (w.heap.size + 1) (efX x c.toNat i) (efL x c.toNat i s) (efE x c.toNat i) W)) :=
    do_any g (w.heap.size + 1) w.heap.size b6 b3 b8 x c i d s W hc (h.callee (HW.out.2.2)) hg HW.out.2.1 HW.out.1 (Blk.callee h6 HW.out.2.2) (Pkt.At.callee h3 HW.out.2.2) (Blk.callee h8 HW.out.2.2) hs
  generalize hl : efL x c.toNat i s = l at *
  generalize hx : efX x c.toNat i = y at *
  generalize hE : efE x c.toNat i = E at *
  clear h hl hx hE hc h6 h3 h8 hs hg
  unfold ptr at *
  go_enter Try.func21, Try.ntmps21
  go_wp2_with fail
  refine HS.out.mono ?_
  rintro e w1 ⟨rfl, ⟨A, c, ho, hr⟩, h1, hm⟩
  have c0 : w1.cell? ⟨w.heap.size + 1, 0, none⟩ = some (.slice A l.length c) := Blk.at_ ho 0
  have HQ := Lib.hid (outq_of (E := E) HW.out.2.2 (Nat.le_succ _) hr h1 hm)
  clear ho hr h1 hm HS hW
  generalize l.length = n at *
  go_wp2
  go_ret2
  exact HQ.out
end Go.Proofs.Ytimndcfhilcgfaa.Ech
