/- Put together: NegA, NegB, NegC, NegD, NegE, NegI. -/
import Derived.Test.YtpppggicihfbgaaGreatNegMem
import Derived.Test.YtpppggicihfbgaaGreatGRejC
import Derived.Test.YtpppggicihfbgaaGreatGConvNew
import Derived.OwnWalk
import Derived.Maps.AppendAt
import Derived.Test.YtpppggicihfbgaaGreatGEqF
import Derived.BigQuiet
import Derived.Laws.AppendOwnNone

/- What each action of a side sends. Written by gen/neg_a.py. -/
namespace Go.Proofs.YtpppggicihfbgaaGreat.Neg
open Go.RowKit Go.Proofs.YtpppggicihfbgaaGreat.Oct Go.Proofs.YtpppggicihfbgaaGreat.Row Go.Proofs.YtpppggicihfbgaaGreat.Mem Go.Proofs.YtpppggicihfbgaaGreat.Opt Go.Proofs.YtpppggicihfbgaaGreat.Pkt Go.Proofs.YtpppggicihfbgaaGreat.Fsm Go.Proofs.YtpppggicihfbgaaGreat.Aut

structure In where
  draw : Nat
  p : Pk
  code : Nat
  ans : List Opt
def inC (i : In) (A : Option Addr) (n c : Nat) : List Value := [.int .u32 i.draw, .int .u8 i.p.c.toNat, .int .u8 i.p.i.toNat, .string i.p.d, .int .u8 i.code, .slice A n c]
def Ans (w : World) (g a q : Nat) (A : Option Addr) (n : Nat) (l : List Opt) : Prop := Opts w w.heap.size A n l ∧ n ≤ maxLen ∧ ∀ ad, A = some ad → 0 < n → ¬ My g a q ad.block
theorem ans_nil (w : World) (g a q : Nat) : Ans w g a q none 0 [] := ⟨opts_nil w _, Nat.zero_le _, fun _ e => by cases e⟩
theorem Ans.moves {w w' : World} {g a q : Nat} {A : Option Addr} {n : Nat} {l : List Opt} (h : Ans w g a q A n l) (hm : Moves (My g a q) w w') : Ans w' g a q A n l := by
  refine ⟨⟨h.1.1, h.1.2.1, fun hn => ?_⟩, h.2⟩
  obtain ⟨ad, e, hB, hc⟩ := h.1.2.2 hn
  have hs := h.2.2 ad e hn
  refine ⟨ad, e, Nat.lt_of_lt_of_le hB hm.size, fun j hj => ⟨?_, ?_⟩⟩
  · rw [hm.cell (by rw [Oct.block_add]; exact hB) (by rw [Oct.block_add]; exact hs)]
    exact (hc j hj).1
  · rw [hm.cell (p := ⟨(ad.add (j * 2)).block, (ad.add (j * 2)).off + 1, none⟩) (by show (ad.add (j * 2)).block < _; rw [Oct.block_add]; exact hB) (by show ¬ My g a q (ad.add (j * 2)).block; rw [Oct.block_add]; exact hs)]
    exact (hc j hj).2
structure Ok {K : Kd} (s : Sd K) : Prop where
  inv : Inv s.x
  pol : K.ok s.p
  m0 : 64 ≤ s.mru
  m1 : s.mru ≤ 65535
  c : s.cnt < 256
  l : s.last < 256
def nxt {K : Kd} (s : Sd K) : Sd K := { s with cnt := (s.cnt + 1) % 256 }
def zpk : Pk := ⟨0, 0, ⟨#[]⟩⟩
def echoD (K : Kd) (s : Sd K) (d : ByteArray) : ByteArray := bOf (numS (K.magic s.p).toNat 4 ++ d.toList.drop 4)
def act (K : Kd) (i : In) (b : Nat) (s : Sd K) : Sd K × Option Pk :=
  if b = 64 then (asks s, some ⟨1, UInt8.ofNat ((s.cnt + 1) % 256), bOf (enc (K.req s.p))⟩)
  else if b = 128 ∨ b = 256 then (s, if pE i.ans = 0 then some ⟨UInt8.ofNat i.code, i.p.i, bOf (enc i.ans)⟩ else none)
  else if b = 512 then (nxt s, some ⟨5, UInt8.ofNat ((s.cnt + 1) % 256), ⟨#[]⟩⟩)
  else if b = 1024 then (s, some ⟨6, i.p.i, ⟨#[]⟩⟩)
  else if b = 2048 then (nxt s, if 1496 < i.p.d.size then none else some ⟨7, UInt8.ofNat ((s.cnt + 1) % 256), bOf ((Pkt.enc i.p.c i.p.i i.p.d.toList).take (Rej.sp s.mru))⟩)
  else (s, if i.p.c = 9 ∧ 4 ≤ i.p.d.size ∧ i.p.d.size ≤ 1496 then some ⟨10, i.p.i, echoD K s i.p.d⟩ else none)
def ActQ (K : Kd) (g a q : Nat) (s' : Sd K) (o : Option Pk) (w : World) (e : Ending) (w' : World) : Prop :=
  ∃ (pk : Pk) (er : Nat), e = .returned (.tuple #[.agg (pkV pk).toArray, .int .i64 er]) ∧ (er = 0 ∧ o = some pk ∨ er ≠ 0 ∧ o = none) ∧ SAt K w' g a q s' ∧ Moves (My g a q) w w'
theorem ofNat_toNat {n : Nat} (h : n < 256) : (UInt8.ofNat n).toNat = n := by
  rw [UInt8.toNat_ofNat']
  exact Nat.mod_eq_of_lt h
theorem box_two (w : World) (i : In) (A : Option Addr) (n c : Nat) : ∃ W, (w.alloc (.cells #[.int .u32 i.draw, .int .u8 i.p.c.toNat, .int .u8 i.p.i.toNat, .string i.p.d, .int .u8 i.code, .slice A n c] 88)).alloc (.cells #[.int .u8 0, .int .u8 0, .string ⟨#[]⟩] 56) = W ∧
    Hid (Blk W w.heap.size (inC i A n c) 88 ∧ Blk W (w.heap.size + 1) [.int .u8 0, .int .u8 0, .string ⟨#[]⟩] 56 ∧ Below w.heap.size w W) := by
  refine ⟨_, rfl, (blk_new w (inC i A n c) _).alloc _, ?_, ((Below.refl w.heap.size w).alloc (Nat.le_refl _) _).alloc (by rw [World.size_alloc]; exact Nat.le_succ _) _⟩
  have := blk_new (w.alloc (.cells #[.int .u32 i.draw, .int .u8 i.p.c.toNat, .int .u8 i.p.i.toNat, .string i.p.d, .int .u8 i.code, .slice A n c] 88)) [.int .u8 0, .int .u8 0, .string ⟨#[]⟩] 56
  rw [World.size_alloc] at this
  exact this
theorem act_end {K : Kd} {g a q : Nat} {s' : Sd K} {o : Option Pk} {w W : World} {cs : List Value} {b : Nat} (pk : Pk) (er : Nat) (h : SAt K W g a q s') (hm : Moves (My g a q) w W) (hb : Blk W b cs 56) (hl : cs.length = 3)
    (hw : w.heap.size ≤ b) (hg : ∀ k, My g a q k → k < w.heap.size) (ho : er = 0 ∧ o = some pk ∨ er ≠ 0 ∧ o = none) (x y : Int) (hx : x = pk.c.toNat) (hy : y = pk.i.toNat) :
    ActQ K g a q s' o w (.returned (.tuple #[.agg #[.int .u8 x, .int .u8 y, .string pk.d], .int .i64 er])) (((W.setCell ⟨b, 0, none⟩ (.int .u8 x)).setCell ⟨b, 1, none⟩ (.int .u8 y)).setCell ⟨b, 2, none⟩ (.string pk.d)) := by
  subst hx hy
  have hz := put_res hb pk.c.toNat pk.i.toNat pk.d hl
  exact ⟨pk, er, rfl, ho, h.moves hz.2 (fun k hk e => by have := hg k hk; omega), hm.trans hz.2 (fun j hj e => by omega)⟩
set_option maxHeartbeats 2000000 in
set_option maxRecDepth 100000 in
theorem term_ack (K : Kd) (g a q : Nat) (s : Sd K) (i : In) (A : Option Addr) (n c : Nat) (w : World) (h : SAt K w g a q s) :
    Calls Tryz.prog 62 #[ptr g, .agg #[.int .u32 i.draw, .int .u8 i.p.c.toNat, .int .u8 i.p.i.toNat, .string i.p.d, .int .u8 i.code, .slice A n c]] w (ActQ K g a q s (some ⟨6, i.p.i, ⟨#[]⟩⟩) w) := by
  obtain ⟨W, hW, HW⟩ := box_two w i A n c
  have H := Lib.hid (h.callee HW.out.2.2)
  have M : Hid (Moves (My g a q) w W) := Moves.of_below HW.out.2.2
  have HI := Lib.hid HW.out.1
  have HZ := Lib.hid HW.out.2.1
  have HG := Lib.hid h.old
  have d0 : W.cell? ⟨w.heap.size, 0, none⟩ = some (.int .u32 i.draw) := HI.out.at_ 0
  have d1 : W.cell? ⟨w.heap.size, 1, none⟩ = some (.int .u8 i.p.c.toNat) := HI.out.at_ 1
  have d2 : W.cell? ⟨w.heap.size, 2, none⟩ = some (.int .u8 i.p.i.toNat) := HI.out.at_ 2
  have d3 : W.cell? ⟨w.heap.size, 3, none⟩ = some (.string i.p.d) := HI.out.at_ 3
  have d4 : W.cell? ⟨w.heap.size, 4, none⟩ = some (.int .u8 i.code) := HI.out.at_ 4
  have d5 : W.cell? ⟨w.heap.size, 5, none⟩ = some (.slice A n c) := HI.out.at_ 5
  have C := Lib.hid (fun w => Rej.reply_ok i.p.c i.p.i i.p.d ⟨#[]⟩ 6 w (by decide))
  clear h HW
  unfold ptr
  go_enter Tryz.func62, Tryz.ntmps62
  go_wp2_with fail
  refine (C.out _).mono ?_
  rintro e w1 ⟨rfl, hb1⟩
  have H1 := Lib.hid (H.out.callee hb1)
  have M1 := Lib.hid (M.out.trans (Moves.of_below (S := My g a q) hb1) fun _ _ x => x)
  have HZ1 := Lib.hid (HZ.out.callee hb1)
  clear hb1 d0 d1 d2 d3 d4 d5
  have z0 : w1.cell? ⟨w.heap.size + 1, 0, none⟩ = some (.int .u8 0) := HZ1.out.at_ 0
  have z1 : w1.cell? ⟨w.heap.size + 1, 1, none⟩ = some (.int .u8 0) := HZ1.out.at_ 1
  have z2 : w1.cell? ⟨w.heap.size + 1, 2, none⟩ = some (.string ⟨#[]⟩) := HZ1.out.at_ 2
  have y0 := HZ1.out.frozen 0
  have y1 := HZ1.out.frozen 1
  have y2 := HZ1.out.frozen 2
  go_wp2
  (try simp only [Exit.inBlock, Exit.then])
  refine bodyPost_ret (Mem.results_row1 rfl _ _ (w.heap.size + 1) _ _ _ rfl (put_res HZ1.out _ _ _).1 Tryz.underlying56 rfl (by kernel_rfl)) rfl ?_
  exact act_end ⟨6, i.p.i, ⟨#[]⟩⟩ 0 H1.out M1.out HZ1.out rfl (Nat.le_succ _) HG.out (.inl ⟨rfl, rfl⟩) _ _ (rfl) (rfl)
set_option maxHeartbeats 2000000 in
set_option maxRecDepth 100000 in
theorem term_req (K : Kd) (g a q : Nat) (s : Sd K) (i : In) (A : Option Addr) (n c : Nat) (w : World) (h : SAt K w g a q s) :
    Calls Tryz.prog 61 #[ptr g, .agg #[.int .u32 i.draw, .int .u8 i.p.c.toNat, .int .u8 i.p.i.toNat, .string i.p.d, .int .u8 i.code, .slice A n c]] w (ActQ K g a q (nxt s) (some ⟨5, UInt8.ofNat ((s.cnt + 1) % 256), ⟨#[]⟩⟩) w) := by
  obtain ⟨W, hW, HW⟩ := box_two w i A n c
  have H := Lib.hid (h.callee HW.out.2.2)
  have M : Hid (Moves (My g a q) w W) := Moves.of_below HW.out.2.2
  have HI := Lib.hid HW.out.1
  have HZ := Lib.hid HW.out.2.1
  have HG := Lib.hid h.old
  have d0 : W.cell? ⟨w.heap.size, 0, none⟩ = some (.int .u32 i.draw) := HI.out.at_ 0
  have d1 : W.cell? ⟨w.heap.size, 1, none⟩ = some (.int .u8 i.p.c.toNat) := HI.out.at_ 1
  have d2 : W.cell? ⟨w.heap.size, 2, none⟩ = some (.int .u8 i.p.i.toNat) := HI.out.at_ 2
  have d3 : W.cell? ⟨w.heap.size, 3, none⟩ = some (.string i.p.d) := HI.out.at_ 3
  have d4 : W.cell? ⟨w.heap.size, 4, none⟩ = some (.int .u8 i.code) := HI.out.at_ 4
  have d5 : W.cell? ⟨w.heap.size, 5, none⟩ = some (.slice A n c) := HI.out.at_ 5
  have hN0 : (s.cnt + 1) % 256 < 256 := Nat.mod_lt _ (by decide)
  have HN : Hid (∀ w, SAt K w g a q s → Calls Tryz.prog 77 #[.pointer (some ⟨g, 0, none⟩)] w (fun e w' => e = .returned (.int .u8 ((s.cnt + 1) % 256 : Nat)) ∧ SAt K w' g a q { s with cnt := (s.cnt + 1) % 256 } ∧ Moves (fun k => k = g) w w')) := fun w h => next_id K g a q s w h
  unfold nxt
  generalize (s.cnt + 1) % 256 = N at *
  have HN0 : Hid (((UInt8.ofNat N).toNat : Int) = N) := by
    show _ = _
    rw [ofNat_toNat hN0]
  clear h HW hN0
  unfold ptr
  go_enter Tryz.func61, Tryz.ntmps61
  go_wp2_with fail
  refine (HN.out _ H.out).mono ?_
  rintro e w1 ⟨rfl, h1, m1⟩
  have H1 := Lib.hid h1
  have M1 := Lib.hid (M.out.trans (my_g m1) fun _ _ x => x)
  have HZ1 : Hid (Blk w1 (w.heap.size + 1) [.int .u8 0, .int .u8 0, .string ⟨#[]⟩] 56) := HZ.out.moves m1 (by have := HG.out g (.inl rfl); omega)
  clear h1 m1 d0 d1 d2 d3 d4 d5
  have z0 : w1.cell? ⟨w.heap.size + 1, 0, none⟩ = some (.int .u8 0) := HZ1.out.at_ 0
  have z1 : w1.cell? ⟨w.heap.size + 1, 1, none⟩ = some (.int .u8 0) := HZ1.out.at_ 1
  have z2 : w1.cell? ⟨w.heap.size + 1, 2, none⟩ = some (.string ⟨#[]⟩) := HZ1.out.at_ 2
  have y0 := HZ1.out.frozen 0
  have y1 := HZ1.out.frozen 1
  have y2 := HZ1.out.frozen 2
  go_wp2
  (try simp only [Exit.inBlock, Exit.then])
  refine bodyPost_ret (Mem.results_row1 rfl _ _ (w.heap.size + 1) _ _ _ rfl (put_res HZ1.out _ _ _).1 Tryz.underlying56 rfl (by kernel_rfl)) rfl ?_
  exact act_end ⟨5, UInt8.ofNat N, ⟨#[]⟩⟩ 0 H1.out M1.out HZ1.out rfl (Nat.le_succ _) HG.out (.inl ⟨rfl, rfl⟩) _ _ (rfl) (HN0.out.symm)
set_option maxHeartbeats 2000000 in
set_option maxRecDepth 100000 in
theorem conf_ans (K : Kd) (g a q : Nat) (s : Sd K) (i : In) (A : Option Addr) (n c : Nat) (w : World) (h : SAt K w g a q s) (ha : Ans w g a q A n i.ans) (hc : i.code < 256) :
    Calls Tryz.prog 60 #[ptr g, .agg #[.int .u32 i.draw, .int .u8 i.p.c.toNat, .int .u8 i.p.i.toNat, .string i.p.d, .int .u8 i.code, .slice A n c]] w (ActQ K g a q s (if pE i.ans = 0 then some ⟨UInt8.ofNat i.code, i.p.i, bOf (enc i.ans)⟩ else none) w) := by
  obtain ⟨W, hW, HW⟩ := box_two w i A n c
  have H := Lib.hid (h.callee HW.out.2.2)
  have M : Hid (Moves (My g a q) w W) := Moves.of_below HW.out.2.2
  have HI := Lib.hid HW.out.1
  have HZ := Lib.hid HW.out.2.1
  have HG := Lib.hid h.old
  have d0 : W.cell? ⟨w.heap.size, 0, none⟩ = some (.int .u32 i.draw) := HI.out.at_ 0
  have d1 : W.cell? ⟨w.heap.size, 1, none⟩ = some (.int .u8 i.p.c.toNat) := HI.out.at_ 1
  have d2 : W.cell? ⟨w.heap.size, 2, none⟩ = some (.int .u8 i.p.i.toNat) := HI.out.at_ 2
  have d3 : W.cell? ⟨w.heap.size, 3, none⟩ = some (.string i.p.d) := HI.out.at_ 3
  have d4 : W.cell? ⟨w.heap.size, 4, none⟩ = some (.int .u8 i.code) := HI.out.at_ 4
  have d5 : W.cell? ⟨w.heap.size, 5, none⟩ = some (.slice A n c) := HI.out.at_ 5
  have HA := Lib.hid (ha.moves M.out)
  have HP := Lib.hid (fun B A n c w hl hn hB => put_any i.ans B A n c w hl hn hB)
  have HCd : Hid (((UInt8.ofNat i.code).toNat : Int) = i.code) := by
    show _ = _
    rw [ofNat_toNat hc]
  by_cases h0 : pE i.ans = 0
  · have C : Hid (∀ w, Calls Tryz.prog 79 #[.agg #[.int .u8 i.p.c.toNat, .int .u8 i.p.i.toNat, .string i.p.d], .int .u8 i.code, .string (bOf (enc i.ans))] w fun e w' => e = .returned (.tuple #[.agg #[.int .u8 i.code, .int .u8 i.p.i.toNat, .string (bOf (enc i.ans))], .int .i64 0]) ∧ Below w.heap.size w w') :=
      fun w => Rej.reply_ok i.p.c i.p.i i.p.d (bOf (enc i.ans)) i.code w (by rw [size_bOf, Opt.enc_length]; exact (pE_zero.1 h0).2.2)
    rw [h0, put_yes h0] at HP
    rw [if_pos h0]
    clear h HW h0 ha hc
    unfold ptr
    go_enter Tryz.func60, Tryz.ntmps60
    go_wp2_with fail
    refine (HP.out _ _ _ _ W HA.out.1 HA.out.2.1 (Nat.le_refl _)).mono ?_
    rintro e w1 ⟨rfl, hb1⟩
    have H1 := Lib.hid (H.out.callee hb1)
    have M1 := Lib.hid (M.out.trans (Moves.of_below (S := My g a q) hb1) fun _ _ x => x)
    have HZ1 := Lib.hid (HZ.out.callee hb1)
    have HI1 := Lib.hid (HI.out.callee hb1)
    clear hb1 d0 d1 d2 d3 d4 d5 HP HA
    have d1 : w1.cell? ⟨w.heap.size, 1, none⟩ = some (.int .u8 i.p.c.toNat) := HI1.out.at_ 1
    have d2 : w1.cell? ⟨w.heap.size, 2, none⟩ = some (.int .u8 i.p.i.toNat) := HI1.out.at_ 2
    have d3 : w1.cell? ⟨w.heap.size, 3, none⟩ = some (.string i.p.d) := HI1.out.at_ 3
    have d4 : w1.cell? ⟨w.heap.size, 4, none⟩ = some (.int .u8 i.code) := HI1.out.at_ 4
    go_wp2_with fail
    refine (C.out _).mono ?_
    rintro e w2 ⟨rfl, hb2⟩
    have H2 := Lib.hid (H1.out.callee hb2)
    have M2 := Lib.hid (M1.out.trans (Moves.of_below (S := My g a q) hb2) fun _ _ x => x)
    have HZ2 := Lib.hid (HZ1.out.callee hb2)
    clear hb2 d1 d2 d3 d4
    have z0 : w2.cell? ⟨w.heap.size + 1, 0, none⟩ = some (.int .u8 0) := HZ2.out.at_ 0
    have z1 : w2.cell? ⟨w.heap.size + 1, 1, none⟩ = some (.int .u8 0) := HZ2.out.at_ 1
    have z2 : w2.cell? ⟨w.heap.size + 1, 2, none⟩ = some (.string ⟨#[]⟩) := HZ2.out.at_ 2
    have y0 := HZ2.out.frozen 0
    have y1 := HZ2.out.frozen 1
    have y2 := HZ2.out.frozen 2
    go_wp2
    (try simp only [Exit.inBlock, Exit.then])
    refine bodyPost_ret (Mem.results_row1 rfl _ _ (w.heap.size + 1) _ _ _ rfl (put_res HZ2.out _ _ _).1 Tryz.underlying56 rfl (by kernel_rfl)) rfl ?_
    exact act_end ⟨UInt8.ofNat i.code, i.p.i, bOf (enc i.ans)⟩ 0 H2.out M2.out HZ2.out rfl (Nat.le_succ _) HG.out (.inl ⟨rfl, rfl⟩) _ _ (HCd.out.symm) (rfl)
  · have HE : Hid ((((pE i.ans : Nat) : Int) != 0) = true) := by show _ = _; rw [bne_iff_ne]; omega
    have hE := HE.out
    rw [if_neg h0]
    have HE0 := Lib.hid h0
    clear h HW h0 ha hc
    unfold ptr
    go_enter Tryz.func60, Tryz.ntmps60
    go_wp2_with fail
    refine (HP.out _ _ _ _ W HA.out.1 HA.out.2.1 (Nat.le_refl _)).mono ?_
    generalize pE i.ans = E at *
    rintro e w1 ⟨rfl, hb1⟩
    have H1 := Lib.hid (H.out.callee hb1)
    have M1 := Lib.hid (M.out.trans (Moves.of_below (S := My g a q) hb1) fun _ _ x => x)
    have HZ1 := Lib.hid (HZ.out.callee hb1)
    clear hb1 d0 d1 d2 d3 d4 d5 HP HA
    have z0 : w1.cell? ⟨w.heap.size + 1, 0, none⟩ = some (.int .u8 0) := HZ1.out.at_ 0
    have z1 : w1.cell? ⟨w.heap.size + 1, 1, none⟩ = some (.int .u8 0) := HZ1.out.at_ 1
    have z2 : w1.cell? ⟨w.heap.size + 1, 2, none⟩ = some (.string ⟨#[]⟩) := HZ1.out.at_ 2
    have y0 := HZ1.out.frozen 0
    have y1 := HZ1.out.frozen 1
    have y2 := HZ1.out.frozen 2
    go_wp2
    (try simp only [Exit.inBlock, Exit.then])
    refine bodyPost_ret (Mem.results_row1 rfl _ _ (w.heap.size + 1) _ _ _ rfl (put_res HZ1.out _ _ _).1 Tryz.underlying56 rfl (by kernel_rfl)) rfl ?_
    exact act_end zpk _ H1.out M1.out HZ1.out rfl (Nat.le_succ _) HG.out (.inr ⟨HE0.out, rfl⟩) _ _ (rfl) (rfl)
set_option maxHeartbeats 2000000 in
set_option maxRecDepth 100000 in
theorem code_rej (K : Kd) (g a q : Nat) (s : Sd K) (i : In) (A : Option Addr) (n c : Nat) (w : World) (h : SAt K w g a q s) (hm0 : 64 ≤ s.mru) (hm1 : s.mru ≤ 65535) (o : Option Pk) (ho : o = if 1496 < i.p.d.size then none else some ⟨7, UInt8.ofNat ((s.cnt + 1) % 256), bOf ((Pkt.enc i.p.c i.p.i i.p.d.toList).take (Rej.sp s.mru))⟩) :
    Calls Tryz.prog 63 #[ptr g, .agg #[.int .u32 i.draw, .int .u8 i.p.c.toNat, .int .u8 i.p.i.toNat, .string i.p.d, .int .u8 i.code, .slice A n c]] w (ActQ K g a q (nxt s) o w) := by
  obtain ⟨W, hW, HW⟩ := box_two w i A n c
  have H := Lib.hid (h.callee HW.out.2.2)
  have M : Hid (Moves (My g a q) w W) := Moves.of_below HW.out.2.2
  have HI := Lib.hid HW.out.1
  have HZ := Lib.hid HW.out.2.1
  have HG := Lib.hid h.old
  have d0 : W.cell? ⟨w.heap.size, 0, none⟩ = some (.int .u32 i.draw) := HI.out.at_ 0
  have d1 : W.cell? ⟨w.heap.size, 1, none⟩ = some (.int .u8 i.p.c.toNat) := HI.out.at_ 1
  have d2 : W.cell? ⟨w.heap.size, 2, none⟩ = some (.int .u8 i.p.i.toNat) := HI.out.at_ 2
  have d3 : W.cell? ⟨w.heap.size, 3, none⟩ = some (.string i.p.d) := HI.out.at_ 3
  have d4 : W.cell? ⟨w.heap.size, 4, none⟩ = some (.int .u8 i.code) := HI.out.at_ 4
  have d5 : W.cell? ⟨w.heap.size, 5, none⟩ = some (.slice A n c) := HI.out.at_ 5
  have hN0 : (s.cnt + 1) % 256 < 256 := Nat.mod_lt _ (by decide)
  have HN : Hid (∀ w, SAt K w g a q s → Calls Tryz.prog 77 #[.pointer (some ⟨g, 0, none⟩)] w (fun e w' => e = .returned (.int .u8 ((s.cnt + 1) % 256 : Nat)) ∧ SAt K w' g a q { s with cnt := (s.cnt + 1) % 256 } ∧ Moves (fun k => k = g) w w')) := fun w h => next_id K g a q s w h
  unfold nxt
  generalize (s.cnt + 1) % 256 = N at *
  have HN0 : Hid (((UInt8.ofNat N).toNat : Int) = N) := by
    show _ = _
    rw [ofNat_toNat hN0]
  obtain ⟨pk, er, HO, C⟩ : ∃ (pk : Pk) (er : Nat), Hid (er = 0 ∧ o = some pk ∨ er ≠ 0 ∧ o = none) ∧
      Hid (∀ w, Calls Tryz.prog 80 #[.int .u8 N, .agg #[.int .u8 i.p.c.toNat, .int .u8 i.p.i.toNat, .string i.p.d], .int .i64 s.mru] w fun e w' => e = .returned (.tuple #[.agg #[.int .u8 pk.c.toNat, .int .u8 pk.i.toNat, .string pk.d], .int .i64 er]) ∧ Below w.heap.size w w') := by
    by_cases hd : 1496 < i.p.d.size
    · rw [if_pos hd] at ho
      exact ⟨zpk, 5, .inr ⟨by decide, ho⟩, fun w => by rw [← HN0.out]; exact Rej.code_long (UInt8.ofNat N) i.p.c i.p.i i.p.d s.mru w (Rej.may_yes hm0 hm1) hd⟩
    · rw [if_neg hd] at ho
      exact ⟨_, 0, .inl ⟨rfl, ho⟩, fun w => by rw [← HN0.out]; exact Rej.code_ok (UInt8.ofNat N) i.p.c i.p.i i.p.d s.mru w hm0 hm1 (by omega)⟩
  have HD : Hid (SAt K W.drew g a q s) := H.out.moves ((Moves.refl (fun _ => False) W).drew) (fun _ _ x => x)
  have c3 : W.drew.cell? ⟨g, 3, none⟩ = some (.int .i64 s.mru) := HD.out.c 3
  have e1 : W.drew.cell? ⟨w.heap.size, 1, none⟩ = some (.int .u8 i.p.c.toNat) := d1
  have e2 : W.drew.cell? ⟨w.heap.size, 2, none⟩ = some (.int .u8 i.p.i.toNat) := d2
  have e3 : W.drew.cell? ⟨w.heap.size, 3, none⟩ = some (.string i.p.d) := d3
  have MD : Hid (Moves (My g a q) w W.drew) := M.out.drew
  have HID : Hid (Blk W.drew w.heap.size (inC i A n c) 88) := HI.out.drew
  have HZD : Hid (Blk W.drew (w.heap.size + 1) [.int .u8 0, .int .u8 0, .string ⟨#[]⟩] 56) := HZ.out.drew
  clear h HW hN0 hm0 hm1 ho
  unfold ptr
  go_enter Tryz.func63, Tryz.ntmps63
  go_wp2_with fail
  (try clear hW)
  go_region_with (first
    | (go_at_call 77; refine (HN.out _ HD.out).mono ?_; rintro e w1 ⟨rfl, h1, m1⟩; have H1 := Lib.hid h1; have M1 := Lib.hid (MD.out.trans (my_g m1) fun _ _ x => x); have HZ1 : Hid (Blk w1 (w.heap.size + 1) [.int .u8 0, .int .u8 0, .string ⟨#[]⟩] 56) := HZD.out.moves m1 (by have := HG.out g (.inl rfl); omega); have HI1 : Hid (Blk w1 w.heap.size (inC i A n c) 88) := HID.out.moves m1 (by have := HG.out g (.inl rfl); omega); clear h1 m1; have b1 : w1.cell? ⟨w.heap.size, 1, none⟩ = some (.int .u8 i.p.c.toNat) := HI1.out.at_ 1; have b2 : w1.cell? ⟨w.heap.size, 2, none⟩ = some (.int .u8 i.p.i.toNat) := HI1.out.at_ 2; have b3 : w1.cell? ⟨w.heap.size, 3, none⟩ = some (.string i.p.d) := HI1.out.at_ 3; have k3 : w1.cell? ⟨g, 3, none⟩ = some (.int .i64 s.mru) := H1.out.c 3)
    | (go_at_call 80; refine (C.out _).mono ?_; rintro e w2 ⟨rfl, hb2⟩; have H2 := Lib.hid (H1.out.callee hb2); have M2 := Lib.hid (M1.out.trans (Moves.of_below (S := My g a q) hb2) fun _ _ x => x); have HZ2 := Lib.hid (HZ1.out.callee hb2); clear hb2; have z0 : w2.cell? ⟨w.heap.size + 1, 0, none⟩ = some (.int .u8 0) := HZ2.out.at_ 0; have z1 : w2.cell? ⟨w.heap.size + 1, 1, none⟩ = some (.int .u8 0) := HZ2.out.at_ 1; have z2 : w2.cell? ⟨w.heap.size + 1, 2, none⟩ = some (.string ⟨#[]⟩) := HZ2.out.at_ 2; have y0 := HZ2.out.frozen 0; have y1 := HZ2.out.frozen 1; have y2 := HZ2.out.frozen 2)
    | fail)
  all_goals (try go_wp2)
  all_goals (try simp only [Exit.inBlock, Exit.then])
  all_goals (refine bodyPost_ret (Mem.results_row1 rfl _ _ (w.heap.size + 1) _ _ _ rfl (put_res HZ2.out _ _ _).1 Tryz.underlying56 rfl (by kernel_rfl)) rfl ?_)
  all_goals exact act_end pk _ H2.out M2.out HZ2.out rfl (Nat.le_succ _) HG.out HO.out _ _ rfl rfl
end Go.Proofs.YtpppggicihfbgaaGreat.Neg

/- Rows of packets; the map of what is sent; how a set of actions is performed. -/
namespace Go.Proofs.YtpppggicihfbgaaGreat.Neg
open Go.RowKit Go.Proofs.YtpppggicihfbgaaGreat.Oct Go.Proofs.YtpppggicihfbgaaGreat.Row Go.Proofs.YtpppggicihfbgaaGreat.Mem Go.Proofs.YtpppggicihfbgaaGreat.Opt Go.Proofs.YtpppggicihfbgaaGreat.Fsm Go.ChangeMaps
open Go.Proofs.YtpppggicihfbgaaGreat.Aut (Au Aut Inv find_no run_key push_set find_yes)

/-! ### the map -/
def sn (b : Nat) : Bool := decide (b = 64) || decide (b = 128) || decide (b = 256) || decide (b = 512) || decide (b = 1024) || decide (b = 2048) || decide (b = 4096)
def fS (b : Nat) : FuncId := if b = 64 then 59 else if b = 128 then 60 else if b = 256 then 60 else if b = 512 then 61 else if b = 1024 then 62 else if b = 2048 then 63 else 64
theorem sn_cases {b : Nat} (h : sn b = true) : b = 64 ∨ b = 128 ∨ b = 256 ∨ b = 512 ∨ b = 1024 ∨ b = 2048 ∨ b = 4096 := by
  simp only [sn, Bool.or_eq_true, decide_eq_true_eq] at h
  omega
set_option maxRecDepth 100000 in
theorem sn_enters {b : Nat} (h : sn b = true) : ∀ args w, (callFunc (fS b) args).run Tryz.prog w = .ok (.enter (fS b) args) w := by
  rcases sn_cases h with rfl | rfl | rfl | rfl | rfl | rfl | rfl
  · exact enters_of Tryz.func59 (by kernel_rfl) rfl
  · exact enters_of Tryz.func60 (by kernel_rfl) rfl
  · exact enters_of Tryz.func60 (by kernel_rfl) rfl
  · exact enters_of Tryz.func61 (by kernel_rfl) rfl
  · exact enters_of Tryz.func62 (by kernel_rfl) rfl
  · exact enters_of Tryz.func63 (by kernel_rfl) rfl
  · exact enters_of Tryz.func64 (by kernel_rfl) rfl
def snV (b : Nat) : Value := .agg #[.func (.func (fS b)) #[] #[]]
def ents : Array MapEntry := #[⟨.int .u16 64, snV 64, 0⟩, ⟨.int .u16 128, snV 128, 1⟩, ⟨.int .u16 256, snV 256, 2⟩, ⟨.int .u16 512, snV 512, 3⟩, ⟨.int .u16 1024, snV 1024, 4⟩, ⟨.int .u16 2048, snV 2048, 5⟩, ⟨.int .u16 4096, snV 4096, 6⟩]
def Mp (W : World) (m : Nat) : Prop := W.heap[m]? = some (.map ents 7)
theorem Mp.lt {W : World} {m : Nat} (h : Mp W m) : m < W.heap.size := (Array.getElem?_eq_some_iff.1 h).1
theorem Mp.callee {W W' : World} {m : Nat} (h : Mp W m) (hb : Below W.heap.size W W') : Mp W' m := (hb.block m h.lt).trans h
theorem Mp.moves {S : Nat → Prop} {W W' : World} {m : Nat} (h : Mp W m) (hm : Moves S W W') (hs : ¬ S m) : Mp W' m := (hm.block m h.lt hs).trans h
theorem run_lay {w W : World} {m c : Nat} {es : Array MapEntry} (n : Int) (v : Value) (h : W = w.alloc (.map es c)) (hm : m = w.heap.size) (hn : ∀ e ∈ es.toList, ∃ k, e.key = .int .u16 k ∧ (n == k) = false) :
    ∃ W', (Instr.mapUpdate 130 (.map (some m)) (.int .u16 n) v).run Tryz.prog W = .ok () W' ∧ W' = w.alloc (.map (es.push ⟨.int .u16 n, v, c⟩) (c + 1)) := by
  subst h hm
  refine ⟨_, ?_, rfl⟩
  have hb := (MapKept.heap_alloc w (.map es c)).1
  have h1 := run_underlying (w := w.alloc (.map es c)) Tryz.underlying22
  have h2 := run_underlying (w := w.alloc (.map es c)) Tryz.underlying130
  have h3 := run_key (w.alloc (.map es c)) false n
  have h4 := MapKept.run_setObj_map (P := Tryz.prog) (.map (es.push ⟨.int .u16 n, v, c⟩) (c + 1)) hb
  have e : { w.alloc (.map es c) with heap := (w.alloc (.map es c)).heap.setIfInBounds w.heap.size (.map (es.push ⟨.int .u16 n, v, c⟩) (c + 1)) } = w.alloc (.map (es.push ⟨.int .u16 n, v, c⟩) (c + 1)) :=
    congrArg (fun h : Array Obj => { w with heap := h }) (push_set w.heap (.map es c) (.map (es.push ⟨.int .u16 n, v, c⟩) (c + 1)))
  rw [e] at h4
  simp [Instr.mapUpdate, h2, MapKept.run_getObj_map hb, h3, Instr.findKey, h1, find_no n es.toList 0 hn, h4, Result.andThen]
theorem keys_no {es : List MapEntry} {n : Int} (h : ∀ e ∈ es, ∃ k : Int, e.key = .int .u16 k ∧ k < n) : ∀ e ∈ es, ∃ k, e.key = .int .u16 k ∧ (n == k) = false := fun e he => by
  obtain ⟨k, hk, hlt⟩ := h e he
  exact ⟨k, hk, beq_eq_false_iff_ne.2 (by omega)⟩
set_option maxHeartbeats 2000000 in
set_option maxRecDepth 100000 in
theorem sendings_any (w : World) : Calls Tryz.prog 44 #[] w fun e w' => ∃ m, e = .returned (.map (some m)) ∧ Mp w' m ∧ w.heap.size ≤ m ∧ Below w.heap.size w w' := by
  have hmm := @run_makeMap Tryz.prog
  obtain ⟨W1, h1, e1⟩ := run_lay (w := w) (c := 0) (es := #[]) 64 (snV 64) rfl rfl (by intro e he; simp at he)
  obtain ⟨W2, h2, e2⟩ := run_lay (w := w) 128 (snV 128) e1 rfl (keys_no (by intro e he; simp at he; subst he; exact ⟨64, rfl, by decide⟩))
  obtain ⟨W3, h3, e3⟩ := run_lay (w := w) 256 (snV 256) e2 rfl (keys_no (by intro e he; simp at he; rcases he with rfl | rfl <;> exact ⟨_, rfl, by decide⟩))
  obtain ⟨W4, h4, e4⟩ := run_lay (w := w) 512 (snV 512) e3 rfl (keys_no (by intro e he; simp at he; rcases he with rfl | rfl | rfl <;> exact ⟨_, rfl, by decide⟩))
  obtain ⟨W5, h5, e5⟩ := run_lay (w := w) 1024 (snV 1024) e4 rfl (keys_no (by intro e he; simp at he; rcases he with rfl | rfl | rfl | rfl <;> exact ⟨_, rfl, by decide⟩))
  obtain ⟨W6, h6, e6⟩ := run_lay (w := w) 2048 (snV 2048) e5 rfl (keys_no (by intro e he; simp at he; rcases he with rfl | rfl | rfl | rfl | rfl <;> exact ⟨_, rfl, by decide⟩))
  obtain ⟨W7, h7, e7⟩ := run_lay (w := w) 4096 (snV 4096) e6 rfl (keys_no (by intro e he; simp at he; rcases he with rfl | rfl | rfl | rfl | rfl | rfl <;> exact ⟨_, rfl, by decide⟩))
  have H : Hid (Mp W7 w.heap.size ∧ Below w.heap.size w W7) := by
    subst e7
    exact ⟨(MapKept.heap_alloc w _).1, (Below.refl _ _).alloc (Nat.le_refl _) _⟩
  clear e1 e2 e3 e4 e5 e6 e7
  have q64 : fS 64 = 59 := rfl
  have q128 : fS 128 = 60 := rfl
  have q256 : fS 256 = 60 := rfl
  have q512 : fS 512 = 61 := rfl
  have q1024 : fS 1024 = 62 := rfl
  have q2048 : fS 2048 = 63 := rfl
  have q4096 : fS 4096 = 64 := rfl
  simp only [snV, q64, q128, q256, q512, q1024, q2048, q4096] at h1 h2 h3 h4 h5 h6 h7
  clear q64 q128 q256 q512 q1024 q2048 q4096
  go_enter Tryz.func44, Tryz.ntmps44
  go_wp2
  go_ret
  exact ⟨_, rfl, H.out.1, Nat.le_refl _, H.out.2⟩
theorem ents_mem {e : MapEntry} (h : e ∈ ents.toList) : ∃ t : Nat, sn t = true ∧ e.key = .int .u16 (t : Int) ∧ e.val = snV t := by
  simp only [ents, List.mem_cons, List.not_mem_nil, or_false] at h
  rcases h with rfl | rfl | rfl | rfl | rfl | rfl | rfl
  · exact ⟨64, rfl, rfl, rfl⟩
  · exact ⟨128, rfl, rfl, rfl⟩
  · exact ⟨256, rfl, rfl, rfl⟩
  · exact ⟨512, rfl, rfl, rfl⟩
  · exact ⟨1024, rfl, rfl, rfl⟩
  · exact ⟨2048, rfl, rfl, rfl⟩
  · exact ⟨4096, rfl, rfl, rfl⟩
theorem mem_ents {t : Nat} (h : sn t = true) : ∃ e ∈ ents.toList, e.key = .int .u16 (t : Int) := by
  rcases sn_cases h with e | e | e | e | e | e | e <;> subst e
  · exact ⟨⟨.int .u16 64, snV 64, 0⟩, by simp [ents], rfl⟩
  · exact ⟨⟨.int .u16 128, snV 128, 1⟩, by simp [ents], rfl⟩
  · exact ⟨⟨.int .u16 256, snV 256, 2⟩, by simp [ents], rfl⟩
  · exact ⟨⟨.int .u16 512, snV 512, 3⟩, by simp [ents], rfl⟩
  · exact ⟨⟨.int .u16 1024, snV 1024, 4⟩, by simp [ents], rfl⟩
  · exact ⟨⟨.int .u16 2048, snV 2048, 5⟩, by simp [ents], rfl⟩
  · exact ⟨⟨.int .u16 4096, snV 4096, 6⟩, by simp [ents], rfl⟩
theorem look_yes {t : Nat} (ht : sn t = true) {W : World} {m : Nat} (h : Mp W m) :
    (Instr.lookup 130 (.map (some m)) (.int .u16 t) true).run Tryz.prog W = .ok (.tuple #[snV t, .bool true]) W := by
  have h1 := run_underlying (w := W) Tryz.underlying22
  have h2 := run_underlying (w := W) Tryz.underlying130
  have h3 := run_key W ents.isEmpty t
  obtain ⟨j, hj⟩ := find_yes t (snV t) ents.toList 0 (fun e he => by obtain ⟨u, _, hk, _⟩ := ents_mem he; exact ⟨_, hk⟩) (mem_ents ht) (fun e he hk => by
    obtain ⟨u, _, hk', hv⟩ := ents_mem he
    have e2 := hk.symm.trans hk'
    simp only [Value.int.injEq, true_and] at e2
    rw [hv, show t = u by omega])
  have hb : W.heap[m]? = some (.map ents 7) := h
  simp [Instr.lookup, h2, MapKept.run_getObj_map hb, h3, Instr.findKey, h1, hj, Result.andThen]
theorem look_no {t : Nat} (ht : sn t = false) {W : World} {m : Nat} (h : Mp W m) :
    (Instr.lookup 130 (.map (some m)) (.int .u16 t) true).run Tryz.prog W = .ok (.tuple #[.agg #[.nilFunc], .bool false]) W := by
  have h1 := run_underlying (w := W) Tryz.underlying22
  have h2 := run_underlying (w := W) Tryz.underlying130
  have h3 := run_key W ents.isEmpty t
  have hj := find_no t ents.toList 0 (fun e he => by
    obtain ⟨u, hu, hk, _⟩ := ents_mem he
    refine ⟨_, hk, beq_eq_false_iff_ne.2 fun e => ?_⟩
    have : t = u := by omega
    rw [this, hu] at ht
    cases ht)
  have hb : W.heap[m]? = some (.map ents 7) := h
  simp [Instr.lookup, h2, MapKept.run_getObj_map hb, h3, Instr.findKey, h1, hj, Result.andThen]
end Go.Proofs.YtpppggicihfbgaaGreat.Neg

/- How a set of actions is performed. -/
namespace Go.Proofs.YtpppggicihfbgaaGreat.Neg
open Go.RowKit Go.Proofs.YtpppggicihfbgaaGreat.Oct Go.Proofs.YtpppggicihfbgaaGreat.Row Go.Proofs.YtpppggicihfbgaaGreat.Mem Go.Proofs.YtpppggicihfbgaaGreat.Opt Go.Proofs.YtpppggicihfbgaaGreat.Fsm
open Go.Proofs.YtpppggicihfbgaaGreat.Aut (Au Aut Inv)

def stp {K : Kd} (i : In) (st : Sd K × List Pk) (b : Nat) : Sd K × List Pk := if sn b then ((act K i b st.1).1, st.2 ++ (act K i b st.1).2.toList) else st
def perL {K : Kd} (i : In) (L : List Nat) (s : Sd K) : Sd K × List Pk := L.foldl (stp i) (s, [])
theorem perL_take {K : Kd} (i : In) {L : List Nat} {j : Nat} (h : j < L.length) (s : Sd K) : perL i (L.take (j + 1)) s = stp i (perL i (L.take j) s) L[j] := by
  unfold perL
  rw [List.take_succ_eq_append_getElem h, List.foldl_append]
  rfl
def told (set : Nat) : Int := bits .and .u16 (set : Int) 15
def zoutV : List Value := [.slice none 0 0, .int .u16 0, .int .u16 0, .bool false]
theorem opts_moves {S : Nat → Prop} {w w' : World} {B : Nat} {A : Option Addr} {n : Nat} {l : List Opt} (h : Opts w B A n l) (hB : B ≤ w.heap.size) (hm : Moves S w w') (hs : ∀ ad, A = some ad → 0 < n → ad.block < B → ¬ S ad.block) : Opts w' B A n l := by
  refine ⟨h.1, h.2.1, fun hn => ?_⟩
  obtain ⟨ad, e, hb, hc⟩ := h.2.2 hn
  have hs := hs ad e hn hb
  refine ⟨ad, e, hb, fun j hj => ⟨?_, ?_⟩⟩
  · rw [hm.cell (by rw [Oct.block_add]; omega) (by rw [Oct.block_add]; exact hs)]
    exact (hc j hj).1
  · rw [hm.cell (p := ⟨(ad.add (j * 2)).block, (ad.add (j * 2)).off + 1, none⟩) (by show (ad.add (j * 2)).block < _; rw [Oct.block_add]; omega) (by show ¬ S (ad.add (j * 2)).block; rw [Oct.block_add]; exact hs)]
    exact (hc j hj).2
def Prf (K : Kd) (i : In) (w : World) (g a q m : Nat) (A : Option Addr) (n c : Nat) (vL : Value) (L : List Nat) (T : Int) (s : Sd K) (l : List Pk) (R : Option Addr) (rc : Nat) (wr : World) : Prop :=
  wr.ownsRow w.heap.size 22 1 vL L.length (numsV L) ∧ Mp wr m ∧ SAt K wr g a q s ∧ Blk wr w.heap.size (inC i A n c) 88 ∧ Blk wr (w.heap.size + 1) zoutV 51 ∧ Blk wr (w.heap.size + 2) [.slice R l.length rc, .int .u16 T, .int .u16 0, .bool false] 51 ∧
    wr.ownsRow w.heap.size 56 3 (.slice R l.length rc) l.length (pksV l) ∧ (Opts wr w.heap.size A n i.ans ∧ n ≤ maxLen ∧ ∀ ad, A = some ad → 0 < n → ¬ My g a q ad.block) ∧ Moves (My g a q) w wr ∧ w.heap.size ≤ m
theorem Prf.moves {K : Kd} {i : In} {w wr w' : World} {g a q m : Nat} {A : Option Addr} {n c : Nat} {vL : Value} {L : List Nat} {T : Int} {s s' : Sd K} {l : List Pk} {R : Option Addr} {rc : Nat} (h : Prf K i w g a q m A n c vL L T s l R rc wr) (hm : Moves (My g a q) wr w') (hs : SAt K w' g a q s') (hg : ∀ k, My g a q k → k < w.heap.size) : Prf K i w g a q m A n c vL L T s' l R rc w' := by
  obtain ⟨h1, h2, h3, h4, h5, h6, h7, h8, h9, h10⟩ := h
  have no : ∀ k, w.heap.size ≤ k → ¬ My g a q k := fun k hk e => by have := hg k e; omega
  exact ⟨hm.row h1 (fun k hk => no k (h1.lt k hk).1), h2.moves hm (no _ h10), hs, h4.moves hm (no _ (Nat.le_refl _)), h5.moves hm (no _ (Nat.le_succ _)), h6.moves hm (no _ (by omega)), hm.row h7 (fun k hk => no k (h7.lt k hk).1), ⟨opts_moves h8.1 h9.size hm fun ad e h0 _ => h8.2.2 ad e h0, h8.2⟩, h9.trans hm (fun _ _ x => x), h10⟩
theorem Prf.below {K : Kd} {i : In} {w wr w' : World} {g a q m : Nat} {A : Option Addr} {n c : Nat} {vL : Value} {L : List Nat} {T : Int} {s : Sd K} {l : List Pk} {R : Option Addr} {rc : Nat} (h : Prf K i w g a q m A n c vL L T s l R rc wr) (hb : Below wr.heap.size wr w') (hg : ∀ k, My g a q k → k < w.heap.size) : Prf K i w g a q m A n c vL L T s l R rc w' :=
  h.moves (Moves.of_below hb) (h.2.2.1.callee hb) hg
theorem Prf.put {K : Kd} {i : In} {w wr w' : World} {g a q m : Nat} {A : Option Addr} {n c : Nat} {vL : Value} {L : List Nat} {T : Int} {s : Sd K} {l : List Pk} {R R' : Option Addr} {rc rc' : Nat} (h : Prf K i w g a q m A n c vL L T s l R rc wr) (hg : ∀ k, My g a q k → k < w.heap.size) (p : Pk)
    (hgr : wr.grownBy w' (Value.slice R l.length rc).ownBlock) (hown : w'.ownsRow w.heap.size 56 3 (.slice R' (l ++ [p]).length rc') (l ++ [p]).length (pksV (l ++ [p]))) : Prf K i w g a q m A n c vL L T s (l ++ [p]) R' rc' (w'.setCell ⟨w.heap.size + 2, 0, none⟩ (.slice R' (l ++ [p]).length rc')) := by
  obtain ⟨h1, h2, h3, h4, h5, h6, h7, h8, h9, h10⟩ := h
  have hrow : ∀ k, (Value.slice R l.length rc).ownBlock = some k → w.heap.size ≤ k ∧ ∃ cur : Array Value, wr.heap[k]? = some (.cells cur 56 (0, 0)) := fun k hk => by
    rcases h7.2 with ⟨e, _⟩ | ⟨g', cap, cur, e, hb, hg', _⟩
    · rw [e] at hk; cases hk
    · rw [e] at hk; cases hk; exact ⟨hb, cur, hg'⟩
  have hm : Moves (fun k => (Value.slice R l.length rc).ownBlock = some k) wr w' := Moves.of_grown hgr (fun k e _ => e)
  have hset := set1_moves w' (w.heap.size + 2) 0 (.slice R' (l ++ [p]).length rc')
  have no : ∀ {k : Nat} {cs : List Value} {t : TypeId}, Blk wr k cs t → t ≠ 56 → ¬ (Value.slice R l.length rc).ownBlock = some k := fun hb ht e => by
    obtain ⟨_, cur, hc⟩ := hrow _ e
    rw [hb] at hc
    cases hc
    exact ht rfl
  have my : ∀ k, My g a q k → ¬ (Value.slice R l.length rc).ownBlock = some k := fun k hk e => by have := (hrow k e).1; have := hg k hk; omega
  have my2 : ∀ k, My g a q k → ¬ k = w.heap.size + 2 := fun k hk e => by have := hg k hk; omega
  have hL : w'.ownsRow w.heap.size 22 1 vL L.length (numsV L) := hm.row h1 (fun k hk e => rows_apart (by decide) h1 h7 k hk e)
  have hM : Mp w' m := h2.moves hm (fun e => by obtain ⟨_, cur, hc⟩ := hrow _ e; rw [show wr.heap[m]? = _ from h2] at hc; cases hc)
  have h6' : Blk w' (w.heap.size + 2) [.slice R l.length rc, .int .u16 T, .int .u16 0, .bool false] 51 := h6.moves hm (no h6 (by decide))
  have nr : ∀ k, vL.ownBlock = some k → ¬ k = w.heap.size + 2 := fun k hk e => by
    subst e
    exact cells_not_row (e := 22) h6' (by decide) hL hk
  have np : ∀ k, (Value.slice R' (l ++ [p]).length rc').ownBlock = some k → ¬ k = w.heap.size + 2 := fun k hk e => by
    subst e
    exact cells_not_row (e := 56) h6' (by decide) hown hk
  have hA := opts_moves h8.1 h9.size hm (fun ad _ _ hb e => by have := (hrow _ e).1; omega)
  have hA2 := opts_moves hA (Nat.le_trans h9.size hm.size) hset (fun ad _ _ hb e => by omega)
  refine ⟨hset.row hL nr, hM.moves hset (fun e => by subst e; have hq : w'.heap[w.heap.size + 2]? = some _ := h6'; rw [show w'.heap[w.heap.size + 2]? = _ from hM] at hq; cases hq), (h3.moves hm my).moves hset my2, (h4.moves hm (no h4 (by decide))).moves hset (by omega), (h5.moves hm (no h5 (by decide))).moves hset (by omega), h6'.set 0 _, hset.row hown np, ⟨hA2, h8.2⟩, (h9.trans (T := fun k => (Value.slice R l.length rc).ownBlock = some k) hm (fun j hj e => by have := (hrow j e).1; omega)).trans hset (fun j hj e => by omega), h10⟩
theorem Prf.ans {K : Kd} {i : In} {w wr : World} {g a q m : Nat} {A : Option Addr} {n c : Nat} {vL : Value} {L : List Nat} {T : Int} {s : Sd K} {l : List Pk} {R : Option Addr} {rc : Nat} (h : Prf K i w g a q m A n c vL L T s l R rc wr) : Ans wr g a q A n i.ans := ⟨h.2.2.2.2.2.2.2.1.1.more h.2.2.2.2.2.2.2.2.1.size, h.2.2.2.2.2.2.2.1.2⟩
theorem Prf.out7 {K : Kd} {i : In} {w wr w' : World} {g a q m : Nat} {A : Option Addr} {n c : Nat} {vL : Value} {L : List Nat} {T : Int} {s : Sd K} {l : List Pk} {R : Option Addr} {rc : Nat} (h : Prf K i w g a q m A n c vL L T s l R rc wr)
    (hgr : wr.grownBy w' (Value.slice R l.length rc).ownBlock) : w'.cell? ⟨w.heap.size + 2, 0, none⟩ = some (.slice R l.length rc) ∧ w'.frozen? ⟨w.heap.size + 2, 0, none⟩ = false := by
  obtain ⟨h1, h2, h3, h4, h5, h6, h7, h8, h9, h10⟩ := h
  have hm : Moves (fun k => (Value.slice R l.length rc).ownBlock = some k) wr w' := Moves.of_grown hgr (fun k e _ => e)
  have := h6.moves hm (fun e => cells_not_row (e := 56) h6 (by decide) h7 e)
  exact ⟨this.at_ 0, this.frozen 0⟩
theorem out_put {W : World} {b : Nat} {x0 x1 x2 x3 : Value} (h : Blk W b [x0, x1, x2, x3] 51) (v : Value) (T P : Int) (e : Bool) :
    Blk ((((W.setCell ⟨b, 0, none⟩ v).setCell ⟨b, 1, none⟩ (.int .u16 T)).setCell ⟨b, 2, none⟩ (.int .u16 P)).setCell ⟨b, 3, none⟩ (.bool e)) b [v, .int .u16 T, .int .u16 P, .bool e] 51 ∧
    Moves (fun k => k = b) W ((((W.setCell ⟨b, 0, none⟩ v).setCell ⟨b, 1, none⟩ (.int .u16 T)).setCell ⟨b, 2, none⟩ (.int .u16 P)).setCell ⟨b, 3, none⟩ (.bool e)) :=
  ⟨(((h.set 0 v).set 1 (.int .u16 T)).set 2 (.int .u16 P)).set 3 (.bool e), (((set1_moves W b 0 _).trans (set1_moves _ b 1 _) fun _ _ x => x).trans (set1_moves _ b 2 _) fun _ _ x => x).trans (set1_moves _ b 3 _) fun _ _ x => x⟩
theorem boxE (W : World) (v : Value) : ∃ V V2, W.alloc (.cells #[.nilFunc] 136) = V ∧ V.setCell ⟨W.heap.size, 0, none⟩ v = V2 ∧ V.cell? ⟨W.heap.size, 0, none⟩ = some .nilFunc ∧ V.frozen? ⟨W.heap.size, 0, none⟩ = false ∧ Hid (Blk V2 W.heap.size [v] 136 ∧ Below W.heap.size W V2) := by
  have h := blk_new W [.nilFunc] 136
  exact ⟨_, _, rfl, rfl, h.at_ 0, h.frozen 0, h.set 0 v, ((Below.refl W.heap.size W).alloc (Nat.le_refl _) _).setCell (p := ⟨W.heap.size, 0, none⟩) (Nat.le_refl _) _⟩
theorem boxP (W : World) (p : Pk) : ∃ V V2, W.alloc (.cells #[.int .u8 0, .int .u8 0, .string ⟨#[]⟩] 56) = V ∧ ((V.setCell ⟨W.heap.size, 0, none⟩ (.int .u8 p.c.toNat)).setCell ⟨W.heap.size, 1, none⟩ (.int .u8 p.i.toNat)).setCell ⟨W.heap.size, 2, none⟩ (.string p.d) = V2 ∧
    V.cell? ⟨W.heap.size, 0, none⟩ = some (.int .u8 0) ∧ V.cell? ⟨W.heap.size, 1, none⟩ = some (.int .u8 0) ∧ V.cell? ⟨W.heap.size, 2, none⟩ = some (.string ⟨#[]⟩) ∧ V.frozen? ⟨W.heap.size, 0, none⟩ = false ∧ V.frozen? ⟨W.heap.size, 1, none⟩ = false ∧ V.frozen? ⟨W.heap.size, 2, none⟩ = false ∧
    Hid (Blk V2 W.heap.size [.int .u8 p.c.toNat, .int .u8 p.i.toNat, .string p.d] 56 ∧ Below W.heap.size W V2) := by
  have h := blk_new W [.int .u8 0, .int .u8 0, .string ⟨#[]⟩] 56
  exact ⟨_, _, rfl, rfl, h.at_ 0, h.at_ 1, h.at_ 2, h.frozen 0, h.frozen 1, h.frozen 2, ((h.set 0 (.int .u8 p.c.toNat)).set 1 (.int .u8 p.i.toNat)).set 2 (.string p.d), ((((Below.refl W.heap.size W).alloc (Nat.le_refl _) _).setCell (p := ⟨W.heap.size, 0, none⟩) (Nat.le_refl _) _).setCell (p := ⟨W.heap.size, 1, none⟩) (Nat.le_refl _) _).setCell (p := ⟨W.heap.size, 2, none⟩) (Nat.le_refl _) _⟩
theorem box_start (w : World) (i : In) (A : Option Addr) (n c : Nat) (T : Int) : ∃ W1 W2 W3, w.alloc (.cells #[.int .u32 i.draw, .int .u8 i.p.c.toNat, .int .u8 i.p.i.toNat, .string i.p.d, .int .u8 i.code, .slice A n c] 88) = W1 ∧ W1.alloc (.cells #[.slice none 0 0, .int .u16 0, .int .u16 0, .bool false] 51) = W2 ∧
    W2.alloc (.cells #[.slice none 0 0, .int .u16 T, .int .u16 0, .bool false] 51) = W3 ∧ Hid (Blk W3 w.heap.size (inC i A n c) 88 ∧ Blk W3 (w.heap.size + 1) zoutV 51 ∧ Blk W3 (w.heap.size + 2) [.slice none 0 0, .int .u16 T, .int .u16 0, .bool false] 51 ∧ Below w.heap.size w W3 ∧ W1.heap.size = w.heap.size + 1 ∧ W2.heap.size = w.heap.size + 2) := by
  have s1 : (w.alloc (.cells #[.int .u32 i.draw, .int .u8 i.p.c.toNat, .int .u8 i.p.i.toNat, .string i.p.d, .int .u8 i.code, .slice A n c] 88)).heap.size = w.heap.size + 1 := World.size_alloc _ _
  have b1 := blk_new w (inC i A n c) 88
  have b2 := blk_new (w.alloc (.cells #[.int .u32 i.draw, .int .u8 i.p.c.toNat, .int .u8 i.p.i.toNat, .string i.p.d, .int .u8 i.code, .slice A n c] 88)) zoutV 51
  rw [s1] at b2
  have s2 : ((w.alloc (.cells #[.int .u32 i.draw, .int .u8 i.p.c.toNat, .int .u8 i.p.i.toNat, .string i.p.d, .int .u8 i.code, .slice A n c] 88)).alloc (.cells #[.slice none 0 0, .int .u16 0, .int .u16 0, .bool false] 51)).heap.size = w.heap.size + 2 := by rw [World.size_alloc, s1]
  have b3 := blk_new ((w.alloc (.cells #[.int .u32 i.draw, .int .u8 i.p.c.toNat, .int .u8 i.p.i.toNat, .string i.p.d, .int .u8 i.code, .slice A n c] 88)).alloc (.cells #[.slice none 0 0, .int .u16 0, .int .u16 0, .bool false] 51)) [.slice none 0 0, .int .u16 T, .int .u16 0, .bool false] 51
  rw [s2] at b3
  exact ⟨_, _, _, rfl, rfl, rfl, (b1.alloc _).alloc _, b2.alloc _, b3, (((Below.refl _ w).alloc (Nat.le_refl _) _).alloc (by rw [s1]; omega) _).alloc (by rw [s2]; omega) _, s1, s2⟩
def OutQ (K : Kd) (g a q : Nat) (s : Sd K) (l : List Pk) (T P : Int) (b : Bool) (w : World) (e : Ending) (w' : World) : Prop :=
  ∃ R rc, e = .returned (.agg #[.slice R l.length rc, .int .u16 T, .int .u16 P, .bool b]) ∧ w'.ownsRow w.heap.size 56 3 (.slice R l.length rc) l.length (pksV l) ∧ SAt K w' g a q s ∧ Moves (My g a q) w w'
theorem perL_len {K : Kd} (i : In) : ∀ (L : List Nat) (st : Sd K × List Pk), (L.foldl (stp i) st).2.length ≤ st.2.length + L.length
  | [], st => Nat.le_refl _
  | b :: L, st => by
    have h := perL_len i L (stp i st b)
    have h1 : (stp i st b).2.length ≤ st.2.length + 1 := by
      unfold stp
      split
      · simp only [List.length_append]
        cases (act K i b st.1).2 <;> simp
      · omega
    simp only [List.foldl_cons, List.length_cons]
    omega
theorem Tryz.info56 : (Tryz.prog.info? 56).map (fun i => (i.zero, i.size, i.bytes)) = some (some (.agg #[.int .u8 0, .int .u8 0, .string ByteArray.empty]), 3, 24) := by kernel_rfl
set_option maxHeartbeats 4000000 in
set_option maxRecDepth 100000 in
theorem perform_any (K : Kd) (g a q : Nat) (s : Sd K) (set : Nat) (i : In) (A : Option Addr) (n c : Nat) (w : World) (h : SAt K w g a q s) (hs : set < 65536) (ha : Ans w g a q A n i.ans)
    (hc : ∀ j (hj : j < (bitsTo set 13).length), sn (bitsTo set 13)[j] = true → ∀ W, SAt K W g a q (perL i ((bitsTo set 13).take j) s).1 → Ans W g a q A n i.ans → Calls Tryz.prog (fS (bitsTo set 13)[j]) #[.pointer (some ⟨g, 0, none⟩), .agg #[.int .u32 i.draw, .int .u8 i.p.c.toNat, .int .u8 i.p.i.toNat, .string i.p.d, .int .u8 i.code, .slice A n c]] W
      (ActQ K g a q (act K i (bitsTo set 13)[j] (perL i ((bitsTo set 13).take j) s).1).1 (act K i (bitsTo set 13)[j] (perL i ((bitsTo set 13).take j) s).1).2 W)) :
    Calls Tryz.prog 35 #[ptr g, .int .u16 set, .agg #[.int .u32 i.draw, .int .u8 i.p.c.toNat, .int .u8 i.p.i.toNat, .string i.p.d, .int .u8 i.code, .slice A n c]] w (OutQ K g a q (perL i (bitsTo set 13) s).1 (perL i (bitsTo set 13) s).2 (told set) 0 false w) := by
  have HX := Lib.hid (fun w => actions_any set w hs)
  have HLn := Lib.hid (bitsTo_length set 13)
  obtain ⟨T, hT⟩ : ∃ T, told set = T := ⟨_, rfl⟩
  have HT : Hid (bits .and .u16 (set : Int) 15 = T) := hT
  rw [hT]
  generalize bitsTo set 13 = L at *
  have HC := Lib.hid hc
  have HS : Hid (∀ j (hj : j < L.length), perL i (L.take (j + 1)) s = stp i (perL i (L.take j) s) L[j]) := fun j hj => perL_take i hj s
  have H0 : Hid (perL i (L.take 0) s = (s, [])) := rfl
  have hlen := HLn.out
  obtain ⟨W1, W2, W3, hW1, hW2, hW3, HW⟩ := box_start w i A n c T
  have H := Lib.hid h
  have HA := Lib.hid ha
  have HG := Lib.hid h.old
  clear h ha hc hs hT
  unfold ptr
  go_enter Tryz.func35, Tryz.ntmps35
  go_wp2_with fail
  rw [HT.out, hW3, HW.out.2.2.2.2.1, HW.out.2.2.2.2.2]
  have HB := Lib.hid HW.out.2.2.2.1
  have H3 := Lib.hid (H.out.callee HB.out)
  have M3 : Hid (Moves (My g a q) w W3) := Moves.of_below HB.out
  refine (sendings_any _).mono ?_
  rintro e w2 ⟨m, rfl, hm, hge, hb2⟩
  have HM2 := Lib.hid hm
  have H2 := Lib.hid (H3.out.callee hb2)
  have M2 := Lib.hid (M3.out.trans (Moves.of_below (S := My g a q) hb2) fun _ _ x => x)
  have B1 := Lib.hid (HW.out.1.callee hb2)
  have B2 := Lib.hid (HW.out.2.1.callee hb2)
  have B3 := Lib.hid (HW.out.2.2.1.callee hb2)
  have hwm : Hid (w.heap.size ≤ m) := Nat.le_trans HB.out.size hge
  clear hm hge hb2 hW1 hW2 hW3 HW H3 M3
  go_wp2_with fail
  refine (HX.out _).mono ?_
  rintro e w3 ⟨v, rfl, hown, hb3⟩
  obtain ⟨R0, cc, hv, _⟩ := nums_at hown
  subst hv
  have HO : Hid (Prf K i w g a q m A n c (.slice R0 L.length cc) L T s [] none 0 w3) := by
    refine ⟨own_mono hown M2.out.size, HM2.out.callee hb3, H2.out.callee hb3, B1.out.callee hb3, B2.out.callee hb3, B3.out.callee hb3, ⟨rfl, .inl ⟨rfl, rfl⟩⟩, ⟨?_, HA.out.2⟩, M2.out.trans (Moves.of_below (S := My g a q) hb3) fun _ _ x => x, hwm.out⟩
    exact opts_moves (opts_moves HA.out.1 (Nat.le_refl _) M2.out (fun ad e h0 _ => HA.out.2.2 ad e h0)) M2.out.size (Moves.of_below (S := fun _ => False) hb3) (fun _ _ _ _ => id)
  clear hown hb3 HM2 H2 M2 B1 B2 B3 HX HT HB H HA hwm
  have HN : Hid (∀ j, (perL i (L.take j) s).2.length ≤ 13) := fun j => by
    have h1 : (perL i (L.take j) s).2.length ≤ ([] : List Pk).length + (L.take j).length := perL_len i (L.take j) (s, [])
    have h2 : (L.take j).length ≤ L.length := by rw [List.length_take]; exact Nat.min_le_right _ _
    simp only [List.length_nil] at h1
    omega
  obtain ⟨i0, hi, hz0, hz1, hz2⟩ := info_parts Tryz.info56
  go_wp2_with fail
  go_loopw [22] (fun v wr => ∃ (j : Nat) (R : Option Addr) (rc : Nat), j ≤ L.length ∧ v = .int .i64 j ∧ Hid (Prf K i w g a q m A n c (.slice R0 L.length cc) L T (perL i (L.take j) s).1 (perL i (L.take j) s).2 R rc wr)) (fun v _ => L.length - (intOf v).toNat)
  case atStart => exact ⟨0, none, 0, Nat.zero_le _, rfl, by rw [H0.out]; exact HO⟩
  case round =>
    obtain ⟨j, R, rc, hj, rfl, HF⟩ := hrel
    by_cases hlt : j < L.length
    · obtain ⟨R', c', hv', hcs⟩ := nums_at HF.out.1
      simp only [Value.slice.injEq, true_and] at hv'
      obtain ⟨rfl, rfl⟩ := hv'
      obtain ⟨r0, rfl, hq⟩ := hcs j L[j] (List.getElem?_eq_getElem hlt)
      clear hcs
      have HS1 := Lib.hid (HS.out j hlt)
      have HC1 := Lib.hid (HC.out j hlt)
      have HN1 := Lib.hid (HN.out j)
      generalize L[j] = b at *
      obtain ⟨y', hy'⟩ : ∃ y', y' = perL i (L.take (j + 1)) s := ⟨_, rfl⟩
      rw [← hy'] at HS1
      have HY' := Lib.hid hy'
      clear hy'
      generalize perL i (L.take j) s = y at *
      obtain ⟨y, l⟩ := y
      simp only at HF HC1 HN1
      cases hk : sn b
      · have hl := look_no hk HF.out.2.1
        obtain ⟨V0, V, hV0, hV, z0, g0, HV⟩ := boxE wr .nilFunc
        have HO2 : Hid (Prf K i w g a q m A n c (.slice (some ⟨r0, 0, none⟩) L.length cc) L T y'.1 y'.2 R rc V) := by
          rw [HS1.out]
          unfold stp
          rw [hk]
          exact HF.out.below HV.out.2 HG.out
        clear hk HF HS1 HC1 HV HO
        go_wp2
        go_roundw
        case rel => exact ⟨j + 1, R, rc, by omega, by go_num, by rw [← HY'.out]; exact HO2⟩
        case measure => simp [intOf]; omega
      · have hl := look_yes hk HF.out.2.1
        have HR := Lib.hid (HC1.out hk)
        have hR := sn_enters hk
        have HS2 : Hid (y' = ((act K i b y).1, l ++ (act K i b y).2.toList)) := by
          show _ = _
          rw [HS1.out]
          unfold stp
          rw [hk]
          rfl
        simp only [snV] at hl
        clear HS1 hk HC1
        generalize fS b = F at *
        generalize act K i b y = r at *
        obtain ⟨s', o⟩ := r
        simp only at HR HS2
        obtain ⟨V0, V, hV0, hV, z0, g0, HV⟩ := boxE wr (.func (.func F) #[] #[])
        have HO2 := Lib.hid (HF.out.below HV.out.2 HG.out)
        have m0 : V.cell? ⟨wr.heap.size, 0, none⟩ = some (.func (.func F) #[] #[]) := Blk.at_ HV.out.1 0
        have d0 : V.cell? ⟨w.heap.size, 0, none⟩ = some (.int .u32 i.draw) := HO2.out.2.2.2.1.at_ 0
        have d1 : V.cell? ⟨w.heap.size, 1, none⟩ = some (.int .u8 i.p.c.toNat) := HO2.out.2.2.2.1.at_ 1
        have d2 : V.cell? ⟨w.heap.size, 2, none⟩ = some (.int .u8 i.p.i.toNat) := HO2.out.2.2.2.1.at_ 2
        have d3 : V.cell? ⟨w.heap.size, 3, none⟩ = some (.string i.p.d) := HO2.out.2.2.2.1.at_ 3
        have d4 : V.cell? ⟨w.heap.size, 4, none⟩ = some (.int .u8 i.code) := HO2.out.2.2.2.1.at_ 4
        have d5 : V.cell? ⟨w.heap.size, 5, none⟩ = some (.slice A n c) := HO2.out.2.2.2.1.at_ 5
        clear HF HV HO
        go_wp2_with fail
        refine (HR.out _ HO2.out.2.2.1 HO2.out.ans).mono ?_
        rintro e w6 ⟨pk, er, he, ho, hs6, hm6⟩
        replace he : e = .returned (.tuple #[.agg #[.int .u8 pk.c.toNat, .int .u8 pk.i.toNat, .string pk.d], .int .i64 er]) := he
        subst he
        have HO3 := Lib.hid (HO2.out.moves hm6 hs6 HG.out)
        have HO' := Lib.hid ho
        clear hs6 hm6 ho hV hV0 z0 g0 m0 HO2 hR HR hl hq d0 d1 d2 d3 d4 d5
        obtain ⟨P0, P, hP0, hP, z0, z1, z2, g0, g1, g2, HP⟩ := boxP w6 pk
        have HO4 := Lib.hid (HO3.out.below HP.out.2 HG.out)
        have p0 : P.cell? ⟨w6.heap.size, 0, none⟩ = some (.int .u8 pk.c.toNat) := HP.out.1.at_ 0
        have p1 : P.cell? ⟨w6.heap.size, 1, none⟩ = some (.int .u8 pk.i.toNat) := HP.out.1.at_ 1
        have p2 : P.cell? ⟨w6.heap.size, 2, none⟩ = some (.string pk.d) := HP.out.1.at_ 2
        clear HO3 HP
        by_cases he : er = 0
        · have hE : ((er : Int) == 0) = true := by rw [he]; rfl
          have HY2 : Hid (y' = (s', l ++ [pk])) := by
            show _ = _
            rw [HS2.out]
            rcases HO'.out with ⟨_, e⟩ | ⟨e, _⟩
            · rw [e]; rfl
            · exact absurd he e
          have q0 : P.cell? ⟨w.heap.size + 2, 0, none⟩ = some (.slice R l.length rc) := HO4.out.2.2.2.2.2.1.at_ 0
          have hl13 := HN1.out
          have hPw : Hid (w.heap.size ≤ P.heap.size) := HO4.out.2.2.2.2.2.2.2.2.1.size
          clear he HO' HS2 HN1
          go_wp2_with (at_builtin; refine wpList_append_own _ rfl _ _ 49 rfl w.heap.size 56 i0 _ 3 24 Tryz.underlying49 hi hz0 hz1 hz2 rfl (by decide) _ _ _ rfl (HO4.out.2.2.2.2.2.2.1.alloc _) ⟨P.heap.size, 0, none⟩ 1 1 (pksV [pk]) rfl rfl (by rw [pksV_one]; exact cells_new _ _ _) (pksV_ones _) (by unfold maxLen; omega) (by omega) (by have := hPw.out; simp; omega) ?_; intro v1 w1 hown1 hgr1 _; have Hown1 := Lib.hid hown1; have Hgr1 := Lib.hid hgr1; clear hown1 hgr1; obtain ⟨R1, rc1, hv1⟩ := own_slice Hown1.out; subst hv1; have HO5 : Hid (Prf K i w g a q m A n c (.slice (some ⟨r0, 0, none⟩) L.length cc) L T s' l R rc (P.alloc (.cells #[.int .u8 pk.c.toNat, .int .u8 pk.i.toNat, .string pk.d] 56))) := HO4.out.below ((Below.refl _ _).alloc (Nat.le_refl _) _) HG.out; have HO6 : Hid (Prf K i w g a q m A n c (.slice (some ⟨r0, 0, none⟩) L.length cc) L T s' (l ++ [pk]) R1 rc1 (w1.setCell ⟨w.heap.size + 2, 0, none⟩ (.slice R1 (l.length + 1) rc1))) := (by have h := HO5.out.put (R' := R1) (rc' := rc1) HG.out pk Hgr1.out (by rw [List.length_append, pksV_append]; exact Hown1.out); rw [List.length_append] at h; exact h); have Hf : Hid (w1.cell? ⟨w.heap.size + 2, 0, none⟩ = some (.slice R l.length rc) ∧ w1.frozen? ⟨w.heap.size + 2, 0, none⟩ = false) := HO5.out.out7 Hgr1.out; have x0 := Hf.out.1; have y0 := Hf.out.2)
          go_roundw
          case rel => exact ⟨j + 1, R1, rc1, by omega, by go_num, by rw [← HY'.out, HY2.out]; exact HO6⟩
          case measure => simp [intOf]; omega
        · have hE : ((er : Int) == 0) = false := by rw [beq_eq_false_iff_ne]; omega
          have HY2 : Hid (y' = (s', l)) := by
            show _ = _
            rw [HS2.out]
            rcases HO'.out with ⟨e, _⟩ | ⟨_, e⟩
            · exact absurd e he
            · rw [e]; simp
          clear he HO' HS2
          go_wp2
          go_roundw
          case rel => exact ⟨j + 1, R, rc, by omega, by go_num, by rw [← HY'.out, HY2.out]; exact HO4⟩
          case measure => simp [intOf]; omega
    · obtain rfl : j = L.length := by omega
      rw [List.take_length] at HF
      obtain ⟨y, hy⟩ : ∃ y, y = perL i L s := ⟨_, rfl⟩
      have HY := Lib.hid hy
      rw [← hy] at HF
      obtain ⟨y, l⟩ := y
      simp only at HF
      have b0 : wr.cell? ⟨w.heap.size + 2, 0, none⟩ = some (.slice R l.length rc) := HF.out.2.2.2.2.2.1.at_ 0
      have b1 : wr.cell? ⟨w.heap.size + 2, 1, none⟩ = some (.int .u16 T) := HF.out.2.2.2.2.2.1.at_ 1
      have b2 : wr.cell? ⟨w.heap.size + 2, 2, none⟩ = some (.int .u16 0) := HF.out.2.2.2.2.2.1.at_ 2
      have b3 : wr.cell? ⟨w.heap.size + 2, 3, none⟩ = some (.bool false) := HF.out.2.2.2.2.2.1.at_ 3
      have z0 : wr.cell? ⟨w.heap.size + 1, 0, none⟩ = some (.slice none 0 0) := HF.out.2.2.2.2.1.at_ 0
      have z1 : wr.cell? ⟨w.heap.size + 1, 1, none⟩ = some (.int .u16 0) := HF.out.2.2.2.2.1.at_ 1
      have z2 : wr.cell? ⟨w.heap.size + 1, 2, none⟩ = some (.int .u16 0) := HF.out.2.2.2.2.1.at_ 2
      have z3 : wr.cell? ⟨w.heap.size + 1, 3, none⟩ = some (.bool false) := HF.out.2.2.2.2.1.at_ 3
      have y0 := HF.out.2.2.2.2.1.frozen 0
      have y1 := HF.out.2.2.2.2.1.frozen 1
      have y2 := HF.out.2.2.2.2.1.frozen 2
      have y3 := HF.out.2.2.2.2.1.frozen 3
      clear HO hj hlt HS H0 HN HC hy
      go_wp2
      have HZ := out_put HF.out.2.2.2.2.1 (.slice R l.length rc) T 0 false
      (try simp only [Exit.inBlock, Exit.then])
      refine bodyPost_ret (results_cell_row rfl _ _ (w.heap.size + 1) _ _ _ _ rfl HZ.1 Tryz.underlying51 rfl (by kernel_rfl)) rfl ?_
      rw [← HY.out]
      have no : ∀ k, My g a q k → ¬ k = w.heap.size + 1 := fun k hk e => by have := HG.out k hk; omega
      refine ⟨R, rc, rfl, HZ.2.row HF.out.2.2.2.2.2.2.1 (fun k hk e => ?_), HF.out.2.2.1.moves HZ.2 no, HF.out.2.2.2.2.2.2.2.2.1.trans (T := fun k => k = w.heap.size + 1) HZ.2 (fun j hj e => by omega)⟩
      subst e
      exact cells_not_row (e := 56) HF.out.2.2.2.2.1 (by decide) HF.out.2.2.2.2.2.2.1 hk
end Go.Proofs.YtpppggicihfbgaaGreat.Neg

/- How an event occurs; Event, Tick, State, Left. -/
namespace Go.Proofs.YtpppggicihfbgaaGreat.Neg
open Go.RowKit Go.Proofs.YtpppggicihfbgaaGreat.Oct Go.Proofs.YtpppggicihfbgaaGreat.Row Go.Proofs.YtpppggicihfbgaaGreat.Mem Go.Proofs.YtpppggicihfbgaaGreat.Opt Go.Proofs.YtpppggicihfbgaaGreat.Fsm
open Go.Proofs.YtpppggicihfbgaaGreat.Aut (Au Aut Inv evA evE evX event_any EvQ tk tkS come_inv tk_inv tkS_lt)

theorem act_any (K : Kd) (g a q b : Nat) (s : Sd K) (i : In) (A : Option Addr) (n c : Nat) (w : World) (hb : sn b = true) (h4 : b ≠ 4096) (h : SAt K w g a q s) (hok : Ok s) (ha : Ans w g a q A n i.ans) (hc : i.code < 256) :
    Calls Tryz.prog (fS b) #[.pointer (some ⟨g, 0, none⟩), .agg #[.int .u32 i.draw, .int .u8 i.p.c.toNat, .int .u8 i.p.i.toNat, .string i.p.d, .int .u8 i.code, .slice A n c]] w (ActQ K g a q (act K i b s).1 (act K i b s).2 w) := by
  rcases sn_cases hb with rfl | rfl | rfl | rfl | rfl | rfl | rfl
  · exact (conf_req K g a q s i.draw i.code i.p A n c w h hok.pol).mono fun e w' hq => ⟨_, 0, hq.1, .inl ⟨rfl, rfl⟩, hq.2.1, hq.2.2⟩
  · exact conf_ans K g a q s i A n c w h ha hc
  · exact conf_ans K g a q s i A n c w h ha hc
  · exact term_req K g a q s i A n c w h
  · exact term_ack K g a q s i A n c w h
  · exact code_rej K g a q s i A n c w h hok.m0 hok.m1 _ rfl
  · exact absurd rfl h4
theorem act_same {K : Kd} (i : In) (b : Nat) (s : Sd K) : (act K i b s).1.x = s.x ∧ (act K i b s).1.p = s.p ∧ (act K i b s).1.mru = s.mru ∧ (s.cnt < 256 → (act K i b s).1.cnt < 256) ∧ (s.last < 256 → (act K i b s).1.last < 256) := by
  have h : (s.cnt + 1) % 256 < 256 := Nat.mod_lt _ (by decide)
  unfold act
  split
  · exact ⟨rfl, rfl, rfl, fun _ => h, fun _ => h⟩
  split
  · exact ⟨rfl, rfl, rfl, id, id⟩
  split
  · exact ⟨rfl, rfl, rfl, fun _ => h, id⟩
  split
  · exact ⟨rfl, rfl, rfl, id, id⟩
  split
  · exact ⟨rfl, rfl, rfl, fun _ => h, id⟩
  · exact ⟨rfl, rfl, rfl, id, id⟩
theorem act_ok {K : Kd} (i : In) (b : Nat) {s : Sd K} (h : Ok s) : Ok (act K i b s).1 := by
  obtain ⟨h1, h2, h3, h4, h5⟩ := act_same i b s
  exact ⟨by rw [h1]; exact h.inv, by rw [h2]; exact h.pol, by rw [h3]; exact h.m0, by rw [h3]; exact h.m1, h4 h.c, h5 h.l⟩
theorem perL_ok {K : Kd} (i : In) : ∀ (L : List Nat) (st : Sd K × List Pk), Ok st.1 → Ok (L.foldl (stp i) st).1
  | [], _, h => h
  | b :: L, st, h => perL_ok i L _ (by
    unfold stp
    split
    · exact act_ok i b h
    · exact h)
def Does (K : Kd) (g a q : Nat) (i : In) (A : Option Addr) (n c set : Nat) (s : Sd K) : Prop :=
  ∀ j (_ : j < (bitsTo set 13).length), sn (bitsTo set 13)[j] = true → ∀ W, SAt K W g a q (perL i ((bitsTo set 13).take j) s).1 → Ans W g a q A n i.ans → Calls Tryz.prog (fS (bitsTo set 13)[j]) #[.pointer (some ⟨g, 0, none⟩), .agg #[.int .u32 i.draw, .int .u8 i.p.c.toNat, .int .u8 i.p.i.toNat, .string i.p.d, .int .u8 i.code, .slice A n c]] W
      (ActQ K g a q (act K i (bitsTo set 13)[j] (perL i ((bitsTo set 13).take j) s).1).1 (act K i (bitsTo set 13)[j] (perL i ((bitsTo set 13).take j) s).1).2 W)
theorem bits_no {set b : Nat} (k : Nat) (h : has set b = false) (hb : ∃ t, b = 2 ^ t) : b ∉ bitsTo set k := by
  obtain ⟨t, rfl⟩ := hb
  rw [has_bit] at h
  intro hm
  unfold bitsTo at hm
  obtain ⟨u, hu, e⟩ := List.mem_map.1 hm
  have hu := (List.mem_filter.1 hu).2
  have : u = t := (Nat.pow_right_inj (by decide)).1 e
  rw [this, h] at hu
  cases hu
theorem does_no {K : Kd} {g a q : Nat} {i : In} {A : Option Addr} {n c set : Nat} {s : Sd K} (h : has set 4096 = false) (hok : Ok s) (hc : i.code < 256) : Does K g a q i A n c set s := by
  intro j hj hb W hW hA
  refine act_any K g a q _ _ i A n c W hb (fun e => ?_) hW (perL_ok i _ _ hok) hA hc
  exact bits_no 13 h ⟨12, rfl⟩ (e ▸ List.getElem_mem hj)

/-! ### occur -/
def OccQ (K : Kd) (g a q : Nat) (s : Sd K) (l : List Pk) (T : Int) (er : Nat) (w : World) (e : Ending) (w' : World) : Prop :=
  ∃ R rc, e = .returned (.tuple #[.agg #[.slice R l.length rc, .int .u16 T, .int .u16 0, .bool false], .int .i64 er]) ∧ w'.ownsRow w.heap.size 56 3 (.slice R l.length rc) l.length (pksV l) ∧ SAt K w' g a q s ∧ Moves (My g a q) w w'
theorem box_io (w : World) (i : In) (A : Option Addr) (n c : Nat) : ∃ W, (w.alloc (.cells #[.int .u32 i.draw, .int .u8 i.p.c.toNat, .int .u8 i.p.i.toNat, .string i.p.d, .int .u8 i.code, .slice A n c] 88)).alloc (.cells #[.slice none 0 0, .int .u16 0, .int .u16 0, .bool false] 51) = W ∧
    Hid (Blk W w.heap.size (inC i A n c) 88 ∧ Blk W (w.heap.size + 1) zoutV 51 ∧ Below w.heap.size w W) := by
  refine ⟨_, rfl, (blk_new w (inC i A n c) _).alloc _, ?_, ((Below.refl w.heap.size w).alloc (Nat.le_refl _) _).alloc (by rw [World.size_alloc]; exact Nat.le_succ _) _⟩
  have := blk_new (w.alloc (.cells #[.int .u32 i.draw, .int .u8 i.p.c.toNat, .int .u8 i.p.i.toNat, .string i.p.d, .int .u8 i.code, .slice A n c] 88)) zoutV 51
  rw [World.size_alloc] at this
  exact this
theorem out_facts {W : World} {b : Nat} (h : Blk W b zoutV 51) : W.cell? ⟨b, 0, none⟩ = some (.slice none 0 0) ∧ W.cell? ⟨b, 1, none⟩ = some (.int .u16 0) ∧ W.cell? ⟨b, 2, none⟩ = some (.int .u16 0) ∧ W.cell? ⟨b, 3, none⟩ = some (.bool false) ∧ W.frozen? ⟨b, 0, none⟩ = false ∧ W.frozen? ⟨b, 1, none⟩ = false ∧ W.frozen? ⟨b, 2, none⟩ = false ∧ W.frozen? ⟨b, 3, none⟩ = false :=
  ⟨h.at_ 0, h.at_ 1, h.at_ 2, h.at_ 3, h.frozen 0, h.frozen 1, h.frozen 2, h.frozen 3⟩
theorem inv_lt {x : Au} (h : Inv x) (v : Nat) : evA x v < 65536 := by
  unfold evA
  split
  · decide
  · exact Aut.nA_lt _ _ h.s
set_option maxHeartbeats 4000000 in
set_option maxRecDepth 100000 in
theorem occur_ok (K : Kd) (g a q : Nat) (s : Sd K) (ev : Nat) (i : In) (A : Option Addr) (n c : Nat) (w : World) (h : SAt K w g a q s) (hi : Inv s.x) (ha : Ans w g a q A n i.ans) (he : evE s.x ev = 0) (hd : Does K g a q i A n c (evA s.x ev) { s with x := evX s.x ev }) :
    Calls Tryz.prog 26 #[ptr g, .int .u8 ev, .agg #[.int .u32 i.draw, .int .u8 i.p.c.toNat, .int .u8 i.p.i.toNat, .string i.p.d, .int .u8 i.code, .slice A n c]] w (OccQ K g a q (perL i (bitsTo (evA s.x ev) 13) { s with x := evX s.x ev }).1 (perL i (bitsTo (evA s.x ev) 13) { s with x := evX s.x ev }).2 (told (evA s.x ev)) 0 w) := by
  obtain ⟨W, hW, HW⟩ := box_io w i A n c
  have HE : Hid (∀ W, Aut W a s.x → Calls Tryz.prog 34 #[.pointer (some ⟨a, 0, none⟩), .int .u8 ev] W fun o w' => o = .returned (.tuple #[.int .u16 (evA s.x ev), .int .i64 0]) ∧ Aut w' a (evX s.x ev) ∧ Moves (fun k => k = a) W w') := fun W h => by
    have h1 := event_any s.x a ev W h hi
    unfold EvQ at h1
    rw [he] at h1
    exact h1
  have HP : Hid (∀ W, SAt K W g a q { s with x := evX s.x ev } → Ans W g a q A n i.ans → Calls Tryz.prog 35 #[.pointer (some ⟨g, 0, none⟩), .int .u16 (evA s.x ev), .agg #[.int .u32 i.draw, .int .u8 i.p.c.toNat, .int .u8 i.p.i.toNat, .string i.p.d, .int .u8 i.code, .slice A n c]] W (OutQ K g a q (perL i (bitsTo (evA s.x ev) 13) { s with x := evX s.x ev }).1 (perL i (bitsTo (evA s.x ev) 13) { s with x := evX s.x ev }).2 (told (evA s.x ev)) 0 false W)) :=
    fun W h1 h2 => perform_any K g a q { s with x := evX s.x ev } (evA s.x ev) i A n c W h1 (inv_lt hi ev) h2 hd
  have HG := Lib.hid h.old
  have H := Lib.hid (h.callee HW.out.2.2)
  have M : Hid (Moves (My g a q) w W) := Moves.of_below HW.out.2.2
  have HA := Lib.hid (ha.moves M.out)
  have c0 : W.cell? ⟨g, 0, none⟩ = some (.pointer (some ⟨a, 0, none⟩)) := H.out.c 0
  have HI := Lib.hid HW.out.1
  have HZ := Lib.hid HW.out.2.1
  clear h hi ha he hd HW
  generalize told (evA s.x ev) = T at *
  generalize perL i (bitsTo (evA s.x ev) 13) { s with x := evX s.x ev } = r at *
  obtain ⟨s', l⟩ := r
  simp only at HP ⊢
  generalize evA s.x ev = set at *
  generalize evX s.x ev = y at *
  unfold ptr
  go_enter Tryz.func26, Tryz.ntmps26
  go_wp2_with fail
  refine (HE.out _ H.out.2.1).mono ?_
  rintro e w1 ⟨rfl, hy, hm⟩
  have H1 := Lib.hid (H.out.aut hm hy)
  have M1 := Lib.hid (M.out.trans (my_a hm) fun _ _ x => x)
  have HA1 := Lib.hid (HA.out.moves (my_a hm))
  have no : Hid (∀ k, w.heap.size ≤ k → ¬ k = a) := fun k hk e => by have := HG.out a (.inr (.inl rfl)); omega
  have HI1 := Lib.hid (HI.out.moves hm (no.out _ (Nat.le_refl _)))
  have HZ1 := Lib.hid (HZ.out.moves hm (no.out _ (Nat.le_succ _)))
  clear hy hm HE H HA c0 HI HZ
  have d0 : w1.cell? ⟨w.heap.size, 0, none⟩ = some (.int .u32 i.draw) := HI1.out.at_ 0
  have d1 : w1.cell? ⟨w.heap.size, 1, none⟩ = some (.int .u8 i.p.c.toNat) := HI1.out.at_ 1
  have d2 : w1.cell? ⟨w.heap.size, 2, none⟩ = some (.int .u8 i.p.i.toNat) := HI1.out.at_ 2
  have d3 : w1.cell? ⟨w.heap.size, 3, none⟩ = some (.string i.p.d) := HI1.out.at_ 3
  have d4 : w1.cell? ⟨w.heap.size, 4, none⟩ = some (.int .u8 i.code) := HI1.out.at_ 4
  have d5 : w1.cell? ⟨w.heap.size, 5, none⟩ = some (.slice A n c) := HI1.out.at_ 5
  go_wp2_with fail
  refine (HP.out _ H1.out HA1.out).mono ?_
  rintro e w2 ⟨R, rc, rfl, hr, h2, hm2⟩
  have H2 := Lib.hid h2
  have M2 := Lib.hid (M1.out.trans hm2 fun _ _ x => x)
  have HR := Lib.hid (own_mono hr M1.out.size)
  have HZ2 := Lib.hid (HZ1.out.moves hm2 (fun e => by have := HG.out _ e; omega))
  clear h2 hm2 hr d0 d1 d2 d3 d4 d5
  obtain ⟨z0, z1, z2, z3, y0, y1, y2, y3⟩ := out_facts HZ2.out
  go_wp2
  have HQ := out_put HZ2.out (.slice R l.length rc) T 0 false
  (try simp only [Exit.inBlock, Exit.then])
  refine bodyPost_ret (Mem.results_row1 rfl _ _ (w.heap.size + 1) _ _ _ rfl HQ.1 Tryz.underlying51 rfl (by kernel_rfl)) rfl ?_
  refine ⟨R, rc, rfl, HQ.2.row HR.out (fun k hk e => ?_), H2.out.moves HQ.2 (fun k hk e => by have := HG.out k hk; omega), M2.out.trans (T := fun k => k = w.heap.size + 1) HQ.2 (fun j hj e => by omega)⟩
  subst e
  exact cells_not_row (e := 56) HZ2.out (by decide) HR.out hk
end Go.Proofs.YtpppggicihfbgaaGreat.Neg

/- renew; Event, Tick, State, Left of a side. -/
namespace Go.Proofs.YtpppggicihfbgaaGreat.Neg
open Go.RowKit Go.Proofs.YtpppggicihfbgaaGreat.Oct Go.Proofs.YtpppggicihfbgaaGreat.Row Go.Proofs.YtpppggicihfbgaaGreat.Mem Go.Proofs.YtpppggicihfbgaaGreat.Opt Go.Proofs.YtpppggicihfbgaaGreat.Fsm
open Go.Proofs.YtpppggicihfbgaaGreat.Aut (Au Aut Inv evA evE evX event_any EvQ tk tkS come_inv tk_inv tkS_lt state_any)

def anew (x : Au) (ev : Nat) : Bool := (decide (x.s = 1) || decide (x.s = 2) || decide (x.s = 3)) && has (nA x.s ev) 64
def ren {K : Kd} (ev : Nat) (d : UInt32) (s : Sd K) : Sd K := if anew s.x ev then { s with p := K.renew s.p d } else s
def RenQ (K : Kd) (g a q : Nat) (s' : Sd K) (w : World) (e : Ending) (w' : World) : Prop := e = .returned (.tuple #[]) ∧ SAt K w' g a q s' ∧ Moves (My g a q) w w'
theorem ren_ok {K : Kd} (ev : Nat) (d : UInt32) {s : Sd K} (h : Ok s) : Ok (ren ev d s) := by
  unfold ren
  split
  · exact ⟨h.inv, K.okRenew _ _ h.pol, h.m0, h.m1, h.c, h.l⟩
  · exact h
theorem ren_x {K : Kd} (ev : Nat) (d : UInt32) (s : Sd K) : (ren ev d s).x = s.x := by
  unfold ren
  split <;> rfl
theorem evX_inv {x : Au} (h : Inv x) (v : Nat) : Inv (evX x v) := by
  unfold evX
  split
  · exact h
  · exact come_inv h v
set_option maxHeartbeats 4000000 in
set_option maxRecDepth 100000 in
theorem renew_any (K : Kd) (g a q : Nat) (s : Sd K) (ev : Nat) (d : UInt32) (w : World) (h : SAt K w g a q s) (hok : Ok s) :
    Calls Tryz.prog 25 #[ptr g, .int .u8 ev, .int .u32 d.toNat] w (RenQ K g a q (ren ev d s) w) := by
  have c0 : w.cell? ⟨g, 0, none⟩ = some (.pointer (some ⟨a, 0, none⟩)) := h.c 0
  have H := Lib.hid h
  have HS := Lib.hid (fun w h => state_any a s.x w h)
  have HN : Hid (∀ w, Calls Tryz.prog 33 #[.int .u8 s.x.s, .int .u8 ev] w fun o w' => o = .returned (.tuple #[.int .u16 (nA s.x.s ev), .int .u8 (nN s.x.s ev), .int .i64 (nE s.x.s ev)]) ∧ Below w.heap.size w w') := fun w => next_any s.x.s ev w
  have hlt := Aut.nA_lt s.x.s ev hok.inv.s
  have HB : Hid ((bits .and .u16 (nA s.x.s ev : Int) 64 != 0) = has (nA s.x.s ev) 64) := has_bits _ 64 hlt (by decide)
  have HM := Lib.hid K.mRenew
  have HE := K.eRenew
  have HC := Lib.hid (fun w h => K.cRenew q s.p w d h hok.pol)
  have hs9 := hok.inv.s
  unfold ren anew
  clear h hok hlt
  unfold ptr at *
  by_cases h1 : s.x.s = 1 ∨ s.x.s = 2 ∨ s.x.s = 3
  · have e1 : (decide (s.x.s = 1) || decide (s.x.s = 2) || decide (s.x.s = 3)) = true := by rcases h1 with e | e | e <;> simp [e]
    rw [e1, Bool.true_and]
    cases hb : has (nA s.x.s ev) 64
    · rw [hb] at HB
      have hB := HB.out
      rw [if_neg (by decide)]
      clear e1 hb HB
      generalize nA s.x.s ev = X at *
      generalize nN s.x.s ev = Y at *
      generalize nE s.x.s ev = Z at *
      rcases h1 with hs | hs | hs
      all_goals
        rw [hs] at HN HS
        clear hs9
        have HS' : Hid (∀ w, Aut w a s.x → Calls Tryz.prog 31 #[.pointer (some ⟨a, 0, none⟩)] w fun e w' => e = .returned (.int .u8 s.x.s) ∧ w = w') := fun w h => state_any a s.x w h
        rw [hs] at HS'
        go_enter Tryz.func25, Tryz.ntmps25
        go_wp2_with fail
        refine (HS'.out _ H.out.2.1).mono ?_
        rintro e w1 ⟨rfl, rfl⟩
        go_wp2_with fail
        refine (HN.out _).mono ?_
        rintro e w1 ⟨rfl, hb1⟩
        have H1 := Lib.hid (H.out.callee hb1)
        have M1 : Hid (Moves (My g a q) w w1) := Moves.of_below hb1
        clear hb1
        go_wp2
        go_end0
        exact ⟨rfl, H1.out, M1.out⟩
    · rw [hb] at HB
      have hB := HB.out
      rw [if_pos rfl]
      clear e1 hb HB
      generalize nA s.x.s ev = X at *
      generalize nN s.x.s ev = Y at *
      generalize nE s.x.s ev = Z at *
      rcases h1 with hs | hs | hs
      all_goals
        rw [hs] at HN HS
        clear hs9
        have HS' : Hid (∀ w, Aut w a s.x → Calls Tryz.prog 31 #[.pointer (some ⟨a, 0, none⟩)] w fun e w' => e = .returned (.int .u8 s.x.s) ∧ w = w') := fun w h => state_any a s.x w h
        rw [hs] at HS'
        go_enter Tryz.func25, Tryz.ntmps25
        go_wp2_with fail
        refine (HS'.out _ H.out.2.1).mono ?_
        rintro e w1 ⟨rfl, rfl⟩
        go_wp2_with fail
        refine (HN.out _).mono ?_
        rintro e w1 ⟨rfl, hb1⟩
        have H1 := Lib.hid (H.out.callee hb1)
        have M1 : Hid (Moves (My g a q) w w1) := Moves.of_below hb1
        clear hb1 HN HS'
        have c2 : w1.cell? ⟨g, 2, none⟩ = some (.iface K.ty (.agg #[.pointer (some ⟨q, 0, none⟩)])) := H1.out.c 2
        go_wp2_with fail
        rw [HM.out _ (by kernel_rfl)]
        go_wp2_with fail
        refine (HC.out _ H1.out.2.2.1).mono ?_
        rintro e w2 ⟨rfl, hp, hm⟩
        have H2 := Lib.hid (H1.out.pol hm hp)
        have M2 := Lib.hid (M1.out.trans (my_q hm) fun _ _ x => x)
        clear hp hm
        go_wp2
        go_end0
        exact ⟨rfl, H2.out, M2.out⟩
  · have e1 : (decide (s.x.s = 1) || decide (s.x.s = 2) || decide (s.x.s = 3)) = false := by
      simp only [Bool.or_eq_false_iff, decide_eq_false_iff_not]
      omega
    rw [e1, Bool.false_and, if_neg (by decide)]
    have n1 : ((s.x.s : Int) == 1) = false := by rw [beq_eq_false_iff_ne]; omega
    have n2 : ((s.x.s : Int) == 2) = false := by rw [beq_eq_false_iff_ne]; omega
    have n3 : ((s.x.s : Int) == 3) = false := by rw [beq_eq_false_iff_ne]; omega
    clear e1 h1 HB HN hs9
    go_enter Tryz.func25, Tryz.ntmps25
    go_wp2_with fail
    refine (HS.out _ H.out.2.1).mono ?_
    rintro e w1 ⟨rfl, rfl⟩
    go_wp2
    go_end0
    exact ⟨rfl, H.out, Moves.refl _ _⟩
def evS {K : Kd} (ev : Nat) (d : UInt32) (s : Sd K) : Sd K × List Pk := perL ⟨d.toNat, zpk, 0, []⟩ (bitsTo (evA s.x ev) 13) { ren ev d s with x := evX s.x ev }
theorem box_o (w : World) : ∃ W, w.alloc (.cells #[.slice none 0 0, .int .u16 0, .int .u16 0, .bool false] 51) = W ∧ Hid (Blk W w.heap.size zoutV 51 ∧ Below w.heap.size w W) :=
  ⟨_, rfl, blk_new w zoutV _, (Below.refl w.heap.size w).alloc (Nat.le_refl _) _⟩
theorem out_end {K : Kd} {g a q : Nat} {s : Sd K} {l : List Pk} {T : Int} {er : Nat} {w W : World} {b : Nat} {R : Option Addr} {rc : Nat} (hz : Blk W b zoutV 51) (hr : W.ownsRow w.heap.size 56 3 (.slice R l.length rc) l.length (pksV l)) (h : SAt K W g a q s) (hm : Moves (My g a q) w W) (hb : w.heap.size ≤ b) (hg : ∀ k, My g a q k → k < w.heap.size) :
    OccQ K g a q s l T er w (.returned (.tuple #[.agg #[.slice R l.length rc, .int .u16 T, .int .u16 0, .bool false], .int .i64 er])) ((((W.setCell ⟨b, 0, none⟩ (.slice R l.length rc)).setCell ⟨b, 1, none⟩ (.int .u16 T)).setCell ⟨b, 2, none⟩ (.int .u16 0)).setCell ⟨b, 3, none⟩ (.bool false)) := by
  have HQ := out_put hz (.slice R l.length rc) T 0 false
  refine ⟨R, rc, rfl, HQ.2.row hr (fun k hk e => ?_), h.moves HQ.2 (fun k hk e => by have := hg k hk; omega), hm.trans (T := fun k => k = b) HQ.2 (fun j hj e => by omega)⟩
  subst e
  exact cells_not_row (e := 56) hz (by decide) hr hk
set_option maxHeartbeats 4000000 in
set_option maxRecDepth 100000 in
theorem event_ok (K : Kd) (g a q : Nat) (s : Sd K) (ev : Nat) (d : UInt32) (w : World) (h : SAt K w g a q s) (hok : Ok s) (hev : ev ≤ 3) (he : evE s.x ev = 0) (h4 : has (evA s.x ev) 4096 = false) :
    Calls Tryz.prog 16 #[ptr g, .int .u8 ev, .int .u32 d.toNat] w (OccQ K g a q (evS ev d s).1 (evS ev d s).2 (told (evA s.x ev)) 0 w) := by
  obtain ⟨W, hW, HW⟩ := box_o w
  have HG := Lib.hid h.old
  have H := Lib.hid (h.callee HW.out.2)
  have M : Hid (Moves (My g a q) w W) := Moves.of_below HW.out.2
  have HZ := Lib.hid HW.out.1
  have HR : Hid (∀ W, SAt K W g a q s → Calls Tryz.prog 25 #[.pointer (some ⟨g, 0, none⟩), .int .u8 ev, .int .u32 d.toNat] W (RenQ K g a q (ren ev d s) W)) := fun W h => renew_any K g a q s ev d W h hok
  have HO : Hid (∀ W, SAt K W g a q (ren ev d s) → Calls Tryz.prog 26 #[.pointer (some ⟨g, 0, none⟩), .int .u8 ev, .agg #[.int .u32 d.toNat, .int .u8 0, .int .u8 0, .string ⟨#[]⟩, .int .u8 0, .slice none 0 0]] W (OccQ K g a q (evS ev d s).1 (evS ev d s).2 (told (evA s.x ev)) 0 W)) := by
    intro W h
    have hx := ren_x ev d s
    have hk := ren_ok ev d hok
    have h1 := occur_ok K g a q (ren ev d s) ev ⟨d.toNat, zpk, 0, []⟩ none 0 0 W h (by rw [hx]; exact hok.inv) (ans_nil W g a q) (by rw [hx]; exact he) (does_no (by rw [hx]; exact h4) ⟨by rw [hx]; exact evX_inv hok.inv ev, hk.pol, hk.m0, hk.m1, hk.c, hk.l⟩ (show 0 < 256 by decide))
    rw [hx] at h1
    exact h1
  clear h hok he h4 HW
  generalize told (evA s.x ev) = T at *
  generalize evS ev d s = r at *
  obtain ⟨s', l⟩ := r
  simp only at HO ⊢
  unfold ptr
  rcases (show ev = 0 ∨ ev = 1 ∨ ev = 2 ∨ ev = 3 by omega) with rfl | rfl | rfl | rfl
  all_goals
    clear hev
    go_enter Tryz.func16, Tryz.ntmps16
    go_wp2_with fail
    refine (HR.out _ H.out).mono ?_
    rintro e w1 ⟨rfl, h1, hm1⟩
    have H1 := Lib.hid h1
    have M1 := Lib.hid (M.out.trans hm1 fun _ _ x => x)
    have HZ1 := Lib.hid (HZ.out.moves hm1 (fun e => by have := HG.out _ e; omega))
    clear h1 hm1 HR
    go_wp2_with fail
    refine (HO.out _ H1.out).mono ?_
    rintro e w2 ⟨R, rc, rfl, hr, h2, hm2⟩
    have H2 := Lib.hid h2
    have M2 := Lib.hid (M1.out.trans hm2 fun _ _ x => x)
    have HRw := Lib.hid (own_mono hr M1.out.size)
    have HZ2 := Lib.hid (HZ1.out.moves hm2 (fun e => by have := HG.out _ e; omega))
    clear h2 hm2 hr HO
    obtain ⟨z0, z1, z2, z3, y0, y1, y2, y3⟩ := out_facts HZ2.out
    go_wp2
    (try simp only [Exit.inBlock, Exit.then])
    refine bodyPost_ret (Mem.results_row1 rfl _ _ w.heap.size _ _ _ rfl (out_put HZ2.out (.slice R l.length rc) T 0 false).1 Tryz.underlying51 rfl (by kernel_rfl)) rfl ?_
    exact out_end HZ2.out HRw.out H2.out M2.out (Nat.le_refl _) HG.out
set_option maxHeartbeats 1000000 in
set_option maxRecDepth 100000 in
theorem side_state (K : Kd) (g a q : Nat) (s : Sd K) (w : World) (h : SAt K w g a q s) : Calls Tryz.prog 22 #[ptr g] w fun e w' => e = .returned (.int .u8 s.x.s) ∧ w = w' := by
  have c0 : w.cell? ⟨g, 0, none⟩ = some (.pointer (some ⟨a, 0, none⟩)) := h.c 0
  have HS := Lib.hid (state_any a s.x w h.2.1)
  clear h
  unfold ptr
  go_enter Tryz.func22, Tryz.ntmps22
  go_wp2_with fail
  refine HS.out.mono ?_
  rintro e w1 ⟨rfl, rfl⟩
  go_wp2
  go_ret
  exact ⟨rfl, rfl⟩
end Go.Proofs.YtpppggicihfbgaaGreat.Neg

/- Rows of packets that are read; the document's Same; an append of a row. -/
namespace Go.Proofs.YtpppggicihfbgaaGreat.Neg
open Go.RowKit Go.Deep Go.Proofs.YtpppggicihfbgaaGreat.Oct Go.Proofs.YtpppggicihfbgaaGreat.Row Go.Proofs.YtpppggicihfbgaaGreat.Mem Go.Proofs.YtpppggicihfbgaaGreat.Opt

/-! ### Same -/
set_option maxHeartbeats 2000000 in
set_option maxRecDepth 100000 in
theorem same_yes (l : List Pk) (A A' : Option Addr) (c c' : Nat) (T P : Int) (b : Bool) (w : World) (hl : l.length ≤ maxLen) (h : Pks w A l) (h' : Pks w A' l) :
    Calls Tryz.prog 18 #[.agg #[.slice A l.length c, .int .u16 T, .int .u16 P, .bool b], .agg #[.slice A' l.length c', .int .u16 T, .int .u16 P, .bool b]] w fun e w' => e = .returned (.bool true) ∧ Below w.heap.size w w' := by
  obtain ⟨W, hW, HW⟩ : ∃ W, (w.alloc (.cells #[.slice A l.length c, .int .u16 T, .int .u16 P, .bool b] 51)).alloc (.cells #[.slice A' l.length c', .int .u16 T, .int .u16 P, .bool b] 51) = W ∧
      Hid (Blk W w.heap.size [.slice A l.length c, .int .u16 T, .int .u16 P, .bool b] 51 ∧ Blk W (w.heap.size + 1) [.slice A' l.length c', .int .u16 T, .int .u16 P, .bool b] 51 ∧ Below w.heap.size w W) := by
    refine ⟨_, rfl, (blk_new w [.slice A l.length c, .int .u16 T, .int .u16 P, .bool b] _).alloc _, ?_, ((Below.refl w.heap.size w).alloc (Nat.le_refl _) _).alloc (by rw [World.size_alloc]; exact Nat.le_succ _) _⟩
    have := blk_new (w.alloc (.cells #[.slice A l.length c, .int .u16 T, .int .u16 P, .bool b] 51)) [.slice A' l.length c', .int .u16 T, .int .u16 P, .bool b] 51
    rw [World.size_alloc] at this
    exact this
  have H := Lib.hid (h.below HW.out.2.2)
  have H' := Lib.hid (h'.below HW.out.2.2)
  have HB := Lib.hid HW.out.2.2
  have a0 : W.cell? ⟨w.heap.size, 0, none⟩ = some (.slice A l.length c) := HW.out.1.at_ 0
  have a1 : W.cell? ⟨w.heap.size, 1, none⟩ = some (.int .u16 T) := HW.out.1.at_ 1
  have a2 : W.cell? ⟨w.heap.size, 2, none⟩ = some (.int .u16 P) := HW.out.1.at_ 2
  have a3 : W.cell? ⟨w.heap.size, 3, none⟩ = some (.bool b) := HW.out.1.at_ 3
  have b0 : W.cell? ⟨w.heap.size + 1, 0, none⟩ = some (.slice A' l.length c') := HW.out.2.1.at_ 0
  have b1 : W.cell? ⟨w.heap.size + 1, 1, none⟩ = some (.int .u16 T) := HW.out.2.1.at_ 1
  have b2 : W.cell? ⟨w.heap.size + 1, 2, none⟩ = some (.int .u16 P) := HW.out.2.1.at_ 2
  have b3 : W.cell? ⟨w.heap.size + 1, 3, none⟩ = some (.bool b) := HW.out.2.1.at_ 3
  have e1 : ((T : Int) != T) = false := by simp
  have e2 : ((P : Int) != P) = false := by simp
  have e3 : (b != b) = false := by simp
  have e4 : ((l.length : Int) != l.length) = false := by simp
  have hl2 := hl
  unfold maxLen at hl2
  obtain ⟨n, hn⟩ : ∃ n, l.length = n := ⟨_, rfl⟩
  have Hn := Lib.hid hn
  rw [hn] at a0 b0 e4 hl2
  have HWd := Lib.hid HW.out
  rw [hn] at HWd
  simp only [hn] at hW ⊢
  clear h h' hl HW hn
  go_enter Tryz.func18, Tryz.ntmps18
  go_wp2
  go_loopw [5] (fun i wr => ∃ (k : Nat), k ≤ n ∧ i = .int .i64 k ∧ Hid ((∀ p, wr.cell? p = W.cell? p) ∧ Below w.heap.size w wr)) (fun i _ => n - (intOf i).toNat)
  case atStart => exact ⟨0, Nat.zero_le _, rfl, ⟨fun _ => rfl, HB.out⟩⟩
  case round =>
    obtain ⟨k, hk, rfl, HWr⟩ := hrel
    have x0 : wr.cell? ⟨w.heap.size, 0, none⟩ = some (.slice A n c) := (HWr.out.1 _).trans a0
    have x1 : wr.cell? ⟨w.heap.size + 1, 0, none⟩ = some (.slice A' n c') := (HWr.out.1 _).trans b0
    by_cases hlt : k < n
    · obtain ⟨ad, p, rfl, hp, c0, c1, c2⟩ := H.out.at_ (k := k) (by rw [Hn.out]; exact hlt)
      obtain ⟨ad', p', rfl, hp', c0', c1', c2'⟩ := H'.out.at_ (k := k) (by rw [Hn.out]; exact hlt)
      have e : p' = p := by rw [hp] at hp'; cases hp'; rfl
      subst e
      have q0 : wr.cell? (ad.add (k * 3)) = some (.int .u8 p'.c.toNat) := (HWr.out.1 _).trans c0
      have q1 : wr.cell? ⟨(ad.add (k * 3)).block, (ad.add (k * 3)).off + 1, none⟩ = some (.int .u8 p'.i.toNat) := (HWr.out.1 _).trans c1
      have q2 : wr.cell? ⟨(ad.add (k * 3)).block, (ad.add (k * 3)).off + 2, none⟩ = some (.string p'.d) := (HWr.out.1 _).trans c2
      have q0' : wr.cell? (ad'.add (k * 3)) = some (.int .u8 p'.c.toNat) := (HWr.out.1 _).trans c0'
      have q1' : wr.cell? ⟨(ad'.add (k * 3)).block, (ad'.add (k * 3)).off + 1, none⟩ = some (.int .u8 p'.i.toNat) := (HWr.out.1 _).trans c1'
      have q2' : wr.cell? ⟨(ad'.add (k * 3)).block, (ad'.add (k * 3)).off + 2, none⟩ = some (.string p'.d) := (HWr.out.1 _).trans c2'
      have hne := fun w => pk_neq (pk_same p'.c p'.i p'.d) w
      simp only [Bool.not_true] at hne
      clear c0 c1 c2 c0' c1' c2' hp hp' a0 b0 a1 a2 a3 b1 b2 b3
      go_wp2
      go_quiet (fail)
      go_wp2
      go_roundw
      case rel => exact ⟨k + 1, by omega, by go_num, ⟨fun p => HWr.out.1 p, HWr.out.2.drewN' _⟩⟩
      case measure => simp [intOf]; omega
    · obtain rfl : k = n := by omega
      go_wp2
      go_ret
      exact ⟨rfl, HWr.out.2⟩
end Go.Proofs.YtpppggicihfbgaaGreat.Neg
