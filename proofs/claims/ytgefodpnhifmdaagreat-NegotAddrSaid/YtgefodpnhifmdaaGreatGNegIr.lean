/- Put together: NegIr, NegQ. -/
import Derived.Test.YtgefodpnhifmdaaGreatGNegR
import Derived.Test.YtgefodpnhifmdaaGreatGNegU
import Derived.Test.YtgefodpnhifmdaaGreatGNegIp
import Derived.Test.YtgefodpnhifmdaaGreatGIppCa
import Derived.Test.YtgefodpnhifmdaaGreatIppM
import Derived.Test.YtgefodpnhifmdaaGreatIppZ

/- What IPCP's policies do besides: requests that are judged, replies that are taken. -/
namespace Go.Proofs.YtgefodpnhifmdaaGreat.Neg
open Go.RowKit Go.Proofs.YtgefodpnhifmdaaGreat.Oct Go.Proofs.YtgefodpnhifmdaaGreat.Row Go.Proofs.YtgefodpnhifmdaaGreat.Mem Go.Proofs.YtgefodpnhifmdaaGreat.Opt

set_option maxHeartbeats 2000000 in
set_option maxRecDepth 100000 in
theorem ip_naked (q : Nat) (p : Ipp.Po) (w : World) (d : UInt32) (l : List Opt) (A : Option Addr) (c : Nat) (h : Ipp.PAt w q p) (hm : Ipc.may p.w = true) (hl : Opts w w.heap.size A l.length l) (h64 : l.length ≤ 64) :
    Calls Tryz.prog 154 #[.agg #[ptr q], .int .u32 d.toNat, .slice A l.length c] w fun e w' => e = .returned (.bool (Ipp.nkB l)) ∧ Ipp.PAt w' q (Ipp.nkP p l) ∧ Moves (fun k => k = q) w w' := by
  obtain ⟨W, hW, HW⟩ := boxI w q
  have H := Lib.hid (h.callee HW.out.2)
  have M : Hid (Moves (fun k => k = q) w W) := Moves.of_below HW.out.2
  have HR := Lib.hid (Ipp.naked_any q p l A l.length c W H.out hm (hl.next HW.out.2) (by omega))
  have c0 : W.cell? ⟨w.heap.size, 0, none⟩ = some (.pointer (some ⟨q, 0, none⟩)) := HW.out.1.at_ 0
  clear h HW hl
  unfold ptr
  go_enter Tryz.func154, Tryz.ntmps154
  go_wp2_with fail
  refine HR.out.mono ?_
  rintro e w1 ⟨rfl, hp, hm⟩
  have HP := Lib.hid hp
  have M1 := Lib.hid (M.out.trans hm fun _ _ x => x)
  clear hp hm
  go_wp2
  go_ret
  exact ⟨rfl, HP.out, M1.out⟩
set_option maxHeartbeats 2000000 in
set_option maxRecDepth 100000 in
theorem ip_twin (q : Nat) (p : Ipp.Po) (w : World) (h : Ipp.PAt w q p) : Calls Tryz.prog 156 #[.agg #[ptr q]] w fun e w' => ∃ q', e = .returned (.iface 57 (.agg #[.pointer (some ⟨q', 0, none⟩)])) ∧ w.heap.size ≤ q' ∧ Ipp.PAt w' q' p ∧ Below w.heap.size w w' := by
  obtain ⟨W, hW, HW⟩ := boxI w q
  have HB := Lib.hid HW.out.2
  have HR := Lib.hid (Ipp.copy_any q p W (h.callee HW.out.2))
  have c0 : W.cell? ⟨w.heap.size, 0, none⟩ = some (.pointer (some ⟨q, 0, none⟩)) := HW.out.1.at_ 0
  clear h HW
  unfold ptr
  go_enter Tryz.func156, Tryz.ntmps156
  go_wp2_with fail
  refine HR.out.mono ?_
  rintro e w1 ⟨q', rfl, hq, hp, hb⟩
  have HP := Lib.hid hp
  have HQ : Hid (w.heap.size ≤ q') := Nat.le_trans HB.out.size hq
  have HB1 := Lib.hid (HB.out.trans (hb.mono HB.out.size))
  clear hp hq hb
  go_wp2
  go_ret
  exact ⟨q', rfl, HQ.out, HP.out, HB1.out⟩
theorem ip_jC (p : Ipp.Po) (l : List Opt) : Ipp.jC p l < 256 := by
  unfold Ipp.jC
  repeat' split
  all_goals decide
theorem ip_miss (p : Ipp.Po) (l : List Opt) : (Ipp.miss p l).length ≤ 64 := by
  unfold Ipp.miss
  split
  · exact Nat.zero_le _
  · exact Nat.le_trans (put_len _) (by decide)
theorem ip_jA (p : Ipp.Po) (l : List Opt) (h : l.length ≤ 64) : (Ipp.jA p l).length ≤ maxLen := by
  have h1 : (Ipp.refs (Ipp.vs p l)).length ≤ 64 := Nat.le_trans (List.length_filterMap_le _ _) (by rw [Ipp.vs_length]; exact h)
  have h2 : (Ipp.poors (Ipp.vs p l)).length ≤ 64 := Nat.le_trans (List.length_filterMap_le _ _) (by rw [Ipp.vs_length]; exact h)
  have h3 : (Ipp.insts (Ipp.vs p l)).length ≤ 64 := Nat.le_trans (List.length_filterMap_le _ _) (by rw [Ipp.vs_length]; exact h)
  have h5 := ip_miss p l
  have h6 : (Ipp.sugs p l).length ≤ 128 := by unfold Ipp.sugs; rw [List.length_append]; omega
  have h4 : (128 : Nat) ≤ maxLen := by unfold maxLen; decide
  unfold Ipp.jA
  split
  all_goals omega
theorem ip_jok (p : Ipp.Po) (l : List Opt) (h : Ipc.may p.w = true) : Ipc.may (Ipp.jP p l).w = true := by
  have : (Ipp.jP p l).w = p.w := by
    unfold Ipp.jP
    split <;> rfl
  rw [this]
  exact h
theorem ip_plain {w : World} {q : Nat} {p : Ipp.Po} (h : Ipp.PAt w q p) (i : Nat) (s : ByteArray) : w.cell? ⟨q, i, none⟩ ≠ some (.string s) := by
  rw [h.c i]
  intro e
  have h1 := List.mem_of_getElem? e
  simp only [Ipp.pv, Ipp.cv, Ipc.lv, List.mem_append, List.mem_cons, List.not_mem_nil, or_false] at h1
  rcases h1 with h1 | h1 | h1 | h1 | h1 <;> (repeat' (rcases h1 with h1 | h1)) <;> cases h1
set_option maxRecDepth 100000 in
def ipR : Kr ipK where
  plain := fun h i s => ip_plain h i s
  okJ := fun p => p.naks ≤ 1000
  jC := Ipp.jC
  jA := Ipp.jA
  jP := Ipp.jP
  jlt := ip_jC
  jlen := ip_jA
  jok := ip_jok
  fJudge := 108
  eJudge := enters_of Tryz.func108 (by kernel_rfl) rfl
  mJudge := fun k hk q w => by subst hk; kernel_rfl
  cJudge := fun q p w l A c h hok hj hl hA hn => Ipp.judge_any q p l A l.length c w h hl hA (by omega) hj
  fTwin := 156
  eTwin := enters_of Tryz.func156 (by kernel_rfl) rfl
  mTwin := fun k hk q w => by subst hk; kernel_rfl
  cTwin := fun q p w h => ip_twin q p w h
theorem ip_akok (p : Ipp.Po) (l : List Opt) (h : Ipc.may p.w = true) : Ipc.may (Ipp.akP p l).w = true := by
  unfold Ipp.akP
  split <;> exact h
theorem ip_rjok (p : Ipp.Po) (l : List Opt) (h : Ipc.may p.w = true) : Ipc.may (Ipp.rjP p l).w = true := by
  unfold Ipp.rjP
  split
  · have : ∀ (l : List Opt) (p : Ipp.Po), Ipc.may p.w = true → Ipc.may (l.foldl Ipp.dropP p).w = true := by
      intro l
      induction l with
      | nil => exact fun p h => h
      | cons o l ih => exact fun p h => ih _ (Ipp.drop_may o.1 h)
    exact this l p h
  · exact h
theorem ip_nkok (p : Ipp.Po) (l : List Opt) (h : Ipc.may p.w = true) : Ipc.may (Ipp.nkP p l).w = true := by
  unfold Ipp.nkP
  split
  · exact Ipp.nkW_may h
  · exact h
set_option maxRecDepth 100000 in
def ipA : Rp ipK "Acked" where
  b := Ipp.akB
  p := Ipp.akP
  ok := ip_akok
  f := 107
  e := enters_of Tryz.func107 (by kernel_rfl) rfl
  m := fun k hk q w => by subst hk; kernel_rfl
  c := fun q p w l A c h hok hl _ hn => Ipp.acked_any q p l A l.length c w h hok hl (by omega)
set_option maxRecDepth 100000 in
def ipJ : Rp ipK "Rejected" where
  b := Ipp.rjB
  p := Ipp.rjP
  ok := ip_rjok
  f := 109
  e := enters_of Tryz.func109 (by kernel_rfl) rfl
  m := fun k hk q w => by subst hk; kernel_rfl
  c := fun q p w l A c h hok hl _ hn => Ipp.rejected_any q p l A l.length c w h hok hl (by omega)
set_option maxRecDepth 100000 in
def ipN : Rn ipK where
  b := fun _ _ l => Ipp.nkB l
  p := fun p _ l => Ipp.nkP p l
  ok := fun p _ l h => ip_nkok p l h
  f := 154
  e := enters_of Tryz.func154 (by kernel_rfl) rfl
  m := fun k hk q w => by subst hk; kernel_rfl
  c := fun q p w d l A c h hok hl _ hn => ip_naked q p w d l A c h hok hl hn
end Go.Proofs.YtgefodpnhifmdaaGreat.Neg

/- Two sides that are joined: what each makes of what the other one sends, packet by packet, in whatever order they are served; two sides of IPCP. -/
namespace Go.Proofs.YtgefodpnhifmdaaGreat.Neg
open Go.RowKit Go.Proofs.YtgefodpnhifmdaaGreat.Oct Go.Proofs.YtgefodpnhifmdaaGreat.Row Go.Proofs.YtgefodpnhifmdaaGreat.Mem Go.Proofs.YtgefodpnhifmdaaGreat.Opt Go.Proofs.YtgefodpnhifmdaaGreat.Fsm
open Go.Proofs.YtgefodpnhifmdaaGreat.Aut (Au Aut Inv evA evE evX)

/-- Each side behind so many packets, all that each sends, how many of these each has sent behind so many that it took. -/
structure Net (K : Kd) where
  N : Nat
  hN : N ≤ 7 ∧ 1 ≤ N
  SA : Nat → Sd K
  SB : Nat → Sd K
  OA : List Pk
  OB : List Pk
  sA : Nat → Nat
  sB : Nat → Nat
  lA : OA.length = N
  lB : OB.length = N
  mA : ∀ i, i < N → sA i ≤ sA (i + 1) ∧ sA (i + 1) ≤ N
  mB : ∀ i, i < N → sB i ≤ sB (i + 1) ∧ sB (i + 1) ≤ N
  a0 : sA 0 = 1
  b0 : sB 0 = 1
  hA : ∀ i (h : i < OB.length) d, Gets K (SA i) (SA (i + 1)) OB[i] ((OA.drop (sA i)).take (sA (i + 1) - sA i)) d
  hB : ∀ i (h : i < OA.length) d, Gets K (SB i) (SB (i + 1)) OA[i] ((OB.drop (sB i)).take (sB (i + 1) - sB i)) d
  live : ∀ i j, i ≤ N → j ≤ N → i = sB j → j = sA i → i = N ∧ j = N

theorem net_three {K : Kd} (a0 a1 a2 a3 b0 b1 b2 b3 : Sd K) (ra rep acka rb ackb rb2 : Pk)
    (hA1 : ∀ d, Gets K a0 a1 rb [rep] d) (hA2 : ∀ d, Gets K a1 a2 ackb [] d) (hA3 : ∀ d, Gets K a2 a3 rb2 [acka] d)
    (hB1 : ∀ d, Gets K b0 b1 ra [ackb] d) (hB2 : ∀ d, Gets K b1 b2 rep [rb2] d) (hB3 : ∀ d, Gets K b2 b3 acka [] d) :
    ∃ T : Net K, T.SA 0 = a0 ∧ T.SB 0 = b0 ∧ T.SA T.N = a3 ∧ T.SB T.N = b3 ∧ T.OA.take 1 = [ra] ∧ T.OB.take 1 = [rb] := by
  refine ⟨⟨3, by decide, fun i => match i with | 0 => a0 | 1 => a1 | 2 => a2 | _ => a3, fun i => match i with | 0 => b0 | 1 => b1 | 2 => b2 | _ => b3, [ra, rep, acka], [rb, ackb, rb2],
    fun i => match i with | 0 => 1 | 1 => 2 | 2 => 2 | _ => 3, fun i => match i with | 0 => 1 | 1 => 2 | 2 => 3 | _ => 3, rfl, rfl, ?_, ?_, rfl, rfl, ?_, ?_, ?_⟩, rfl, rfl, rfl, rfl, rfl, rfl⟩
  · intro i h
    match i, h with
    | 0, _ => decide
    | 1, _ => decide
    | 2, _ => decide
  · intro i h
    match i, h with
    | 0, _ => decide
    | 1, _ => decide
    | 2, _ => decide
  · intro i h d
    match i, h with
    | 0, _ => exact hA1 d
    | 1, _ => exact hA2 d
    | 2, _ => exact hA3 d
  · intro i h d
    match i, h with
    | 0, _ => exact hB1 d
    | 1, _ => exact hB2 d
    | 2, _ => exact hB3 d
  · intro i j hi hj
    match i, hi, j, hj with
    | 0, _, 0, _ => simp
    | 0, _, 1, _ => simp
    | 0, _, 2, _ => simp
    | 0, _, 3, _ => simp
    | 1, _, 0, _ => simp
    | 1, _, 1, _ => simp
    | 1, _, 2, _ => simp
    | 1, _, 3, _ => simp
    | 2, _, 0, _ => simp
    | 2, _, 1, _ => simp
    | 2, _, 2, _ => simp
    | 2, _, 3, _ => simp
    | 3, _, 0, _ => simp
    | 3, _, 1, _ => simp
    | 3, _, 2, _ => simp
    | 3, _, 3, _ => simp
theorem net_four {K : Kd} (a0 a1 a2 a3 a4 b0 b1 b2 b3 b4 : Sd K) (ra rep rep2 acka rb ackb rb2 rb3 : Pk)
    (hA1 : ∀ d, Gets K a0 a1 rb [rep] d) (hA2 : ∀ d, Gets K a1 a2 ackb [] d) (hA3 : ∀ d, Gets K a2 a3 rb2 [rep2] d) (hA4 : ∀ d, Gets K a3 a4 rb3 [acka] d)
    (hB1 : ∀ d, Gets K b0 b1 ra [ackb] d) (hB2 : ∀ d, Gets K b1 b2 rep [rb2] d) (hB3 : ∀ d, Gets K b2 b3 rep2 [rb3] d) (hB4 : ∀ d, Gets K b3 b4 acka [] d) :
    ∃ T : Net K, T.SA 0 = a0 ∧ T.SB 0 = b0 ∧ T.SA T.N = a4 ∧ T.SB T.N = b4 ∧ T.OA.take 1 = [ra] ∧ T.OB.take 1 = [rb] := by
  refine ⟨⟨4, by decide, fun i => match i with | 0 => a0 | 1 => a1 | 2 => a2 | 3 => a3 | _ => a4, fun i => match i with | 0 => b0 | 1 => b1 | 2 => b2 | 3 => b3 | _ => b4, [ra, rep, rep2, acka], [rb, ackb, rb2, rb3],
    fun i => match i with | 0 => 1 | 1 => 2 | 2 => 2 | 3 => 3 | _ => 4, fun i => match i with | 0 => 1 | 1 => 2 | 2 => 3 | 3 => 4 | _ => 4, rfl, rfl, ?_, ?_, rfl, rfl, ?_, ?_, ?_⟩, rfl, rfl, rfl, rfl, rfl, rfl⟩
  · intro i h
    match i, h with
    | 0, _ => decide
    | 1, _ => decide
    | 2, _ => decide
    | 3, _ => decide
  · intro i h
    match i, h with
    | 0, _ => decide
    | 1, _ => decide
    | 2, _ => decide
    | 3, _ => decide
  · intro i h d
    match i, h with
    | 0, _ => exact hA1 d
    | 1, _ => exact hA2 d
    | 2, _ => exact hA3 d
    | 3, _ => exact hA4 d
  · intro i h d
    match i, h with
    | 0, _ => exact hB1 d
    | 1, _ => exact hB2 d
    | 2, _ => exact hB3 d
    | 3, _ => exact hB4 d
  · intro i j hi hj
    match i, hi, j, hj with
    | 0, _, 0, _ => simp
    | 0, _, 1, _ => simp
    | 0, _, 2, _ => simp
    | 0, _, 3, _ => simp
    | 0, _, 4, _ => simp
    | 1, _, 0, _ => simp
    | 1, _, 1, _ => simp
    | 1, _, 2, _ => simp
    | 1, _, 3, _ => simp
    | 1, _, 4, _ => simp
    | 2, _, 0, _ => simp
    | 2, _, 1, _ => simp
    | 2, _, 2, _ => simp
    | 2, _, 3, _ => simp
    | 2, _, 4, _ => simp
    | 3, _, 0, _ => simp
    | 3, _, 1, _ => simp
    | 3, _, 2, _ => simp
    | 3, _, 3, _ => simp
    | 3, _, 4, _ => simp
    | 4, _, 0, _ => simp
    | 4, _, 1, _ => simp
    | 4, _, 2, _ => simp
    | 4, _, 3, _ => simp
    | 4, _, 4, _ => simp

/-! ### IPCP -/
theorem ip_knows (c : Nat) (h1 : 1 ≤ c) (h2 : c ≤ 4) : Pkt.known ipK.proto c = true := by
  show Pkt.known 32801 c = true
  unfold Pkt.known
  simp
  omega
def Four (l : List Opt) : Prop := ∀ o ∈ l, o.2.size ≤ 4
theorem pe_four {l : List Opt} (h : Four l) (hl : l.length ≤ 64) : pE l = 0 := by
  refine pE_zero.2 ⟨hl, ?_, by have := wt_small l h; omega⟩
  unfold big
  rw [List.any_eq_false]
  intro o ho
  have := h o ho
  simp only [decide_eq_true_eq]
  omega
theorem insts_four (p : Ipp.Po) (l : List Opt) : Four (Ipp.insts (Ipp.vs p l)) := by
  intro o ho
  unfold Ipp.insts Ipp.vs at ho
  obtain ⟨v, hv, hvo⟩ := List.mem_filterMap.1 ho
  obtain ⟨i, _, rfl⟩ := List.mem_map.1 hv
  split at hvo
  · cases hvo
    exact Ipp.imp_size p _
  · cases hvo
theorem jA_four (p : Ipp.Po) (l : List Opt) (h : Four l) (hl : l.length ≤ 3) : pE (Ipp.jA p l) = 0 := by
  have hlen : (Ipp.jA p l).length ≤ 64 := by
    rcases Ipp.waysOf p l with h | h | h
    · omega
    · omega
    · rw [h.2.2.2.1]; omega
  refine pe_four ?_ hlen
  unfold Ipp.jA
  split
  · exact fun o ho => h o ((Ipp.refs_sub p l).mem ho)
  · intro o ho
    unfold Ipp.sugs at ho
    rcases List.mem_append.1 ho with ho | ho
    · exact insts_four p l o ho
    · unfold Ipp.miss at ho
      split at ho
      · cases ho
      · exact put_four _ o ho
  · exact fun o ho => h o ((Ipp.poors_sub p l).mem ho)
  · exact h
theorem jA_req (p q : Ipp.Po) : pE (Ipp.jA p (Ipp.req q)) = 0 := jA_four p _ (put_four _) (put_len _)
/-- What a reply keeps of what was acked, and of the peer's. -/
theorem drops_keep : ∀ (l : List Opt) (q : Ipp.Po), (l.foldl Ipp.dropP q).mine = q.mine ∧ (l.foldl Ipp.dropP q).peer = q.peer
  | [], _ => ⟨rfl, rfl⟩
  | o :: l, q => drops_keep l (Ipp.dropP q o)
theorem rj_keep (q : Ipp.Po) (l : List Opt) : (Ipp.rjP q l).mine = q.mine ∧ (Ipp.rjP q l).peer = q.peer := by
  unfold Ipp.rjP
  split
  · exact drops_keep l q
  · exact ⟨rfl, rfl⟩
theorem nk_keep (q : Ipp.Po) (l : List Opt) : (Ipp.nkP q l).mine = q.mine ∧ (Ipp.nkP q l).peer = q.peer := by
  unfold Ipp.nkP
  split <;> exact ⟨rfl, rfl⟩
theorem j_mine (p : Ipp.Po) (l : List Opt) : (Ipp.jP p l).mine = p.mine := (Ipp.jP_w p l).2.2.1
theorem j_ack {p : Ipp.Po} {l : List Opt} (h : Ipp.jC p l = 2) : Ipp.jP p l = { p with naks := 0, peer := Ipc.gL l } ∧ Ipp.jA p l = l := by
  unfold Ipp.jC at h
  unfold Ipp.jP Ipp.jA
  cases hw : Ipp.way p l <;> rw [hw] at h <;> first | exact ⟨rfl, rfl⟩ | cases h
theorem ak_self (p : Ipp.Po) : Ipp.akB p (Ipp.req p) = true ∧ Ipp.akP p (Ipp.req p) = { p with mine := p.w } := by
  have h : Ipp.akB p (Ipp.req p) = true := by unfold Ipp.akB; simp
  refine ⟨h, ?_⟩
  unfold Ipp.akP
  rw [if_pos h]
theorem sz_mine {own give d1 d2 : UInt32} {want : Bool} {k : Nat} {p q : Ipp.Po} (h : Ipp.Sz own give d1 d2 want k p q) (x : Ipc.Ipc) : Ipp.Sz own give d1 d2 want k { p with mine := x } q := h
/-- A reply that is no Ack, on its way back. -/
theorem back_step {s : Sd ipK} {q : Ipp.Po} {n : Nat} (h : Sx s 8 q n) (hn : n + 1 < 256) (i : UInt8) (hi : i.toNat = n) (C : Nat) (l : List Opt) (hl : pE l = 0) (q' : Ipp.Po)
    (hC : (C = 4 ∧ Ipp.rjB q l = true ∧ q' = Ipp.rjP q l) ∨ (C = 3 ∧ Ipp.nkB l = true ∧ q' = Ipp.nkP q l)) :
    ∃ s', (∀ d, Gets ipK s s' ⟨UInt8.ofNat C, i, bOf (enc l)⟩ [⟨1, UInt8.ofNat (n + 1), bOf (enc (Ipp.req q'))⟩] d) ∧ Sx s' 8 q' (n + 1) := by
  rcases hC with ⟨rfl, hb, rfl⟩ | ⟨rfl, hb, rfl⟩
  · exact rej_step ipJ ip_knows h hn i hi l hl hb
  · obtain ⟨s', h1, h2, h3⟩ := nak_step ipN ip_knows h hn i hi l hl 0 hb
    refine ⟨s', fun d => ?_, h2⟩
    obtain ⟨s'', g1, _, g3⟩ := nak_step ipN ip_knows h hn i hi l hl d hb
    rw [h3]
    rw [g3] at g1
    exact g1
theorem ofNat_i {n : Nat} (h : n < 256) : (UInt8.ofNat n).toNat = n := by rw [UInt8.toNat_ofNat']; exact Nat.mod_eq_of_lt h

/-- The two come to terms. -/
theorem ip_net (own give d1 d2 : UInt32) (want : Bool) (ho : own ≠ 0) (hg : give ≠ 0) (a0 b0 : Sd ipK) (ha : Sx a0 6 (Ipp.newP (Ipp.ca own give d1 d2)) 1) (hb : Sx b0 6 (Ipp.newP (Ipp.cb want)) 1) :
    ∃ T : Net ipK, T.SA 0 = a0 ∧ T.SB 0 = b0 ∧ T.OA.take 1 = [⟨1, 1, reqD ipK (Ipp.newP (Ipp.ca own give d1 d2))⟩] ∧ T.OB.take 1 = [⟨1, 1, reqD ipK (Ipp.newP (Ipp.cb want))⟩] ∧
      ∃ (p q : Ipp.Po) (n m : Nat), Sx (T.SA T.N) 9 p n ∧ Sx (T.SB T.N) 9 q m ∧ p.mine = ⟨true, own, false, 0, false, 0⟩ ∧ q.peer = ⟨true, own, false, 0, false, 0⟩ ∧ p.peer = Ipp.u2 give want d1 d2 ∧ q.mine = Ipp.u2 give want d1 d2 := by
  obtain ⟨pA, hpA⟩ : ∃ p, p = Ipp.newP (Ipp.ca own give d1 d2) := ⟨_, rfl⟩
  obtain ⟨pB, hpB⟩ : ∃ p, p = Ipp.newP (Ipp.cb want) := ⟨_, rfl⟩
  rw [← hpA] at ha ⊢
  rw [← hpB] at hb ⊢
  have hAw : pA.w = ⟨true, own, false, 0, false, 0⟩ := by rw [hpA]; rfl
  have hAc : pA.c = Ipp.ca own give d1 d2 := by rw [hpA]; rfl
  have hAn : pA.naks = 0 := by rw [hpA]; rfl
  have hBc : pB.c = Ipp.cb want := by rw [hpB]; rfl
  have hBw : pB.w = Ipp.u0 want := by rw [hpB]; rfl
  -- B hears A's request
  obtain ⟨k1, k2, k3⟩ := Ipp.sz_back (own := own) (want := want) (p := pA) (q := pB) hAw hBc ho
  obtain ⟨b1, hB1, xB1⟩ := req_step ipR ip_knows hb (.inl rfl) (show pB.naks ≤ 1000 by rw [hpB]; exact Nat.zero_le _) 1 (Ipp.req pA) (pe_put _) (show pE (Ipp.jA pB (Ipp.req pA)) = 0 from jA_req pB pA)
  have hjB := (j_ack k1).1
  have e1 : ipR.jC pB (Ipp.req pA) = 2 := k1
  have e2 : ipR.jA pB (Ipp.req pA) = Ipp.req pA := k2
  have e3 : ipR.jP pB (Ipp.req pA) = Ipp.jP pB (Ipp.req pA) := rfl
  rw [e1, e2] at hB1
  rw [e1, if_pos rfl, if_pos rfl, e3] at xB1
  -- A and B at the first exchange
  obtain ⟨q1, hq1⟩ : ∃ q, q = Ipp.jP pB (Ipp.req pA) := ⟨_, rfl⟩
  rw [← hq1] at xB1 hjB k3
  have hr1 : Ipp.req q1 = Ipp.req pB := by rw [hjB]; rfl
  have hS0 : Ipp.Sz own give d1 d2 want 0 pA q1 := ⟨hAc, hAw, by omega, by rw [hjB]; exact hBc, by rw [hjB], .inl ⟨rfl, by rw [hjB]; exact hBw⟩⟩
  obtain ⟨a1, hA1, xA1⟩ := req_step ipR ip_knows ha (.inl rfl) (show pA.naks ≤ 1000 by omega) 1 (Ipp.req q1) (pe_put _) (show pE (Ipp.jA pA (Ipp.req q1)) = 0 from jA_req pA q1)
  obtain ⟨q2, C1, hC1, hC1n, hS1⟩ : ∃ (q2 : Ipp.Po) (C : Nat), Ipp.jC pA (Ipp.req q1) = C ∧ ((C = 4 ∧ Ipp.rjB q1 (Ipp.jA pA (Ipp.req q1)) = true ∧ q2 = Ipp.rjP q1 (Ipp.jA pA (Ipp.req q1))) ∨ (C = 3 ∧ Ipp.nkB (Ipp.jA pA (Ipp.req q1)) = true ∧ q2 = Ipp.nkP q1 (Ipp.jA pA (Ipp.req q1)))) ∧ Ipp.Sz own give d1 d2 want 1 (Ipp.jP pA (Ipp.req q1)) q2 := by
    rcases Ipp.sz_step hS0 hg with ⟨c, _, b, s⟩ | ⟨c, _, b, s⟩ | ⟨_, _, b, _⟩
    · exact ⟨_, _, c, .inl ⟨rfl, b, rfl⟩, s⟩
    · exact ⟨_, _, c, .inr ⟨rfl, b, rfl⟩, s⟩
    · exfalso
      have h9 : q1.w = Ipp.u0 want := by rw [hjB]; exact hBw
      rw [h9] at b
      have := congrArg Ipc.Ipc.addr b
      exact hg this.symm
  have hn2 : C1 ≠ 2 := by rcases hC1n with h | h <;> omega
  have f1 : ipR.jC pA (Ipp.req q1) = C1 := hC1
  have f2 : ipR.jA pA (Ipp.req q1) = Ipp.jA pA (Ipp.req q1) := rfl
  have f3 : ipR.jP pA (Ipp.req q1) = Ipp.jP pA (Ipp.req q1) := rfl
  rw [f1, f2] at hA1
  rw [f1, if_neg hn2, f3] at xA1
  have hp1w : (Ipp.jP pA (Ipp.req q1)).w = pA.w := (Ipp.jP_w _ _).1
  -- A hears B's Ack
  obtain ⟨p1, hp1⟩ : ∃ p, p = Ipp.jP pA (Ipp.req q1) := ⟨_, rfl⟩
  rw [← hp1] at xA1 hp1w hS1
  have hrp : Ipp.req p1 = Ipp.req pA := by unfold Ipp.req; rw [hp1w]
  obtain ⟨a2, hA2, xA2⟩ := ack_step ipA ip_knows xA1 (.inl rfl) 1 rfl (Ipp.req pA) (pe_put _) (by show Ipp.akB p1 (Ipp.req pA) = true; rw [← hrp]; exact (ak_self p1).1)
  have g3 : ipA.p p1 (Ipp.req pA) = { p1 with mine := p1.w } := by show Ipp.akP p1 (Ipp.req pA) = _; rw [← hrp]; exact (ak_self p1).2
  rw [g3] at xA2
  -- B hears the reply
  obtain ⟨b2, hB2, xB2⟩ := back_step xB1 (by decide) 1 rfl C1 _ (jA_req pA q1) q2 hC1n
  have hkeep2 : q2.peer = q1.peer ∧ q2.mine = q1.mine := by
    rcases hC1n with ⟨_, _, rfl⟩ | ⟨_, _, rfl⟩
    · exact ⟨(rj_keep _ _).2, (rj_keep _ _).1⟩
    · exact ⟨(nk_keep _ _).2, (nk_keep _ _).1⟩
  -- A hears the second request
  obtain ⟨p2, hp2⟩ : ∃ p : Ipp.Po, p = { p1 with mine := p1.w } := ⟨_, rfl⟩
  have hS1' : Ipp.Sz own give d1 d2 want 1 p2 q2 := by rw [hp2]; exact hS1
  have hp2m : p2.mine = ⟨true, own, false, 0, false, 0⟩ := by rw [hp2]; show p1.w = _; rw [hp1w, hAw]
  rw [← hp2] at xA2
  have hn2' : p2.naks ≤ 1000 := by have := hS1'.2.2.1; omega
  obtain ⟨a3, hA3, xA3⟩ := req_step ipR ip_knows xA2 (.inr rfl) (show p2.naks ≤ 1000 from hn2') (UInt8.ofNat 2) (Ipp.req q2) (pe_put _) (show pE (Ipp.jA p2 (Ipp.req q2)) = 0 from jA_req p2 q2)
  have l1 : ipR.jA p2 (Ipp.req q2) = Ipp.jA p2 (Ipp.req q2) := rfl
  have l2 : ipR.jP p2 (Ipp.req q2) = Ipp.jP p2 (Ipp.req q2) := rfl
  rcases Ipp.sz_step hS1' hg with ⟨c, _, b, s⟩ | ⟨c, _, b, s⟩ | ⟨c, b, hw, hpe⟩
  case inr.inr =>
    have l3 : ipR.jC p2 (Ipp.req q2) = 2 := c
    rw [l3, l1, b] at hA3
    rw [l3, if_pos rfl, if_neg (by decide), l2] at xA3
    obtain ⟨b3, hB3, xB3⟩ := ack_step ipA ip_knows xB2 (.inr rfl) (UInt8.ofNat 2) rfl (Ipp.req q2) (pe_put _) (ak_self q2).1
    have g4 : ipA.p q2 (Ipp.req q2) = { q2 with mine := q2.w } := (ak_self q2).2
    rw [g4] at xB3
    obtain ⟨T, t1, t2, t3, t4, t5, t6⟩ := net_three a0 a1 a2 a3 b0 b1 b2 b3 _ _ _ _ _ _ hA1 hA2 hA3 hB1 hB2 hB3
    refine ⟨T, t1, t2, t5, ?_, _, _, _, _, by rw [t3]; exact xA3, by rw [t4]; exact xB3, ?_, ?_, hpe, ?_⟩
    · rw [t6, hr1]; rfl
    · rw [j_mine]; exact hp2m
    · show q2.peer = _; rw [hkeep2.1, k3]
    · show q2.w = _; exact hw
  all_goals
    obtain ⟨q3, C2, hC2, hC2n, hS2, hkeep3⟩ : ∃ (q3 : Ipp.Po) (C : Nat), Ipp.jC p2 (Ipp.req q2) = C ∧ ((C = 4 ∧ Ipp.rjB q2 (Ipp.jA p2 (Ipp.req q2)) = true ∧ q3 = Ipp.rjP q2 (Ipp.jA p2 (Ipp.req q2))) ∨ (C = 3 ∧ Ipp.nkB (Ipp.jA p2 (Ipp.req q2)) = true ∧ q3 = Ipp.nkP q2 (Ipp.jA p2 (Ipp.req q2)))) ∧ Ipp.Sz own give d1 d2 want 2 (Ipp.jP p2 (Ipp.req q2)) q3 ∧ q3.peer = q2.peer := by
      first
        | exact ⟨_, _, c, .inl ⟨rfl, b, rfl⟩, s, (rj_keep _ _).2⟩
        | exact ⟨_, _, c, .inr ⟨rfl, b, rfl⟩, s, (nk_keep _ _).2⟩
    clear c b s
    have hm2 : C2 ≠ 2 := by rcases hC2n with h | h <;> omega
    have l3 : ipR.jC p2 (Ipp.req q2) = C2 := hC2
    rw [l3, l1] at hA3
    rw [l3, if_neg hm2, l2] at xA3
    obtain ⟨b3, hB3, xB3⟩ := back_step xB2 (by decide) (UInt8.ofNat 2) rfl C2 _ (jA_req p2 q2) q3 hC2n
    obtain ⟨p3, hp3⟩ : ∃ p, p = Ipp.jP p2 (Ipp.req q2) := ⟨_, rfl⟩
    have hp3m : p3.mine = p2.mine := by rw [hp3]; exact j_mine _ _
    rw [← hp3] at xA3 hS2
    have hn3 : p3.naks ≤ 1000 := by have := hS2.2.2.1; omega
    obtain ⟨a4, hA4, xA4⟩ := req_step ipR ip_knows xA3 (.inr rfl) (show p3.naks ≤ 1000 from hn3) (UInt8.ofNat 3) (Ipp.req q3) (pe_put _) (show pE (Ipp.jA p3 (Ipp.req q3)) = 0 from jA_req p3 q3)
    rcases Ipp.sz_step hS2 hg with ⟨_, k, _⟩ | ⟨_, k, _⟩ | ⟨c, b, hw, hpe⟩
    · omega
    · omega
    have l4 : ipR.jC p3 (Ipp.req q3) = 2 := c
    have l5 : ipR.jA p3 (Ipp.req q3) = Ipp.jA p3 (Ipp.req q3) := rfl
    have l6 : ipR.jP p3 (Ipp.req q3) = Ipp.jP p3 (Ipp.req q3) := rfl
    rw [l4, l5, b] at hA4
    rw [l4, if_pos rfl, if_neg (by decide), l6] at xA4
    obtain ⟨b4, hB4, xB4⟩ := ack_step ipA ip_knows xB3 (.inr rfl) (UInt8.ofNat 3) rfl (Ipp.req q3) (pe_put _) (ak_self q3).1
    have g4 : ipA.p q3 (Ipp.req q3) = { q3 with mine := q3.w } := (ak_self q3).2
    rw [g4] at xB4
    obtain ⟨T, t1, t2, t3, t4, t5, t6⟩ := net_four a0 a1 a2 a3 a4 b0 b1 b2 b3 b4 _ _ _ _ _ _ _ _ hA1 hA2 hA3 hA4 hB1 hB2 hB3 hB4
    refine ⟨T, t1, t2, t5, ?_, _, _, _, _, by rw [t3]; exact xA4, by rw [t4]; exact xB4, ?_, ?_, hpe, ?_⟩
    · rw [t6, hr1]; rfl
    · rw [j_mine, hp3m]; exact hp2m
    · show q3.peer = _; rw [hkeep3, hkeep2.1, k3]
    · show q3.w = _; exact hw
end Go.Proofs.YtgefodpnhifmdaaGreat.Neg
