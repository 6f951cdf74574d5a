/- Contracts of package hdlc's take and end. -/
import Derived.Test.YtfcmpnfdgfdclaaHdlA
namespace Go.Proofs.Ytfcmpnfdgfdclaa.Hdl
open Go.RowKit Go.Proofs.Ytfcmpnfdgfdclaa.Oct Go.Proofs.Ytfcmpnfdgfdclaa.Row Go.Proofs.Ytfcmpnfdgfdclaa.Esc

theorem bytesV_set (l : List UInt8) (i : Nat) (b : UInt8) : bytesV (l.set i b) = (bytesV l).set i (.int .u8 b.toNat) := by
  unfold bytesV; rw [List.map_set]

def TakeP (n₀ g : Nat) (r' : St) (v : Value) (w : World) (e : Ending) (w' : World) : Prop := e = .returned (.tuple #[]) ∧ RecvP n₀ g r' v w w'
set_option maxHeartbeats 1000000 in
set_option maxRecDepth 100000 in
theorem take_any (n₀ g : Nat) (r : St) (v : Value) (b : UInt8) (w : World) (hR : Recv w n₀ g r v) (hI : Inv r) (hb : b ≠ 126) :
    Calls Try.prog 23 #[.pointer (some ⟨g, 0, none⟩), .int .u8 (b.toNat : Int)] w (TakeP n₀ g (feed r b) v w) := by
  obtain ⟨i0, hi, hz0, hz1, hz2⟩ := info_parts Try.info5
  have HR := Lib.hid hR
  have Ha := Lib.hid hI.2.2.2.2
  have Hb := Lib.hid hb
  have hlt := hR.lt
  have hn0 := hR.1
  have hc6 : w.cell? ⟨g, 6, none⟩ = some (.int .u32 r.accm) := (cellR hR.2.1 6).1
  have hc7 : w.cell? ⟨g, 7, none⟩ = some (.bool r.begun) := (cellR hR.2.1 7).1
  have hc8 : w.cell? ⟨g, 8, none⟩ = some v := (cellR hR.2.1 8).1
  have hf8 := (cellR hR.2.1 8).2
  clear hR hI hb
  cases hbg : r.begun
  · have HF := Lib.hid (feed_lets (r := r) Hb.out (.inl hbg))
    rw [hbg] at hc7
    clear hbg
    go_enter Try.func23, Try.ntmps23
    go_wp2
    go_end0
    refine ⟨rfl, ?_⟩
    rw [HF.out]
    exact RecvP.refl HR.out
  · rw [hbg] at hc7
    cases hm : mapped r.accm b
    · have HF := Lib.hid (feed_takes (r := r) Hb.out hbg hm)
      have Hm := Lib.hid hm
      clear hbg hm
      obtain ⟨q, hq⟩ : ∃ q, (cutp r.piece).length = q := ⟨_, rfl⟩
      have hq3 : q ≤ 3021 := by rw [← hq, cutp_length]; omega
      have HO : Hid (w.ownsRow n₀ 5 1 v q (bytesV (cutp r.piece))) := by show World.ownsRow _ _ _ _ _ _ _; rw [← hq]; exact HR.out.2.2
      obtain ⟨A, c, rfl⟩ := own_slice HO.out
      have Hq := Lib.hid hq
      clear hq
      by_cases h30 : q < 3021
      · have HC := Lib.hid (cutp_small (p := r.piece) (by rw [Hq.out]; exact h30) b)
        have hd : decide ((q : Int) < 3021) = true := decide_eq_true (by omega)
        go_enter Try.func23, Try.ntmps23
        go_wp2_with fail
        refine (mapped_any r.accm b _ Ha.out).mono ?_
        rw [Hm.out]
        rintro e w' ⟨rfl, rfl⟩
        go_wp2_with (at_builtin; refine wpList_append_own_at _ rfl _ _ 46 rfl n₀ 5 i0 (.int .u8 0) 1 1 Try.underlying46 hi hz0 hz1 hz2 rfl (by decide) (.slice A q c) q (bytesV (cutp r.piece)) rfl (HO.out.alloc _) ⟨w.heap.size, 0, none⟩ 1 1 (bytesV [b]) rfl rfl (cells_new _ _ _) (bytesV_one _) (by unfold maxLen; omega) (by omega) (by simp; omega) ?_; intro v2 w2 hown2 hgr2 _ hor2; have Hown2 := Lib.hid hown2; clear hown2; have Hgr2 := Lib.hid hgr2; clear hgr2; have Hor2 := Lib.hid hor2; clear hor2; obtain ⟨g2, cap2, rfl⟩ := ownsRow_succ Hown2.out; have Hg2 := Lib.hid (recv_grown HR.out Hgr2.out); have hc82 : w2.cell? ⟨g, 8, none⟩ = some (.slice A q c) := (cellR Hg2.out 8).1; have hf82 := (cellR Hg2.out 8).2)
        go_end0
        refine ⟨rfl, .slice (some ⟨g2, 0, none⟩) (q + 1) cap2, ?_, ?_, ?_⟩
        · rw [HF.out]
          refine recv_turn hn0 Hg2.out rfl ?_
          show World.ownsRow _ _ _ _ _ (cutp (r.piece ++ [b])).length (bytesV (cutp (r.piece ++ [b])))
          rw [HC.out, List.length_append, Hq.out, bytesV_append]
          exact Hown2.out
        · exact (((Moves.refl _ w).alloc _).trans (T := Foot g (.slice A q c)) (Moves.of_grown Hgr2.out fun k hk _ => .inr hk) (fun _ _ h => h)).setCell ⟨g, 8, none⟩ (fun _ => .inl rfl) _
        · intro k hk
          rcases Hor2.out with h | h
          · exact .inl (h ▸ hk)
          · rw [h, World.size_alloc] at hk
            exact .inr (by cases hk; omega)
      · obtain rfl : q = 3021 := by omega
        have HC := Lib.hid (cutp_full (p := r.piece) (by rw [Hq.out]; exact h30) b)
        obtain ⟨gg, rfl⟩ : ∃ gg, A = some ⟨gg, 0, none⟩ := by
          rcases HO.out.2 with ⟨h, h0⟩ | ⟨gg, cap, cur, h, _⟩
          · cases h0
          · cases h; exact ⟨gg, rfl⟩
        have hcp := own_cap HO.out
        have hcg : ∃ u, w.cell? ⟨gg, 3020, none⟩ = some u ∧ u.oneCell' = true := by
          have h1 := HO.out.cellAt 3020 (by omega)
          have h2 : 3020 < (bytesV (cutp r.piece)).length := by rw [bytesV_length, Hq.out]; omega
          rw [List.getElem?_eq_getElem h2] at h1
          exact ⟨_, h1, bytesV_one _ _ (List.getElem_mem h2)⟩
        obtain ⟨u, hcg, _⟩ := hcg
        have hfg := HO.out.frozenAt 3020
        go_enter Try.func23, Try.ntmps23
        go_wp2_with fail
        refine (mapped_any r.accm b _ Ha.out).mono ?_
        rw [Hm.out]
        rintro e w' ⟨rfl, rfl⟩
        go_wp2
        go_end0
        have hne : g ≠ gg := fun e => HR.out.apart (by rw [e]; rfl)
        refine ⟨rfl, .slice (some ⟨gg, 0, none⟩) 3021 c, ?_, ?_, Within.refl _ _⟩
        · rw [HF.out]
          refine ⟨hn0, ?_, ?_⟩
          · rw [Below.heap_setCell _ _ _ _ hne]; exact HR.out.2.1
          · show World.ownsRow _ _ _ _ _ (cutp (r.piece ++ [b])).length (bytesV (cutp (r.piece ++ [b])))
            rw [HC.out, List.length_set, Hq.out, bytesV_set]
            exact (HO.out.stored 3020 _).1
        · exact (Moves.refl _ w).setCell ⟨gg, 3020, none⟩ (fun _ => .inr rfl) _
    · have HF := Lib.hid (feed_lets (r := r) Hb.out (.inr hm))
      have Hm := Lib.hid hm
      clear hbg hm
      go_enter Try.func23, Try.ntmps23
      go_wp2_with fail
      refine (mapped_any r.accm b _ Ha.out).mono ?_
      rw [Hm.out]
      rintro e w' ⟨rfl, rfl⟩
      go_wp2
      go_end0
      refine ⟨rfl, ?_⟩
      rw [HF.out]
      exact RecvP.refl HR.out

def EndP (n₀ g : Nat) (r : St) (v : Value) (w : World) (e : Ending) (w' : World) : Prop := e = .returned (.string (bOf (cutp r.piece))) ∧ RecvP n₀ g r.ends v w w'
set_option maxHeartbeats 1000000 in
set_option maxRecDepth 100000 in
theorem end_any (n₀ g : Nat) (r : St) (v : Value) (w : World) (hR : Recv w n₀ g r v) :
    Calls Try.prog 24 #[.pointer (some ⟨g, 0, none⟩)] w (EndP n₀ g r v w) := by
  have HR := Lib.hid hR
  have hlt := hR.lt
  have hn0 := hR.1
  have hc7 : w.cell? ⟨g, 7, none⟩ = some (.bool r.begun) := (cellR hR.2.1 7).1
  have hc8 : w.cell? ⟨g, 8, none⟩ = some v := (cellR hR.2.1 8).1
  have hf7 := (cellR hR.2.1 7).2
  have hf8 := (cellR hR.2.1 8).2
  have hcv := conv_own Try.underlying46 Try.underlying5 Try.underlying9 hR.2.2
  clear hR
  have HO := Lib.hid HR.out.2.2
  obtain ⟨q, hq⟩ : ∃ q, (cutp r.piece).length = q := ⟨_, rfl⟩
  rw [hq] at HO
  rcases HO.out.2 with ⟨rfl, rfl⟩ | ⟨gg, cap, cur, rfl, hb, hgg, h1, h2, h3, _⟩
  · clear hq
    go_enter Try.func24, Try.ntmps24
    go_wp2
    go_ret
    refine ⟨rfl, .slice none 0 0, ?_, ?_, Within.refl _ _⟩
    · exact recv_turn hn0 (HR.out.put (r' := { r with begun := true }) 7 (.bool true) rfl rfl).2.1 rfl (World.ownsRow_nil _ _ _ _)
    · exact ((Moves.refl _ _).setCell ⟨g, 7, none⟩ (fun _ => .inl rfl) _).setCell ⟨g, 8, none⟩ (fun _ => .inl rfl) _
  · clear hq
    have Hgg := Lib.hid hgg; clear hgg
    have H3 := Lib.hid h3; clear h3
    unfold maxLen at h2
    go_enter Try.func24, Try.ntmps24
    go_wp2
    go_ret
    have hne : gg ≠ g := fun e => HR.out.apart (by rw [e]; rfl)
    refine ⟨rfl, .slice (some ⟨gg, 0, none⟩) 0 cap, ?_, ?_, fun k hk => .inl hk⟩
    · refine recv_turn hn0 (HR.out.put (r' := { r with begun := true }) 7 (.bool true) rfl rfl).2.1 rfl ⟨rfl, .inr ⟨gg, cap, cur, rfl, hb, ?_, Nat.zero_le _, by unfold maxLen; omega, H3.out, by simp [St.ends, cutp, bytesV]⟩⟩
      rw [Below.heap_setCell _ _ _ _ hne]; exact Hgg.out
    · exact ((Moves.refl _ _).setCell ⟨g, 7, none⟩ (fun _ => .inl rfl) _).setCell ⟨g, 8, none⟩ (fun _ => .inl rfl) _
end Go.Proofs.Ytfcmpnfdgfdclaa.Hdl
