/- The laws' example ('alive'). -/
import Derived.Test.YtimndcfhilcgfaaEchI
namespace Go.Proofs.Ytimndcfhilcgfaa.Ech
open Go.RowKit Go.Proofs.Ytimndcfhilcgfaa.Oct Go.Proofs.Ytimndcfhilcgfaa.Row Go.Proofs.Ytimndcfhilcgfaa.Mem

theorem inv_nw {e m mg : Nat} {t : Int} (h : may e m t = true) (hg : mg < 4294967296) : Inv (nw e m mg t) := by
  simp only [may, Bool.and_eq_true, decide_eq_true_eq] at h
  obtain ⟨⟨⟨⟨⟨h1, h2⟩, h3⟩, h4⟩, h5⟩, h6⟩ := h
  exact ⟨by show e ≤ 100000; omega, by show 1 ≤ m; omega, by show m ≤ 20; omega, hg, h5, Int.le_refl _, h6, Nat.zero_le _, fun h => absurd h (Nat.lt_irrefl 0)⟩
theorem new_al (e m mg : Nat) (t : Int) (w wr : World) (hb : Below w.heap.size w wr) (h : may e m t = true) : Calls Try.prog 14 #[.agg #[.int .i64 e, .int .i64 m], .int .u32 mg, .int .i64 t] wr fun o w' => ∃ g, o = .returned (.tuple #[.pointer (some ⟨g, 0, none⟩), .int .i64 0]) ∧ wr.heap.size ≤ g ∧ Al w w' g (nw e m mg t) ∧ Below wr.heap.size wr w' :=
  (new_ok e m mg t wr h).mono fun _ _ ⟨g, ho, hg, ha, hb2⟩ => ⟨g, ho, hg, ⟨ha, hb.trans (hb2.mono hb.size), Nat.le_trans hb.size hg⟩, hb2⟩
theorem missed_at {w wr : World} {g m : Nat} {x : Ec} (h : Al w wr g x) (e : x.mi = m) : Calls Try.prog 12 #[.pointer (some ⟨g, 0, none⟩)] wr fun o w' => o = .returned (.int .i64 m) ∧ wr = w' := by
  have := missed_any g x wr h.1
  rw [e] at this
  exact this
theorem dead_at {w wr : World} {g : Nat} {x : Ec} {b : Bool} (h : Al w wr g x) (e : x.de = b) : Calls Try.prog 11 #[.pointer (some ⟨g, 0, none⟩)] wr fun o w' => o = .returned (.bool b) ∧ wr = w' := by
  have := dead_any g x wr h.1
  rw [e] at this
  exact this
def AlvQ (w : World) (e : Ending) (w' : World) : Prop := e = .returned (.bool true) ∧ Below w.heap.size w w'
set_option maxHeartbeats 4000000 in
set_option maxRecDepth 100000 in
theorem alive_any (w : World) : Calls Try.prog 7 #[] w fun e w' => e = .returned (.bool true) ∧ Below w.heap.size w w' := by
  go_enter Try.func7, Try.ntmps7
  go_wp2_with fail
  refine (new_al 10 2 7 0 w _ (Below.refl _ w) (by kernel_rfl)).mono ?_
  rintro o w1 ⟨g, rfl, hg, h, _⟩
  have H1 := Lib.hid h
  clear h hg
  go_wp2_with fail
  refine (new_no 0 0 7 0 _ (by kernel_rfl)).mono ?_
  rintro o w2 ⟨rfl, hb⟩
  have H2 := Lib.hid (H1.out.callee hb)
  clear hb H1
  go_wp2_with fail
  refine (tick_at (E := 0) (y := ⟨10, 2, 7, 9, 0, 0, 0, false⟩) (l := []) H2.out (inv_nw (by kernel_rfl) (by decide)) ⟨by kernel_rfl, by kernel_rfl, by kernel_rfl⟩).mono ?_
  rintro o w3 ⟨A3, k3, rfl, _, _, h, _⟩
  have H3 := Lib.hid h
  clear h H2
  go_wp2_with fail
  refine (tick_at (E := 0) (y := ⟨10, 2, 7, 10, 10, 1, 1, false⟩) (l := [⟨9, 1, ⟨#[0, 0, 0, 7]⟩⟩]) H3.out ⟨by decide, by decide, by decide, by decide, by decide, by decide, by decide, by decide, by decide⟩ ⟨by kernel_rfl, by kernel_rfl, by kernel_rfl⟩).mono ?_
  rintro o w4 ⟨A4, k4, rfl, _, hr, h, _⟩
  have H4 := Lib.hid h
  have HR4 := Lib.hid hr
  have HG4 : Hid (g < w3.heap.size) := H3.out.1.lt
  clear h hr H3
  go_wp2_with fail
  refine (tick_at (E := 0) (y := ⟨10, 2, 7, 20, 20, 2, 2, false⟩) (l := [⟨9, 2, ⟨#[0, 0, 0, 7]⟩⟩]) H4.out ⟨by decide, by decide, by decide, by decide, by decide, by decide, by decide, by decide, by decide⟩ ⟨by kernel_rfl, by kernel_rfl, by kernel_rfl⟩).mono ?_
  rintro o w5 ⟨A5, k5, rfl, _, hr, h, hm⟩
  have H5 := Lib.hid h
  have HR5 := Lib.hid hr
  have HG5 : Hid (g < w4.heap.size) := H4.out.1.lt
  replace HR4 := Lib.hid (HR4.out.moves HG4.out hm)
  clear h hr hm H4
  go_wp2_with fail
  refine (packet_at (p := ⟨10, 2, ⟨#[0, 0, 0, 7]⟩⟩) (E := 170) (y := ⟨10, 2, 7, 20, 20, 2, 2, false⟩) (l := []) H5.out (by decide) (by decide) ⟨by kernel_rfl, by kernel_rfl, by kernel_rfl⟩).mono ?_
  rintro o w6 ⟨A6, k6, rfl, _, _, h, hm⟩
  have H6 := Lib.hid h
  replace HR4 := Lib.hid (HR4.out.moves HG4.out hm)
  replace HR5 := Lib.hid (HR5.out.moves HG5.out hm)
  clear h hm H5
  go_wp2_with fail
  refine (missed_at (m := 2) H6.out rfl).mono ?_
  rintro o _ ⟨rfl, rfl⟩
  go_wp2_with fail
  refine (packet_at (p := ⟨10, 2, ⟨#[0, 0, 0, 9]⟩⟩) (E := 0) (y := ⟨10, 2, 7, 20, 20, 2, 0, false⟩) (l := []) H6.out (by decide) (by decide) ⟨by kernel_rfl, by kernel_rfl, by kernel_rfl⟩).mono ?_
  rintro o w7 ⟨A7, k7, rfl, _, _, h, hm⟩
  have H7 := Lib.hid h
  replace HR4 := Lib.hid (HR4.out.moves HG4.out hm)
  replace HR5 := Lib.hid (HR5.out.moves HG5.out hm)
  clear h hm H6
  go_wp2_with fail
  refine (packet_at (p := ⟨5, 0, ⟨#[]⟩⟩) (E := 8) (y := ⟨10, 2, 7, 20, 20, 2, 0, false⟩) (l := []) H7.out (by decide) (by decide) ⟨by kernel_rfl, by kernel_rfl, by kernel_rfl⟩).mono ?_
  rintro o w8 ⟨A8, k8, rfl, _, _, h, hm⟩
  have H8 := Lib.hid h
  have HR4' := Lib.hid (HR4.out.moves HG4.out hm)
  have HR5' := Lib.hid (HR5.out.moves HG5.out hm)
  clear h hm H7 HR4 HR5
  obtain ⟨X, hX, HX⟩ : ∃ X, w8.alloc (.cells #[.int .u8 9, .int .u8 1, .string ⟨#[0, 0, 0, 7]⟩] 35) = X ∧ Hid (Pks X A4 [⟨9, 1, ⟨#[0, 0, 0, 7]⟩⟩] ∧ Pks X (some ⟨w8.heap.size, 0, none⟩) [⟨9, 1, ⟨#[0, 0, 0, 7]⟩⟩] ∧ Pks X A5 [⟨9, 2, ⟨#[0, 0, 0, 7]⟩⟩] ∧ Al w X g ⟨10, 2, 7, 20, 20, 2, 0, false⟩) :=
    ⟨_, rfl, HR4'.out.pks.below ((Below.refl _ w8).alloc (Nat.le_refl _) _), pks_one w8 ⟨9, 1, ⟨#[0, 0, 0, 7]⟩⟩ 35, HR5'.out.pks.below ((Below.refl _ w8).alloc (Nat.le_refl _) _), H8.out.callee ((Below.refl _ w8).alloc (Nat.le_refl _) _)⟩
  clear HR4' HR5' H8
  obtain ⟨ad, p, hA5, hp, d0, d1, d2⟩ := HX.out.2.2.1.at_ (k := 0) (by decide)
  cases hp
  rw [Nat.zero_mul, show ad.add 0 = ad from by unfold Addr.add; simp] at d0 d1 d2
  subst hA5
  go_wp2_with fail
  refine (same_yes [⟨9, 1, ⟨#[0, 0, 0, 7]⟩⟩] 1 _ _ _ _ _ rfl (by decide) HX.out.1 HX.out.2.1).mono ?_
  rintro o w9 ⟨rfl, q, rfl⟩
  have HM : Hid (Calls Try.prog 12 #[.pointer (some ⟨g, 0, none⟩)] (X.drewN q) fun o w' => o = .returned (.int .i64 (0 : Nat)) ∧ X.drewN q = w') := missed_any g ⟨10, 2, 7, 20, 20, 2, 0, false⟩ _ HX.out.2.2.2.1
  have HD : Hid (Calls Try.prog 11 #[.pointer (some ⟨g, 0, none⟩)] (X.drewN q) fun o w' => o = .returned (.bool false) ∧ X.drewN q = w') := dead_any g ⟨10, 2, 7, 20, 20, 2, 0, false⟩ _ HX.out.2.2.2.1
  clear hX
  go_wp2_with fail
  refine HM.out.mono ?_
  rintro o _ ⟨rfl, rfl⟩
  go_wp2_with fail
  refine HD.out.mono ?_
  rintro o _ ⟨rfl, rfl⟩
  go_wp2
  go_ret
  exact ⟨rfl, HX.out.2.2.2.2.1.drewN' q⟩
end Go.Proofs.Ytimndcfhilcgfaa.Ech
