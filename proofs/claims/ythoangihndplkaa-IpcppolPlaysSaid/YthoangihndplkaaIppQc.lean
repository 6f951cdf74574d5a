/- Contract of the document's one: what is said of an option. -/
import Derived.Test.YthoangihndplkaaGIppU
import Derived.Test.YthoangihndplkaaIppE
import Derived.Test.YthoangihndplkaaQuietS
set_option linter.unusedSimpArgs false
set_option linter.unusedVariables false
namespace Go.Proofs.Ythoangihndplkaa.Ipp
open Go.RowKit Go.Proofs.Ythoangihndplkaa.Oct Go.Proofs.Ythoangihndplkaa.Row Go.Proofs.Ythoangihndplkaa.Mem Go.Proofs.Ythoangihndplkaa.Opt Go.Proofs.Ythoangihndplkaa.Ipc

/-! ### mathematics -/
def kO (p : Po) (o : Opt) : Nat := if good o then (if giv p o.1 = 0 then (if ¬ o.1 = 3 ∨ o = oV 3 0 then 2 else 0) else (if o = oV o.1 (giv p o.1) then 0 else 1)) else 2
def xO (p : Po) (o : Opt) : Opt := if kO p o = 1 then oV o.1 (giv p o.1) else o
theorem sa_giv {p : Po} {o : Opt} (hz : ¬ giv p o.1 = 0) : sa p o.1 (lo o) = giv p o.1 := by
  unfold sa
  split
  · rename_i h3
    have e : giv p o.1 = p.c.peer := if_pos h3
    rw [e] at hz ⊢
    exact if_neg hz
  · rfl
theorem sa_ad {p : Po} {o : Opt} (h : good o = true) (hz : giv p o.1 = 0) (h3 : o.1 = 3) : sa p o.1 (lo o) = ad o := by
  have e : p.c.peer = 0 := by rw [← hz]; exact (if_pos h3).symm
  unfold sa
  rw [if_pos h3, e, ← lo_addr h h3]
  rfl
theorem sa_none {p : Po} {o : Opt} (hz : giv p o.1 = 0) (h3 : ¬ o.1 = 3) : sa p o.1 (lo o) = 0 := by
  unfold sa
  rw [if_neg h3]
  exact hz
theorem ad_self {o : Opt} (h : good o = true) : oV o.1 (ad o) = o := Prod.ext rfl (by show bOf (numS (UInt32.ofNat (val o.2.toList)).toNat 4) = o.2; rw [u32_val (good_size h), numS_of (good_size h)])
theorem ad_oV (t : UInt8) (v : UInt32) : ad (oV t v) = v := numS_u32 v
theorem kO_bad {p : Po} {o : Opt} (h : good o = false) : kO p o = 2 ∧ xO p o = o := by
  have e : kO p o = 2 := by unfold kO; rw [h]; rfl
  refine ⟨e, ?_⟩
  unfold xO; rw [e]; rfl
theorem kO_none {p : Po} {o : Opt} (h : good o = true) (hz : giv p o.1 = 0) (h3 : ¬ o.1 = 3 ∨ o = oV 3 0) : kO p o = 2 ∧ xO p o = o := by
  have e : kO p o = 2 := by unfold kO; rw [h, if_pos rfl, if_pos hz, if_pos h3]
  refine ⟨e, ?_⟩
  unfold xO; rw [e]; rfl
theorem kO_own {p : Po} {o : Opt} (h : good o = true) (hz : giv p o.1 = 0) (h3 : o.1 = 3) (h0 : ¬ o = oV 3 0) : kO p o = 0 ∧ xO p o = o := by
  have e : kO p o = 0 := by unfold kO; rw [h, if_pos rfl, if_pos hz, if_neg (fun x => x.elim (fun y => y h3) h0)]
  refine ⟨e, ?_⟩
  unfold xO; rw [e]; rfl
theorem kO_same {p : Po} {o : Opt} (h : good o = true) (hz : ¬ giv p o.1 = 0) (h0 : o = oV o.1 (giv p o.1)) : kO p o = 0 ∧ xO p o = o := by
  have e : kO p o = 0 := by unfold kO; rw [h, if_pos rfl, if_neg hz, if_pos h0]
  refine ⟨e, ?_⟩
  unfold xO; rw [e]; rfl
theorem kO_other {p : Po} {o : Opt} (h : good o = true) (hz : ¬ giv p o.1 = 0) (h0 : ¬ o = oV o.1 (giv p o.1)) : kO p o = 1 ∧ xO p o = oV o.1 (giv p o.1) := by
  have e : kO p o = 1 := by unfold kO; rw [h, if_pos rfl, if_neg hz, if_neg h0]
  refine ⟨e, ?_⟩
  unfold xO; rw [e]; rfl
/-- It says what the program says. -/
theorem kO_no {p : Po} {o : Opt} (h : ok p o = false) : kO p o = 2 := by
  cases hg : good o
  · exact (kO_bad hg).1
  · unfold ok at h
    rw [hg, Bool.true_and] at h
    have hs := bne0 h
    by_cases hz : giv p o.1 = 0
    · refine (kO_none hg hz ?_).1
      by_cases h3 : o.1 = 3
      · right
        rw [sa_ad hg hz h3] at hs
        have := ad_self hg
        rw [hs, h3] at this
        exact this.symm
      · exact .inl h3
    · rw [sa_giv hz] at hs
      exact absurd hs hz
theorem kO_ok {p : Po} {o : Opt} (h : ok p o = true) : kO p o = (if sug p o = o then 0 else 1) ∧ (¬ sug p o = o → xO p o = sug p o) := by
  have hg := ok_good h
  unfold ok at h
  rw [hg, Bool.true_and] at h
  have hs : ¬ sa p o.1 (lo o) = 0 := bne_iff_ne.1 h
  by_cases hz : giv p o.1 = 0
  · by_cases h3 : o.1 = 3
    · have e : sug p o = o := by
        show oV o.1 (sa p o.1 (lo o)) = o
        rw [sa_ad hg hz h3]
        exact ad_self hg
      rw [if_pos e]
      refine ⟨(kO_own hg hz h3 fun e0 => hs ?_).1, fun hn => absurd e hn⟩
      rw [sa_ad hg hz h3, e0, ad_oV]
    · exact absurd (sa_none hz h3) hs
  · have e : sug p o = oV o.1 (giv p o.1) := by
      show oV o.1 (sa p o.1 (lo o)) = _
      rw [sa_giv hz]
    rw [e]
    by_cases h0 : o = oV o.1 (giv p o.1)
    · rw [if_pos h0.symm]
      exact ⟨(kO_same hg hz h0).1, fun hn => absurd h0.symm hn⟩
    · rw [if_neg (fun e => h0 e.symm)]
      exact ⟨(kO_other hg hz h0).1, fun _ => (kO_other hg hz h0).2⟩

/-! ### the walk -/
/-- The option in a box, the named result's behind it. -/
structure On (w : World) (b : Nat) (o : Opt) (W : World) : Prop where
  x : At W b o
  z : At W (b + 1) (0, ⟨#[]⟩)
  B : Below w.heap.size w W
theorem On.callee {w W W' : World} {b : Nat} {o : Opt} (h : On w b o W) (hb : Below W.heap.size W W') : On w b o W' := ⟨h.x.callee hb, h.z.callee hb, h.B.trans (hb.mono h.B.size)⟩
theorem On.drew {w W : World} {b : Nat} {o : Opt} (h : On w b o W) : On w b o W.drew := ⟨h.x, h.z, h.B.drew⟩
theorem boxOn (w : World) (o : Opt) : ∃ W, (w.alloc (.cells #[.int .u8 o.1.toNat, .string o.2] 48)).alloc (.cells #[.int .u8 0, .string ⟨#[]⟩] 48) = W ∧ Hid (On w w.heap.size o W) :=
  ⟨_, rfl, (at_new w o.1 o.2).alloc _, by have := at_new (w.alloc (.cells #[.int .u8 o.1.toNat, .string o.2] 48)) 0 ⟨#[]⟩; rw [World.size_alloc] at this; exact this, ((Below.refl w.heap.size w).alloc (Nat.le_refl _) _).alloc (by simp) _⟩
theorem results_row0 {P : Program} {fn : Func} {p t : Tmp} {ty : TypeId} (h : fn.results = #[.tmp t, .cell p ty]) (tmps : Array Value) (w : World) (g : Nat) (cs : List Value) (tb : TypeId) (d : TypeDesc)
    (hp : tmps.getD p undef = .pointer (some ⟨g, 0, none⟩)) (hg : Blk w g cs tb) (hu : P.underlying ty = some d) (hd : (match d with | .struct _ | .array _ _ => true | _ => false) = true) (hi : (P.info? ty).map (·.size) = some cs.toArray.size) :
    (results fn tmps).run P w = .ok (.tuple #[tmps.getD t undef, .agg cs.toArray]) w := by
  have hp' : tmps[p]?.getD undef = .pointer (some ⟨g, 0, none⟩) := by simpa using hp
  simp only [List.size_toArray] at hi
  simp [results, h, hp', asAddr, run_loadVar_row w g tb ty cs.toArray (0, 0) d hg hu hd (by simpa using hi)]
/-- What one answers. -/
def OneQ (p : Po) (o : Opt) (w : World) (e : Ending) (w' : World) : Prop := e = .returned (.tuple #[.int .i64 (kO p o), .agg #[.int .u8 (xO p o).1.toNat, .string (xO p o).2]]) ∧ Below w.heap.size w w'
set_option maxHeartbeats 8000000 in
set_option maxRecDepth 100000 in
theorem one_any (g : Nat) (p : Po) (o : Opt) (w : World) (h : RAt w g p) : Calls Try.prog 61 #[.pointer (some ⟨g, 0, none⟩), .agg #[.int .u8 o.1.toNat, .string o.2]] w (OneQ p o w) := by
  have HG : Hid (∀ w, Calls Try.prog 72 #[.agg #[.int .u8 o.1.toNat, .string o.2]] w fun e w' => e = .returned (.bool (good o)) ∧ Below w.heap.size w w') := fun w => rgood_any o.1 o.2 w
  obtain ⟨W, hW, H0⟩ := boxOn w o
  have HP0 : Hid (RAt W g p) := h.below H0.out.B h.lt
  have c0 := H0.out.x.c0
  have c1 := H0.out.x.c1
  have z0 : W.cell? ⟨w.heap.size + 1, 0, none⟩ = some (.int .u8 0) := H0.out.z.c0
  have z1 : W.cell? ⟨w.heap.size + 1, 1, none⟩ = some (.string ⟨#[]⟩) := H0.out.z.c1
  have f0 : W.frozen? ⟨w.heap.size + 1, 0, none⟩ = false := Blk.frozen H0.out.z 0
  have f1 : W.frozen? ⟨w.heap.size + 1, 1, none⟩ = false := Blk.frozen H0.out.z 1
  clear h
  have hw0 := u32_eq0 (giv p o.1)
  cases hg : good o
  · rw [hg] at HG
    have HE := Lib.hid (kO_bad (p := p) hg)
    clear hg hw0
    go_enter Try.func61, Try.ntmps61

    go_wp2_with fail
    clear hW c0 c1 z0 z1 f0 f1
    refine (HG.out _).mono ?_
    rintro e w1 ⟨rfl, hb1⟩
    have H1 := Lib.hid (H0.out.callee hb1)
    have HP1 := Lib.hid (HP0.out.callee hb1)
    clear hb1 HG H0 HP0
    have c0 := H1.out.x.c0
    have c1 := H1.out.x.c1
    have z0 : w1.cell? ⟨w.heap.size + 1, 0, none⟩ = some (.int .u8 0) := H1.out.z.c0
    have z1 : w1.cell? ⟨w.heap.size + 1, 1, none⟩ = some (.string ⟨#[]⟩) := H1.out.z.c1
    have f0 : w1.frozen? ⟨w.heap.size + 1, 0, none⟩ = false := Blk.frozen H1.out.z 0
    have f1 : w1.frozen? ⟨w.heap.size + 1, 1, none⟩ = false := Blk.frozen H1.out.z 1
    go_wp2_with fail
    go_region
    go_wp2
    (try simp only [Exit.inBlock, Exit.then])
    refine bodyPost_ret (results_row0 rfl _ _ (w.heap.size + 1) _ _ _ rfl (H1.out.drew.z.set (o)) Try.underlying48 rfl (by kernel_rfl)) rfl ?_
    unfold OneQ
    rw [HE.out.1, HE.out.2]
    exact ⟨rfl, (H1.out.drew.B.setCell (p := ⟨w.heap.size + 1, 0, none⟩) (Nat.le_succ _) _).setCell (p := ⟨w.heap.size + 1, 1, none⟩) (Nat.le_succ _) _⟩
  · rw [hg] at HG
    by_cases hz : giv p o.1 = 0
    · rw [show (giv p o.1 == 0) = true from by rw [hz]; rfl] at hw0
      by_cases h3 : o.1 = 3
      · have hn3 : ((o.1.toNat : Int) != 3) = false := by rw [h3]; rfl
        have HAd : Hid (∀ w, Calls Try.prog 63 #[.int .u8 3, .int .u32 0] w fun e w' => e = .returned (.agg #[.int .u8 3, .string (oV 3 0).2]) ∧ Below w.heap.size w w') := fun w => raddr_any 3 0 w
        by_cases h0 : o = oV 3 0
        · have hEq : ∀ w, (binOp .eql 48 (.agg #[.int .u8 o.1.toNat, .string o.2]) (.agg #[.int .u8 3, .string (oV 3 0).2])).run Try.prog w = .ok (.bool true) w := fun w => opt_eql (p := oV 3 0) (decide_eq_true h0) w
          have HE := Lib.hid (kO_none hg hz (.inr h0))
          clear hg hz h3 h0
          generalize oV 3 0 = x at *
          go_enter Try.func61, Try.ntmps61

          go_wp2_with fail
          clear hW c0 c1 z0 z1 f0 f1
          refine (HG.out _).mono ?_
          rintro e w1 ⟨rfl, hb1⟩
          have H1 := Lib.hid (H0.out.callee hb1)
          have HP1 := Lib.hid (HP0.out.callee hb1)
          clear hb1 HG H0 HP0
          have c0 := H1.out.x.c0
          have c1 := H1.out.x.c1
          have z0 : w1.cell? ⟨w.heap.size + 1, 0, none⟩ = some (.int .u8 0) := H1.out.z.c0
          have z1 : w1.cell? ⟨w.heap.size + 1, 1, none⟩ = some (.string ⟨#[]⟩) := H1.out.z.c1
          have f0 : w1.frozen? ⟨w.heap.size + 1, 0, none⟩ = false := Blk.frozen H1.out.z 0
          have f1 : w1.frozen? ⟨w.heap.size + 1, 1, none⟩ = false := Blk.frozen H1.out.z 1
          go_wp2_with fail
          refine (rgiven_any g p o.1 _ HP1.out).mono ?_
          rintro e w2 ⟨rfl, h2⟩
          replace h2 := h2.symm
          subst h2
          clear HP1
          go_wp2_with fail
          clear c0 c1 z0 z1 f0 f1
          have HA : Hid (∀ q : HeldW (fun w' => On w w.heap.size o w'), Calls Try.prog 63 #[.int .u8 3, .int .u32 0] q.w fun e w' => e = .returned (.agg #[.int .u8 3, .string x.2]) ∧ On w w.heap.size o w') := fun q => by
            have h := HAd.out q.w
            exact h.mono fun e w' ⟨he, hb⟩ => ⟨he, q.h.callee hb⟩
          have c0 : ∀ q : HeldW (fun w' => On w w.heap.size o w'), q.w.cell? ⟨w.heap.size, 0, none⟩ = some (.int .u8 o.1.toNat) := fun q => q.h.x.c0
          have c1 : ∀ q : HeldW (fun w' => On w w.heap.size o w'), q.w.cell? ⟨w.heap.size, 1, none⟩ = some (.string o.2) := fun q => q.h.x.c1
          have hne : Nonempty (HeldW (fun w' => On w w.heap.size o w')) := ⟨⟨w1.drew, H1.out.drew⟩⟩
          refine wp_region_quiet_shut (fun w' => On w w.heap.size o w') (by kernel_rfl) (by kernel_rfl) H1.out.drew (fun G hst hnil => ?_)
          repeat (
            refine hst.out _ _ _ (fun K hK => ?_)
            go_simp
            first
              | (refine hK _ ?_; clear hK K)
              | (apply Exists.intro
                 refine ⟨fun _ => ?_, hK _ ?_⟩
                 (first
                   | (go_at_call 63; exact held_of (HA.out _)))
                 clear hK K))
          refine hnil.out _ (fun q => ?_)
          clear hnil hst
          have HQ := Lib.hid q.h
          clear c0 c1
          clear HA hEq
          have c0 := HQ.out.x.c0
          have c1 := HQ.out.x.c1
          have z0 : q.w.cell? ⟨w.heap.size + 1, 0, none⟩ = some (.int .u8 0) := HQ.out.z.c0
          have z1 : q.w.cell? ⟨w.heap.size + 1, 1, none⟩ = some (.string ⟨#[]⟩) := HQ.out.z.c1
          have f0 : q.w.frozen? ⟨w.heap.size + 1, 0, none⟩ = false := Blk.frozen HQ.out.z 0
          have f1 : q.w.frozen? ⟨w.heap.size + 1, 1, none⟩ = false := Blk.frozen HQ.out.z 1
          go_wp2_with fail
          go_region
          go_wp2
          (try simp only [Exit.inBlock, Exit.then])
          refine bodyPost_ret (results_row0 rfl _ _ (w.heap.size + 1) _ _ _ rfl (HQ.out.drew.z.set (o)) Try.underlying48 rfl (by kernel_rfl)) rfl ?_
          unfold OneQ
          rw [HE.out.1, HE.out.2]
          exact ⟨rfl, (HQ.out.drew.B.setCell (p := ⟨w.heap.size + 1, 0, none⟩) (Nat.le_succ _) _).setCell (p := ⟨w.heap.size + 1, 1, none⟩) (Nat.le_succ _) _⟩
        · have hEq : ∀ w, (binOp .eql 48 (.agg #[.int .u8 o.1.toNat, .string o.2]) (.agg #[.int .u8 3, .string (oV 3 0).2])).run Try.prog w = .ok (.bool false) w := fun w => opt_eql (p := oV 3 0) (decide_eq_false h0) w
          have HE := Lib.hid (kO_own hg hz h3 h0)
          clear hg hz h3 h0
          generalize oV 3 0 = x at *
          go_enter Try.func61, Try.ntmps61

          go_wp2_with fail
          clear hW c0 c1 z0 z1 f0 f1
          refine (HG.out _).mono ?_
          rintro e w1 ⟨rfl, hb1⟩
          have H1 := Lib.hid (H0.out.callee hb1)
          have HP1 := Lib.hid (HP0.out.callee hb1)
          clear hb1 HG H0 HP0
          have c0 := H1.out.x.c0
          have c1 := H1.out.x.c1
          have z0 : w1.cell? ⟨w.heap.size + 1, 0, none⟩ = some (.int .u8 0) := H1.out.z.c0
          have z1 : w1.cell? ⟨w.heap.size + 1, 1, none⟩ = some (.string ⟨#[]⟩) := H1.out.z.c1
          have f0 : w1.frozen? ⟨w.heap.size + 1, 0, none⟩ = false := Blk.frozen H1.out.z 0
          have f1 : w1.frozen? ⟨w.heap.size + 1, 1, none⟩ = false := Blk.frozen H1.out.z 1
          go_wp2_with fail
          refine (rgiven_any g p o.1 _ HP1.out).mono ?_
          rintro e w2 ⟨rfl, h2⟩
          replace h2 := h2.symm
          subst h2
          clear HP1
          go_wp2_with fail
          clear c0 c1 z0 z1 f0 f1
          have HA : Hid (∀ q : HeldW (fun w' => On w w.heap.size o w'), Calls Try.prog 63 #[.int .u8 3, .int .u32 0] q.w fun e w' => e = .returned (.agg #[.int .u8 3, .string x.2]) ∧ On w w.heap.size o w') := fun q => by
            have h := HAd.out q.w
            exact h.mono fun e w' ⟨he, hb⟩ => ⟨he, q.h.callee hb⟩
          have c0 : ∀ q : HeldW (fun w' => On w w.heap.size o w'), q.w.cell? ⟨w.heap.size, 0, none⟩ = some (.int .u8 o.1.toNat) := fun q => q.h.x.c0
          have c1 : ∀ q : HeldW (fun w' => On w w.heap.size o w'), q.w.cell? ⟨w.heap.size, 1, none⟩ = some (.string o.2) := fun q => q.h.x.c1
          have hne : Nonempty (HeldW (fun w' => On w w.heap.size o w')) := ⟨⟨w1.drew, H1.out.drew⟩⟩
          refine wp_region_quiet_shut (fun w' => On w w.heap.size o w') (by kernel_rfl) (by kernel_rfl) H1.out.drew (fun G hst hnil => ?_)
          repeat (
            refine hst.out _ _ _ (fun K hK => ?_)
            go_simp
            first
              | (refine hK _ ?_; clear hK K)
              | (apply Exists.intro
                 refine ⟨fun _ => ?_, hK _ ?_⟩
                 (first
                   | (go_at_call 63; exact held_of (HA.out _)))
                 clear hK K))
          refine hnil.out _ (fun q => ?_)
          clear hnil hst
          have HQ := Lib.hid q.h
          clear c0 c1
          clear HA hEq
          have c0 := HQ.out.x.c0
          have c1 := HQ.out.x.c1
          have z0 : q.w.cell? ⟨w.heap.size + 1, 0, none⟩ = some (.int .u8 0) := HQ.out.z.c0
          have z1 : q.w.cell? ⟨w.heap.size + 1, 1, none⟩ = some (.string ⟨#[]⟩) := HQ.out.z.c1
          have f0 : q.w.frozen? ⟨w.heap.size + 1, 0, none⟩ = false := Blk.frozen HQ.out.z 0
          have f1 : q.w.frozen? ⟨w.heap.size + 1, 1, none⟩ = false := Blk.frozen HQ.out.z 1
          go_wp2_with fail
          go_region
          go_wp2
          (try simp only [Exit.inBlock, Exit.then])
          refine bodyPost_ret (results_row0 rfl _ _ (w.heap.size + 1) _ _ _ rfl (HQ.out.drew.z.set (o)) Try.underlying48 rfl (by kernel_rfl)) rfl ?_
          unfold OneQ
          rw [HE.out.1, HE.out.2]
          exact ⟨rfl, (HQ.out.drew.B.setCell (p := ⟨w.heap.size + 1, 0, none⟩) (Nat.le_succ _) _).setCell (p := ⟨w.heap.size + 1, 1, none⟩) (Nat.le_succ _) _⟩
      · have hn3 : ((o.1.toNat : Int) != 3) = true := by rw [bne_iff_ne]; have := u8_isnt (n := 3) (by decide) h3; omega
        have HE := Lib.hid (kO_none hg hz (.inl h3))
        clear hg hz h3
        go_enter Try.func61, Try.ntmps61

        go_wp2_with fail
        clear hW c0 c1 z0 z1 f0 f1
        refine (HG.out _).mono ?_
        rintro e w1 ⟨rfl, hb1⟩
        have H1 := Lib.hid (H0.out.callee hb1)
        have HP1 := Lib.hid (HP0.out.callee hb1)
        clear hb1 HG H0 HP0
        have c0 := H1.out.x.c0
        have c1 := H1.out.x.c1
        have z0 : w1.cell? ⟨w.heap.size + 1, 0, none⟩ = some (.int .u8 0) := H1.out.z.c0
        have z1 : w1.cell? ⟨w.heap.size + 1, 1, none⟩ = some (.string ⟨#[]⟩) := H1.out.z.c1
        have f0 : w1.frozen? ⟨w.heap.size + 1, 0, none⟩ = false := Blk.frozen H1.out.z 0
        have f1 : w1.frozen? ⟨w.heap.size + 1, 1, none⟩ = false := Blk.frozen H1.out.z 1
        go_wp2_with fail
        refine (rgiven_any g p o.1 _ HP1.out).mono ?_
        rintro e w2 ⟨rfl, h2⟩
        replace h2 := h2.symm
        subst h2
        clear HP1
        go_wp2_with fail
        clear c0 c1 z0 z1 f0 f1
        have c0 : ∀ q : HeldW (fun w' => On w w.heap.size o w'), q.w.cell? ⟨w.heap.size, 0, none⟩ = some (.int .u8 o.1.toNat) := fun q => q.h.x.c0
        have c1 : ∀ q : HeldW (fun w' => On w w.heap.size o w'), q.w.cell? ⟨w.heap.size, 1, none⟩ = some (.string o.2) := fun q => q.h.x.c1
        have hne : Nonempty (HeldW (fun w' => On w w.heap.size o w')) := ⟨⟨w1.drew, H1.out.drew⟩⟩
        refine wp_region_quiet_shut (fun w' => On w w.heap.size o w') (by kernel_rfl) (by kernel_rfl) H1.out.drew (fun G hst hnil => ?_)
        repeat (
          refine hst.out _ _ _ (fun K hK => ?_)
          go_simp
          first
            | (refine hK _ ?_; clear hK K)
            | (apply Exists.intro
               refine ⟨fun _ => ?_, hK _ ?_⟩
               (first
                 | (go_at_call 63; exact held_of (HA.out _)))
               clear hK K))
        refine hnil.out _ (fun q => ?_)
        clear hnil hst
        have HQ := Lib.hid q.h
        clear c0 c1
        have c0 := HQ.out.x.c0
        have c1 := HQ.out.x.c1
        have z0 : q.w.cell? ⟨w.heap.size + 1, 0, none⟩ = some (.int .u8 0) := HQ.out.z.c0
        have z1 : q.w.cell? ⟨w.heap.size + 1, 1, none⟩ = some (.string ⟨#[]⟩) := HQ.out.z.c1
        have f0 : q.w.frozen? ⟨w.heap.size + 1, 0, none⟩ = false := Blk.frozen HQ.out.z 0
        have f1 : q.w.frozen? ⟨w.heap.size + 1, 1, none⟩ = false := Blk.frozen HQ.out.z 1
        go_wp2_with fail
        go_region
        go_wp2
        (try simp only [Exit.inBlock, Exit.then])
        refine bodyPost_ret (results_row0 rfl _ _ (w.heap.size + 1) _ _ _ rfl (HQ.out.drew.z.set (o)) Try.underlying48 rfl (by kernel_rfl)) rfl ?_
        unfold OneQ
        rw [HE.out.1, HE.out.2]
        exact ⟨rfl, (HQ.out.drew.B.setCell (p := ⟨w.heap.size + 1, 0, none⟩) (Nat.le_succ _) _).setCell (p := ⟨w.heap.size + 1, 1, none⟩) (Nat.le_succ _) _⟩
    · rw [show (giv p o.1 == 0) = false from beq_eq_false_iff_ne.2 hz] at hw0
      have HAd : Hid (∀ w, Calls Try.prog 63 #[.int .u8 o.1.toNat, .int .u32 (giv p o.1).toNat] w fun e w' => e = .returned (.agg #[.int .u8 o.1.toNat, .string (oV o.1 (giv p o.1)).2]) ∧ Below w.heap.size w w') := fun w => raddr_any o.1 (giv p o.1) w
      by_cases h0 : o = oV o.1 (giv p o.1)
      · have hEq : ∀ w, (binOp .neq 48 (.agg #[.int .u8 o.1.toNat, .string o.2]) (.agg #[.int .u8 o.1.toNat, .string (oV o.1 (giv p o.1)).2])).run Try.prog w = .ok (.bool (!true)) w := fun w => opt_neq (p := oV o.1 (giv p o.1)) (decide_eq_true h0) w
        have HE := Lib.hid (kO_same hg hz h0)
        clear hg hz h0
        go_enter Try.func61, Try.ntmps61

        go_wp2_with fail
        clear hW c0 c1 z0 z1 f0 f1
        refine (HG.out _).mono ?_
        rintro e w1 ⟨rfl, hb1⟩
        have H1 := Lib.hid (H0.out.callee hb1)
        have HP1 := Lib.hid (HP0.out.callee hb1)
        clear hb1 HG H0 HP0
        have c0 := H1.out.x.c0
        have c1 := H1.out.x.c1
        have z0 : w1.cell? ⟨w.heap.size + 1, 0, none⟩ = some (.int .u8 0) := H1.out.z.c0
        have z1 : w1.cell? ⟨w.heap.size + 1, 1, none⟩ = some (.string ⟨#[]⟩) := H1.out.z.c1
        have f0 : w1.frozen? ⟨w.heap.size + 1, 0, none⟩ = false := Blk.frozen H1.out.z 0
        have f1 : w1.frozen? ⟨w.heap.size + 1, 1, none⟩ = false := Blk.frozen H1.out.z 1
        go_wp2_with fail
        refine (rgiven_any g p o.1 _ HP1.out).mono ?_
        rintro e w2 ⟨rfl, h2⟩
        replace h2 := h2.symm
        subst h2
        clear HP1
        generalize hx : (oV o.1 (giv p o.1)) = x at *
        clear hx
        go_wp2_with fail
        clear c0 c1 z0 z1 f0 f1
        have HA : Hid (∀ q : HeldW (fun w' => On w w.heap.size o w'), Calls Try.prog 63 #[.int .u8 o.1.toNat, .int .u32 (giv p o.1).toNat] q.w fun e w' => e = .returned (.agg #[.int .u8 o.1.toNat, .string x.2]) ∧ On w w.heap.size o w') := fun q => by
          have h := HAd.out q.w
          exact h.mono fun e w' ⟨he, hb⟩ => ⟨he, q.h.callee hb⟩
        have c0 : ∀ q : HeldW (fun w' => On w w.heap.size o w'), q.w.cell? ⟨w.heap.size, 0, none⟩ = some (.int .u8 o.1.toNat) := fun q => q.h.x.c0
        have c1 : ∀ q : HeldW (fun w' => On w w.heap.size o w'), q.w.cell? ⟨w.heap.size, 1, none⟩ = some (.string o.2) := fun q => q.h.x.c1
        have hne : Nonempty (HeldW (fun w' => On w w.heap.size o w')) := ⟨⟨w1.drew, H1.out.drew⟩⟩
        refine wp_region_quiet_shut (fun w' => On w w.heap.size o w') (by kernel_rfl) (by kernel_rfl) H1.out.drew (fun G hst hnil => ?_)
        repeat (
          refine hst.out _ _ _ (fun K hK => ?_)
          go_simp
          first
            | (refine hK _ ?_; clear hK K)
            | (apply Exists.intro
               refine ⟨fun _ => ?_, hK _ ?_⟩
               (first
                 | (go_at_call 63; exact held_of (HA.out _)))
               clear hK K))
        refine hnil.out _ (fun q => ?_)
        clear hnil hst
        have HQ := Lib.hid q.h
        clear c0 c1
        clear HA hEq
        have c0 := HQ.out.x.c0
        have c1 := HQ.out.x.c1
        have z0 : q.w.cell? ⟨w.heap.size + 1, 0, none⟩ = some (.int .u8 0) := HQ.out.z.c0
        have z1 : q.w.cell? ⟨w.heap.size + 1, 1, none⟩ = some (.string ⟨#[]⟩) := HQ.out.z.c1
        have f0 : q.w.frozen? ⟨w.heap.size + 1, 0, none⟩ = false := Blk.frozen HQ.out.z 0
        have f1 : q.w.frozen? ⟨w.heap.size + 1, 1, none⟩ = false := Blk.frozen HQ.out.z 1
        go_wp2_with fail
        go_region
        go_wp2
        (try simp only [Exit.inBlock, Exit.then])
        refine bodyPost_ret (results_row0 rfl _ _ (w.heap.size + 1) _ _ _ rfl (HQ.out.drew.z.set (o)) Try.underlying48 rfl (by kernel_rfl)) rfl ?_
        unfold OneQ
        rw [HE.out.1, HE.out.2]
        exact ⟨rfl, (HQ.out.drew.B.setCell (p := ⟨w.heap.size + 1, 0, none⟩) (Nat.le_succ _) _).setCell (p := ⟨w.heap.size + 1, 1, none⟩) (Nat.le_succ _) _⟩
      · have hEq : ∀ w, (binOp .neq 48 (.agg #[.int .u8 o.1.toNat, .string o.2]) (.agg #[.int .u8 o.1.toNat, .string (oV o.1 (giv p o.1)).2])).run Try.prog w = .ok (.bool (!false)) w := fun w => opt_neq (p := oV o.1 (giv p o.1)) (decide_eq_false h0) w
        have HE := Lib.hid (kO_other hg hz h0)
        clear hg hz h0
        have HX : Hid ((oV o.1 (giv p o.1)).1 = o.1) := rfl
        go_enter Try.func61, Try.ntmps61

        go_wp2_with fail
        clear hW c0 c1 z0 z1 f0 f1
        refine (HG.out _).mono ?_
        rintro e w1 ⟨rfl, hb1⟩
        have H1 := Lib.hid (H0.out.callee hb1)
        have HP1 := Lib.hid (HP0.out.callee hb1)
        clear hb1 HG H0 HP0
        have c0 := H1.out.x.c0
        have c1 := H1.out.x.c1
        have z0 : w1.cell? ⟨w.heap.size + 1, 0, none⟩ = some (.int .u8 0) := H1.out.z.c0
        have z1 : w1.cell? ⟨w.heap.size + 1, 1, none⟩ = some (.string ⟨#[]⟩) := H1.out.z.c1
        have f0 : w1.frozen? ⟨w.heap.size + 1, 0, none⟩ = false := Blk.frozen H1.out.z 0
        have f1 : w1.frozen? ⟨w.heap.size + 1, 1, none⟩ = false := Blk.frozen H1.out.z 1
        go_wp2_with fail
        refine (rgiven_any g p o.1 _ HP1.out).mono ?_
        rintro e w2 ⟨rfl, h2⟩
        replace h2 := h2.symm
        subst h2
        clear HP1
        generalize hx : (oV o.1 (giv p o.1)) = x at *
        clear hx
        go_wp2_with fail
        clear c0 c1 z0 z1 f0 f1
        have HA : Hid (∀ q : HeldW (fun w' => On w w.heap.size o w'), Calls Try.prog 63 #[.int .u8 o.1.toNat, .int .u32 (giv p o.1).toNat] q.w fun e w' => e = .returned (.agg #[.int .u8 o.1.toNat, .string x.2]) ∧ On w w.heap.size o w') := fun q => by
          have h := HAd.out q.w
          exact h.mono fun e w' ⟨he, hb⟩ => ⟨he, q.h.callee hb⟩
        have c0 : ∀ q : HeldW (fun w' => On w w.heap.size o w'), q.w.cell? ⟨w.heap.size, 0, none⟩ = some (.int .u8 o.1.toNat) := fun q => q.h.x.c0
        have c1 : ∀ q : HeldW (fun w' => On w w.heap.size o w'), q.w.cell? ⟨w.heap.size, 1, none⟩ = some (.string o.2) := fun q => q.h.x.c1
        have hne : Nonempty (HeldW (fun w' => On w w.heap.size o w')) := ⟨⟨w1.drew, H1.out.drew⟩⟩
        refine wp_region_quiet_shut (fun w' => On w w.heap.size o w') (by kernel_rfl) (by kernel_rfl) H1.out.drew (fun G hst hnil => ?_)
        repeat (
          refine hst.out _ _ _ (fun K hK => ?_)
          go_simp
          first
            | (refine hK _ ?_; clear hK K)
            | (apply Exists.intro
               refine ⟨fun _ => ?_, hK _ ?_⟩
               (first
                 | (go_at_call 63; exact held_of (HA.out _)))
               clear hK K))
        refine hnil.out _ (fun q => ?_)
        clear hnil hst
        have HQ := Lib.hid q.h
        clear c0 c1
        clear HA hEq
        have c0 := HQ.out.x.c0
        have c1 := HQ.out.x.c1
        have z0 : q.w.cell? ⟨w.heap.size + 1, 0, none⟩ = some (.int .u8 0) := HQ.out.z.c0
        have z1 : q.w.cell? ⟨w.heap.size + 1, 1, none⟩ = some (.string ⟨#[]⟩) := HQ.out.z.c1
        have f0 : q.w.frozen? ⟨w.heap.size + 1, 0, none⟩ = false := Blk.frozen HQ.out.z 0
        have f1 : q.w.frozen? ⟨w.heap.size + 1, 1, none⟩ = false := Blk.frozen HQ.out.z 1
        go_wp2_with fail
        refine (HAd.out _).mono ?_
        rintro e w3 ⟨rfl, hb3⟩
        have H3 := Lib.hid (HQ.out.callee hb3)
        clear hb3 HQ c0 c1 z0 z1 f0 f1 HAd
        have c0 := H3.out.x.c0
        have c1 := H3.out.x.c1
        have z0 : w3.cell? ⟨w.heap.size + 1, 0, none⟩ = some (.int .u8 0) := H3.out.z.c0
        have z1 : w3.cell? ⟨w.heap.size + 1, 1, none⟩ = some (.string ⟨#[]⟩) := H3.out.z.c1
        have f0 : w3.frozen? ⟨w.heap.size + 1, 0, none⟩ = false := Blk.frozen H3.out.z 0
        have f1 : w3.frozen? ⟨w.heap.size + 1, 1, none⟩ = false := Blk.frozen H3.out.z 1
        go_wp2
        (try simp only [Exit.inBlock, Exit.then])
        refine bodyPost_ret (results_row0 rfl _ _ (w.heap.size + 1) _ _ _ rfl (H3.out.z.set (o.1, x.2)) Try.underlying48 rfl (by kernel_rfl)) rfl ?_
        unfold OneQ
        rw [HE.out.1, HE.out.2, HX.out]
        exact ⟨rfl, (H3.out.B.setCell (p := ⟨w.heap.size + 1, 0, none⟩) (Nat.le_succ _) _).setCell (p := ⟨w.heap.size + 1, 1, none⟩) (Nat.le_succ _) _⟩
end Go.Proofs.Ythoangihndplkaa.Ipp
