/- Put together: IpcPure, IppPure, IpcA, IppMem, IppA, IppN. -/
import Derived.Test.YtikcgcgbcolndaaGreatGOpts
import Derived.Test.YtikcgcgbcolndaaGreatOptAt
import Derived.Test.YtikcgcgbcolndaaGreatGPure
import Derived.Deep.RegionHeld3
import Derived.RegionTactic
import Derived.BigQuiet
import Derived.Laws.EntriesVeiled
import Derived.Deep.MidRow
import Derived.Laws.Rows
import Derived.Laws.Tables
import Derived.Deep.QuietTactic
import Derived.Deep.WholeRow

/- What IPCP's options say: plain mathematics of options and of the struct they fill; of no program. -/
namespace Go.Proofs.YtikcgcgbcolndaaGreat.Ipc
open Go.Proofs.YtikcgcgbcolndaaGreat.Oct Go.Proofs.YtikcgcgbcolndaaGreat.Opt

/-- The six fields. -/
structure Ipc where
  ha : Bool
  addr : UInt32
  h1 : Bool
  dns1 : UInt32
  h2 : Bool
  dns2 : UInt32
deriving DecidableEq
def lz : Ipc := ⟨false, 0, false, 0, false, 0⟩
/-- The fields' cells. -/
def lv (x : Ipc) : List Value := [.bool x.ha, .int .u32 x.addr.toNat, .bool x.h1, .int .u32 x.dns1.toNat, .bool x.h2, .int .u32 x.dns2.toNat]

def known (t : UInt8) : Bool := t == 3 || t == 129 || t == 131
def good (o : Opt) : Bool := known o.1 && decide (o.2.size = 4)
def has (t : UInt8) (x : Ipc) : Bool := if t = 3 then x.ha else if t = 129 then x.h1 else x.h2
def adr (t : UInt8) (x : Ipc) : UInt32 := if t = 3 then x.addr else if t = 129 then x.dns1 else x.dns2
def dat (t : UInt8) (x : Ipc) : ByteArray := bOf (numS (adr t x).toNat 4)
def set (t : UInt8) (x : Ipc) (v : UInt32) : Ipc := if t = 3 then { x with ha := true, addr := v } else if t = 129 then { x with h1 := true, dns1 := v } else { x with h2 := true, dns2 := v }
/-- What a valid one says. -/
def say (x : Ipc) (o : Opt) : Ipc := set o.1 x (UInt32.ofNat (val o.2.toList))
/-- Whether it may be put. -/
def may (x : Ipc) : Bool := (x.ha || x.addr == 0) && (x.h1 || x.dns1 == 0) && (x.h2 || x.dns2 == 0)
def six : List UInt8 := [3, 129, 131]
def put (x : Ipc) : List Opt := six.filterMap fun t => if has t x then some (t, dat t x) else none
/-- One option more. -/
def step (a : Option (Ipc × List Opt)) (o : Opt) : Option (Ipc × List Opt) :=
  match a with
  | none => none
  | some (x, odd) => if good o then (if has o.1 x then none else some (say x o, odd)) else some (x, odd ++ [o])
def st (l : List Opt) : Option (Ipc × List Opt) := l.foldl step (some (lz, []))
def gL (l : List Opt) : Ipc := match st l with | some (x, _) => x | none => lz
def gO (l : List Opt) : List Opt := match st l with | some (_, o) => o | none => []
def gE (l : List Opt) : Nat := match st l with | some _ => 0 | none => 9
theorem st_nil : st [] = some (lz, []) := rfl
theorem st_snoc (l : List Opt) (o : Opt) : st (l ++ [o]) = step (st l) o := by unfold st; rw [List.foldl_append]; rfl
theorem foldl_none : ∀ l : List Opt, l.foldl step none = none
  | [] => rfl
  | _ :: l => foldl_none l
theorem st_cut {l : List Opt} {k : Nat} (h : st (l.take k) = none) : st l = none := by
  unfold st at h ⊢
  conv => lhs; rw [← List.take_append_drop k l]
  rw [List.foldl_append, h, foldl_none]

/-! ### known, good -/
theorem known_iff {t : UInt8} : known t = true ↔ t ∈ six := by unfold known six; simp [or_assoc]
theorem known_cases {t : UInt8} (h : known t = true) : t = 3 ∨ t = 129 ∨ t = 131 := by unfold known at h; simp [or_assoc] at h; exact h
theorem good_known {o : Opt} (h : good o = true) : known o.1 = true := by
  unfold good at h
  exact (Bool.and_eq_true_iff.1 h).1
theorem good_size {o : Opt} (h : good o = true) : o.2.size = 4 := by
  unfold good at h
  exact of_decide_eq_true (Bool.and_eq_true_iff.1 h).2
theorem good_of {o : Opt} (h : known o.1 = true) (h2 : o.2.size = 4) : good o = true := by
  unfold good
  rw [h, decide_eq_true h2]
  rfl
theorem bOf_inj {a b : List UInt8} (h : bOf a = bOf b) : a = b := by rw [← toList_bOf a, h, toList_bOf]
theorem u32_val {s : ByteArray} (h : s.size = 4) : (UInt32.ofNat (val s.toList)).toNat = val s.toList := by
  have := val_lt s.toList
  rw [← size_toList, h] at this
  rw [UInt32.toNat_ofNat']; omega
theorem numS_of {s : ByteArray} {n : Nat} (h : s.size = n) : bOf (numS (val s.toList) n) = s := by
  rw [← h, size_toList, numS_val, bOf_toList]
theorem numS_u32 (v : UInt32) : UInt32.ofNat (val (bOf (numS v.toNat 4)).toList) = v := by
  rw [toList_bOf, val_numS]
  have := v.toNat_lt
  rw [Nat.mod_eq_of_lt (by omega), UInt32.ofNat_toNat]

/-! ### what is said, and put -/
theorem dat_say {x : Ipc} {t : UInt8} {d : ByteArray} (h : good (t, d) = true) : dat t (say x (t, d)) = d ∧ has t (say x (t, d)) = true := by
  have hs : d.size = 4 := good_size h
  rcases known_cases (good_known h) with e | e | e <;> (simp only at e; subst e)
  all_goals exact ⟨by show bOf (numS (UInt32.ofNat (val d.toList)).toNat 4) = d; rw [u32_val hs, numS_of hs], rfl⟩
theorem say_other {x : Ipc} {o : Opt} {t : UInt8} (ht : known t = true) (ho : known o.1 = true) (h : t ≠ o.1) : dat t (say x o) = dat t x ∧ has t (say x o) = has t x := by
  obtain ⟨u, d⟩ := o
  simp only at ho h
  rcases known_cases ho with e | e | e <;> subst e <;> rcases known_cases ht with e | e | e <;> subst e <;> first | exact absurd rfl h | exact ⟨rfl, rfl⟩
theorem may_iff (x : Ipc) : may x = true ↔ (x.ha = false → x.addr = 0) ∧ (x.h1 = false → x.dns1 = 0) ∧ (x.h2 = false → x.dns2 = 0) := by
  unfold may
  cases x.ha <;> cases x.h1 <;> cases x.h2 <;> simp [and_assoc]
theorem say_may {x : Ipc} {o : Opt} (hx : may x = true) (h : good o = true) : may (say x o) = true := by
  obtain ⟨t, d⟩ := o
  rw [may_iff] at hx ⊢
  obtain ⟨h2, h3, h4⟩ := hx
  rcases known_cases (good_known h) with e | e | e <;> (simp only at e; subst e)
  · exact ⟨(fun e => by cases e), h3, h4⟩
  · exact ⟨h2, (fun e => by cases e), h4⟩
  · exact ⟨h2, h3, (fun e => by cases e)⟩
/-- Two that may be put are one where each option of the three is present in both, with the same data, or in neither. -/
theorem may_ext {x y : Ipc} (hx : may x = true) (hy : may y = true) (h : ∀ t, known t = true → has t x = has t y ∧ (has t x = true → dat t x = dat t y)) : x = y := by
  rw [may_iff] at hx hy
  obtain ⟨a2, a3, a4⟩ := hx
  obtain ⟨b2, b3, b4⟩ := hy
  obtain ⟨h1, d1⟩ := h 3 rfl
  obtain ⟨h2, d2⟩ := h 129 rfl
  obtain ⟨h5, d5⟩ := h 131 rfl
  change x.ha = y.ha at h1
  change x.h1 = y.h1 at h2
  change x.h2 = y.h2 at h5
  change x.ha = true → bOf (numS x.addr.toNat 4) = bOf (numS y.addr.toNat 4) at d1
  change x.h1 = true → bOf (numS x.dns1.toNat 4) = bOf (numS y.dns1.toNat 4) at d2
  change x.h2 = true → bOf (numS x.dns2.toNat 4) = bOf (numS y.dns2.toNat 4) at d5
  have e1 : x.addr = y.addr := by
    cases hh : x.ha
    · rw [a2 hh, b2 (by rw [← h1, hh])]
    · rw [← numS_u32 x.addr, d1 hh, numS_u32]
  have e2 : x.dns1 = y.dns1 := by
    cases hh : x.h1
    · rw [a3 hh, b3 (by rw [← h2, hh])]
    · rw [← numS_u32 x.dns1, d2 hh, numS_u32]
  have e5 : x.dns2 = y.dns2 := by
    cases hh : x.h2
    · rw [a4 hh, b4 (by rw [← h5, hh])]
    · rw [← numS_u32 x.dns2, d5 hh, numS_u32]
  obtain ⟨p1, p2, p3, p4, p5, p6⟩ := x
  obtain ⟨q1, q2, q3, q4, q5, q6⟩ := y
  simp only at h1 h2 h5 e1 e2 e5
  subst h1 h2 h5 e1 e2 e5
  rfl
/-- x says what the valid options gs say. -/
def Rep (x : Ipc) (gs : List Opt) : Prop := may x = true ∧ (∀ t, known t = true → (has t x = true ↔ ∃ d, (t, d) ∈ gs)) ∧ ∀ t d, (t, d) ∈ gs → dat t x = d
theorem Rep.unique {x y : Ipc} {gs gs' : List Opt} (h : Rep x gs) (h' : Rep y gs') (hm : ∀ o, o ∈ gs ↔ o ∈ gs') : x = y := by
  refine may_ext h.1 h'.1 fun t ht => ?_
  have hx := h.2.1 t ht
  have hy := h'.2.1 t ht
  refine ⟨?_, fun e => ?_⟩
  · rw [Bool.eq_iff_iff, hx, hy]
    exact ⟨fun ⟨d, hd⟩ => ⟨d, (hm _).1 hd⟩, fun ⟨d, hd⟩ => ⟨d, (hm _).2 hd⟩⟩
  · obtain ⟨d, hd⟩ := hx.1 e
    rw [h.2.2 t d hd, h'.2.2 t d ((hm _).1 hd)]
def goods (l : List Opt) : List Opt := l.filter fun o => good o
def odds (l : List Opt) : List Opt := l.filter fun o => !good o
def Dis (l : List Opt) : Prop := (l.map (·.1)).Nodup
theorem rep_nil : Rep lz [] := by
  refine ⟨rfl, fun t ht => ⟨fun h => ?_, fun ⟨d, h⟩ => by cases h⟩, fun t d h => by cases h⟩
  rcases known_cases ht with e | e | e <;> subst e <;> cases h
theorem goods_snoc (l : List Opt) (o : Opt) : goods (l ++ [o]) = if good o then goods l ++ [o] else goods l := by
  unfold goods
  rw [List.filter_append]
  by_cases h : good o = true <;> simp [h]
theorem odds_snoc (l : List Opt) (o : Opt) : odds (l ++ [o]) = if good o then odds l else odds l ++ [o] := by
  unfold odds
  rw [List.filter_append]
  by_cases h : good o = true <;> simp [h]
theorem goods_good {l : List Opt} {o : Opt} (h : o ∈ goods l) : good o = true := (List.mem_filter.1 h).2
theorem dis_snoc (l : List Opt) (o : Opt) : Dis (l ++ [o]) ↔ Dis l ∧ ∀ d, (o.1, d) ∉ l := by
  unfold Dis
  rw [List.map_append, List.nodup_append]
  simp only [List.map_cons, List.map_nil, List.mem_map, List.mem_singleton, List.nodup_cons, List.not_mem_nil, not_false_eq_true, List.nodup_nil, and_self, true_and]
  constructor
  · rintro ⟨h1, h2⟩
    exact ⟨h1, fun d hd => h2 o.1 ⟨_, hd, rfl⟩ o.1 rfl rfl⟩
  · rintro ⟨h1, h2⟩
    refine ⟨h1, ?_⟩
    rintro t ⟨⟨t', d⟩, hd, rfl⟩ u rfl e
    simp only at e
    subst e
    exact h2 d hd
theorem Rep.snoc {x : Ipc} {gs : List Opt} {o : Opt} (h : Rep x gs) (hg : ∀ p ∈ gs, good p = true) (ho : good o = true) (hn : ∀ d, (o.1, d) ∉ gs) : Rep (say x o) (gs ++ [o]) := by
  have hk := good_known ho
  refine ⟨say_may h.1 ho, fun t ht => ?_, fun t d hd => ?_⟩
  · by_cases e : t = o.1
    · subst e
      exact ⟨fun _ => ⟨o.2, by simp⟩, fun _ => (dat_say (x := x) (t := o.1) (d := o.2) ho).2⟩
    · rw [(say_other (x := x) ht hk e).2, h.2.1 t ht]
      constructor
      · rintro ⟨d, hd⟩; exact ⟨d, by simp [hd]⟩
      · rintro ⟨d, hd⟩
        rcases List.mem_append.1 hd with hd | hd
        · exact ⟨d, hd⟩
        · rw [List.mem_singleton] at hd
          exact absurd (congrArg Prod.fst hd) e
  · rcases List.mem_append.1 hd with hd | hd
    · have e : t ≠ o.1 := fun e => hn d (by rw [← e]; exact hd)
      rw [(say_other (x := x) (good_known (hg _ hd)) hk e).1, h.2.2 t d hd]
    · rw [List.mem_singleton] at hd
      rw [← hd] at ho ⊢
      exact (dat_say ho).1
theorem snoc_ind {P : List Opt → Prop} (h0 : P []) (h1 : ∀ l o, P l → P (l ++ [o])) : ∀ l, P l := fun l => by
  rw [← List.reverse_reverse l]
  induction l.reverse with
  | nil => exact h0
  | cons o r ih => rw [List.reverse_cons]; exact h1 _ _ ih
/-- What options say. -/
theorem st_spec (l : List Opt) : (Dis (goods l) → ∃ x, st l = some (x, odds l) ∧ Rep x (goods l)) ∧ (¬ Dis (goods l) → st l = none) := by
  revert l
  refine snoc_ind ⟨fun _ => ⟨lz, rfl, rep_nil⟩, fun h => absurd List.nodup_nil h⟩ fun l o ih => ?_
  rw [goods_snoc, odds_snoc, st_snoc]
  by_cases ho : good o = true
  · rw [if_pos ho, if_pos ho, dis_snoc]
    by_cases hd : Dis (goods l)
    · obtain ⟨x, hx, hr⟩ := ih.1 hd
      rw [hx]
      by_cases hn : ∀ d, (o.1, d) ∉ goods l
      · have hh : has o.1 x = false := by
          rw [Bool.eq_false_iff]
          intro e
          obtain ⟨d, hd'⟩ := (hr.2.1 _ (good_known ho)).1 e
          exact hn d hd'
        refine ⟨fun _ => ⟨say x o, ?_, hr.snoc (fun p hp => goods_good hp) ho hn⟩, fun h => absurd ⟨hd, hn⟩ h⟩
        simp [step, ho, hh]
      · have hh : has o.1 x = true := by
          refine (hr.2.1 _ (good_known ho)).2 ?_
          rcases Classical.em (∃ d, (o.1, d) ∈ goods l) with h | h
          · exact h
          · exact absurd (fun d hd' => h ⟨d, hd'⟩) hn
        exact ⟨fun h => absurd h.2 hn, fun _ => by simp [step, ho, hh]⟩
    · rw [ih.2 hd]
      exact ⟨fun h => absurd h.1 hd, fun _ => rfl⟩
  · rw [if_neg ho, if_neg ho]
    by_cases hd : Dis (goods l)
    · obtain ⟨x, hx, hr⟩ := ih.1 hd
      rw [hx]
      exact ⟨fun _ => ⟨x, by simp [step, ho], hr⟩, fun h => absurd hd h⟩
    · rw [ih.2 hd]
      exact ⟨fun h => absurd h hd, fun _ => rfl⟩
theorem st_some {l : List Opt} {x : Ipc} {o : List Opt} (h : st l = some (x, o)) : Dis (goods l) ∧ o = odds l ∧ Rep x (goods l) := by
  rcases Classical.em (Dis (goods l)) with hd | hd
  · obtain ⟨y, hy, hr⟩ := (st_spec l).1 hd
    rw [h] at hy
    cases hy
    exact ⟨hd, rfl, hr⟩
  · rw [(st_spec l).2 hd] at h; cases h
/-! ### put -/
theorem mem_put {x : Ipc} {t : UInt8} {d : ByteArray} : (t, d) ∈ put x ↔ known t = true ∧ has t x = true ∧ d = dat t x := by
  unfold put
  rw [List.mem_filterMap]
  constructor
  · rintro ⟨u, hu, e⟩
    split at e
    · rename_i hh
      simp only [Option.some.injEq, Prod.mk.injEq] at e
      obtain ⟨rfl, rfl⟩ := e
      exact ⟨known_iff.2 hu, hh, rfl⟩
    · cases e
  · rintro ⟨hk, hh, rfl⟩
    exact ⟨t, known_iff.1 hk, by rw [if_pos hh]⟩
theorem dat_good {x : Ipc} {t : UInt8} (ht : known t = true) : good (t, dat t x) = true :=
  good_of ht (by show (bOf (numS (adr t x).toNat 4)).size = 4; rw [size_bOf, numS_length])
theorem put_good (x : Ipc) : ∀ o ∈ put x, good o = true := by
  rintro ⟨t, d⟩ ho
  obtain ⟨hk, hh, rfl⟩ := mem_put.1 ho
  exact dat_good hk
theorem put_rep {x : Ipc} (hx : may x = true) : Rep x (put x) :=
  ⟨hx, fun t ht => ⟨fun h => ⟨dat t x, mem_put.2 ⟨ht, h, rfl⟩⟩, fun ⟨d, hd⟩ => (mem_put.1 hd).2.1⟩, fun t d hd => (mem_put.1 hd).2.2.symm⟩
/-- The types rise. -/
def Rise (l : List Opt) : Prop := l.Pairwise fun a b => a.1 < b.1
theorem put_rise (x : Ipc) : Rise (put x) := by
  unfold Rise put
  rw [List.pairwise_filterMap]
  have hp : six.Pairwise (· < ·) := by decide
  refine hp.imp ?_
  intro a b hab o ho p hp
  split at ho
  · split at hp
    · cases ho; cases hp; exact hab
    · cases hp
  · cases ho
theorem u8_lt_irrefl (a : UInt8) : ¬ a < a := fun h => Nat.lt_irrefl _ (UInt8.lt_iff_toNat_lt.1 h)
theorem u8_lt_trans {a b c : UInt8} (h : a < b) (k : b < c) : a < c := UInt8.lt_iff_toNat_lt.2 (Nat.lt_trans (UInt8.lt_iff_toNat_lt.1 h) (UInt8.lt_iff_toNat_lt.1 k))
theorem u8_lt_asymm {a b : UInt8} (h : a < b) : ¬ b < a := fun k => u8_lt_irrefl _ (u8_lt_trans h k)
theorem rise_dis {l : List Opt} (h : Rise l) : Dis l := by
  unfold Dis
  rw [List.nodup_iff_pairwise_ne, List.pairwise_map]
  refine List.Pairwise.imp ?_ (show l.Pairwise fun a b => a.1 < b.1 from h)
  intro a b hab e
  rw [e] at hab
  exact u8_lt_irrefl _ hab
theorem rise_nodup {l : List Opt} (h : Rise l) : l.Nodup := by
  rw [List.nodup_iff_pairwise_ne]
  refine List.Pairwise.imp ?_ (show l.Pairwise fun a b => a.1 < b.1 from h)
  intro a b hab e
  rw [e] at hab
  exact u8_lt_irrefl _ hab
theorem rise_unique : ∀ {l m : List Opt}, Rise l → Rise m → (∀ o, o ∈ l ↔ o ∈ m) → l = m
  | [], [], _, _, _ => rfl
  | [], b :: m, _, _, h => by have := (h b).2 (by simp); cases this
  | a :: l, [], _, _, h => by have := (h a).1 (by simp); cases this
  | a :: l, b :: m, hl, hm, h => by
    obtain ⟨l1, l2⟩ := List.pairwise_cons.1 hl
    obtain ⟨m1, m2⟩ := List.pairwise_cons.1 hm
    have e : a = b := by
      rcases List.mem_cons.1 ((h a).1 (by simp)) with e | ha
      · exact e
      · rcases List.mem_cons.1 ((h b).2 (by simp)) with e | hb
        · exact e.symm
        · exact absurd (l1 b hb) (u8_lt_asymm (m1 a ha))
    subst e
    congr 1
    refine rise_unique l2 m2 fun o => ⟨fun ho => ?_, fun ho => ?_⟩
    · rcases List.mem_cons.1 ((h o).1 (by simp [ho])) with e | ho'
      · subst e; exact absurd (l1 _ ho) (u8_lt_irrefl _)
      · exact ho'
    · rcases List.mem_cons.1 ((h o).2 (by simp [ho])) with e | ho'
      · subst e; exact absurd (m1 _ ho) (u8_lt_irrefl _)
      · exact ho'
theorem goods_all {l : List Opt} (h : ∀ o ∈ l, good o = true) : goods l = l := List.filter_eq_self.2 h
theorem odds_all {l : List Opt} (h : ∀ o ∈ l, good o = true) : odds l = [] := by
  unfold odds
  rw [List.filter_eq_nil_iff]
  intro o ho
  simp [h o ho]
/-- What was put is got. -/
theorem st_put {x : Ipc} (hx : may x = true) : st (put x) = some (x, []) := by
  have hg := put_good x
  obtain ⟨y, hy, hr⟩ := (st_spec (put x)).1 (by rw [goods_all hg]; exact rise_dis (put_rise x))
  rw [odds_all hg] at hy
  rw [goods_all hg] at hr
  rw [hy, hr.unique (put_rep hx) (fun _ => Iff.rfl)]
theorem put_inj {x y : Ipc} (hx : may x = true) (hy : may y = true) (h : put x = put y) : x = y := by
  have := st_put hx
  rw [h, st_put hy] at this
  cases this
  rfl
theorem dis_nodup {l : List Opt} (h : Dis l) : l.Nodup := by
  unfold Dis at h
  rw [List.nodup_iff_pairwise_ne, List.pairwise_map] at h
  rw [List.nodup_iff_pairwise_ne]
  exact h.imp fun hab e => hab (by rw [e])
theorem nodup_len : ∀ {l m : List Opt}, l.Nodup → (∀ o ∈ l, o ∈ m) → l.length ≤ m.length
  | [], m, _, _ => Nat.zero_le _
  | a :: l, m, hn, h => by
    obtain ⟨h1, h2⟩ := List.nodup_cons.1 hn
    obtain ⟨m1, m2, rfl⟩ := List.append_of_mem (h a (by simp))
    have := nodup_len (l := l) (m := m1 ++ m2) h2 (fun o ho => by
      have h3 := h o (by simp [ho])
      rw [List.mem_append, List.mem_cons] at h3
      rw [List.mem_append]
      rcases h3 with h3 | rfl | h3
      · exact .inl h3
      · exact absurd ho h1
      · exact .inr h3)
    rw [List.length_append] at this
    rw [List.length_cons, List.length_append, List.length_cons]
    omega
/-- What is got with nothing odd is put as those options. -/
theorem got_put {l : List Opt} {y : Ipc} (h : st l = some (y, [])) : may y = true ∧ (∀ o, o ∈ put y ↔ o ∈ l) ∧ (put y).length = l.length := by
  obtain ⟨hd, ho, hr⟩ := st_some h
  have hg : ∀ o ∈ l, good o = true := by
    intro o hm
    rcases hh : good o with _ | _
    · have : o ∈ odds l := List.mem_filter.2 ⟨hm, by simp [hh]⟩
      rw [← ho] at this
      cases this
    · rfl
  rw [goods_all hg] at hd hr
  have hm : ∀ o, o ∈ put y ↔ o ∈ l := by
    rintro ⟨t, d⟩
    rw [mem_put]
    constructor
    · rintro ⟨hk, hh, rfl⟩
      obtain ⟨d, hd'⟩ := (hr.2.1 t hk).1 hh
      rw [hr.2.2 t d hd']
      exact hd'
    · intro hm
      exact ⟨good_known (hg _ hm), (hr.2.1 t (good_known (hg _ hm))).2 ⟨d, hm⟩, (hr.2.2 t d hm).symm⟩
  refine ⟨hr.1, hm, ?_⟩
  have n1 := rise_nodup (put_rise y)
  have n2 := dis_nodup hd
  exact Nat.le_antisymm (nodup_len n1 (fun o ho => (hm o).1 ho)) (nodup_len n2 (fun o ho => (hm o).2 ho))
/-- The order makes no difference. -/
theorem st_perm {l m : List Opt} (h : l.Perm m) : gL l = gL m ∧ (gO l).length = (gO m).length ∧ gE l = gE m := by
  have hg : (goods l).Perm (goods m) := h.filter _
  have ho : (odds l).Perm (odds m) := h.filter _
  have hd : Dis (goods l) ↔ Dis (goods m) := (hg.map _).nodup_iff
  unfold gL gO gE
  rcases Classical.em (Dis (goods l)) with hl | hl
  · obtain ⟨x, hx, hr⟩ := (st_spec l).1 hl
    obtain ⟨y, hy, hs⟩ := (st_spec m).1 (hd.1 hl)
    rw [hx, hy]
    exact ⟨hr.unique hs (fun _ => hg.mem_iff), ho.length_eq, rfl⟩
  · rw [(st_spec l).2 hl, (st_spec m).2 (fun h => hl (hd.2 h))]
    exact ⟨rfl, rfl, rfl⟩
/-- One that is odd makes none. -/
theorem st_odd {l : List Opt} {o : Opt} (h : good o = false) (n : Nat) : gL (l.take n ++ (o :: l.drop n)) = gL l ∧ gE (l.take n ++ (o :: l.drop n)) = gE l ∧ (gE l = 0 → (gO (l.take n ++ (o :: l.drop n))).length = (gO l).length + 1) := by
  have hp : (l.take n ++ (o :: l.drop n)).Perm (o :: l) := by
    refine List.perm_middle.trans ?_
    rw [List.take_append_drop]
  have hc := st_perm hp
  rw [hc.1, hc.2.1, hc.2.2]
  have hg : goods (o :: l) = goods l := by unfold goods; rw [List.filter_cons]; simp [h]
  have ho : odds (o :: l) = o :: odds l := by unfold odds; rw [List.filter_cons]; simp [h]
  unfold gL gO gE
  rcases Classical.em (Dis (goods l)) with hl | hl
  · obtain ⟨x, hx, hr⟩ := (st_spec l).1 hl
    obtain ⟨y, hy, hs⟩ := (st_spec (o :: l)).1 (by rw [hg]; exact hl)
    rw [hx, hy, ho]
    rw [hg] at hs
    exact ⟨hs.unique hr (fun _ => Iff.rfl), rfl, fun _ => by simp⟩
  · rw [(st_spec l).2 hl, (st_spec (o :: l)).2 (by rw [hg]; exact hl)]
    exact ⟨rfl, rfl, fun e => by cases e⟩
end Go.Proofs.YtikcgcgbcolndaaGreat.Ipc

/- A policy of IPCP's options: what is asked, what is said of each option, what a reply changes. Plain mathematics, of no program. -/
namespace Go.Proofs.YtikcgcgbcolndaaGreat.Ipp
open Go.Proofs.YtikcgcgbcolndaaGreat.Oct Go.Proofs.YtikcgcgbcolndaaGreat.Opt Go.Proofs.YtikcgcgbcolndaaGreat.Ipc

/-- A configuration. -/
structure Conf where
  addr : UInt32
  peer : UInt32
  dns1 : UInt32
  dns2 : UInt32
  want : Bool
  mn : Int
deriving DecidableEq
def cv (c : Conf) : List Value := [.int .u32 c.addr.toNat, .int .u32 c.peer.toNat, .int .u32 c.dns1.toNat, .int .u32 c.dns2.toNat, .bool c.want, .int .i64 c.mn]
/-- A policy: its wishes, conf, what was acked, what the peer's is, Naks in a row. -/
structure Po where
  w : Ipc
  c : Conf
  mine : Ipc
  peer : Ipc
  naks : Nat
/-- Its cells, the program's and the document's. -/
def pv (p : Po) : List Value := lv p.w ++ (cv p.c ++ (lv p.mine ++ (lv p.peer ++ [.int .i64 p.naks])))
def dv (p : Po) : List Value := cv p.c ++ (lv p.w ++ (lv p.mine ++ (lv p.peer ++ [.int .i64 p.naks])))

/-- Whether a configuration is valid. -/
def mayC (c : Conf) : Bool := decide (1 ≤ c.mn) && decide (c.mn ≤ 10)
def wish (c : Conf) : Ipc := ⟨true, c.addr, c.want, 0, c.want, 0⟩
def newP (c : Conf) : Po := ⟨wish c, c, lz, lz, 0⟩
def req (p : Po) : List Opt := put p.w

/-! ### what is said of an option -/
def lo (o : Opt) : Ipc := gL [o]
def ad (o : Opt) : UInt32 := UInt32.ofNat (val o.2.toList)
/-- The address that an option must have; 0: any. -/
def giv (p : Po) (t : UInt8) : UInt32 := if t = 3 then p.c.peer else if t = 129 then p.c.dns1 else p.c.dns2
def or32 (a b : UInt32) : UInt32 := if a = 0 then b else a
/-- What the program's function says: a struct. -/
def bet (p : Po) (t : UInt8) (x : Ipc) : Ipc :=
  if t = 3 then ⟨or32 p.c.peer x.addr != 0, or32 p.c.peer x.addr, false, 0, false, 0⟩
  else if t = 129 then ⟨false, 0, p.c.dns1 != 0, p.c.dns1, false, 0⟩
  else ⟨false, 0, false, 0, p.c.dns2 != 0, p.c.dns2⟩
/-- The address that is suggested. -/
def sa (p : Po) (t : UInt8) (x : Ipc) : UInt32 := if t = 3 then or32 p.c.peer x.addr else giv p t
def zo : Opt := (0, ByteArray.empty)
def ok (p : Po) (o : Opt) : Bool := good o && sa p o.1 (lo o) != 0
def sug (p : Po) (o : Opt) : Opt := (o.1, bOf (numS (sa p o.1 (lo o)).toNat 4))
def imp (p : Po) (o : Opt) : Opt := if ok p o then sug p o else zo
/-- How a received option is judged. -/
structure Ver where
  got : Opt
  rej : Bool
  bet : Opt
deriving DecidableEq
def seen (l : List Opt) (t : UInt8) : Bool := l.any fun o => o.1 == t
def ver (p : Po) (l : List Opt) (o : Opt) : Ver := ⟨o, seen l o.1 || !ok p o, imp p o⟩
def vs (p : Po) (l : List Opt) : List Ver := (List.range l.length).map fun i => ver p (l.take i) (l.getD i zo)
def poor (v : Ver) : Bool := !v.rej && !decide (v.bet = v.got)
def refs (l : List Ver) : List Opt := l.filterMap fun v => if v.rej then some v.got else none
def poors (l : List Ver) : List Opt := l.filterMap fun v => if poor v then some v.got else none
def insts (l : List Ver) : List Opt := l.filterMap fun v => if poor v then some v.bet else none
/-- An address that lacks. -/
def miss (p : Po) (l : List Opt) : List Opt := if fB 3 l then [] else put (bet p 3 lz)
def sugs (p : Po) (l : List Opt) : List Opt := insts (vs p l) ++ miss p l

/-- Judge: which way. -/
inductive Way | rej | nak | poor | ack
deriving DecidableEq
def way (p : Po) (l : List Opt) : Way := if refs (vs p l) ≠ [] then .rej else if sugs p l ≠ [] ∧ (p.naks : Int) < p.c.mn then .nak else if poors (vs p l) ≠ [] then .poor else .ack
def jC (p : Po) (l : List Opt) : Nat := match way p l with | .rej => 4 | .nak => 3 | .poor => 4 | .ack => 2
def jA (p : Po) (l : List Opt) : List Opt := match way p l with | .rej => refs (vs p l) | .nak => sugs p l | .poor => poors (vs p l) | .ack => l
def jP (p : Po) (l : List Opt) : Po := match way p l with | .rej => { p with naks := 0 } | .nak => { p with naks := p.naks + 1 } | .poor => { p with naks := 0 } | .ack => { p with naks := 0, peer := gL l }

/-! ### replies -/
def akB (p : Po) (l : List Opt) : Bool := decide (l = req p)
def akP (p : Po) (l : List Opt) : Po := if akB p l then { p with mine := p.w } else p
def nkB (l : List Opt) : Bool := decide (l ≠ []) && gE l == 0
/-- The wishes, once those of the types in m were gone by. -/
def nkW (c : Conf) (w x : Ipc) (m : UInt8 → Bool) : Ipc :=
  { w with
    addr := if m 3 && c.addr == 0 then or32 x.addr w.addr else w.addr
    dns1 := if m 129 then or32 x.dns1 w.dns1 else w.dns1
    dns2 := if m 131 then or32 x.dns2 w.dns2 else w.dns2 }
def nkP (p : Po) (l : List Opt) : Po := if nkB l then { p with w := nkW p.c p.w (gL l) (fun t => has t p.w) } else p
def dropW (w : Ipc) (t : UInt8) : Ipc :=
  if t = 3 then { w with ha := false, addr := 0 } else if t = 129 then { w with h1 := false, dns1 := 0 } else if t = 131 then { w with h2 := false, dns2 := 0 } else w
def dropP (p : Po) (o : Opt) : Po := { p with w := dropW p.w o.1 }
/-- Whether all of l stands in whole, in its order. -/
def part : List Opt → List Opt → Bool
  | [], _ => true
  | _ :: _, [] => false
  | o :: l, x :: r => if x = o then part l r else part (o :: l) r
def rjB (p : Po) (l : List Opt) : Bool := decide (l ≠ []) && part l (req p)
def rjP (p : Po) (l : List Opt) : Po := if rjB p l then l.foldl dropP p else p

/-! ### rows of verdicts -/
theorem vs_nil (p : Po) : vs p [] = [] := rfl
theorem vs_snoc (p : Po) (l : List Opt) (k : Nat) (o : Opt) (h : l[k]? = some o) : vs p (l.take (k + 1)) = vs p (l.take k) ++ [ver p (l.take k) o] := by
  obtain ⟨hk, rfl⟩ := List.getElem?_eq_some_iff.1 h
  unfold vs
  have e1 : (l.take (k + 1)).length = k + 1 := by rw [List.length_take]; omega
  have e0 : (l.take k).length = k := by rw [List.length_take]; omega
  rw [e1, e0, List.range_succ, List.map_append, List.map_cons, List.map_nil]
  congr 1
  · apply List.map_congr_left
    intro i hi
    have hi' : i < k := List.mem_range.1 hi
    rw [List.take_take, List.take_take, Nat.min_eq_left (by omega), Nat.min_eq_left (by omega)]
    congr 1
    rw [List.getD_eq_getElem?_getD, List.getD_eq_getElem?_getD, List.getElem?_take_of_lt (by omega), List.getElem?_take_of_lt hi']
  · rw [List.take_take, Nat.min_eq_left (by omega)]
    congr 2
    rw [List.getD_eq_getElem?_getD, List.getElem?_take_of_lt (by omega), List.getElem?_eq_getElem hk]
    rfl
theorem vs_length (p : Po) (l : List Opt) : (vs p l).length = l.length := by unfold vs; simp
theorem seen_snoc (l : List Opt) (k : Nat) (o : Opt) (h : l[k]? = some o) (t : UInt8) : seen (l.take (k + 1)) t = (seen (l.take k) t || o.1 == t) := by
  obtain ⟨hk, rfl⟩ := List.getElem?_eq_some_iff.1 h
  unfold seen
  rw [List.take_succ_eq_append_getElem hk, List.any_append]
  simp

/-! ### one option -/
theorem st_one (o : Opt) : st [o] = if good o then some (say lz o, []) else some (lz, [o]) := by
  have h := st_snoc [] o
  rw [List.nil_append, st_nil] at h
  rw [h]
  unfold Ipc.step
  cases hg : good o
  · simp
  · have hh : has o.1 lz = false := by rcases known_cases (good_known hg) with e | e | e <;> rw [e] <;> rfl
    simp only [if_true, hh, Bool.false_eq_true, if_false]
theorem lo_good {o : Opt} (h : good o = true) : lo o = say lz o := by unfold lo Ipc.gL; rw [st_one, if_pos h]
theorem lo_bad {o : Opt} (h : good o = false) : lo o = lz := by unfold lo Ipc.gL; rw [st_one, h]; rfl
theorem lo_addr {o : Opt} (h : good o = true) (h3 : o.1 = 3) : (lo o).addr = ad o := by
  rw [lo_good h]
  unfold say Ipc.set
  rw [if_pos h3]
  rfl
theorem ok_good {p : Po} {o : Opt} (h : ok p o = true) : good o = true := (Bool.and_eq_true_iff.1 h).1
theorem ok_known {p : Po} {o : Opt} (h : ok p o = true) : known o.1 = true := good_known (ok_good h)
theorem bne0 {v : UInt32} (h : (v != 0) = false) : v = 0 := by simpa using h
/-- What the functions say may be put, and is found again. -/
theorem bet_may (p : Po) (t : UInt8) (x : Ipc) : may (bet p t x) = true := by
  rw [may_iff]
  unfold bet
  split
  · exact ⟨fun h => bne0 h, fun _ => rfl, fun _ => rfl⟩
  · split
    · exact ⟨fun _ => rfl, fun h => bne0 h, fun _ => rfl⟩
    · exact ⟨fun _ => rfl, fun _ => rfl, fun h => bne0 h⟩
theorem put3 (b : Bool) (a : UInt32) : put ⟨b, a, false, 0, false, 0⟩ = if b then [(3, bOf (numS a.toNat 4))] else [] := by cases b <;> rfl
theorem put129 (b : Bool) (a : UInt32) : put ⟨false, 0, b, a, false, 0⟩ = if b then [(129, bOf (numS a.toNat 4))] else [] := by cases b <;> rfl
theorem put131 (b : Bool) (a : UInt32) : put ⟨false, 0, false, 0, b, a⟩ = if b then [(131, bOf (numS a.toNat 4))] else [] := by cases b <;> rfl
theorem put_bet {p : Po} {t : UInt8} (ht : known t = true) (x : Ipc) : put (bet p t x) = if sa p t x != 0 then [(t, bOf (numS (sa p t x).toNat 4))] else [] := by
  rcases known_cases ht with e | e | e <;> subst e
  · exact put3 _ _
  · exact put129 _ _
  · exact put131 _ _
theorem find_bet {p : Po} {o : Opt} (h : good o = true) : fA o.1 (put (bet p o.1 (lo o))) = imp p o ∧ fB o.1 (put (bet p o.1 (lo o))) = ok p o := by
  rw [put_bet (good_known h)]
  unfold imp ok sug
  rw [h]
  cases hb : (sa p o.1 (lo o) != 0)
  · exact ⟨rfl, rfl⟩
  · have hf : fd o.1 [((o.1, bOf (numS (sa p o.1 (lo o)).toNat 4)) : Opt)] = some (o.1, bOf (numS (sa p o.1 (lo o)).toNat 4)) := by
      unfold fd
      rw [List.find?_cons, show ((((o.1, bOf (numS (sa p o.1 (lo o)).toNat 4)) : Opt).1 == o.1)) = true from beq_self_eq_true _]
    simp only [if_true, Bool.and_self]
    unfold fA fB
    rw [hf]
    exact ⟨rfl, rfl⟩
theorem sug_size (p : Po) (o : Opt) : (sug p o).2.size = 4 := by
  show (bOf (numS _ 4)).size = 4
  rw [size_bOf, numS_length]
theorem imp_size (p : Po) (o : Opt) : (imp p o).2.size ≤ 4 := by
  unfold imp
  split
  · rw [sug_size]; exact Nat.le_refl _
  · exact Nat.zero_le _
theorem miss_eq (p : Po) (l : List Opt) : miss p l = if fB 3 l then [] else if p.c.peer != 0 then [(3, bOf (numS p.c.peer.toNat 4))] else [] := by
  unfold miss
  split
  · rfl
  · rw [put_bet rfl]
    have : sa p 3 lz = p.c.peer := by
      show or32 p.c.peer 0 = _
      unfold or32
      split
      · rename_i e; exact e.symm
      · rfl
    rw [this]
end Go.Proofs.YtikcgcgbcolndaaGreat.Ipp

/- The struct in a block; contracts of ipcpopt's meanings and of their six functions. -/
namespace Go.Proofs.YtikcgcgbcolndaaGreat.Ipc
open Go.RowKit Go.Proofs.YtikcgcgbcolndaaGreat.Oct Go.Proofs.YtikcgcgbcolndaaGreat.Row Go.Proofs.YtikcgcgbcolndaaGreat.Mem Go.Proofs.YtikcgcgbcolndaaGreat.Opt

/-- The struct lies in block g. -/
def LAt (W : World) (g : Nat) (x : Ipc) : Prop := Blk W g (lv x) 52
theorem LAt.callee {W W' : World} {g : Nat} {x : Ipc} (h : LAt W g x) (hb : Below W.heap.size W W') : LAt W' g x := Blk.callee h hb
theorem LAt.below {W W' : World} {g n : Nat} {x : Ipc} (h : LAt W g x) (hb : Below n W W') (hg : g < n) : LAt W' g x := Blk.below h hb hg
theorem LAt.alloc {W : World} {g : Nat} {x : Ipc} (h : LAt W g x) (o : Obj) : LAt (W.alloc o) g x := Blk.alloc h o
theorem LAt.lt {W : World} {g : Nat} {x : Ipc} (h : LAt W g x) : g < W.heap.size := Blk.lt h
theorem lat_new (W : World) (x : Ipc) : LAt (W.alloc (.cells (lv x).toArray 52)) W.heap.size x := blk_new W (lv x) _
theorem LAt.c {W : World} {g : Nat} {x : Ipc} (h : LAt W g x) (i : Nat) : W.cell? ⟨g, i, none⟩ = (lv x)[i]? := Blk.at_ h i
theorem LAt.f {W : World} {g : Nat} {x : Ipc} (h : LAt W g x) (i : Nat) : W.frozen? ⟨g, i, none⟩ = false := Blk.frozen h i
/-- A struct of six cells in a block, once it is boxed. -/
theorem boxL (w : World) (x : Ipc) : ∃ W, w.alloc (.cells #[Value.bool x.ha, .int .u32 x.addr.toNat, .bool x.h1, .int .u32 x.dns1.toNat, .bool x.h2, .int .u32 x.dns2.toNat] 52) = W ∧ Hid (LAt W w.heap.size x ∧ Below w.heap.size w W ∧ W.heap.size = w.heap.size + 1) :=
  ⟨_, rfl, lat_new w x, (Below.refl w.heap.size w).alloc (Nat.le_refl _) _, by simp⟩
/-- .. and the named result behind it. -/
theorem boxL2 (w : World) (x : Ipc) : ∃ W, (w.alloc (.cells #[Value.bool x.ha, .int .u32 x.addr.toNat, .bool x.h1, .int .u32 x.dns1.toNat, .bool x.h2, .int .u32 x.dns2.toNat] 52)).alloc (.cells #[Value.bool false, .int .u32 0, .bool false, .int .u32 0, .bool false, .int .u32 0] 52) = W ∧ Hid (LAt W w.heap.size x ∧ LAt W (w.heap.size + 1) lz ∧ Below w.heap.size w W) :=
  ⟨_, rfl, (lat_new w x).alloc _, by have := lat_new (w.alloc (.cells (lv x).toArray 52)) lz; rw [show (w.alloc (.cells (lv x).toArray 52)).heap.size = w.heap.size + 1 by simp] at this; exact this, ((Below.refl w.heap.size w).alloc (Nat.le_refl _) _).alloc (by simp) _⟩
/-- A struct is laid over another one. -/
def setL (W : World) (g : Nat) (c : List Value) : World :=
  (((((W.setCell ⟨g, 0, none⟩ (c.getD 0 undef)).setCell ⟨g, 1, none⟩ (c.getD 1 undef)).setCell ⟨g, 2, none⟩ (c.getD 2 undef)).setCell ⟨g, 3, none⟩ (c.getD 3 undef)).setCell ⟨g, 4, none⟩ (c.getD 4 undef)).setCell ⟨g, 5, none⟩ (c.getD 5 undef)
theorem setL_blk {W : World} {g : Nat} {x y : Ipc} (h : LAt W g x) : LAt (setL W g (lv y)) g y :=
  (((((Blk.set h 0 (.bool y.ha)).set 1 (.int .u32 y.addr.toNat)).set 2 (.bool y.h1)).set 3 (.int .u32 y.dns1.toNat)).set 4 (.bool y.h2)).set 5 (.int .u32 y.dns2.toNat)
theorem setL_moves (W : World) (g : Nat) (c : List Value) : Moves (fun k => k = g) W (setL W g c) :=
  (((((((Moves.refl (fun k => k = g) W).setCell ⟨g, 0, none⟩ (fun _ => rfl) _).setCell ⟨g, 1, none⟩ (fun _ => rfl) _).setCell ⟨g, 2, none⟩ (fun _ => rfl) _).setCell ⟨g, 3, none⟩ (fun _ => rfl) _).setCell ⟨g, 4, none⟩ (fun _ => rfl) _).setCell ⟨g, 5, none⟩ (fun _ => rfl) _)
theorem setL_below {W w : World} {g n : Nat} (h : Below n w W) (hn : n ≤ W.heap.size) (hg : n ≤ g) (c : List Value) : Below n w (setL W g c) :=
  h.trans ((setL_moves W g c).below hn (fun k e => by subst e; exact hg))

theorem blk_other {w : World} {k : Nat} {cs : List Value} {t : TypeId} (h : Blk w k cs t) {p : Addr} (hk : k ≠ p.block) (u : Value) : Blk (w.setCell p u) k cs t := (Below.heap_setCell w p u k hk).trans h
/-- What 'said' answers. -/
def SaidQ (t : UInt8) (x : Ipc) (w : World) (e : Ending) (w' : World) : Prop := e = .returned (.tuple #[.int .u32 (adr t x).toNat, .bool (has t x)]) ∧ Below w.heap.size w w'
/-- What 'with' answers. -/
def WithQ (t : UInt8) (x : Ipc) (v : UInt32) (w : World) (e : Ending) (w' : World) : Prop := e = .returned (.agg (lv (set t x v)).toArray) ∧ Below w.heap.size w w'
set_option maxRecDepth 100000 in
theorem said1 (x : Ipc) (w : World) : Calls Tryz.prog 91 #[.agg #[Value.bool x.ha, .int .u32 x.addr.toNat, .bool x.h1, .int .u32 x.dns1.toNat, .bool x.h2, .int .u32 x.dns2.toNat]] w (SaidQ 3 x w) := by
  show Calls Tryz.prog 91 #[.agg #[Value.bool x.ha, .int .u32 x.addr.toNat, .bool x.h1, .int .u32 x.dns1.toNat, .bool x.h2, .int .u32 x.dns2.toNat]] w fun e w' => e = .returned (.tuple #[.int .u32 x.addr.toNat, .bool x.ha]) ∧ Below w.heap.size w w'
  obtain ⟨W, hW, HW⟩ := boxL w x
  have HB := Lib.hid HW.out.2.1
  have c1 : W.cell? ⟨w.heap.size, 1, none⟩ = some (.int .u32 x.addr.toNat) := HW.out.1.c 1
  have c2 : W.cell? ⟨w.heap.size, 0, none⟩ = some (.bool x.ha) := HW.out.1.c 0
  clear HW
  go_enter Tryz.func91, Tryz.ntmps91
  go_wp2
  clear hW
  go_quiet (fail)
  go_wp2
  go_ret2
  exact ⟨rfl, HB.out.drewN' _⟩
set_option maxRecDepth 100000 in
theorem said2 (x : Ipc) (w : World) : Calls Tryz.prog 93 #[.agg #[Value.bool x.ha, .int .u32 x.addr.toNat, .bool x.h1, .int .u32 x.dns1.toNat, .bool x.h2, .int .u32 x.dns2.toNat]] w (SaidQ 129 x w) := by
  show Calls Tryz.prog 93 #[.agg #[Value.bool x.ha, .int .u32 x.addr.toNat, .bool x.h1, .int .u32 x.dns1.toNat, .bool x.h2, .int .u32 x.dns2.toNat]] w fun e w' => e = .returned (.tuple #[.int .u32 x.dns1.toNat, .bool x.h1]) ∧ Below w.heap.size w w'
  obtain ⟨W, hW, HW⟩ := boxL w x
  have HB := Lib.hid HW.out.2.1
  have c1 : W.cell? ⟨w.heap.size, 3, none⟩ = some (.int .u32 x.dns1.toNat) := HW.out.1.c 3
  have c2 : W.cell? ⟨w.heap.size, 2, none⟩ = some (.bool x.h1) := HW.out.1.c 2
  clear HW
  go_enter Tryz.func93, Tryz.ntmps93
  go_wp2
  clear hW
  go_quiet (fail)
  go_wp2
  go_ret2
  exact ⟨rfl, HB.out.drewN' _⟩
set_option maxRecDepth 100000 in
theorem said3 (x : Ipc) (w : World) : Calls Tryz.prog 95 #[.agg #[Value.bool x.ha, .int .u32 x.addr.toNat, .bool x.h1, .int .u32 x.dns1.toNat, .bool x.h2, .int .u32 x.dns2.toNat]] w (SaidQ 131 x w) := by
  show Calls Tryz.prog 95 #[.agg #[Value.bool x.ha, .int .u32 x.addr.toNat, .bool x.h1, .int .u32 x.dns1.toNat, .bool x.h2, .int .u32 x.dns2.toNat]] w fun e w' => e = .returned (.tuple #[.int .u32 x.dns2.toNat, .bool x.h2]) ∧ Below w.heap.size w w'
  obtain ⟨W, hW, HW⟩ := boxL w x
  have HB := Lib.hid HW.out.2.1
  have c1 : W.cell? ⟨w.heap.size, 5, none⟩ = some (.int .u32 x.dns2.toNat) := HW.out.1.c 5
  have c2 : W.cell? ⟨w.heap.size, 4, none⟩ = some (.bool x.h2) := HW.out.1.c 4
  clear HW
  go_enter Tryz.func95, Tryz.ntmps95
  go_wp2
  clear hW
  go_quiet (fail)
  go_wp2
  go_ret2
  exact ⟨rfl, HB.out.drewN' _⟩
set_option maxHeartbeats 1000000 in
set_option maxRecDepth 100000 in
theorem with1 (x : Ipc) (v : UInt32) (w : World) : Calls Tryz.prog 92 #[.agg #[Value.bool x.ha, .int .u32 x.addr.toNat, .bool x.h1, .int .u32 x.dns1.toNat, .bool x.h2, .int .u32 x.dns2.toNat], .int .u32 v.toNat] w (WithQ 3 x v w) := by
  show Calls Tryz.prog 92 #[.agg #[Value.bool x.ha, .int .u32 x.addr.toNat, .bool x.h1, .int .u32 x.dns1.toNat, .bool x.h2, .int .u32 x.dns2.toNat], .int .u32 v.toNat] w fun e w' => e = .returned (.agg #[Value.bool true, .int .u32 v.toNat, .bool x.h1, .int .u32 x.dns1.toNat, .bool x.h2, .int .u32 x.dns2.toNat]) ∧ Below w.heap.size w w'
  obtain ⟨W, hW, HW⟩ := boxL2 w x
  have HX := Lib.hid HW.out.1
  have HZ := Lib.hid HW.out.2.1
  have HB := Lib.hid HW.out.2.2
  clear HW
  have c0 : W.cell? ⟨w.heap.size, 0, none⟩ = some (Value.bool x.ha) := HX.out.c 0
  have c1 : W.cell? ⟨w.heap.size, 1, none⟩ = some (.int .u32 x.addr.toNat) := HX.out.c 1
  have c2 : W.cell? ⟨w.heap.size, 2, none⟩ = some (.bool x.h1) := HX.out.c 2
  have c3 : W.cell? ⟨w.heap.size, 3, none⟩ = some (.int .u32 x.dns1.toNat) := HX.out.c 3
  have c4 : W.cell? ⟨w.heap.size, 4, none⟩ = some (.bool x.h2) := HX.out.c 4
  have c5 : W.cell? ⟨w.heap.size, 5, none⟩ = some (.int .u32 x.dns2.toNat) := HX.out.c 5
  have f0 : W.frozen? ⟨w.heap.size, 0, none⟩ = false := HX.out.f 0
  have f1 : W.frozen? ⟨w.heap.size, 1, none⟩ = false := HX.out.f 1
  have d0 : W.cell? ⟨w.heap.size + 1, 0, none⟩ = some (Value.bool false) := HZ.out.c 0
  have g0 : W.frozen? ⟨w.heap.size + 1, 0, none⟩ = false := HZ.out.f 0
  have d1 : W.cell? ⟨w.heap.size + 1, 1, none⟩ = some (.int .u32 0) := HZ.out.c 1
  have g1 : W.frozen? ⟨w.heap.size + 1, 1, none⟩ = false := HZ.out.f 1
  have d2 : W.cell? ⟨w.heap.size + 1, 2, none⟩ = some (.bool false) := HZ.out.c 2
  have g2 : W.frozen? ⟨w.heap.size + 1, 2, none⟩ = false := HZ.out.f 2
  have d3 : W.cell? ⟨w.heap.size + 1, 3, none⟩ = some (.int .u32 0) := HZ.out.c 3
  have g3 : W.frozen? ⟨w.heap.size + 1, 3, none⟩ = false := HZ.out.f 3
  have d4 : W.cell? ⟨w.heap.size + 1, 4, none⟩ = some (.bool false) := HZ.out.c 4
  have g4 : W.frozen? ⟨w.heap.size + 1, 4, none⟩ = false := HZ.out.f 4
  have d5 : W.cell? ⟨w.heap.size + 1, 5, none⟩ = some (.int .u32 0) := HZ.out.c 5
  have g5 : W.frozen? ⟨w.heap.size + 1, 5, none⟩ = false := HZ.out.f 5
  go_enter Tryz.func92, Tryz.ntmps92
  go_wp2
  have HZ2 := Lib.hid (blk_other (blk_other HZ.out (p := ⟨w.heap.size, 0, none⟩) (show w.heap.size + 1 ≠ w.heap.size by omega) (.bool true)) (p := ⟨w.heap.size, 1, none⟩) (show w.heap.size + 1 ≠ w.heap.size by omega) (.int .u32 v.toNat))
  have HR := setL_blk (y := set 3 x v) HZ2.out
  have HB2 := (HB.out.setCell (p := ⟨w.heap.size, 0, none⟩) (Nat.le_refl _) (.bool true)).setCell (p := ⟨w.heap.size, 1, none⟩) (Nat.le_refl _) (.int .u32 v.toNat)
  have HBe := setL_below HB2 HB2.size (g := w.heap.size + 1) (Nat.le_succ _) (lv (set 3 x v))
  refine bodyPost_ret (results_cell_row rfl _ _ (w.heap.size + 1) _ _ _ _ rfl HR Tryz.underlying52 rfl (by kernel_rfl)) rfl ?_
  exact ⟨rfl, HBe⟩
set_option maxHeartbeats 1000000 in
set_option maxRecDepth 100000 in
theorem with2 (x : Ipc) (v : UInt32) (w : World) : Calls Tryz.prog 94 #[.agg #[Value.bool x.ha, .int .u32 x.addr.toNat, .bool x.h1, .int .u32 x.dns1.toNat, .bool x.h2, .int .u32 x.dns2.toNat], .int .u32 v.toNat] w (WithQ 129 x v w) := by
  show Calls Tryz.prog 94 #[.agg #[Value.bool x.ha, .int .u32 x.addr.toNat, .bool x.h1, .int .u32 x.dns1.toNat, .bool x.h2, .int .u32 x.dns2.toNat], .int .u32 v.toNat] w fun e w' => e = .returned (.agg #[Value.bool x.ha, .int .u32 x.addr.toNat, .bool true, .int .u32 v.toNat, .bool x.h2, .int .u32 x.dns2.toNat]) ∧ Below w.heap.size w w'
  obtain ⟨W, hW, HW⟩ := boxL2 w x
  have HX := Lib.hid HW.out.1
  have HZ := Lib.hid HW.out.2.1
  have HB := Lib.hid HW.out.2.2
  clear HW
  have c0 : W.cell? ⟨w.heap.size, 0, none⟩ = some (Value.bool x.ha) := HX.out.c 0
  have c1 : W.cell? ⟨w.heap.size, 1, none⟩ = some (.int .u32 x.addr.toNat) := HX.out.c 1
  have c2 : W.cell? ⟨w.heap.size, 2, none⟩ = some (.bool x.h1) := HX.out.c 2
  have c3 : W.cell? ⟨w.heap.size, 3, none⟩ = some (.int .u32 x.dns1.toNat) := HX.out.c 3
  have c4 : W.cell? ⟨w.heap.size, 4, none⟩ = some (.bool x.h2) := HX.out.c 4
  have c5 : W.cell? ⟨w.heap.size, 5, none⟩ = some (.int .u32 x.dns2.toNat) := HX.out.c 5
  have f0 : W.frozen? ⟨w.heap.size, 2, none⟩ = false := HX.out.f 2
  have f1 : W.frozen? ⟨w.heap.size, 3, none⟩ = false := HX.out.f 3
  have d0 : W.cell? ⟨w.heap.size + 1, 0, none⟩ = some (Value.bool false) := HZ.out.c 0
  have g0 : W.frozen? ⟨w.heap.size + 1, 0, none⟩ = false := HZ.out.f 0
  have d1 : W.cell? ⟨w.heap.size + 1, 1, none⟩ = some (.int .u32 0) := HZ.out.c 1
  have g1 : W.frozen? ⟨w.heap.size + 1, 1, none⟩ = false := HZ.out.f 1
  have d2 : W.cell? ⟨w.heap.size + 1, 2, none⟩ = some (.bool false) := HZ.out.c 2
  have g2 : W.frozen? ⟨w.heap.size + 1, 2, none⟩ = false := HZ.out.f 2
  have d3 : W.cell? ⟨w.heap.size + 1, 3, none⟩ = some (.int .u32 0) := HZ.out.c 3
  have g3 : W.frozen? ⟨w.heap.size + 1, 3, none⟩ = false := HZ.out.f 3
  have d4 : W.cell? ⟨w.heap.size + 1, 4, none⟩ = some (.bool false) := HZ.out.c 4
  have g4 : W.frozen? ⟨w.heap.size + 1, 4, none⟩ = false := HZ.out.f 4
  have d5 : W.cell? ⟨w.heap.size + 1, 5, none⟩ = some (.int .u32 0) := HZ.out.c 5
  have g5 : W.frozen? ⟨w.heap.size + 1, 5, none⟩ = false := HZ.out.f 5
  go_enter Tryz.func94, Tryz.ntmps94
  go_wp2
  have HZ2 := Lib.hid (blk_other (blk_other HZ.out (p := ⟨w.heap.size, 2, none⟩) (show w.heap.size + 1 ≠ w.heap.size by omega) (.bool true)) (p := ⟨w.heap.size, 3, none⟩) (show w.heap.size + 1 ≠ w.heap.size by omega) (.int .u32 v.toNat))
  have HR := setL_blk (y := set 129 x v) HZ2.out
  have HB2 := (HB.out.setCell (p := ⟨w.heap.size, 2, none⟩) (Nat.le_refl _) (.bool true)).setCell (p := ⟨w.heap.size, 3, none⟩) (Nat.le_refl _) (.int .u32 v.toNat)
  have HBe := setL_below HB2 HB2.size (g := w.heap.size + 1) (Nat.le_succ _) (lv (set 129 x v))
  refine bodyPost_ret (results_cell_row rfl _ _ (w.heap.size + 1) _ _ _ _ rfl HR Tryz.underlying52 rfl (by kernel_rfl)) rfl ?_
  exact ⟨rfl, HBe⟩
set_option maxHeartbeats 1000000 in
set_option maxRecDepth 100000 in
theorem with3 (x : Ipc) (v : UInt32) (w : World) : Calls Tryz.prog 96 #[.agg #[Value.bool x.ha, .int .u32 x.addr.toNat, .bool x.h1, .int .u32 x.dns1.toNat, .bool x.h2, .int .u32 x.dns2.toNat], .int .u32 v.toNat] w (WithQ 131 x v w) := by
  show Calls Tryz.prog 96 #[.agg #[Value.bool x.ha, .int .u32 x.addr.toNat, .bool x.h1, .int .u32 x.dns1.toNat, .bool x.h2, .int .u32 x.dns2.toNat], .int .u32 v.toNat] w fun e w' => e = .returned (.agg #[Value.bool x.ha, .int .u32 x.addr.toNat, .bool x.h1, .int .u32 x.dns1.toNat, .bool true, .int .u32 v.toNat]) ∧ Below w.heap.size w w'
  obtain ⟨W, hW, HW⟩ := boxL2 w x
  have HX := Lib.hid HW.out.1
  have HZ := Lib.hid HW.out.2.1
  have HB := Lib.hid HW.out.2.2
  clear HW
  have c0 : W.cell? ⟨w.heap.size, 0, none⟩ = some (Value.bool x.ha) := HX.out.c 0
  have c1 : W.cell? ⟨w.heap.size, 1, none⟩ = some (.int .u32 x.addr.toNat) := HX.out.c 1
  have c2 : W.cell? ⟨w.heap.size, 2, none⟩ = some (.bool x.h1) := HX.out.c 2
  have c3 : W.cell? ⟨w.heap.size, 3, none⟩ = some (.int .u32 x.dns1.toNat) := HX.out.c 3
  have c4 : W.cell? ⟨w.heap.size, 4, none⟩ = some (.bool x.h2) := HX.out.c 4
  have c5 : W.cell? ⟨w.heap.size, 5, none⟩ = some (.int .u32 x.dns2.toNat) := HX.out.c 5
  have f0 : W.frozen? ⟨w.heap.size, 4, none⟩ = false := HX.out.f 4
  have f1 : W.frozen? ⟨w.heap.size, 5, none⟩ = false := HX.out.f 5
  have d0 : W.cell? ⟨w.heap.size + 1, 0, none⟩ = some (Value.bool false) := HZ.out.c 0
  have g0 : W.frozen? ⟨w.heap.size + 1, 0, none⟩ = false := HZ.out.f 0
  have d1 : W.cell? ⟨w.heap.size + 1, 1, none⟩ = some (.int .u32 0) := HZ.out.c 1
  have g1 : W.frozen? ⟨w.heap.size + 1, 1, none⟩ = false := HZ.out.f 1
  have d2 : W.cell? ⟨w.heap.size + 1, 2, none⟩ = some (.bool false) := HZ.out.c 2
  have g2 : W.frozen? ⟨w.heap.size + 1, 2, none⟩ = false := HZ.out.f 2
  have d3 : W.cell? ⟨w.heap.size + 1, 3, none⟩ = some (.int .u32 0) := HZ.out.c 3
  have g3 : W.frozen? ⟨w.heap.size + 1, 3, none⟩ = false := HZ.out.f 3
  have d4 : W.cell? ⟨w.heap.size + 1, 4, none⟩ = some (.bool false) := HZ.out.c 4
  have g4 : W.frozen? ⟨w.heap.size + 1, 4, none⟩ = false := HZ.out.f 4
  have d5 : W.cell? ⟨w.heap.size + 1, 5, none⟩ = some (.int .u32 0) := HZ.out.c 5
  have g5 : W.frozen? ⟨w.heap.size + 1, 5, none⟩ = false := HZ.out.f 5
  go_enter Tryz.func96, Tryz.ntmps96
  go_wp2
  have HZ2 := Lib.hid (blk_other (blk_other HZ.out (p := ⟨w.heap.size, 4, none⟩) (show w.heap.size + 1 ≠ w.heap.size by omega) (.bool true)) (p := ⟨w.heap.size, 5, none⟩) (show w.heap.size + 1 ≠ w.heap.size by omega) (.int .u32 v.toNat))
  have HR := setL_blk (y := set 131 x v) HZ2.out
  have HB2 := (HB.out.setCell (p := ⟨w.heap.size, 4, none⟩) (Nat.le_refl _) (.bool true)).setCell (p := ⟨w.heap.size, 5, none⟩) (Nat.le_refl _) (.int .u32 v.toNat)
  have HBe := setL_below HB2 HB2.size (g := w.heap.size + 1) (Nat.le_succ _) (lv (set 131 x v))
  refine bodyPost_ret (results_cell_row rfl _ _ (w.heap.size + 1) _ _ _ _ rfl HR Tryz.underlying52 rfl (by kernel_rfl)) rfl ?_
  exact ⟨rfl, HBe⟩
/-- The three, as they are made. -/
def msV : Value := .agg #[.int .u8 3, .func (.func 91) #[] #[], .func (.func 92) #[] #[], .int .u8 129, .func (.func 93) #[] #[], .func (.func 94) #[] #[], .int .u8 131, .func (.func 95) #[] #[], .func (.func 96) #[] #[]]
set_option maxRecDepth 100000 in
theorem meanings_any (w : World) : Calls Tryz.prog 74 #[] w fun e w' => e = .returned msV ∧ Below w.heap.size w w' := by
  go_enter Tryz.func74, Tryz.ntmps74
  go_wp2
  refine bodyPost_ret (results_cell_row rfl _ _ w.heap.size _ _ _ _ rfl (World.alloc_heap_new w _) Tryz.underlying162 rfl (by kernel_rfl)) rfl ?_
  exact ⟨rfl, (Below.refl _ _).alloc (Nat.le_refl _) _⟩
/-- Of which type the k-th of the three is, and its functions. -/
def kd (k : Nat) : UInt8 := six.getD k 0
def fS (k : Nat) : FuncId := if k = 0 then 91 else if k = 1 then 93 else 95
def fW (k : Nat) : FuncId := if k = 0 then 92 else if k = 1 then 94 else 96
/-- The k-th of the three. -/
def mV (k : Nat) : List Value := [.int .u8 (kd k).toNat, .func (.func (fS k)) #[] #[], .func (.func (fW k)) #[] #[]]
theorem said_any (k : Nat) (hk : k < 3) (x : Ipc) (w : World) : Calls Tryz.prog (fS k) #[.agg (lv x).toArray] w (SaidQ (kd k) x w) := by
  rcases (show k = 0 ∨ k = 1 ∨ k = 2 by omega) with rfl | rfl | rfl
  · exact said1 x w
  · exact said2 x w
  · exact said3 x w
theorem with_any (k : Nat) (hk : k < 3) (x : Ipc) (v : UInt32) (w : World) : Calls Tryz.prog (fW k) #[.agg (lv x).toArray, .int .u32 v.toNat] w (WithQ (kd k) x v w) := by
  rcases (show k = 0 ∨ k = 1 ∨ k = 2 by omega) with rfl | rfl | rfl
  · exact with1 x v w
  · exact with2 x v w
  · exact with3 x v w
set_option maxRecDepth 100000 in
theorem said_enters (k : Nat) (hk : k < 3) : ∀ args w, (callFunc (fS k) args).run Tryz.prog w = .ok (.enter (fS k) args) w := by
  rcases (show k = 0 ∨ k = 1 ∨ k = 2 by omega) with rfl | rfl | rfl
  all_goals exact fun args w => by kernel_rfl
set_option maxRecDepth 100000 in
theorem with_enters (k : Nat) (hk : k < 3) : ∀ args w, (callFunc (fW k) args).run Tryz.prog w = .ok (.enter (fW k) args) w := by
  rcases (show k = 0 ∨ k = 1 ∨ k = 2 by omega) with rfl | rfl | rfl
  all_goals exact fun args w => by kernel_rfl
set_option maxRecDepth 100000 in
theorem index_ms (k : Nat) (hk : k < 3) (w : World) : (Instr.index 162 msV (.int .i64 (k : Nat))).run Tryz.prog w = .ok (.agg (mV k).toArray) w := by
  rcases (show k = 0 ∨ k = 1 ∨ k = 2 by omega) with rfl | rfl | rfl
  all_goals kernel_rfl
end Go.Proofs.YtikcgcgbcolndaaGreat.Ipc

/- A policy in a block. -/
namespace Go.Proofs.YtikcgcgbcolndaaGreat.Ipp
open Go.RowKit Go.Proofs.YtikcgcgbcolndaaGreat.Oct Go.Proofs.YtikcgcgbcolndaaGreat.Row Go.Proofs.YtikcgcgbcolndaaGreat.Mem Go.Proofs.YtikcgcgbcolndaaGreat.Opt Go.Proofs.YtikcgcgbcolndaaGreat.Ipc

/-- Policy p lies in block g. -/
def PAt (w : World) (g : Nat) (p : Po) : Prop := Blk w g (pv p) 102
theorem PAt.lt {w : World} {g : Nat} {p : Po} (h : PAt w g p) : g < w.heap.size := Blk.lt h
theorem PAt.c {w : World} {g : Nat} {p : Po} (h : PAt w g p) (i : Nat) : w.cell? ⟨g, i, none⟩ = (pv p)[i]? := Blk.at_ h i
theorem PAt.f {w : World} {g : Nat} {p : Po} (h : PAt w g p) (i : Nat) : w.frozen? ⟨g, i, none⟩ = false := Blk.frozen h i
theorem PAt.moves {S : Nat → Prop} {w w' : World} {g : Nat} {p : Po} (h : PAt w g p) (hm : Moves S w w') (hs : ¬ S g) : PAt w' g p := Blk.moves h hm hs
theorem PAt.callee {w w' : World} {g : Nat} {p : Po} (h : PAt w g p) (hb : Below w.heap.size w w') : PAt w' g p := Blk.callee h hb
theorem PAt.below {w w' : World} {g n : Nat} {p : Po} (h : PAt w g p) (hb : Below n w w') (hg : g < n) : PAt w' g p := Blk.below h hb hg
theorem PAt.alloc {w : World} {g : Nat} {p : Po} (h : PAt w g p) (o : Obj) : PAt (w.alloc o) g p := Blk.alloc h o
theorem PAt.drewN {w : World} {g : Nat} {p : Po} (h : PAt w g p) (k : Nat) : PAt (w.drewN k) g p := h
theorem set_moves (w : World) (g i : Nat) (v : Value) : Moves (fun k => k = g) w (w.setCell ⟨g, i, none⟩ v) := ⟨rfl, rfl, rfl, by simp [World.setCell], fun k _ hk => Below.heap_setCell _ _ _ _ hk⟩
theorem sets_moves (g : Nat) : ∀ (vs : List Value) (w : World) (i : Nat), Moves (fun k => k = g) w (w.setCells g i vs)
  | [], w, _ => Moves.refl _ w
  | v :: vs, w, i => (set_moves w g i v).trans (sets_moves g vs _ _) (fun _ _ h => h)
theorem Blk.mid {w : World} {g : Nat} {cs : List Value} {t : TypeId} (h : Blk w g cs t) (o n : Nat) : w.rangeAt g o ((cs.drop o).take n) := fun j v hv => by
  obtain ⟨hj, _⟩ := List.getElem?_eq_some_iff.1 hv
  rw [List.length_take] at hj
  rw [List.getElem?_take_of_lt (by omega), List.getElem?_drop] at hv
  rw [Blk.at_ h, hv]
theorem Blk.there {w : World} {g : Nat} {cs : List Value} {t : TypeId} (h : Blk w g cs t) (o n : Nat) (hn : o + n ≤ cs.length) : w.there g o n := fun j hj => by
  refine ⟨?_, Blk.frozen h _⟩
  rw [Blk.at_ h, List.getElem?_eq_getElem (by omega)]
  rfl
theorem PAt.conf {w : World} {g : Nat} {p : Po} (h : PAt w g p) : w.rangeAt g 6 (cv p.c) := Blk.mid h 6 6
theorem PAt.mine {w : World} {g : Nat} {p : Po} (h : PAt w g p) : w.rangeAt g 12 (lv p.mine) := Blk.mid h 12 6
theorem PAt.peer {w : World} {g : Nat} {p : Po} (h : PAt w g p) : w.rangeAt g 18 (lv p.peer) := Blk.mid h 18 6
theorem PAt.setMine {w : World} {g : Nat} {p : Po} (h : PAt w g p) (x : Ipc) : PAt (w.setCells g 12 (lv x)) g { p with mine := x } :=
  (((((Blk.set h 12 (.bool x.ha)).set 13 (.int .u32 x.addr.toNat)).set 14 (.bool x.h1)).set 15 (.int .u32 x.dns1.toNat)).set 16 (.bool x.h2)).set 17 (.int .u32 x.dns2.toNat)
theorem PAt.setPeer {w : World} {g : Nat} {p : Po} (h : PAt w g p) (x : Ipc) : PAt (w.setCells g 18 (lv x)) g { p with peer := x } :=
  (((((Blk.set h 18 (.bool x.ha)).set 19 (.int .u32 x.addr.toNat)).set 20 (.bool x.h1)).set 21 (.int .u32 x.dns1.toNat)).set 22 (.bool x.h2)).set 23 (.int .u32 x.dns2.toNat)
theorem PAt.setHa {w : World} {g : Nat} {p : Po} (h : PAt w g p) (v : Bool) : PAt (w.setCell ⟨g, 0, none⟩ (.bool v)) g { p with w := { p.w with ha := v } } := Blk.set h 0 (.bool v)
theorem PAt.setAddr {w : World} {g : Nat} {p : Po} (h : PAt w g p) (v : UInt32) : PAt (w.setCell ⟨g, 1, none⟩ (.int .u32 v.toNat)) g { p with w := { p.w with addr := v } } := Blk.set h 1 (.int .u32 v.toNat)
theorem PAt.setH1 {w : World} {g : Nat} {p : Po} (h : PAt w g p) (v : Bool) : PAt (w.setCell ⟨g, 2, none⟩ (.bool v)) g { p with w := { p.w with h1 := v } } := Blk.set h 2 (.bool v)
theorem PAt.setDns1 {w : World} {g : Nat} {p : Po} (h : PAt w g p) (v : UInt32) : PAt (w.setCell ⟨g, 3, none⟩ (.int .u32 v.toNat)) g { p with w := { p.w with dns1 := v } } := Blk.set h 3 (.int .u32 v.toNat)
theorem PAt.setH2 {w : World} {g : Nat} {p : Po} (h : PAt w g p) (v : Bool) : PAt (w.setCell ⟨g, 4, none⟩ (.bool v)) g { p with w := { p.w with h2 := v } } := Blk.set h 4 (.bool v)
theorem PAt.setDns2 {w : World} {g : Nat} {p : Po} (h : PAt w g p) (v : UInt32) : PAt (w.setCell ⟨g, 5, none⟩ (.int .u32 v.toNat)) g { p with w := { p.w with dns2 := v } } := Blk.set h 5 (.int .u32 v.toNat)
theorem PAt.setNaks {w : World} {g : Nat} {p : Po} (h : PAt w g p) (n : Nat) : PAt (w.setCell ⟨g, 24, none⟩ (.int .i64 n)) g { p with naks := n } := Blk.set h 24 (.int .i64 n)
/-- The wishes' cells. -/
theorem PAt.wish {w : World} {g : Nat} {p : Po} (h : PAt w g p) : w.cell? ⟨g, 0, none⟩ = some (Value.bool p.w.ha) ∧ w.cell? ⟨g, 1, none⟩ = some (.int .u32 p.w.addr.toNat) ∧ w.cell? ⟨g, 2, none⟩ = some (Value.bool p.w.h1) ∧ w.cell? ⟨g, 3, none⟩ = some (.int .u32 p.w.dns1.toNat) ∧ w.cell? ⟨g, 4, none⟩ = some (Value.bool p.w.h2) ∧ w.cell? ⟨g, 5, none⟩ = some (.int .u32 p.w.dns2.toNat) :=
  ⟨h.c 0, h.c 1, h.c 2, h.c 3, h.c 4, h.c 5⟩
/-- Any struct's cells. -/
theorem cells6 {w : World} {g : Nat} {x : Ipc} (h : LAt w g x) : w.cell? ⟨g, 0, none⟩ = some (Value.bool x.ha) ∧ w.cell? ⟨g, 1, none⟩ = some (.int .u32 x.addr.toNat) ∧ w.cell? ⟨g, 2, none⟩ = some (Value.bool x.h1) ∧ w.cell? ⟨g, 3, none⟩ = some (.int .u32 x.dns1.toNat) ∧ w.cell? ⟨g, 4, none⟩ = some (Value.bool x.h2) ∧ w.cell? ⟨g, 5, none⟩ = some (.int .u32 x.dns2.toNat) :=
  ⟨h.c 0, h.c 1, h.c 2, h.c 3, h.c 4, h.c 5⟩
/-- An answer that is a struct of six cells in a named result's block. -/
theorem res_ipc {f : Func} {p : Nat} {ty : TypeId} (hf : f.results = #[.cell p ty]) (tmps : Array Value) (W : World) (g : Nat) (x : Ipc) (hp : tmps.getD p undef = .pointer (some ⟨g, 0, none⟩)) (h : LAt W g x) (hu : Tryz.prog.underlying ty = Tryz.prog.underlying 52) (hi : (Tryz.prog.info? ty).map (·.size) = some 6) :
    (results f tmps).run Tryz.prog W = .ok (.agg (lv x).toArray) W := by
  rw [Tryz.underlying52] at hu
  exact results_cell_row hf tmps W g _ _ _ _ hp h hu rfl hi
set_option maxRecDepth 100000 in
theorem ipc_size (x : Ipc) : (Tryz.prog.info? 52).map (·.size) = some (lv x).toArray.size := by
  rw [List.size_toArray]
  kernel_rfl
theorem lv_one (x : Ipc) : (lv x).toArray.all (·.oneCell') = true := by
  refine all_oneCell_toArray fun v hv => ?_
  unfold lv at hv
  simp only [List.mem_cons, List.not_mem_nil, or_false] at hv
  rcases hv with rfl | rfl | rfl | rfl | rfl | rfl <;> rfl
theorem LAt.moves {S : Nat → Prop} {w w' : World} {g : Nat} {x : Ipc} (h : LAt w g x) (hm : Moves S w w') (hs : ¬ S g) : LAt w' g x := Blk.moves h hm hs
theorem lat_row {W : World} {g : Nat} {x : Ipc} (h : LAt W g x) (y : Ipc) : LAt (W.setRow g (lv y).toArray) g y := Blk.setRow h (lv y)
set_option maxRecDepth 100000 in
/-- The end: the struct was laid over the named result's. -/
theorem bet_res {f : Func} {p g0 : Nat} (hf : f.results = #[.cell p 52]) (tmps : Array Value) {W : World} {z : Ipc} (y : Ipc) (h : LAt W g0 z) (hp : tmps.getD p undef = .pointer (some ⟨g0, 0, none⟩)) :
    (results f tmps).run Tryz.prog (W.setRow g0 (lv y).toArray) = .ok (.agg (lv y).toArray) (W.setRow g0 (lv y).toArray) := res_ipc hf tmps _ g0 y hp (lat_row h y) rfl (by kernel_rfl)
/-- What a function of the map says: a struct. -/
def BetQ (y : Ipc) (w : World) (e : Ending) (w' : World) : Prop := e = .returned (.agg (lv y).toArray) ∧ Below w.heap.size w w'
theorem bet_q {w W : World} {g0 : Nat} (y : Ipc) (hB : Below w.heap.size w W) (hg : w.heap.size ≤ g0) : BetQ y w (.returned (.agg (lv y).toArray)) (W.setRow g0 (lv y).toArray) :=
  ⟨rfl, hB.trans ((moves_row W g0 _).below hB.size fun k e => by rw [e]; exact hg)⟩
theorem u32_ne0 (v : UInt32) : ((v.toNat : Int) != 0) = (v != 0) := by
  rw [Bool.eq_iff_iff, bne_iff_ne, bne_iff_ne]
  exact ⟨fun h e => h (by rw [e]; rfl), fun h e => h (UInt32.toNat_inj.1 (by show v.toNat = 0; omega))⟩
theorem u32_eq0 (v : UInt32) : ((v.toNat : Int) == 0) = (v == 0) := by
  rw [Bool.eq_iff_iff, beq_iff_eq, beq_iff_eq]
  exact ⟨fun h => UInt32.toNat_inj.1 (by show v.toNat = 0; omega), fun e => by rw [e]; rfl⟩
end Go.Proofs.YtikcgcgbcolndaaGreat.Ipp

/- Contracts: cmp.Or at numbers, the functions that better an option. -/
namespace Go.Proofs.YtikcgcgbcolndaaGreat.Ipp
open Go.RowKit Go.Proofs.YtikcgcgbcolndaaGreat.Oct Go.Proofs.YtikcgcgbcolndaaGreat.Row Go.Proofs.YtikcgcgbcolndaaGreat.Mem Go.Proofs.YtikcgcgbcolndaaGreat.Opt Go.Proofs.YtikcgcgbcolndaaGreat.Ipc

theorem cell_alloc {w : World} {p : Addr} {v : Value} (h : w.cell? p = some v) (o : Obj) : (w.alloc o).cell? p = some v := (((Below.refl _ w).alloc (Nat.le_refl _) o).cell (World.block_lt_of_cell? _ _ h)).trans h
/-- Two numbers in a block. -/
def Two32 (w : World) (g : Nat) (a b : UInt32) : Prop := Blk w g [.int .u32 a.toNat, .int .u32 b.toNat] 23
set_option maxHeartbeats 1000000 in
set_option maxRecDepth 100000 in
theorem or_any (a b : UInt32) (g : Nat) (w : World) (h : Two32 w g a b) : Calls Tryz.prog 249 #[.slice (some ⟨g, 0, none⟩) 2 2] w fun e w' => e = .returned (.int .u32 (or32 a b).toNat) ∧ w' = w := by
  have c0 : w.cell? ⟨g, 0, none⟩ = some (.int .u32 a.toNat) := Blk.at_ h 0
  have c1 : w.cell? ⟨g, 1, none⟩ = some (.int .u32 b.toNat) := Blk.at_ h 1
  have ha := u32_ne0 a
  have hb := u32_ne0 b
  clear h
  go_enter Tryz.func249, Tryz.ntmps249
  go_wp2
  go_loopw [8] (fun i wr => ∃ k : Nat, k ≤ 2 ∧ i = .int .i64 k ∧ Hid ((1 ≤ k → a = 0) ∧ (k = 2 → b = 0)) ∧ w = wr) (fun i _ => 2 - (intOf i).toNat)
  case atStart => exact ⟨0, Nat.zero_le _, rfl, ⟨fun h => absurd h (by omega), fun h => absurd h (by omega)⟩, rfl⟩
  case round =>
    obtain ⟨k, hk, rfl, HT, rfl⟩ := hrel
    by_cases h0 : k = 0
    · subst h0
      clear hk
      cases e : (a != 0)
      · rw [e] at ha
        have HA : Hid (a = 0) := bne0 e
        clear e
        go_wp2
        go_roundw
        case rel => exact ⟨1, by omega, by go_num, ⟨fun _ => HA.out, fun h => absurd h (by omega)⟩, by trivial⟩
        case measure => simp [intOf]
      · rw [e] at ha
        have HA : Hid (or32 a b = a) := if_neg (bne_iff_ne.1 e)
        clear e
        go_wp2
        go_ret
        exact ⟨by rw [HA.out] <;> rfl, rfl⟩
    · by_cases h1 : k = 1
      · subst h1
        have HA : Hid (or32 a b = b) := if_pos (HT.out.1 (Nat.le_refl _))
        clear hk h0
        cases e : (b != 0)
        · rw [e] at hb
          have HA : Hid (b = 0) := bne0 e
          clear e
          go_wp2
          go_roundw
          case rel => exact ⟨2, by omega, by go_num, ⟨fun _ => HT.out.1 (Nat.le_refl _), fun _ => HA.out⟩, by trivial⟩
          case measure => simp [intOf]
        · rw [e] at hb
          clear e
          go_wp2
          go_ret
          exact ⟨by rw [HA.out] <;> rfl, rfl⟩
      · obtain rfl : k = 2 := by omega
        have HA : Hid (or32 a b = 0) := by
          show _ = _
          rw [show or32 a b = b from if_pos (HT.out.1 (by omega)), HT.out.2 rfl]
        clear hk h0 h1
        go_wp2
        go_ret
        exact ⟨by rw [HA.out] <;> rfl, rfl⟩
set_option maxHeartbeats 2000000 in
set_option maxRecDepth 100000 in
theorem bet_addr (g : Nat) (p : Po) (x : Ipc) (w : World) (h : PAt w g p) : Calls Tryz.prog 243 #[.pointer (some ⟨g, 0, none⟩), .agg (lv x).toArray] w (BetQ (bet p 3 x) w) := by
  show Calls Tryz.prog 243 #[.pointer (some ⟨g, 0, none⟩), .agg #[Value.bool x.ha, .int .u32 x.addr.toNat, .bool x.h1, .int .u32 x.dns1.toNat, .bool x.h2, .int .u32 x.dns2.toNat]] w (BetQ ⟨or32 p.c.peer x.addr != 0, or32 p.c.peer x.addr, false, 0, false, 0⟩ w)
  obtain ⟨W, hW, HW⟩ := boxL2 w x
  have C1 := Lib.hid (or_any p.c.peer x.addr)
  obtain ⟨v, hv⟩ : ∃ v, or32 p.c.peer x.addr = v := ⟨_, rfl⟩
  rw [hv] at C1 ⊢
  clear hv
  have hn := u32_ne0 v
  have HP : Hid (PAt W g p) := h.callee HW.out.2.2
  have HB := Lib.hid HW.out.2.2
  have HZ := Lib.hid HW.out.2.1
  have p7 : W.drew.cell? ⟨g, 7, none⟩ = some (.int .u32 p.c.peer.toNat) := HP.out.c 7
  have x1 : W.drew.cell? ⟨w.heap.size, 1, none⟩ = some (.int .u32 x.addr.toNat) := HW.out.1.c 1
  have HA : Hid (∀ U : World, Two32 (U.alloc (.cells #[.int .u32 p.c.peer.toNat, .int .u32 x.addr.toNat] 23)).drew U.heap.size p.c.peer x.addr) := fun U => blk_new U [.int .u32 p.c.peer.toNat, .int .u32 x.addr.toNat] _
  clear h HW
  go_enter Tryz.func243, Tryz.ntmps243
  go_wp2
  clear hW
  go_region_held3 (fun w' => w'.cell? ⟨g, 7, none⟩ = some (.int .u32 p.c.peer.toNat) ∧ w'.cell? ⟨w.heap.size, 1, none⟩ = some (.int .u32 x.addr.toNat))
    (first | assumption | (refine ⟨?_, ?_⟩ <;> assumption) | (go_split_ands; refine ⟨?_, ?_⟩ <;> assumption) | (go_split_ands; refine ⟨?_, ?_⟩ <;> (apply cell_alloc; assumption)))
    (first
      | (go_at_call 249; (refine (C1.out _ _ (HA.out _)).mono ?_; rintro e w6 ⟨rfl, rfl⟩; have HB6 := Lib.hid (HB.out.alloc HB.out.size (.cells #[.int .u32 p.c.peer.toNat, .int .u32 x.addr.toNat] 23)).drew; have HZ6 : Hid (LAt (W.alloc (.cells #[.int .u32 p.c.peer.toNat, .int .u32 x.addr.toNat] 23)).drew (w.heap.size + 1) lz) := Blk.drew (HZ.out.alloc (.cells #[.int .u32 p.c.peer.toNat, .int .u32 x.addr.toNat] 23))))
      | fail)
  generalize (W.alloc (.cells #[.int .u32 p.c.peer.toNat, .int .u32 x.addr.toNat] 23)).drew = U at *
  go_wp2_with (first
    | (refine wpList_store_row rfl 52 _ _ rfl (w.heap.size + 1) (lv ⟨v != 0, v, false, 0, false, 0⟩).toArray rfl rfl 52 _ HZ6.out (ipc_size _) rfl (lv_one _) ?_))
  (try simp only [Exit.inBlock, Exit.then])
  refine bodyPost_ret (bet_res rfl _ _ HZ6.out rfl) rfl ?_
  exact bet_q _ HB6.out (Nat.le_succ _)
set_option maxHeartbeats 2000000 in
set_option maxRecDepth 100000 in
theorem bet_dns1 (g : Nat) (p : Po) (x : Ipc) (w : World) (h : PAt w g p) : Calls Tryz.prog 247 #[.pointer (some ⟨g, 0, none⟩), .agg (lv x).toArray] w (BetQ (bet p 129 x) w) := by
  show Calls Tryz.prog 247 #[.pointer (some ⟨g, 0, none⟩), .agg #[Value.bool x.ha, .int .u32 x.addr.toNat, .bool x.h1, .int .u32 x.dns1.toNat, .bool x.h2, .int .u32 x.dns2.toNat]] w (BetQ ⟨false, 0, p.c.dns1 != 0, p.c.dns1, false, 0⟩ w)
  obtain ⟨W, hW, HW⟩ := boxL2 w x
  have HP : Hid (PAt W g p) := h.callee HW.out.2.2
  have HB := Lib.hid HW.out.2.2
  have HZ : Hid (LAt W (w.heap.size + 1) lz) := HW.out.2.1
  have HS := Lib.hid HW.out.2.2.size
  have hgl : ¬ g = w.heap.size + 1 := by have := h.lt; omega
  have hgl2 : ¬ w.heap.size + 1 = g := fun e => hgl e.symm
  obtain ⟨v, hv⟩ : ∃ v, p.c.dns1 = v := ⟨_, rfl⟩
  have hn := u32_ne0 v
  have pc : W.cell? ⟨g, 8, none⟩ = some (.int .u32 v.toNat) := by rw [← hv]; exact HP.out.c 8
  rw [hv]
  obtain ⟨z0, z1, z2, z3, z4, z5⟩ := cells6 HW.out.2.1
  have f0 := HW.out.2.1.f 0
  have f1 := HW.out.2.1.f 1
  have f2 := HW.out.2.1.f 2
  have f3 := HW.out.2.1.f 3
  have f4 := HW.out.2.1.f 4
  have f5 := HW.out.2.1.f 5
  clear h HW hv
  go_enter Tryz.func247, Tryz.ntmps247
  go_wp2
  clear hW
  go_region
  go_wp2
  (try simp only [Exit.inBlock, Exit.then])
  have HF := Lib.hid ((((((Blk.set HZ.out 0 (.bool false)).set 1 (.int .u32 0)).set 2 (.bool (v != 0))).set 3 (.int .u32 v.toNat)).set 4 (.bool false)).set 5 (.int .u32 0))
  have HE := Lib.hid ((((((HB.out.setCell (p := ⟨w.heap.size + 1, 0, none⟩) (Nat.le_succ _) (.bool false)).setCell (p := ⟨w.heap.size + 1, 1, none⟩) (Nat.le_succ _) (.int .u32 0)).setCell (p := ⟨w.heap.size + 1, 2, none⟩) (Nat.le_succ _) (.bool (v != 0))).setCell (p := ⟨w.heap.size + 1, 3, none⟩) (Nat.le_succ _) (.int .u32 v.toNat)).setCell (p := ⟨w.heap.size + 1, 4, none⟩) (Nat.le_succ _) (.bool false)).setCell (p := ⟨w.heap.size + 1, 5, none⟩) (Nat.le_succ _) (.int .u32 0))
  refine bodyPost_ret (results_cell_row rfl _ _ (w.heap.size + 1) _ _ _ _ rfl (Blk.drew HF.out) Tryz.underlying52 rfl (by kernel_rfl)) rfl ?_
  exact ⟨rfl, HE.out.drew⟩
set_option maxHeartbeats 2000000 in
set_option maxRecDepth 100000 in
theorem bet_dns2 (g : Nat) (p : Po) (x : Ipc) (w : World) (h : PAt w g p) : Calls Tryz.prog 251 #[.pointer (some ⟨g, 0, none⟩), .agg (lv x).toArray] w (BetQ (bet p 131 x) w) := by
  show Calls Tryz.prog 251 #[.pointer (some ⟨g, 0, none⟩), .agg #[Value.bool x.ha, .int .u32 x.addr.toNat, .bool x.h1, .int .u32 x.dns1.toNat, .bool x.h2, .int .u32 x.dns2.toNat]] w (BetQ ⟨false, 0, false, 0, p.c.dns2 != 0, p.c.dns2⟩ w)
  obtain ⟨W, hW, HW⟩ := boxL2 w x
  have HP : Hid (PAt W g p) := h.callee HW.out.2.2
  have HB := Lib.hid HW.out.2.2
  have HZ : Hid (LAt W (w.heap.size + 1) lz) := HW.out.2.1
  have HS := Lib.hid HW.out.2.2.size
  have hgl : ¬ g = w.heap.size + 1 := by have := h.lt; omega
  have hgl2 : ¬ w.heap.size + 1 = g := fun e => hgl e.symm
  obtain ⟨v, hv⟩ : ∃ v, p.c.dns2 = v := ⟨_, rfl⟩
  have hn := u32_ne0 v
  have pc : W.cell? ⟨g, 9, none⟩ = some (.int .u32 v.toNat) := by rw [← hv]; exact HP.out.c 9
  rw [hv]
  obtain ⟨z0, z1, z2, z3, z4, z5⟩ := cells6 HW.out.2.1
  have f0 := HW.out.2.1.f 0
  have f1 := HW.out.2.1.f 1
  have f2 := HW.out.2.1.f 2
  have f3 := HW.out.2.1.f 3
  have f4 := HW.out.2.1.f 4
  have f5 := HW.out.2.1.f 5
  clear h HW hv
  go_enter Tryz.func251, Tryz.ntmps251
  go_wp2
  clear hW
  go_region
  go_wp2
  (try simp only [Exit.inBlock, Exit.then])
  have HF := Lib.hid ((((((Blk.set HZ.out 0 (.bool false)).set 1 (.int .u32 0)).set 2 (.bool false)).set 3 (.int .u32 0)).set 4 (.bool (v != 0))).set 5 (.int .u32 v.toNat))
  have HE := Lib.hid ((((((HB.out.setCell (p := ⟨w.heap.size + 1, 0, none⟩) (Nat.le_succ _) (.bool false)).setCell (p := ⟨w.heap.size + 1, 1, none⟩) (Nat.le_succ _) (.int .u32 0)).setCell (p := ⟨w.heap.size + 1, 2, none⟩) (Nat.le_succ _) (.bool false)).setCell (p := ⟨w.heap.size + 1, 3, none⟩) (Nat.le_succ _) (.int .u32 0)).setCell (p := ⟨w.heap.size + 1, 4, none⟩) (Nat.le_succ _) (.bool (v != 0))).setCell (p := ⟨w.heap.size + 1, 5, none⟩) (Nat.le_succ _) (.int .u32 v.toNat))
  refine bodyPost_ret (results_cell_row rfl _ _ (w.heap.size + 1) _ _ _ _ rfl (Blk.drew HF.out) Tryz.underlying52 rfl (by kernel_rfl)) rfl ?_
  exact ⟨rfl, HE.out.drew⟩
end Go.Proofs.YtikcgcgbcolndaaGreat.Ipp

/- Contracts of made, New. -/
namespace Go.Proofs.YtikcgcgbcolndaaGreat.Ipp
open Go.RowKit Go.Proofs.YtikcgcgbcolndaaGreat.Oct Go.Proofs.YtikcgcgbcolndaaGreat.Row Go.Proofs.YtikcgcgbcolndaaGreat.Mem Go.Proofs.YtikcgcgbcolndaaGreat.Opt Go.Proofs.YtikcgcgbcolndaaGreat.Ipc

def zc : Conf := ⟨0, 0, 0, 0, false, 0⟩
def zp : Po := ⟨lz, zc, lz, lz, 0⟩
/-- A configuration in a block. -/
def CAt (w : World) (g : Nat) (c : Conf) : Prop := Blk w g (cv c) 48
theorem CAt.all {w : World} {g : Nat} {c : Conf} (h : CAt w g c) : w.cell? ⟨g, 0, none⟩ = some (.int .u32 c.addr.toNat) ∧ w.cell? ⟨g, 1, none⟩ = some (.int .u32 c.peer.toNat) ∧ w.cell? ⟨g, 2, none⟩ = some (.int .u32 c.dns1.toNat) ∧ w.cell? ⟨g, 3, none⟩ = some (.int .u32 c.dns2.toNat) ∧ w.cell? ⟨g, 4, none⟩ = some (.bool c.want) ∧ w.cell? ⟨g, 5, none⟩ = some (.int .i64 c.mn) := ⟨Blk.at_ h 0, Blk.at_ h 1, Blk.at_ h 2, Blk.at_ h 3, Blk.at_ h 4, Blk.at_ h 5⟩
theorem CAt.callee {w w' : World} {g : Nat} {c : Conf} (h : CAt w g c) (hb : Below w.heap.size w w') : CAt w' g c := Blk.callee h hb
theorem cat_new (w : World) (c : Conf) : CAt (w.alloc (.cells (cv c).toArray 48)) w.heap.size c := blk_new w (cv c) _
theorem boxC (w : World) (c : Conf) : ∃ W, w.alloc (.cells #[Value.int .u32 c.addr.toNat, .int .u32 c.peer.toNat, .int .u32 c.dns1.toNat, .int .u32 c.dns2.toNat, .bool c.want, .int .i64 c.mn] 48) = W ∧ Hid (CAt W w.heap.size c ∧ Below w.heap.size w W ∧ W.heap.size = w.heap.size + 1) :=
  ⟨_, rfl, cat_new w c, (Below.refl w.heap.size w).alloc (Nat.le_refl _) _, by simp⟩
set_option maxRecDepth 100000 in
theorem pol_size (p : Po) : (Tryz.prog.info? 102).map (·.size) = some (pv p).toArray.size := by
  rw [List.size_toArray]
  kernel_rfl
theorem lv_ones (x : Ipc) : ∀ v ∈ lv x, v.oneCell' = true := by
  intro v hv
  unfold lv at hv
  simp only [List.mem_cons, List.not_mem_nil, or_false] at hv
  rcases hv with rfl | rfl | rfl | rfl | rfl | rfl <;> rfl
theorem cv_ones (c : Conf) : ∀ v ∈ cv c, v.oneCell' = true := by
  intro v hv
  unfold cv at hv
  simp only [List.mem_cons, List.not_mem_nil, or_false] at hv
  rcases hv with rfl | rfl | rfl | rfl | rfl | rfl <;> rfl
theorem pv_one (p : Po) : (pv p).toArray.all (·.oneCell') = true := by
  refine all_oneCell_toArray fun v hv => ?_
  unfold pv at hv
  simp only [List.mem_append] at hv
  rcases hv with h | h | h | h | h
  · exact lv_ones _ v h
  · exact cv_ones _ v h
  · exact lv_ones _ v h
  · exact lv_ones _ v h
  · simp only [List.mem_cons, List.not_mem_nil, or_false] at h
    rcases h with rfl
    rfl
theorem pat_new (w : World) (p : Po) : PAt (w.alloc (.cells (pv p).toArray 102)) w.heap.size p := blk_new w (pv p) _
theorem pat_row {W : World} {g : Nat} {p : Po} (h : PAt W g p) (q : Po) : PAt (W.setRow g (pv q).toArray) g q := Blk.setRow h (pv q)
/-- A named result that is a policy. -/
theorem pol_end {f : Func} {r : Nat} (hf : f.results = #[.cell r 102]) (tmps : Array Value) {W : World} {g : Nat} (p : Po) (h : PAt W g p) (hp : tmps.getD r undef = .pointer (some ⟨g, 0, none⟩)) :
    (results f tmps).run Tryz.prog W = .ok (.agg (pv p).toArray) W := results_cell_row hf tmps W g _ _ _ _ hp h Tryz.underlying102 rfl (pol_size p)
theorem boxCP (w : World) (c : Conf) : ∃ W, (w.alloc (.cells #[Value.int .u32 c.addr.toNat, .int .u32 c.peer.toNat, .int .u32 c.dns1.toNat, .int .u32 c.dns2.toNat, .bool c.want, .int .i64 c.mn] 48)).alloc (.cells #[Value.bool false, .int .u32 0, .bool false, .int .u32 0, .bool false, .int .u32 0, .int .u32 0, .int .u32 0, .int .u32 0, .int .u32 0, .bool false, .int .i64 0, .bool false, .int .u32 0, .bool false, .int .u32 0, .bool false, .int .u32 0, .bool false, .int .u32 0, .bool false, .int .u32 0, .bool false, .int .u32 0, .int .i64 0] 102) = W ∧ Hid (CAt W w.heap.size c ∧ PAt W (w.heap.size + 1) zp ∧ Below w.heap.size w W ∧ W.heap.size = w.heap.size + 1 + 1) :=
  ⟨_, rfl, Blk.alloc (cat_new w c) _, by have := pat_new (w.alloc (.cells (cv c).toArray 48)) zp; rw [World.size_alloc] at this; exact this, ((Below.refl w.heap.size w).alloc (Nat.le_refl _) _).alloc (by simp) _, by simp⟩
/-- The wishes in a block. -/
def WAt (w : World) (g : Nat) (x : Ipc) : Prop := Blk w g (lv x) 100
theorem wat_new (w : World) (x : Ipc) : WAt (w.alloc (.cells (lv x).toArray 100)) w.heap.size x := blk_new w (lv x) _
theorem boxW (W : World) (c : Conf) : ∃ V, W.alloc (.cells #[Value.bool true, .int .u32 c.addr.toNat, .bool c.want, .int .u32 0, .bool c.want, .int .u32 0] 100) = V ∧ Hid (WAt V W.heap.size (wish c) ∧ Below W.heap.size W V) :=
  ⟨_, rfl, wat_new W (wish c), (Below.refl _ _).alloc (Nat.le_refl _) _⟩
theorem WAt.all {w : World} {g : Nat} {c : Conf} (h : WAt w g (wish c)) : w.cell? ⟨g, 0, none⟩ = some (Value.bool true) ∧ w.cell? ⟨g, 1, none⟩ = some (.int .u32 c.addr.toNat) ∧ w.cell? ⟨g, 2, none⟩ = some (.bool c.want) ∧ w.cell? ⟨g, 3, none⟩ = some (.int .u32 0) ∧ w.cell? ⟨g, 4, none⟩ = some (.bool c.want) ∧ w.cell? ⟨g, 5, none⟩ = some (.int .u32 0) :=
  ⟨Blk.at_ h 0, Blk.at_ h 1, Blk.at_ h 2, Blk.at_ h 3, Blk.at_ h 4, Blk.at_ h 5⟩
set_option maxHeartbeats 8000000 in
set_option maxRecDepth 100000 in
theorem made_any (c : Conf) (w : World) : Calls Tryz.prog 43 #[.agg #[Value.int .u32 c.addr.toNat, .int .u32 c.peer.toNat, .int .u32 c.dns1.toNat, .int .u32 c.dns2.toNat, .bool c.want, .int .i64 c.mn]] w fun e w' => e = .returned (.agg (pv (newP c)).toArray) ∧ Below w.heap.size w w' := by
  obtain ⟨W, hW, HW⟩ := boxCP w c
  obtain ⟨c0, c1, c2, c3, c4, c5⟩ := HW.out.1.all
  have HC := Lib.hid HW.out.1
  have HP := Lib.hid HW.out.2.1
  have HB := Lib.hid HW.out.2.2.1
  obtain ⟨V, hV, HV⟩ := boxW W c
  subst hV
  have HPV := Lib.hid (HP.out.callee HV.out.2)
  have HBV := Lib.hid (HB.out.trans (HV.out.2.mono HB.out.size))
  obtain ⟨d0, d1, d2, d3, d4, d5⟩ := (HC.out.callee HV.out.2).all
  obtain ⟨x0, x1, x2, x3, x4, x5⟩ := WAt.all HV.out.1
  have HN := Lib.hid (pol_size (newP c))
  have HQ : Hid ((pv (newP c)).toArray = #[Value.bool true, .int .u32 c.addr.toNat, .bool c.want, .int .u32 0, .bool c.want, .int .u32 0, .int .u32 c.addr.toNat, .int .u32 c.peer.toNat, .int .u32 c.dns1.toNat, .int .u32 c.dns2.toNat, .bool c.want, .int .i64 c.mn, .bool false, .int .u32 0, .bool false, .int .u32 0, .bool false, .int .u32 0, .bool false, .int .u32 0, .bool false, .int .u32 0, .bool false, .int .u32 0, .int .i64 0]) := rfl
  clear HW HV HC HP HB
  go_enter Tryz.func43, Tryz.ntmps43
  go_wp2_with (refine wpList_store_row rfl 102 _ _ rfl (w.heap.size + 1) (pv (newP c)).toArray rfl (by rw [HQ.out] <;> rfl) 102 _ HPV.out HN.out rfl (pv_one _) ?_)
  (try simp only [Exit.inBlock, Exit.then])
  refine bodyPost_ret (pol_end rfl _ (newP c) (pat_row HPV.out (newP c)) rfl) rfl ?_
  exact ⟨rfl, HBV.out.trans ((moves_row _ (w.heap.size + 1) _).below HBV.out.size (fun k e => by rw [e]; exact Nat.le_succ _))⟩
set_option maxRecDepth 100000 in
theorem info_pol : (Tryz.prog.info? 102).map (fun i => (i.zero, i.size)) = some (some (.agg (pv zp).toArray), 25) := by kernel_rfl
theorem zero_pol (w : World) : (zeroValue 102).run Tryz.prog w = .ok (.agg (pv zp).toArray) w := (zero_of_info info_pol).1 w
/-- What New answers. -/
def NewQ (p : Po) (w : World) (e : Ending) (w' : World) : Prop := ∃ g, e = .returned (.tuple #[.pointer (some ⟨g, 0, none⟩), .int .i64 0]) ∧ w.heap.size ≤ g ∧ PAt w' g p ∧ Below w.heap.size w w'
set_option maxHeartbeats 4000000 in
set_option maxRecDepth 100000 in
theorem new_ok (c : Conf) (w : World) (h : mayC c = true) : Calls Tryz.prog 27 #[.agg #[Value.int .u32 c.addr.toNat, .int .u32 c.peer.toNat, .int .u32 c.dns1.toNat, .int .u32 c.dns2.toNat, .bool c.want, .int .i64 c.mn]] w (NewQ (newP c) w) := by
  obtain ⟨W, hW, HW⟩ := boxC w c
  obtain ⟨c0, c1, c2, c3, c4, c5⟩ := HW.out.1.all
  have HB := Lib.hid HW.out.2.1
  have hmn : ¬ c.mn < 1 ∧ ¬ 10 < c.mn := by unfold mayC at h; simp only [Bool.and_eq_true, decide_eq_true_eq] at h; omega
  have m1 := hmn.1
  have m2 := hmn.2
  have n1 := decide_eq_false hmn.1
  have n2 := decide_eq_false hmn.2
  have HM := Lib.hid (fun w => made_any c w)
  have HN := Lib.hid (pol_size (newP c))
  have HO := Lib.hid (pv_one (newP c))
  have HE : Hid (∀ W : World, PAt (W.alloc (.cells (pv (newP c)).toArray 102)) W.heap.size (newP c)) := fun W => pat_new W _
  have HZ : Hid ((pv zp).toArray.size = (pv (newP c)).toArray.size) := rfl
  have hz := zero_pol
  generalize (pv zp).toArray = zs at *
  generalize (pv (newP c)).toArray = cs at *
  clear h HW hmn
  go_enter Tryz.func27, Tryz.ntmps27
  go_wp2_with fail
  refine (HM.out _).mono ?_
  rintro e w2 ⟨rfl, hb2⟩
  have HB2 := Lib.hid (HB.out.trans (hb2.mono HB.out.size))
  clear hb2
  go_wp2_with (refine wpList_store_row rfl 102 _ _ rfl w2.heap.size cs rfl rfl 102 zs (World.alloc_heap_new w2 _) HN.out HZ.out HO.out ?_)
  go_ret2
  rw [World.setRow_alloc_new]
  exact ⟨_, rfl, HB2.out.size, HE.out w2, HB2.out.alloc HB2.out.size _⟩
set_option maxHeartbeats 4000000 in
set_option maxRecDepth 100000 in
theorem new_no (c : Conf) (w : World) (h : mayC c = false) : Calls Tryz.prog 27 #[.agg #[Value.int .u32 c.addr.toNat, .int .u32 c.peer.toNat, .int .u32 c.dns1.toNat, .int .u32 c.dns2.toNat, .bool c.want, .int .i64 c.mn]] w fun e w' => e = .returned (.tuple #[.pointer none, .int .i64 2]) ∧ Below w.heap.size w w' := by
  obtain ⟨W, hW, HW⟩ := boxC w c
  obtain ⟨c0, c1, c2, c3, c4, c5⟩ := HW.out.1.all
  have HB := Lib.hid HW.out.2.1
  by_cases hl : c.mn < 1
  · have n1 := decide_eq_true hl
    clear h HW
    go_enter Tryz.func27, Tryz.ntmps27
    go_wp2
    go_ret2
    exact ⟨rfl, HB.out⟩
  · have n1 := decide_eq_false hl
    have hg : 10 < c.mn := by unfold mayC at h; simp only [Bool.and_eq_false_iff, decide_eq_false_iff_not] at h; omega
    have n2 := decide_eq_true hg
    clear h HW
    go_enter Tryz.func27, Tryz.ntmps27
    go_wp2
    go_ret2
    exact ⟨rfl, HB.out⟩
end Go.Proofs.YtikcgcgbcolndaaGreat.Ipp
