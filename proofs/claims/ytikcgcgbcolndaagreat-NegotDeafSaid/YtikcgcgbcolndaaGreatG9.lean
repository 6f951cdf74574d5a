/- Put together: LcoH, LcoI. -/
import Derived.Test.YtikcgcgbcolndaaGreatG18
import Derived.Test.YtikcgcgbcolndaaGreatG33
import Derived.Maps.RangeWalk
import Derived.LoopN

/- Going over lcpopt's map: the iterator's steps; what has been gathered. -/
namespace Go.Proofs.YtikcgcgbcolndaaGreat.Lco
open Go.RowKit Go.Proofs.YtikcgcgbcolndaaGreat.Oct Go.Proofs.YtikcgcgbcolndaaGreat.Row Go.Proofs.YtikcgcgbcolndaaGreat.Mem Go.Proofs.YtikcgcgbcolndaaGreat.Opt Go.ChangeMaps

def bornOf (t : UInt8) : Nat := if t = 1 then 0 else if t = 2 then 1 else if t = 3 then 2 else if t = 5 then 3 else if t = 7 then 4 else 5
theorem born_inj8 {t u : UInt8} (ht : known t = true) (hu : known u = true) (h : bornOf t = bornOf u) : t = u := by
  rcases known_cases ht with e | e | e | e | e | e <;> subst e <;> rcases known_cases hu with e | e | e | e | e | e <;> subst e <;> first | rfl | (exfalso; revert h; decide)
theorem ents_born {e : MapEntry} (h : e ∈ ents.toList) : ∃ t, known t = true ∧ e = ⟨.int .u8 (t.toNat : Nat), pair t, bornOf t⟩ := by
  simp only [ents, List.mem_cons, List.not_mem_nil, or_false] at h
  rcases h with rfl | rfl | rfl | rfl | rfl | rfl
  · exact ⟨1, rfl, rfl⟩
  · exact ⟨2, rfl, rfl⟩
  · exact ⟨3, rfl, rfl⟩
  · exact ⟨5, rfl, rfl⟩
  · exact ⟨7, rfl, rfl⟩
  · exact ⟨8, rfl, rfl⟩
theorem born_ents {t : UInt8} (h : known t = true) : (⟨.int .u8 (t.toNat : Nat), pair t, bornOf t⟩ : MapEntry) ∈ ents.toList := by
  rcases known_cases h with e | e | e | e | e | e <;> subst e
  · exact List.mem_cons_self ..
  · exact List.mem_cons_of_mem _ (List.mem_cons_self ..)
  · exact List.mem_cons_of_mem _ (List.mem_cons_of_mem _ (List.mem_cons_self ..))
  · exact List.mem_cons_of_mem _ (List.mem_cons_of_mem _ (List.mem_cons_of_mem _ (List.mem_cons_self ..)))
  · exact List.mem_cons_of_mem _ (List.mem_cons_of_mem _ (List.mem_cons_of_mem _ (List.mem_cons_of_mem _ (List.mem_cons_self ..))))
  · exact List.mem_cons_of_mem _ (List.mem_cons_of_mem _ (List.mem_cons_of_mem _ (List.mem_cons_of_mem _ (List.mem_cons_of_mem _ (List.mem_cons_self ..)))))
theorem ents_nodup : (ents.toList.map (·.born)).Nodup := by
  show ([0, 1, 2, 3, 4, 5] : List Nat).Nodup
  decide
/-- Block r goes over the map in block m, and has handed out the entries of the types ts. -/
def It (W : World) (r m : Nat) (ts : List UInt8) : Prop := (∀ t ∈ ts, known t = true) ∧ ts.Nodup ∧ ∃ c0, 6 ≤ c0 ∧ W.heap[r]? = some (.mapIter (some m) 6 (ts.map bornOf).toArray c0)
theorem It.lt {W : World} {r m : Nat} {ts : List UInt8} (h : It W r m ts) : r < W.heap.size := by
  obtain ⟨_, _, c0, _, h⟩ := h
  exact (Array.getElem?_eq_some_iff.1 h).1
theorem It.moves {S : Nat → Prop} {W W' : World} {r m : Nat} {ts : List UInt8} (h : It W r m ts) (hm : Moves S W W') (hs : ¬ S r) : It W' r m ts := by
  have hl := h.lt
  obtain ⟨h1, h2, c0, h3, h⟩ := h
  exact ⟨h1, h2, c0, h3, (hm.block r hl hs).trans h⟩
theorem It.callee {W W' : World} {r m : Nat} {ts : List UInt8} (h : It W r m ts) (hb : Below W.heap.size W W') : It W' r m ts := h.moves (S := fun _ => False) (Moves.of_below hb) (fun x => x)
theorem It.len {W : World} {r m : Nat} {ts : List UInt8} (h : It W r m ts) : ts.length ≤ 6 := by
  have : ∀ t ∈ ts, t ∈ six := fun t ht => known_iff.1 (h.1 t ht)
  exact go this h.2.1
where
  go {ts : List UInt8} (h : ∀ t ∈ ts, t ∈ six) (hn : ts.Nodup) : ts.length ≤ 6 := by
    have h2 := nodup_len (l := ts.map fun t => ((t, ByteArray.empty) : Opt)) (m := six.map fun t => ((t, ByteArray.empty) : Opt)) (by
      rw [List.nodup_iff_pairwise_ne, List.pairwise_map]
      rw [List.nodup_iff_pairwise_ne] at hn
      exact hn.imp fun hab e => hab (congrArg Prod.fst e)) (fun o ho => by
      obtain ⟨t, ht, rfl⟩ := List.mem_map.1 ho
      exact List.mem_map.2 ⟨t, h t ht, rfl⟩)
    simpa [six] using h2
/-- How many are still to come. -/
def itLeft (W : World) (r : Nat) : Nat := match W.heap[r]? with | some (.mapIter _ _ seen _) => 6 - seen.size | _ => 0
theorem It.left {W : World} {r m : Nat} {ts : List UInt8} (h : It W r m ts) : itLeft W r = 6 - ts.length := by
  obtain ⟨_, _, c0, _, h⟩ := h
  unfold itLeft
  rw [h]
  simp
theorem it_new (W : World) (m : Nat) : It (W.alloc (.mapIter (some m) 6 #[] 6)) W.heap.size m [] := ⟨(fun _ h => by cases h), List.nodup_nil, 6, Nat.le_refl _, (MapKept.heap_alloc W _).1⟩
theorem mem_left {es : Array MapEntry} {seen : Array Nat} {e : MapEntry} (h : e ∈ (leftOf es seen).toList) : e ∈ es.toList ∧ seen.contains e.born = false := by
  unfold leftOf at h
  rw [Array.toList_filter, List.mem_filter] at h
  exact ⟨h.1, by simpa using h.2⟩
theorem left_none {es : Array MapEntry} {seen : Array Nat} (h : (leftOf es seen).size = 0) {e : MapEntry} (he : e ∈ es.toList) : seen.contains e.born = true := by
  rcases hs : seen.contains e.born with _ | _
  · have : e ∈ (leftOf es seen).toList := by
      unfold leftOf
      rw [Array.toList_filter, List.mem_filter]
      exact ⟨he, by rw [hs]; rfl⟩
    have h0 : (leftOf es seen).toList.length = 0 := by rw [Array.length_toList]; exact h
    rw [List.eq_nil_of_length_eq_zero h0] at this
    cases this
  · rfl
theorem seen_iff {ts : List UInt8} (hk : ∀ t ∈ ts, known t = true) {t : UInt8} (ht : known t = true) : (ts.map bornOf).toArray.contains (bornOf t) = true ↔ t ∈ ts := by
  rw [List.contains_toArray, List.contains_iff_mem, List.mem_map]
  constructor
  · rintro ⟨u, hu, e⟩
    rw [← born_inj8 (hk u hu) ht e]
    exact hu
  · intro h
    exact ⟨t, h, rfl⟩
/-- A step. -/
theorem next_any {W : World} {r m : Nat} {ts : List UInt8} (h : It W r m ts) (hm : Mp W m) (hne : r ≠ m) (ty : TypeId) :
    ((∀ t, known t = true → t ∈ ts) ∧ (Instr.next (.pointer (some ⟨r, 0, none⟩)) false ty).run Tryz.prog W = .ok (.tuple #[.bool false]) W) ∨
    ∃ t W', known t = true ∧ t ∉ ts ∧ (Instr.next (.pointer (some ⟨r, 0, none⟩)) false ty).run Tryz.prog W = .ok (.tuple #[.bool true, .int .u8 t.toNat, pair t]) W' ∧ It W' r m (ts ++ [t]) ∧ Moves (fun k => k = r) W W' ∧ W'.heap.size = W.heap.size ∧
      (Instr.entry (.pointer (some ⟨r, 0, none⟩))).run Tryz.prog W' = .ok (.tuple #[.int .u8 t.toNat, pair t]) W' := by
  obtain ⟨hk, hn, c0, hc, hr⟩ := h
  have hold : ∀ x ∈ ents.toList, x.born < 6 := fun x hx => by
    obtain ⟨_, _, _, _, hb⟩ := ents_mem hx
    exact hb
  rcases run_next_at (P := Tryz.prog) W ty r m 6 c0 (ts.map bornOf).toArray ents 6 hr hm hold hc with ⟨h0, hrun⟩ | ⟨e, he, w1, hal, hrun⟩
  · exact .inl ⟨fun t ht => (seen_iff hk ht).1 (left_none h0 (born_ents ht)), hrun⟩
  · obtain ⟨hem, hes⟩ := mem_left he
    obtain ⟨t, ht, rfl⟩ := ents_born hem
    have hnt : t ∉ ts := fun hx => by rw [(seen_iff hk ht).2 hx] at hes; cases hes
    have hr1 : w1.heap[r]? = some (.mapIter (some m) 6 (ts.map bornOf).toArray c0) := by rcases hal with rfl | rfl <;> exact hr
    have hb1 : w1.heap[m]? = some (.map ents 6) := by rcases hal with rfl | rfl <;> exact hm
    have hset := MapKept.heap_set (o' := .mapIter (some m) 6 ((ts.map bornOf).toArray.push (bornOf t)) 6) hr1
    have hI : (setBlock w1 r (.mapIter (some m) 6 ((ts.map bornOf).toArray.push (bornOf t)) 6)).heap[r]? = some (.mapIter (some m) 6 ((ts.map bornOf).toArray.push (bornOf t)) 6) := hset.1
    have hb2 : (setBlock w1 r (.mapIter (some m) 6 ((ts.map bornOf).toArray.push (bornOf t)) 6)).heap[m]? = some (.map ents 6) := (hset.2 m (fun e => hne e.symm)).trans hb1
    refine .inr ⟨t, _, ht, hnt, hrun, ⟨?_, ?_, 6, Nat.le_refl _, ?_⟩, ?_, ?_, run_entry_at _ r m 6 _ ents 6 ⟨.int .u8 (t.toNat : Nat), pair t, bornOf t⟩ hI hb2 hem ents_nodup⟩
    · intro u hu
      rcases List.mem_append.1 hu with hu | hu
      · exact hk u hu
      · rw [List.mem_singleton] at hu; rw [hu]; exact ht
    · rw [List.nodup_append]
      exact ⟨hn, by simp, fun a ha b hb e => by rw [List.mem_singleton] at hb; exact hnt (by rw [← hb, ← e]; exact ha)⟩
    · rw [hI]; simp
    · rcases hal with rfl | rfl <;> exact ⟨rfl, rfl, rfl, by simp [setBlock], fun k _ hk => hset.2 k hk⟩
    · rcases hal with rfl | rfl <;> simp [setBlock]
/-- What has been gathered of the types ts. -/
def gat (x : Lcp) (ts : List UInt8) : List Opt := ts.filterMap fun t => if has t x then some (t, dat t x) else none
theorem gat_snoc (x : Lcp) (ts : List UInt8) (t : UInt8) : gat x (ts ++ [t]) = if has t x then gat x ts ++ [(t, dat t x)] else gat x ts := by
  unfold gat
  rw [List.filterMap_append]
  by_cases h : has t x = true <;> simp [h]
theorem gat_len (x : Lcp) : ∀ ts : List UInt8, (gat x ts).length ≤ ts.length := fun ts => List.length_filterMap_le ..
theorem gat_done {x : Lcp} {ts : List UInt8} (hk : ∀ t ∈ ts, known t = true) (hn : ts.Nodup) (hall : ∀ t, known t = true → t ∈ ts) {l : List Opt} (hp : l.Perm (gat x ts)) (hs : Srt l) : l = put x := by
  have hm : ∀ o, o ∈ l ↔ o ∈ put x := by
    rintro ⟨t, d⟩
    rw [hp.mem_iff, mem_put]
    unfold gat
    rw [List.mem_filterMap]
    constructor
    · rintro ⟨u, hu, e⟩
      split at e
      · rename_i hh
        simp only [Option.some.injEq, Prod.mk.injEq] at e
        obtain ⟨rfl, rfl⟩ := e
        exact ⟨hk _ hu, hh, rfl⟩
      · cases e
    · rintro ⟨h1, h2, rfl⟩
      exact ⟨t, hall t h1, by rw [if_pos h2]⟩
  have hd : Dis (gat x ts) := by
    unfold Dis gat
    rw [List.nodup_iff_pairwise_ne, List.pairwise_map, List.pairwise_filterMap]
    rw [List.nodup_iff_pairwise_ne] at hn
    refine hn.imp ?_
    intro a b hab o ho p hp'
    split at ho
    · split at hp'
      · cases ho; cases hp'; exact hab
      · cases hp'
    · cases ho
  have hd2 : Dis l := by
    unfold Dis at hd ⊢
    exact ((hp.map _).nodup_iff).2 hd
  exact rise_unique (srt_rise hs hd2) (put_rise x) hm
theorem dat_size (t : UInt8) (x : Lcp) : (dat t x).size ≤ 4 := by
  unfold dat
  split
  · rw [size_bOf, numS_length]; omega
  split
  · rw [size_bOf, numS_length]; omega
  split
  · unfold authD; split
    · decide
    · split <;> decide
  split
  · rw [size_bOf, numS_length]; omega
  · decide
theorem gat_size {x : Lcp} {ts : List UInt8} : ∀ o ∈ gat x ts, o.2.size ≤ 4 := by
  intro o ho
  obtain ⟨u, _, e⟩ := List.mem_filterMap.1 ho
  split at e
  · cases e; exact dat_size _ _
  · cases e
theorem put_size (x : Lcp) : ∀ o ∈ put x, o.2.size ≤ 4 := gat_size (ts := six)
theorem put_len (x : Lcp) : (put x).length ≤ 6 := gat_len x six
end Go.Proofs.YtikcgcgbcolndaaGreat.Lco

/- Contracts of lcpopt's sortBy. -/
namespace Go.Proofs.YtikcgcgbcolndaaGreat.Lco
open Go.RowKit Go.Sort Go.Proofs.YtikcgcgbcolndaaGreat.Oct Go.Proofs.YtikcgcgbcolndaaGreat.Row Go.Proofs.YtikcgcgbcolndaaGreat.Mem Go.Proofs.YtikcgcgbcolndaaGreat.Opt

set_option maxRecDepth 100000 in
theorem ins_nil (f : Value) (w : World) : Calls Tryz.prog 212 #[.slice none 0 0, .int .i64 0, .int .i64 0, f] w fun e w' => e = .returned (.tuple #[]) ∧ w = w' := by
  go_enter Tryz.func212, Tryz.ntmps212
  go_wp2
  refine wp_loop_rounds 1 ?_
  rw [rounds_succ]
  go_wp2
  go_end0
  exact ⟨rfl, rfl⟩
set_option maxRecDepth 100000 in
theorem pdq_nil (f : Value) (k : Int) (w : World) : Calls Tryz.prog 209 #[.slice none 0 0, .int .i64 0, .int .i64 0, .int .i64 k, f] w fun e w' => e = .returned (.tuple #[]) ∧ w = w' := by
  go_enter Tryz.func209, Tryz.ntmps209
  go_wp2
  refine wp_loop_rounds 1 ?_
  rw [rounds_succ]
  go_wp2_with (go_at_call 212; refine (ins_nil _ _).mono ?_; rintro e w' ⟨rfl, rfl⟩)
  (try simp only [Exit.inBlock, Exit.then]); refine bodyPost_ret (results_none rfl _ _ _) rfl ?_
  exact ⟨rfl, rfl⟩
set_option maxRecDepth 100000 in
theorem sort_nil (f : Value) (w : World) : Calls Tryz.prog 205 #[.slice none 0 0, f] w fun e w' => e = .returned (.tuple #[]) ∧ w = w' := by
  have C := hlen_any 0 w (by omega)
  go_enter Tryz.func205, Tryz.ntmps205
  go_wp2_with (first | (go_at_call 210; refine C.mono ?_; rintro e w' ⟨⟨k, rfl⟩, rfl⟩) | (go_at_call 209; refine (pdq_nil _ _ _).mono ?_; rintro e w' ⟨rfl, rfl⟩))
  go_end0
  exact ⟨rfl, rfl⟩
set_option maxRecDepth 100000 in
theorem sortBy_nil (w : World) : Calls Tryz.prog 185 #[.slice none 0 0, .func (.func 186) #[] #[]] w fun e w' => e = .returned (.tuple #[]) ∧ Below w.heap.size w w' := by
  go_enter Tryz.func185, Tryz.ntmps185
  go_wp2_with (go_at_call 205; refine (sort_nil _ _).mono ?_; rintro e w' ⟨rfl, rfl⟩)
  go_end0
  exact ⟨rfl, (Below.refl _ _).alloc (Nat.le_refl _) _⟩
set_option maxHeartbeats 1000000 in
set_option maxRecDepth 100000 in
theorem sortBy_any (l : List Opt) (g c : Nat) (w : World) (hH : HoldsK optV 2 w g 0 l.toArray) (hg : g < w.heap.size) (h12 : l.length ≤ 12) :
    Calls Tryz.prog 185 #[.slice (some ⟨g, 0, none⟩) l.length c, .func (.func 186) #[] #[]] w (SortQ l g w) := by
  obtain ⟨W, hW, HW⟩ : ∃ W, w.alloc (.cells #[.func (.func 186) #[] #[]] 280) = W ∧ Hid (W.cell? ⟨w.heap.size, 0, none⟩ = some (.func (.func 186) #[] #[]) ∧ HoldsK optV 2 W g 0 l.toArray ∧ g < W.heap.size ∧ w.heap.size ≠ g ∧ Below w.heap.size w W) := by
    refine ⟨_, rfl, ?_, ?_, ?_, by omega, (Below.refl _ _).alloc (Nat.le_refl _) _⟩
    · exact Blk.at_ (blk_new w [.func (.func 186) #[] #[]] _) 0
    · rw [alloc_eq_grow]; exact holdsK_grow optV 2 _ _ g 0 _ hg hH
    · simp; omega
  have C1 := Lib.hid (sort_any l g c w.heap.size W HW.out.2.1 HW.out.2.2.1 h12 HW.out.1 HW.out.2.2.2.1)
  have HB := Lib.hid HW.out.2.2.2.2
  have HQ : Hid (∀ e w', SortQ l g W e w' → SortQ l g w e w') := fun e w' ⟨l', h1, h2, h3, h4, h5⟩ => ⟨l', h1, h2, h3, h4, (Moves.of_below HB.out).trans h5 (fun _ _ h => h)⟩
  clear HW hH
  go_enter Tryz.func185, Tryz.ntmps185
  go_wp2_with fail
  refine (C1.out).mono ?_
  rintro e w' ⟨l', rfl, h2, h3, h4, h5⟩
  have HE := Lib.hid (HQ.out _ _ ⟨l', rfl, h2, h3, h4, h5⟩)
  clear hW h2 h3 h4 h5 HQ C1
  go_wp2
  go_end0
  exact HE.out
end Go.Proofs.YtikcgcgbcolndaaGreat.Lco
