/- Put together: LcoH, LcoI, LcoJ. -/
import Derived.Test.YtpppggicihfbgaaGreatGLcoC
import Derived.Test.YtpppggicihfbgaaGreatLcoG
import Derived.Maps.RangeWalk
import Derived.LoopN
import Derived.Test.YtpppggicihfbgaaGreatGLcoA
import Derived.Laws.EntriesVeiled
import Derived.OwnWalk
import Derived.Maps.AppendAt

/- Going over lcpopt's map: the iterator's steps; what has been gathered. -/
namespace Go.Proofs.YtpppggicihfbgaaGreat.Lco
open Go.RowKit Go.Proofs.YtpppggicihfbgaaGreat.Oct Go.Proofs.YtpppggicihfbgaaGreat.Row Go.Proofs.YtpppggicihfbgaaGreat.Mem Go.Proofs.YtpppggicihfbgaaGreat.Opt Go.ChangeMaps

def bornOf (t : UInt8) : Nat := if t = 1 then 0 else if t = 2 then 1 else if t = 3 then 2 else if t = 5 then 3 else if t = 7 then 4 else 5
theorem born_inj8 {t u : UInt8} (ht : known t = true) (hu : known u = true) (h : bornOf t = bornOf u) : t = u := by
  rcases known_cases ht with e | e | e | e | e | e <;> subst e <;> rcases known_cases hu with e | e | e | e | e | e <;> subst e <;> first | rfl | (exfalso; revert h; decide)
theorem ents_born {e : MapEntry} (h : e ∈ ents.toList) : ∃ t, known t = true ∧ e = ⟨.int .u8 (t.toNat : Nat), pair t, bornOf t⟩ := by
  simp only [ents, List.mem_cons, List.not_mem_nil, or_false] at h
  rcases h with rfl | rfl | rfl | rfl | rfl | rfl
  · exact ⟨1, rfl, rfl⟩
  · exact ⟨2, rfl, rfl⟩
  · exact ⟨3, rfl, rfl⟩
  · exact ⟨5, rfl, rfl⟩
  · exact ⟨7, rfl, rfl⟩
  · exact ⟨8, rfl, rfl⟩
theorem born_ents {t : UInt8} (h : known t = true) : (⟨.int .u8 (t.toNat : Nat), pair t, bornOf t⟩ : MapEntry) ∈ ents.toList := by
  rcases known_cases h with e | e | e | e | e | e <;> subst e
  · exact List.mem_cons_self ..
  · exact List.mem_cons_of_mem _ (List.mem_cons_self ..)
  · exact List.mem_cons_of_mem _ (List.mem_cons_of_mem _ (List.mem_cons_self ..))
  · exact List.mem_cons_of_mem _ (List.mem_cons_of_mem _ (List.mem_cons_of_mem _ (List.mem_cons_self ..)))
  · exact List.mem_cons_of_mem _ (List.mem_cons_of_mem _ (List.mem_cons_of_mem _ (List.mem_cons_of_mem _ (List.mem_cons_self ..))))
  · exact List.mem_cons_of_mem _ (List.mem_cons_of_mem _ (List.mem_cons_of_mem _ (List.mem_cons_of_mem _ (List.mem_cons_of_mem _ (List.mem_cons_self ..)))))
theorem ents_nodup : (ents.toList.map (·.born)).Nodup := by
  show ([0, 1, 2, 3, 4, 5] : List Nat).Nodup
  decide
def It (W : World) (r m : Nat) (ts : List UInt8) : Prop := (∀ t ∈ ts, known t = true) ∧ ts.Nodup ∧ ∃ c0, 6 ≤ c0 ∧ W.heap[r]? = some (.mapIter (some m) 6 (ts.map bornOf).toArray c0)
theorem It.lt {W : World} {r m : Nat} {ts : List UInt8} (h : It W r m ts) : r < W.heap.size := by
  obtain ⟨_, _, c0, _, h⟩ := h
  exact (Array.getElem?_eq_some_iff.1 h).1
theorem It.moves {S : Nat → Prop} {W W' : World} {r m : Nat} {ts : List UInt8} (h : It W r m ts) (hm : Moves S W W') (hs : ¬ S r) : It W' r m ts := by
  have hl := h.lt
  obtain ⟨h1, h2, c0, h3, h⟩ := h
  exact ⟨h1, h2, c0, h3, (hm.block r hl hs).trans h⟩
theorem It.callee {W W' : World} {r m : Nat} {ts : List UInt8} (h : It W r m ts) (hb : Below W.heap.size W W') : It W' r m ts := h.moves (S := fun _ => False) (Moves.of_below hb) (fun x => x)
theorem It.len {W : World} {r m : Nat} {ts : List UInt8} (h : It W r m ts) : ts.length ≤ 6 := by
  have : ∀ t ∈ ts, t ∈ six := fun t ht => known_iff.1 (h.1 t ht)
  exact go this h.2.1
where
  go {ts : List UInt8} (h : ∀ t ∈ ts, t ∈ six) (hn : ts.Nodup) : ts.length ≤ 6 := by
    have h2 := nodup_len (l := ts.map fun t => ((t, ByteArray.empty) : Opt)) (m := six.map fun t => ((t, ByteArray.empty) : Opt)) (by
      rw [List.nodup_iff_pairwise_ne, List.pairwise_map]
      rw [List.nodup_iff_pairwise_ne] at hn
      exact hn.imp fun hab e => hab (congrArg Prod.fst e)) (fun o ho => by
      obtain ⟨t, ht, rfl⟩ := List.mem_map.1 ho
      exact List.mem_map.2 ⟨t, h t ht, rfl⟩)
    simpa [six] using h2
def itLeft (W : World) (r : Nat) : Nat := match W.heap[r]? with | some (.mapIter _ _ seen _) => 6 - seen.size | _ => 0
theorem It.left {W : World} {r m : Nat} {ts : List UInt8} (h : It W r m ts) : itLeft W r = 6 - ts.length := by
  obtain ⟨_, _, c0, _, h⟩ := h
  unfold itLeft
  rw [h]
  simp
theorem it_new (W : World) (m : Nat) : It (W.alloc (.mapIter (some m) 6 #[] 6)) W.heap.size m [] := ⟨(fun _ h => by cases h), List.nodup_nil, 6, Nat.le_refl _, (MapKept.heap_alloc W _).1⟩
theorem mem_left {es : Array MapEntry} {seen : Array Nat} {e : MapEntry} (h : e ∈ (leftOf es seen).toList) : e ∈ es.toList ∧ seen.contains e.born = false := by
  unfold leftOf at h
  rw [Array.toList_filter, List.mem_filter] at h
  exact ⟨h.1, by simpa using h.2⟩
theorem left_none {es : Array MapEntry} {seen : Array Nat} (h : (leftOf es seen).size = 0) {e : MapEntry} (he : e ∈ es.toList) : seen.contains e.born = true := by
  rcases hs : seen.contains e.born with _ | _
  · have : e ∈ (leftOf es seen).toList := by
      unfold leftOf
      rw [Array.toList_filter, List.mem_filter]
      exact ⟨he, by rw [hs]; rfl⟩
    have h0 : (leftOf es seen).toList.length = 0 := by rw [Array.length_toList]; exact h
    rw [List.eq_nil_of_length_eq_zero h0] at this
    cases this
  · rfl
theorem seen_iff {ts : List UInt8} (hk : ∀ t ∈ ts, known t = true) {t : UInt8} (ht : known t = true) : (ts.map bornOf).toArray.contains (bornOf t) = true ↔ t ∈ ts := by
  rw [List.contains_toArray, List.contains_iff_mem, List.mem_map]
  constructor
  · rintro ⟨u, hu, e⟩
    rw [← born_inj8 (hk u hu) ht e]
    exact hu
  · intro h
    exact ⟨t, h, rfl⟩
theorem next_any {W : World} {r m : Nat} {ts : List UInt8} (h : It W r m ts) (hm : Mp W m) (hne : r ≠ m) (ty : TypeId) :
    ((∀ t, known t = true → t ∈ ts) ∧ (Instr.next (.pointer (some ⟨r, 0, none⟩)) false ty).run Tryz.prog W = .ok (.tuple #[.bool false]) W) ∨
    ∃ t W', known t = true ∧ t ∉ ts ∧ (Instr.next (.pointer (some ⟨r, 0, none⟩)) false ty).run Tryz.prog W = .ok (.tuple #[.bool true, .int .u8 t.toNat, pair t]) W' ∧ It W' r m (ts ++ [t]) ∧ Moves (fun k => k = r) W W' ∧ W'.heap.size = W.heap.size ∧
      (Instr.entry (.pointer (some ⟨r, 0, none⟩))).run Tryz.prog W' = .ok (.tuple #[.int .u8 t.toNat, pair t]) W' := by
  obtain ⟨hk, hn, c0, hc, hr⟩ := h
  have hold : ∀ x ∈ ents.toList, x.born < 6 := fun x hx => by
    obtain ⟨_, _, _, _, hb⟩ := ents_mem hx
    exact hb
  rcases run_next_at (P := Tryz.prog) W ty r m 6 c0 (ts.map bornOf).toArray ents 6 hr hm hold hc with ⟨h0, hrun⟩ | ⟨e, he, w1, hal, hrun⟩
  · exact .inl ⟨fun t ht => (seen_iff hk ht).1 (left_none h0 (born_ents ht)), hrun⟩
  · obtain ⟨hem, hes⟩ := mem_left he
    obtain ⟨t, ht, rfl⟩ := ents_born hem
    have hnt : t ∉ ts := fun hx => by rw [(seen_iff hk ht).2 hx] at hes; cases hes
    have hr1 : w1.heap[r]? = some (.mapIter (some m) 6 (ts.map bornOf).toArray c0) := by rcases hal with rfl | rfl <;> exact hr
    have hb1 : w1.heap[m]? = some (.map ents 6) := by rcases hal with rfl | rfl <;> exact hm
    have hset := MapKept.heap_set (o' := .mapIter (some m) 6 ((ts.map bornOf).toArray.push (bornOf t)) 6) hr1
    have hI : (setBlock w1 r (.mapIter (some m) 6 ((ts.map bornOf).toArray.push (bornOf t)) 6)).heap[r]? = some (.mapIter (some m) 6 ((ts.map bornOf).toArray.push (bornOf t)) 6) := hset.1
    have hb2 : (setBlock w1 r (.mapIter (some m) 6 ((ts.map bornOf).toArray.push (bornOf t)) 6)).heap[m]? = some (.map ents 6) := (hset.2 m (fun e => hne e.symm)).trans hb1
    refine .inr ⟨t, _, ht, hnt, hrun, ⟨?_, ?_, 6, Nat.le_refl _, ?_⟩, ?_, ?_, run_entry_at _ r m 6 _ ents 6 ⟨.int .u8 (t.toNat : Nat), pair t, bornOf t⟩ hI hb2 hem ents_nodup⟩
    · intro u hu
      rcases List.mem_append.1 hu with hu | hu
      · exact hk u hu
      · rw [List.mem_singleton] at hu; rw [hu]; exact ht
    · rw [List.nodup_append]
      exact ⟨hn, by simp, fun a ha b hb e => by rw [List.mem_singleton] at hb; exact hnt (by rw [← hb, ← e]; exact ha)⟩
    · rw [hI]; simp
    · rcases hal with rfl | rfl <;> exact ⟨rfl, rfl, rfl, by simp [setBlock], fun k _ hk => hset.2 k hk⟩
    · rcases hal with rfl | rfl <;> simp [setBlock]
def gat (x : Lcp) (ts : List UInt8) : List Opt := ts.filterMap fun t => if has t x then some (t, dat t x) else none
theorem gat_snoc (x : Lcp) (ts : List UInt8) (t : UInt8) : gat x (ts ++ [t]) = if has t x then gat x ts ++ [(t, dat t x)] else gat x ts := by
  unfold gat
  rw [List.filterMap_append]
  by_cases h : has t x = true <;> simp [h]
theorem gat_len (x : Lcp) : ∀ ts : List UInt8, (gat x ts).length ≤ ts.length := fun ts => List.length_filterMap_le ..
theorem gat_done {x : Lcp} {ts : List UInt8} (hk : ∀ t ∈ ts, known t = true) (hn : ts.Nodup) (hall : ∀ t, known t = true → t ∈ ts) {l : List Opt} (hp : l.Perm (gat x ts)) (hs : Srt l) : l = put x := by
  have hm : ∀ o, o ∈ l ↔ o ∈ put x := by
    rintro ⟨t, d⟩
    rw [hp.mem_iff, mem_put]
    unfold gat
    rw [List.mem_filterMap]
    constructor
    · rintro ⟨u, hu, e⟩
      split at e
      · rename_i hh
        simp only [Option.some.injEq, Prod.mk.injEq] at e
        obtain ⟨rfl, rfl⟩ := e
        exact ⟨hk _ hu, hh, rfl⟩
      · cases e
    · rintro ⟨h1, h2, rfl⟩
      exact ⟨t, hall t h1, by rw [if_pos h2]⟩
  have hd : Dis (gat x ts) := by
    unfold Dis gat
    rw [List.nodup_iff_pairwise_ne, List.pairwise_map, List.pairwise_filterMap]
    rw [List.nodup_iff_pairwise_ne] at hn
    refine hn.imp ?_
    intro a b hab o ho p hp'
    split at ho
    · split at hp'
      · cases ho; cases hp'; exact hab
      · cases hp'
    · cases ho
  have hd2 : Dis l := by
    unfold Dis at hd ⊢
    exact ((hp.map _).nodup_iff).2 hd
  exact rise_unique (srt_rise hs hd2) (put_rise x) hm
theorem dat_size (t : UInt8) (x : Lcp) : (dat t x).size ≤ 4 := by
  unfold dat
  split
  · rw [size_bOf, numS_length]; omega
  split
  · rw [size_bOf, numS_length]; omega
  split
  · unfold authD; split
    · decide
    · split <;> decide
  split
  · rw [size_bOf, numS_length]; omega
  · decide
theorem gat_size {x : Lcp} {ts : List UInt8} : ∀ o ∈ gat x ts, o.2.size ≤ 4 := by
  intro o ho
  obtain ⟨u, _, e⟩ := List.mem_filterMap.1 ho
  split at e
  · cases e; exact dat_size _ _
  · cases e
theorem put_size (x : Lcp) : ∀ o ∈ put x, o.2.size ≤ 4 := gat_size (ts := six)
theorem put_len (x : Lcp) : (put x).length ≤ 6 := gat_len x six
end Go.Proofs.YtpppggicihfbgaaGreat.Lco

/- Contracts of lcpopt's sortBy. -/
namespace Go.Proofs.YtpppggicihfbgaaGreat.Lco
open Go.RowKit Go.Sort Go.Proofs.YtpppggicihfbgaaGreat.Oct Go.Proofs.YtpppggicihfbgaaGreat.Row Go.Proofs.YtpppggicihfbgaaGreat.Mem Go.Proofs.YtpppggicihfbgaaGreat.Opt

set_option maxRecDepth 100000 in
theorem ins_nil (f : Value) (w : World) : Calls Tryz.prog 188 #[.slice none 0 0, .int .i64 0, .int .i64 0, f] w fun e w' => e = .returned (.tuple #[]) ∧ w = w' := by
  go_enter Tryz.func188, Tryz.ntmps188
  go_wp2
  refine wp_loop_rounds 1 ?_
  rw [rounds_succ]
  go_wp2
  go_end0
  exact ⟨rfl, rfl⟩
set_option maxRecDepth 100000 in
theorem pdq_nil (f : Value) (k : Int) (w : World) : Calls Tryz.prog 185 #[.slice none 0 0, .int .i64 0, .int .i64 0, .int .i64 k, f] w fun e w' => e = .returned (.tuple #[]) ∧ w = w' := by
  go_enter Tryz.func185, Tryz.ntmps185
  go_wp2
  refine wp_loop_rounds 1 ?_
  rw [rounds_succ]
  go_wp2_with (go_at_call 188; refine (ins_nil _ _).mono ?_; rintro e w' ⟨rfl, rfl⟩)
  (try simp only [Exit.inBlock, Exit.then]); refine bodyPost_ret (results_none rfl _ _ _) rfl ?_
  exact ⟨rfl, rfl⟩
set_option maxRecDepth 100000 in
theorem sort_nil (f : Value) (w : World) : Calls Tryz.prog 181 #[.slice none 0 0, f] w fun e w' => e = .returned (.tuple #[]) ∧ w = w' := by
  have C := hlen_any 0 w (by omega)
  go_enter Tryz.func181, Tryz.ntmps181
  go_wp2_with (first | (go_at_call 186; refine C.mono ?_; rintro e w' ⟨⟨k, rfl⟩, rfl⟩) | (go_at_call 185; refine (pdq_nil _ _ _).mono ?_; rintro e w' ⟨rfl, rfl⟩))
  go_end0
  exact ⟨rfl, rfl⟩
set_option maxRecDepth 100000 in
theorem sortBy_nil (w : World) : Calls Tryz.prog 161 #[.slice none 0 0, .func (.func 162) #[] #[]] w fun e w' => e = .returned (.tuple #[]) ∧ Below w.heap.size w w' := by
  go_enter Tryz.func161, Tryz.ntmps161
  go_wp2_with (go_at_call 181; refine (sort_nil _ _).mono ?_; rintro e w' ⟨rfl, rfl⟩)
  go_end0
  exact ⟨rfl, (Below.refl _ _).alloc (Nat.le_refl _) _⟩
set_option maxHeartbeats 1000000 in
set_option maxRecDepth 100000 in
theorem sortBy_any (l : List Opt) (g c : Nat) (w : World) (hH : HoldsK optV 2 w g 0 l.toArray) (hg : g < w.heap.size) (h12 : l.length ≤ 12) :
    Calls Tryz.prog 161 #[.slice (some ⟨g, 0, none⟩) l.length c, .func (.func 162) #[] #[]] w (SortQ l g w) := by
  obtain ⟨W, hW, HW⟩ : ∃ W, w.alloc (.cells #[.func (.func 162) #[] #[]] 260) = W ∧ Hid (W.cell? ⟨w.heap.size, 0, none⟩ = some (.func (.func 162) #[] #[]) ∧ HoldsK optV 2 W g 0 l.toArray ∧ g < W.heap.size ∧ w.heap.size ≠ g ∧ Below w.heap.size w W) := by
    refine ⟨_, rfl, ?_, ?_, ?_, by omega, (Below.refl _ _).alloc (Nat.le_refl _) _⟩
    · exact Blk.at_ (blk_new w [.func (.func 162) #[] #[]] _) 0
    · rw [alloc_eq_grow]; exact holdsK_grow optV 2 _ _ g 0 _ hg hH
    · simp; omega
  have C1 := Lib.hid (sort_any l g c w.heap.size W HW.out.2.1 HW.out.2.2.1 h12 HW.out.1 HW.out.2.2.2.1)
  have HB := Lib.hid HW.out.2.2.2.2
  have HQ : Hid (∀ e w', SortQ l g W e w' → SortQ l g w e w') := fun e w' ⟨l', h1, h2, h3, h4, h5⟩ => ⟨l', h1, h2, h3, h4, (Moves.of_below HB.out).trans h5 (fun _ _ h => h)⟩
  clear HW hH
  go_enter Tryz.func161, Tryz.ntmps161
  go_wp2_with fail
  refine (C1.out).mono ?_
  rintro e w' ⟨l', rfl, h2, h3, h4, h5⟩
  have HE := Lib.hid (HQ.out _ _ ⟨l', rfl, h2, h3, h4, h5⟩)
  clear hW h2 h3 h4 h5 HQ C1
  go_wp2
  go_end0
  exact HE.out
end Go.Proofs.YtpppggicihfbgaaGreat.Lco

/- Contract of lcpopt's Put. -/
namespace Go.Proofs.YtpppggicihfbgaaGreat.Lco
open Go.RowKit Go.Sort Go.Proofs.YtpppggicihfbgaaGreat.Oct Go.Proofs.YtpppggicihfbgaaGreat.Row Go.Proofs.YtpppggicihfbgaaGreat.Mem Go.Proofs.YtpppggicihfbgaaGreat.Opt

theorem wpList_next_mp (w : World) {ops : Array Oper} {rest : List Oper} {o : Oper} {a : Act} {Q : Exit → Act → World → Prop} (hg : o.guard = none) (it : Operand) (hop : o.op = Op.next it false) (r m : Nat) (ts : List UInt8)
    (hit : a.eval it = .pointer (some ⟨r, 0, none⟩)) (h : It w r m ts) (hm : Mp w m) (hne : r ≠ m)
    (hDone : (∀ t, known t = true → t ∈ ts) → wpList Tryz.prog ops Q rest (a.put o.dst (.tuple #[.bool false])) w)
    (hMore : ∀ (t : UInt8) (W' : World), known t = true → It W' r m (ts ++ [t]) → Moves (fun k => k = r) w W' →
      (Instr.entry (.pointer (some ⟨r, 0, none⟩))).run Tryz.prog W' = .ok (.tuple #[.int .u8 t.toNat, pair t]) W' → wpList Tryz.prog ops Q rest (a.put o.dst (.tuple #[.bool true, .int .u8 t.toNat, pair t])) W') :
    wpList Tryz.prog ops Q (o :: rest) a w := by
  refine wpList_plain hg fun K' hK' => ?_
  unfold Oper.wp
  rcases next_any h hm hne o.type with ⟨hall, hrun⟩ | ⟨t, W', ht, _, hrun, hI, hmv, _, hen⟩
  · simp [execOp, hop, hit, hrun, Result.andThen]
    exact hK' _ _ (hDone hall)
  · simp [execOp, hop, hit, hrun, Result.andThen]
    exact hK' _ _ (hMore t W' ht hI hmv hen)
def Gat (x : Lcp) (g r m : Nat) (w wr : World) (ts : List UInt8) (l : List Opt) (A : Option Addr) (n c : Nat) : Prop :=
  It wr r m ts ∧ Mp wr m ∧ LAt wr g x ∧ wr.ownsRow g 177 2 (.slice A n c) n (optsV l) ∧ n = l.length ∧ Below w.heap.size w wr
theorem Gat.callee {x : Lcp} {g r m : Nat} {w wr W' : World} {ts : List UInt8} {l : List Opt} {A : Option Addr} {n c : Nat} (h : Gat x g r m w wr ts l A n c) (hb : Below wr.heap.size wr W') : Gat x g r m w W' ts l A n c :=
  ⟨h.1.callee hb, h.2.1.callee hb, h.2.2.1.callee hb, (Moves.of_below (S := fun _ => False) hb).row h.2.2.2.1 (fun _ _ x => x), h.2.2.2.2.1, h.2.2.2.2.2.trans (hb.mono h.2.2.2.2.2.size)⟩
theorem row_not_iter {W : World} {r m k base n : Nat} {ts : List UInt8} {v : Value} {xs : List Value} (hi : It W r m ts) (hr : W.ownsRow base 177 2 v n xs) (hk : v.ownBlock = some k) : ¬ r = k := by
  intro e
  subst e
  obtain ⟨_, _, c0, _, h⟩ := hi
  rcases hr.2 with ⟨rfl, _⟩ | ⟨g, cap, cur, rfl, _, hgb, _⟩
  · cases hk
  · obtain rfl : g = r := by simpa [Value.ownBlock] using hk
    rw [h] at hgb; cases hgb
theorem row_not_map {W : World} {m k base n : Nat} {v : Value} {xs : List Value} (h : Mp W m) (hr : W.ownsRow base 177 2 v n xs) (hk : v.ownBlock = some k) : ¬ m = k := by
  intro e
  subst e
  rcases hr.2 with ⟨rfl, _⟩ | ⟨g, cap, cur, rfl, _, hgb, _⟩
  · cases hk
  · obtain rfl : g = m := by simpa [Value.ownBlock] using hk
    rw [show W.heap[g]? = _ from h] at hgb; cases hgb
theorem Gat.step {x : Lcp} {g r m : Nat} {w wr W' : World} {ts ts' : List UInt8} {l : List Opt} {A : Option Addr} {n c : Nat} (h : Gat x g r m w wr ts l A n c) (hI : It W' r m ts') (hm : Moves (fun k => k = r) wr W') (hne : r ≠ m) (hg : g ≠ r) (hr : w.heap.size ≤ r) : Gat x g r m w W' ts' l A n c :=
  ⟨hI, h.2.1.moves hm (fun e => hne e.symm), Blk.moves h.2.2.1 hm hg, hm.row h.2.2.2.1 (fun k hk e => row_not_iter h.1 h.2.2.2.1 hk e.symm), h.2.2.2.2.1, h.2.2.2.2.2.trans (hm.below h.2.2.2.2.2.size (fun k e => by subst e; exact hr))⟩
theorem Gat.grown {x : Lcp} {g r m n' c' : Nat} {w W1 W' : World} {ts : List UInt8} {l l' : List Opt} {A A' : Option Addr} {n c : Nat} (h : Gat x g r m w W1 ts l A n c) (hw : w.heap.size ≤ g)
    (hg : W1.grownBy W' (Value.slice A n c).ownBlock) (hr : W'.ownsRow g 177 2 (.slice A' n' c') n' (optsV l')) (hn : n' = l'.length) : Gat x g r m w W' ts l' A' n' c' := by
  obtain ⟨h1, h2, h3, h4, h5, h6⟩ := h
  have hm : Moves (fun k => (Value.slice A n c).ownBlock = some k) W1 W' := Moves.of_grown hg (fun k e _ => e)
  refine ⟨h1.moves hm (fun e => row_not_iter h1 h4 e rfl), h2.moves hm (fun e => row_not_map h2 h4 e rfl), Blk.moves h3 hm (fun e => cells_not_row h3 (by decide) h4 e), hr, hn, h6.grown hg h6.size (fun k e => ?_)⟩
  exact Nat.le_trans hw (h4.lt k e).1
def PutQ (x : Lcp) (w : World) (e : Ending) (w' : World) : Prop := ∃ A c, e = .returned (.tuple #[.slice A (put x).length c, .int .i64 0]) ∧ Opts w' w'.heap.size A (put x).length (put x) ∧ Below w.heap.size w w'
def PutP (x : Lcp) (w : World) (e : Ending) (w' : World) : Prop := ∃ A c, e = .returned (.tuple #[.slice A (put x).length c, .int .i64 0]) ∧ Opts w' w'.heap.size A (put x).length (put x) ∧ Below w.heap.size w w' ∧ (put x).length ≤ c ∧ (A = none → c = 0)
theorem gat_end {x : Lcp} {g r m : Nat} {w wr : World} {ts : List UInt8} {A : Option Addr} {n c : Nat} (h : Gat x g r m w wr ts (gat x ts) A n c) : (A = none ∧ n = 0 ∧ c = 0 ∧ gat x ts = []) ∨ ∃ g', A = some ⟨g', 0, none⟩ ∧ g ≤ g' ∧ g' < wr.heap.size ∧ n = (gat x ts).length ∧ n ≤ c ∧ HoldsK optV 2 wr g' 0 (gat x ts).toArray := by
  obtain ⟨h1, h2, h3, h4, h5, h6⟩ := h
  rcases h4.2 with ⟨e, hn⟩ | ⟨g', cap, cur, e, hb, hh, hnc, _⟩
  · cases e
    exact .inl ⟨rfl, rfl, rfl, List.eq_nil_of_length_eq_zero (by omega)⟩
  · cases e
    refine .inr ⟨g', rfl, hb, (Array.getElem?_eq_some_iff.1 hh).1, h5, hnc, ?_⟩
    rw [h5] at h4
    exact holds_opts h4
set_option maxHeartbeats 4000000 in
set_option maxRecDepth 100000 in
theorem put_room (x : Lcp) (w : World) (hx : may x = true) : Calls Tryz.prog 133 #[.agg (lv x).toArray] w (PutP x w) := by
  show Calls Tryz.prog 133 #[.agg #[Value.bool x.hm, .int .u16 x.mru.toNat, .bool x.ha, .int .u32 x.accm.toNat, .int .u8 x.auth.toNat, .bool x.hg, .int .u32 x.magic.toNat, .bool x.pfc, .bool x.acfc]] w (PutP x w)
  obtain ⟨i0, hi, hz0, hz1, hz2⟩ := info_parts Tryz.info177
  obtain ⟨W, hW, HW⟩ := boxL w x
  have C0 : ∀ w, Calls Tryz.prog 160 #[.agg #[Value.bool x.hm, .int .u16 x.mru.toNat, .bool x.ha, .int .u32 x.accm.toNat, .int .u8 x.auth.toNat, .bool x.hg, .int .u32 x.magic.toNat, .bool x.pfc, .bool x.acfc]] w fun e w' => e = .returned (.bool true) ∧ Below w.heap.size w w' := fun w => by
    have := can_any x w
    rw [hx] at this
    exact this
  have HC := Lib.hid C0; clear C0
  have HC1 := Lib.hid (fun w => meanings_m w)
  have x0 : W.cell? ⟨w.heap.size, 0, none⟩ = some (Value.bool x.hm) := HW.out.1.c 0
  have x1 : W.cell? ⟨w.heap.size, 1, none⟩ = some (.int .u16 x.mru.toNat) := HW.out.1.c 1
  have x2 : W.cell? ⟨w.heap.size, 2, none⟩ = some (.bool x.ha) := HW.out.1.c 2
  have x3 : W.cell? ⟨w.heap.size, 3, none⟩ = some (.int .u32 x.accm.toNat) := HW.out.1.c 3
  have x4 : W.cell? ⟨w.heap.size, 4, none⟩ = some (.int .u8 x.auth.toNat) := HW.out.1.c 4
  have x5 : W.cell? ⟨w.heap.size, 5, none⟩ = some (.bool x.hg) := HW.out.1.c 5
  have x6 : W.cell? ⟨w.heap.size, 6, none⟩ = some (.int .u32 x.magic.toNat) := HW.out.1.c 6
  have x7 : W.cell? ⟨w.heap.size, 7, none⟩ = some (.bool x.pfc) := HW.out.1.c 7
  have x8 : W.cell? ⟨w.heap.size, 8, none⟩ = some (.bool x.acfc) := HW.out.1.c 8
  have HL := Lib.hid HW.out.1
  have HB := Lib.hid HW.out.2.1
  go_enter Tryz.func133, Tryz.ntmps133
  go_wp2_with fail
  refine (HC.out _).mono ?_
  rintro e w1 ⟨rfl, hb1⟩
  have HL1 := Lib.hid (HL.out.callee hb1)
  have HB1 := Lib.hid (HB.out.trans (hb1.mono HB.out.size))
  clear hb1 hW HW x0 x1 x2 x3 x4 x5 x6 x7 x8
  go_wp2_with fail
  refine (HC1.out _).mono ?_
  rintro e w2 ⟨m, rfl, hm2, hb2⟩
  have hrange := run_range_map w2 247 5 255 m ents 6 Tryz.underlying247 hm2
  have hne : w2.heap.size ≠ m := by have := hm2.lt; omega
  have HM2 := Lib.hid hm2
  have HL2 := Lib.hid (HL1.out.callee hb2)
  have HB2 := Lib.hid (HB1.out.trans (hb2.mono HB1.out.size))
  obtain ⟨V, hV, HV⟩ : ∃ V, w2.alloc (.mapIter (some m) 6 #[] 6) = V ∧ Hid (Gat x w.heap.size w2.heap.size m w V [] [] none 0 0) :=
    ⟨_, rfl, it_new w2 m, hm2.alloc _, HL2.out.alloc _, World.ownsRow_nil _ _ _ _, rfl, HB2.out.alloc HB2.out.size _⟩
  have hgr : w.heap.size < w2.heap.size := HL2.out.lt
  have hH0 := HV.out.2.2.1
  clear hm2 hb2 HL1 HB1 HC HC1 HL HB HL2 HB2 HM2
  go_wp2
  clear hV hrange
  generalize hr : w2.heap.size = r at *
  have hgr' : w.heap.size ≠ r := by omega
  clear hr
  go_loopw [4] (fun v wr => ∃ (ts : List UInt8) (A : Option Addr) (n c : Nat), v = .slice A n c ∧ n ≤ 6 ∧ Hid (Gat x w.heap.size r m w wr ts (gat x ts) A n c)) (fun _ wr => itLeft wr r)
  case atStart => exact ⟨[], none, 0, 0, rfl, by omega, HV⟩
  case round =>
    obtain ⟨ts, A, n, c, rfl, hn6, HG⟩ := hrel
    clear HV hH0
    go_wp2_with (first | (at_next; refine wpList_next_mp _ rfl _ rfl r m ts rfl HG.out.1 HG.out.2.1 hne ?_ ?_) | fail)
    · intro hall
      have HALL := Lib.hid hall; clear hall
      rcases gat_end HG.out with ⟨rfl, rfl, rfl, hnil⟩ | ⟨g', rfl, hg1, hg2, hnl, hnc, hH⟩
      · have HP : Hid (put x = []) := (gat_done HG.out.1.1 HG.out.1.2.1 HALL.out (l := []) (by rw [hnil]) (fun i j _ hj => absurd hj (Nat.not_lt_zero _))).symm
        have HB3 := Lib.hid HG.out.2.2.2.2.2
        clear hnil HG HALL
        go_wp2_with fail
        refine (sortBy_nil _).mono ?_
        rintro e w5 ⟨rfl, hb5⟩
        have HB5 := Lib.hid (HB3.out.trans (hb5.mono HB3.out.size))
        clear hb5
        go_wp2
        go_ret2
        unfold PutP
        rw [HP.out]
        exact ⟨none, 0, rfl, opts_nil _ _, HB5.out, Nat.le_refl _, fun _ => rfl⟩
      · have HH := Lib.hid hH; clear hH
        have HB3 := Lib.hid HG.out.2.2.2.2.2
        have HI := Lib.hid HG.out.1
        subst hnl
        have HNC := Lib.hid hnc
        clear HG hnc
        go_wp2_with fail
        refine (sortBy_any (gat x ts) g' c wr HH.out hg2 (by omega)).mono ?_
        rintro e w5 ⟨l', rfl, hp, hs, hH5, hm5⟩
        have HP := Lib.hid (gat_done HI.out.1 HI.out.2.1 HALL.out hp hs)
        have HLN : Hid ((gat x ts).length = (put x).length) := by show _ = _; rw [← hp.length_eq, HP.out]
        have HH5 := Lib.hid hH5
        have HM5 := Lib.hid hm5
        clear hp hs hH5 hm5
        go_wp2
        go_ret2
        refine ⟨some ⟨g', 0, none⟩, c, by rw [← HLN.out]; rfl, ?_, ?_, by rw [← HLN.out]; exact HNC.out, fun e => by cases e⟩
        · have h5 := HH5.out
          rw [HP.out] at h5
          exact opts_holds h5 (fun o ho => Nat.le_trans (put_size x o ho) (by omega)) (Nat.lt_of_lt_of_le hg2 HM5.out.size)
        · exact HB3.out.trans (HM5.out.below HB3.out.size (fun k e => by subst e; exact hg1))
    · intro t W1 ht hI hmv hen
      have HG1 := Lib.hid (HG.out.step hI hmv hne hgr' (Nat.le_of_lt hgr))
      have HLf := Lib.hid HG.out.1.left
      have HLf1 := Lib.hid hI.left
      have HLen := Lib.hid hI.len
      simp only [pair] at hen ⊢
      have hD := data_enters ht
      obtain ⟨V1, hV1, HV1⟩ := boxM W1 (.func (.func (fnD t)) #[] #[]) (.func (.func (fnR t)) #[] #[])
      have HGV := Lib.hid (HG1.out.callee HV1.out.2)
      have m0 : V1.cell? ⟨W1.heap.size, 0, none⟩ = some (.func (.func (fnD t)) #[] #[]) := Blk.at_ HV1.out.1 0
      have x0 : V1.cell? ⟨w.heap.size, 0, none⟩ = some (Value.bool x.hm) := HGV.out.2.2.1.c 0
      have x1 : V1.cell? ⟨w.heap.size, 1, none⟩ = some (.int .u16 x.mru.toNat) := HGV.out.2.2.1.c 1
      have x2 : V1.cell? ⟨w.heap.size, 2, none⟩ = some (.bool x.ha) := HGV.out.2.2.1.c 2
      have x3 : V1.cell? ⟨w.heap.size, 3, none⟩ = some (.int .u32 x.accm.toNat) := HGV.out.2.2.1.c 3
      have x4 : V1.cell? ⟨w.heap.size, 4, none⟩ = some (.int .u8 x.auth.toNat) := HGV.out.2.2.1.c 4
      have x5 : V1.cell? ⟨w.heap.size, 5, none⟩ = some (.bool x.hg) := HGV.out.2.2.1.c 5
      have x6 : V1.cell? ⟨w.heap.size, 6, none⟩ = some (.int .u32 x.magic.toNat) := HGV.out.2.2.1.c 6
      have x7 : V1.cell? ⟨w.heap.size, 7, none⟩ = some (.bool x.pfc) := HGV.out.2.2.1.c 7
      have x8 : V1.cell? ⟨w.heap.size, 8, none⟩ = some (.bool x.acfc) := HGV.out.2.2.1.c 8
      have HGt := Lib.hid (gat_snoc x ts t)
      have hds := dat_size t x
      cases hh : has t x
      · have HD : Hid (∀ W, Calls Tryz.prog (fnD t) #[.agg #[Value.bool x.hm, .int .u16 x.mru.toNat, .bool x.ha, .int .u32 x.accm.toNat, .int .u8 x.auth.toNat, .bool x.hg, .int .u32 x.magic.toNat, .bool x.pfc, .bool x.acfc]] W fun e w' => e = .returned (.tuple #[.string (dat t x), .bool false]) ∧ Below W.heap.size W w') := fun W => by
          have := data_any ht x W
          unfold DataQ at this
          rw [hh] at this
          exact this
        have HGt2 : Hid (gat x (ts ++ [t]) = gat x ts) := by show _ = _; rw [HGt.out, hh]; rfl
        clear HG HG1 HV1 HGt hI hmv hh ht
        generalize fnR t = R at *
        generalize fnD t = D at *
        generalize dat t x = s at *
        go_wp2_with fail
        refine (HD.out _).mono ?_
        rintro e w3 ⟨rfl, hb3⟩
        have HG3 := Lib.hid (HGV.out.callee hb3)
        clear hb3 hV1 hen HD hD m0 x0 x1 x2 x3 x4 x5 x6 x7 x8
        go_wp2
        go_roundw
        case rel => exact ⟨ts ++ [t], A, n, c, rfl, hn6, by show Gat _ _ _ _ _ _ _ _ _ _ _; rw [HGt2.out]; exact HG3.out⟩
        case measure =>
          have e1 := HG3.out.1.left
          have e2 := HLf.out
          have e3 := HLen.out
          rw [List.length_append, List.length_singleton] at e1 e3
          omega
      · have HD : Hid (∀ W, Calls Tryz.prog (fnD t) #[.agg #[Value.bool x.hm, .int .u16 x.mru.toNat, .bool x.ha, .int .u32 x.accm.toNat, .int .u8 x.auth.toNat, .bool x.hg, .int .u32 x.magic.toNat, .bool x.pfc, .bool x.acfc]] W fun e w' => e = .returned (.tuple #[.string (dat t x), .bool true]) ∧ Below W.heap.size W w') := fun W => by
          have := data_any ht x W
          unfold DataQ at this
          rw [hh] at this
          exact this
        have HGt2 : Hid (gat x (ts ++ [t]) = gat x ts ++ [(t, dat t x)]) := by show _ = _; rw [HGt.out, hh]; rfl
        clear HG HG1 HV1 HGt hI hmv hh ht
        generalize fnR t = R at *
        generalize fnD t = D at *
        generalize dat t x = s at *
        go_wp2_with fail
        refine (HD.out _).mono ?_
        rintro e w3 ⟨rfl, hb3⟩
        have HG3 := Lib.hid (HGV.out.callee hb3)
        have HS3 := HG3.out.2.2.2.2.2.size
        have HO3 := Lib.hid HG3.out.2.2.2.1
        have HGA := Lib.hid (HG3.out.callee ((Below.refl _ w3).alloc (Nat.le_refl _) (.cells #[.int .u8 t.toNat, .string s] 177)))
        clear hb3 hV1 hen HD hD m0 x0 x1 x2 x3 x4 x5 x6 x7 x8 HGV
        go_wp2_with (at_builtin; refine wpList_append_own _ rfl _ _ 86 rfl w.heap.size 177 i0 _ 2 24 Tryz.underlying86 hi hz0 hz1 hz2 rfl (by decide) _ _ _ rfl (HO3.out.alloc _) ⟨w3.heap.size, 0, none⟩ 1 1 (optsV [(t, s)]) rfl rfl (by rw [optsV_one]; exact cells_new _ _ _) (optsV_ones _) (by unfold maxLen; omega) (by omega) (by simp; omega) ?_; intro v1 w4 hown1 hgr1 _; have Hown1 := Lib.hid hown1; have Hgr1 := Lib.hid hgr1; clear hown1 hgr1; obtain ⟨g1, cap1, rfl⟩ := ownsRow_succ Hown1.out)
        have HG4 : Hid (Gat x w.heap.size r m w w4 (ts ++ [t]) (gat x ts ++ [(t, s)]) (some ⟨g1, 0, none⟩) (n + 1) cap1) := HGA.out.grown (Nat.le_refl _) Hgr1.out (by rw [optsV_append]; exact Hown1.out) (by rw [List.length_append, List.length_singleton, HG3.out.2.2.2.2.1])
        go_roundw
        case rel => exact ⟨ts ++ [t], _, n + 1, _, rfl, by have h1 := HLen.out; have h2 := gat_len x (ts ++ [t]); have h3 := HG4.out.2.2.2.2.1; rw [HGt2.out] at h2; omega, by show Gat _ _ _ _ _ _ _ _ _ _ _; rw [HGt2.out]; exact HG4.out⟩
        case measure =>
          have e1 := HG4.out.1.left
          have e2 := HLf.out
          have e3 := HLen.out
          rw [List.length_append, List.length_singleton] at e1 e3
          omega
theorem put_yes (x : Lcp) (w : World) (hx : may x = true) : Calls Tryz.prog 133 #[.agg (lv x).toArray] w (PutQ x w) := (put_room x w hx).mono fun _ _ ⟨A, c, he, ho, hb, _⟩ => ⟨A, c, he, ho, hb⟩
end Go.Proofs.YtpppggicihfbgaaGreat.Lco
