/- What Judge keeps: rows past a turn of the policy. -/
import Derived.Test.YtbkcdpfelkbhaaaIppJ
import Derived.Test.YtbkcdpfelkbhaaaIppK
namespace Go.Proofs.Ytbkcdpfelkbhaaa.Ipp
open Go.RowKit Go.Proofs.Ytbkcdpfelkbhaaa.Oct Go.Proofs.Ytbkcdpfelkbhaaa.Row Go.Proofs.Ytbkcdpfelkbhaaa.Mem Go.Proofs.Ytbkcdpfelkbhaaa.Opt Go.Proofs.Ytbkcdpfelkbhaaa.Ipc

theorem lv_no (x : Ipc) (s : ByteArray) : Value.string s ∉ lv x := by unfold lv; simp
theorem cv_no (c : Conf) (s : ByteArray) : Value.string s ∉ cv c := by unfold cv; simp
theorem pv_no (p : Po) (s : ByteArray) : Value.string s ∉ pv p := by
  unfold pv
  simp only [List.mem_append, not_or]
  exact ⟨lv_no _ s, cv_no _ s, lv_no _ s, lv_no _ s, by simp⟩
theorem str_apart {w : World} {g b i : Nat} {t : TypeId} {cs : List Value} {s : ByteArray} (h : Blk w g cs t) (hn : Value.string s ∉ cs) (hc : w.cell? ⟨b, i, none⟩ = some (.string s)) : b ≠ g := by
  rintro rfl
  rw [Blk.at_ h i] at hc
  exact hn (List.mem_of_getElem? hc)
/-- A row of options past a turn of a block that holds no text. -/
theorem opts_past {w w' : World} {g B n : Nat} {t : TypeId} {cs : List Value} {A : Option Addr} {l : List Opt} (h : Opts w B A n l) (hP : Blk w g cs t) (hs : ∀ s, Value.string s ∉ cs) (hm : Moves (fun k => k = g) w w') (hB : B ≤ w.heap.size) : Opts w' B A n l :=
  ⟨h.1, h.2.1, fun hn => by
    obtain ⟨ad, e, hb, hc⟩ := h.2.2 hn
    refine ⟨ad, e, hb, fun j hj => ?_⟩
    have hk : (ad.add (j * 2)).block = ad.block := Oct.block_add _ _
    have hne : (ad.add (j * 2)).block ≠ g := str_apart hP (hs _) (hc j hj).2
    exact ⟨(hm.cell (by rw [hk]; omega) (by exact hne)).trans (hc j hj).1, (hm.cell (by show (ad.add (j * 2)).block < _; rw [hk]; omega) (by exact hne)).trans (hc j hj).2⟩⟩
theorem vers_past {w w' : World} {g B n : Nat} {t : TypeId} {cs : List Value} {A : Option Addr} {l : List Ver} (h : Vers w B A n l) (hP : Blk w g cs t) (hs : ∀ s, Value.string s ∉ cs) (hm : Moves (fun k => k = g) w w') (hB : B ≤ w.heap.size) : Vers w' B A n l :=
  ⟨h.1, fun hn => by
    obtain ⟨ad, e, hb, hc⟩ := h.2 hn
    refine ⟨ad, e, hb, fun j hj => ?_⟩
    have hk : (ad.add (j * 5)).block = ad.block := Oct.block_add _ _
    obtain ⟨c0, c1, c2, c3, c4⟩ := hc j hj
    have hne : (ad.add (j * 5)).block ≠ g := str_apart hP (hs _) c1
    have hl : (ad.add (j * 5)).block < w.heap.size := by rw [hk]; omega
    exact ⟨(hm.cell hl hne).trans c0, (hm.cell (by exact hl) (by exact hne)).trans c1, (hm.cell (by exact hl) (by exact hne)).trans c2, (hm.cell (by exact hl) (by exact hne)).trans c3, (hm.cell (by exact hl) (by exact hne)).trans c4⟩⟩
theorem ver_got (p : Po) (l : List Opt) (o : Opt) : (ver p l o).got = o := rfl
theorem vs_mem {p : Po} {l : List Opt} {v : Ver} (h : v ∈ vs p l) : v.got ∈ l ∧ v.bet.2.size ≤ 4 := by
  unfold vs at h
  obtain ⟨i, hi, rfl⟩ := List.mem_map.1 h
  have hi' : i < l.length := List.mem_range.1 hi
  rw [List.getD_eq_getElem?_getD, List.getElem?_eq_getElem hi']
  exact ⟨List.getElem_mem hi', imp_size _ _⟩
/-- What Judge answers. -/
def JudQ (p : Po) (l : List Opt) (g : Nat) (w : World) (e : Ending) (w' : World) : Prop := ∃ A c, e = .returned (.tuple #[.int .u8 (jC p l), .slice A (jA p l).length c]) ∧ Opts w' w'.heap.size A (jA p l).length (jA p l) ∧ PAt w' g (jP p l) ∧ Moves (fun k => k = g) w w'
/-- On the way. -/
structure Jd (w wr : World) (g : Nat) (p : Po) (A : Option Addr) (n : Nat) (l : List Opt) : Prop where
  hp : PAt wr g p
  hm : Moves (fun k => k = g) w wr
  ho : Opts wr w.heap.size A n l
theorem Jd.callee {w wr w' : World} {g : Nat} {p : Po} {A : Option Addr} {n : Nat} {l : List Opt} (h : Jd w wr g p A n l) (hb : Below wr.heap.size wr w') : Jd w w' g p A n l :=
  ⟨h.hp.callee hb, h.hm.trans (Moves.of_below hb) (fun j hj e => e), h.ho.callee hb h.hm.size⟩
theorem Jd.turn {w wr w' : World} {g : Nat} {p p' : Po} {A : Option Addr} {n : Nat} {l : List Opt} (h : Jd w wr g p A n l) (hm : Moves (fun k => k = g) wr w') (hp : PAt w' g p') : Jd w w' g p' A n l :=
  ⟨hp, h.hm.trans hm (fun j hj e => e), opts_past h.ho h.hp (pv_no p) hm h.hm.size⟩
end Go.Proofs.Ytbkcdpfelkbhaaa.Ipp
