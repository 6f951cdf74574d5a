/- Contract of package field's Get. -/
import Derived.Test.YtppkmfkjghnkeaaFldA
import Derived.Test.YtppkmfkjghnkeaaGet16
import Derived.Test.YtppkmfkjghnkeaaCut
import Derived.Test.YtppkmfkjghnkeaaMoves
namespace Go.Proofs.Ytppkmfkjghnkeaa.Fld
open Go.RowKit Go.Proofs.Ytppkmfkjghnkeaa.Oct

def getV (t : List UInt8) : Value := .tuple #[.int .u16 (gP t), .string (bOf (gR t)), .int .i64 (gE t)]

theorem two_cells (w : World) (x y : ByteArray) (t : TypeId) : ∀ (j : Nat) z, [x, y][j]? = some z → (w.alloc (.cells #[.string x, .string y] t)).cell? ⟨w.heap.size, 0 + j, none⟩ = some (.string z) := by
  intro j z hz
  rw [Nat.zero_add, World.cell?_alloc_new]
  match j, hz with
  | 0, h => cases h; rfl
  | 1, h => cases h; rfl

theorem cut_is (l a b : List UInt8) (n : Nat) (e : Int) (hl : l.length ≤ 1048576) (h : (e = 6 ∧ l.length < n ∧ a = [] ∧ b = []) ∨ (e = 0 ∧ n ≤ l.length ∧ a = l.take n ∧ b = l.drop n)) (w : World) :
    Calls Try.prog 18 #[.string (bOf l), .int .i64 n] w fun x w' => x = .returned (.tuple #[.string (bOf a), .string (bOf b), .int .i64 e]) ∧ ∃ k, w' = w.drewN k := by
  have C := cut_v (bOf l) n w (by unfold maxLen; rw [size_bOf]; omega)
  rcases h with ⟨rfl, hn, rfl, rfl⟩ | ⟨rfl, hn, rfl, rfl⟩
  · rw [cutV_end _ _ (by omega) (by rw [size_bOf]; omega)] at C
    exact C
  · rw [cutV_ok _ _ (by omega) (by rw [size_bOf]; omega), toList_bOf, Int.toNat_natCast] at C
    exact C
theorem get16_is (l : List UInt8) (hl : l.length = 2) (w : World) :
    Calls Try.prog 19 #[.string (bOf l)] w fun x w' => x = .returned (.tuple #[.int .u16 (val l), .int .i64 0]) ∧ ∃ k, w' = w.drewN k := by
  have C := get16_v (bOf l) w (by unfold maxLen; rw [size_bOf]; omega)
  have hv : Oct.getV .u16 2 (bOf l) = .tuple #[.int .u16 (val l), .int .i64 0] := by
    unfold Oct.getV getN getE
    rw [size_bOf, if_neg (by omega), if_neg (by omega), if_neg (by omega), if_neg (by omega), toList_bOf]
  rw [hv] at C
  exact C
theorem empty_true : (bOf []).toList.isEmpty = true := by rw [toList_bOf]; rfl
theorem empty_false (c : UInt8) (r : List UInt8) : (bOf (c :: r)).toList.isEmpty = false := by rw [toList_bOf]; rfl
theorem and1b (c : UInt8) : bits .and .u8 (c.toNat : Int) 1 = ((c.toNat % 2 : Nat) : Int) := by
  have := u8_and_nat c.toNat 1 c.toNat_lt (by omega)
  rw [Nat.and_one_is_mod] at this
  exact this
theorem below_drewN (w : World) (k : Nat) : Below w.heap.size w (w.drewN k) := ⟨rfl, rfl, rfl, Nat.le_refl _, fun _ _ => rfl⟩

theorem join_two (H l : List UInt8) (W : ByteArray) (hW : W = bOf H) (w : World) (k : Nat) (hl : (H ++ l).length ≤ 1048576) :
    Calls Try.prog 16 #[.slice (some ⟨w.heap.size, 0, none⟩) 2 2] ((w.drewN k).alloc (.cells #[.string W, .string (bOf l)] 9)) fun e w' => e = .returned (.string (bOf (H ++ l))) ∧ Below w.heap.size w w' := by
  subst hW
  have e : flat [bOf H, bOf l] = H ++ l := by simp [flat, toList_bOf]
  have C := join_any w.heap.size 2 [bOf H, bOf l] ((w.drewN k).alloc (.cells #[.string (bOf H), .string (bOf l)] 9)) (two_cells (w.drewN k) _ _ _) (by rw [World.size_alloc]; exact Nat.lt_succ_self _) (by simp) (by simp) (by rw [e]; omega)
  rw [e] at C
  exact C.mono fun x w' ⟨h1, h2⟩ => ⟨h1, ((below_drewN w k).alloc (Nat.le_refl _) _).trans (h2.mono (by rw [World.size_alloc]; exact Nat.le_succ _))⟩

set_option maxHeartbeats 1000000 in
theorem get_any (s : ByteArray) (w : World) (hs : s.size ≤ 1048576) :
    Calls Try.prog 10 #[.string s] w fun e w' => e = .returned (.tuple #[.int .u16 (gP (skip s.toList)), .string (bOf (gR (skip s.toList))), .int .i64 (gE (skip s.toList))]) ∧ Below w.heap.size w w' := by
  have HT := Lib.hid (trim_any s w)
  have hl := skip_le s.toList
  rw [← size_toList] at hl
  generalize skip s.toList = t at *
  have hL : t.length ≤ 1048576 := by omega
  clear hs hl
  cases t with
  | nil =>
    have C := Lib.hid (cut_is [] [] [] 2 6 (by simp) (.inl ⟨rfl, by simp, rfl, rfl⟩))
    have hE : gE [] = 6 := by decide
    have hP : gP [] = 0 := by decide
    have hR : gR [] = [] := by decide
    rw [hE, hP, hR]
    have h1 := empty_true
    clear hE hP hR hL
    go_enter Try.func10, Try.ntmps10
    go_wp2_with fail
    refine HT.out.mono ?_
    rintro e w1 ⟨rfl, rfl⟩
    go_wp2_with fail
    refine (C.out _).mono ?_
    rintro e w1 ⟨rfl, k, rfl⟩
    go_wp2
    go_ret3
    exact ⟨rfl, below_drewN _ _⟩
  | cons c r =>
    have h1 := empty_false c r
    have h3 : 0 < (bOf (c :: r)).size := by rw [size_bOf, List.length_cons]; omega
    have h2 : (bOf (c :: r))[0] = c := rfl
    by_cases hc : c.toNat % 2 = 1
    · have hct := c.toNat_lt
      have C := Lib.hid (cut_is (c :: r) [c] r 1 0 hL (.inr ⟨rfl, by simp, rfl, rfl⟩))
      have h4 : bits .and .u8 (c.toNat : Int) 1 = 1 := by rw [and1b, hc]; rfl
      have J := Lib.hid (fun k => join_two [0] [c] ⟨#[0]⟩ rfl w k (by simp))
      have G := Lib.hid (get16_is ([0] ++ [c]) rfl)
      have hv : val ([0] ++ [c]) = c.toNat := by simp [val]
      rw [hv] at G
      have hw : wid (c :: r) = 1 := by simp [wid, hc]
      have hv1 : val ((c :: r).take 1) = c.toNat := by simp [val]
      have M := Lib.hid (fun w => may_any c.toNat w (by omega))
      have hE : gE (c :: r) = if may c.toNat then 0 else 7 := by
        unfold gE
        rw [hw, hv1, if_neg (by simp)]
      have hP : gP (c :: r) = if may c.toNat then c.toNat else 0 := by
        unfold gP
        rw [hE, hw, hv1]
        cases may c.toNat <;> rfl
      have hR : gR (c :: r) = if may c.toNat then r else [] := by
        unfold gR
        rw [hE, hw]
        cases may c.toNat <;> rfl
      rw [hE, hP, hR]
      clear hE hP hR hw hv hv1 hL hc hct
      generalize may c.toNat = m at *
      cases m
      · go_enter Try.func10, Try.ntmps10
        go_wp2_with fail
        refine HT.out.mono ?_
        rintro e w1 ⟨rfl, rfl⟩
        go_wp2_with fail
        refine (C.out _).mono ?_
        rintro e w1 ⟨rfl, k, rfl⟩
        go_wp2_with fail
        refine (J.out k).mono ?_
        rintro e w2 ⟨rfl, hb2⟩
        go_wp2_with fail
        refine (G.out _).mono ?_
        rintro e w3 ⟨rfl, k3, rfl⟩
        go_wp2_with fail
        refine (M.out _).mono ?_
        rintro e w4 ⟨rfl, rfl⟩
        go_wp2
        go_ret3
        exact ⟨rfl, hb2.drewN' k3⟩
      · go_enter Try.func10, Try.ntmps10
        go_wp2_with fail
        refine HT.out.mono ?_
        rintro e w1 ⟨rfl, rfl⟩
        go_wp2_with fail
        refine (C.out _).mono ?_
        rintro e w1 ⟨rfl, k, rfl⟩
        go_wp2_with fail
        refine (J.out k).mono ?_
        rintro e w2 ⟨rfl, hb2⟩
        go_wp2_with fail
        refine (G.out _).mono ?_
        rintro e w3 ⟨rfl, k3, rfl⟩
        go_wp2_with fail
        refine (M.out _).mono ?_
        rintro e w4 ⟨rfl, rfl⟩
        go_wp2
        go_ret3
        exact ⟨rfl, hb2.drewN' k3⟩
    · have h4 : bits .and .u8 (c.toNat : Int) 1 = 0 := by rw [and1b, show c.toNat % 2 = 0 by omega]; rfl
      have hw : ∀ r, wid (c :: r) = 2 := fun r => by simp [wid, hc]
      cases r with
      | nil =>
        have C := Lib.hid (cut_is [c] [] [] 2 6 (by simp) (.inl ⟨rfl, by simp, rfl, rfl⟩))
        have hE : gE [c] = 6 := by unfold gE; rw [hw, if_pos (by simp)]
        have hPR := gP_none (t := [c]) (by rw [hE]; decide)
        rw [hE, hPR.1, hPR.2]
        clear hE hPR hw hL hc
        go_enter Try.func10, Try.ntmps10
        go_wp2_with fail
        refine HT.out.mono ?_
        rintro e w1 ⟨rfl, rfl⟩
        go_wp2_with fail
        refine (C.out _).mono ?_
        rintro e w1 ⟨rfl, k, rfl⟩
        go_wp2
        go_ret3
        exact ⟨rfl, below_drewN _ _⟩
      | cons d r =>
        have hlt : val [c, d] < 65536 := Nat.lt_of_lt_of_le (val_lt [c, d]) (by simp)
        have C := Lib.hid (cut_is (c :: d :: r) [c, d] r 2 0 hL (.inr ⟨rfl, by simp, rfl, rfl⟩))
        have J := Lib.hid (fun k => join_two [] [c, d] ⟨#[]⟩ rfl w k (by simp))
        have G := Lib.hid (get16_is ([] ++ [c, d]) rfl)
        rw [List.nil_append] at G
        have hv1 : (c :: d :: r).take 2 = [c, d] := rfl
        have M := Lib.hid (fun w => may_any (val [c, d]) w hlt)
        have hE : gE (c :: d :: r) = if may (val [c, d]) then 0 else 7 := by
          unfold gE
          rw [hw, hv1, if_neg (by simp)]
        have hP : gP (c :: d :: r) = if may (val [c, d]) then val [c, d] else 0 := by
          unfold gP
          rw [hE, hw, hv1]
          cases may (val [c, d]) <;> rfl
        have hR : gR (c :: d :: r) = if may (val [c, d]) then r else [] := by
          unfold gR
          rw [hE, hw]
          cases may (val [c, d]) <;> rfl
        rw [hE, hP, hR]
        clear hE hP hR hw hv1 hL hc hlt
        generalize val [c, d] = q at *
        generalize may q = m at *
        cases m
        · go_enter Try.func10, Try.ntmps10
          go_wp2_with fail
          refine HT.out.mono ?_
          rintro e w1 ⟨rfl, rfl⟩
          go_wp2_with fail
          refine (C.out _).mono ?_
          rintro e w1 ⟨rfl, k, rfl⟩
          go_wp2_with fail
          refine (J.out k).mono ?_
          rintro e w2 ⟨rfl, hb2⟩
          go_wp2_with fail
          refine (G.out _).mono ?_
          rintro e w3 ⟨rfl, k3, rfl⟩
          go_wp2_with fail
          refine (M.out _).mono ?_
          rintro e w4 ⟨rfl, rfl⟩
          go_wp2
          go_ret3
          exact ⟨rfl, hb2.drewN' k3⟩
        · go_enter Try.func10, Try.ntmps10
          go_wp2_with fail
          refine HT.out.mono ?_
          rintro e w1 ⟨rfl, rfl⟩
          go_wp2_with fail
          refine (C.out _).mono ?_
          rintro e w1 ⟨rfl, k, rfl⟩
          go_wp2_with fail
          refine (J.out k).mono ?_
          rintro e w2 ⟨rfl, hb2⟩
          go_wp2_with fail
          refine (G.out _).mono ?_
          rintro e w3 ⟨rfl, k3, rfl⟩
          go_wp2_with fail
          refine (M.out _).mono ?_
          rintro e w4 ⟨rfl, rfl⟩
          go_wp2
          go_ret3
          exact ⟨rfl, hb2.drewN' k3⟩
end Go.Proofs.Ytppkmfkjghnkeaa.Fld
