/- The contracts of strings.ContainsRune at the two texts, and of eid.made. -/
import Derived.Test.YtbgcbcnidjlhnaaDoorRune
import Derived.Lib.OthersKept
import Derived.WalkSmall
namespace Go.Proofs.YtbgcbcnidjlhnaaDoor.Eid
open Go.RowKit Wd

/-- Has the text this rune? -/
def hasR (more : ByteArray) (r : Int) : Bool := decide (r < 128) && decide (0 ≤ Lib.indexByte more.data.toList r.toNat.toUInt8)
/-- The two texts. -/
def Two2 (more : ByteArray) : Prop := more = ⟨#[45]⟩ ∨ more = ⟨#[45, 47]⟩
theorem contains_any (more : ByteArray) (hm : Two2 more) (r : Int) (w : World) (h0 : 0 ≤ r) (h1 : r ≤ 1114111) : Calls Tryd.prog 116 #[.string more, .int .i32 r] w fun e w' => e = .returned (.bool (hasR more r)) ∧ Below w.heap.size w w' := by
  by_cases hr : r < 128
  · refine (Tryd.strings_ContainsRune_ascii more r w h0 hr).mono ?_
    rintro e w' ⟨rfl, rfl⟩
    exact ⟨ret_bool (by unfold hasR; rw [decide_eq_true hr]; simp), Below.refl _ _⟩
  · have hh : hasR more r = false := by unfold hasR; rw [decide_eq_false hr]; rfl
    rw [hh]
    have CI : Hid (Calls Tryd.prog 132 #[.string more, .int .i32 r] w fun e w' => e = .returned (.int .i64 (-1)) ∧ Below w.heap.size w w') := Lib.hid (by
      rcases hm with rfl | rfl
      · exact indexRune1 r w (by omega) h1
      · exact indexRune2 _ rfl (by decide) (by decide) r w (by omega) h1)
    clear hh hm
    go_enter Tryd.func116, Tryd.ntmps116
    go_wp2_with fail
    refine CI.out.mono ?_
    rintro e w' ⟨rfl, hb⟩
    have HB := Lib.hid hb
    clear hb
    go_wp2_with fail
    go_ret
    exact ⟨rfl, HB.out⟩

/-- May a character be? -/
def okc (more : ByteArray) (c : Int) : Bool := (decide (97 ≤ c) && decide (c ≤ 122)) || (decide (48 ≤ c) && decide (c ≤ 57)) || hasR more c
/-- Is a text made of such characters, at most so many? -/
def mk (s : ByteArray) (most : Int) (more : ByteArray) : Bool := decide ((s.size : Int) ≤ most) && s.data.toList.all fun b => okc more b.toNat
theorem decode_le (s : ByteArray) (pos : Nat) : (Utf8.decode s pos).1 ≤ 1114111 := by
  unfold Utf8.decode Utf8.runeError
  dsimp only
  repeat' split
  all_goals first | omega | (simp_all [Utf8.valid]; omega) | simp_all [Utf8.valid]
theorem okc_high (more : ByteArray) (c : Int) (h : 128 ≤ c) : okc more c = false := by
  unfold okc hasR
  rw [decide_eq_false (show ¬ c ≤ 122 by omega), decide_eq_false (show ¬ c ≤ 57 by omega), decide_eq_false (show ¬ c < 128 by omega)]
  simp
theorem all_no (s : ByteArray) (pos : Nat) (h : pos < s.size) (f : UInt8 → Bool) (hf : f s[pos] = false) : s.data.toList.all f = false := by
  rw [List.all_eq_false]
  exact ⟨s[pos], by
    rw [List.mem_iff_getElem]
    exact ⟨pos, by simpa using h, by simp [ByteArray.getElem_eq_getElem_data]⟩, by rw [hf]; simp⟩
theorem all_snoc (s : ByteArray) (pos : Nat) (h : pos < s.size) (f : UInt8 → Bool) (hp : (s.data.toList.take pos).all f = true) (hf : f s[pos] = true) : (s.data.toList.take (pos + 1)).all f = true := by
  have hl : pos < s.data.toList.length := by simpa using h
  rw [List.take_succ_eq_append_getElem hl, List.all_append, hp]
  simp only [List.all_cons, List.all_nil, Bool.true_and, Bool.and_true]
  rw [← hf]
  congr 1

theorem okc_at (more : ByteArray) (s : ByteArray) (pos : Nat) (h : pos < s.size) : okc more ((Utf8.decode s pos).1 : Int) = okc more (s[pos].toNat : Int) ∧ (okc more (s[pos].toNat : Int) = true → (Utf8.decode s pos).2 = 1) := by
  by_cases ha : (s[pos]'h).toNat < 128
  · rw [decode_ascii s pos h ha]
    exact ⟨rfl, fun _ => rfl⟩
  · have h1 := decode_high s pos h (by omega)
    have h2 := okc_high more (s[pos].toNat : Int) (by omega)
    rw [h2, okc_high more _ (by have := h1.1; omega)]
    exact ⟨rfl, fun hh => by cases hh⟩

set_option maxRecDepth 100000 in
set_option maxHeartbeats 4000000 in
theorem made_any (s : ByteArray) (hs : s.size ≤ maxLen) (most : Int) (more : ByteArray) (hm : Two2 more) (w : World) :
    Calls Tryd.prog 90 #[.string s, .int .i64 most, .string more] w fun e w' => e = .returned (.bool (mk s most more)) ∧ Below w.heap.size w w' := by
  unfold maxLen at hs
  have HM := Lib.hid (show mk s most more = (decide ((s.size : Int) ≤ most) && s.data.toList.all fun b => okc more b.toNat) from rfl)
  have CC := Lib.hid (fun (r : Int) (w' : World) (h0 : 0 ≤ r) (h1 : r ≤ 1114111) => contains_any more hm r w' h0 h1)
  have HA := Lib.hid (fun (pos : Nat) (h : pos < s.size) => okc_at more s pos h)
  have HN := Lib.hid (fun (pos : Nat) (h : pos < s.size) => all_no s pos h (fun b => okc more b.toNat))
  have HS := Lib.hid (fun (pos : Nat) (h : pos < s.size) => all_snoc s pos h (fun b => okc more b.toNat))
  have HO := Lib.hid (fun (c : Int) => show okc more c = ((decide (97 ≤ c) && decide (c ≤ 122)) || (decide (48 ≤ c) && decide (c ≤ 57)) || hasR more c) from rfl)
  clear hm
  go_enter Tryd.func90, Tryd.ntmps90
  by_cases h1 : most < (s.size : Int)
  · have t1 : decide (most < (s.size : Int)) = true := decide_eq_true h1
    go_wp2_with fail
    go_ret
    exact ⟨ret_bool (by rw [HM.out, decide_eq_false (by omega)]; rfl), Below.refl _ _⟩
  · have t1 : decide (most < (s.size : Int)) = false := decide_eq_false h1
    have HM2 : Hid (mk s most more = s.data.toList.all fun b => okc more b.toNat) := Lib.hid (by rw [HM.out, decide_eq_true (by omega)]; rfl)
    have HB0 := Lib.hid (below_iter w s 0)
    have HI0 := Lib.hid (World.iter_heap w s 0)
    clear HM
    go_wp2_with fail
    go_loopw [8] (fun _ wr => ∃ pos : Nat, pos ≤ s.size ∧ w.heap.size < wr.heap.size ∧ Hid (wr.heap[w.heap.size]? = some (.stringIter s pos)) ∧ Hid ((s.data.toList.take pos).all (fun b => okc more b.toNat) = true) ∧ Hid (Below w.heap.size w wr)) (fun _ wr => s.size - wr.iterPos w.heap.size)
    case atStart => exact ⟨0, by omega, by simp [World.iter], HI0, Lib.hid rfl, HB0⟩
    case round =>
      obtain ⟨pos, hp, hsz, HI, HT, HB⟩ := hrel
      by_cases hlt : pos < s.size
      · have hnx : ∀ ty, (Instr.next (.pointer (some ⟨w.heap.size, 0, none⟩)) true ty).run Tryd.prog wr = _ := fun ty => Lib.run_next_any_at wr w.heap.size s pos ty HI.out hlt
        have HD := Lib.hid (HA.out pos hlt)
        have HI2 := Lib.hid (Lib.iterAt_heap wr w.heap.size s pos (pos + (Utf8.decode s pos).2) HI.out)
        have HB2 := Lib.hid (Lib.below_iterAt HB.out (Nat.le_refl _) s (pos + (Utf8.decode s pos).2))
        have hsz2 : w.heap.size < (wr.iterAt w.heap.size s (pos + (Utf8.decode s pos).2)).heap.size := by rw [Lib.iterAt_size]; exact hsz
        have HP := Lib.hid (iterPos_of HI.out)
        have hc1 : ((Utf8.decode s pos).1 : Int) ≤ 1114111 := by have := decode_le s pos; omega
        have hc0 : (0 : Int) ≤ ((Utf8.decode s pos).1 : Int) := by omega
        have HNo : Hid (okc more ((Utf8.decode s pos).1 : Int) = false → mk s most more = false) := Lib.hid (fun h => by rw [HM2.out]; exact HN.out pos hlt (by rw [← HD.out.1]; exact h))
        have HYes : Hid (okc more ((Utf8.decode s pos).1 : Int) = true → (s.data.toList.take (pos + 1)).all (fun b => okc more b.toNat) = true ∧ (Utf8.decode s pos).2 = 1) := Lib.hid (fun h => by rw [HD.out.1] at h; exact ⟨HS.out pos hlt HT.out h, HD.out.2 h⟩)
        generalize hW : wr.iterAt w.heap.size s (pos + (Utf8.decode s pos).2) = W at *
        clear hW
        generalize ((Utf8.decode s pos).1 : Int) = c at *
        generalize (Utf8.decode s pos).2 = wd at *
        have Fin : Hid (∀ W', Below W.heap.size W W' → okc more c = true → (∃ pos : Nat, pos ≤ s.size ∧ w.heap.size < W'.heap.size ∧ Hid (W'.heap[w.heap.size]? = some (.stringIter s pos)) ∧ Hid ((s.data.toList.take pos).all (fun b => okc more b.toNat) = true) ∧ Hid (Below w.heap.size w W')) ∧ s.size - W'.iterPos w.heap.size < s.size - wr.iterPos w.heap.size) := Lib.hid (fun W' hb hok => by
          obtain ⟨y1, y2⟩ := HYes.out hok
          subst y2
          have hi : W'.heap[w.heap.size]? = some (.stringIter s (pos + 1)) := by rw [hb.block _ hsz2]; exact HI2.out
          refine ⟨⟨pos + 1, by omega, by have := hb.size; omega, Lib.hid hi, Lib.hid y1, Lib.hid (below_next HB2.out (by omega) hb)⟩, ?_⟩
          rw [iterPos_of hi, HP.out]
          omega)
        have HOc := Lib.hid (HO.out c)
        by_cases q : (97 ≤ c ∧ c ≤ 122) ∨ (48 ≤ c ∧ c ≤ 57)
        · have HK : Hid (okc more c = true) := Lib.hid (by
            rw [HOc.out]
            rcases q with ⟨a, b⟩ | ⟨a, b⟩
            · rw [decide_eq_true a, decide_eq_true b]; rfl
            · rw [decide_eq_true a, decide_eq_true b]; simp)
          have F := Lib.hid (Fin.out W (Below.refl _ _) HK.out)
          by_cases a1 : 97 ≤ c
          · have d1 : decide (97 ≤ c) = true := decide_eq_true a1
            have d2 : decide (c ≤ 122) = true := decide_eq_true (by omega)
            clear q
            go_wp2_with fail
            go_roundw
            case rel => exact F.out.1
            case measure => exact F.out.2
          · have d1 : decide (97 ≤ c) = false := decide_eq_false a1
            have d3 : decide (48 ≤ c) = true := decide_eq_true (by omega)
            have d4 : decide (c ≤ 57) = true := decide_eq_true (by omega)
            clear q
            go_wp2_with fail
            go_roundw
            case rel => exact F.out.1
            case measure => exact F.out.2
        · have HK : Hid (okc more c = hasR more c) := Lib.hid (by
            rw [HOc.out, show (decide (97 ≤ c) && decide (c ≤ 122)) = false by simp; omega, show (decide (48 ≤ c) && decide (c ≤ 57)) = false by simp; omega]
            rfl)
          have CC2 := Lib.hid (CC.out c W hc0 hc1)
          have D : (decide (97 ≤ c) = false ∧ decide (48 ≤ c) = false) ∨ (decide (97 ≤ c) = true ∧ decide (c ≤ 122) = false ∧ decide (48 ≤ c) = true ∧ decide (c ≤ 57) = false) ∨ (decide (97 ≤ c) = false ∧ decide (48 ≤ c) = true ∧ decide (c ≤ 57) = false) := by
            simp only [decide_eq_false_iff_not, decide_eq_true_eq]
            omega
          clear q
          rcases D with ⟨d1, d2⟩ | ⟨d1, d2, d3, d4⟩ | ⟨d1, d3, d4⟩
          all_goals
            go_wp2_with fail
            refine CC2.out.mono ?_
            rintro e W' ⟨rfl, hb⟩
            cases hr : hasR more c
            · have HF := Lib.hid (HNo.out (by rw [HK.out, hr]))
              have HBf := Lib.hid (below_next HB2.out (by omega) hb)
              clear hb
              go_wp2_with fail
              go_ret
              exact ⟨ret_bool HF.out.symm, HBf.out⟩
            · have F := Lib.hid (Fin.out W' hb (by rw [HK.out, hr]))
              clear hb
              go_wp2_with fail
              go_roundw
              case rel => exact F.out.1
              case measure => exact F.out.2
      · obtain rfl : pos = s.size := by omega
        have hnx : ∀ ty, (Instr.next (.pointer (some ⟨w.heap.size, 0, none⟩)) true ty).run Tryd.prog wr = _ := fun ty => Lib.run_next_end_at wr w.heap.size s s.size ty HI.out hlt
        have HF : Hid (mk s most more = true) := Lib.hid (by
          rw [HM2.out, ← HT.out, List.take_of_length_le (by simp)])
        go_wp2_with fail
        go_ret
        exact ⟨ret_bool HF.out.symm, HB.out⟩
end Go.Proofs.YtbgcbcnidjlhnaaDoor.Eid
