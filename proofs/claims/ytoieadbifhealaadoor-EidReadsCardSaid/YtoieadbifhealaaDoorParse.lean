/- The contract of eid.Parse. -/
import Derived.Test.YtoieadbifhealaaDoorGuess
namespace Go.Proofs.YtoieadbifhealaaDoor.Eid
open Go.RowKit Wd

theorem parseM_le (M : Nat) : ∀ (l : List UInt8) (acc u : Nat), acc ≤ M → Lib.parseUintM M acc l = .ok u → u ≤ M
  | [], acc, u, ha, h => by
    simp only [Lib.parseUintM, Lib.NumEnd.ok.injEq] at h
    omega
  | c :: r, acc, u, ha, h => by
    unfold Lib.parseUintM at h
    split at h
    · split at h
      · cases h
      · split at h
        · cases h
        · exact parseM_le M r _ u (by omega) h
    · cases h
theorem dg_range (l : List UInt8) : 0 ≤ dg l ∧ dg l ≤ 4294967295 := by
  unfold dg
  split
  · rename_i u hu
    unfold Lib.parseUintB at hu
    split at hu
    · cases hu
    · have := parseM_le (2 ^ 32 - 1) l 0 u (by omega) hu
      omega
  · omega
theorem gT_size (l : List UInt8) : (gT l).host.size ≤ l.length ∧ (gT l).demux.size ≤ l.length := by
  unfold gT
  split
  · have h1 := trim_le l [47, 47]
    have h2 := cut_le (Lib.trimPrefix l [47, 47]) [47]
    exact ⟨Nat.le_trans h2.1 h1, Nat.le_trans h2.2 h1⟩
  · exact ⟨Nat.zero_le _, Nat.zero_le _⟩
theorem gT_nums (l : List UInt8) : (gT l).node = 0 ∧ (gT l).service = 0 ∧ (gT l).ipn = false := by
  unfold gT
  split <;> exact ⟨rfl, rfl, rfl⟩
theorem zero_ok : zeroNm.ok := ⟨by decide, by decide, by decide, by decide, by simp [ByteArray.size], by simp [ByteArray.size]⟩
theorem gT_ok (l : List UInt8) (hl : l.length ≤ maxLen) : (gT l).ok := by
  obtain ⟨a, b, _⟩ := gT_nums l
  obtain ⟨c, d⟩ := gT_size l
  exact ⟨by omega, by omega, by omega, by omega, by omega, by omega⟩
theorem guess_ok (l : List UInt8) (hl : l.length ≤ maxLen) : (guessOf l).ok := by
  unfold guessOf
  split
  · have h1 := dg_range (Lib.cut (Lib.trimPrefix l [105, 112, 110, 58]) [46]).1
    have h2 := dg_range (Lib.cut (Lib.trimPrefix l [105, 112, 110, 58]) [46]).2.1
    exact ⟨h1.1, Int.le_trans h1.2 (by decide), h2.1, Int.le_trans h2.2 (by decide), by simp [ByteArray.size], by simp [ByteArray.size]⟩
  · split
    · exact gT_ok _ (Nat.le_trans (trim_le _ _) hl)
    · exact zero_ok

theorem toList_inj {a b : ByteArray} (h : a.toList = b.toList) : a = b := by
  rw [Lib.toList_data, Lib.toList_data] at h
  obtain ⟨⟨x⟩⟩ := a
  obtain ⟨⟨y⟩⟩ := b
  replace h : x = y := h
  rw [h]

/-- Is a text a name's? -/
def isName (s : ByteArray) : Bool := right (guessOf s.data.toList) && decide (textOf (guessOf s.data.toList) = s)
/-- The name of a text. -/
def parseOf (s : ByteArray) : Nm := if isName s then guessOf s.data.toList else zeroNm
/-- .. and its errno. -/
def parseE (s : ByteArray) : Int := if isName s then 0 else 3

set_option maxRecDepth 100000 in
set_option maxHeartbeats 4000000 in
theorem parse_any (s : ByteArray) (hs : s.size ≤ 4294967280) (w : World) (G : Gl w) : Calls Tryd.prog 38 #[.string s] w fun e w' => e = .returned (.tuple #[(parseOf s).val, .int .i64 (parseE s)]) ∧ Below w.heap.size w w' := by
  have HB := Lib.hid ((Below.refl w.heap.size w).alloc (Nat.le_refl _) (.cells #[.bool false, .int .u64 0, .int .u64 0, .string ⟨#[]⟩, .string ⟨#[]⟩] 51))
  have HK := Lib.hid (Blk.new w 51 #[.bool false, .int .u64 0, .int .u64 0, .string ⟨#[]⟩, .string ⟨#[]⟩])
  have HG := Lib.hid (G.below HB.out)
  have hok := guess_ok s.data.toList (by have := Lib.size_eq s; unfold maxLen; omega)
  have CG := Lib.hid (fun w' g => guess_any s hs w' g)
  have CT := Lib.hid (fun w' g => text_any (guessOf s.data.toList) hok w' g)
  have HE : Hid (parseE s = if right (guessOf s.data.toList) = true ∧ textOf (guessOf s.data.toList) = s then 0 else 3) := Lib.hid (by unfold parseE isName; simp)
  have HP : Hid (parseOf s = if right (guessOf s.data.toList) = true ∧ textOf (guessOf s.data.toList) = s then guessOf s.data.toList else zeroNm) := Lib.hid (by unfold parseOf isName; simp)
  clear hok hs
  generalize parseOf s = R at *
  generalize parseE s = E at *
  generalize textOf (guessOf s.data.toList) = T at *
  generalize right (guessOf s.data.toList) = r at *
  generalize guessOf s.data.toList = x at *
  obtain ⟨i, n, s5, h, d⟩ := x
  go_enter Tryd.func38, Tryd.ntmps38
  go_wp2_with fail
  refine (CG.out _ HG.out).mono ?_
  rintro e w1 ⟨rfl, hb1⟩
  have HB1 := Lib.hid (below_next HB.out (by simp) hb1)
  have HK1 := Lib.hid (HK.out.next hb1)
  have HG1 := Lib.hid (HG.out.below hb1)
  clear hb1
  have HB2 := Lib.hid (HB1.out.alloc HB1.out.size (.cells #[.bool i, .int .u64 n, .int .u64 s5, .string h, .string d] 51))
  have HK2 := Lib.hid (HK1.out.alloc (.cells #[.bool i, .int .u64 n, .int .u64 s5, .string h, .string d] 51))
  have HK3 := Lib.hid (Blk.new w1 51 #[.bool i, .int .u64 n, .int .u64 s5, .string h, .string d])
  have HG2 := Lib.hid (HG1.out.below ((Below.refl w1.heap.size w1).alloc (Nat.le_refl _) (.cells #[.bool i, .int .u64 n, .int .u64 s5, .string h, .string d] 51)))
  go_wp2_with fail
  refine (CT.out _ HG2.out).mono ?_
  rintro e w2 ⟨rfl, hb2⟩
  have HB4 := Lib.hid (below_next HB2.out HB2.out.size hb2)
  have HK4 := Lib.hid (HK2.out.next hb2)
  have HK6 := Lib.hid (HK3.out.next hb2)
  clear hb2
  cases r
  · have HE2 := Lib.hid (show E = 3 by rw [HE.out]; rfl)
    have HP2 := Lib.hid (show R.val = zeroNm.val by rw [HP.out]; rfl)
    simp only [Bool.false_eq_true, if_false]
    · obtain ⟨c0, c1, c2, c3, c4⟩ := cells5 HK4.out
      obtain ⟨f0, f1, f2, f3, f4⟩ := froz5 HK4.out
      go_wp2_with fail
      have HK5 := Lib.hid (set5_blk HK4.out (.bool false) (.int .u64 0) (.int .u64 0) (.string ⟨#[]⟩) (.string ⟨#[]⟩))
      have HB5 := Lib.hid (set5_below HB4.out (Nat.le_refl _) (.bool false) (.int .u64 0) (.int .u64 0) (.string ⟨#[]⟩) (.string ⟨#[]⟩))
      clear c0 c1 c2 c3 c4 f0 f1 f2 f3 f4
      generalize hW2 : set5 w2 w.heap.size (.bool false) (.int .u64 0) (.int .u64 0) (.string ⟨#[]⟩) (.string ⟨#[]⟩) = W2 at HK5 HB5
      unfold set5 at hW2
      rw [hW2]
      obtain ⟨c0, c1, c2, c3, c4⟩ := cells5 HK5.out
      refine bodyPost_ret (v := .tuple #[R.val, .int .i64 E]) (by rw [HE2.out, HP2.out]; simp [results, Tryd.results38, go_sem, *]) rfl ⟨rfl, HB5.out⟩
  · simp only [if_true]
    by_cases hT : T = s
    · have HE2 := Lib.hid (show E = 0 by rw [HE.out, if_pos ⟨rfl, hT⟩])
      have HP2 := Lib.hid (show R.val = Nm.val ⟨i, n, s5, h, d⟩ by rw [HP.out, if_pos ⟨rfl, hT⟩])
      subst hT
      obtain ⟨a0, a1, a2, a3, a4⟩ := cells5 HK6.out
      obtain ⟨c0, c1, c2, c3, c4⟩ := cells5 HK4.out
      obtain ⟨f0, f1, f2, f3, f4⟩ := froz5 HK4.out
      go_wp2_with fail
      have HK5 := Lib.hid (set5_blk HK4.out (.bool i) (.int .u64 n) (.int .u64 s5) (.string h) (.string d))
      have HB5 := Lib.hid (set5_below HB4.out (Nat.le_refl _) (.bool i) (.int .u64 n) (.int .u64 s5) (.string h) (.string d))
      clear c0 c1 c2 c3 c4 f0 f1 f2 f3 f4 a0 a1 a2 a3 a4
      generalize hW2 : set5 w2 w.heap.size (.bool i) (.int .u64 n) (.int .u64 s5) (.string h) (.string d) = W2 at HK5 HB5
      unfold set5 at hW2
      rw [hW2]
      obtain ⟨c0, c1, c2, c3, c4⟩ := cells5 HK5.out
      refine bodyPost_ret (v := .tuple #[R.val, .int .i64 E]) (by rw [HE2.out, HP2.out]; simp [results, Tryd.results38, go_sem, *]) rfl ⟨rfl, HB5.out⟩
    · have HE2 := Lib.hid (show E = 3 by rw [HE.out, if_neg (fun q => hT q.2)])
      have HP2 := Lib.hid (show R.val = zeroNm.val by rw [HP.out, if_neg (fun q => hT q.2)])
      have t1 : (T.toList == s.toList) = false := by
        rw [beq_eq_false_iff_ne]
        exact fun h => hT (toList_inj h)
      obtain ⟨c0, c1, c2, c3, c4⟩ := cells5 HK4.out
      obtain ⟨f0, f1, f2, f3, f4⟩ := froz5 HK4.out
      go_wp2_with fail
      have HK5 := Lib.hid (set5_blk HK4.out (.bool false) (.int .u64 0) (.int .u64 0) (.string ⟨#[]⟩) (.string ⟨#[]⟩))
      have HB5 := Lib.hid (set5_below HB4.out (Nat.le_refl _) (.bool false) (.int .u64 0) (.int .u64 0) (.string ⟨#[]⟩) (.string ⟨#[]⟩))
      clear c0 c1 c2 c3 c4 f0 f1 f2 f3 f4
      generalize hW2 : set5 w2 w.heap.size (.bool false) (.int .u64 0) (.int .u64 0) (.string ⟨#[]⟩) (.string ⟨#[]⟩) = W2 at HK5 HB5
      unfold set5 at hW2
      rw [hW2]
      obtain ⟨c0, c1, c2, c3, c4⟩ := cells5 HK5.out
      refine bodyPost_ret (v := .tuple #[R.val, .int .i64 E]) (by rw [HE2.out, HP2.out]; simp [results, Tryd.results38, go_sem, *]) rfl ⟨rfl, HB5.out⟩
end Go.Proofs.YtoieadbifhealaaDoor.Eid
