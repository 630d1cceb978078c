/- The contracts of eid.digits, guessTexts, guess. -/
import Derived.Test.YtoieadbifhealaaDoorText
namespace Go.Proofs.YtoieadbifhealaaDoor.Eid
open Go.RowKit Wd

/-- The number of a text of digits, 0 where it is none's. -/
def dg (l : List UInt8) : Int := match Lib.parseUintB 32 l with
  | .ok u => (u : Int)
  | _ => 0

set_option maxRecDepth 100000 in
set_option maxHeartbeats 2000000 in
theorem digits_any (s : ByteArray) (hs : s.size ≤ 4294967280) (w : World) (G : Gl w) : Calls Tryd.prog 89 #[.string s] w fun e w' => e = .returned (.int .u64 (dg s.data.toList)) ∧ Below w.heap.size w w' := by
  obtain ⟨e1, h1, h1'⟩ := G.es
  obtain ⟨e2, h2, h2'⟩ := G.er
  by_cases q1 : ∃ u, Lib.parseUintB 32 s.data.toList = .ok u
  · obtain ⟨u, hp⟩ := q1
    have HD := Lib.hid (show dg s.data.toList = (u : Int) by unfold dg; rw [hp])
    have C := Lib.hid (Tryd.strconv_ParseUint_10_at32_ok s (by omega) u hp w)
    clear hp h1 h2 h1' h2'
    go_enter Tryd.func89, Tryd.ntmps89
    go_wp2_with fail
    refine C.out.mono ?_
    rintro e w1 ⟨rfl, hb⟩
    have HB : Hid (Below w.heap.size w w1) := Lib.hid (by
      rcases hb with rfl | rfl
      · exact Below.refl _ _
      · exact Lib.bytesWorld_below _ _ _)
    clear hb
    go_wp2_with fail
    go_ret
    exact ⟨by rw [HD.out]; rfl, HB.out⟩
  · have q1' : ∀ u, Lib.parseUintB 32 s.data.toList ≠ .ok u := fun u h => q1 ⟨u, h⟩
    have HD := Lib.hid (show dg s.data.toList = 0 by
      unfold dg
      split
      · rename_i u hu; exact absurd hu (q1' u)
      · rfl)
    by_cases q2 : Lib.parseUintB 32 s.data.toList = .range
    · have C := Lib.hid (Tryd.strconv_ParseUint_10_at32_range s (by omega) q2 e2 w h2 h2')
      clear q1 q1' q2 h1 h2 h1' h2'
      go_enter Tryd.func89, Tryd.ntmps89
      go_wp2_with fail
      refine C.out.mono ?_
      rintro e w1 ⟨N, rfl, _, _, hb⟩
      have HB := Lib.hid hb
      clear hb
      go_wp2_with fail
      go_ret
      exact ⟨by rw [HD.out]; rfl, HB.out⟩
    · have C := Lib.hid (Tryd.strconv_ParseUint_10_at32_none s (by omega) q1' q2 e1 w h1 h1')
      clear q1 q1' q2 h1 h2 h1' h2'
      go_enter Tryd.func89, Tryd.ntmps89
      go_wp2_with fail
      refine C.out.mono ?_
      rintro e w1 ⟨N, rfl, _, _, hb⟩
      have HB := Lib.hid hb
      clear hb
      go_wp2_with fail
      go_ret
      exact ⟨by rw [HD.out]; rfl, HB.out⟩

/-- Five cells written one behind the other. -/
abbrev set5 (w : World) (g : Nat) (a b c d e : Value) : World := ((((w.setCell ⟨g, 0, none⟩ a).setCell ⟨g, 1, none⟩ b).setCell ⟨g, 2, none⟩ c).setCell ⟨g, 3, none⟩ d).setCell ⟨g, 4, none⟩ e
theorem set5_blk {w : World} {g : Nat} {t : TypeId} {a0 b0 c0 d0 e0 : Value} (h : Blk w g t #[a0, b0, c0, d0, e0]) (a b c d e : Value) : Blk (set5 w g a b c d e) g t #[a, b, c, d, e] := by
  simpa using ((((h.set_ 0 a).set_ 1 b).set_ 2 c).set_ 3 d).set_ 4 e
theorem set5_below {B g : Nat} {w0 w : World} (hb : Below B w0 w) (hB : B ≤ g) (a b c d e : Value) : Below B w0 (set5 w g a b c d e) :=
  ((((hb.setCell (p := ⟨g, 0, none⟩) hB a).setCell (p := ⟨g, 1, none⟩) hB b).setCell (p := ⟨g, 2, none⟩) hB c).setCell (p := ⟨g, 3, none⟩) hB d).setCell (p := ⟨g, 4, none⟩) hB e
theorem froz5 {w : World} {g : Nat} {t : TypeId} {a b c d e : Value} (h : Blk w g t #[a, b, c, d, e]) : w.frozen? ⟨g, 0, none⟩ = false ∧ w.frozen? ⟨g, 1, none⟩ = false ∧ w.frozen? ⟨g, 2, none⟩ = false ∧ w.frozen? ⟨g, 3, none⟩ = false ∧ w.frozen? ⟨g, 4, none⟩ = false :=
  ⟨h.frozen 0, h.frozen 1, h.frozen 2, h.frozen 3, h.frozen 4⟩

/-- A row of bytes as a text. -/
abbrev ba (l : List UInt8) : ByteArray := ⟨l.toArray⟩
abbrev zeroNm : Nm := ⟨false, 0, 0, ⟨#[]⟩, ⟨#[]⟩⟩
/-- The name by texts of a path. -/
def gT (l : List UInt8) : Nm := if Lib.hasPrefix l [47, 47] then ⟨false, 0, 0, ba (Lib.cut (Lib.trimPrefix l [47, 47]) [47]).1, ba (Lib.cut (Lib.trimPrefix l [47, 47]) [47]).2.1⟩ else zeroNm
theorem trim_le (l p : List UInt8) : (Lib.trimPrefix l p).length ≤ l.length := by
  unfold Lib.trimPrefix
  split <;> simp
theorem cut_le (l p : List UInt8) : (Lib.cut l p).1.length ≤ l.length ∧ (Lib.cut l p).2.1.length ≤ l.length := by
  unfold Lib.cut
  split <;> simp <;> omega

set_option maxRecDepth 100000 in
set_option maxHeartbeats 2000000 in
theorem guessTexts_any (s : ByteArray) (hs : s.size < 4294967281) (w : World) (G : Gl w) : Calls Tryd.prog 90 #[.string s] w fun e w' => e = .returned (gT s.data.toList).val ∧ Below w.heap.size w w' := by
  have HB := Lib.hid ((Below.refl w.heap.size w).alloc (Nat.le_refl _) (.cells #[.bool false, .int .u64 0, .int .u64 0, .string ⟨#[]⟩, .string ⟨#[]⟩] 51))
  have HK := Lib.hid (Blk.new w 51 #[.bool false, .int .u64 0, .int .u64 0, .string ⟨#[]⟩, .string ⟨#[]⟩])
  have HG := Lib.hid (G.below HB.out)
  obtain ⟨m, hm⟩ := HG.out.ml
  have CC := Lib.hid (Tryd.strings_Cut (ba (Lib.trimPrefix s.data.toList [47, 47])) ⟨#[47]⟩ m _ (by have := trim_le s.data.toList [47, 47]; have e : (ba (Lib.trimPrefix s.data.toList [47, 47])).size = (Lib.trimPrefix s.data.toList [47, 47]).length := rfl; rw [e]; have e2 : s.data.toList.length = s.size := (Lib.size_eq s).symm; omega) hm)
  clear hm
  go_enter Tryd.func90, Tryd.ntmps90
  go_wp2_with fail
  refine (Tryd.strings_CutPrefix s ⟨#[47, 47]⟩ _).mono ?_
  rintro e w1 ⟨rfl, rfl⟩
  obtain ⟨c0, c1, c2, c3, c4⟩ := cells5 HK.out
  cases hp : Lib.hasPrefix s.data.toList [47, 47]
  · have HV := Lib.hid (show (gT s.data.toList).val = zeroNm.val by unfold gT; rw [hp]; rfl)
    go_wp2_with fail
    refine bodyPost_ret (v := (gT s.data.toList).val) (by rw [HV.out]; simp [results, Tryd.results90, go_sem, *]) rfl ⟨rfl, HB.out⟩
  · have HV := Lib.hid (show (gT s.data.toList).val = Nm.val ⟨false, 0, 0, ba (Lib.cut (Lib.trimPrefix s.data.toList [47, 47]) [47]).1, ba (Lib.cut (Lib.trimPrefix s.data.toList [47, 47]) [47]).2.1⟩ by unfold gT; rw [hp]; rfl)
    clear c0 c1 c2 c3 c4
    go_wp2_with fail
    refine CC.out.mono ?_
    rintro e w1 ⟨rfl, k, hw1⟩
    have HB1 := Lib.hid (show Below w.heap.size w w1 by rw [hw1]; exact below_drewN HB.out _)
    have HK1 : Hid (Blk w1 w.heap.size 51 #[.bool false, .int .u64 0, .int .u64 0, .string ⟨#[]⟩, .string ⟨#[]⟩]) := Lib.hid (by rw [hw1]; exact HK.out)
    clear hw1
    obtain ⟨c0, c1, c2, c3, c4⟩ := cells5 HK1.out
    obtain ⟨f0, f1, f2, f3, f4⟩ := froz5 HK1.out
    go_wp2_with fail
    have HK2 := Lib.hid (set5_blk HK1.out (.bool false) (.int .u64 0) (.int .u64 0) (.string (ba (Lib.cut (Lib.trimPrefix s.data.toList [47, 47]) [47]).1)) (.string (ba (Lib.cut (Lib.trimPrefix s.data.toList [47, 47]) [47]).2.1)))
    have HB2 := Lib.hid (set5_below HB1.out (Nat.le_refl _) (.bool false) (.int .u64 0) (.int .u64 0) (.string (ba (Lib.cut (Lib.trimPrefix s.data.toList [47, 47]) [47]).1)) (.string (ba (Lib.cut (Lib.trimPrefix s.data.toList [47, 47]) [47]).2.1)))
    clear c0 c1 c2 c3 c4 f0 f1 f2 f3 f4
    generalize hW2 : set5 w1 w.heap.size (.bool false) (.int .u64 0) (.int .u64 0) (.string (ba (Lib.cut (Lib.trimPrefix s.data.toList [47, 47]) [47]).1)) (.string (ba (Lib.cut (Lib.trimPrefix s.data.toList [47, 47]) [47]).2.1)) = W2 at HK2 HB2
    unfold set5 ba at hW2
    rw [hW2]
    obtain ⟨c0, c1, c2, c3, c4⟩ := cells5 HK2.out
    refine bodyPost_ret (v := (gT s.data.toList).val) (by rw [HV.out]; simp [results, Tryd.results90, go_sem, *]) rfl ⟨rfl, HB2.out⟩

/-- The only name that a text can be of. -/
def guessOf (l : List UInt8) : Nm :=
  if Lib.hasPrefix l [105, 112, 110, 58] then ⟨true, dg (Lib.cut (Lib.trimPrefix l [105, 112, 110, 58]) [46]).1, dg (Lib.cut (Lib.trimPrefix l [105, 112, 110, 58]) [46]).2.1, ⟨#[]⟩, ⟨#[]⟩⟩
  else if Lib.hasPrefix l [100, 116, 110, 58] then gT (Lib.trimPrefix l [100, 116, 110, 58]) else zeroNm
theorem ba_size (l : List UInt8) : (ba l).size = l.length := rfl
theorem ba_list (l : List UInt8) : (ba l).data.toList = l := by simp [ba]

set_option maxRecDepth 100000 in
set_option maxHeartbeats 4000000 in
theorem guess_any (s : ByteArray) (hs : s.size ≤ 4294967280) (w : World) (G : Gl w) : Calls Tryd.prog 70 #[.string s] w fun e w' => e = .returned (guessOf s.data.toList).val ∧ Below w.heap.size w w' := by
  have HB := Lib.hid ((Below.refl w.heap.size w).alloc (Nat.le_refl _) (.cells #[.bool false, .int .u64 0, .int .u64 0, .string ⟨#[]⟩, .string ⟨#[]⟩] 51))
  have HK := Lib.hid (Blk.new w 51 #[.bool false, .int .u64 0, .int .u64 0, .string ⟨#[]⟩, .string ⟨#[]⟩])
  have HG := Lib.hid (G.below HB.out)
  have hsl : s.data.toList.length = s.size := (Lib.size_eq s).symm
  have CP1 := Lib.hid (fun w' => Tryd.strings_CutPrefix s ⟨#[105, 112, 110, 58]⟩ w')
  have CP2 := Lib.hid (fun w' => Tryd.strings_CutPrefix s ⟨#[100, 116, 110, 58]⟩ w')
  have HGU := Lib.hid (show guessOf s.data.toList = if Lib.hasPrefix s.data.toList [105, 112, 110, 58] then ⟨true, dg (Lib.cut (Lib.trimPrefix s.data.toList [105, 112, 110, 58]) [46]).1, dg (Lib.cut (Lib.trimPrefix s.data.toList [105, 112, 110, 58]) [46]).2.1, ⟨#[]⟩, ⟨#[]⟩⟩ else if Lib.hasPrefix s.data.toList [100, 116, 110, 58] then gT (Lib.trimPrefix s.data.toList [100, 116, 110, 58]) else zeroNm from rfl)
  have L1 := trim_le s.data.toList [105, 112, 110, 58]
  have L2 := trim_le s.data.toList [100, 116, 110, 58]
  show Calls Tryd.prog 70 #[.string s] w fun e w' => e = .returned (guessOf s.data.toList).val ∧ Below w.heap.size w w'
  generalize guessOf s.data.toList = R at *
  have CP1' : Hid (∀ w', Calls Tryd.prog 87 #[.string s, .string ⟨#[105, 112, 110, 58]⟩] w' fun e w1 => e = .returned (.tuple #[.string (ba (Lib.trimPrefix s.data.toList [105, 112, 110, 58])), .bool (Lib.hasPrefix s.data.toList [105, 112, 110, 58])]) ∧ w1 = w') := CP1
  have CP2' : Hid (∀ w', Calls Tryd.prog 87 #[.string s, .string ⟨#[100, 116, 110, 58]⟩] w' fun e w1 => e = .returned (.tuple #[.string (ba (Lib.trimPrefix s.data.toList [100, 116, 110, 58])), .bool (Lib.hasPrefix s.data.toList [100, 116, 110, 58])]) ∧ w1 = w') := CP2
  clear CP1 CP2
  generalize Lib.trimPrefix s.data.toList [105, 112, 110, 58] = r1 at *
  generalize Lib.trimPrefix s.data.toList [100, 116, 110, 58] = r2 at *
  generalize Lib.hasPrefix s.data.toList [105, 112, 110, 58] = b1 at *
  generalize Lib.hasPrefix s.data.toList [100, 116, 110, 58] = b2 at *
  have K1 := cut_le r1 [46]
  have CC : Hid (∀ w', Gl w' → Calls Tryd.prog 88 #[.string (ba r1), .string ⟨#[46]⟩] w' fun e w1 => e = .returned (.tuple #[.string (ba (Lib.cut r1 [46]).1), .string (ba (Lib.cut r1 [46]).2.1), .bool (Lib.cut r1 [46]).2.2]) ∧ Below w'.heap.size w' w1) := Lib.hid (fun w' g => by
    obtain ⟨m, hm⟩ := g.ml
    refine (Tryd.strings_Cut (ba r1) ⟨#[46]⟩ m w' (by rw [ba_size]; omega) hm).mono ?_
    rintro e w1 ⟨rfl, k, rfl⟩
    rw [ba_list]
    exact ⟨rfl, below_drewN (Below.refl _ _) _⟩)
  generalize (Lib.cut r1 [46]).1 = p1 at *
  generalize (Lib.cut r1 [46]).2.1 = p2 at *
  generalize (Lib.cut r1 [46]).2.2 = p3 at *
  have CD1 : Hid (∀ w', Gl w' → Calls Tryd.prog 89 #[.string (ba p1)] w' fun e w1 => e = .returned (.int .u64 (dg p1)) ∧ Below w'.heap.size w' w1) := Lib.hid (fun w' g => by
    have h := digits_any (ba p1) (by rw [ba_size]; omega) w' g
    rw [ba_list] at h
    exact h)
  have CD2 : Hid (∀ w', Gl w' → Calls Tryd.prog 89 #[.string (ba p2)] w' fun e w1 => e = .returned (.int .u64 (dg p2)) ∧ Below w'.heap.size w' w1) := Lib.hid (fun w' g => by
    have h := digits_any (ba p2) (by rw [ba_size]; omega) w' g
    rw [ba_list] at h
    exact h)
  have CT : Hid (∀ w', Gl w' → Calls Tryd.prog 90 #[.string (ba r2)] w' fun e w1 => e = .returned (gT r2).val ∧ Below w'.heap.size w' w1) := Lib.hid (fun w' g => by
    have h := guessTexts_any (ba r2) (by rw [ba_size]; omega) w' g
    rw [ba_list] at h
    exact h)
  generalize dg p1 = n1 at *
  generalize dg p2 = n2 at *
  generalize gT r2 = t2 at *
  clear L1 L2 K1 hs hsl
  go_enter Tryd.func70, Tryd.ntmps70
  go_wp2_with fail
  refine (CP1'.out _).mono ?_
  rintro e w1 ⟨rfl, rfl⟩
  cases b1
  · go_wp2_with fail
    refine (CP2'.out _).mono ?_
    rintro e w1 ⟨rfl, rfl⟩
    cases b2
    · obtain ⟨c0, c1, c2, c3, c4⟩ := cells5 HK.out
      have HV := Lib.hid (show R.val = zeroNm.val by rw [HGU.out]; rfl)
      go_wp2_with fail
      refine bodyPost_ret (v := R.val) (by rw [HV.out]; simp [results, Tryd.results70, go_sem, *]) rfl ⟨rfl, HB.out⟩
    · have HV := Lib.hid (show R.val = t2.val by rw [HGU.out]; rfl)
      go_wp2_with fail
      refine (CT.out _ HG.out).mono ?_
      rintro e w1 ⟨rfl, hb1⟩
      have HB1 := Lib.hid (below_next HB.out (by simp) hb1)
      have HK1 := Lib.hid (HK.out.next hb1)
      clear hb1
      obtain ⟨i, n, s5, h, d⟩ := t2
      obtain ⟨c0, c1, c2, c3, c4⟩ := cells5 HK1.out
      obtain ⟨f0, f1, f2, f3, f4⟩ := froz5 HK1.out
      go_wp2_with fail
      have HK2 := Lib.hid (set5_blk HK1.out (.bool i) (.int .u64 n) (.int .u64 s5) (.string h) (.string d))
      have HB2 := Lib.hid (set5_below HB1.out (Nat.le_refl _) (.bool i) (.int .u64 n) (.int .u64 s5) (.string h) (.string d))
      clear c0 c1 c2 c3 c4 f0 f1 f2 f3 f4
      generalize hW2 : set5 w1 w.heap.size (.bool i) (.int .u64 n) (.int .u64 s5) (.string h) (.string d) = W2 at HK2 HB2
      unfold set5 at hW2
      rw [hW2]
      obtain ⟨c0, c1, c2, c3, c4⟩ := cells5 HK2.out
      refine bodyPost_ret (v := R.val) (by rw [HV.out]; simp [results, Tryd.results70, go_sem, *]) rfl ⟨rfl, HB2.out⟩
  · have HV := Lib.hid (show R.val = Nm.val ⟨true, n1, n2, ⟨#[]⟩, ⟨#[]⟩⟩ by rw [HGU.out]; rfl)
    go_wp2_with fail
    refine (CC.out _ HG.out).mono ?_
    rintro e w1 ⟨rfl, hb1⟩
    have HB1 := Lib.hid (below_next HB.out (by simp) hb1)
    have HK1 := Lib.hid (HK.out.next hb1)
    have HG1 := Lib.hid (HG.out.below hb1)
    clear hb1
    go_wp2_with fail
    refine (CD1.out _ HG1.out).mono ?_
    rintro e w2 ⟨rfl, hb2⟩
    have HB2 := Lib.hid (below_next HB1.out HB1.out.size hb2)
    have HK2 := Lib.hid (HK1.out.next hb2)
    have HG2 := Lib.hid (HG1.out.below hb2)
    clear hb2
    go_wp2_with fail
    refine (CD2.out _ HG2.out).mono ?_
    rintro e w3 ⟨rfl, hb3⟩
    have HB3 := Lib.hid (below_next HB2.out HB2.out.size hb3)
    have HK3 := Lib.hid (HK2.out.next hb3)
    clear hb3
    obtain ⟨c0, c1, c2, c3, c4⟩ := cells5 HK3.out
    obtain ⟨f0, f1, f2, f3, f4⟩ := froz5 HK3.out
    go_wp2_with fail
    have HK4 := Lib.hid (set5_blk HK3.out (.bool true) (.int .u64 n1) (.int .u64 n2) (.string ⟨#[]⟩) (.string ⟨#[]⟩))
    have HB4 := Lib.hid (set5_below HB3.out (Nat.le_refl _) (.bool true) (.int .u64 n1) (.int .u64 n2) (.string ⟨#[]⟩) (.string ⟨#[]⟩))
    clear c0 c1 c2 c3 c4 f0 f1 f2 f3 f4
    generalize hW2 : set5 w3 w.heap.size (.bool true) (.int .u64 n1) (.int .u64 n2) (.string ⟨#[]⟩) (.string ⟨#[]⟩) = W2 at HK4 HB4
    unfold set5 at hW2
    rw [hW2]
    obtain ⟨c0, c1, c2, c3, c4⟩ := cells5 HK4.out
    refine bodyPost_ret (v := R.val) (by rw [HV.out]; simp [results, Tryd.results70, go_sem, *]) rfl ⟨rfl, HB4.out⟩
end Go.Proofs.YtoieadbifhealaaDoor.Eid
