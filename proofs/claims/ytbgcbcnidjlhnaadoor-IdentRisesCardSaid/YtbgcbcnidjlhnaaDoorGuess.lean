/- The contracts of eid.digits, guessTexts, guess. -/
import Derived.Test.YtbgcbcnidjlhnaaDoorText
import Derived.Lib.ParseIntB
import Derived.Test.YtbgcbcnidjlhnaaDoorCut
namespace Go.Proofs.YtbgcbcnidjlhnaaDoor.Eid
open Go.RowKit Wd

/-- The number of a text of digits, 0 where it is none's. -/
def dg (l : List UInt8) : Int := match Lib.parseUintB 32 l with
  | .ok u => (u : Int)
  | _ => 0

/-- Five cells written one behind the other. -/
abbrev set5 (w : World) (g : Nat) (a b c d e : Value) : World := ((((w.setCell ⟨g, 0, none⟩ a).setCell ⟨g, 1, none⟩ b).setCell ⟨g, 2, none⟩ c).setCell ⟨g, 3, none⟩ d).setCell ⟨g, 4, none⟩ e
theorem set5_blk {w : World} {g : Nat} {t : TypeId} {a0 b0 c0 d0 e0 : Value} (h : Blk w g t #[a0, b0, c0, d0, e0]) (a b c d e : Value) : Blk (set5 w g a b c d e) g t #[a, b, c, d, e] := by
  simpa using ((((h.set_ 0 a).set_ 1 b).set_ 2 c).set_ 3 d).set_ 4 e
theorem set5_below {B g : Nat} {w0 w : World} (hb : Below B w0 w) (hB : B ≤ g) (a b c d e : Value) : Below B w0 (set5 w g a b c d e) :=
  ((((hb.setCell (p := ⟨g, 0, none⟩) hB a).setCell (p := ⟨g, 1, none⟩) hB b).setCell (p := ⟨g, 2, none⟩) hB c).setCell (p := ⟨g, 3, none⟩) hB d).setCell (p := ⟨g, 4, none⟩) hB e
theorem froz5 {w : World} {g : Nat} {t : TypeId} {a b c d e : Value} (h : Blk w g t #[a, b, c, d, e]) : w.frozen? ⟨g, 0, none⟩ = false ∧ w.frozen? ⟨g, 1, none⟩ = false ∧ w.frozen? ⟨g, 2, none⟩ = false ∧ w.frozen? ⟨g, 3, none⟩ = false ∧ w.frozen? ⟨g, 4, none⟩ = false :=
  ⟨h.frozen 0, h.frozen 1, h.frozen 2, h.frozen 3, h.frozen 4⟩

/-- A row of bytes as a text. -/
abbrev ba (l : List UInt8) : ByteArray := ⟨l.toArray⟩
abbrev zeroNm : Nm := ⟨false, 0, 0, ⟨#[]⟩, ⟨#[]⟩⟩
/-- The name by texts of a path. -/
def gT (l : List UInt8) : Nm := if Lib.hasPrefix l [47, 47] then ⟨false, 0, 0, ba (Lib.cut (Lib.trimPrefix l [47, 47]) [47]).1, ba (Lib.cut (Lib.trimPrefix l [47, 47]) [47]).2.1⟩ else zeroNm
theorem trim_le (l p : List UInt8) : (Lib.trimPrefix l p).length ≤ l.length := by
  unfold Lib.trimPrefix
  split <;> simp
theorem cut_le (l p : List UInt8) : (Lib.cut l p).1.length ≤ l.length ∧ (Lib.cut l p).2.1.length ≤ l.length := by
  unfold Lib.cut
  split <;> simp <;> omega

set_option maxRecDepth 100000 in
set_option maxHeartbeats 2000000 in
theorem guessTexts_all (s : ByteArray) (hs : s.size ≤ 9223372036854775807) (w : World) : Calls Tryd.prog 112 #[.string s] w fun e w' => e = .returned (gT s.data.toList).val ∧ Below w.heap.size w w' := by
  have HB := Lib.hid ((Below.refl w.heap.size w).alloc (Nat.le_refl _) (.cells #[.bool false, .int .u64 0, .int .u64 0, .string ⟨#[]⟩, .string ⟨#[]⟩] 24))
  have HK := Lib.hid (Blk.new w 24 #[.bool false, .int .u64 0, .int .u64 0, .string ⟨#[]⟩, .string ⟨#[]⟩])
  have CC := Lib.hid (cut_one (ba (Lib.trimPrefix s.data.toList [47, 47])) 47 (w.alloc (.cells #[.bool false, .int .u64 0, .int .u64 0, .string ⟨#[]⟩, .string ⟨#[]⟩] 24)) (by have := trim_le s.data.toList [47, 47]; have e : (ba (Lib.trimPrefix s.data.toList [47, 47])).size = (Lib.trimPrefix s.data.toList [47, 47]).length := rfl; rw [e]; have e2 : s.data.toList.length = s.size := (Lib.size_eq s).symm; omega))
  go_enter Tryd.func112, Tryd.ntmps112
  go_wp2_with fail
  refine (Tryd.strings_CutPrefix s ⟨#[47, 47]⟩ _).mono ?_
  rintro e w1 ⟨rfl, rfl⟩
  obtain ⟨c0, c1, c2, c3, c4⟩ := cells5 HK.out
  cases hp : Lib.hasPrefix s.data.toList [47, 47]
  · have HV := Lib.hid (show (gT s.data.toList).val = zeroNm.val by unfold gT; rw [hp]; rfl)
    go_wp2_with fail
    refine bodyPost_ret (v := (gT s.data.toList).val) (by rw [HV.out]; simp [results, Tryd.results112, go_sem, *]) rfl ⟨rfl, HB.out⟩
  · have HV := Lib.hid (show (gT s.data.toList).val = Nm.val ⟨false, 0, 0, ba (Lib.cut (Lib.trimPrefix s.data.toList [47, 47]) [47]).1, ba (Lib.cut (Lib.trimPrefix s.data.toList [47, 47]) [47]).2.1⟩ by unfold gT; rw [hp]; rfl)
    clear c0 c1 c2 c3 c4
    go_wp2_with fail
    refine CC.out.mono ?_
    rintro e w1 ⟨rfl, k, hw1⟩
    have HB1 := Lib.hid (show Below w.heap.size w w1 by rw [hw1]; exact below_drewN HB.out _)
    have HK1 : Hid (Blk w1 w.heap.size 24 #[.bool false, .int .u64 0, .int .u64 0, .string ⟨#[]⟩, .string ⟨#[]⟩]) := Lib.hid (by rw [hw1]; exact HK.out)
    clear hw1
    obtain ⟨c0, c1, c2, c3, c4⟩ := cells5 HK1.out
    obtain ⟨f0, f1, f2, f3, f4⟩ := froz5 HK1.out
    go_wp2_with fail
    have HK2 := Lib.hid (set5_blk HK1.out (.bool false) (.int .u64 0) (.int .u64 0) (.string (ba (Lib.cut (Lib.trimPrefix s.data.toList [47, 47]) [47]).1)) (.string (ba (Lib.cut (Lib.trimPrefix s.data.toList [47, 47]) [47]).2.1)))
    have HB2 := Lib.hid (set5_below HB1.out (Nat.le_refl _) (.bool false) (.int .u64 0) (.int .u64 0) (.string (ba (Lib.cut (Lib.trimPrefix s.data.toList [47, 47]) [47]).1)) (.string (ba (Lib.cut (Lib.trimPrefix s.data.toList [47, 47]) [47]).2.1)))
    clear c0 c1 c2 c3 c4 f0 f1 f2 f3 f4
    generalize hW2 : set5 w1 w.heap.size (.bool false) (.int .u64 0) (.int .u64 0) (.string (ba (Lib.cut (Lib.trimPrefix s.data.toList [47, 47]) [47]).1)) (.string (ba (Lib.cut (Lib.trimPrefix s.data.toList [47, 47]) [47]).2.1)) = W2 at HK2 HB2
    unfold set5 ba at hW2
    rw [hW2]
    obtain ⟨c0, c1, c2, c3, c4⟩ := cells5 HK2.out
    refine bodyPost_ret (v := (gT s.data.toList).val) (by rw [HV.out]; simp [results, Tryd.results112, go_sem, *]) rfl ⟨rfl, HB2.out⟩

theorem guessTexts_any (s : ByteArray) (hs : s.size < 4294967281) (w : World) (_ : Gl w) : Calls Tryd.prog 112 #[.string s] w fun e w' => e = .returned (gT s.data.toList).val ∧ Below w.heap.size w w' := guessTexts_all s (by omega) w

/-- The only name that a text can be of. -/
def guessOf (l : List UInt8) : Nm :=
  if Lib.hasPrefix l [105, 112, 110, 58] then ⟨true, dg (Lib.cut (Lib.trimPrefix l [105, 112, 110, 58]) [46]).1, dg (Lib.cut (Lib.trimPrefix l [105, 112, 110, 58]) [46]).2.1, ⟨#[]⟩, ⟨#[]⟩⟩
  else if Lib.hasPrefix l [100, 116, 110, 58] then gT (Lib.trimPrefix l [100, 116, 110, 58]) else zeroNm
theorem ba_size (l : List UInt8) : (ba l).size = l.length := rfl
theorem ba_list (l : List UInt8) : (ba l).data.toList = l := by simp [ba]

end Go.Proofs.YtbgcbcnidjlhnaaDoor.Eid
