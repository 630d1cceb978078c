/- Texts of my own, laid together: Fmt, Text, Cut, Guess, Parse, EidL, EidBackP. -/
import Derived.Test.YthknkdphofjmhaaDoorZg2
import Derived.Lib.ItoaMem
import Derived.Lib.AppendIntMem
import Derived.BigCall
import Derived.BigGuard
import Derived.Lib.Walk
import Derived.Test.YthknkdphofjmhaaDoorProg
import Derived.Test.YthknkdphofjmhaaDoorShelf
import Derived.WalkKit
import Derived.Lib.CutLaws
import Derived.Lib.Hide
import Derived.BigQuiet
import Derived.Lib.ParseIntB
import Derived.Lib.ItoaNum
import Derived.Lib.Strings
import Derived.Lib.IndexMore
import Derived.Lib.IndexBytes
/- The variables that the names' layer reads; the contract of strconv.FormatUint at base 10. -/
namespace Go.Proofs.YthknkdphofjmhaaDoor.Eid
open Go.RowKit Wd Go.Sort

/-- What is asked of the five variables (and of bytealg.MaxLen). -/
structure Gl (w : World) : Prop where
  ml : ∃ m, w.cell? ⟨3, 0, none⟩ = some (.int .i64 m)
theorem cell_lt {w : World} {a : Addr} {v : Value} (h : w.cell? a = some v) : a.block < w.heap.size := by
  rcases Nat.lt_or_ge a.block w.heap.size with hl | hg
  · exact hl
  · simp [World.cell?, Array.getElem?_eq_none hg] at h
theorem cell_below {w w' : World} (hb : Below w.heap.size w w') {a : Addr} {v : Value} (h : w.cell? a = some v) : w'.cell? a = some v := by
  have e := hb.block a.block (cell_lt h)
  unfold World.cell? at h ⊢
  rw [e]
  exact h
theorem glob_lt {w : World} {n : String} {g : Nat} {cs : Array Value} (hg : Tryd.prog.globalNamed n = some g) (h : w.var? Tryd.prog n = some cs) : g < w.heap.size := by
  rcases Nat.lt_or_ge g w.heap.size with hl | hge
  · exact hl
  · simp [World.var?, hg, Array.getElem?_eq_none hge] at h
theorem Gl.below {w w' : World} (h : Gl w) (hb : Below w.heap.size w w') : Gl w' :=
  ⟨
   h.ml.elim fun m hm => ⟨m, cell_below hb hm⟩⟩
/-- What is asked of bytealg.MaxLen alone. -/
structure Ml (w : World) : Prop where
  ml : ∃ m, w.cell? ⟨3, 0, none⟩ = some (.int .i64 m)
theorem Ml.below {w w' : World} (h : Ml w) (hb : Below w.heap.size w w') : Ml w' := ⟨h.ml.elim fun m hm => ⟨m, cell_below hb hm⟩⟩
theorem Gl.toMl {w : World} (h : Gl w) : Ml w := ⟨h.ml⟩
instance {w : World} : Coe (Gl w) (Ml w) := ⟨Gl.toMl⟩



end Go.Proofs.YthknkdphofjmhaaDoor.Eid
/- The contract of eid.Text. -/
namespace Go.Proofs.YthknkdphofjmhaaDoor.Eid
open Go.RowKit Wd

/-- A number's decimal text. -/
def dec (n : Int) : ByteArray := ⟨(Lib.decDigits n.toNat).toArray⟩
theorem dec_size (n : Int) (h0 : 0 ≤ n) (h1 : n ≤ 18446744073709551615) : (dec n).size ≤ 20 := by
  show (Lib.decDigits n.toNat).length ≤ 20
  rw [Lib.decDigits_length]
  by_cases h : n.toNat = 0
  · rw [h, Lib.nDigits_small (by omega)]; omega
  · have := Lib.numDigits_eq n.toNat (by omega) (by omega)
    split at this <;> omega
/-- A name's text. -/
def textOf (x : Nm) : ByteArray := if kd x = 0 then ⟨#[100, 116, 110, 58, 110, 111, 110, 101]⟩ else if kd x = 1 then (((⟨#[105, 112, 110, 58]⟩ : ByteArray) ++ dec x.node) ++ (⟨#[46]⟩ : ByteArray)) ++ dec x.service else (⟨#[100, 116, 110, 58]⟩ : ByteArray) ++ pathOf x.host x.demux
theorem right_texts (x : Nm) (h : right x = true) (h0 : kd x ≠ 0) (h1 : kd x ≠ 1) : x.host.size ≤ 1000 ∧ x.demux.size ≤ 1000 := by
  obtain ⟨i, n, s, a, b⟩ := x
  unfold kd at h0 h1
  unfold right at h
  cases i
  · simp only [Bool.false_eq_true, if_false] at h h0 h1
    by_cases hz : n = 0 ∧ s = 0 ∧ a.toList = [] ∧ b.toList = []
    · rw [if_pos hz] at h0; exact absurd rfl h0
    · rw [if_neg hz] at h
      simp only [Bool.and_eq_true, rt, mk, decide_eq_true_eq] at h
      refine ⟨?_, ?_⟩
      · show a.size ≤ 1000
        have := h.2.1.2.1
        omega
      · show b.size ≤ 1000
        have := h.2.2.1
        omega
  · exact absurd rfl h1
theorem path_size (h d : ByteArray) : (pathOf h d).size = 2 + h.size + 1 + d.size := by
  unfold pathOf
  simp only [ByteArray.size_append]
  rfl

end Go.Proofs.YthknkdphofjmhaaDoor.Eid
/- The contract of strings.Cut at a separator of one byte, whatever the text's length. -/
namespace Go.Proofs.YthknkdphofjmhaaDoor.Eid
open Go.RowKit Go.Lib

set_option maxHeartbeats 2000000 in
set_option maxRecDepth 100000 in
theorem liteCut_one (s : ByteArray) (c : UInt8) (w : World) (hs : s.size ≤ 9223372036854775807) :
    Calls Tryd.prog 122 #[.string s, .string ⟨#[c]⟩] w fun e w' => e = .returned (.tuple #[.string ⟨(Lib.cut s.data.toList [c]).1.toArray⟩, .string ⟨(Lib.cut s.data.toList [c]).2.1.toArray⟩, .bool (Lib.cut s.data.toList [c]).2.2]) ∧ ∃ n, w' = w.drewN n := by
  rcases Lib.indexB_cases s ⟨#[c]⟩ with hix | ⟨i, hix, hroom⟩
  · obtain ⟨e1, e2, e3⟩ := Lib.cutB_miss s ⟨#[c]⟩ hix
    have HX := Lib.hid (show Lib.indexByte s.data.toList c = -1 from (Lib.index_one _ _).symm.trans hix)
    show Calls _ _ _ _ fun e w' => e = .returned (.tuple #[.string ⟨(Lib.cut s.data.toList (⟨#[c]⟩ : ByteArray).data.toList).1.toArray⟩, .string ⟨(Lib.cut s.data.toList (⟨#[c]⟩ : ByteArray).data.toList).2.1.toArray⟩, .bool (Lib.cut s.data.toList (⟨#[c]⟩ : ByteArray).data.toList).2.2]) ∧ ∃ n, w' = w.drewN n
    rw [e1, e2, e3]
    clear e1 e2 e3 hix
    go_enter Tryd.func122, Tryd.ntmps122
    go_wp2_with fail
    refine (Tryd.stringslite_Index_one s c w).mono ?_
    rintro e w' ⟨rfl, rfl⟩
    rw [HX.out]
    go_wp2_with fail
    go_ret3
    exact ⟨rfl, 0, rfl⟩
  · obtain ⟨e1, e2, e3⟩ := Lib.cutB_hit s ⟨#[c]⟩ i hix
    have HX := Lib.hid (show Lib.indexByte s.data.toList c = (i : Int) from (Lib.index_one _ _).symm.trans hix)
    show Calls _ _ _ _ fun e w' => e = .returned (.tuple #[.string ⟨(Lib.cut s.data.toList (⟨#[c]⟩ : ByteArray).data.toList).1.toArray⟩, .string ⟨(Lib.cut s.data.toList (⟨#[c]⟩ : ByteArray).data.toList).2.1.toArray⟩, .bool (Lib.cut s.data.toList (⟨#[c]⟩ : ByteArray).data.toList).2.2]) ∧ ∃ n, w' = w.drewN n
    rw [e1, e2, e3]
    clear e1 e2 e3 hix
    have hz : (⟨#[c]⟩ : ByteArray).size = 1 := rfl
    rw [hz] at hroom ⊢
    have c1 : (0 : Int) ≤ ↑i := by omega
    have c2 : (↑i : Int) ≤ ↑s.size := by omega
    have c3 : (0 : Int) ≤ ↑i + 1 := by omega
    have c4 : (↑i + 1 : Int) ≤ ↑s.size := by omega
    have hwi : IntKind.i64.wrap ((i : Int) + 1) = (i : Int) + 1 := by rw [IntKind.wrap_i64]; omega
    have hwj : wrap64 ((i : Int) + 1) = (i : Int) + 1 := by unfold wrap64; omega
    have hwk : ((i : Int) + 1).toNat = i + 1 := by omega
    go_enter Tryd.func122, Tryd.ntmps122
    go_wp2_with fail
    refine (Tryd.stringslite_Index_one s c w).mono ?_
    rintro e w' ⟨rfl, rfl⟩
    rw [HX.out]
    go_wp2_with fail
    go_region
    go_wp2_with fail
    go_ret3
    exact ⟨rfl, 1, rfl⟩

set_option maxHeartbeats 1000000 in
theorem cut_one (s : ByteArray) (c : UInt8) (w : World) (hs : s.size ≤ 9223372036854775807) :
    Calls Tryd.prog 114 #[.string s, .string ⟨#[c]⟩] w fun e w' => e = .returned (.tuple #[.string ⟨(Lib.cut s.data.toList [c]).1.toArray⟩, .string ⟨(Lib.cut s.data.toList [c]).2.1.toArray⟩, .bool (Lib.cut s.data.toList [c]).2.2]) ∧ ∃ n, w' = w.drewN n := by
  go_enter Tryd.func114, Tryd.ntmps114
  go_wp2_with fail
  refine (liteCut_one s c _ hs).mono ?_
  rintro e w' ⟨rfl, n, rfl⟩
  go_wp2_with fail
  go_ret3
  exact ⟨rfl, n, rfl⟩
end Go.Proofs.YthknkdphofjmhaaDoor.Eid
/- The contracts of eid.digits, guessTexts, guess. -/
namespace Go.Proofs.YthknkdphofjmhaaDoor.Eid
open Go.RowKit Wd

/-- The number of a text of digits, 0 where it is none's. -/
def dg (l : List UInt8) : Int := match Lib.parseUintB 32 l with
  | .ok u => (u : Int)
  | _ => 0

/-- Five cells written one behind the other. -/
abbrev set5 (w : World) (g : Nat) (a b c d e : Value) : World := ((((w.setCell ⟨g, 0, none⟩ a).setCell ⟨g, 1, none⟩ b).setCell ⟨g, 2, none⟩ c).setCell ⟨g, 3, none⟩ d).setCell ⟨g, 4, none⟩ e
theorem set5_blk {w : World} {g : Nat} {t : TypeId} {a0 b0 c0 d0 e0 : Value} (h : Blk w g t #[a0, b0, c0, d0, e0]) (a b c d e : Value) : Blk (set5 w g a b c d e) g t #[a, b, c, d, e] := by
  simpa using ((((h.set_ 0 a).set_ 1 b).set_ 2 c).set_ 3 d).set_ 4 e
theorem set5_below {B g : Nat} {w0 w : World} (hb : Below B w0 w) (hB : B ≤ g) (a b c d e : Value) : Below B w0 (set5 w g a b c d e) :=
  ((((hb.setCell (p := ⟨g, 0, none⟩) hB a).setCell (p := ⟨g, 1, none⟩) hB b).setCell (p := ⟨g, 2, none⟩) hB c).setCell (p := ⟨g, 3, none⟩) hB d).setCell (p := ⟨g, 4, none⟩) hB e
theorem froz5 {w : World} {g : Nat} {t : TypeId} {a b c d e : Value} (h : Blk w g t #[a, b, c, d, e]) : w.frozen? ⟨g, 0, none⟩ = false ∧ w.frozen? ⟨g, 1, none⟩ = false ∧ w.frozen? ⟨g, 2, none⟩ = false ∧ w.frozen? ⟨g, 3, none⟩ = false ∧ w.frozen? ⟨g, 4, none⟩ = false :=
  ⟨h.frozen 0, h.frozen 1, h.frozen 2, h.frozen 3, h.frozen 4⟩

/-- A row of bytes as a text. -/
abbrev ba (l : List UInt8) : ByteArray := ⟨l.toArray⟩
abbrev zeroNm : Nm := ⟨false, 0, 0, ⟨#[]⟩, ⟨#[]⟩⟩
/-- The name by texts of a path. -/
def gT (l : List UInt8) : Nm := if Lib.hasPrefix l [47, 47] then ⟨false, 0, 0, ba (Lib.cut (Lib.trimPrefix l [47, 47]) [47]).1, ba (Lib.cut (Lib.trimPrefix l [47, 47]) [47]).2.1⟩ else zeroNm
theorem trim_le (l p : List UInt8) : (Lib.trimPrefix l p).length ≤ l.length := by
  unfold Lib.trimPrefix
  split <;> simp
theorem cut_le (l p : List UInt8) : (Lib.cut l p).1.length ≤ l.length ∧ (Lib.cut l p).2.1.length ≤ l.length := by
  unfold Lib.cut
  split <;> simp <;> omega

set_option maxRecDepth 100000 in
set_option maxHeartbeats 2000000 in
theorem guessTexts_all (s : ByteArray) (hs : s.size ≤ 9223372036854775807) (w : World) : Calls Tryd.prog 104 #[.string s] w fun e w' => e = .returned (gT s.data.toList).val ∧ Below w.heap.size w w' := by
  have HB := Lib.hid ((Below.refl w.heap.size w).alloc (Nat.le_refl _) (.cells #[.bool false, .int .u64 0, .int .u64 0, .string ⟨#[]⟩, .string ⟨#[]⟩] 48))
  have HK := Lib.hid (Blk.new w 48 #[.bool false, .int .u64 0, .int .u64 0, .string ⟨#[]⟩, .string ⟨#[]⟩])
  have CC := Lib.hid (cut_one (ba (Lib.trimPrefix s.data.toList [47, 47])) 47 (w.alloc (.cells #[.bool false, .int .u64 0, .int .u64 0, .string ⟨#[]⟩, .string ⟨#[]⟩] 48)) (by have := trim_le s.data.toList [47, 47]; have e : (ba (Lib.trimPrefix s.data.toList [47, 47])).size = (Lib.trimPrefix s.data.toList [47, 47]).length := rfl; rw [e]; have e2 : s.data.toList.length = s.size := (Lib.size_eq s).symm; omega))
  go_enter Tryd.func104, Tryd.ntmps104
  go_wp2_with fail
  refine (Tryd.strings_CutPrefix s ⟨#[47, 47]⟩ _).mono ?_
  rintro e w1 ⟨rfl, rfl⟩
  obtain ⟨c0, c1, c2, c3, c4⟩ := cells5 HK.out
  cases hp : Lib.hasPrefix s.data.toList [47, 47]
  · have HV := Lib.hid (show (gT s.data.toList).val = zeroNm.val by unfold gT; rw [hp]; rfl)
    go_wp2_with fail
    refine bodyPost_ret (v := (gT s.data.toList).val) (by rw [HV.out]; simp [results, Tryd.results104, go_sem, *]) rfl ⟨rfl, HB.out⟩
  · have HV := Lib.hid (show (gT s.data.toList).val = Nm.val ⟨false, 0, 0, ba (Lib.cut (Lib.trimPrefix s.data.toList [47, 47]) [47]).1, ba (Lib.cut (Lib.trimPrefix s.data.toList [47, 47]) [47]).2.1⟩ by unfold gT; rw [hp]; rfl)
    clear c0 c1 c2 c3 c4
    go_wp2_with fail
    refine CC.out.mono ?_
    rintro e w1 ⟨rfl, k, hw1⟩
    have HB1 := Lib.hid (show Below w.heap.size w w1 by rw [hw1]; exact below_drewN HB.out _)
    have HK1 : Hid (Blk w1 w.heap.size 48 #[.bool false, .int .u64 0, .int .u64 0, .string ⟨#[]⟩, .string ⟨#[]⟩]) := Lib.hid (by rw [hw1]; exact HK.out)
    clear hw1
    obtain ⟨c0, c1, c2, c3, c4⟩ := cells5 HK1.out
    obtain ⟨f0, f1, f2, f3, f4⟩ := froz5 HK1.out
    go_wp2_with fail
    have HK2 := Lib.hid (set5_blk HK1.out (.bool false) (.int .u64 0) (.int .u64 0) (.string (ba (Lib.cut (Lib.trimPrefix s.data.toList [47, 47]) [47]).1)) (.string (ba (Lib.cut (Lib.trimPrefix s.data.toList [47, 47]) [47]).2.1)))
    have HB2 := Lib.hid (set5_below HB1.out (Nat.le_refl _) (.bool false) (.int .u64 0) (.int .u64 0) (.string (ba (Lib.cut (Lib.trimPrefix s.data.toList [47, 47]) [47]).1)) (.string (ba (Lib.cut (Lib.trimPrefix s.data.toList [47, 47]) [47]).2.1)))
    clear c0 c1 c2 c3 c4 f0 f1 f2 f3 f4
    generalize hW2 : set5 w1 w.heap.size (.bool false) (.int .u64 0) (.int .u64 0) (.string (ba (Lib.cut (Lib.trimPrefix s.data.toList [47, 47]) [47]).1)) (.string (ba (Lib.cut (Lib.trimPrefix s.data.toList [47, 47]) [47]).2.1)) = W2 at HK2 HB2
    unfold set5 ba at hW2
    rw [hW2]
    obtain ⟨c0, c1, c2, c3, c4⟩ := cells5 HK2.out
    refine bodyPost_ret (v := (gT s.data.toList).val) (by rw [HV.out]; simp [results, Tryd.results104, go_sem, *]) rfl ⟨rfl, HB2.out⟩

theorem guessTexts_any (s : ByteArray) (hs : s.size < 4294967281) (w : World) (_ : Gl w) : Calls Tryd.prog 104 #[.string s] w fun e w' => e = .returned (gT s.data.toList).val ∧ Below w.heap.size w w' := guessTexts_all s (by omega) w

/-- The only name that a text can be of. -/
def guessOf (l : List UInt8) : Nm :=
  if Lib.hasPrefix l [105, 112, 110, 58] then ⟨true, dg (Lib.cut (Lib.trimPrefix l [105, 112, 110, 58]) [46]).1, dg (Lib.cut (Lib.trimPrefix l [105, 112, 110, 58]) [46]).2.1, ⟨#[]⟩, ⟨#[]⟩⟩
  else if Lib.hasPrefix l [100, 116, 110, 58] then gT (Lib.trimPrefix l [100, 116, 110, 58]) else zeroNm
theorem ba_size (l : List UInt8) : (ba l).size = l.length := rfl
theorem ba_list (l : List UInt8) : (ba l).data.toList = l := by simp [ba]

end Go.Proofs.YthknkdphofjmhaaDoor.Eid
/- The contract of eid.Parse. -/
namespace Go.Proofs.YthknkdphofjmhaaDoor.Eid
open Go.RowKit Wd

theorem parseM_le (M : Nat) : ∀ (l : List UInt8) (acc u : Nat), acc ≤ M → Lib.parseUintM M acc l = .ok u → u ≤ M
  | [], acc, u, ha, h => by
    simp only [Lib.parseUintM, Lib.NumEnd.ok.injEq] at h
    omega
  | c :: r, acc, u, ha, h => by
    unfold Lib.parseUintM at h
    split at h
    · split at h
      · cases h
      · split at h
        · cases h
        · exact parseM_le M r _ u (by omega) h
    · cases h
theorem dg_range (l : List UInt8) : 0 ≤ dg l ∧ dg l ≤ 4294967295 := by
  unfold dg
  split
  · rename_i u hu
    unfold Lib.parseUintB at hu
    split at hu
    · cases hu
    · have := parseM_le (2 ^ 32 - 1) l 0 u (by omega) hu
      omega
  · omega
theorem gT_size (l : List UInt8) : (gT l).host.size ≤ l.length ∧ (gT l).demux.size ≤ l.length := by
  unfold gT
  split
  · have h1 := trim_le l [47, 47]
    have h2 := cut_le (Lib.trimPrefix l [47, 47]) [47]
    exact ⟨Nat.le_trans h2.1 h1, Nat.le_trans h2.2 h1⟩
  · exact ⟨Nat.zero_le _, Nat.zero_le _⟩
theorem gT_nums (l : List UInt8) : (gT l).node = 0 ∧ (gT l).service = 0 ∧ (gT l).ipn = false := by
  unfold gT
  split <;> exact ⟨rfl, rfl, rfl⟩
theorem zero_ok : zeroNm.ok := ⟨by decide, by decide, by decide, by decide, by simp [ByteArray.size], by simp [ByteArray.size]⟩
theorem gT_ok (l : List UInt8) (hl : l.length ≤ maxLen) : (gT l).ok := by
  obtain ⟨a, b, _⟩ := gT_nums l
  obtain ⟨c, d⟩ := gT_size l
  exact ⟨by omega, by omega, by omega, by omega, by omega, by omega⟩
theorem guess_ok (l : List UInt8) (hl : l.length ≤ maxLen) : (guessOf l).ok := by
  unfold guessOf
  split
  · have h1 := dg_range (Lib.cut (Lib.trimPrefix l [105, 112, 110, 58]) [46]).1
    have h2 := dg_range (Lib.cut (Lib.trimPrefix l [105, 112, 110, 58]) [46]).2.1
    exact ⟨h1.1, Int.le_trans h1.2 (by decide), h2.1, Int.le_trans h2.2 (by decide), by simp [ByteArray.size], by simp [ByteArray.size]⟩
  · split
    · exact gT_ok _ (Nat.le_trans (trim_le _ _) hl)
    · exact zero_ok

theorem toList_inj {a b : ByteArray} (h : a.toList = b.toList) : a = b := by
  rw [Lib.toList_data, Lib.toList_data] at h
  obtain ⟨⟨x⟩⟩ := a
  obtain ⟨⟨y⟩⟩ := b
  replace h : x = y := h
  rw [h]

/-- Is a text a name's? -/
def isName (s : ByteArray) : Bool := right (guessOf s.data.toList) && decide (textOf (guessOf s.data.toList) = s)
/-- The name of a text. -/
def parseOf (s : ByteArray) : Nm := if isName s then guessOf s.data.toList else zeroNm
/-- .. and its errno. -/
def parseE (s : ByteArray) : Int := if isName s then 0 else 3

end Go.Proofs.YthknkdphofjmhaaDoor.Eid
/- Texts as lists of bytes: a number's decimal digits and back, prefixes, cuts. No program is named here. -/
namespace Go.Proofs.YthknkdphofjmhaaDoor.EidL
open Go

/-- A list of digits. -/
def Dig (l : List UInt8) : Prop := ∀ c ∈ l, 48 ≤ c.toNat ∧ c.toNat ≤ 57
theorem dig_one (k : Nat) (h : k < 10) : (UInt8.ofNat (48 + k)).toNat = 48 + k := by
  rw [UInt8.toNat_ofNat', Nat.mod_eq_of_lt (by omega)]
theorem dec_dig (u : Nat) : Dig (Lib.decDigits u) := by
  induction u using Nat.strongRecOn with
  | _ u ih =>
    intro c hc
    by_cases h : u < 10
    · rw [Lib.decDigits_one h] at hc
      obtain rfl : c = UInt8.ofNat (48 + u) := by simpa using hc
      rw [dig_one u h]; omega
    · rw [Lib.decDigits, dif_neg h, List.mem_append] at hc
      rcases hc with hc | hc
      · exact ih (u / 10) (by omega) c hc
      · obtain rfl : c = UInt8.ofNat (48 + u % 10) := by simpa using hc
        rw [dig_one _ (by omega)]; omega
theorem dec_ne (u : Nat) : Lib.decDigits u ≠ [] := by
  intro h
  have := congrArg List.length h
  rw [Lib.decDigits_length] at this
  have := Lib.nDigits_pos u
  simp at *
  omega
theorem parse_push (M : Nat) (hM : M < 18446744073709551616) (u : Nat) : ∀ (acc : Nat) (r : List UInt8), acc * 10 ^ Lib.nDigits u + u ≤ M → Lib.parseUintM M acc (Lib.decDigits u ++ r) = Lib.parseUintM M (acc * 10 ^ Lib.nDigits u + u) r := by
  induction u using Nat.strongRecOn with
  | _ u ih =>
    intro acc r hle
    by_cases h : u < 10
    · rw [Lib.nDigits_small h] at hle ⊢
      rw [Lib.decDigits_one h, List.singleton_append]
      conv => lhs; unfold Lib.parseUintM
      rw [dig_one u h, if_pos (by omega), if_neg (by omega), if_neg (by omega), show acc * 10 + (48 + u - 48) = acc * 10 ^ 1 + u by omega]
    · rw [Lib.nDigits_big h, Nat.pow_succ] at hle ⊢
      have e1 : acc * (10 ^ Lib.nDigits (u / 10) * 10) = acc * 10 ^ Lib.nDigits (u / 10) * 10 := (Nat.mul_assoc ..).symm
      rw [e1] at hle ⊢
      rw [Lib.decDigits, dif_neg h, List.append_assoc, ih (u / 10) (by omega) acc _ (by omega), List.singleton_append]
      generalize acc * 10 ^ Lib.nDigits (u / 10) = A at *
      conv => lhs; unfold Lib.parseUintM
      rw [dig_one _ (by omega), if_pos (by omega), if_neg (by omega), if_neg (by omega), show (A + u / 10) * 10 + (48 + u % 10 - 48) = A * 10 + u by omega]
theorem parse_dec (u : Nat) (h : u ≤ 4294967295) : Lib.parseUintB 32 (Lib.decDigits u) = .ok u := by
  unfold Lib.parseUintB
  rw [if_neg (dec_ne u)]
  have := parse_push (2 ^ 32 - 1) (by omega) u 0 [] (by omega)
  rw [List.append_nil] at this
  rw [this]
  simp [Lib.parseUintM]
theorem dec_inj {u v : Nat} (hu : u ≤ 4294967295) (hv : v ≤ 4294967295) (h : Lib.decDigits u = Lib.decDigits v) : u = v := by
  have h1 := parse_dec u hu
  rw [h, parse_dec v hv] at h1
  injection h1 with h1
  exact h1.symm

theorem indexByte_here : ∀ (a b : List UInt8) (c : UInt8), c ∉ a → Lib.indexByte (a ++ c :: b) c = a.length
  | [], b, c, _ => by simp [Lib.indexByte]
  | x :: a, b, c, h => by
    have hx : (x == c) = false := by
      rw [beq_eq_false_iff_ne]
      rintro rfl
      exact h (List.mem_cons_self ..)
    have ih := indexByte_here a b c (fun hm => h (List.mem_cons_of_mem _ hm))
    rw [List.cons_append]
    unfold Lib.indexByte
    rw [hx, ih]
    have : (((a.length : Nat) : Int) == -1) = false := by rw [beq_eq_false_iff_ne]; omega
    simp [this]
theorem indexByte_not : ∀ (a : List UInt8) (c : UInt8), c ∉ a → Lib.indexByte a c = -1
  | [], c, _ => by simp [Lib.indexByte]
  | x :: a, c, h => by
    have hx : (x == c) = false := by
      rw [beq_eq_false_iff_ne]
      rintro rfl
      exact h (List.mem_cons_self ..)
    have ih := indexByte_not a c (fun hm => h (List.mem_cons_of_mem _ hm))
    unfold Lib.indexByte
    rw [hx, ih]
    rfl
theorem cut_here (a b : List UInt8) (c : UInt8) (h : c ∉ a) : Lib.cut (a ++ c :: b) [c] = (a, b, true) := by
  unfold Lib.cut
  rw [Lib.index_one, indexByte_here a b c h, if_pos (by omega)]
  simp
theorem cut_not (a : List UInt8) (c : UInt8) (h : c ∉ a) : Lib.cut a [c] = (a, [], false) := by
  unfold Lib.cut
  rw [Lib.index_one, indexByte_not a c h, if_neg (by omega)]
theorem prefix_here (p l : List UInt8) : Lib.hasPrefix (p ++ l) p = true := by
  unfold Lib.hasPrefix
  rw [List.isPrefixOf_iff_prefix]
  exact List.prefix_append ..
theorem trim_here (p l : List UInt8) : Lib.trimPrefix (p ++ l) p = l := by
  unfold Lib.trimPrefix
  rw [prefix_here, if_pos rfl, List.drop_left]
end Go.Proofs.YthknkdphofjmhaaDoor.EidL
/- Names there and back, plain: a name that may be is the only one of its text; no such text has a blank. -/
namespace Go.Proofs.YthknkdphofjmhaaDoor.Eid
open Go.RowKit Wd EidL

theorem kd_cases (x : Nm) : kd x = 0 ∨ kd x = 1 ∨ kd x = 2 := by
  unfold kd
  split
  · exact .inr (.inl rfl)
  · split
    · exact .inl rfl
    · exact .inr (.inr rfl)
theorem nil_eq {b : ByteArray} (h : b.toList = []) : b = ⟨#[]⟩ := toList_inj (by rw [h, Lib.toList_data])
theorem kd_zero_eq (x : Nm) (h : kd x = 0) : x = zeroNm := by
  obtain ⟨i, n, s, a, b⟩ := x
  unfold kd at h
  cases i
  · simp only [Bool.false_eq_true, if_false] at h
    by_cases hz : n = 0 ∧ s = 0 ∧ a.toList = [] ∧ b.toList = []
    · obtain ⟨rfl, rfl, h1, h2⟩ := hz
      rw [nil_eq h1, nil_eq h2]
    · rw [if_neg hz] at h; cases h
  · cases h
theorem right_one (x : Nm) (hr : right x = true) (h : kd x = 1) : x = ⟨true, x.node, x.service, ⟨#[]⟩, ⟨#[]⟩⟩ ∧ 1 ≤ x.node ∧ x.node ≤ 4294967295 ∧ x.service ≤ 4294967295 := by
  obtain ⟨i, n, s, a, b⟩ := x
  cases i
  · unfold kd at h
    simp only [Bool.false_eq_true, if_false] at h
    split at h <;> cases h
  · unfold right at hr
    simp only [if_true, Bool.and_eq_true, List.isEmpty_iff, rn, decide_eq_true_eq] at hr
    obtain ⟨⟨h1, h2⟩, ⟨h3, h4⟩, h5⟩ := hr
    exact ⟨by rw [nil_eq h1, nil_eq h2], h3, h4, h5⟩
theorem right_two (x : Nm) (hr : right x = true) (h : kd x = 2) : x = ⟨false, 0, 0, x.host, x.demux⟩ ∧ x.host.toList ≠ [] ∧ mk x.host 16 ⟨#[45]⟩ = true ∧ mk x.demux 24 ⟨#[45, 47]⟩ = true := by
  obtain ⟨i, n, s, a, b⟩ := x
  cases i
  · unfold kd at h
    unfold right at hr
    simp only [Bool.false_eq_true, if_false] at h hr
    by_cases hz : n = 0 ∧ s = 0 ∧ a.toList = [] ∧ b.toList = []
    · rw [if_pos hz] at h; cases h
    · rw [if_neg hz] at hr
      simp only [Bool.and_eq_true, rt, decide_eq_true_eq, Bool.not_eq_true', List.isEmpty_eq_false_iff] at hr
      obtain ⟨⟨rfl, rfl⟩, ⟨h1, h2⟩, h3⟩ := hr
      exact ⟨rfl, h1, h2, h3⟩
  · cases h
theorem mk_all {s : ByteArray} {m : Int} {more : ByteArray} (h : mk s m more = true) : ∀ c ∈ s.data.toList, okc more c.toNat = true := by
  unfold mk at h
  simp only [Bool.and_eq_true, List.all_eq_true] at h
  exact h.2
theorem ok_host {c : UInt8} (h : okc ⟨#[45]⟩ c.toNat = true) : c ≠ 47 ∧ c ≠ 32 :=
  ⟨by rintro rfl; exact absurd h (by decide), by rintro rfl; exact absurd h (by decide)⟩
theorem ok_demux {c : UInt8} (h : okc ⟨#[45, 47]⟩ c.toNat = true) : c ≠ 32 := by rintro rfl; exact absurd h (by decide)

theorem dlist (a b : ByteArray) : (a ++ b).data.toList = a.data.toList ++ b.data.toList := by
  rw [ByteArray.data_append]
  simp
theorem dec_list (n : Int) : (dec n).data.toList = Lib.decDigits n.toNat := by unfold dec; rfl
theorem text_one (n s : Int) (h d : ByteArray) : (textOf ⟨true, n, s, h, d⟩).data.toList = [105, 112, 110, 58] ++ (Lib.decDigits n.toNat ++ 46 :: Lib.decDigits s.toNat) := by
  unfold textOf
  rw [show kd ⟨true, n, s, h, d⟩ = 1 from rfl, if_neg (by decide), if_pos rfl]
  simp only [dlist, dec_list, List.append_assoc]
  rfl
theorem path_list (h d : ByteArray) : (pathOf h d).data.toList = [47, 47] ++ (h.data.toList ++ 47 :: d.data.toList) := by
  unfold pathOf
  simp only [dlist, List.append_assoc]
  rfl
theorem text_two (x : Nm) (h : kd x = 2) : (textOf x).data.toList = [100, 116, 110, 58] ++ ([47, 47] ++ (x.host.data.toList ++ 47 :: x.demux.data.toList)) := by
  unfold textOf
  rw [if_neg (by rw [h]; decide), if_neg (by rw [h]; decide), dlist, path_list]
theorem dg_dec (n : Int) (h0 : 0 ≤ n) (h : n ≤ 4294967295) : dg (Lib.decDigits n.toNat) = n := by
  unfold dg
  rw [parse_dec n.toNat (by omega)]
  simp only
  omega
theorem not_dig (u : Nat) (c : UInt8) (h : c.toNat < 48) : c ∉ Lib.decDigits u := fun hm => by
  have := dec_dig u c hm
  omega
theorem gT_path (h d : ByteArray) (hh : (47 : UInt8) ∉ h.data.toList) : gT (pathOf h d).data.toList = ⟨false, 0, 0, h, d⟩ := by
  rw [path_list]
  unfold gT
  rw [prefix_here, if_pos rfl, trim_here, cut_here _ _ _ hh]
/-- A name that may be is what its text is guessed to be. -/
theorem guess_text (x : Nm) (hx : x.ok) (hr : right x = true) : guessOf (textOf x).data.toList = x := by
  rcases kd_cases x with h | h | h
  · obtain rfl := kd_zero_eq x h
    unfold textOf
    rw [h, if_pos rfl]
    rfl
  · obtain ⟨e, h1, h2, h3⟩ := right_one x hr h
    have h4 := hx.n0
    have h5 := hx.s0
    generalize x.node = n at *
    generalize x.service = s at *
    subst e
    rw [text_one]
    unfold guessOf
    rw [prefix_here, if_pos rfl, trim_here, cut_here _ _ _ (not_dig _ _ (by decide))]
    simp only
    rw [dg_dec n h4 h2, dg_dec s h5 h3]
  · obtain ⟨e, h1, h2, h3⟩ := right_two x hr h
    rw [text_two x h]
    unfold guessOf
    rw [show Lib.hasPrefix ([100, 116, 110, 58] ++ ([47, 47] ++ (x.host.data.toList ++ 47 :: x.demux.data.toList))) [105, 112, 110, 58] = false from rfl, if_neg (by decide), prefix_here, if_pos rfl, trim_here]
    have hg := gT_path x.host x.demux (fun hm => (ok_host (mk_all h2 _ hm)).1 rfl)
    rw [path_list] at hg
    rw [hg]
    exact e.symm
theorem isName_text (x : Nm) (hx : x.ok) (hr : right x = true) : isName (textOf x) = true := by
  unfold isName
  rw [guess_text x hx hr, hr]
  simp
theorem parse_text (x : Nm) (hx : x.ok) (hr : right x = true) : parseOf (textOf x) = x ∧ parseE (textOf x) = 0 := by
  unfold parseOf parseE
  rw [isName_text x hx hr, guess_text x hx hr]
  exact ⟨rfl, rfl⟩
theorem text_inj {x y : Nm} (hx : x.ok) (hy : y.ok) (hr : right x = true) (hs : right y = true) (h : textOf x = textOf y) : x = y := by
  rw [← guess_text x hx hr, h, guess_text y hy hs]
theorem text_no32 (x : Nm) (hr : right x = true) : (32 : UInt8) ∉ (textOf x).data.toList := by
  rcases kd_cases x with h | h | h
  · obtain rfl := kd_zero_eq x h
    unfold textOf
    rw [h, if_pos rfl]
    decide
  · obtain ⟨e, -⟩ := right_one x hr h
    rw [e, text_one]
    simp only [List.mem_append, List.mem_cons, not_or]
    exact ⟨by decide, not_dig _ _ (by decide), by decide, not_dig _ _ (by decide)⟩
  · obtain ⟨e, h1, h2, h3⟩ := right_two x hr h
    rw [text_two x h]
    simp only [List.mem_append, List.mem_cons, not_or]
    exact ⟨by decide, by decide, fun hm => (ok_host (mk_all h2 _ hm)).2 rfl, by decide, fun hm => ok_demux (mk_all h3 _ hm) rfl⟩
/-- A text that has a blank is none's. -/
theorem parse_blank (s : ByteArray) (h : (32 : UInt8) ∈ s.data.toList) : parseE s = 3 := by
  have hn : isName s = false := by
    cases hi : isName s
    · rfl
    · unfold isName at hi
      simp only [Bool.and_eq_true, decide_eq_true_eq] at hi
      have := text_no32 _ hi.1
      rw [hi.2] at this
      exact absurd h this
  unfold parseE
  rw [hn]
  rfl
theorem name_text {s : ByteArray} (h : isName s = true) : right (parseOf s) = true ∧ textOf (parseOf s) = s := by
  unfold parseOf
  rw [h, if_pos rfl]
  unfold isName at h
  simp only [Bool.and_eq_true, decide_eq_true_eq] at h
  exact h
end Go.Proofs.YthknkdphofjmhaaDoor.Eid
