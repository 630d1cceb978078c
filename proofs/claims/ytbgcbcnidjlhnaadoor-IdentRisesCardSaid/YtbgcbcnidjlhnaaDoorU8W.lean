/- The walk of unicode/utf8.word at bytes. -/
import Derived.Test.YtbgcbcnidjlhnaaDoorProg
import Derived.Test.YtbgcbcnidjlhnaaDoorItemW
import Derived.Test.YtbgcbcnidjlhnaaDoorU8P
import Derived.WalkKit
import Derived.WalkSpells
import Derived.Lib.Hide
import Derived.Lib.EndianBits
import Derived.Outline
import Derived.Deep.QuietTactic
import Derived.BigQuiet
import Derived.Laws.Pointers
namespace Go.Proofs.YtbgcbcnidjlhnaaDoor.U8W
open Go.RowKit Wd Cb

set_option maxHeartbeats 8000000 in
set_option maxRecDepth 100000 in
theorem word_any (A : Option Addr) (B c : Nat) (l : List Int) (w : World) (hs : Lst w B A (u8s l)) (h8 : 8 ≤ l.length) (hb : St.bts l) :
    Calls Tryd.prog 149 #[.slice A l.length c] w fun e w' => e = .returned (.int .u64 (U8.le8 l)) ∧ ∃ q, w' = w.drewN q := by
  obtain ⟨b, o, rfl, hlt, hc⟩ := hs.bytes (k := 0) (by omega)
  have hx : ∀ j, j < 8 → 0 ≤ l.getD j 0 ∧ l.getD j 0 ≤ 255 := fun j hj => hb _ (by simp [List.getD, List.getElem?_eq_getElem (show j < l.length by omega)])
  have hv := U8.le8_val l h8 hb
  have c0 : w.cell? ⟨b, o, none⟩ = some (.int .u8 (l.getD 0 0)) := by simpa using hc 0 (by omega)
  have c1 := hc 1 (by omega)
  have c2 := hc 2 (by omega)
  have c3 := hc 3 (by omega)
  have c4 := hc 4 (by omega)
  have c5 := hc 5 (by omega)
  have c6 := hc 6 (by omega)
  have c7 := hc 7 (by omega)
  have b0 := hx 0 (by omega)
  have b1 := hx 1 (by omega)
  have b2 := hx 2 (by omega)
  have b3 := hx 3 (by omega)
  have b4 := hx 4 (by omega)
  have b5 := hx 5 (by omega)
  have b6 := hx 6 (by omega)
  have b7 := hx 7 (by omega)
  clear hc hs hx hb
  generalize l.getD 0 0 = x0 at *
  generalize l.getD 1 0 = x1 at *
  generalize l.getD 2 0 = x2 at *
  generalize l.getD 3 0 = x3 at *
  generalize l.getD 4 0 = x4 at *
  generalize l.getD 5 0 = x5 at *
  generalize l.getD 6 0 = x6 at *
  generalize l.getD 7 0 = x7 at *
  generalize U8.le8 l = V at *
  have HV := Lib.hid hv
  clear hv
  have q0 : (0 : Int) < (l.length : Int) := by omega
  have q1 : (1 : Int) < (l.length : Int) := by omega
  have q2 : (2 : Int) < (l.length : Int) := by omega
  have q3 : (3 : Int) < (l.length : Int) := by omega
  have q4 : (4 : Int) < (l.length : Int) := by omega
  have q5 : (5 : Int) < (l.length : Int) := by omega
  have q6 : (6 : Int) < (l.length : Int) := by omega
  have q7 : (7 : Int) < (l.length : Int) := by omega
  go_enter Tryd.func149, Tryd.ntmps149
  go_wp2
  go_quiet (fail)
  go_wp2
  go_ret
  refine ⟨?_, _, rfl⟩
  have e1 : bits .or .u64 x0 (x1 * 256) = x0 + x1 * 256 := u64_or8 _ _ (by omega) (by omega) (by omega) (by omega) (by omega)
  have e2 : bits .or .u64 (x0 + x1 * 256) (x2 * 65536) = x0 + x1 * 256 + x2 * 65536 := u64_or16 _ _ (by omega) (by omega) (by omega) (by omega) (by omega)
  have e3 : bits .or .u64 (x0 + x1 * 256 + x2 * 65536) (x3 * 16777216) = x0 + x1 * 256 + x2 * 65536 + x3 * 16777216 := u64_or24 _ _ (by omega) (by omega) (by omega) (by omega) (by omega)
  have e4 : bits .or .u64 (x0 + x1 * 256 + x2 * 65536 + x3 * 16777216) (x4 * 4294967296) = x0 + x1 * 256 + x2 * 65536 + x3 * 16777216 + x4 * 4294967296 := u64_or32 _ _ (by omega) (by omega) (by omega) (by omega) (by omega)
  have e5 : bits .or .u64 (x0 + x1 * 256 + x2 * 65536 + x3 * 16777216 + x4 * 4294967296) (x5 * 1099511627776) = x0 + x1 * 256 + x2 * 65536 + x3 * 16777216 + x4 * 4294967296 + x5 * 1099511627776 := u64_or40 _ _ (by omega) (by omega) (by omega) (by omega) (by omega)
  have e6 : bits .or .u64 (x0 + x1 * 256 + x2 * 65536 + x3 * 16777216 + x4 * 4294967296 + x5 * 1099511627776) (x6 * 281474976710656) = x0 + x1 * 256 + x2 * 65536 + x3 * 16777216 + x4 * 4294967296 + x5 * 1099511627776 + x6 * 281474976710656 := u64_or48 _ _ (by omega) (by omega) (by omega) (by omega) (by omega)
  have e7 : bits .or .u64 (x0 + x1 * 256 + x2 * 65536 + x3 * 16777216 + x4 * 4294967296 + x5 * 1099511627776 + x6 * 281474976710656) (x7 * 72057594037927936) = x0 + x1 * 256 + x2 * 65536 + x3 * 16777216 + x4 * 4294967296 + x5 * 1099511627776 + x6 * 281474976710656 + x7 * 72057594037927936 := u64_or56 _ _ (by omega) (by omega) (by omega) (by omega) (by omega)
  refine Wd.ret_int (k := .u64) ?_
  rw [e1, e2, e3, e4, e5, e6, e7, HV.out]
theorem word_n (A : Option Addr) (B c n : Nat) (l : List Int) (w : World) (hn : l.length = n) (hs : Lst w B A (u8s l)) (h8 : 8 ≤ l.length) (hb : St.bts l) :
    Calls Tryd.prog 149 #[.slice A n c] w fun e w' => e = .returned (.int .u64 (U8.le8 l)) ∧ ∃ q, w' = w.drewN q := by
  subst hn
  exact word_any A B c l w hs h8 hb
end Go.Proofs.YtbgcbcnidjlhnaaDoor.U8W
