/- Texts of my own, laid together: PrimT, PrimGr, PrimTu, PrimaryTurned. -/
import Derived.Test.YtbgcbcnidjlhnaaDoorPrimQ
import Derived.Test.YtbgcbcnidjlhnaaDoorPrimR
import Derived.Test.YtbgcbcnidjlhnaaDoorZs6
import Derived.Test.YtbgcbcnidjlhnaaDoorZs7
import Derived.Test.YtbgcbcnidjlhnaaDoorZs16
import Derived.Deep.RegionHeld3
/- Bits that are turned within 16 side by side turn the sum of sealed items: plain. -/
namespace Go.Proofs.YtbgcbcnidjlhnaaDoor.SumP

theorem mul_xor (a b k : Nat) : (a ^^^ b) * 2 ^ k = a * 2 ^ k ^^^ b * 2 ^ k := by
  have := Nat.shiftLeft_xor_distrib (a := a) (b := b) (i := k)
  simpa [Nat.shiftLeft_eq] using this
theorem num_append : ∀ (a b : List Nat), num (a ++ b) = num a ^^^ (num b * 2 ^ (8 * a.length))
  | [], b => by simp [num]
  | x :: a, b => by
    show x ^^^ (num (a ++ b) * 256) = _
    have h256 : ∀ t : Nat, t * 256 = t * 2 ^ 8 := fun t => rfl
    rw [num_append a b, h256, mul_xor, ← Nat.xor_assoc]
    show (x ^^^ (num a * 2 ^ 8)) ^^^ (num b * 2 ^ (8 * a.length) * 2 ^ 8) = (x ^^^ (num a * 256)) ^^^ (num b * 2 ^ (8 * (a.length + 1)))
    rw [Nat.mul_assoc, ← Nat.pow_add]
    rfl
theorem xor_last (a b c : Nat) : (a ^^^ b) ^^^ c = (a ^^^ c) ^^^ b := by rw [Nat.xor_assoc, Nat.xor_comm b c, ← Nat.xor_assoc]
theorem num_mid (P M M' S : List Nat) (v : Nat) (hl : M'.length = M.length) (h : num M' = num M ^^^ v) : num (P ++ M' ++ S) = num (P ++ M ++ S) ^^^ v * 2 ^ (8 * P.length) := by
  rw [num_append, num_append, num_append, num_append, h, mul_xor, List.length_append, List.length_append, hl, ← Nat.xor_assoc, xor_last]
/-- Four bytes of a number, the greatest first, taken as a number whose lowest is first. -/
def rev4 (n : Nat) : Nat := num [n / 16777216 % 256, n / 65536 % 256, n / 256 % 256, n % 256]
theorem byte_xor (a b k : Nat) : (a ^^^ b) / 2 ^ k % 256 = (a / 2 ^ k % 256) ^^^ (b / 2 ^ k % 256) := by
  have h1 := Nat.shiftRight_xor_distrib (a := a) (b := b) (i := k)
  simp only [Nat.shiftRight_eq_div_pow] at h1
  rw [h1]
  exact Nat.xor_mod_two_pow (n := 8)
theorem rev4_xor (a b : Nat) : rev4 (a ^^^ b) = rev4 a ^^^ rev4 b := by
  unfold rev4
  rw [← num_xor [a / 16777216 % 256, a / 65536 % 256, a / 256 % 256, a % 256] [b / 16777216 % 256, b / 65536 % 256, b / 256 % 256, b % 256] rfl]
  have h3 := byte_xor a b 24
  have h2 := byte_xor a b 16
  have h1 := byte_xor a b 8
  have h0 := byte_xor a b 0
  simp only [Nat.pow_zero, Nat.div_one] at h0
  simp only [List.zipWith_cons_cons, List.zipWith_nil_left]
  rw [← h0]
  rw [show (16777216 : Nat) = 2 ^ 24 from rfl, show (65536 : Nat) = 2 ^ 16 from rfl, show (256 : Nat) = 2 ^ 8 from rfl] at *
  rw [← h3, ← h2, ← h1]
theorem rev4_bit : ∀ k : Nat, k < 32 → rev4 (2 ^ (8 * (3 - k / 8) + k % 8)) = 2 ^ k := by decide
/-- One more bit is turned. -/
theorem rev4_yes {n m b s i : Nat} (h : rev4 n = rev4 m ^^^ (b % 2 ^ i) * 2 ^ s) (hi : i < 16) (hs : s < 16) (hb : b / 2 ^ i % 2 = 1) :
    rev4 (n ^^^ 2 ^ (8 * (3 - (s + i) / 8) + (s + i) % 8)) = rev4 m ^^^ (b % 2 ^ (i + 1)) * 2 ^ s := by
  have e : b % 2 ^ (i + 1) = b % 2 ^ i ^^^ 2 ^ i := by
    have h1 := split (b % 2 ^ i) 1 i (Nat.mod_lt _ (Nat.two_pow_pos i))
    rw [Nat.one_mul, Nat.mul_one] at h1
    rw [← h1, Nat.pow_succ, Nat.mod_mul, hb, Nat.mul_one]
  rw [rev4_xor, h, rev4_bit _ (by omega), e, mul_xor, ← Nat.pow_add, Nat.add_comm i s, Nat.xor_assoc]
theorem rev4_no {n m b s i : Nat} (h : rev4 n = rev4 m ^^^ (b % 2 ^ i) * 2 ^ s) (hb : b / 2 ^ i % 2 = 0) :
    rev4 n = rev4 m ^^^ (b % 2 ^ (i + 1)) * 2 ^ s := by
  rw [Nat.pow_succ, Nat.mod_mul, hb, Nat.mul_zero, Nat.add_zero]
  exact h
end Go.Proofs.YtbgcbcnidjlhnaaDoor.SumP
namespace Go.Proofs.YtbgcbcnidjlhnaaDoor.Prim
open Go.RowKit Wd Cb Eid EncB SumP

theorem nb_append (a b : List Int) : SumW.nb (a ++ b) = SumW.nb a ++ SumW.nb b := by simp [SumW.nb]
theorem nb_length (a : List Int) : (SumW.nb a).length = a.length := by simp [SumW.nb]
theorem nb_be (n : Nat) : num (SumW.nb (HeadP.be n 4)) = rev4 n := by
  unfold rev4
  congr 1
  simp only [HeadP.be, SumW.nb, List.map_cons, List.map_nil]
  have e3 : ((n : Int) / 2 ^ (8 * 3) % 256).toNat = n / 16777216 % 256 := by omega
  have e2 : ((n : Int) / 2 ^ (8 * 2) % 256).toNat = n / 65536 % 256 := by omega
  have e1 : ((n : Int) / 2 ^ (8 * 1) % 256).toNat = n / 256 % 256 := by omega
  have e0 : ((n : Int) / 2 ^ (8 * 0) % 256).toNat = n % 256 := by omega
  rw [e3, e2, e1, e0]
theorem nb_byte {xs : List Int} (h : St.bts xs) : ∀ x ∈ SumW.nb xs, x < 256 := by
  intro x hx
  unfold SumW.nb at hx
  rw [List.mem_map] at hx
  obtain ⟨y, hy, rfl⟩ := hx
  have := h y hy
  omega
/-- Two texts that are unlike in four bytes, by a burst, have unlike sums. -/
theorem sums_differ (k : Nat) (P S : List Int) (n m v s : Nat) (hP : St.bts (P ++ HeadP.be n 4 ++ S)) (hQ : St.bts (P ++ HeadP.be m 4 ++ S)) (hk : k = 1 ∨ k = 2) (hv : rev4 m = rev4 n ^^^ v * 2 ^ s) (h0 : v ≠ 0) (h1 : v < 65536) (hs : s < 16) :
    sumOf k (P ++ HeadP.be n 4 ++ S) ≠ sumOf k (P ++ HeadP.be m 4 ++ S) := by
  have hl : (SumW.nb (P ++ HeadP.be m 4 ++ S)).length = (SumW.nb (P ++ HeadP.be n 4 ++ S)).length := by
    rw [nb_length, nb_length, List.length_append, List.length_append, List.length_append, List.length_append, HeadP.be_length, HeadP.be_length]
  have hn : num (SumW.nb (P ++ HeadP.be m 4 ++ S)) = num (SumW.nb (P ++ HeadP.be n 4 ++ S)) ^^^ v * 2 ^ (s + 8 * P.length) := by
    rw [nb_append, nb_append, nb_append, nb_append, num_mid (SumW.nb P) (SumW.nb (HeadP.be n 4)) (SumW.nb (HeadP.be m 4)) (SumW.nb S) (v * 2 ^ s) (by rw [nb_length, nb_length, HeadP.be_length, HeadP.be_length]) (by rw [nb_be, nb_be]; exact hv), nb_length, Nat.mul_assoc, ← Nat.pow_add]
  have hi : s + 8 * P.length ≤ 8 * (SumW.nb (P ++ HeadP.be n 4 ++ S)).length := by
    rw [nb_length, List.length_append, List.length_append, HeadP.be_length]
    omega
  have b1 := nb_byte hP
  have b2 := nb_byte hQ
  generalize hM : SumW.nb (P ++ HeadP.be m 4 ++ S) = M at *
  generalize hN : SumW.nb (P ++ HeadP.be n 4 ++ S) = N at *
  rcases hk with rfl | rfl
  · have hd := burst PS 16 (by decide) (by decide) N M 65535 v _ hl hn hi (by omega) h0
    have c1 := crc_lt PS 16 (by decide) (by decide) N 65535 b1 (by decide)
    have c2 := crc_lt PS 16 (by decide) (by decide) M 65535 b2 (by decide)
    unfold sumOf short
    rw [if_pos rfl, if_pos rfl, hN, hM]
    show 65535 - crc PS 65535 N ≠ 65535 - crc PS 65535 M
    omega
  · have hd := burst PL 32 (by decide) (by decide) N M 4294967295 v _ hl hn hi (by omega) h0
    have c1 := crc_lt PL 32 (by decide) (by decide) N 4294967295 b1 (by decide)
    have c2 := crc_lt PL 32 (by decide) (by decide) M 4294967295 b2 (by decide)
    unfold sumOf long
    rw [if_neg (by decide), if_neg (by decide), hN, hM]
    show 4294967295 - crc PL 4294967295 N ≠ 4294967295 - crc PL 4294967295 M
    omega
theorem be_inj {k : Nat} {n m : Nat} (hn : n < 2 ^ (8 * k)) (hm : m < 2 ^ (8 * k)) (h : HeadP.be (n : Int) k = HeadP.be (m : Int) k) : n = m := by
  have h1 := HeadP.join_be k (n : Int) (by omega)
  have h2 := HeadP.join_be k (m : Int) (by omega)
  rw [h, h2] at h1
  have e1 : ((m : Int) % 2 ^ (8 * k)) = m := Int.emod_eq_of_lt (by omega) (by exact_mod_cast hm)
  have e2 : ((n : Int) % 2 ^ (8 * k)) = n := Int.emod_eq_of_lt (by omega) (by exact_mod_cast hn)
  rw [e1, e2] at h1
  omega
theorem sumOf_lt (k : Nat) (hk : k = 1 ∨ k = 2) (xs : List Int) : sumOf k xs < 2 ^ (8 * (2 * k)) := by
  rcases hk with rfl | rfl
  · unfold sumOf short
    rw [if_pos rfl]
    show 65535 - _ < 65536
    omega
  · unfold sumOf long
    rw [if_neg (by decide)]
    show 4294967295 - _ < 4294967296
    omega
/-- Of sealed items with other bytes at the end another sum is told. -/
theorem open_other {l : List Itm} {a : Int} {c : List Int} (h : sealE l a = 0) (h0 : 0 < typAt l a) (hc : c.length = 2 * (typAt l a).toNat) (hne : c ≠ sumB (typAt l a).toNat (enc (blank l (typAt l a).toNat))) :
    openE (withB l c) a = 10 := by
  obtain ⟨⟨ha0, ha1⟩, h2, h3⟩ := sealE_zero h
  have hz : (typAt l a).toNat ≠ 0 := by omega
  have hI : sealI l a = sealed l (typAt l a).toNat := by unfold sealI; rw [if_pos h]
  have hty : typAt (withB l c).sub a = typAt l a := typAt_more _ _ _ ha1
  have hcut : (withB l c).sub.take (cutN (withB l c) (typAt l a).toNat) = l := by
    unfold cutN
    rw [if_neg hz]
    simp [Itm.sub]
  have hlast : lastOk (withB l c) (typAt l a).toNat = true := by
    unfold lastOk
    simp [Itm.kind, Itm.bs, Itm.sub, hc]
  have hr : Cb.right (withB l c) = true := by
    rw [right_with l c (sumB (typAt l a).toNat (enc (blank l (typAt l a).toNat)))]
    have := right_sealed l (typAt l a).toNat
    unfold sealed at this
    rw [if_neg hz] at this
    rw [this, h3]
  have hs : same (sealed l (typAt l a).toNat) (withB l c) = false := by
    cases hsm : same (sealed l (typAt l a).toNat) (withB l c)
    · rfl
    · have := (same_iff _ _).1 hsm
      unfold sealed at this
      rw [if_neg hz] at this
      simp at this
      exact absurd this.symm hne
  unfold openE
  rw [hty, hlast, hr, hcut, hI, hs]
  simp [h2]
theorem head5 (n : Int) (h0 : 65536 ≤ n) (h1 : n < 4294967296) : enc (iN n) = 26 :: HeadP.be n 4 := by
  have hl : HeadP.lowN n = 26 := by unfold HeadP.lowN; rw [if_neg (by omega), if_neg (by omega), if_neg (by omega), if_pos h1]
  show HeadP.bytes 0 n false ++ [] ++ [] = _
  unfold HeadP.bytes
  rw [show HeadP.low n false = 26 from hl]
  rfl
mutual
theorem sane_of_nm (x : Nm) (hx : x.ok) : sane (itemOf x) := by
  unfold itemOf
  split
  · exact ⟨by omega, fun _ h => (by cases h), ⟨by omega, fun _ h => (by cases h), trivial⟩, ⟨by omega, fun _ h => (by cases h), trivial⟩, trivial⟩
  · split
    · exact ⟨by omega, fun _ h => (by cases h), ⟨by omega, fun _ h => (by cases h), trivial⟩, ⟨by omega, fun _ h => (by cases h), ⟨⟨hx.n0, hx.n1⟩, fun _ h => (by cases h), trivial⟩, ⟨⟨hx.s0, hx.s1⟩, fun _ h => (by cases h), trivial⟩, trivial⟩, trivial⟩
    · exact ⟨by omega, fun _ h => (by cases h), ⟨by omega, fun _ h => (by cases h), trivial⟩, ⟨by omega, CbCopy.nums_bts _, trivial⟩, trivial⟩
end
theorem sane_num (n : Int) (h0 : 0 ≤ n) (h1 : n ≤ 18446744073709551615) : sane (iN n) := ⟨⟨h0, h1⟩, fun _ h => (by cases h), trivial⟩
/-- The blank of a block: what stands ahead of the Life, and behind it. -/
theorem blank_parts (p : Prm) (k : Nat) (hk : k = 1 ∨ k = 2) (h0 : 65536 ≤ p.life) (h1 : p.life < 4294967296) : enc (blank (pitems p) k) =
    (HeadP.bytes 4 9 false ++ encs [iN 7, iN p.flags, iN p.sum, itemOf p.dest, itemOf p.id.src, itemOf p.report, iL (iN p.id.time) (iN p.id.seq)] ++ [26]) ++ HeadP.be p.life 4 ++ enc (.mk 2 0 (zeros (2 * k)) []) := by
  have hz : k ≠ 0 := by omega
  unfold blank
  rw [if_neg hz, enc_sub]
  show HeadP.bytes 4 (cn (withB (pitems p) (zeros (2 * k)))) false ++ [] ++ encs (pitems p ++ [.mk 2 0 (zeros (2 * k)) []]) = _
  rw [show cn (withB (pitems p) (zeros (2 * k))) = 9 from rfl, encs_append]
  rw [show pitems p = [iN 7, iN p.flags, iN p.sum, itemOf p.dest, itemOf p.id.src, itemOf p.report, iL (iN p.id.time) (iN p.id.seq)] ++ [iN p.life] from rfl, encs_append]
  rw [show encs [iN p.life] = enc (iN p.life) ++ [] from rfl, head5 _ h0 h1]
  rw [show encs [Itm.mk 2 0 (zeros (2 * k)) []] = enc (.mk 2 0 (zeros (2 * k)) []) ++ [] from rfl]
  simp only [List.append_nil, List.append_assoc, List.cons_append, List.nil_append]
theorem blank_bts {p : Prm} (hp : p.ok) (h : pright p = true) (k : Nat) (hk : k = 1 ∨ k = 2) : St.bts (enc (blank (pitems p) k)) := by
  obtain ⟨f, s, d, e⟩ := pitems_small h
  have hz : k ≠ 0 := by omega
  have hzb : St.bts (zeros (2 * k)) := fun x hx => by
    unfold zeros at hx
    have := List.eq_of_mem_replicate hx
    omega
  have hzl : (zeros (2 * k)).length = 2 * k := by simp [zeros]
  refine EncB.enc_bts _ ?_ ?_ ?_
  · unfold blank
    rw [if_neg hz]
    simp [fine, fines, fines_append, f, kindFit, Itm.kind, Itm.num, Itm.bs, Itm.sub]
  · unfold blank
    rw [if_neg hz]
    refine ⟨by omega, fun _ h => (by cases h), ?_⟩
    exact ⟨sane_num _ (by omega) (by omega), sane_num _ hp.f0 hp.f1, sane_num _ (by have := (pright_all h).2.1; omega) (by have := (pright_all h).2.1; omega), sane_of_nm _ hp.d, sane_of_nm _ hp.i.s, sane_of_nm _ hp.r, ⟨by omega, fun _ h => (by cases h), sane_num _ hp.i.t0 hp.i.t1, sane_num _ hp.i.q0 hp.i.q1, trivial⟩, sane_num _ hp.l0 hp.l1, ⟨by omega, hzb, trivial⟩, trivial⟩
  · unfold blank
    rw [if_neg hz, enc_sub]
    have a1 := Great.bytes_le 4 (cn (withB (pitems p) (zeros (2 * k)))) false
    have a2 := Great.bytes_le 2 (cn (.mk 2 0 (zeros (2 * k)) [])) false
    simp only [Itm.kind, Itm.bs, Itm.sub, encs_append, encs, enc, List.length_append, List.length_nil, hzl]
    omega
/-- A Life whose bits are turned is told. -/
theorem turned {p : Prm} (hp : p.ok) (h : pright p = true) (hk : p.sum = 1 ∨ p.sum = 2) (m n v s : Nat) (hm : p.life = m) (h1 : 65536 ≤ m) (h2 : m < 4294967296) (h3 : 65536 ≤ n) (h4 : n < 4294967296)
    (hv : rev4 n = rev4 m ^^^ v * 2 ^ s) (v0 : v ≠ 0) (v1 : v < 65536) (hs : s < 16) :
    prE (withB (pitems { p with life := n }) (sumB p.sum.toNat (enc (blank (pitems p) p.sum.toNat)))) = 10 := by
  have hk' : p.sum.toNat = 1 ∨ p.sum.toNat = 2 := by omega
  have hq : ({ p with life := (n : Int) } : Prm).ok := ⟨hp.f0, hp.f1, hp.s0, hp.s1, hp.d, hp.r, hp.i, by show (0 : Int) ≤ n; omega, by show (n : Int) ≤ _; omega⟩
  have hr : pright ({ p with life := (n : Int) } : Prm) = true := by
    obtain ⟨a1, a2, a3, a4, a5, a6⟩ := pright_all h
    unfold pright
    simp only [Bool.and_eq_true, decide_eq_true_eq]
    exact ⟨a1, a2.1, a2.2, a3, a4, a5, by omega⟩
  have hty := ptyp hr
  have e1 := blank_parts p p.sum.toNat hk' (by omega) (by omega)
  have e2 := blank_parts { p with life := (n : Int) } p.sum.toNat hk' (by show (65536 : Int) ≤ n; omega) (by show (n : Int) < _; omega)
  have b1 := blank_bts hp h p.sum.toNat hk'
  have b2 := blank_bts hq hr p.sum.toNat hk'
  have ho : openE (withB (pitems { p with life := n }) (sumB p.sum.toNat (enc (blank (pitems p) p.sum.toNat)))) 2 = 10 := by
    refine open_other (pseal hr).1 (by rw [hty]; show 0 < p.sum; omega) (by rw [hty]; exact sumB_length _ _) ?_
    rw [hty]
    show sumB p.sum.toNat _ ≠ sumB p.sum.toNat _
    intro he
    unfold sumB at he
    have he' := be_inj (sumOf_lt _ hk' _) (sumOf_lt _ hk' _) he
    rw [e1, e2] at he'
    rw [e1] at b1
    rw [e2] at b2
    rw [hm] at he' b1
    exact sums_differ p.sum.toNat _ _ m n v s b1 b2 hk' hv v0 v1 hs he'
  unfold prE
  rw [ho, if_neg (by decide)]
end Go.Proofs.YtbgcbcnidjlhnaaDoor.Prim
/- The contract of the statements' Great (layer 6). -/
namespace Go.Proofs.YtbgcbcnidjlhnaaDoor.Prim
open Go.RowKit Wd Cb Eid

/-- Some truth comes. -/
def SomeB (w : World) (e : Ending) (w' : World) : Prop := ∃ b, e = .returned (.bool b) ∧ Below w.heap.size w w'
set_option maxRecDepth 100000 in
set_option maxHeartbeats 8000000 in
theorem great06_any (p : Prm) (w : World) : Calls Tryd.prog 43 #[p.val] w (SomeB w) := by
  have CG := Lib.hid (fun w' => great05_any p.id w')
  generalize decide (300 < wrap64 ((p.id.src.host.size : Int) + p.id.src.demux.size)) = gd at *
  obtain ⟨f, sm, ⟨di, dn, ds, dh, dd⟩, ⟨ri, rn, rs, rh, rd⟩, ⟨⟨ii, inn, iss, ih, idd⟩, t, q⟩, lf⟩ := p
  have HB0 := Lib.hid ((Below.refl w.heap.size w).alloc (Nat.le_refl _) (.cells #[.int .u64 f, .int .i64 sm, .bool di, .int .u64 dn, .int .u64 ds, .string dh, .string dd, .bool ri, .int .u64 rn, .int .u64 rs, .string rh, .string rd, .bool ii, .int .u64 inn, .int .u64 iss, .string ih, .string idd, .int .u64 t, .int .u64 q, .int .u64 lf] 90))
  have HK0 := Lib.hid (Blk.new w 90 #[.int .u64 f, .int .i64 sm, .bool di, .int .u64 dn, .int .u64 ds, .string dh, .string dd, .bool ri, .int .u64 rn, .int .u64 rs, .string rh, .string rd, .bool ii, .int .u64 inn, .int .u64 iss, .string ih, .string idd, .int .u64 t, .int .u64 q, .int .u64 lf])
  go_enter Tryd.func43, Tryd.ntmps43
  go_upto_region 1 with (fail)
  generalize w.alloc (.cells #[.int .u64 f, .int .i64 sm, .bool di, .int .u64 dn, .int .u64 ds, .string dh, .string dd, .bool ri, .int .u64 rn, .int .u64 rs, .string rh, .string rd, .bool ii, .int .u64 inn, .int .u64 iss, .string ih, .string idd, .int .u64 t, .int .u64 q, .int .u64 lf] 90) = w0 at *
  obtain ⟨c0, c1, c2, c3, c4, c5, c6, c7, c8, c9, c10, c11, c12, c13, c14, c15, c16, c17, c18, c19⟩ := cells20 HK0.out
  cases hd : decide (300 < wrap64 (wrap64 (wrap64 ((dh.size : Int) + (dd.size : Int)) + (rh.size : Int)) + (rd.size : Int)))
  · go_wp2_with fail
    refine (CG.out _).mono ?_
    rintro e w1 ⟨rfl, hb⟩
    have HB1 := Lib.hid (below_next HB0.out HB0.out.size hb)
    clear hb
    go_wp2_with fail
    go_ret
    exact ⟨_, rfl, HB1.out⟩
  · go_wp2_with fail
    go_ret
    exact ⟨_, rfl, HB0.out⟩
end Go.Proofs.YtbgcbcnidjlhnaaDoor.Prim
/- The statement PrimaryTurned: its values. -/
namespace Go.Proofs.YtbgcbcnidjlhnaaDoor.PrimaryTurned
open Go.RowKit Wd Cb Eid EncB CbCopy CbList CbRight CbWrite CbLays CbSame Prim SumP

theorem and_one (a : Int) : ∃ z : Nat, z < 2 ∧ bits .and .i64 a 1 = (z : Int) := by
  refine ⟨(BitVec.ofInt 64 a).toNat % 2, Nat.mod_lt _ (by omega), ?_⟩
  show IntKind.i64.wrap ((BitVec.ofInt 64 a &&& BitVec.ofInt 64 1).toNat : Int) = _
  rw [BitVec.toNat_and, show (BitVec.ofInt 64 1).toNat = 1 from rfl, Nat.and_one_is_mod, IntKind.wrap_i64]
  omega
theorem and_31 (a : Int) (h0 : 0 ≤ a) (h1 : a ≤ 18446744073709551615) : ∃ m : Nat, m < 2147483648 ∧ bits .and .u64 a 2147483647 = (m : Int) := by
  obtain ⟨b, rfl⟩ := Int.eq_ofNat_of_zero_le h0
  refine ⟨b &&& 2147483647, Nat.lt_of_le_of_lt Nat.and_le_right (by omega), ?_⟩
  rw [show (2147483647 : Int) = ((2147483647 : Nat) : Int) from rfl, u64_and_nat _ _ (by omega) (by omega)]
theorem or_31 (m : Nat) (h : m < 2147483648) : bits .or .u64 2147483648 (m : Int) = ((2147483648 + m : Nat) : Int) := by
  rw [show (2147483648 : Int) = ((2147483648 : Nat) : Int) from rfl, u64_or_nat _ _ (by omega) (by omega), nat_join 31 2147483648 m (by omega) (by omega)]
theorem and_15 (a : Int) (h0 : 0 ≤ a) (h1 : a ≤ 255) : ∃ s : Nat, s < 16 ∧ bits .and .u8 a 15 = (s : Int) := by
  obtain ⟨b, rfl⟩ := Int.eq_ofNat_of_zero_le h0
  refine ⟨b &&& 15, Nat.lt_of_le_of_lt Nat.and_le_right (by omega), ?_⟩
  rw [show (15 : Int) = ((15 : Nat) : Int) from rfl, u8_and_nat _ _ (by omega) (by omega)]
theorem xor_pow (n j : Nat) (hn : n < 4294967296) (hj : j < 32) : bits .xor .u64 (n : Int) (2 ^ j % 18446744073709551616) = ((n ^^^ 2 ^ j : Nat) : Int) ∧ n ^^^ 2 ^ j < 4294967296 := by
  have hp : 2 ^ j < 4294967296 := Nat.pow_lt_pow_right (n := 32) (by omega) hj
  have e : ((2 : Int) ^ j % 18446744073709551616) = ((2 ^ j : Nat) : Int) := by
    rw [Int.natCast_pow]
    exact Int.emod_eq_of_lt (Int.le_of_lt (Int.pow_pos (by omega))) (by have h := (show ((2 ^ j : Nat) : Int) < 18446744073709551616 by omega); rwa [Int.natCast_pow] at h)
  rw [e]
  exact ⟨u64_xor_nat n (2 ^ j) (by omega) (by omega), Nat.xor_lt_two_pow (n := 32) hn hp⟩
theorem xor_wrap (n j : Nat) (hn : n < 4294967296) (hj : j < 32) : bits .xor .u64 (n : Int) (IntKind.u64.wrap ((2 : Int) ^ j)) = ((n ^^^ 2 ^ j : Nat) : Int) ∧ n ^^^ 2 ^ j < 4294967296 := by
  rw [IntKind.wrap_u64]
  exact xor_pow n j hn hj
theorem life_right {p : Prm} (h : pright p = true) (n : Nat) (h4 : n < 4294967296) : pright { p with life := (n : Int) } = true := by
  obtain ⟨a1, a2, a3, a4, a5, a6⟩ := pright_all h
  unfold pright
  simp only [Bool.and_eq_true, decide_eq_true_eq]
  exact ⟨a1, a2.1, a2.2, a3, a4, a5, by omega⟩
theorem pw_nine {p : Prm} (hk : p.sum = 1 ∨ p.sum = 2) : (pw p).sub = pitems p ++ [.mk 2 0 (sumB p.sum.toNat (enc (Prim.blank (pitems p) p.sum.toNat))) []] := by
  unfold pw sealed
  rw [if_neg (by omega)]
  rfl
theorem nine_len {p : Prm} (hk : p.sum = 1 ∨ p.sum = 2) : (pw p).sub.length = 9 := by rw [pw_nine hk]; rfl
theorem nine_set {p : Prm} (hk : p.sum = 1 ∨ p.sum = 2) (n : Int) : lst ((pw p).sub.set 7 (iN n)) = withB (pitems { p with life := n }) (sumB p.sum.toNat (enc (Prim.blank (pitems p) p.sum.toNat))) := by rw [pw_nine hk]; rfl
theorem turned_small {p : Prm} (h : pright p = true) (hk : p.sum = 1 ∨ p.sum = 2) (n : Nat) (h4 : n < 4294967296) : (enc (lst ((pw p).sub.set 7 (iN n)))).length ≤ 900000000 ∧ deep (lst ((pw p).sub.set 7 (iN n))) ≤ 50000 := by
  rw [nine_set hk]
  obtain ⟨f, s, d, e⟩ := pitems_small (life_right h n h4)
  have hc := sumB_length p.sum.toNat (enc (Prim.blank (pitems p) p.sum.toNat))
  generalize sumB p.sum.toNat (enc (Prim.blank (pitems p) p.sum.toNat)) = c at *
  have he : (enc (withB (pitems { p with life := (n : Int) }) c)).length ≤ 40000 := by
    rw [enc_sub]
    have a1 := Great.bytes_le 4 (cn (withB (pitems { p with life := (n : Int) }) c)) false
    have a2 := Great.bytes_le 2 (cn (.mk 2 0 c [])) false
    simp only [withB, Itm.kind, Itm.bs, Itm.sub, encs_append, encs, enc, List.length_append, List.length_nil, hc] at *
    omega
  refine ⟨by have h2 := he; omega, ?_⟩
  have h3 : deep (withB (pitems { p with life := (n : Int) }) c) = 1 + deeps (pitems { p with life := (n : Int) } ++ [.mk 2 0 c []]) := rfl
  have h5 : deeps [Itm.mk 2 0 c []] ≤ 2 := by simp [deeps, deep]
  rw [h3, deeps_append]
  omega
end Go.Proofs.YtbgcbcnidjlhnaaDoor.PrimaryTurned
/- The statement PrimaryTurned: the walk. -/
namespace Go.Proofs.YtbgcbcnidjlhnaaDoor.PrimaryTurned
open Go.RowKit Wd Cb Eid EncB CbCopy CbList CbRight CbWrite CbLays CbSame Prim SumP

set_option maxRecDepth 100000 in
set_option maxHeartbeats 8000000 in
theorem walk (p : Prm) (by_ at_ : Int) (w : World) (hp : p.ok) (hby : 0 ≤ by_ ∧ by_ ≤ 65535) (hat : 0 ≤ at_ ∧ at_ ≤ 255) (hTS : Tabs w ∧ Sz w) :
    Calls Tryd.prog 10 #[p.val, .int .u16 by_, .int .u8 at_] w fun e w' => e = .returned (.bool true) ∧ Below w.heap.size w w' := by
  obtain ⟨hT, hS⟩ := hTS
  have HTW := Lib.hid (fun (W : World) (h : Below w.heap.size w W) => And.intro (hT.below h (Nat.le_refl _)) (hS.below h (Nat.le_refl _)))
  have CAl := Lib.hid (fun (W : World) (h : Below w.heap.size w W) => alive06_any W (HTW.out W h).1 (HTW.out W h).2)
  obtain ⟨z, hz2, hz⟩ := and_one p.sum
  obtain ⟨m, hm2, hm⟩ := and_31 p.life hp.l0 hp.l1
  have hor : bits .or .u64 2147483648 (m : Int) = 2147483648 + (m : Int) := by rw [or_31 m hm2]; omega
  obtain ⟨s, hs2, hsa⟩ := and_15 at_ hat.1 hat.2
  obtain ⟨b, rfl⟩ := Int.eq_ofNat_of_zero_le hby.1
  have hb2 : b < 65536 := by omega
  have hq : ({ p with sum := 1 + (z : Int), life := (2147483648 + (m : Int)) } : Prm).ok := ⟨hp.f0, hp.f1, by show (-9223372036854775808 : Int) ≤ 1 + (z : Int); omega, by show 1 + (z : Int) ≤ _; omega, hp.d, hp.r, hp.i, by show (0 : Int) ≤ (2147483648 + (m : Int)); omega, by show (2147483648 + (m : Int)) ≤ _; omega⟩
  obtain ⟨f, sm, ⟨di, dn, ds, dh, dd⟩, ⟨ri, rn, rs, rh, rd⟩, ⟨⟨ii, inn, iss, ih, idd⟩, t, q⟩, lf⟩ := p
  simp only at hz hm hq
  generalize hQ : (⟨f, 1 + (z : Int), ⟨di, dn, ds, dh, dd⟩, ⟨ri, rn, rs, rh, rd⟩, ⟨⟨ii, inn, iss, ih, idd⟩, t, q⟩, (2147483648 + (m : Int))⟩ : Prm) = Q at hq
  have hQv : Q.val = .agg #[.int .u64 f, .int .i64 (1 + (z : Int)), .bool di, .int .u64 dn, .int .u64 ds, .string dh, .string dd, .bool ri, .int .u64 rn, .int .u64 rs, .string rh, .string rd, .bool ii, .int .u64 inn, .int .u64 iss, .string ih, .string idd, .int .u64 t, .int .u64 q, .int .u64 (2147483648 + (m : Int))] := by rw [← hQ]
  have hQs : Q.sum = 1 + (z : Int) := by rw [← hQ]
  have hQl : Q.life = (2147483648 + (m : Int)) := by rw [← hQ]
  have hk : Q.sum = 1 ∨ Q.sum = 2 := by rw [hQs]; omega
  have CG6 := Lib.hid (fun W => great06_any Q W)
  have CRt := Lib.hid (fun W => pright_any Q hq W)
  rw [hQv] at CG6 CRt
  have CW := Lib.hid (fun (W : World) (h : Below w.heap.size w W) (hr : pright Q = true) => show Calls Tryd.prog 44 #[.agg #[.int .u64 f, .int .i64 (1 + (z : Int)), .bool di, .int .u64 dn, .int .u64 ds, .string dh, .string dd, .bool ri, .int .u64 rn, .int .u64 rs, .string rh, .string rd, .bool ii, .int .u64 inn, .int .u64 iss, .string ih, .string idd, .int .u64 t, .int .u64 q, .int .u64 (2147483648 + (m : Int))]] W (fun e w' => ∃ gy, e = .returned (.tuple #[listV (some ⟨gy, 0, none⟩) 9 9, .int .i64 0]) ∧ Hid (Row w' gy (gy + 1) w'.heap.size (pw Q).sub) ∧ W.heap.size ≤ gy ∧ Below W.heap.size W w') from by
    rw [← hQv]
    refine (pwrite_yes Q hq W (HTW.out W h).1 (HTW.out W h).2 hr).mono ?_
    rintro e w' ⟨v, rfl, HL, hb⟩
    obtain ⟨g, rfl, h1, h2⟩ := HL.out
    exact ⟨g, by rw [nine_len hk], Lib.hid h2, h1, hb⟩)
  have CRz := Lib.hid (fun (W : World) (g nn : Nat) (v : Nat) (h : Below w.heap.size w W) (hr : pright Q = true) (hv : rev4 nn = rev4 (2147483648 + m) ^^^ v * 2 ^ s) (v0 : v ≠ 0) (v1 : v < 65536) (h3 : 65536 ≤ nn) (h4 : nn < 4294967296) (hrow : Row W g (g + 1) W.heap.size ((pw Q).sub.set 7 (iN nn))) => show Calls Tryd.prog 45 #[listV (some ⟨g, 0, none⟩) 9 9] W (fun e w' => e = .returned (.tuple #[.agg #[.int .u64 0, .int .i64 0, .bool false, .int .u64 0, .int .u64 0, .string ⟨#[]⟩, .string ⟨#[]⟩, .bool false, .int .u64 0, .int .u64 0, .string ⟨#[]⟩, .string ⟨#[]⟩, .bool false, .int .u64 0, .int .u64 0, .string ⟨#[]⟩, .string ⟨#[]⟩, .int .u64 0, .int .u64 0, .int .u64 0], .int .i64 10]) ∧ Below W.heap.size W w') from by
    have hE := turned hq hr hk (2147483648 + m) nn v s (by rw [hQl]; omega) (by omega) (by omega) h3 h4 hv v0 v1 hs2
    rw [← nine_set hk] at hE
    have hI : prI (lst ((pw Q).sub.set 7 (iN nn))) = zeroPrm := by
      unfold prI
      rw [hE, if_neg (by decide)]
    have hsz := turned_small hr hk nn h4
    have := pread_any (lst ((pw Q).sub.set 7 (iN nn))) _ W (lst_items hrow rfl (by rw [List.length_set, nine_len hk]) (by unfold maxLen; omega)) hsz.1 hsz.2 (HTW.out W h).1 (HTW.out W h).2
    rw [hE, hI] at this
    exact this)
  have HLEN := Lib.hid (nine_len hk)
  have HB0 := Lib.hid ((Below.refl w.heap.size w).alloc (Nat.le_refl _) (.cells #[.int .u64 f, .int .i64 sm, .bool di, .int .u64 dn, .int .u64 ds, .string dh, .string dd, .bool ri, .int .u64 rn, .int .u64 rs, .string rh, .string rd, .bool ii, .int .u64 inn, .int .u64 iss, .string ih, .string idd, .int .u64 t, .int .u64 q, .int .u64 lf] 90))
  have HP0 := Lib.hid (Blk.new w 90 #[.int .u64 f, .int .i64 sm, .bool di, .int .u64 dn, .int .u64 ds, .string dh, .string dd, .bool ri, .int .u64 rn, .int .u64 rs, .string rh, .string rd, .bool ii, .int .u64 inn, .int .u64 iss, .string ih, .string idd, .int .u64 t, .int .u64 q, .int .u64 lf])
  generalize pright Q = r at CRt CW CRz
  generalize (pw Q).sub = yl at CW CRz HLEN
  clear hT hS HTW hp hby hat hq hQv hQs hQl hk hQ
  go_enter Tryd.func10, Tryd.ntmps10
  go_upto_region 1 with (fail)
  generalize w.alloc (.cells #[.int .u64 f, .int .i64 sm, .bool di, .int .u64 dn, .int .u64 ds, .string dh, .string dd, .bool ri, .int .u64 rn, .int .u64 rs, .string rh, .string rd, .bool ii, .int .u64 inn, .int .u64 iss, .string ih, .string idd, .int .u64 t, .int .u64 q, .int .u64 lf] 90) = w0 at *
  have c1 : w0.cell? ⟨w.heap.size, 1, none⟩ = some (.int .i64 sm) := HP0.out.cell 1
  have f1 := HP0.out.frozen 1
  have HP1 : Hid (Blk (w0.setCell ⟨w.heap.size, 1, none⟩ (.int .i64 (1 + (z : Int)))) w.heap.size 90 #[.int .u64 f, .int .i64 (1 + (z : Int)), .bool di, .int .u64 dn, .int .u64 ds, .string dh, .string dd, .bool ri, .int .u64 rn, .int .u64 rs, .string rh, .string rd, .bool ii, .int .u64 inn, .int .u64 iss, .string ih, .string idd, .int .u64 t, .int .u64 q, .int .u64 lf]) := Lib.hid (HP0.out.set_ 1 _)
  have HB1 := Lib.hid (HB0.out.setCell (p := ⟨w.heap.size, 1, none⟩) (Nat.le_refl _) (.int .i64 (1 + (z : Int))))
  clear HP0 HB0
  go_upto_region 2 with (fail)
  clear c1 f1
  generalize w0.setCell ⟨w.heap.size, 1, none⟩ (.int .i64 (1 + (z : Int))) = w1 at *
  have c1 : w1.cell? ⟨w.heap.size, 19, none⟩ = some (.int .u64 lf) := HP1.out.cell 19
  have f1 := HP1.out.frozen 19
  have HP2 : Hid (Blk (w1.setCell ⟨w.heap.size, 19, none⟩ (.int .u64 (2147483648 + (m : Int)))) w.heap.size 90 #[.int .u64 f, .int .i64 (1 + (z : Int)), .bool di, .int .u64 dn, .int .u64 ds, .string dh, .string dd, .bool ri, .int .u64 rn, .int .u64 rs, .string rh, .string rd, .bool ii, .int .u64 inn, .int .u64 iss, .string ih, .string idd, .int .u64 t, .int .u64 q, .int .u64 (2147483648 + (m : Int))]) := Lib.hid (HP1.out.set_ 19 _)
  have HB2 := Lib.hid (HB1.out.setCell (p := ⟨w.heap.size, 19, none⟩) (Nat.le_refl _) (.int .u64 (2147483648 + (m : Int))))
  clear HP1 HB1
  go_upto_region 3 with (fail)
  clear c1 f1
  generalize w1.setCell ⟨w.heap.size, 19, none⟩ (.int .u64 (2147483648 + (m : Int))) = w2 at *
  clear hz hm hor
  refine wp_region_lit ?_
  refine wpList_load_row rfl 90 (.tmp 3) rfl w.heap.size rfl 90 _ (0, 0) _ HP2.out Tryd.underlying90 rfl info20 ?_
  refine wpList_plain rfl fun K hK => ?_
  go_simp
  refine (CG6.out w2).mono ?_
  rintro e w3 ⟨gb, rfl, hb3⟩
  refine hK _ _ ?_
  clear hK K
  have HB3 := Lib.hid (below_next HB2.out HB2.out.size hb3)
  have HP3 := Lib.hid (HP2.out.next hb3)
  clear hb3 CG6 HB2 HP2
  cases gb
  · refine wpList_run (w' := w3) (v := .bool false) rfl (by rfl) ?_
    refine wpList_step fun K hK => ?_
    rw [if_pos (by rfl)]
    refine wp_load_row 90 (.tmp 3) rfl w.heap.size rfl 90 _ (0, 0) _ HP3.out Tryd.underlying90 rfl info20 ?_
    refine hK _ _ ?_
    clear hK K
    refine wpList_step fun K hK => ?_
    rw [if_pos (by rfl)]
    go_simp
    refine (CRt.out w3).mono ?_
    rintro e w4 ⟨rfl, hb4⟩
    refine hK _ _ ?_
    clear hK K
    have HB4 := Lib.hid (below_next HB3.out HB3.out.size hb4)
    have HP4 := Lib.hid (HP3.out.next hb4)
    clear hb4 CRt HB3 HP3
    cases r
    · go_wp2_with fail
      refine (CAl.out w4 HB4.out).mono ?_
      rintro e wz ⟨rfl, hbz⟩
      have HBz := Lib.hid (below_next HB4.out HB4.out.size hbz)
      clear hbz
      go_wp2_with fail
      go_ret
      exact ⟨rfl, HBz.out⟩
    · by_cases hb0 : b = 0
      · subst hb0
        go_wp2_with fail
        refine (CAl.out w4 HB4.out).mono ?_
        rintro e wz ⟨rfl, hbz⟩
        have HBz := Lib.hid (below_next HB4.out HB4.out.size hbz)
        clear hbz
        go_wp2_with fail
        go_ret
        exact ⟨rfl, HBz.out⟩
      · have gb0 : ((b : Int) == 0) = false := by simpa using hb0
        go_upto_region 5 with (fail)
        clear gb0
        refine wp_region_lit ?_
        refine wpList_load_row rfl 90 (.tmp 3) rfl w.heap.size rfl 90 _ (0, 0) _ HP4.out Tryd.underlying90 rfl info20 ?_
        refine wpList_plain rfl fun K hK => ?_
        go_simp
        refine (CW.out w4 HB4.out rfl).mono ?_
        rintro e w5 ⟨gy, rfl, HY5, hgy, hb5⟩
        refine hK _ _ ?_
        clear hK K
        have hba : Below w4.heap.size w4 (w5.alloc (.cells #[.int .i64 4, .int .u64 0, .slice none 0 0, .slice (some ⟨gy, 0, none⟩) 9 9] 30)) := hb5.alloc hb5.size _
        have hbx : Below w5.heap.size w5 (w5.alloc (.cells #[.int .i64 4, .int .u64 0, .slice none 0 0, .slice (some ⟨gy, 0, none⟩) 9 9] 30)) := (Below.refl _ _).alloc (Nat.le_refl _) _
        have HB6 := Lib.hid (below_next HB4.out HB4.out.size hba)
        have HP6 := Lib.hid (HP4.out.next hba)
        have HY6 := Lib.hid (row_next HY5.out hbx)
        have HL6 := Lib.hid (Blk.new w5 30 #[.int .i64 4, .int .u64 0, .slice none 0 0, .slice (some ⟨gy, 0, none⟩) 9 9])
        have hgy5 := HY5.out.lt
        have hwg : w.heap.size ≤ gy := Nat.le_trans HB4.out.size hgy
        have hwgn : w.heap.size ≠ gy := by have := HP4.out.lt; omega
        clear hb5 hba hbx HB4 HP4 HY5 CW
        go_upto_region 6 with (fail)
        generalize w5.alloc (.cells #[.int .i64 4, .int .u64 0, .slice none 0 0, .slice (some ⟨gy, 0, none⟩) 9 9] 30) = w6 at *
        obtain ⟨⟨y0, y1, y2, y3⟩, -⟩ := cells_item HL6.out
        have c19 : w6.cell? ⟨w.heap.size, 19, none⟩ = some (.int .u64 (2147483648 + (m : Int))) := HP6.out.cell 19
        clear HP6
        go_wp2_with fail
        clear c19 y0 y1 y2 y3
        go_loopw [9, 10] (fun n i wr => ∃ (k nn : Nat), k ≤ 16 ∧ i = .int .i64 k ∧ n = .int .u64 nn ∧ nn < 4294967296 ∧ Hid (rev4 nn = rev4 (2147483648 + m) ^^^ (b % 2 ^ k) * 2 ^ s) ∧ Hid (wr = w6)) (fun _ i _ => 16 - (intOf i).toNat)
        case atStart => exact ⟨0, 2147483648 + m, by omega, rfl, by rw [Int.natCast_add]; rfl, by omega, Lib.hid (by rw [Nat.pow_zero, Nat.mod_one, Nat.zero_mul, Nat.xor_zero]), Lib.hid rfl⟩
        case round =>
          rename_i wr
          obtain ⟨k, nn, hk, rfl, rfl, hn, hv, hw⟩ := hrel
          obtain rfl := hw.out
          by_cases hlt : k < 16
          · have hbit : bits .and .u16 ((b : Int) / 2 ^ k) 1 = ((b / 2 ^ k % 2 : Nat) : Int) := by
              have := Bt.u16_bit (b / 2 ^ k) (Nat.lt_of_le_of_lt (Nat.div_le_self _ _) hb2)
              rwa [Int.natCast_ediv, Int.natCast_pow] at this
            by_cases hb : b / 2 ^ k % 2 = 1
            · have gb : (bits .and .u16 ((b : Int) / 2 ^ k) 1 == 1) = true := by rw [hbit, hb]; rfl
              clear hbit
              obtain ⟨x1, x2⟩ := xor_wrap nn (8 * (3 - (s + k) / 8) + (s + k) % 8) hn (by omega)
              have hv' := rev4_yes hv.out hlt hs2 hb
              clear hv
              go_wp2_with fail
              exact ⟨⟨k + 1, nn ^^^ 2 ^ (8 * (3 - (s + k) / 8) + (s + k) % 8), hlt, by go_num, by first | rfl | rw [x1], x2, Lib.hid hv', Lib.hid (by first | rfl | trivial)⟩, by simp [intOf]; omega⟩
            · have gb : (bits .and .u16 ((b : Int) / 2 ^ k) 1 == 1) = false := by rw [hbit, show b / 2 ^ k % 2 = 0 by omega]; rfl
              clear hbit
              go_wp2_with fail
              exact ⟨⟨k + 1, nn, hlt, by go_num, rfl, hn, Lib.hid (rev4_no hv.out (by omega)), Lib.hid (by first | rfl | trivial)⟩, by simp [intOf]; omega⟩
          · obtain rfl : k = 16 := by omega
            have hv2 : rev4 nn = rev4 (2147483648 + m) ^^^ b * 2 ^ s := by
              have h := hv.out
              rwa [Nat.mod_eq_of_lt (show b < 2 ^ 16 from hb2)] at h
            have HV := Lib.hid hv2
            clear hv hv2 hsa hw
            by_cases hn2 : (nn : Int) < 65536
            · have dg : decide ((nn : Int) < 65536) = true := decide_eq_true hn2
              go_wp2_with fail
              refine (CAl.out wr HB6.out).mono ?_
              rintro e wz ⟨rfl, hbz⟩
              have HBz := Lib.hid (below_next HB6.out HB6.out.size hbz)
              clear hbz
              go_wp2_with fail
              go_ret
              exact ⟨rfl, HBz.out⟩
            · have dg : decide ((nn : Int) < 65536) = false := decide_eq_false hn2
              obtain ⟨⟨y0, y1, y2, y3⟩, -⟩ := cells_item HL6.out
              clear y0 y1 y2
              go_upto_region 17 with (fail)
              clear dg
              have KL := Lib.hid (fun (W : World) (h : Below wr.heap.size wr W) => (cells4 (HL6.out.next h)).2.2.2)
              have KLf := Lib.hid (fun (W : World) (h : Below wr.heap.size wr W) (a b c d : Value) => show (((((W.setCell ⟨gy, 28, none⟩ a).setCell ⟨gy, 29, none⟩ b).setCell ⟨gy, 30, none⟩ c).setCell ⟨gy, 31, none⟩ d)).cell? ⟨w5.heap.size, 3, none⟩ = some (.slice (some ⟨gy, 0, none⟩) 9 9) from (cells4 (((((HL6.out.next h).far (p := ⟨gy, 28, none⟩) (by show w5.heap.size ≠ gy; omega) a).far (p := ⟨gy, 29, none⟩) (by show w5.heap.size ≠ gy; omega) b).far (p := ⟨gy, 30, none⟩) (by show w5.heap.size ≠ gy; omega) c).far (p := ⟨gy, 31, none⟩) (by show w5.heap.size ≠ gy; omega) d)).2.2.2)
              have KY := Lib.hid (fun (W : World) (h : Below wr.heap.size wr W) => show ∃ v0 v1 v2 v3, (W.cell? ⟨gy, 28, none⟩ = some v0 ∧ W.cell? ⟨gy, 29, none⟩ = some v1 ∧ W.cell? ⟨gy, 30, none⟩ = some v2 ∧ W.cell? ⟨gy, 31, none⟩ = some v3) ∧ (W.frozen? ⟨gy, 28, none⟩ = false ∧ W.frozen? ⟨gy, 29, none⟩ = false ∧ W.frozen? ⟨gy, 30, none⟩ = false ∧ W.frozen? ⟨gy, 31, none⟩ = false) from by
                obtain ⟨A, A', h1, h2⟩ := row_at (row_next HY6.out h) 7 (by rw [HLEN.out]; decide)
                exact ⟨_, _, _, _, h1, h2⟩)
              have CN8 := Lib.hid (fun W => num_any (nn : Int) W (by omega) (by omega))
              have HBd := Lib.hid ((Below.refl wr.heap.size wr).drew)
              go_region_held3 (fun w' => w'.cell? ⟨w5.heap.size, 3, none⟩ = some (.slice (some ⟨gy, 0, none⟩) 9 9))
                (first | with_reducible exact KL.out _ HBd.out | with_reducible exact KL.out _ HBN.out | with_reducible exact KLf.out _ HBN.out _ _ _ _ | fail)
                (first | (go_at_call 48; (with_reducible refine (CN8.out _).mono ?_); rintro e wN ⟨rfl, hbN⟩; have HBN := Lib.hid (below_next HBd.out HBd.out.size hbN); have hq := KY.out _ HBN.out; obtain ⟨v0, v1, v2, v3, ⟨c0, c1, c2, c3⟩, f0, f1, f2, f3⟩ := hq; clear hbN) | fail)
              have HY9 : Hid (Row (((((wN.setCell ⟨gy, 28, none⟩ (.int .i64 0)).setCell ⟨gy, 29, none⟩ (.int .u64 nn)).setCell ⟨gy, 30, none⟩ (.slice none 0 0)).setCell ⟨gy, 31, none⟩ (.slice none 0 0))) gy (gy + 1) wN.heap.size (yl.set 7 (iN nn))) := Lib.hid (row_put (row_next HY6.out HBN.out) (Nat.lt_succ_self _) (nn : Int) ⟨by omega, by omega⟩ 7 (by rw [HLEN.out]; decide))
              have HL9 : Hid (Blk (((((wN.setCell ⟨gy, 28, none⟩ (.int .i64 0)).setCell ⟨gy, 29, none⟩ (.int .u64 nn)).setCell ⟨gy, 30, none⟩ (.slice none 0 0)).setCell ⟨gy, 31, none⟩ (.slice none 0 0))) w5.heap.size 30 #[.int .i64 4, .int .u64 0, .slice none 0 0, .slice (some ⟨gy, 0, none⟩) 9 9]) := Lib.hid (((((HL6.out.next HBN.out).far (p := ⟨gy, 28, none⟩) (by show w5.heap.size ≠ gy; omega) _).far (p := ⟨gy, 29, none⟩) (by show w5.heap.size ≠ gy; omega) _).far (p := ⟨gy, 30, none⟩) (by show w5.heap.size ≠ gy; omega) _).far (p := ⟨gy, 31, none⟩) (by show w5.heap.size ≠ gy; omega) _)
              have HB9 : Hid (Below w.heap.size w (((((wN.setCell ⟨gy, 28, none⟩ (.int .i64 0)).setCell ⟨gy, 29, none⟩ (.int .u64 nn)).setCell ⟨gy, 30, none⟩ (.slice none 0 0)).setCell ⟨gy, 31, none⟩ (.slice none 0 0)))) := Lib.hid (((((below_next HB6.out HB6.out.size HBN.out).setCell (p := ⟨gy, 28, none⟩) hwg _).setCell (p := ⟨gy, 29, none⟩) hwg _).setCell (p := ⟨gy, 30, none⟩) hwg _).setCell (p := ⟨gy, 31, none⟩) hwg _)
              have hwz : (((((wN.setCell ⟨gy, 28, none⟩ (.int .i64 0)).setCell ⟨gy, 29, none⟩ (.int .u64 nn)).setCell ⟨gy, 30, none⟩ (.slice none 0 0)).setCell ⟨gy, 31, none⟩ (.slice none 0 0))).heap.size = wN.heap.size := by simp [World.setCell]
              generalize ((((wN.setCell ⟨gy, 28, none⟩ (.int .i64 0)).setCell ⟨gy, 29, none⟩ (.int .u64 nn)).setCell ⟨gy, 30, none⟩ (.slice none 0 0)).setCell ⟨gy, 31, none⟩ (.slice none 0 0)) = w9 at *
              rw [← hwz] at HY9
              clear hwz c0 c1 c2 c3 f0 f1 f2 f3 KL KLf KY CN8 HBd HBN HY6 HL6 HB6 y3
              have HRD := Lib.hid (CRz.out w9 gy nn b HB9.out (by first | rfl | trivial) HV.out hb0 hb2 (by omega) hn HY9.out)
              clear CRz HV HY9
              go_upto_region 18 with (fail)
              refine wp_region_lit ?_
              refine wpList_load_row rfl 30 (.tmp 7) rfl w5.heap.size rfl 30 _ (0, 0) _ HL9.out Tryd.underlying30 rfl (by kernel_rfl) ?_
              refine wpList_plain rfl fun K hK => ?_
              go_simp
              refine HRD.out.mono ?_
              rintro e w10 ⟨rfl, hbw10⟩
              refine hK _ _ ?_
              clear hK K HRD HL9
              refine wpList_run (w' := w10) (v := .tuple #[.agg #[.int .u64 0, .int .i64 0, .bool false, .int .u64 0, .int .u64 0, .string ⟨#[]⟩, .string ⟨#[]⟩, .bool false, .int .u64 0, .int .u64 0, .string ⟨#[]⟩, .string ⟨#[]⟩, .bool false, .int .u64 0, .int .u64 0, .string ⟨#[]⟩, .string ⟨#[]⟩, .int .u64 0, .int .u64 0, .int .u64 0], .int .i64 10]) rfl (by rfl) ?_
              refine wpList_run (w' := w10) (v := .agg #[.int .u64 0, .int .i64 0, .bool false, .int .u64 0, .int .u64 0, .string ⟨#[]⟩, .string ⟨#[]⟩, .bool false, .int .u64 0, .int .u64 0, .string ⟨#[]⟩, .string ⟨#[]⟩, .bool false, .int .u64 0, .int .u64 0, .string ⟨#[]⟩, .string ⟨#[]⟩, .int .u64 0, .int .u64 0, .int .u64 0]) rfl (by rfl) ?_
              refine wpList_run (w' := w10) (v := .int .i64 10) rfl (by rfl) ?_
              refine wpList_run (w' := w10.alloc (.cells zero20 90)) (v := .pointer (some ⟨w10.heap.size, 0, none⟩)) rfl (by kernel_rfl) ?_
              refine wpList_store_row rfl 90 (.tmp 12) (.tmp 86) rfl w10.heap.size #[.int .u64 0, .int .i64 0, .bool false, .int .u64 0, .int .u64 0, .string ⟨#[]⟩, .string ⟨#[]⟩, .bool false, .int .u64 0, .int .u64 0, .string ⟨#[]⟩, .string ⟨#[]⟩, .bool false, .int .u64 0, .int .u64 0, .string ⟨#[]⟩, .string ⟨#[]⟩, .int .u64 0, .int .u64 0, .int .u64 0] (by rfl) (by rfl) 90 _ (Blk.new w10 _ _) info20 rfl (by first | rfl | simp [Value.oneCell']) ?_
              rw [World.setRow_alloc_new]
              have HB11 := Lib.hid ((below_next HB9.out HB9.out.size hbw10).alloc (Nat.le_trans HB9.out.size hbw10.size) (.cells #[.int .u64 0, .int .i64 0, .bool false, .int .u64 0, .int .u64 0, .string ⟨#[]⟩, .string ⟨#[]⟩, .bool false, .int .u64 0, .int .u64 0, .string ⟨#[]⟩, .string ⟨#[]⟩, .bool false, .int .u64 0, .int .u64 0, .string ⟨#[]⟩, .string ⟨#[]⟩, .int .u64 0, .int .u64 0, .int .u64 0] 90))
              clear hbw10 HB9
              go_upto_region 19 with (fail)
              generalize w10.alloc (.cells #[.int .u64 0, .int .i64 0, .bool false, .int .u64 0, .int .u64 0, .string ⟨#[]⟩, .string ⟨#[]⟩, .bool false, .int .u64 0, .int .u64 0, .string ⟨#[]⟩, .string ⟨#[]⟩, .bool false, .int .u64 0, .int .u64 0, .string ⟨#[]⟩, .string ⟨#[]⟩, .int .u64 0, .int .u64 0, .int .u64 0] 90) = w11 at *
              go_wp2_with fail
              refine (CAl.out w11 HB11.out).mono ?_
              rintro e wz ⟨rfl, hbz⟩
              have HBz := Lib.hid (below_next HB11.out HB11.out.size hbz)
              clear hbz
              go_wp2_with fail
              go_ret
              exact ⟨rfl, HBz.out⟩
  · go_wp2_with fail
    refine (CAl.out w3 HB3.out).mono ?_
    rintro e wz ⟨rfl, hbz⟩
    have HBz := Lib.hid (below_next HB3.out HB3.out.size hbz)
    clear hbz
    go_wp2_with fail
    go_ret
    exact ⟨rfl, HBz.out⟩
end Go.Proofs.YtbgcbcnidjlhnaaDoor.PrimaryTurned
