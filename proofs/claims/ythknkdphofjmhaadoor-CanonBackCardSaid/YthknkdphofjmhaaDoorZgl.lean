/- Texts of my own, laid together: CanWr, CanRd, Alive07, CanU. -/
import Derived.Test.YthknkdphofjmhaaDoorZgk
import Derived.Test.YthknkdphofjmhaaDoorZgc
import Derived.Test.YthknkdphofjmhaaDoorPrimOk
import Derived.BigRegion
import Derived.BigQuiet
/- Blocks as items: the contracts of Same and Write. -/
namespace Go.Proofs.YthknkdphofjmhaaDoor.Can
open Go.RowKit Wd Cb Eid EncB Prim CbCopy CbList CbRight CbWrite CbSame CbRead CbShort CbLays CbOpen

/-- Are two blocks equal? -/
def csame (a b : Cbk) : Bool := (a.ty == b.ty) && ((a.no == b.no) && ((a.fl == b.fl) && ((a.sm == b.sm) && (a.dat == b.dat))))
theorem csame_iff (a b : Cbk) : csame a b = true ↔ a = b := by
  unfold csame
  simp only [Bool.and_eq_true, beq_iff_eq]
  obtain ⟨a1, a2, a3, a4, a5⟩ := a
  obtain ⟨b1, b2, b3, b4, b5⟩ := b
  simp

set_option maxRecDepth 100000 in
set_option maxHeartbeats 4000000 in
theorem csame_any (a b : Cbk) (ha : St.bts a.dat) (hb : St.bts b.dat) (A A' : Option Addr) (B c c' : Nat) (w : World) (h1 : Lst w B A (u8s a.dat)) (h2 : Lst w B A' (u8s b.dat)) (hB : B ≤ w.heap.size) :
    Calls Tryd.prog 18 #[cval a A c, cval b A' c'] w fun e w' => e = .returned (.bool (csame a b)) ∧ Below w.heap.size w w' := by
  have HB0 := Lib.hid (((Below.refl w.heap.size w).alloc (Nat.le_refl _) (.cells #[.int .u64 a.ty, .int .u64 a.no, .int .u64 a.fl, .int .i64 a.sm, .slice A a.dat.length c] 46)).alloc (by simp) (.cells #[.int .u64 b.ty, .int .u64 b.no, .int .u64 b.fl, .int .i64 b.sm, .slice A' b.dat.length c'] 46))
  have HK0 := Lib.hid ((Blk.new w 46 #[.int .u64 a.ty, .int .u64 a.no, .int .u64 a.fl, .int .i64 a.sm, .slice A a.dat.length c]).alloc (.cells #[.int .u64 b.ty, .int .u64 b.no, .int .u64 b.fl, .int .i64 b.sm, .slice A' b.dat.length c'] 46))
  have hz := Blk.new (w.alloc (.cells #[.int .u64 a.ty, .int .u64 a.no, .int .u64 a.fl, .int .i64 a.sm, .slice A a.dat.length c] 46)) 46 #[.int .u64 b.ty, .int .u64 b.no, .int .u64 b.fl, .int .i64 b.sm, .slice A' b.dat.length c']
  rw [World.size_alloc] at hz
  have HZ0 := Lib.hid hz
  clear hz
  have CE := Lib.hid (fun (W : World) (h : Below w.heap.size w W) => equal_any A A' B c c' a.dat b.dat W (h1.below (h.mono hB)) (h2.below (h.mono hB)) ha hb)
  have HC := Lib.hid (show csame a b = ((a.ty == b.ty) && ((a.no == b.no) && ((a.fl == b.fl) && ((a.sm == b.sm) && (a.dat == b.dat))))) from rfl)
  clear h1 h2 ha hb
  generalize csame a b = cs at *
  generalize (a.dat == b.dat) = d5 at *
  obtain ⟨t, n, f, s, D⟩ := a
  obtain ⟨t', n', f', s', D'⟩ := b
  simp only at *
  go_enter Tryd.func18, Tryd.ntmps18
  go_upto_region 1 with (fail)
  generalize (w.alloc (.cells #[.int .u64 t, .int .u64 n, .int .u64 f, .int .i64 s, .slice A D.length c] 46)).alloc (.cells #[.int .u64 t', .int .u64 n', .int .u64 f', .int .i64 s', .slice A' D'.length c'] 46) = w0 at *
  obtain ⟨k0, k1, k2, k3, k4⟩ := cells5 HK0.out
  obtain ⟨j0, j1, j2, j3, j4⟩ := cells5 HZ0.out
  cases h1 : t == t'
  · have HF := Lib.hid (show cs = false by rw [HC.out, h1]; rfl)
    go_wp2_with fail
    go_ret
    exact ⟨by rw [HF.out]; rfl, HB0.out⟩
  cases h2 : n == n'
  · have HF := Lib.hid (show cs = false by rw [HC.out, h1, h2]; rfl)
    go_wp2_with fail
    go_ret
    exact ⟨by rw [HF.out]; rfl, HB0.out⟩
  cases h3 : f == f'
  · have HF := Lib.hid (show cs = false by rw [HC.out, h1, h2, h3]; rfl)
    go_wp2_with fail
    go_ret
    exact ⟨by rw [HF.out]; rfl, HB0.out⟩
  cases h4 : s == s'
  · have HF := Lib.hid (show cs = false by rw [HC.out, h1, h2, h3, h4]; rfl)
    go_wp2_with fail
    go_ret
    exact ⟨by rw [HF.out]; rfl, HB0.out⟩
  have HF := Lib.hid (show cs = d5 by rw [HC.out, h1, h2, h3, h4]; rfl)
  go_wp2_with fail
  refine (CE.out _ HB0.out).mono ?_
  rintro e w1 ⟨rfl, rfl⟩
  go_wp2_with fail
  go_ret
  exact ⟨by rw [HF.out]; rfl, HB0.out⟩

/-- What Write answers. -/
def WrO (w w' : World) (b : Cbk) (r : Bool) (e : Ending) : Prop :=
  (r = true → ∃ v, e = .returned (.tuple #[v, .int .i64 0]) ∧ Hid (Laid w w' (cw b) v)) ∧ (r = false → e = .returned (.tuple #[zeroV, .int .i64 3]))
theorem zero4_blk (w : World) (t : TypeId) : Blk (w.alloc (.cells #[.int .i64 0, .int .u64 0, .slice none 0 0, .slice none 0 0] t)) w.heap.size t #[.int .i64 0, .int .u64 0, .slice none 0 0, .slice none 0 0] := Blk.new _ _ _

set_option maxRecDepth 100000 in
set_option maxHeartbeats 8000000 in
theorem cwrite_any (b : Cbk) (hb : b.ok) (A : Option Addr) (B c : Nat) (w : World) (hs : Lst w B A (u8s b.dat)) (hB : B ≤ w.heap.size) (hc : b.dat.length ≤ c) (hm : c ≤ maxLen) (hT : Tabs w) (hS : Sz w) (r : Bool) (hr : r = true ↔ CRight b) :
    Calls Tryd.prog 16 #[cval b A c] w fun e w' => WrO w w' b r e ∧ Below w.heap.size w w' := by
  obtain ⟨i0, hi0, hz0', hz1', hz2'⟩ := info_parts info_item
  have HB0 := Lib.hid (((Below.refl w.heap.size w).alloc (Nat.le_refl _) (.cells #[.int .u64 b.ty, .int .u64 b.no, .int .u64 b.fl, .int .i64 b.sm, .slice A b.dat.length c] 46)).alloc (by simp) (.cells #[.int .i64 0, .int .u64 0, .slice none 0 0, .slice none 0 0] 26))
  have HK0 := Lib.hid ((Blk.new w 46 #[.int .u64 b.ty, .int .u64 b.no, .int .u64 b.fl, .int .i64 b.sm, .slice A b.dat.length c]).alloc (.cells #[.int .i64 0, .int .u64 0, .slice none 0 0, .slice none 0 0] 26))
  have hz := zero4_blk (w.alloc (.cells #[.int .u64 b.ty, .int .u64 b.no, .int .u64 b.fl, .int .i64 b.sm, .slice A b.dat.length c] 46)) 26
  rw [World.size_alloc] at hz
  have HZ0 := Lib.hid hz
  clear hz
  have CR := Lib.hid (fun (W : World) (h : Below w.heap.size w W) => cright_any b hb.d A B c W (hs.below (h.mono hB)) (Nat.le_trans hB h.size) hc hm (hT.below h (Nat.le_refl _)) r hr)
  have CB := Lib.hid (fun (W : World) (h : Below w.heap.size w W) (hl : b.dat.length ≤ 200) => bytes_any A B c b.dat W (hs.below (h.mono hB)) (Nat.le_trans hB h.size) (by omega))
  have HTW := Lib.hid (fun (W : World) (h : Below w.heap.size w W) => And.intro (hT.below h (Nat.le_refl _)) (hS.below h (Nat.le_refl _)))
  have HR := Lib.hid hr
  have HOK := Lib.hid hb
  clear hs hT hS hr hb
  go_enter Tryd.func16, Tryd.ntmps16
  go_upto_region 1 with (fail)
  generalize (w.alloc (.cells #[.int .u64 b.ty, .int .u64 b.no, .int .u64 b.fl, .int .i64 b.sm, .slice A b.dat.length c] 46)).alloc (.cells #[.int .i64 0, .int .u64 0, .slice none 0 0, .slice none 0 0] 26) = w0 at *
  obtain ⟨k0, k1, k2, k3, k4⟩ := cells5 HK0.out
  go_wp2_with fail
  refine (CR.out _ HB0.out).mono ?_
  rintro e w1 ⟨rfl, hb1⟩
  have HB1 := Lib.hid (below_next HB0.out HB0.out.size hb1)
  have HK1 := Lib.hid (HK0.out.next hb1)
  have HZ1 := Lib.hid (HZ0.out.next hb1)
  clear k0 k1 k2 k3 k4 hb1 CR HB0 HK0 HZ0
  obtain ⟨k0, k1, k2, k3, k4⟩ := cells5 HK1.out
  cases r
  · obtain ⟨⟨z0, z1, z2, z3⟩, u0, u1, u2, u3⟩ := cells_item HZ1.out
    have HK9 := Lib.hid (set4_blk HZ1.out (.int .i64 0) (.int .u64 0) (.slice none 0 0) (.slice none 0 0))
    have HB9 : Hid (Below w.heap.size w (set4 w1 (w.heap.size + 1) (.int .i64 0) (.int .u64 0) (.slice none 0 0) (.slice none 0 0))) := Lib.hid (below_set4 HB1.out (Nat.le_succ _) _ _ _ _)
    generalize hW9 : set4 w1 (w.heap.size + 1) (.int .i64 0) (.int .u64 0) (.slice none 0 0) (.slice none 0 0) = W9 at HK9 HB9
    unfold set4 at hW9
    obtain ⟨q0, q1, q2, q3⟩ := cells4 HK9.out
    go_wp2_with fail
    try rw [hW9]
    exact bodyPost_ret (v := .tuple #[zeroV, .int .i64 3]) (by simp [results, Tryd.results16, go_sem, q0, q1, q2, q3]) rfl ⟨⟨fun e => (by cases e), fun _ => rfl⟩, HB9.out⟩
  · have hcr := HR.out.1 rfl
    obtain ⟨-, -, -, hsm, hlen⟩ := cfit_all hcr.1
    have hsw : IntKind.u64.wrap b.sm = b.sm := by rw [IntKind.wrap_u64]; omega
    have hok := HOK.out
    have CN := Lib.hid (numbers_any (some ⟨w1.heap.size, 0, none⟩) (w1.heap.size + 1) 4 [b.ty, b.no, b.fl, b.sm] (w1.alloc (.cells #[.int .u64 b.ty, .int .u64 b.no, .int .u64 b.fl, .int .u64 b.sm] 22)) (Lst.lit w1 #[.int .u64 b.ty, .int .u64 b.no, .int .u64 b.fl, .int .u64 b.sm] 22) (by simp) (by
      intro x hx
      simp only [List.mem_cons, List.not_mem_nil, or_false] at hx
      rcases hx with rfl | rfl | rfl | rfl
      · exact ⟨hok.t0, hok.t1⟩
      · exact ⟨hok.n0, hok.n1⟩
      · exact ⟨hok.f0, hok.f1⟩
      · exact ⟨by omega, by omega⟩) (by simp))
    have HBa := Lib.hid (HB1.out.alloc HB1.out.size (.cells #[.int .u64 b.ty, .int .u64 b.no, .int .u64 b.fl, .int .u64 b.sm] 22))
    have HKa := Lib.hid (HK1.out.alloc (.cells #[.int .u64 b.ty, .int .u64 b.no, .int .u64 b.fl, .int .u64 b.sm] 22))
    have HZa := Lib.hid (HZ1.out.alloc (.cells #[.int .u64 b.ty, .int .u64 b.no, .int .u64 b.fl, .int .u64 b.sm] 22))
    have HSE := Lib.hid (cseal hsm (show b.dat.length ≤ 400 by omega))
    have HSM := Lib.hid (citems_small b (show b.dat.length ≤ 400 by omega))
    have HCI := Lib.hid (show citems b = [iN b.ty, iN b.no, iN b.fl, iN b.sm] ++ [.mk 2 0 b.dat []] from rfl)
    have CB2 := Lib.hid (fun (W : World) (h : Below w.heap.size w W) => CB.out W h hlen)
    have HX := Lib.hid hok.d
    clear HB1 HK1 HZ1 CB hcr hok HR HOK
    go_upto_region 3 with (fail)
    go_wp2_with fail
    generalize w1.alloc (.cells #[.int .u64 b.ty, .int .u64 b.no, .int .u64 b.fl, .int .u64 b.sm] 22) = w2 at *
    refine CN.out.mono ?_
    rintro e w3 ⟨v, rfl, HRI, hb3⟩
    have HB3 := Lib.hid (below_next HBa.out HBa.out.size hb3)
    have HK3 := Lib.hid (HKa.out.next hb3)
    have HZ3 := Lib.hid (HZa.out.next hb3)
    have hz2 : w.heap.size + 1 < w2.heap.size := HZa.out.lt
    have hz3 : w2.heap.size ≤ w3.heap.size := hb3.size
    clear k0 k1 k2 k3 k4 hb3 CN HBa HKa HZa
    obtain ⟨k0, k1, k2, k3, k4⟩ := cells5 HK3.out
    go_wp2_with fail
    refine (CB2.out _ HB3.out).mono ?_
    rintro e w4 ⟨A4, rfl, HSG, hb4⟩
    have hba := (Below.refl w4.heap.size w4).alloc (Nat.le_refl _) (.cells #[.int .i64 2, .int .u64 0, .slice A4 b.dat.length b.dat.length, .slice none 0 0] 26)
    have hbb := below_next hb4 hb4.size hba
    have hza : (w4.alloc (.cells #[.int .i64 2, .int .u64 0, .slice A4 b.dat.length b.dat.length, .slice none 0 0] 26)).heap.size = w4.heap.size + 1 := World.size_alloc _ _
    obtain ⟨vs, hO, hF⟩ := HRI.out
    have hob : ∀ q, v.ownBlock = some q → w2.heap.size ≤ q ∧ q < w3.heap.size := fun q hq => hO.lt q hq
    have HOB := Lib.hid hob
    have HO5 := Lib.hid (own_later hO hbb)
    have HF5 := Lib.hid (hF.keep (fun q _ h2 => hbb.cell h2))
    have HX5 : Hid (Rep (w4.alloc (.cells #[.int .i64 2, .int .u64 0, .slice A4 b.dat.length b.dat.length, .slice none 0 0] 26)) w3.heap.size (w4.alloc (.cells #[.int .i64 2, .int .u64 0, .slice A4 b.dat.length b.dat.length, .slice none 0 0] 26)).heap.size (.mk 2 0 b.dat []) [.int .i64 2, .int .u64 0, .slice A4 b.dat.length b.dat.length, .slice none 0 0]) := Lib.hid (by
      unfold Rep
      exact ⟨A4, b.dat.length, none, 0, [], rfl, ⟨by decide, by decide⟩, ⟨by decide, by decide⟩, HX.out, Nat.le_refl _, by unfold maxLen; omega, (HSG.out.below hba).more (Nat.le_refl _) hba.size, Nat.le_refl _, by unfold maxLen; omega, .nil, Reps.none_⟩)
    have HSG5 : Hid (Seg (w4.alloc (.cells #[.int .i64 2, .int .u64 0, .slice A4 b.dat.length b.dat.length, .slice none 0 0] 26)) 0 (w4.heap.size + 1) (some ⟨w4.heap.size, 0, none⟩) [.int .i64 2, .int .u64 0, .slice A4 b.dat.length b.dat.length, .slice none 0 0]) :=
      Lib.hid (Seg.of_lst (Lst.lit w4 #[.int .i64 2, .int .u64 0, .slice A4 b.dat.length b.dat.length, .slice none 0 0] 26))
    have HB5 := Lib.hid (below_next HB3.out HB3.out.size hbb)
    have HZ5 := Lib.hid (HZ3.out.next hbb)
    have hs4 : w3.heap.size ≤ w4.heap.size := hb4.size
    have HM : 4 + 1 ≤ maxLen := by unfold maxLen; omega
    have HBS : w2.heap.size ≤ (w4.alloc (.cells #[.int .i64 2, .int .u64 0, .slice A4 b.dat.length b.dat.length, .slice none 0 0] 26)).heap.size := by omega
    clear hb4 hba hbb hob hO hF HRI HSG HB3 HK3 HZ3 CB2 k0 k1 k2 k3 k4
    go_wp2_with (first
      | (at_builtin
         refine wpList_append_seg _ rfl (.tmp 20) (.tmp 24) _ (by rfl) w2.heap.size 26 i0 _ 64 Tryd.underlying24 hi0 hz0' 4 hz1' hz2' rfl (by omega) v 4 vs (by rfl) HO5.out
           0 (w4.heap.size + 1) (some ⟨w4.heap.size, 0, none⟩) 1 1 [.int .i64 2, .int .u64 0, .slice A4 b.dat.length b.dat.length, .slice none 0 0] (by rfl) rfl HSG5.out (by simp [Value.oneCell']) HM (by omega) HBS ?_
         intro v6 w6 hown6 hg6 hat6
         have HR6 := Lib.hid (show RowI w6 w2.heap.size v6 (citems b) from ⟨_, hown6, by rw [HCI.out]; exact HF5.out.snoc HX5.out (by omega) (by omega) hg6 (fun q hq => (HOB.out q hq).2) hat6⟩)
         have HB6 := Lib.hid (HB5.out.grown hg6 (by omega) (fun k hk => by have := (HOB.out k hk).1; omega))
         have HZ6 := Lib.hid (CbWrite.Blk.grown HZ5.out hg6 (fun e => by have := HOB.out (w.heap.size + 1) e; omega))
         clear hown6 hg6 hat6))
    obtain ⟨A6, c6, rfl, hc6, hm6⟩ := HR6.out.slice
    have hit := (HR6.out.items rfl).more (Nat.zero_le _) (Nat.le_refl _)
    obtain ⟨hT6, hS6⟩ := HTW.out _ HB6.out
    have hsm := HSM.out
    have CSl := Lib.hid (seal_any (citems b) A6 w6.heap.size c6 3 w6 hit (Nat.le_refl _) hc6 hm6 (by omega) (by omega) hT6 hS6)
    rw [HSE.out.1] at CSl
    clear hit hT6 hS6 HR6 HO5 HF5 HX5 HSG5 HB5 HZ5
    refine CSl.out.mono ?_
    rintro e w7 ⟨v, rfl, HO, hb7⟩
    obtain ⟨g, rfl, hg1, hg2⟩ := HO.out.1 HSE.out.1
    rw [HSE.out.2] at hg2 ⊢
    have HG2 := Lib.hid hg2
    have HB7 := Lib.hid (below_next HB6.out HB6.out.size hb7)
    have HZ7 := Lib.hid (HZ6.out.next hb7)
    have hz6 : w.heap.size + 1 < w6.heap.size := HZ6.out.lt
    clear hb7 hg2 HO CSl HB6 HZ6
    generalize hPW : cw b = PW at *
    have HR9 : Hid (Row (set4 w7 (w.heap.size + 1) (.int .i64 4) (.int .u64 0) (.slice none 0 0) (.slice (some ⟨g, 0, none⟩) PW.sub.length PW.sub.length)) g (g + 1) (set4 w7 (w.heap.size + 1) (.int .i64 4) (.int .u64 0) (.slice none 0 0) (.slice (some ⟨g, 0, none⟩) PW.sub.length PW.sub.length)).heap.size PW.sub) := Lib.hid
      ((HG2.out.keep (set4_heap _ _ _ _ _ _ (by omega)) (fun i h _ => set4_heap _ _ _ _ _ _ (by omega))).hi_eq (set4_size _ _ _ _ _ _))
    have HK9 := Lib.hid (set4_blk HZ7.out (.int .i64 4) (.int .u64 0) (.slice none 0 0) (.slice (some ⟨g, 0, none⟩) PW.sub.length PW.sub.length))
    have HB9 : Hid (Below w.heap.size w (set4 w7 (w.heap.size + 1) (.int .i64 4) (.int .u64 0) (.slice none 0 0) (.slice (some ⟨g, 0, none⟩) PW.sub.length PW.sub.length))) := Lib.hid (below_set4 HB7.out (Nat.le_succ _) _ _ _ _)
    obtain ⟨⟨z0, z1, z2, z3⟩, u0, u1, u2, u3⟩ := cells_item HZ7.out
    generalize hW9 : set4 w7 (w.heap.size + 1) (.int .i64 4) (.int .u64 0) (.slice none 0 0) (.slice (some ⟨g, 0, none⟩) PW.sub.length PW.sub.length) = W9 at HR9 HK9 HB9
    unfold set4 at hW9
    obtain ⟨q0, q1, q2, q3⟩ := cells4 HK9.out
    go_wp2_with fail
    try rw [hW9]
    subst hPW
    exact bodyPost_ret (v := .tuple #[listV (some ⟨g, 0, none⟩) (cw b).sub.length (cw b).sub.length, .int .i64 0]) (by simp [results, Tryd.results16, go_sem, q0, q1, q2, q3]) rfl
      ⟨⟨fun _ => ⟨_, rfl, Lib.hid ⟨g, rfl, by omega, HR9.out⟩⟩, fun e => (by cases e)⟩, HB9.out⟩
end Go.Proofs.YthknkdphofjmhaaDoor.Can
/- The block of an item: the contract of Read. -/
namespace Go.Proofs.YthknkdphofjmhaaDoor.Can
open Go.RowKit Wd Cb Eid EncB Prim CbCopy CbList CbRight CbWrite CbSame CbRead CbShort CbLays CbOpen

/-- What Read answers. -/
def RdO (w w' : World) (x : Itm) (r : Bool) (e : Ending) : Prop :=
  (r = true → ∃ A c, e = .returned (.tuple #[cval (cguess (openL x 3)) A c, .int .i64 0]) ∧ (cguess (openL x 3)).dat.length ≤ c ∧ c ≤ maxLen ∧ Hid (Seg w' w.heap.size w'.heap.size A (u8s (cguess (openL x 3)).dat))) ∧
  (r = false → e = .returned (.tuple #[.agg zeroC5, .int .i64 (if openE x 3 = 0 then 3 else openE x 3)]))
theorem bool_of (p : Prop) : ∃ q : Bool, q = true ↔ p := by
  by_cases h : p
  · exact ⟨true, by simp [h]⟩
  · exact ⟨false, by simp [h]⟩
theorem cw_list {b : Cbk} (h : CRight b) : cw b = lst (cw b).sub ∧ (cw b).sub.length ≤ maxLen ∧ (enc (cw b)).length ≤ 1000 ∧ deep (cw b) ≤ 10 ∧ size (cw b) ≤ 1000 := by
  obtain ⟨h1, h2, h3, h4, h5⟩ := cfit_all h.1
  obtain ⟨s1, s2⟩ := cseal h4 (by omega)
  have h6 := sealI_list s1
  obtain ⟨a, b1, c, d⟩ := sealI_len s1
  obtain ⟨e, f, g, i⟩ := citems_small b (by omega)
  rw [s2] at h6 a b1 c d
  have j : (citems b).length = 5 := rfl
  have k := size_enc (cw b)
  exact ⟨h6, by unfold maxLen; omega, by omega, by omega, by omega⟩
theorem cguess_ok {x : Itm} (hs : sane x) (h : openE x 3 = 0) : (cguess (openL x 3)).ok := by
  have hl := openL_sane hs 3
  have ht := open_typ h
  have f := fun k => sane_nm (sane_get (openL x 3) k hl)
  have h4 := sane_get (openL x 3) 4 hl
  refine ⟨(f 0).1, (f 0).2, (f 1).1, (f 1).2, (f 2).1, (f 2).2, by show _ ≤ (find (openL x 3) 3).num; omega, by show (find (openL x 3) 3).num ≤ _; omega, ?_⟩
  show St.bts (find (openL x 3) 4).bs
  unfold find
  generalize (openL x 3).getD 4 (iN 0) = z at *
  cases z
  exact h4.2.1

set_option maxRecDepth 100000 in
set_option maxHeartbeats 8000000 in
theorem cread_any (x : Itm) (v : Value) (w : World) (hv : ItemV w 0 w.heap.size x v) (hE : (enc x).length ≤ 900000000) (hd : deep x ≤ 50000) (hT : Tabs w) (hS : Sz w) (r : Bool) (hr : r = true ↔ crP x) :
    Calls Tryd.prog 17 #[v] w fun e w' => RdO w w' x r e ∧ Below w.heap.size w w' := by
  have HSN := Lib.hid (EncB.sane_of hv)
  obtain ⟨A1, c1, A2, c2, rfl, _⟩ := hv.open_
  have HB0 := Lib.hid (((Below.refl w.heap.size w).alloc (Nat.le_refl _) (.cells #[.int .i64 x.kind, .int .u64 x.num, .slice A1 x.bs.length c1, .slice A2 x.sub.length c2] 26)).alloc (by simp) (.cells zeroC5 46))
  have HK0 := Lib.hid ((Blk.new w 26 #[.int .i64 x.kind, .int .u64 x.num, .slice A1 x.bs.length c1, .slice A2 x.sub.length c2]).alloc (.cells zeroC5 46))
  have hz := Blk.new (w.alloc (.cells #[.int .i64 x.kind, .int .u64 x.num, .slice A1 x.bs.length c1, .slice A2 x.sub.length c2] 26)) 46 zeroC5
  rw [World.size_alloc] at hz
  have HZ0 := Lib.hid hz
  clear hz
  have CO := Lib.hid (fun (W : World) (h : Below w.heap.size w W) => open_any x _ 3 W ((hv.below h).more (Nat.le_refl _) h.size) hE hd (hT.below h (Nat.le_refl _)) (hS.below h (Nat.le_refl _)))
  have CS := Lib.hid (fun (W : World) (h : Below w.heap.size w W) (y : Itm) (u : Value) (hy : ItemV W 0 W.heap.size y u) (h1 : size y ≤ 2147483647) (h2 : deep y ≤ 65537) => sameTop_any y x u _ W.heap.size W hy ((hv.below h).more (Nat.le_refl _) h.size) (Nat.le_refl _) h1 h2)
  have HTW := Lib.hid (fun (W : World) (h : Below w.heap.size w W) => And.intro (hT.below h (Nat.le_refl _)) (hS.below h (Nat.le_refl _)))
  have HR := Lib.hid hr
  have HRO := Lib.hid (fun (w' : World) (e : Ending) (h : (r = true → ∃ A c, e = .returned (.tuple #[cval (cguess (openL x 3)) A c, .int .i64 0]) ∧ (cguess (openL x 3)).dat.length ≤ c ∧ c ≤ maxLen ∧ Hid (Seg w' w.heap.size w'.heap.size A (u8s (cguess (openL x 3)).dat))) ∧
    (r = false → e = .returned (.tuple #[.agg zeroC5, .int .i64 (if openE x 3 = 0 then 3 else openE x 3)]))) => show RdO w w' x r e from h)
  clear hv hT hS hr
  go_enter Tryd.func17, Tryd.ntmps17
  go_upto_region 1 with (fail)
  generalize (w.alloc (.cells #[.int .i64 x.kind, .int .u64 x.num, .slice A1 x.bs.length c1, .slice A2 x.sub.length c2] 26)).alloc (.cells zeroC5 46) = w0 at *
  obtain ⟨k0, k1, k2, k3⟩ := cells4 HK0.out
  go_wp2_with fail
  refine (CO.out _ HB0.out).mono ?_
  rintro e w1 ⟨⟨A, rfl, HL⟩, hb1⟩
  have HB1 := Lib.hid (below_next HB0.out HB0.out.size hb1)
  have HK1 := Lib.hid (HK0.out.next hb1)
  have HZ1 := Lib.hid (HZ0.out.next hb1)
  have hz0 : w.heap.size + 1 < w0.heap.size := HZ0.out.lt
  clear k0 k1 k2 k3 hb1 CO HB0 HK0 HZ0
  by_cases ho : openE x 3 = 0
  · by_cases hl : (openL x 3).length = 5
    · have hg := cguess_ok HSN.out ho
      have hcp : r = true ↔ CRight (cguess (openL x 3)) ∧ cw (cguess (openL x 3)) = x := HR.out.trans ⟨fun h => ⟨h.2.2.1, h.2.2.2⟩, fun h => ⟨ho, hl, h.1, h.2⟩⟩
      have hty := (open_typ ho).1
      have HP := Lib.hid hcp
      have HG := Lib.hid hg
      have HO := Lib.hid ho
      clear hcp hg HR
      rw [ho]
      generalize openL x 3 = l at *
      rw [hl]
      have d5 : ((5 : Int) != 5) = false := by decide
      obtain ⟨b, o, X1, x1, X2, x2, hA, hb0, hbs, e00, e01, e02, e03, q01, q02, q03, q04, q05, q06, q07, q08, q09⟩ := HL.out.at_ (k := 0) (by omega)
      subst hA
      obtain ⟨b', o', X1', x1', X2', x2', hA', _, _, e10, e11, e12, e13, q11, q12, q13, q14, q15, q16, q17, q18, q19⟩ := HL.out.at_ (k := 1) (by omega)
      obtain ⟨rfl, rfl⟩ : b = b' ∧ o = o' := by injection hA' with hA'; injection hA' with h1 h2; exact ⟨h1, h2⟩
      obtain ⟨b', o', Y1, y1, Y2, y2, hA', _, _, e20, e21, e22, e23, q21, q22, q23, q24, q25, q26, q27, q28, q29⟩ := HL.out.at_ (k := 2) (by omega)
      obtain ⟨rfl, rfl⟩ : b = b' ∧ o = o' := by injection hA' with hA'; injection hA' with h1 h2; exact ⟨h1, h2⟩
      obtain ⟨b', o', Z1, z1, Z2, z2, hA', _, _, e30, e31, e32, e33, q31, q32, q33, q34, q35, q36, q37, q38, q39⟩ := HL.out.at_ (k := 3) (by omega)
      obtain ⟨rfl, rfl⟩ : b = b' ∧ o = o' := by injection hA' with hA'; injection hA' with h1 h2; exact ⟨h1, h2⟩
      obtain ⟨b', o', D1, dc, D2, d2, hA', _, _, e40, e41, e42, e43, q41, q42, q43, q44, q45, q46, q47, q48, q49⟩ := HL.out.at_ (k := 4) (by omega)
      obtain ⟨rfl, rfl⟩ : b = b' ∧ o = o' := by injection hA' with hA'; injection hA' with h1 h2; exact ⟨h1, h2⟩
      have hge : cguess l = ⟨(l[0]'(by omega)).num, (l[1]'(by omega)).num, (l[2]'(by omega)).num, (l[3]'(by omega)).num, (l[4]'(by omega)).bs⟩ := by unfold cguess; rw [find_at (show 0 < l.length by omega), find_at (show 1 < l.length by omega), find_at (show 2 < l.length by omega), find_at (show 3 < l.length by omega), find_at (show 4 < l.length by omega)]
      have hp := HP.out
      have hg := HG.out
      have hro := HRO.out
      rw [hge] at hp hg hro
      clear HP HG HRO hge
      have HP := Lib.hid hp
      have HG := Lib.hid hg
      have HRO := Lib.hid hro
      clear hp hg hro
      rw [find_at (show 3 < l.length by omega)] at hty
      generalize (l[0]'(by omega)).num = n0 at *
      generalize (l[1]'(by omega)).num = n1 at *
      generalize (l[2]'(by omega)).num = n2 at *
      generalize (l[3]'(by omega)).num = n3 at *
      generalize (l[4]'(by omega)).bs = D at *
      have hw3 : IntKind.i64.wrap n3 = n3 := IntWalk.i64_in _ (by omega)
      have HSD := Lib.hid q46
      rw [Nat.zero_mul, Nat.add_zero] at e01
      rw [Nat.one_mul] at e11
      have f0 : w1.cell? ⟨b, o + 1, none⟩ = some (.int .u64 n0) := e01
      have f1 : w1.cell? ⟨b, o + 4 + 1, none⟩ = some (.int .u64 n1) := e11
      have f2 : w1.cell? ⟨b, o + 8 + 1, none⟩ = some (.int .u64 n2) := e21
      have f3 : w1.cell? ⟨b, o + 12 + 1, none⟩ = some (.int .u64 n3) := e31
      have f4 : w1.cell? ⟨b, o + 16 + 2, none⟩ = some (.slice D1 D.length dc) := e42
      clear HL e00 e01 e02 e03 q01 q02 q03 q04 q05 q06 q07 q08 q09 e10 e11 e12 e13 q11 q12 q13 q14 q15 q16 q17 q18 q19 e20 e21 e22 e23 q21 q22 q23 q24 q25 q26 q27 q28 q29 e30 e31 e32 e33 q31 q32 q33 q34 q35 q36 q37 q38 q39 e40 e41 e42 e43 q41 q42 q43 q46 q47 q48 q49 hA'
      go_upto_region 6 with (fail)
      go_cut [6] from 9 (fun p6 wx => p6 = .pointer (some ⟨w1.heap.size, 0, none⟩) ∧ wx = (w1.alloc (.cells #[.int .u64 n0, .int .u64 n1, .int .u64 n2, .int .i64 n3, .slice D1 D.length dc] 46)).drew)
      case first =>
        clear HP HG HRO CS HTW HB1 HK1 HZ1 HSD hE hd HO HSN
        go_region
        go_wp2_with fail
        go_meet
        exact ⟨rfl, rfl⟩
      obtain ⟨rfl, rfl⟩ := hcut
      clear f0 f1 f2 f3 f4 hw3
      have hba := ((Below.refl w1.heap.size w1).alloc (Nat.le_refl _) (.cells #[.int .u64 n0, .int .u64 n1, .int .u64 n2, .int .i64 n3, .slice D1 D.length dc] 46)).drew
      have HBa := Lib.hid (below_next HB1.out HB1.out.size hba)
      have HKa := Lib.hid (HK1.out.next hba)
      have HZa := Lib.hid (HZ1.out.next hba)
      have HGa := Lib.hid (Blk.new w1 46 #[.int .u64 n0, .int .u64 n1, .int .u64 n2, .int .i64 n3, .slice D1 D.length dc]).drew
      have HSa := Lib.hid ((HSD.out.below hba).more (Nat.le_refl _) hba.size)
      have hz1 : w0.heap.size ≤ w1.heap.size := by omega
      obtain ⟨q, hq⟩ := bool_of (CRight ⟨n0, n1, n2, n3, D⟩)
      clear HB1 HK1 HZ1 HSD hba HSN hty d5
      generalize (w1.alloc (.cells #[.int .u64 n0, .int .u64 n1, .int .u64 n2, .int .i64 n3, .slice D1 D.length dc] 46)).drew = w3 at *
      have CW := Lib.hid (cwrite_any ⟨n0, n1, n2, n3, D⟩ HG.out D1 w3.heap.size dc w3 (HSa.out.more (Nat.zero_le _) (Nat.le_refl _)).lst (Nat.le_refl _) q44 q45 (HTW.out _ HBa.out).1 (HTW.out _ HBa.out).2 q hq)
      have HQ := Lib.hid hq
      have HDC := Lib.hid (And.intro q44 q45)
      clear hq HG q44 q45 HTW
      obtain ⟨k0, k1, k2, k3, k4⟩ := cells5 HGa.out
      go_wp2_with fail
      refine CW.out.mono ?_
      rintro e w4 ⟨HW, hb4⟩
      have HB4 := Lib.hid (below_next HBa.out HBa.out.size hb4)
      have HK4 := Lib.hid (HKa.out.next hb4)
      have HZ4 := Lib.hid (HZa.out.next hb4)
      have HG4 := Lib.hid (HGa.out.next hb4)
      have HS4 := Lib.hid ((HSa.out.below hb4).more (Nat.le_refl _) hb4.size)
      have hz34 : w3.heap.size ≤ w4.heap.size := hb4.size
      clear k0 k1 k2 k3 k4 CW HBa HKa HZa HGa HSa
      cases q
      · obtain rfl := HW.2 rfl
        have hrf : r = false := by
          cases r
          · rfl
          · exact absurd (HQ.out.2 (HP.out.1 rfl).1) (by decide)
        subst hrf
        have HF := Lib.hid HRO.out
        rw [if_pos HO.out] at HF
        have HB5 := Lib.hid (HB4.out.alloc HB4.out.size (.cells #[.int .i64 0, .int .u64 0, .slice none 0 0, .slice none 0 0] 26))
        have HZ5 := Lib.hid (HZ4.out.alloc (.cells #[.int .i64 0, .int .u64 0, .slice none 0 0, .slice none 0 0] 26))
        clear hb4 HB4 HK4 HZ4 HG4 HS4 HRO HP HQ HW
        go_upto_region 8 with (fail)
        generalize w4.alloc (.cells #[.int .i64 0, .int .u64 0, .slice none 0 0, .slice none 0 0] 26) = w5 at *
        obtain ⟨z0, z1, z2, z3, z4⟩ := cells5 HZ5.out
        obtain ⟨u0, u1, u2, u3, u4⟩ := froz5 HZ5.out
        have HK9 := Lib.hid (Eid.set5_blk HZ5.out (.int .u64 0) (.int .u64 0) (.int .u64 0) (.int .i64 0) (.slice none 0 0))
        have HB9 := Lib.hid (Eid.set5_below HB5.out (Nat.le_succ _) (.int .u64 0) (.int .u64 0) (.int .u64 0) (.int .i64 0) (.slice none 0 0))
        generalize hW9 : Eid.set5 w5 (w.heap.size + 1) (.int .u64 0) (.int .u64 0) (.int .u64 0) (.int .i64 0) (.slice none 0 0) = W9 at HK9 HB9
        unfold Eid.set5 at hW9
        obtain ⟨q0, q1, q2, q3, q4⟩ := cells5 HK9.out
        go_wp2_with fail
        try rw [hW9]
        exact bodyPost_ret (v := .tuple #[.agg zeroC5, .int .i64 3]) (by simp [results, Tryd.results17, go_sem, q0, q1, q2, q3, q4]) rfl ⟨HF.out _ _ ⟨fun e => (by cases e), fun _ => rfl⟩, HB9.out⟩
      · obtain ⟨v, rfl, HL4⟩ := HW.1 rfl
        have hcr := HQ.out.1 rfl
        obtain ⟨y1, y2, y3, y4, y5⟩ := cw_list hcr
        have hrs : r = same (cw ⟨n0, n1, n2, n3, D⟩) x := Bool.eq_iff_iff.2 (HP.out.trans ⟨fun h => (same_iff _ _).2 h.2, fun h => ⟨hcr, (same_iff _ _).1 h⟩⟩)
        have HV4 := Lib.hid (HL4.out.item y1 y2)
        obtain ⟨g, rfl, -⟩ := HL4.out
        have HRS := Lib.hid hrs
        clear hcr hrs y1 y2 y3 HL4 HW HP HQ hb4
        generalize cw ⟨n0, n1, n2, n3, D⟩ = PW at *
        have HB5 := Lib.hid (HB4.out.alloc HB4.out.size (.cells #[.int .i64 4, .int .u64 0, .slice none 0 0, .slice (some ⟨g, 0, none⟩) PW.sub.length PW.sub.length] 26))
        have HZ5 := Lib.hid (HZ4.out.alloc (.cells #[.int .i64 4, .int .u64 0, .slice none 0 0, .slice (some ⟨g, 0, none⟩) PW.sub.length PW.sub.length] 26))
        have HK5 := Lib.hid (HK4.out.alloc (.cells #[.int .i64 4, .int .u64 0, .slice none 0 0, .slice (some ⟨g, 0, none⟩) PW.sub.length PW.sub.length] 26))
        have HG5 := Lib.hid (HG4.out.alloc (.cells #[.int .i64 4, .int .u64 0, .slice none 0 0, .slice (some ⟨g, 0, none⟩) PW.sub.length PW.sub.length] 26))
        have HY5 := Lib.hid (Blk.new w4 26 #[.int .i64 4, .int .u64 0, .slice none 0 0, .slice (some ⟨g, 0, none⟩) PW.sub.length PW.sub.length])
        have hz5 : w4.heap.size ≤ (w4.alloc (.cells #[.int .i64 4, .int .u64 0, .slice none 0 0, .slice (some ⟨g, 0, none⟩) PW.sub.length PW.sub.length] 26)).heap.size := by simp
        have HV5 := Lib.hid ((HV4.out.alloc (Nat.le_refl _) (.cells #[.int .i64 4, .int .u64 0, .slice none 0 0, .slice (some ⟨g, 0, none⟩) PW.sub.length PW.sub.length] 26)).more (Nat.zero_le _) hz5)
        have HS5 := Lib.hid ((HS4.out.below ((Below.refl w4.heap.size w4).alloc (Nat.le_refl _) (.cells #[.int .i64 4, .int .u64 0, .slice none 0 0, .slice (some ⟨g, 0, none⟩) PW.sub.length PW.sub.length] 26))).more (Nat.le_refl _) hz5)
        clear HB4 HK4 HZ4 HG4 HS4 HV4
        go_upto_region 8 with (fail)
        generalize w4.alloc (.cells #[.int .i64 4, .int .u64 0, .slice none 0 0, .slice (some ⟨g, 0, none⟩) PW.sub.length PW.sub.length] 26) = w5 at *
        have CS2 := Lib.hid (CS.out w5 HB5.out PW _ HV5.out (by omega) (by omega))
        rw [← HRS.out] at CS2
        obtain ⟨k0, k1, k2, k3⟩ := cells4 HK5.out
        obtain ⟨y0, y1, y2, y3⟩ := cells4 HY5.out
        clear CS HRS
        go_wp2_with fail
        refine CS2.out.mono ?_
        rintro e w6 ⟨rfl, hb6⟩
        have HB6 := Lib.hid (below_next HB5.out HB5.out.size hb6)
        have HZ6 := Lib.hid (HZ5.out.next hb6)
        have HG6 := Lib.hid (HG5.out.next hb6)
        have HS6 := Lib.hid ((HS5.out.below hb6).more (Nat.le_refl _) hb6.size)
        clear k0 k1 k2 k3 y0 y1 y2 y3 hb6 HB5 HZ5 HG5 HS5 HK5 HY5 HV5 CS2
        obtain ⟨z0, z1, z2, z3, z4⟩ := cells5 HZ6.out
        obtain ⟨u0, u1, u2, u3, u4⟩ := froz5 HZ6.out
        obtain ⟨k0, k1, k2, k3, k4⟩ := cells5 HG6.out
        cases r
        · have HF := Lib.hid HRO.out
          rw [if_pos HO.out] at HF
          have HK9 := Lib.hid (Eid.set5_blk HZ6.out (.int .u64 0) (.int .u64 0) (.int .u64 0) (.int .i64 0) (.slice none 0 0))
          have HB9 := Lib.hid (Eid.set5_below HB6.out (Nat.le_succ _) (.int .u64 0) (.int .u64 0) (.int .u64 0) (.int .i64 0) (.slice none 0 0))
          generalize hW9 : Eid.set5 w6 (w.heap.size + 1) (.int .u64 0) (.int .u64 0) (.int .u64 0) (.int .i64 0) (.slice none 0 0) = W9 at HK9 HB9
          unfold Eid.set5 at hW9
          obtain ⟨q0, q1, q2, q3, q4⟩ := cells5 HK9.out
          clear HRO
          go_wp2_with fail
          try rw [hW9]
          exact bodyPost_ret (v := .tuple #[.agg zeroC5, .int .i64 3]) (by simp [results, Tryd.results17, go_sem, q0, q1, q2, q3, q4]) rfl ⟨HF.out _ _ ⟨fun e => (by cases e), fun _ => rfl⟩, HB9.out⟩
        · have HK9 := Lib.hid (Eid.set5_blk HZ6.out (.int .u64 n0) (.int .u64 n1) (.int .u64 n2) (.int .i64 n3) (.slice D1 D.length dc))
          have HB9 := Lib.hid (Eid.set5_below HB6.out (Nat.le_succ _) (.int .u64 n0) (.int .u64 n1) (.int .u64 n2) (.int .i64 n3) (.slice D1 D.length dc))
          have HS9 := Lib.hid (show Seg (Eid.set5 w6 (w.heap.size + 1) (.int .u64 n0) (.int .u64 n1) (.int .u64 n2) (.int .i64 n3) (.slice D1 D.length dc)) w.heap.size (Eid.set5 w6 (w.heap.size + 1) (.int .u64 n0) (.int .u64 n1) (.int .u64 n2) (.int .i64 n3) (.slice D1 D.length dc)).heap.size D1 (u8s D) by
            rw [set5_size]
            exact (HS6.out.keep (w' := Eid.set5 w6 (w.heap.size + 1) (.int .u64 n0) (.int .u64 n1) (.int .u64 n2) (.int .i64 n3) (.slice D1 D.length dc)) (fun p h1 _ => set5_cell w6 (w.heap.size + 1) _ _ _ _ _ (show p.block ≠ w.heap.size + 1 by omega))).more (show w.heap.size ≤ w0.heap.size by omega) (Nat.le_refl _))
          generalize hW9 : Eid.set5 w6 (w.heap.size + 1) (.int .u64 n0) (.int .u64 n1) (.int .u64 n2) (.int .i64 n3) (.slice D1 D.length dc) = W9 at HK9 HB9 HS9
          unfold Eid.set5 at hW9
          obtain ⟨q0, q1, q2, q3, q4⟩ := cells5 HK9.out
          go_wp2_with fail
          try rw [hW9]
          exact bodyPost_ret (v := .tuple #[cval ⟨n0, n1, n2, n3, D⟩ D1 dc, .int .i64 0]) (by simp [results, Tryd.results17, go_sem, q0, q1, q2, q3, q4]) rfl ⟨HRO.out _ _ ⟨fun _ => ⟨D1, dc, rfl, HDC.out.1, HDC.out.2, HS9⟩, fun e => (by cases e)⟩, HB9.out⟩
    · have hrf : r = false := by
        cases r
        · rfl
        · exact absurd (HR.out.1 rfl).2.1 hl
      subst hrf
      have d5 : (((openL x 3).length : Int) != 5) = true := by simp; omega
      rw [ho]
      have HF := Lib.hid (HRO.out)
      rw [if_pos ho] at HF
      obtain ⟨z0, z1, z2, z3, z4⟩ := cells5 HZ1.out
      obtain ⟨u0, u1, u2, u3, u4⟩ := froz5 HZ1.out
      have HK9 := Lib.hid (Eid.set5_blk HZ1.out (.int .u64 0) (.int .u64 0) (.int .u64 0) (.int .i64 0) (.slice none 0 0))
      have HB9 := Lib.hid (Eid.set5_below HB1.out (Nat.le_succ _) (.int .u64 0) (.int .u64 0) (.int .u64 0) (.int .i64 0) (.slice none 0 0))
      generalize hW9 : Eid.set5 w1 (w.heap.size + 1) (.int .u64 0) (.int .u64 0) (.int .u64 0) (.int .i64 0) (.slice none 0 0) = W9 at HK9 HB9
      unfold Eid.set5 at hW9
      obtain ⟨q0, q1, q2, q3, q4⟩ := cells5 HK9.out
      clear HR HRO ho hl
      go_wp2_with fail
      try rw [hW9]
      exact bodyPost_ret (v := .tuple #[.agg zeroC5, .int .i64 3]) (by simp [results, Tryd.results17, go_sem, q0, q1, q2, q3, q4]) rfl ⟨HF.out _ _ ⟨fun e => (by cases e), fun _ => rfl⟩, HB9.out⟩
  · have hrf : r = false := by
      cases r
      · rfl
      · exact absurd (HR.out.1 rfl).1 ho
    subst hrf
    have d0 : (openE x 3 != 0) = true := by simpa using ho
    have HF := Lib.hid (HRO.out)
    rw [if_neg ho] at HF
    obtain ⟨z0, z1, z2, z3, z4⟩ := cells5 HZ1.out
    obtain ⟨u0, u1, u2, u3, u4⟩ := froz5 HZ1.out
    have HK9 := Lib.hid (Eid.set5_blk HZ1.out (.int .u64 0) (.int .u64 0) (.int .u64 0) (.int .i64 0) (.slice none 0 0))
    have HB9 := Lib.hid (Eid.set5_below HB1.out (Nat.le_succ _) (.int .u64 0) (.int .u64 0) (.int .u64 0) (.int .i64 0) (.slice none 0 0))
    generalize hW9 : Eid.set5 w1 (w.heap.size + 1) (.int .u64 0) (.int .u64 0) (.int .u64 0) (.int .i64 0) (.slice none 0 0) = W9 at HK9 HB9
    unfold Eid.set5 at hW9
    obtain ⟨q0, q1, q2, q3, q4⟩ := cells5 HK9.out
    clear HR HRO ho
    go_wp2_with fail
    try rw [hW9]
    exact bodyPost_ret (v := .tuple #[.agg zeroC5, .int .i64 (openE x 3)]) (by simp [results, Tryd.results17, go_sem, q0, q1, q2, q3, q4]) rfl ⟨HF.out _ _ ⟨fun e => (by cases e), fun _ => rfl⟩, HB9.out⟩
end Go.Proofs.YthknkdphofjmhaaDoor.Can
/- What must come of fixed calls, by the fixed calls' contracts: alive of layer 7. -/
namespace Go.Proofs.YthknkdphofjmhaaDoor.Can
open Go.RowKit Wd Cb Eid EncB Prim CbCopy CbList CbRight CbWrite CbSame CbRead CbShort CbLays CbOpen

theorem iff_true {p : Prop} (h : p) : (true = true) ↔ p := ⟨fun _ => h, fun _ => rfl⟩
theorem iff_false {p : Prop} (h : ¬ p) : (false = true) ↔ p := ⟨fun e => (by cases e), fun q => absurd q h⟩
/-- A block's own item, read. -/
theorem read_cw (b : Cbk) (hr : CRight b) (v : Value) (W : World) (hv : ItemV W 0 W.heap.size (cw b) v) (hT : Tabs W) (hS : Sz W) :
    Calls Tryd.prog 17 #[v] W fun e w' => ∃ A c, e = .returned (.tuple #[cval b A c, .int .i64 0]) ∧ b.dat.length ≤ c ∧ c ≤ maxLen ∧ Hid (Seg w' W.heap.size w'.heap.size A (u8s b.dat)) ∧ Below W.heap.size W w' := by
  obtain ⟨h1, h2⟩ := c_back hr
  obtain ⟨y1, y2, y3, y4, y5⟩ := cw_list hr
  refine (cread_any (cw b) v W hv (by omega) (by omega) hT hS true (iff_true h1)).mono ?_
  rintro e w' ⟨h, hb⟩
  have hh := h.1 rfl
  rw [h2] at hh
  obtain ⟨A, c, e1, e2, e3, e4⟩ := hh
  exact ⟨A, c, e1, e2, e3, e4, hb⟩
/-- A block that may be, written. -/
theorem write_cw (b : Cbk) (hb : b.ok) (hr : CRight b) (A : Option Addr) (c : Nat) (W : World) (hs : Lst W W.heap.size A (u8s b.dat)) (hc : b.dat.length ≤ c) (hm : c ≤ maxLen) (hT : Tabs W) (hS : Sz W) :
    Calls Tryd.prog 16 #[cval b A c] W fun e w' => ∃ g, e = .returned (.tuple #[listV (some ⟨g, 0, none⟩) (cw b).sub.length (cw b).sub.length, .int .i64 0]) ∧ Hid (ItemV w' W.heap.size w'.heap.size (cw b) (listV (some ⟨g, 0, none⟩) (cw b).sub.length (cw b).sub.length)) ∧ Below W.heap.size W w' := by
  obtain ⟨y1, y2, y3, y4, y5⟩ := cw_list hr
  refine (cwrite_any b hb A W.heap.size c W hs (Nat.le_refl _) hc hm hT hS true (iff_true hr)).mono ?_
  rintro e w' ⟨h, hb⟩
  obtain ⟨v, e1, hl⟩ := h.1 rfl
  have hi := hl.out.item y1 y2
  obtain ⟨g, rfl, -⟩ := hl.out
  exact ⟨g, e1, Lib.hid hi, hb⟩
theorem age_dat (n : Int) (h0 : 0 ≤ n) (h1 : n ≤ 1099511627776) : AgeD (enc (iN n)) n := ⟨⟨h0, h1⟩, iN_right n, iN_sane n h0 (by omega), rfl⟩
theorem age_only {n m : Int} (h0 : 0 ≤ n) (h1 : n ≤ 18446744073709551615) (h : AgeD (enc (iN n)) m) : m = n := by
  have e := says_one (by have := iN_len n; omega) (⟨iN_right n, iN_sane n h0 h1, rfl⟩ : Says (enc (iN n)) (iN n)) h.2
  injection e with _ e
  exact e.symm
theorem hops_dat (l c : Int) (h : 1 ≤ l ∧ l ≤ 255 ∧ 0 ≤ c ∧ c ≤ l) : HopsD (enc (iL (iN l) (iN c))) l c := ⟨h, iL_right l c, iL_sane l c (by omega) (by omega) (by omega) (by omega), rfl⟩
theorem hops_only {l c l' c' : Int} (h0 : 0 ≤ l ∧ l ≤ 18446744073709551615) (h1 : 0 ≤ c ∧ c ≤ 18446744073709551615) (h : HopsD (enc (iL (iN l) (iN c))) l' c') : l' = l ∧ c' = c := by
  have e := says_one (by have := iLL_len l c; omega) (⟨iL_right l c, iL_sane l c h0.1 h0.2 h1.1 h1.2, rfl⟩ : Says (enc (iL (iN l) (iN c))) (iL (iN l) (iN c))) h.2
  simp only [iL, iN, Itm.mk.injEq, List.cons.injEq] at e
  exact ⟨e.2.2.2.1.2.1.symm, e.2.2.2.2.1.2.1.symm⟩
theorem a1_right : CRight ⟨7, 3, 0, 2, enc (iN 500)⟩ := ⟨by decide +kernel, fun e => absurd e (by decide), fun _ => ⟨500, age_dat 500 (by decide) (by decide)⟩, fun e => absurd e (by decide)⟩
theorem a2_right : CRight ⟨10, 4, 0, 0, enc (iL (iN 9) (iN 2))⟩ := ⟨by decide +kernel, fun e => absurd e (by decide), fun e => absurd e (by decide), fun _ => ⟨9, 2, hops_dat 9 2 (by decide)⟩⟩
theorem a3_not : ¬ CRight (mblk 10 4 0 (iL (iN 9) (iN 10))) := fun h => by
  obtain ⟨l, c, hh⟩ := h.2.2.2 rfl
  obtain ⟨rfl, rfl⟩ := hops_only (by decide) (by decide) hh
  have := hh.1
  omega
theorem a1_str : enc (iN 500) = [25, 1, 244] := by decide +kernel
theorem a1_ok : (⟨7, 3, 0, 2, enc (iN 500)⟩ : Cbk).ok := ⟨by decide, by decide, by decide, by decide, by decide, by decide, by decide, by decide, by rw [a1_str]; intro x hx; simp at hx; omega⟩
theorem a2_bts : St.bts (enc (iL (iN 9) (iN 2))) := by rw [show enc (iL (iN 9) (iN 2)) = [130, 9, 2] by decide +kernel]; intro x hx; simp at hx; omega
theorem a1_pack : ∃ D : List Int, enc (iN 500) = D ∧ D = [25, 1, 244] := ⟨_, rfl, a1_str⟩
/-- The fixed calls of layer 7. -/
theorem a1_string : strOfNums [25, 1, 244] = ⟨#[25, 1, 244]⟩ := by decide +kernel
set_option maxRecDepth 100000 in
set_option maxHeartbeats 8000000 in
theorem alive07_any (w : World) (hT : Tabs w) (hS : Sz w) : Calls Tryd.prog 15 #[] w fun e w' => e = .returned (.bool true) ∧ Below w.heap.size w w' := by
  have HTW := Lib.hid (fun (W : World) (h : Below w.heap.size w W) => And.intro (hT.below h (Nat.le_refl _)) (hS.below h (Nat.le_refl _)))
  obtain ⟨D1, hD1, hE1⟩ := a1_pack
  obtain ⟨D2, hD2⟩ : ∃ D, enc (iL (iN 9) (iN 2)) = D := ⟨_, rfl⟩
  have CA : Hid (∀ W, Below w.heap.size w W → Calls Tryd.prog 22 #[.int .u64 3, .int .i64 2, .int .u64 500] W fun e w' => MadeO W w' ⟨7, 3, 0, 2, D1⟩ true e ∧ Below W.heap.size W w') := Lib.hid (fun W h => by rw [← hD1]; exact ofAge_any 3 2 500 W (by decide) (by decide) (HTW.out W h).1 true (iff_true a1_right))
  have CH : Hid (∀ W, Below w.heap.size w W → Calls Tryd.prog 24 #[.int .u64 4, .int .i64 0, .int .u64 9, .int .u64 2] W fun e w' => MadeO W w' ⟨10, 4, 0, 0, D2⟩ true e ∧ Below W.heap.size W w') := Lib.hid (fun W h => by rw [← hD2]; exact ofHops_any 4 0 9 2 W (by decide) (by decide) (HTW.out W h).1 true (iff_true a2_right))
  have CZ := Lib.hid (fun (W : World) (h : Below w.heap.size w W) => ofHops_any 4 0 9 10 W (by decide) (by decide) (HTW.out W h).1 false (iff_false a3_not))
  have R1 : Hid (CRight ⟨7, 3, 0, 2, D1⟩) := Lib.hid (by rw [← hD1]; exact a1_right)
  have R2 : Hid (CRight ⟨10, 4, 0, 0, D2⟩) := Lib.hid (by rw [← hD2]; exact a2_right)
  have O1 : Hid ((⟨7, 3, 0, 2, D1⟩ : Cbk).ok) := Lib.hid (by rw [← hD1]; exact a1_ok)
  have T2 : Hid (St.bts D2) := Lib.hid (by rw [← hD2]; exact a2_bts)
  have U1 : Hid (∀ m, AgeD D1 m → m = 500) := Lib.hid (fun m h => age_only (by decide) (by decide) (by rw [hD1]; exact h))
  have U2 : Hid (∀ l c, HopsD D2 l c → l = 9 ∧ c = 2) := Lib.hid (fun l c h => hops_only (by decide) (by decide) (by rw [hD2]; exact h))
  have HL1 : Hid (D1.length ≤ maxLen) := Lib.hid (by have := iN_len 500; rw [hD1] at this; unfold maxLen; omega)
  have HL2 : Hid (D2.length ≤ maxLen) := Lib.hid (by have := iLL_len 9 2; rw [hD2] at this; unfold maxLen; omega)
  have HSTR : Hid (strOfNums D1 = ⟨#[25, 1, 244]⟩) := Lib.hid (by rw [hE1]; exact a1_string)
  have HB0 := Lib.hid (Below.refl w.heap.size w)
  clear hT hS hD1 hD2 hE1
  go_enter Tryd.func15, Tryd.ntmps15
  go_wp2_with fail
  refine (CA.out w (Below.refl _ _)).mono ?_
  rintro e w1 ⟨HM, hb1⟩
  obtain ⟨A1, rfl, HSa⟩ := HM.1 rfl
  clear HM
  have Sa1 := HSa
  clear HSa
  have HB1 := Lib.hid (below_next HB0.out HB0.out.size hb1)
  clear hb1 HB0
  have hba := (Below.refl w1.heap.size w1).alloc (Nat.le_refl _) (.cells #[.int .u64 7, .int .u64 3, .int .u64 0, .int .i64 2, .slice A1 D1.length D1.length] 46)
  have HB2 := Lib.hid (below_next HB1.out HB1.out.size hba)
  have Sa2 := Lib.hid ((Sa1.out.below hba).more (Nat.le_refl _) hba.size)
  have Ka2 := Lib.hid (Blk.new w1 46 #[.int .u64 7, .int .u64 3, .int .u64 0, .int .i64 2, .slice A1 D1.length D1.length])
  clear hba HB1 Sa1
  go_upto_region 2 with (fail)
  generalize w1.alloc (.cells #[.int .u64 7, .int .u64 3, .int .u64 0, .int .i64 2, .slice A1 D1.length D1.length] 46) = w2 at *
  obtain ⟨k0, k1, k2, k3, k4⟩ := cells5 Ka2.out
  go_wp2_with fail
  refine (write_cw ⟨7, 3, 0, 2, D1⟩ O1.out R1.out A1 D1.length w2 (Sa2.out.more (Nat.zero_le _) (Nat.le_refl _)).lst (Nat.le_refl _) HL1.out (HTW.out _ HB2.out).1 (HTW.out _ HB2.out).2).mono ?_
  rintro e w3 ⟨g, rfl, Ix, hb3⟩
  have HB3 := Lib.hid (below_next HB2.out HB2.out.size hb3)
  have Ka3 := Lib.hid (Ka2.out.next hb3)
  have Sa3 := Lib.hid ((Sa2.out.below hb3).more (Nat.le_refl _) hb3.size)
  clear hb3 HB2 Ka2 Sa2
  clear k0 k1 k2 k3 k4
  have Ix3 := Lib.hid (Ix.out.more (Nat.zero_le _) (Nat.le_refl _))
  clear Ix
  generalize (cw ⟨7, 3, 0, 2, D1⟩).sub.length = nn at *
  have hba := (Below.refl w3.heap.size w3).alloc (Nat.le_refl _) (.cells #[.int .i64 4, .int .u64 0, .slice none 0 0, .slice (some ⟨g, 0, none⟩) nn nn] 26)
  have HB4 := Lib.hid (below_next HB3.out HB3.out.size hba)
  have Ka4 := Lib.hid (Ka3.out.next hba)
  have Sa4 := Lib.hid ((Sa3.out.below hba).more (Nat.le_refl _) hba.size)
  have Ix4 := Lib.hid ((Ix3.out.below hba).more (Nat.le_refl _) hba.size)
  have Kx4 := Lib.hid (Blk.new w3 26 #[.int .i64 4, .int .u64 0, .slice none 0 0, .slice (some ⟨g, 0, none⟩) nn nn])
  clear hba HB3 Ka3 Sa3 Ix3
  go_upto_region 3 with (fail)
  generalize w3.alloc (.cells #[.int .i64 4, .int .u64 0, .slice none 0 0, .slice (some ⟨g, 0, none⟩) nn nn] 26) = w4 at *
  obtain ⟨k0, k1, k2, k3⟩ := cells4 Kx4.out
  go_wp2_with fail
  refine (read_cw ⟨7, 3, 0, 2, D1⟩ R1.out _ w4 Ix4.out (HTW.out _ HB4.out).1 (HTW.out _ HB4.out).2).mono ?_
  rintro e w5 ⟨A2, c2, rfl, hl2, hm2, HSb, hb5⟩
  have HB5 := Lib.hid (below_next HB4.out HB4.out.size hb5)
  have Ka5 := Lib.hid (Ka4.out.next hb5)
  have Kx5 := Lib.hid (Kx4.out.next hb5)
  have Sa5 := Lib.hid ((Sa4.out.below hb5).more (Nat.le_refl _) hb5.size)
  have Ix5 := Lib.hid ((Ix4.out.below hb5).more (Nat.le_refl _) hb5.size)
  clear hb5 HB4 Ka4 Kx4 Sa4 Ix4
  clear k0 k1 k2 k3
  have Sb5 := HSb
  clear HSb Ix5 Kx5
  have HLB := Lib.hid (And.intro hl2 hm2)
  clear hl2 hm2
  have hba := (Below.refl w5.heap.size w5).alloc (Nat.le_refl _) (.cells #[.int .u64 7, .int .u64 3, .int .u64 0, .int .i64 2, .slice A2 D1.length c2] 46)
  have HB6 := Lib.hid (below_next HB5.out HB5.out.size hba)
  have Ka6 := Lib.hid (Ka5.out.next hba)
  have Sa6 := Lib.hid ((Sa5.out.below hba).more (Nat.le_refl _) hba.size)
  have Sb6 := Lib.hid ((Sb5.out.below hba).more (Nat.le_refl _) hba.size)
  have Kb6 := Lib.hid (Blk.new w5 46 #[.int .u64 7, .int .u64 3, .int .u64 0, .int .i64 2, .slice A2 D1.length c2])
  clear hba HB5 Ka5 Sa5 Sb5
  go_upto_region 4 with (fail)
  generalize w5.alloc (.cells #[.int .u64 7, .int .u64 3, .int .u64 0, .int .i64 2, .slice A2 D1.length c2] 46) = w6 at *
  obtain ⟨k0, k1, k2, k3, k4⟩ := cells5 Kb6.out
  go_wp2_with fail
  refine (ageOf_any ⟨7, 3, 0, 2, D1⟩ O1.out.d A2 w6.heap.size c2 w6 (Sb6.out.more (Nat.zero_le _) (Nat.le_refl _)).lst (Nat.le_refl _) HLB.out.1 HLB.out.2 (HTW.out _ HB6.out).1 true (iff_true R1.out)).mono ?_
  rintro e w7 ⟨HM, hb7⟩
  obtain ⟨m1, hm1, rfl⟩ := HM.1 ⟨rfl, rfl⟩
  obtain rfl := U1.out m1 hm1
  clear HM hm1
  have HB7 := Lib.hid (below_next HB6.out HB6.out.size hb7)
  have Ka7 := Lib.hid (Ka6.out.next hb7)
  have Kb7 := Lib.hid (Kb6.out.next hb7)
  have Sa7 := Lib.hid ((Sa6.out.below hb7).more (Nat.le_refl _) hb7.size)
  have Sb7 := Lib.hid ((Sb6.out.below hb7).more (Nat.le_refl _) hb7.size)
  clear hb7 HB6 Ka6 Kb6 Sa6 Sb6
  clear k0 k1 k2 k3 k4
  go_upto_region 5 with (fail)
  obtain ⟨k0, k1, k2, k3, k4⟩ := cells5 Kb7.out
  go_wp2_with fail
  refine (hopsOf_any ⟨7, 3, 0, 2, D1⟩ O1.out.d A2 w7.heap.size c2 w7 (Sb7.out.more (Nat.zero_le _) (Nat.le_refl _)).lst (Nat.le_refl _) HLB.out.1 HLB.out.2 (HTW.out _ HB7.out).1 true (iff_true R1.out)).mono ?_
  rintro e w8 ⟨HM, hb8⟩
  obtain rfl := HM.2 (fun h => absurd h.1 (show ¬ (7 : Int) = 10 by decide))
  clear HM
  have HB8 := Lib.hid (below_next HB7.out HB7.out.size hb8)
  have Ka8 := Lib.hid (Ka7.out.next hb8)
  have Kb8 := Lib.hid (Kb7.out.next hb8)
  have Sa8 := Lib.hid ((Sa7.out.below hb8).more (Nat.le_refl _) hb8.size)
  have Sb8 := Lib.hid ((Sb7.out.below hb8).more (Nat.le_refl _) hb8.size)
  clear hb8 HB7 Ka7 Kb7 Sa7 Sb7
  clear k0 k1 k2 k3 k4
  rw [show flt 7 10 true = 4 from rfl]
  go_wp2_with fail
  refine (CH.out w8 HB8.out).mono ?_
  rintro e w9 ⟨HM, hb9⟩
  obtain ⟨A3, rfl, HSc⟩ := HM.1 rfl
  clear HM
  have HB9 := Lib.hid (below_next HB8.out HB8.out.size hb9)
  have Ka9 := Lib.hid (Ka8.out.next hb9)
  have Kb9 := Lib.hid (Kb8.out.next hb9)
  have Sa9 := Lib.hid ((Sa8.out.below hb9).more (Nat.le_refl _) hb9.size)
  have Sb9 := Lib.hid ((Sb8.out.below hb9).more (Nat.le_refl _) hb9.size)
  clear hb9 HB8 Ka8 Kb8 Sa8 Sb8
  have Sc9 := HSc
  clear HSc
  have hba := (Below.refl w9.heap.size w9).alloc (Nat.le_refl _) (.cells #[.int .u64 10, .int .u64 4, .int .u64 0, .int .i64 0, .slice A3 D2.length D2.length] 46)
  have HB10 := Lib.hid (below_next HB9.out HB9.out.size hba)
  have Ka10 := Lib.hid (Ka9.out.next hba)
  have Kb10 := Lib.hid (Kb9.out.next hba)
  have Sa10 := Lib.hid ((Sa9.out.below hba).more (Nat.le_refl _) hba.size)
  have Sb10 := Lib.hid ((Sb9.out.below hba).more (Nat.le_refl _) hba.size)
  have Sc10 := Lib.hid ((Sc9.out.below hba).more (Nat.le_refl _) hba.size)
  have Kc10 := Lib.hid (Blk.new w9 46 #[.int .u64 10, .int .u64 4, .int .u64 0, .int .i64 0, .slice A3 D2.length D2.length])
  clear hba HB9 Ka9 Kb9 Sa9 Sb9 Sc9
  go_upto_region 7 with (fail)
  generalize w9.alloc (.cells #[.int .u64 10, .int .u64 4, .int .u64 0, .int .i64 0, .slice A3 D2.length D2.length] 46) = w10 at *
  obtain ⟨k0, k1, k2, k3, k4⟩ := cells5 Kc10.out
  go_wp2_with fail
  refine (hopsOf_any ⟨10, 4, 0, 0, D2⟩ T2.out A3 w10.heap.size D2.length w10 (Sc10.out.more (Nat.zero_le _) (Nat.le_refl _)).lst (Nat.le_refl _) (Nat.le_refl _) HL2.out (HTW.out _ HB10.out).1 true (iff_true R2.out)).mono ?_
  rintro e w11 ⟨HM, hb11⟩
  obtain ⟨m2, m3, hm2, rfl⟩ := HM.1 ⟨rfl, rfl⟩
  obtain ⟨rfl, rfl⟩ := U2.out m2 m3 hm2
  clear HM hm2
  have HB11 := Lib.hid (below_next HB10.out HB10.out.size hb11)
  have Ka11 := Lib.hid (Ka10.out.next hb11)
  have Kb11 := Lib.hid (Kb10.out.next hb11)
  have Kc11 := Lib.hid (Kc10.out.next hb11)
  have Sa11 := Lib.hid ((Sa10.out.below hb11).more (Nat.le_refl _) hb11.size)
  have Sb11 := Lib.hid ((Sb10.out.below hb11).more (Nat.le_refl _) hb11.size)
  have Sc11 := Lib.hid ((Sc10.out.below hb11).more (Nat.le_refl _) hb11.size)
  clear hb11 HB10 Ka10 Kb10 Kc10 Sa10 Sb10 Sc10
  clear k0 k1 k2 k3 k4
  clear Kc11 Sc11
  go_wp2_with fail
  refine (CZ.out w11 HB11.out).mono ?_
  rintro e w12 ⟨HM, hb12⟩
  obtain rfl := HM.2 rfl
  clear HM
  have HB12 := Lib.hid (below_next HB11.out HB11.out.size hb12)
  have Ka12 := Lib.hid (Ka11.out.next hb12)
  have Kb12 := Lib.hid (Kb11.out.next hb12)
  have Sa12 := Lib.hid ((Sa11.out.below hb12).more (Nat.le_refl _) hb12.size)
  have Sb12 := Lib.hid ((Sb11.out.below hb12).more (Nat.le_refl _) hb12.size)
  clear hb12 HB11 Ka11 Kb11 Sa11 Sb11
  have hba := (Below.refl w12.heap.size w12).alloc (Nat.le_refl _) (.cells #[.int .u64 0, .int .u64 0, .int .u64 0, .int .i64 0, .slice none 0 0] 46)
  have HB13 := Lib.hid (below_next HB12.out HB12.out.size hba)
  have Ka13 := Lib.hid (Ka12.out.next hba)
  have Kb13 := Lib.hid (Kb12.out.next hba)
  have Sa13 := Lib.hid ((Sa12.out.below hba).more (Nat.le_refl _) hba.size)
  have Sb13 := Lib.hid ((Sb12.out.below hba).more (Nat.le_refl _) hba.size)
  clear hba HB12 Ka12 Kb12 Sa12 Sb12
  go_upto_region 9 with (fail)
  generalize w12.alloc (.cells #[.int .u64 0, .int .u64 0, .int .u64 0, .int .i64 0, .slice none 0 0] 46) = w13 at *
  obtain ⟨k0, k1, k2, k3, k4⟩ := cells5 Ka13.out
  obtain ⟨j0, j1, j2, j3, j4⟩ := cells5 Kb13.out
  have cv := run_string (P := Tryd.prog) (Sa13.out.more (Nat.zero_le _) (Nat.le_refl _)).lst 23 5 9 Tryd.underlying23 Tryd.underlying5 Tryd.underlying9 D1.length
  rw [HSTR.out] at cv
  have CSm := Lib.hid (csame_any ⟨7, 3, 0, 2, D1⟩ ⟨7, 3, 0, 2, D1⟩ O1.out.d O1.out.d A1 A2 w13.heap.size D1.length c2 w13 (Sa13.out.more (Nat.zero_le _) (Nat.le_refl _)).lst (Sb13.out.more (Nat.zero_le _) (Nat.le_refl _)).lst (Nat.le_refl _))
  rw [(csame_iff ⟨7, 3, 0, 2, D1⟩ ⟨7, 3, 0, 2, D1⟩).2 rfl] at CSm
  go_wp2_with fail
  refine CSm.out.mono ?_
  rintro e wz ⟨rfl, hbz⟩
  have HBz := Lib.hid (below_next HB13.out HB13.out.size hbz)
  clear hbz
  go_wp2_with fail
  go_ret
  exact ⟨rfl, HBz.out⟩
end Go.Proofs.YthknkdphofjmhaaDoor.Can
/- Write, Read and the makers, whatever comes: one form for both ways. -/
namespace Go.Proofs.YthknkdphofjmhaaDoor.Can
open Go.RowKit Wd Cb Eid EncB Prim CbCopy CbList CbRight CbWrite CbSame CbRead CbShort CbLays CbOpen

abbrev zeroC : Cbk := ⟨0, 0, 0, 0, []⟩
theorem fit0 : fitF 0 = true := by decide +kernel
theorem zeroItem (w : World) : ItemV w 0 w.heap.size (iN 0) zeroV := numV 0 (by decide) (by decide)
/-- Write, in one form. -/
theorem uwrite_any (b : Cbk) (hb : b.ok) (A : Option Addr) (c : Nat) (w : World) (hs : Lst w w.heap.size A (u8s b.dat)) (hc : b.dat.length ≤ c) (hm : c ≤ maxLen) (hT : Tabs w) (hS : Sz w) (r : Bool) (hr : r = true ↔ CRight b) :
    Calls Tryd.prog 16 #[cval b A c] w fun e w' => ∃ (y : Itm) (A2 : Option Addr) (n2 c2 : Nat) (k ey : Int), e = .returned (.tuple #[.agg #[.int .i64 k, .int .u64 0, .slice none 0 0, .slice A2 n2 c2], .int .i64 ey]) ∧ Hid (ItemV w' 0 w'.heap.size y (.agg #[.int .i64 k, .int .u64 0, .slice none 0 0, .slice A2 n2 c2])) ∧ Hid (size y ≤ 1000 ∧ deep y ≤ 10 ∧ (enc y).length ≤ 1000) ∧ Hid (r = true → ey = 0 ∧ y = cw b) ∧ Hid (r = false → ey = 3) ∧ Below w.heap.size w w' := by
  refine (cwrite_any b hb A w.heap.size c w hs (Nat.le_refl _) hc hm hT hS r hr).mono ?_
  rintro e w' ⟨h, hb'⟩
  cases r
  · obtain rfl := h.2 rfl
    exact ⟨iN 0, none, 0, 0, 0, 3, rfl, Lib.hid (zeroItem w'), Lib.hid ⟨by decide, by decide, by have := iN_len 0; omega⟩, Lib.hid (fun e => by cases e), Lib.hid (fun _ => rfl), hb'⟩
  · obtain ⟨v, rfl, hl⟩ := h.1 rfl
    obtain ⟨y1, y2, y3, y4, y5⟩ := cw_list (hr.1 rfl)
    have hi := hl.out.item y1 y2
    obtain ⟨g, rfl, -⟩ := hl.out
    exact ⟨cw b, some ⟨g, 0, none⟩, _, _, 4, 0, rfl, Lib.hid (hi.more (Nat.zero_le _) (Nat.le_refl _)), Lib.hid ⟨y5, y4, y3⟩, Lib.hid (fun _ => ⟨rfl, rfl⟩), Lib.hid (fun e => by cases e), hb'⟩
theorem openE_cases (x : Itm) (a : Int) : openE x a = 0 ∨ openE x a = 3 ∨ openE x a = 10 := by
  unfold openE
  (repeat' split) <;> simp
/-- Read, in one form. -/
theorem uread_any (x : Itm) (v : Value) (w : World) (hv : ItemV w 0 w.heap.size x v) (hE : (enc x).length ≤ 900000000) (hd : deep x ≤ 50000) (hT : Tabs w) (hS : Sz w) (r : Bool) (hr : r = true ↔ crP x) :
    Calls Tryd.prog 17 #[v] w fun e w' => ∃ (z : Cbk) (A : Option Addr) (c : Nat) (ez : Int), e = .returned (.tuple #[cval z A c, .int .i64 ez]) ∧ Hid z.ok ∧ Hid (Lst w' w'.heap.size A (u8s z.dat)) ∧ Hid (z.dat.length ≤ c ∧ c ≤ maxLen) ∧ Hid (r = true → ez = 0 ∧ CRight z ∧ cw z = x) ∧ Hid (r = false → ez ≠ 0) ∧ Below w.heap.size w w' := by
  have hsn := EncB.sane_of hv
  refine (cread_any x v w hv hE hd hT hS r hr).mono ?_
  rintro e w' ⟨h, hb'⟩
  cases r
  · obtain rfl := h.2 rfl
    refine ⟨zeroC, none, 0, _, rfl, Lib.hid ⟨by decide, by decide, by decide, by decide, by decide, by decide, by decide, by decide, fun q hq => (by cases hq)⟩, Lib.hid (.inl rfl), Lib.hid ⟨Nat.le_refl _, by unfold maxLen; omega⟩, Lib.hid (fun e => by cases e), Lib.hid (fun _ => ?_), hb'⟩
    by_cases ho : openE x 3 = 0
    · rw [if_pos ho]
      decide
    · rw [if_neg ho]
      exact ho
  · obtain ⟨A, c, rfl, h1, h2, h3⟩ := h.1 rfl
    have hp := hr.1 rfl
    exact ⟨cguess (openL x 3), A, c, 0, rfl, Lib.hid (cguess_ok hsn hp.1), Lib.hid (h3.out.more (Nat.zero_le _) (Nat.le_refl _)).lst, Lib.hid ⟨h1, h2⟩, Lib.hid (fun _ => ⟨rfl, hp.2.2.1, hp.2.2.2⟩), Lib.hid (fun e => by cases e), hb'⟩
/-- What a maker tells, in one form. -/
def UMade (w' : World) (k n s : Int) (D : List Int) (r : Bool) (e : Ending) : Prop :=
  ∃ (z : Cbk) (A : Option Addr) (c : Nat) (ez : Int), e = .returned (.tuple #[cval z A c, .int .i64 ez]) ∧ Hid (St.bts z.dat) ∧ Hid (Lst w' w'.heap.size A (u8s z.dat)) ∧ Hid (z.dat.length ≤ c ∧ c ≤ maxLen) ∧ Hid (r = true → ez = 0 ∧ z = ⟨k, n, 0, s, D⟩) ∧ Hid (r = false → ez = 3 ∧ z.ty = 0)
theorem umade {w w' : World} {k n s : Int} {x : Itm} {r : Bool} {e : Ending} (h : MadeO w w' (mblk k n s x) r e) (hb : St.bts (enc x)) (hl : (enc x).length ≤ 1000000) : UMade w' k n s (enc x) r e := by
  cases r
  · obtain rfl := h.2 rfl
    exact ⟨zeroC, none, 0, 3, rfl, Lib.hid (fun q hq => (by cases hq)), Lib.hid (.inl rfl), Lib.hid ⟨Nat.le_refl _, by unfold maxLen; omega⟩, Lib.hid (fun e => by cases e), Lib.hid (fun _ => ⟨rfl, rfl⟩)⟩
  · obtain ⟨A, rfl, h1⟩ := h.1 rfl
    exact ⟨mblk k n s x, A, _, 0, rfl, Lib.hid hb, Lib.hid (h1.out.more (Nat.zero_le _) (Nat.le_refl _)).lst, Lib.hid ⟨Nat.le_refl _, by show (enc x).length ≤ maxLen; unfold maxLen; omega⟩, Lib.hid (fun _ => ⟨rfl, rfl⟩), Lib.hid (fun e => by cases e)⟩
theorem iN_bts (n : Int) (h0 : 0 ≤ n) (h1 : n ≤ 18446744073709551615) : St.bts (enc (iN n)) := EncB.enc_bts _ (iN_fine n) (iN_sane n h0 h1) (by have := iN_len n; omega)
theorem iLL_bts (l c : Int) (h0 : 0 ≤ l ∧ l ≤ 18446744073709551615) (h1 : 0 ≤ c ∧ c ≤ 18446744073709551615) : St.bts (enc (iL (iN l) (iN c))) := EncB.enc_bts _ (EncB.right_fine (iL_right l c)) (iL_sane l c h0.1 h0.2 h1.1 h1.2) (by have := iLL_len l c; omega)
/-- When a made block may be. -/
theorem age_right (no sm n : Int) (hno : 1 ≤ no ∧ no ≤ 255) (hsm : 0 ≤ sm ∧ sm ≤ 2) (h0 : 0 ≤ n) (h1 : n ≤ 18446744073709551615) : CRight (mblk 7 no sm (iN n)) ↔ n ≤ 1099511627776 := by
  refine ⟨fun h => ?_, fun h => ⟨?_, fun e => absurd e (show ¬ (7 : Int) = 6 by decide), fun _ => ⟨n, age_dat n h0 h⟩, fun e => absurd e (show ¬ (7 : Int) = 10 by decide)⟩⟩
  · obtain ⟨m, hm⟩ := h.2.2.1 rfl
    obtain rfl := age_only h0 h1 hm
    exact hm.1.2
  · have := iN_len n
    unfold cfit
    rw [show fitF (mblk 7 no sm (iN n)).fl = true from fit0]
    simp only [mblk, Bool.true_and, Bool.and_eq_true, decide_eq_true_eq]
    omega
theorem hops_right (no sm l c : Int) (hno : 1 ≤ no ∧ no ≤ 255) (hsm : 0 ≤ sm ∧ sm ≤ 2) (h0 : 0 ≤ l ∧ l ≤ 18446744073709551615) (h1 : 0 ≤ c ∧ c ≤ 18446744073709551615) : CRight (mblk 10 no sm (iL (iN l) (iN c))) ↔ (1 ≤ l ∧ l ≤ 255) ∧ c ≤ l := by
  refine ⟨fun h => ?_, fun h => ⟨?_, fun e => absurd e (show ¬ (10 : Int) = 6 by decide), fun e => absurd e (show ¬ (10 : Int) = 7 by decide), fun _ => ⟨l, c, hops_dat l c ⟨h.1.1, h.1.2, h1.1, h.2⟩⟩⟩⟩
  · obtain ⟨l', c', hm⟩ := h.2.2.2 rfl
    obtain ⟨rfl, rfl⟩ := hops_only h0 h1 hm
    exact ⟨⟨hm.1.1, hm.1.2.1⟩, hm.1.2.2.2⟩
  · have := iLL_len l c
    unfold cfit
    rw [show fitF (mblk 10 no sm (iL (iN l) (iN c))).fl = true from fit0]
    simp only [mblk, Bool.true_and, Bool.and_eq_true, decide_eq_true_eq]
    omega
theorem itemOf_sane (x : Nm) (hx : x.ok) : sane (itemOf x) := by
  unfold itemOf
  split
  · exact ⟨by omega, fun _ h => (by cases h), ⟨by omega, fun _ h => (by cases h), trivial⟩, ⟨by omega, fun _ h => (by cases h), trivial⟩, trivial⟩
  · split
    · exact ⟨by omega, fun _ h => (by cases h), ⟨by omega, fun _ h => (by cases h), trivial⟩, ⟨by omega, fun _ h => (by cases h), ⟨⟨hx.n0, hx.n1⟩, fun _ h => (by cases h), trivial⟩, ⟨⟨hx.s0, hx.s1⟩, fun _ h => (by cases h), trivial⟩, trivial⟩, trivial⟩
    · exact ⟨by omega, fun _ h => (by cases h), ⟨by omega, fun _ h => (by cases h), trivial⟩, ⟨by omega, CbCopy.nums_bts _, trivial⟩, trivial⟩
theorem itemOf_bts (x : Nm) (hx : x.ok) (hr : right x = true) : St.bts (enc (itemOf x)) := EncB.enc_bts _ (itemOf_fine x hr) (itemOf_sane x hx) (by have := itemOf_len x hr; omega)
theorem nameI_bts (x : Nm) (hx : x.ok) : St.bts (enc (nameI x)) := by
  unfold nameI
  split
  · exact itemOf_bts x hx ‹_›
  · exact iN_bts 0 (by decide) (by decide)
theorem name_only {x n : Nm} (hx : x.ok) (h : NameD (enc (nameI x)) n) : n = x := by
  have hs : Says (enc (nameI x)) (nameI x) := by
    refine ⟨nameI_right x, ?_, rfl⟩
    unfold nameI
    split
    · exact itemOf_sane x hx
    · exact sane_zero
  have e := says_one (by have := nameI_len x; omega) hs h.2.2
  unfold nameI at e
  split at e
  · rename_i hr
    have h1 := (item_name x hr).2
    have h2 := (item_name n h.1).2
    rw [← e, h1] at h2
    exact h2.symm
  · exfalso
    have h3 := (item_name n h.1).1
    rw [← e] at h3
    simp [rdOk, Itm.sub] at h3
end Go.Proofs.YthknkdphofjmhaaDoor.Can
