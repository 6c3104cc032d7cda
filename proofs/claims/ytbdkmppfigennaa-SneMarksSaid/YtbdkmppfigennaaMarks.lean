/- The walk of the law that takes marks Seq by Seq. -/
import Derived.Test.YtbdkmppfigennaaSame
import Derived.LoopTactic
namespace Go.Proofs.Ytbdkmppfigennaa
open Go.RowKit

theorem mk_other {w : World} {b c : Nat} {n k : Int} (h : Mk w c n) (hne : c ≠ b) : Mk (w.setCell ⟨b, 0, none⟩ (.int .i64 k)) c n := by
  have e : (w.setCell ⟨b, 0, none⟩ (.int .i64 k)).heap[c]? = w.heap[c]? := Below.heap_setCell _ _ _ _ hne
  exact ⟨by simpa using h.lt, (World.cell?_of_block (w := w) (a := ⟨c, 0, none⟩) e).trans h.c0, (World.cell?_of_block (w := w) (a := ⟨c, 1, none⟩) e).trans h.c1, (World.frozen?_of_block (w := w) (a := ⟨c, 0, none⟩) e).trans h.fz⟩

/-- the greater one of two -/
def top2 (n k : Int) : Int := if n < k then k else n

theorem take_two (b c : Nat) (n seq : Int) (w : World) (h : Mk w b n) (hc : Mk w c n) (hne : c ≠ b) (hs : 0 ≤ seq) (hs1 : seq < 4294967296) (hn : 0 ≤ n) (hn1 : n ≤ 4611686018427387904) (hf : near seq n ≤ 4611686018427387904) :
    Calls Try.prog 16 #[.pointer (some ⟨b, 0, none⟩), .int .u32 seq] w fun e w' => e = .returned (.tuple #[.int .i64 (near seq n), .int .i64 0]) ∧ Mk w' b (top2 n (near seq n)) ∧ Mk w' c n ∧ Below b w w' :=
  (take_any b n seq w h.lt h.c0 h.c1 h.fz hs hs1 hn hn1 hf).mono fun _ _ ⟨he, _, hb, hw⟩ =>
    have e : (if n ≤ near seq n then near seq n else n) = top2 n (near seq n) := by unfold top2; split <;> split <;> omega
    ⟨he, hw ▸ e ▸ mk_set (h.below hb h.lt) _, hw ▸ mk_other (hc.below hb hc.lt) hne, hw ▸ (hb.mono (Nat.le_of_lt h.lt)).setCell (Nat.le_refl _) _⟩

theorem near_step (seq to : Int) (hs : 0 ≤ seq) (hs1 : seq < 4294967296) (h0 : 0 ≤ to) : 0 ≤ near seq to ∧ (near seq to ≤ to + 2147483648 ∨ near seq to < 4294967296) := by
  unfold near below base far; omega

theorem keep {w w' : World} {B b o : Nat} {v : Value} (hb : Below B w w') (hB : b < B) (h : w.cell? ⟨b, o, none⟩ = some v) : w'.cell? ⟨b, o, none⟩ = some v := (hb.cell (p := ⟨b, o, none⟩) hB).trans h

set_option maxHeartbeats 4000000 in
set_option maxRecDepth 100000 in
theorem marks_walk (isn : Int) (b1 o1 c1 b2 o2 c2 n1 n2 : Nat) (L : Nat → Int) (T : Nat → Bool) (w : World) (hi : 0 ≤ isn) (hi1 : isn < 4294967296)
    (h1 : n1 ≤ 60) (h2 : n1 ≤ n2) (h3 : n2 ≤ 100) (hb1 : b1 < w.heap.size) (hb2 : b2 < w.heap.size)
    (hL : ∀ i, i < n1 → w.cell? ⟨b1, o1 + i, none⟩ = some (.int .u32 (L i))) (hLb : ∀ i, i < n1 → 0 ≤ L i ∧ L i < 4294967296)
    (hT : ∀ i, i < n2 → w.cell? ⟨b2, o2 + i, none⟩ = some (.bool (T i))) :
    Calls Try.prog 5 #[.int .u32 isn, .slice (some ⟨b1, o1, none⟩) n1 c1, .slice (some ⟨b2, o2, none⟩) n2 c2] w fun e w' => e = .returned (.bool true) ∧ Below w.heap.size w w' := by
  have k1 : ¬ (60 : Int) < (n1 : Int) := by omega
  have k2 : ¬ (n2 : Int) < (n1 : Int) := by omega
  have k3 : ¬ (100 : Int) < (n2 : Int) := by omega
  have HL := Lib.hid hL; clear hL
  have HLb := Lib.hid hLb; clear hLb
  have HT := Lib.hid hT; clear hT
  go_enter Try.func5, Try.ntmps5
  go_wp2_with fail
  (with_reducible refine (new_mk _ _ hi hi1).mono ?_); rintro e w1 ⟨rfl, m1, b1'⟩
  go_wp2_with fail
  go_loopw [8, 9] (fun at' i wr => ∃ (k : Nat) (a : Int), k ≤ n1 ∧ i = .int .i64 k ∧ at' = .int .i64 a ∧ 0 ≤ a ∧ a ≤ 4294967296 + (k : Int) * 2147483648 ∧ Mk wr w.heap.size a ∧ Below w.heap.size w wr) (fun _ i _ => n1 - (intOf i).toNat)
  case atStart => exact ⟨0, isn, by omega, rfl, rfl, hi, by omega, m1, b1'⟩
  case round =>
    obtain ⟨k, a, hk, rfl, rfl, ha, ha1, mm, bw⟩ := hrel
    by_cases hlt : k < n1
    · obtain ⟨l0, l1⟩ := HLb.out k hlt
      have cl := keep bw hb1 (HL.out k hlt)
      have ct := keep bw hb2 (HT.out k (by omega))
      have F := Lib.hid (show a ≤ 4611686018427387904 by omega)
      have ns := near_step (L k) a l0 l1 ha
      have G := Lib.hid (show near (L k) a ≤ 4611686018427387904 by omega)
      have R := Lib.hid (near_rb (L k) a l0 l1 ha F.out)
      clear m1 b1'
      go_wp2_with fail
      (with_reducible refine (ref_any _ _ _ l0 l1 ha F.out).mono ?_); rintro e w2 ⟨he, rfl⟩; rw [R.out] at he; obtain rfl := told_lo_eq G.out he; clear he
      go_wp2_with fail
      (with_reducible refine (copy_mk _ _ _ mm).mono ?_); rintro e w3 ⟨rfl, mc3, mm3, b3⟩
      have bw3 := bw.trans (b3.mono bw.size)
      have cl3 := keep bw3 hb1 (HL.out k hlt)
      go_wp2_with fail
      (with_reducible refine (look_mk _ _ _ _ mc3 l0 l1 ha F.out).mono ?_); rintro e w4 ⟨he, mc4, b4⟩; obtain rfl := told_lo_eq G.out he; clear he
      have mm4 := mm3.below b4 mm3.lt
      have bw4 := bw3.trans (b4.mono bw3.size)
      go_wp2_with fail
      (with_reducible refine (value_mk _ _ _ mc4).mono ?_); rintro e w5 ⟨rfl, mc5, b5⟩
      have mm5 := mm4.below b5 mm4.lt
      have bw5 := bw4.trans (b5.mono bw4.size)
      go_wp2_with fail
      (with_reducible refine (same_eq _ _ _ _ mc5 mm5).mono ?_); rintro e w6 ⟨rfl, b6⟩
      have mm6 := mm5.below b6 mm5.lt
      have mc6 := mc5.below b6 mc5.lt
      have bw6 := bw5.trans (b6.mono bw5.size)
      have ct6 := keep bw6 hb2 (HT.out k (by omega))
      have cl6 := keep bw6 hb1 (HL.out k hlt)
      have hne : wr.heap.size ≠ w.heap.size := by have := mm.lt; omega
      clear mc3 mm3 b3 bw3 cl3 mc4 mm4 b4 bw4 mc5 mm5 b5 bw5 b6 cl ct
      cases hT : T k with
      | false =>
        rw [hT] at ct6
        go_wp2_with fail
        (with_reducible refine (value_mk _ _ _ mm6).mono ?_); rintro e wz ⟨rfl, mz, bz⟩
        have bwz := bw6.trans (bz.mono bw6.size)
        go_wp2_with fail
        go_roundw
        case rel => exact ⟨k + 1, a, by omega, by go_num, rfl, by omega, by omega, mz, bwz⟩
        case measure => simp [intOf]; omega
      | true =>
        rw [hT] at ct6
        go_wp2_with fail
        (with_reducible refine (take_two _ _ _ _ _ mm6 mc6 hne l0 l1 ha F.out G.out).mono ?_); rintro e w7 ⟨rfl, mm7', mc7, b7⟩
        have bw7 := bw6.trans b7
        clear mm6 mc6 b7 ct6 cl6
        by_cases hg : a < near (L k) a
        · have E := Lib.hid (show top2 a (near (L k) a) = near (L k) a by unfold top2; rw [if_pos hg])
          have mm7 := E.out ▸ mm7'
          clear mm7'
          go_wp2_with fail
          (with_reducible refine (same_ne _ _ _ _ _ mc7 mm7 (by omega)).mono ?_); rintro e w8 ⟨rfl, b8⟩
          have mm8 := mm7.below b8 mm7.lt
          have mc8 := mc7.below b8 mc7.lt
          have bw8 := bw7.trans (b8.mono bw7.size)
          go_wp2_with fail
          (with_reducible refine (value_mk _ _ _ mc8).mono ?_); rintro e w9 ⟨rfl, mc9, b9⟩
          have mm9 := mm8.below b9 mm8.lt
          have bw9 := bw8.trans (b9.mono bw8.size)
          have hne2 : (a == near (L k) a) = false := by simp; omega
          go_wp2_with fail
          (with_reducible refine (value_mk _ _ _ mm9).mono ?_); rintro e wz ⟨rfl, mz, bz⟩
          have bwz := bw9.trans (bz.mono bw9.size)
          go_wp2_with fail
          go_roundw
          case rel => exact ⟨k + 1, near (L k) a, by omega, by go_num, rfl, by omega, by omega, mz, bwz⟩
          case measure => simp [intOf]; omega
        · have E := Lib.hid (show top2 a (near (L k) a) = a by unfold top2; rw [if_neg hg])
          have mm7 := E.out ▸ mm7'
          clear mm7'
          go_wp2_with fail
          (with_reducible refine (same_eq _ _ _ _ mc7 mm7).mono ?_); rintro e w8 ⟨rfl, b8⟩
          have mm8 := mm7.below b8 mm7.lt
          have mc8 := mc7.below b8 mc7.lt
          have bw8 := bw7.trans (b8.mono bw7.size)
          go_wp2_with fail
          (with_reducible refine (value_mk _ _ _ mc8).mono ?_); rintro e w9 ⟨rfl, mc9, b9⟩
          have mm9 := mm8.below b9 mm8.lt
          have bw9 := bw8.trans (b9.mono bw8.size)
          go_wp2_with fail
          (with_reducible refine (value_mk _ _ _ mm9).mono ?_); rintro e wz ⟨rfl, mz, bz⟩
          have bwz := bw9.trans (bz.mono bw9.size)
          go_wp2_with fail
          go_roundw
          case rel => exact ⟨k + 1, a, by omega, by go_num, rfl, by omega, by omega, mz, bwz⟩
          case measure => simp [intOf]; omega
    · have hd : (n1 : Int) ≤ (k : Int) := by omega
      go_wp2_with fail
      (with_reducible refine (known_any _).mono ?_); rintro e w2 ⟨rfl, b2⟩
      go_wp2_with fail
      go_ret
      exact ⟨rfl, bw.trans (b2.mono bw.size)⟩
end Go.Proofs.Ytbdkmppfigennaa
