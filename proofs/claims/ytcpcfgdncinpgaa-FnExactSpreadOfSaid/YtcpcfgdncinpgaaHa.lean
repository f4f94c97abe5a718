/- What a law holds: entries, each with the blocks it lies in, apart from one another. Lists of floats and of integers anywhere in a block. -/
import Derived.Test.YtcpcfgdncinpgaaJa
set_option linter.unusedVariables false
set_option linter.unusedSimpArgs false
namespace Go.Proofs.Ytcpcfgdncinpgaa
namespace Fl
/-- an entry: what it says of a world, and the blocks that it speaks of -/
structure En where
  P : World → Prop
  S : Nat → Prop
/-- it lies in blocks of the law's own, from B on, and speaks of these alone -/
def Ge (B : Nat) (w : World) (e : En) : Prop := e.P w ∧ (∀ w w' : World, (∀ g, e.S g → w'.heap[g]? = w.heap[g]?) → e.P w → e.P w') ∧ ∀ g, e.S g → B ≤ g ∧ g < w.heap.size
section
variable {B : Nat} {v v' : World} {p q : En} {r : List En}
theorem Ge.keep (h : Ge B v p) (hs : ∀ g, p.S g → v'.heap[g]? = v.heap[g]?) (hz : v.heap.size ≤ v'.heap.size) : Ge B v' p :=
  ⟨h.2.1 v v' hs h.1, h.2.1, fun g hg => ⟨(h.2.2 g hg).1, Nat.lt_of_lt_of_le (h.2.2 g hg).2 hz⟩⟩
theorem Ge.since (h : Ge B v p) (hs : v.Since v.heap.size v') : Ge B v' p := h.keep (fun g hg => hs.block g (h.2.2 g hg).2) hs.size
theorem Ge.less {b : Nat} (h : Ge B v p) (hb : b ≤ B) : Ge b v p := ⟨h.1, h.2.1, fun g hg => ⟨Nat.le_trans hb (h.2.2 g hg).1, (h.2.2 g hg).2⟩⟩
/-- two entries lie in different blocks -/
def De (p q : En) : Prop := ∀ g, p.S g → q.S g → False
theorem De.symm (h : De p q) : De q p := fun g a b => h g b a
def He (B : Nat) (v : World) : List En → Prop
  | [] => True
  | p :: r => (Ge B v p ∧ ∀ q ∈ r, De p q) ∧ He B v r
theorem He.at_ : ∀ {r : List En} (h : He B v r) {p : En}, p ∈ r → Ge B v p
  | _ :: _, h, _, .head _ => h.1.1
  | _ :: _, h, _, .tail _ hp => He.at_ h.2 hp
theorem He.since : ∀ {r : List En} (h : He B v r) (hs : v.Since v.heap.size v'), He B v' r
  | [], _, _ => trivial
  | _ :: _, h, hs => ⟨⟨h.1.1.since hs, h.1.2⟩, He.since h.2 hs⟩
theorem He.less {b : Nat} : ∀ {r : List En} (h : He B v r) (hb : b ≤ B), He b v r
  | [], _, _ => trivial
  | _ :: _, h, hb => ⟨⟨h.1.1.less hb, h.1.2⟩, He.less h.2 hb⟩
theorem He.new (h : He B v r) (hs : v.Since v.heap.size v') (g : Ge v.heap.size v' p) (hB : B ≤ v.heap.size) : He B v' (p :: r) :=
  ⟨⟨g.less hB, fun q hq b h1 h2 => by
    have h3 := (g.2.2 b h1).1
    have h4 := ((h.at_ hq).2.2 b h2).2
    omega⟩, h.since hs⟩
theorem He.new2 (h : He B v r) (hs : v.Since v.heap.size v') (g : Ge v.heap.size v' p) (k : Ge v.heap.size v' q) (hd : De p q) (hB : B ≤ v.heap.size) : He B v' (p :: q :: r) := by
  have h1 := h.new hs g hB
  have h2 := h.new hs k hB
  refine ⟨⟨h1.1.1, fun s hs => ?_⟩, h2⟩
  rcases List.mem_cons.1 hs with rfl | hs
  · exact hd
  · exact h1.1.2 s hs
theorem He.mark_hd {p' : En} (h : He B v (p :: r)) (g : Ge B v' p') (hS : p'.S = p.S) (ho : ∀ g, ¬ p.S g → v'.heap[g]? = v.heap[g]?) (hz : v.heap.size ≤ v'.heap.size) : He B v' (p' :: r) := by
  refine ⟨⟨g, fun q hq b h1 h2 => h.1.2 q hq b (hS ▸ h1) h2⟩, ?_⟩
  have hd := h.1.2
  have ht := h.2
  clear h
  induction r with
  | nil => trivial
  | cons q r ih =>
    refine ⟨⟨?_, ht.1.2⟩, ih (fun q' hq' => hd q' (.tail _ hq')) ht.2⟩
    exact ht.1.1.keep (fun b hb => ho b fun hp => hd q (.head _) b hp hb) hz
theorem He.swap (h : He B v (p :: q :: r)) : He B v (q :: p :: r) := by
  obtain ⟨⟨h1, h2⟩, ⟨h3, h4⟩, h5⟩ := h
  refine ⟨⟨h3, fun s hs => ?_⟩, ⟨h1, fun s hs => h2 s (.tail _ hs)⟩, h5⟩
  rcases List.mem_cons.1 hs with rfl | hs
  · exact (h2 q (.head _)).symm
  · exact h4 s hs
theorem He.front {l : List En} : ∀ (k : List En), He B v (k ++ p :: l) → He B v (p :: (k ++ l))
  | [], h => h
  | q :: k, h => by
    have h2 : He B v (p :: (k ++ l)) := He.front k h.2
    have h3 : He B v (q :: p :: (k ++ l)) := ⟨⟨h.1.1, fun s hs => h.1.2 s (by
      rcases List.mem_cons.1 hs with rfl | hs
      · simp
      · rcases List.mem_append.1 hs with h4 | h4
        · simp [h4]
        · simp [h4])⟩, h2⟩
    exact h3.swap
end
/-- cells of one block: their type, where they begin, how many, what they are -/
def ce (T : TypeId) (A : Option Addr) (n : Nat) (f : Nat → Value) (ok : Prop) : En :=
  ⟨fun w => ok ∧ (0 < n → ∃ g off cs, A = some ⟨g, off, none⟩ ∧ w.heap[g]? = some (.cells cs T (0, 0)) ∧ ∀ k, k < n → cs[off + k]? = some (f k)), fun g => 0 < n ∧ ∃ off, A = some ⟨g, off, none⟩⟩
theorem ce_frame {T : TypeId} {A : Option Addr} {n : Nat} {f : Nat → Value} {ok : Prop} (w w' : World) (h : ∀ g, (ce T A n f ok).S g → w'.heap[g]? = w.heap[g]?) (hp : (ce T A n f ok).P w) : (ce T A n f ok).P w' :=
  ⟨hp.1, fun hn => by
    obtain ⟨g, off, cs, e, hb, hc⟩ := hp.2 hn
    exact ⟨g, off, cs, e, (h g ⟨hn, off, e⟩).trans hb, hc⟩⟩
theorem ce_ge {T : TypeId} {A : Option Addr} {n B : Nat} {f : Nat → Value} {ok : Prop} {w : World} (ho : ok) (h : 0 < n → ∃ g off cs, A = some ⟨g, off, none⟩ ∧ B ≤ g ∧ w.heap[g]? = some (.cells cs T (0, 0)) ∧ ∀ k, k < n → cs[off + k]? = some (f k)) : Ge B w (ce T A n f ok) :=
  ⟨⟨ho, fun hn => by obtain ⟨g, off, cs, e, _, hb, hc⟩ := h hn; exact ⟨g, off, cs, e, hb, hc⟩⟩, ce_frame, fun g ⟨hn, off, e⟩ => by
    obtain ⟨g', off', cs, e', hB, hb, hc⟩ := h hn
    rw [e] at e'
    injection e' with e'
    injection e' with e' _ _
    subst e'
    exact ⟨hB, (Array.getElem?_eq_some_iff.1 hb).1⟩⟩
theorem Ge.ce {T : TypeId} {A : Option Addr} {n B : Nat} {f : Nat → Value} {ok : Prop} {w : World} (h : Ge B w (ce T A n f ok)) (hn : 0 < n) : ∃ g off cs, A = some ⟨g, off, none⟩ ∧ B ≤ g ∧ g < w.heap.size ∧ w.heap[g]? = some (.cells cs T (0, 0)) ∧ ∀ k, k < n → cs[off + k]? = some (f k) := by
  obtain ⟨g, off, cs, e, hb, hc⟩ := h.1.2 hn
  have := h.2.2 g ⟨hn, off, e⟩
  exact ⟨g, off, cs, e, this.1, this.2, hb, hc⟩
def fe (A : Option Addr) (n : Nat) (xs : List Nat) : En := ce 23 A n (fv xs) (xs.length = n ∧ Small xs)
def ie (A : Option Addr) (n : Nat) (xs : List Int) : En := ce 2 A n (iv xs) (xs.length = n)
theorem Gs.toE {w : World} {lo n : Nat} {A : Option Addr} {xs : List Nat} (h : Gs 23 w lo A n xs) : Ge lo w (fe A n xs) :=
  ce_ge ⟨h.1, h.2.1⟩ fun hn => by
    obtain ⟨g, cs, e, hg, hb, hc⟩ := h.2.2 hn
    exact ⟨g, 0, cs, e, hg, hb, fun k hk => by rw [Nat.zero_add]; exact hc k hk⟩
theorem IGs.toE {w : World} {lo n : Nat} {A : Option Addr} {xs : List Int} (h : IGs 2 w lo A n xs) : Ge lo w (ie A n xs) :=
  ce_ge h.1 fun hn => by
    obtain ⟨g, cs, e, hg, hb, hc⟩ := h.2 hn
    exact ⟨g, 0, cs, e, hg, hb, fun k hk => by rw [Nat.zero_add]; exact hc k hk⟩
theorem Ge.readF {w : World} {lo n : Nat} {A : Option Addr} {xs : List Nat} (h : Ge lo w (fe A n xs)) : Fs w w.heap.size A n xs :=
  ⟨h.1.1.1, h.1.1.2, fun hn => by
    obtain ⟨g, off, cs, e, hg, hl, hb, hc⟩ := h.ce hn
    refine ⟨g, off, e, hl, fun k hk => ?_⟩
    simp only [World.cell?, hb]
    simpa using hc k hk⟩
theorem Ge.readI {w : World} {lo n : Nat} {A : Option Addr} {xs : List Int} (h : Ge lo w (ie A n xs)) : Is w w.heap.size A n xs :=
  ⟨h.1.1, fun hn => by
    obtain ⟨g, off, cs, e, hg, hl, hb, hc⟩ := h.ce hn
    refine ⟨g, off, e, hl, fun k hk => ?_⟩
    simp only [World.cell?, hb]
    simpa using hc k hk⟩
end Fl
open Fl Go.RowKit
theorem toFE_any (A : Option Addr) (n c : Nat) (xs : List Nat) (W v : World) (h : Fs W W.heap.size A n xs) (s : W.Since W.heap.size v) (hn : n ≤ 1048576) :
    Calls Try.prog 16 #[.slice A n c] v fun e v' => e = .returned (.slice (some ⟨v.heap.size, 0, none⟩) n n) ∧ Ge v.heap.size v' (fe (some ⟨v.heap.size, 0, none⟩) n xs) ∧ v.Since v.heap.size v' :=
  (toL_any A n c xs W v h s hn).mono fun e v' ⟨he, hr, hs⟩ => ⟨he, hr.toE, hs⟩
set_option maxHeartbeats 4000000 in
/-- a loop that marks cells one by one, whatever their kind -/
theorem markFE_any (A : Option Addr) (n : Nat) (xs : List Nat) (c k0 : Nat) (K : Int) (v : World) (B : Nat) (r : List En) (h : He B v (fe A n xs :: r)) (hn : n ≤ 1048576) (hk0 : k0 ≤ 1073741824) (hK : K = (k0 : Nat)) :
    Calls Try.prog 23 #[.slice A n c, .int .i64 K] v fun e v' => e = .returned (.int .i64 ((k0 + n : Nat) : Int)) ∧ He B v' (fe A n (mk k0 n) :: r) ∧ v.Since B v' := by
  subst hK
  by_cases hpos : 0 < n
  · obtain ⟨g, off, cs, rfl, hg, hgl, hb, hc⟩ := h.1.1.ce hpos
    have HB := Lib.hid hb
    have HC := Lib.hid hc
    have HH := Lib.hid h
    clear hb hc h
    go_enter Try.func23, Try.ntmps23
    go_wp2
    go_loopw [1, 5] (fun kv i wr => ∃ k : Nat, k ≤ n ∧ i = .int .i64 k ∧ kv = .int .i64 (k0 + k : Nat) ∧ (∃ cs', wr.heap[g]? = some (.cells cs' 23 (0, 0)) ∧ ∀ j, j < n → cs'[off + j]? = some (marked k0 xs k j)) ∧ wr.heap.size = v.heap.size ∧ v.Since B wr ∧ (∀ b, b ≠ g → wr.heap[b]? = v.heap[b]?)) (fun _ i _ => n - (intOf i).toNat)
    case atStart => exact ⟨0, Nat.zero_le _, rfl, rfl, ⟨cs, HB.out, fun j hj => by unfold marked; rw [if_neg (by omega)]; exact HC.out j hj⟩, rfl, World.Since.refl _ _, fun _ _ => rfl⟩
    case round =>
      obtain ⟨k, hk, rfl, rfl, ⟨cs', hb', hc'⟩, hsz, hs, hoth⟩ := hrel
      have HB' := Lib.hid hb'
      have HC' := Lib.hid hc'
      have HZ := Lib.hid hsz
      have HS := Lib.hid hs
      have HO := Lib.hid hoth
      clear hb' hc' hsz hs hoth
      by_cases hlt : k < n
      · have hcell : wr.cell? ⟨g, off + k, none⟩ = some (marked k0 xs k k) := by
          simp only [World.cell?, HB'.out]
          simpa using HC'.out k hlt
        have hfr : wr.frozen? ⟨g, off + k, none⟩ = false := by simp [World.frozen?, HB'.out]
        go_wp2
        go_roundw
        case rel =>
          refine ⟨k + 1, by omega, by go_num, by go_num, ⟨cs'.setIfInBounds (off + k) (.float .f32 (floatOfInt .f32 ((k0 + k : Nat) : Int))), ?_, fun j hj => ?_⟩, by rw [Go.Deep.nblk_setCell]; exact HZ.out, HS.out.setCell hg _, fun b hb => ?_⟩
          · simp [World.setCell, Array.getElem?_modify, HB'.out]
          · rw [Array.getElem?_setIfInBounds]
            have hsz2 : off + j < cs'.size := (Array.getElem?_eq_some_iff.1 (HC'.out j hj)).1
            by_cases e : k = j
            · subst e
              rw [if_pos rfl, if_pos hsz2]
              unfold marked; rw [if_pos (by omega)]
            · rw [if_neg (by omega), HC'.out j hj]
              unfold marked
              by_cases e2 : j < k
              · rw [if_pos e2, if_pos (by omega)]
              · rw [if_neg e2, if_neg (by omega)]
          · rw [Go.Deep.blk_setCell_other _ _ _ _ hb]
            exact HO.out b hb
        case measure => simp [intOf]; omega
      · obtain rfl : k = n := by omega
        go_wp2
        go_ret
        refine ⟨rfl, HH.out.mark_hd (ce_ge ⟨mk_len _ _, mk_small _ _⟩ fun _ => ⟨g, off, cs', rfl, hg, HB'.out, fun j hj => ?_⟩) rfl (fun b hb => HO.out b fun e => hb ⟨hpos, off, by rw [e]⟩) (by rw [HZ.out]; exact Nat.le_refl _), HS.out⟩
        rw [HC'.out j hj]
        unfold marked fv; rw [if_pos hj, mk_wd hj]
  · obtain rfl : n = 0 := by omega
    have HH := Lib.hid h
    clear h
    go_enter Try.func23, Try.ntmps23
    go_wp2
    go_loopw [1, 5] (fun kv i wr => i = .int .i64 0 ∧ kv = .int .i64 k0 ∧ wr = v) (fun _ _ _ => 0)
    case atStart => exact ⟨rfl, rfl, rfl⟩
    case round =>
      obtain ⟨rfl, rfl, rfl⟩ := hrel
      go_wp2
      go_ret
      exact ⟨rfl, HH.out.mark_hd (ce_ge ⟨rfl, (fun x hx => by cases hx)⟩ (fun h => by omega)) (funext fun g => by simp [fe, ce]) (fun _ _ => rfl) (Nat.le_refl _), World.Since.refl _ _⟩
set_option maxHeartbeats 4000000 in
theorem markIE_any (A : Option Addr) (n : Nat) (xs : List Int) (c k0 : Nat) (K : Int) (v : World) (B : Nat) (r : List En) (h : He B v (ie A n xs :: r)) (hn : n ≤ 1048576) (hk0 : k0 ≤ 1073741824) (hK : K = (k0 : Nat)) :
    Calls Try.prog 44 #[.slice A n c, .int .i64 K] v fun e v' => e = .returned (.int .i64 ((k0 + n : Nat) : Int)) ∧ He B v' (ie A n (mki k0 n) :: r) ∧ v.Since B v' := by
  subst hK
  by_cases hpos : 0 < n
  · obtain ⟨g, off, cs, rfl, hg, hgl, hb, hc⟩ := h.1.1.ce hpos
    have HB := Lib.hid hb
    have HC := Lib.hid hc
    have HH := Lib.hid h
    clear hb hc h
    go_enter Try.func44, Try.ntmps44
    go_wp2
    go_loopw [1, 5] (fun kv i wr => ∃ k : Nat, k ≤ n ∧ i = .int .i64 k ∧ kv = .int .i64 (k0 + k : Nat) ∧ (∃ cs', wr.heap[g]? = some (.cells cs' 2 (0, 0)) ∧ ∀ j, j < n → cs'[off + j]? = some (imarked k0 xs k j)) ∧ wr.heap.size = v.heap.size ∧ v.Since B wr ∧ (∀ b, b ≠ g → wr.heap[b]? = v.heap[b]?)) (fun _ i _ => n - (intOf i).toNat)
    case atStart => exact ⟨0, Nat.zero_le _, rfl, rfl, ⟨cs, HB.out, fun j hj => by unfold imarked; rw [if_neg (by omega)]; exact HC.out j hj⟩, rfl, World.Since.refl _ _, fun _ _ => rfl⟩
    case round =>
      obtain ⟨k, hk, rfl, rfl, ⟨cs', hb', hc'⟩, hsz, hs, hoth⟩ := hrel
      have HB' := Lib.hid hb'
      have HC' := Lib.hid hc'
      have HZ := Lib.hid hsz
      have HS := Lib.hid hs
      have HO := Lib.hid hoth
      clear hb' hc' hsz hs hoth
      by_cases hlt : k < n
      · have hcell : wr.cell? ⟨g, off + k, none⟩ = some (imarked k0 xs k k) := by
          simp only [World.cell?, HB'.out]
          simpa using HC'.out k hlt
        have hfr : wr.frozen? ⟨g, off + k, none⟩ = false := by simp [World.frozen?, HB'.out]
        go_wp2
        go_roundw
        case rel =>
          refine ⟨k + 1, by omega, by go_num, by go_num, ⟨cs'.setIfInBounds (off + k) (.int .i64 ((k0 + k : Nat) : Int)), ?_, fun j hj => ?_⟩, by rw [Go.Deep.nblk_setCell]; exact HZ.out, HS.out.setCell hg _, fun b hb => ?_⟩
          · simp [World.setCell, Array.getElem?_modify, HB'.out]
          · rw [Array.getElem?_setIfInBounds]
            have hsz2 : off + j < cs'.size := (Array.getElem?_eq_some_iff.1 (HC'.out j hj)).1
            by_cases e : k = j
            · subst e
              rw [if_pos rfl, if_pos hsz2]
              unfold imarked; rw [if_pos (by omega)]
            · rw [if_neg (by omega), HC'.out j hj]
              unfold imarked
              by_cases e2 : j < k
              · rw [if_pos e2, if_pos (by omega)]
              · rw [if_neg e2, if_neg (by omega)]
          · rw [Go.Deep.blk_setCell_other _ _ _ _ hb]
            exact HO.out b hb
        case measure => simp [intOf]; omega
      · obtain rfl : k = n := by omega
        go_wp2
        go_ret
        refine ⟨rfl, HH.out.mark_hd (ce_ge (mki_len _ _) fun _ => ⟨g, off, cs', rfl, hg, HB'.out, fun j hj => ?_⟩) rfl (fun b hb => HO.out b fun e => hb ⟨hpos, off, by rw [e]⟩) (by rw [HZ.out]; exact Nat.le_refl _), HS.out⟩
        rw [HC'.out j hj]
        unfold imarked iv; rw [if_pos hj, mki_wi hj]
  · obtain rfl : n = 0 := by omega
    have HH := Lib.hid h
    clear h
    go_enter Try.func44, Try.ntmps44
    go_wp2
    go_loopw [1, 5] (fun kv i wr => i = .int .i64 0 ∧ kv = .int .i64 k0 ∧ wr = v) (fun _ _ _ => 0)
    case atStart => exact ⟨rfl, rfl, rfl⟩
    case round =>
      obtain ⟨rfl, rfl, rfl⟩ := hrel
      go_wp2
      go_ret
      exact ⟨rfl, HH.out.mark_hd (ce_ge rfl (fun h => by omega)) (funext fun g => by simp [ie, ce]) (fun _ _ => rfl) (Nat.le_refl _), World.Since.refl _ _⟩
theorem heldFE_any (A : Option Addr) (n c k0 : Nat) (K : Int) (v : World) (lo : Nat) (h : Ge lo v (fe A n (mk k0 n))) (hn : n ≤ 1048576) (hk0 : k0 ≤ 1073741824) (hK : K = (k0 : Nat)) :
    Calls Try.prog 32 #[.slice A n c, .int .i64 K] v fun e v' => e = .returned (.int .i64 ((k0 + n : Nat) : Int)) ∧ v = v' := by
  subst hK
  exact heldF_any A n c k0 v _ h.readF hn hk0
theorem heldIE_any (A : Option Addr) (n c k0 : Nat) (K : Int) (v : World) (lo : Nat) (h : Ge lo v (ie A n (mki k0 n))) (hn : n ≤ 1048576) (hk0 : k0 ≤ 1073741824) (hK : K = (k0 : Nat)) :
    Calls Try.prog 45 #[.slice A n c, .int .i64 K] v fun e v' => e = .returned (.int .i64 ((k0 + n : Nat) : Int)) ∧ v = v' := by
  subst hK
  exact heldI_any A n c k0 v _ h.readI hn hk0
end Go.Proofs.Ytcpcfgdncinpgaa
