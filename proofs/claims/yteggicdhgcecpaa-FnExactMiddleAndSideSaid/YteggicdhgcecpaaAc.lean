/- Two rows of floats that grow side by side. -/
import Derived.Test.YteggicdhgcecpaaEc
import Derived.Test.YteggicdhgcecpaaHb
set_option linter.unusedVariables false
set_option linter.unusedSimpArgs false
namespace Go.Proofs.Yteggicdhgcecpaa
open Fl Go.RowKit
/-- two rows lie in two blocks -/
def Apart (v u : Value) : Prop := ∀ b, v.ownBlock = some b → u.ownBlock = some b → False
theorem Apart.symm {v u : Value} (h : Apart v u) : Apart u v := fun b h1 h2 => h b h2 h1
/-- where a row lies that something was appended to -/
theorem append_where {P : Program} (w : World) (base : Nat) (t ty e : TypeId) (i : TypeInfo) (z : Value) (ht : P.underlying t = some (.slice e)) (hi : P.info? e = some i) (hz : i.zero = some z)
    (v : Value) (n : Nat) (xs : List Value) (hown : w.ownsRow base e i.size v n xs) (hsz : 0 < i.size)
    (a : Addr) (m c : Nat) (news : List Value) (hl : news.length = m * i.size) (hnews : ∀ j u, news[j]? = some u → w.cell? (a.add j) = some u) (h1 : ∀ u ∈ news, u.oneCell' = true) (hm : 0 < m)
    (h63 : n + m ≤ maxLen) (hbytes : (n + m) * i.bytes ≤ 140737488355328) :
    ∃ v' w', (Builtin.append_ #[t, t] ty #[v, .slice (some a) m c]).run P w = .ok v' w' ∧ (v'.ownBlock = v.ownBlock ∨ v'.ownBlock = some w.heap.size) := by
  have hsmall : n + m ≤ 9223372036854775807 := by simp only [maxLen] at h63; omega
  rcases hown.2 with ⟨rfl, rfl⟩ | ⟨g, cap, cur, rfl, hbg, hg, hnc, hcm, hcs, htake⟩
  · have hr := run_append_nil (P := P) w t ty e i z ht hi hz a m c news hl hnews (by omega) (by omega) (by have hb := hbytes; simp only [Nat.zero_add] at hb; omega)
    exact ⟨_, _, hr, .inr rfl⟩
  · by_cases hroom : n + m ≤ cap
    · have hfit : n * i.size + news.length ≤ cur.size := by rw [hl, hcs, ← Nat.add_mul]; exact Nat.mul_le_mul_right _ hroom
      have hr := run_append_room (P := P) w t ty e i ht hi g n cap cur hg a m c news hl hnews h1 hroom hfit
      exact ⟨_, _, hr, .inl rfl⟩
    · have holds : ∀ j u, xs[j]? = some u → w.cell? ((⟨g, 0, none⟩ : Addr).add j) = some u := hown.cells (g := g) rfl
      have hr := run_append_grow (P := P) w t ty e i z ht hi hz ⟨g, 0, none⟩ n cap xs hown.1 holds a m c news hl hnews (by omega) (by omega) (growslice_fits (by omega) hbytes)
      exact ⟨_, _, hr, .inr rfl⟩
theorem Rw.kept {lo : Nat} {w w' : World} {u v : Value} {k : Nat} {G : Nat → O} (h : Rw lo w u k G) (hg : w.grownBy w' v.ownBlock) (ha : Apart v u) : Rw lo w' u k G := by
  obtain ⟨os, h1, h2, h3⟩ := h
  refine ⟨os, h1.kept hg ?_, h2, h3⟩
  cases e : u.ownBlock with
  | none => exact .inl rfl
  | some b => exact .inr fun e2 => ha b e2.symm e
theorem Rw.blk {lo : Nat} {w : World} {u : Value} {k : Nat} {G : Nat → O} (h : Rw lo w u k G) : ∀ b, u.ownBlock = some b → b < w.heap.size := by
  obtain ⟨os, h1, h2, h3⟩ := h
  exact fun b hb => (h1.lt b hb).2
theorem wpList_app2 {ops : Array Oper} {rest : List Oper} {o : Oper} {a : Act} {Q : Exit → Act → World → Prop} {w : World} (hgd : o.guard = none) (s x : Operand)
    (ho : o.op = .call { callee := .builtin .append, args := #[s, x], argTypes := #[25, 25] }) (lo : Nat) (v : Value) (k : Nat) (F : Nat → O) (hs : a.eval s = v) (b r : Nat)
    (hx : a.eval x = .slice (some ⟨b, 0, none⟩) 1 1) (hc : w.cell? ⟨b, 0, none⟩ = some (.float .f32 r)) (hk : k < 1048576) (hlo : lo ≤ w.heap.size) (hr : Hid (Fv .f32 r (F k))) (hR : Rw lo w v k F)
    (h : ∀ v' w', Hid (Rw lo w' v' (k + 1) F) → Hid (w.Since lo w') → Hid (∀ u k' G, Rw lo w u k' G → Apart v u → Rw lo w' u k' G ∧ Apart v' u) → wpList Try.prog ops Q rest (a.put o.dst v') w') : wpList Try.prog ops Q (o :: rest) a w := by
  obtain ⟨os, h1, h2, h3⟩ := hR
  obtain ⟨i0, hi, hz0, hz1, hz2⟩ := info_parts Try.infoF
  have hnews : ∀ (j : Nat) (u : Value), [Value.float .f32 r][j]? = some u → w.cell? ((⟨b, 0, none⟩ : Addr).add j) = some u := by
    intro j u hj
    rcases j with _ | j
    · simp at hj; subst hj; simpa [Addr.add] using hc
    · simp at hj
  have hone : ∀ u ∈ [Value.float .f32 r], u.oneCell' = true := by intro u hu; simp at hu; subst hu; rfl
  have h63 : k + 1 ≤ maxLen := by unfold maxLen; omega
  have hby : (k + 1) * i0.bytes ≤ 140737488355328 := by rw [hz2]; omega
  refine wpList_plain hgd fun K hK => ?_
  obtain ⟨v', w', hrun, hown, hgr, _⟩ := run_append_own (P := Try.prog) w lo 25 o.type 22 i0 (.float .f32 0) i0.size i0.bytes Try.underlying25 hi hz0 rfl rfl (by rw [hz1]; rfl) (by rw [hz1]; omega) v k (fvl os) (by rw [hz1]; exact h1) ⟨b, 0, none⟩ 1 1 [.float .f32 r] (by rw [hz1]; rfl) hnews hone h63 hby hlo
  obtain ⟨v2, w2, hrun2, hwh⟩ := append_where (P := Try.prog) w lo 25 o.type 22 i0 (.float .f32 0) Try.underlying25 hi hz0 v k (fvl os) (by rw [hz1]; exact h1) (by rw [hz1]; omega) ⟨b, 0, none⟩ 1 1 [.float .f32 r] (by rw [hz1]; rfl) hnews hone (by omega) h63 hby
  rw [hrun] at hrun2
  injection hrun2 with e1 e2
  subst e1
  rw [hz1] at hown
  unfold Oper.wp execOp
  simp only [ho, resolve, invoke, builtin, Sem.run_bind, Sem.run_pure, Result.andThen_ok, List.map_toArray, List.map_cons, List.map_nil, hs, hx, hrun]
  refine hK _ _ (h v' w' (Lib.hid ⟨os ++ [r], ?_, h2.snoc hr.out.1, fun j hj => ?_⟩) (Lib.hid ⟨hgr.os, hgr.tape, hgr.output, hgr.size, fun i hi => ?_⟩) (Lib.hid fun u k' G hu hap => ⟨hu.kept hgr hap, fun b h4 h5 => ?_⟩))
  · rw [← fvl_snoc]; exact hown
  · have hyl : os.length = k := by simpa [fvl] using h1.1
    rw [wd_snoc hyl]
    by_cases e : j < k
    · rw [if_pos e]; exact h3 j e
    · obtain rfl : j = k := by omega
      rw [if_neg e, if_pos rfl]; exact hr.out.2
  · refine hgr.block i (by omega) fun e => ?_
    have := own_lo h1 i e.symm
    omega
  · rcases hwh with e | e
    · exact hap b (e ▸ h4) h5
    · have := hu.blk b h5
      rw [e] at h4
      injection h4 with h4
      omega
theorem De.of_apart {p q : Ls} {c d : Nat} (h : Apart (.slice p.A p.n c) (.slice q.A q.n d)) : De (fe p.A p.n p.xs) (fe q.A q.n q.xs) := by
  rintro g ⟨_, o1, e1⟩ ⟨_, o2, e2⟩
  exact h g (by rw [e1]; rfl) (by rw [e2]; rfl)
end Go.Proofs.Yteggicdhgcecpaa
