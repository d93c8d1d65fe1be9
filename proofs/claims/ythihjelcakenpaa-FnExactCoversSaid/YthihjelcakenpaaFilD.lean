/-
  Chapter 6: the laws' marks on slices of scopes, written and held.
-/
import Derived.Test.YthihjelcakenpaaFilC
namespace Go.Proofs.Ythihjelcakenpaa
open Go.RowKit

theorem GrownIn.of_row {W W' : World} {row : Option Nat} (h : W.grownBy W' row) : GrownIn W W' row.toList :=
  ⟨h.os, h.tape, h.output, h.size, fun k hk hn => h.block k hk (fun e => hn (by rw [← e]; simp))⟩
theorem GrownIn.refl (W : World) (fp : List Nat) : GrownIn W W fp := ⟨rfl, rfl, rfl, Nat.le_refl _, fun _ _ _ => rfl⟩
theorem LsIn.apart {W W' : World} {xs : List Lf} {vs : List Value} {fp fq : List Nat} (h : LsIn W xs vs fp) (hg : GrownIn W W' fq) (hd : ∀ k ∈ fp, k ∉ fq) : LsIn W' xs vs fp :=
  h.frame xs vs fp (fun k hk => hg.block k (LsIn.lt xs vs fp h k hk) (hd k hk))
theorem own_apart {W W' : World} {B m n : Nat} {e : TypeId} {v : Value} {xs : List Value} {fq : List Nat} (h : W.ownsRow B e m v n xs) (hg : GrownIn W W' fq) (hd : ∀ k, v.ownBlock = some k → k ∉ fq) : W'.ownsRow B e m v n xs :=
  own_frame h (fun k hk => hg.block k (h.lt k hk).2 (hd k hk))

theorem scp_of {W : World} {s : Scp} {vs : List Value} {fp : List Nat} (h : LsIn W s.lf vs fp) : ∃ vn, vs = [.int .i64 s.kind, vn, .int .i64 s.events] ∧ W.ownsRow 0 9 1 vn s.names.length (s.names.map sv) ∧ fp = vn.ownBlock.toList := by
  obtain ⟨a, r1, f1, g1, rfl, h1, ⟨b, r2, f2, g2, rfl, h2, ⟨c, r3, f3, g3, rfl, h3, h4, rfl⟩, rfl⟩, rfl⟩ := h
  obtain ⟨e1, e2⟩ := strs_in.1 h2
  obtain ⟨rfl, rfl⟩ := h4
  exact ⟨b, by rw [h1.1, h3.1], e1, by rw [h1.2, h3.2, e2]; simp⟩
theorem scp_mk {W : World} {s : Scp} {vn : Value} {fp : List Nat} (h : W.ownsRow 0 9 1 vn s.names.length (s.names.map sv)) (hf : fp = vn.ownBlock.toList) : LsIn W s.lf [.int .i64 s.kind, vn, .int .i64 s.events] fp := hf ▸ scp_in h

end Go.Proofs.Ythihjelcakenpaa
