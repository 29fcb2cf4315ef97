import Derived.Test.YtjklmkeedhgncaaA11
namespace Go.Proofs.Ytjklmkeedhgncaa
open Go.RowKit
set_option linter.unusedSimpArgs false
set_option linter.unusedVariables false
theorem BkH.rsv {B : Nat} {w : World} {x : Nat} {rows : List (List Int)} (h : BkH B w x rows) (h0 : 0 < rows.length) : ∃ vr us, w.cell? ⟨x, 0, none⟩ = some vr ∧ RsV w vr us rows ∧ us.length = rows.length := by
 obtain ⟨vr, cs, h1, h2, h3, h4⟩ := h.ex
 exact ⟨vr, cs, h1.c 0 rfl, RsV.of_owns h2 (by omega) h3 (fun j u l hu hl => (h4 j u l hu hl).row), h3⟩
def d0 : CV := ⟨0, ByteArray.empty, .nilFunc, []⟩

end Go.Proofs.Ytjklmkeedhgncaa
