/- Acknowledgement: what a side takes, by the document: contracts over the document. -/
import Derived.Test.YtbnfjielnamepaaArqRT1
import Derived.Test.YtbnfjielnamepaaArqRT2
import Derived.Test.YtbnfjielnamepaaArqRT3
set_option linter.unusedVariables false
set_option linter.unusedSimpArgs false
namespace Go.Proofs.Ytbnfjielnamepaa.Arq
open Go.RowKit Mem Oct Rw Av Dp
open Base (thenB)

theorem rtake_any (s : Sd) (V : Value) (l : List Pm) (p : Dm) (o : Nat) (w : World) (hn : l.length ≤ 1000000) (hs : Bit s) (hca : s.ack ≤ 1000) (hct : s.tak ≤ 1000) (hq : QQ w 0 o V l) (hl : l.map Pm.p = s.q) (hx : PP w o p.x) (ho : o ≤ w.heap.size) :
    Calls Try.prog 34 #[.agg (acel s V), .agg #[.int .i64 p.sn, .int .i64 p.nesn, .int .i64 p.md, .int .i64 p.x.k, .slice p.x.A p.x.v.length p.x.c]] w fun e w' => RTook w w' e (takeR s p.p) V o := by
  obtain ⟨sn, nesn, q, op, em, ack, tak⟩ := s
  obtain ⟨psn, pnesn, pmd, x⟩ := p
  simp only at hl hca hct hx
  obtain ⟨⟨A, c, rfl, hlc, _⟩, _⟩ := id hq
  obtain ⟨n, hln⟩ : ∃ n, l.length = n := ⟨_, rfl⟩
  rw [hln] at hq hn hlc ⊢
  by_cases h0 : chk ⟨psn, pnesn, pmd, x.p⟩ = 0
  · cases op with
    | false => exact rtake_closed sn nesn em q A n c l ack tak psn pnesn pmd x o w hlc hln hn hs.1 hs.2 hca hct hq hl hx ho h0
    | true =>
      by_cases ha : pnesn = sn
      · exact rtake_kept sn nesn em q A n c l ack tak psn pnesn pmd x o w hlc hln hn hs.1 hs.2 hca hct hq hl hx ho h0 (Lib.hid ha)
      · cases em with
        | true => exact rtake_acked_e sn nesn q A n c l ack tak psn pnesn pmd x o w hlc hln hn hs.1 hs.2 hca hct hq hl hx ho h0 ha
        | false =>
          cases q with
          | nil => exact rtake_acked_n sn nesn [] A n c l ack tak psn pnesn pmd x o w hlc hln hn hs.1 hs.2 hca hct hq hl hx ho h0 ha rfl
          | cons y q' =>
            cases l with
            | nil => simp at hl
            | cons x0 r =>
              obtain ⟨b0, off0, rfl, _⟩ := hq.at_
              exact rtake_acked_c sn nesn x0 r y q' b0 off0 n c ack tak psn pnesn pmd x o w hlc hln hn hs.1 hs.2 hca hct hq hl hx ho h0 ha
  · exact rtake_no sn nesn em op q A n c l ack tak psn pnesn pmd x o w hlc hln hn hs.1 hs.2 hca hct hq hl hx ho h0
end Go.Proofs.Ytbnfjielnamepaa.Arq
