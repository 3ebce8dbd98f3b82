/- The program's From, in few words. No condition but the bytes'. -/
import Derived.Test.YtbkbodcncjhcmaaRefD
namespace Go.Proofs.Ytbkbodcncjhcmaa
open Go.RowKit
/-- The number of bytes without their highest bit, modulo p. -/
def fe (l : List Int) : Int := vl l % p255 % pp
theorem from_el (l : List Int) (w : World) (hl : l.length = 32) (hb : Bys l) :
    Calls Try.prog 22 #[.agg (vs .u8 l)] w fun e w' => e = .returned (el (fe l)) ∧ Fr (fun _ => False) w w' := from_is l w hl hb
end Go.Proofs.Ytbkbodcncjhcmaa
