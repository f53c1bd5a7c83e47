/- Package emit's Emit answers as EmitSayC says. -/
import Derived.Test.YtkpkpaobhnhgpabEmitGo
import Derived.Test.YtkpkpaobhnhgpabSchedLegalAll
namespace Go.Proofs.Ytkpkpaobhnhgpab
theorem emit_all : EmitSayC := emitgo_any schedLegal_all
end Go.Proofs.Ytkpkpaobhnhgpab
