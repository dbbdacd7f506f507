/- Texts of ours, joined. -/
import Derived.Test.YtnijcolomoobnaaGreatDoorU42
import Derived.Test.YtnijcolomoobnaaGreatDoorU41
set_option linter.unusedVariables false
set_option linter.unusedSimpArgs false
set_option maxRecDepth 100000
set_option maxHeartbeats 16000000
namespace Go.Proofs.YtnijcolomoobnaaGreatDoor
section
open Go.RowKit
theorem Rn{B:Nat->Prop}{m:Md}{ac af as_ aa:Option Addr}{cc cf cs_ ca:Nat}{states args:List V}{n fuel:Int}{w:World}(hm:IsMd B w m (.slice ac m.consts.length cc) (.slice af m.funcs.length cf))(hs:Al B w states (.slice as_ states.length cs_))(ha:Al B w args (.slice aa args.length ca))(hwm:∀v∈m.consts,wt v<=1000000)(hws:∀v∈states,wt v<=1000000)(hwa:∀v∈args,wt v<=1000000)(hls:states.length<=800000)(hla:args.length<=800000)(hn:InR n)(hfu:InR fuel)(ht:Cj w.heap.size w) :
  Calls Tryz.prog 12 #[.agg #[.slice ac m.consts.length cc,.slice af m.funcs.length cf],.slice as_ states.length cs_,iv n,.slice aa args.length ca,iv fuel] w (Gb m states n args fuel w):=
 Uy hm hs ha hwm hws hwa hls hla hn hfu ht (fun hr p G=>Wx hr (Hy hr) G)
end
end Go.Proofs.YtnijcolomoobnaaGreatDoor
