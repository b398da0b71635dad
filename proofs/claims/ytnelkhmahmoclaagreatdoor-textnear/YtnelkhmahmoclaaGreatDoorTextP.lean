/- The program's side of stage 5: textPutT (TextX), textGetT (TextZ), textLineT (TextL), textListT (TextN). -/
import Derived.Test.YtnelkhmahmoclaaGreatDoorTextN
namespace Go.Proofs.YtnelkhmahmoclaaGreatDoor
end Go.Proofs.YtnelkhmahmoclaaGreatDoor
