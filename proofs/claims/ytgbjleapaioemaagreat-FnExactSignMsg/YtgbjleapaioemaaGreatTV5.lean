import Derived.Test.YtgbjleapaioemaaGreatTV4
namespace Go.Proofs.YtgbjleapaioemaaGreat
open Go.RowKit

end Go.Proofs.YtgbjleapaioemaaGreat
