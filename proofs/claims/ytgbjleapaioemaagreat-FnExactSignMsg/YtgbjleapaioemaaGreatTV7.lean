import Derived.Test.YtgbjleapaioemaaGreatTV6
namespace Go.Proofs.YtgbjleapaioemaaGreat
open Go.RowKit

end Go.Proofs.YtgbjleapaioemaaGreat
