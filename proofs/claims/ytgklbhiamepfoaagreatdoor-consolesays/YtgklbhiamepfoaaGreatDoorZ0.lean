import Derived.Shelf.Strings.OnBuilder
import Derived.Shelf.Small.Strs
import Derived.Shelf.Strconv.Itoa3
import Derived.Shelf.Strings.Prefix
import Derived.Shelf.Strings.Split
import Derived.Test.YtgklbhiamepfoaaGreatDoorRows
set_option maxHeartbeats 16000000
set_option maxRecDepth 100000
namespace Go.Proofs.YtgklbhiamepfoaaGreatDoor
open Go.Proofs.Tryz
section
open Go.RowKit Go.Shelf Go.Lib
def MS:Ren:=⟨λ|156=>58|165=>81|166=>8|169=>12|240=>29|241=>105|276=>60|277=>138|n=>n,λ|31=>45|9=>9|3=>3|4=>4|0=>0|20=>20|72=>28|76=>39|70=>25|37=>26|75=>38|127=>61|164=>112|5=>5|80=>44|n=>n,λ|n=>n⟩
theorem Ht:Lays.n156 prog MS:=by constructor<;>first|(intros;kernel_rfl)|(constructor<;>(intros;kernel_rfl))
def Of:Ren:=⟨λ|137=>28|217=>59|266=>82|n=>n,λ|9=>9|5=>5|3=>3|n=>n,λ|n=>n⟩
theorem NZ:Lays.n137 prog Of:=by constructor<;>first|(intros;kernel_rfl)|(constructor<;>(intros;kernel_rfl))
def Oh:Ren:=⟨λ|283=>99|n=>n,λ|3=>3|9=>9|4=>4|n=>n,λ|n=>n⟩
theorem N8:Lays.n283 prog Oh:=by constructor<;>first|(intros;kernel_rfl)|(constructor<;>(intros;kernel_rfl))
def Oi:Ren:=⟨λ|285=>101|n=>n,λ|37=>26|53=>83|3=>3|4=>4|51=>247|9=>9|5=>5|0=>0|n=>n,λ|n=>n⟩
theorem N9:Lays.n285 prog Oi:=by constructor<;>first|(intros;kernel_rfl)|(constructor<;>(intros;kernel_rfl))
def NJ:Ren:=⟨λ|171=>52|243=>74|246=>98|283=>99|284=>100|285=>101|286=>102|129=>133|317=>132|318=>134|319=>135|320=>136|337=>165|338=>166|n=>n,λ|3=>3|9=>9|2=>2|4=>4|171=>168|0=>0|53=>83|37=>26|5=>5|173=>171|212=>246|51=>247|20=>20|213=>248|46=>126|232=>323|233=>324|n=>n,λ|17=>2|18=>5|19=>6|n=>n⟩
theorem JK:LaysM.n171 prog NJ:=by constructor<;>first|(intros;kernel_rfl)|(constructor<;>(intros;kernel_rfl))
def Oe:Ren:=⟨λ|102=>10|209=>32|207=>63|n=>n,λ|9=>9|4=>4|3=>3|n=>n,λ|n=>n⟩
theorem NY:Lays.n102 prog Oe:=by constructor<;>first|(intros;kernel_rfl)|(constructor<;>(intros;kernel_rfl))
def Og:Ren:=⟨λ|146=>30|221=>61|268=>83|138=>84|143=>85|195=>106|197=>107|218=>108|219=>109|260=>139|217=>59|225=>140|224=>141|267=>142|266=>82|314=>168|n=>n,λ|9=>9|31=>45|3=>3|4=>4|0=>0|105=>182|21=>21|5=>5|46=>126|119=>283|139=>286|138=>285|146=>287|51=>247|n=>n,λ|1=>1|3=>3|4=>4|n=>n⟩
theorem N7:Lays.n146 prog Og:=by constructor<;>first|(intros;kernel_rfl)|(constructor<;>(intros;kernel_rfl))
theorem xQ:Builder.Extra prog MS:=by constructor<;>first|(intros;kernel_rfl)|decide|(constructor<;>(intros;kernel_rfl))
