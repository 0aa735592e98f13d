import Derived.Test.YtcbadebjpogmlaaGreatDoorVvPlain
import Derived.Shelf.LaysC
import Derived.Shelf.Strconv.Itoa3
import Derived.Shelf.Strings.Replace
import Derived.Shelf.Small.Strs
namespace Go.Proofs
open Go.Shelf
def Tryz.wF:Go.Shelf.Ren:=⟨fun|171=>75|243=>103|246=>140|283=>184|284=>185|285=>186|286=>187|129=>227|317=>226|318=>228|319=>229|320=>230|337=>245|338=>246|n=>n,fun|3=>3|9=>9|2=>2|4=>4|171=>257|0=>0|53=>258|37=>110|5=>5|173=>261|212=>277|51=>278|20=>20|213=>279|46=>281|232=>304|233=>305|n=>n,fun|17=>0|18=>4|19=>5|n=>n⟩
theorem Tryz.JC:Go.Proofs.LaysM.n171 Tryz.prog Tryz.wF:=by repeat' first|kernel_rfl|(intro;kernel_rfl)|constructor
def Tryz.pO:Go.Shelf.Ren:=⟨fun|155=>104|154=>141|138=>188|165=>189|143=>190|166=>86|197=>191|169=>88|195=>231|218=>232|240=>114|241=>233|219=>234|260=>235|276=>158|277=>247|217=>144|225=>248|224=>249|267=>250|266=>192|314=>260|n=>n,fun|9=>9|3=>3|4=>4|72=>112|0=>0|76=>181|105=>265|21=>21|5=>5|70=>109|20=>20|37=>110|75=>180|127=>209|164=>234|46=>281|119=>295|139=>298|138=>297|146=>306|51=>278|80=>52|n=>n,fun|1=>1|3=>2|4=>3|n=>n⟩
theorem Tryz.nR:Go.Proofs.Lays.n155 Tryz.prog Tryz.pO:=by repeat' first|kernel_rfl|(intro;kernel_rfl)|constructor
def Tryz.pM:Go.Shelf.Ren:=⟨fun|137=>110|217=>144|266=>192|n=>n,fun|9=>9|5=>5|3=>3|n=>n,fun|n=>n⟩
theorem Tryz.Om:Go.Proofs.Lays.n137 Tryz.prog Tryz.pM:=by repeat' first|kernel_rfl|(intro;kernel_rfl)|constructor
