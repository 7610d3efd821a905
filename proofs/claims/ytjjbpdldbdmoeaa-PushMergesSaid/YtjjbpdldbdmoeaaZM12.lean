/- Texts of a claim, joined. -/
import Derived.Test.YtjjbpdldbdmoeaaZM11
set_option linter.unusedVariables false
set_option linter.unusedSimpArgs false
namespace Go.Proofs.Ytjjbpdldbdmoeaa
noncomputable section
namespace Ev
open Go
set_option maxRecDepth 100000
set_option maxHeartbeats 1000000
attribute [local irreducible] dB StL TnL WpL cP
def qF(k:FuncId):List TD->Option (Kind×List TD):=λvs=>cpR K.E1 60 k vs
theorem GA(vs:List TD)(kind:Kind)(rs:List TD)(h:qF 11 vs=some (kind,rs)):cN Try.prog 11 vs kind rs/\Enters Try.prog 11:=⟨(gH h).pure K.iS,⟨_,_,Try.func11,by kernel_rfl,by unfold Try.f11;rfl⟩⟩
theorem Kz(vs:List TD)(kind:Kind)(rs:List TD)(h:qF 6 vs=some (kind,rs)):cN Try.prog 6 vs kind rs/\Enters Try.prog 6:=⟨(gH h).pure K.iS,⟨_,_,Try.func6,by kernel_rfl,by unfold Try.f6;rfl⟩⟩
theorem GB(vs:List TD)(kind:Kind)(rs:List TD)(h:qF 68 vs=some (kind,rs)):cN Try.prog 68 vs kind rs/\Enters Try.prog 68:=⟨(gH h).pure K.iS,⟨_,_,Try.func68,by kernel_rfl,by unfold Try.f68;rfl⟩⟩
theorem GC(vs:List TD)(kind:Kind)(rs:List TD)(h:qF 96 vs=some (kind,rs)):cN Try.prog 96 vs kind rs/\Enters Try.prog 96:=⟨(gH h).pure K.iS,⟨_,_,Try.func96,by kernel_rfl,by unfold Try.f96;rfl⟩⟩
theorem GD(vs:List TD)(kind:Kind)(rs:List TD)(h:qF 97 vs=some (kind,rs)):cN Try.prog 97 vs kind rs/\Enters Try.prog 97:=⟨(gH h).pure K.iS,⟨_,_,Try.func97,by kernel_rfl,by unfold Try.f97;rfl⟩⟩
end Ev
end
noncomputable section
namespace Ev
open Go
set_option maxRecDepth 100000
set_option maxHeartbeats 1000000
attribute [local irreducible] dB StL TnL WpL cP
theorem tz1:ab Try.prog 1=some (⟨.func #[] #[] false,[.nilFunc],1,8⟩:TI):=by kernel_rfl
theorem tz2:ab Try.prog 2=some (⟨.int .i64,[.int .i64 0],1,8⟩:TI):=by kernel_rfl
theorem tz3:ab Try.prog 3=some (⟨.int .i64,[.int .i64 0],1,8⟩:TI):=by kernel_rfl
theorem tz4:ab Try.prog 4=some (⟨.bool,[.bool false],1,1⟩:TI):=by kernel_rfl
theorem tz5:ab Try.prog 5=some (⟨.int .u8,[.int .u8 0],1,1⟩:TI):=by kernel_rfl
theorem tz6:ab Try.prog 6=some (⟨.int .u8,[.int .u8 0],1,1⟩:TI):=by kernel_rfl
theorem tz7:ab Try.prog 7=some (⟨.struct (aG Try.prog 7),[.int .i64 0,.int .i64 0,.bool false,.int .u8 0],4,24⟩:TI):=by kernel_rfl
theorem tz8:ab Try.prog 8=some (⟨.struct (aG Try.prog 8),[.int .i64 0,.int .i64 0,.bool false,.int .u8 0],4,24⟩:TI):=by kernel_rfl
theorem IN:ab Try.prog 12=some (⟨.int .u64,[.int .u64 0],1,8⟩:TI):=by kernel_rfl
theorem IP:ab Try.prog 15=some (⟨.pointer 166,[.pointer none],1,8⟩:TI):=by kernel_rfl
theorem IQ:ab Try.prog 16=some (⟨.pointer 169,[.pointer none],1,8⟩:TI):=by kernel_rfl
theorem IR:ab Try.prog 17=some (⟨.pointer 178,[.pointer none],1,8⟩:TI):=by kernel_rfl
theorem IS:ab Try.prog 18=some (⟨.struct (aG Try.prog 18),[.pointer none],1,8⟩:TI):=by kernel_rfl
theorem IT:ab Try.prog 19=some (⟨.struct (aG Try.prog 19),[.pointer none],1,8⟩:TI):=by kernel_rfl
theorem IU:ab Try.prog 21=some (⟨.int .i32,[.int .i32 0],1,4⟩:TI):=by kernel_rfl
theorem IV:ab Try.prog 22=some (⟨.int .i64,[.int .i64 0],1,8⟩:TI):=by kernel_rfl
theorem IW:ab Try.prog 23=some (⟨.slice 3,[.slice none 0 0],1,24⟩:TI):=by kernel_rfl
theorem IX:ab Try.prog 24=some (⟨.slice 2,[.slice none 0 0],1,24⟩:TI):=by kernel_rfl
theorem IY:ab Try.prog 25=some (⟨.struct (aG Try.prog 25),[.int .i64 0,.int .i64 0,.slice none 0 0,.slice none 0 0,.slice none 0 0,.slice none 0 0],6,112⟩:TI):=by kernel_rfl
theorem IZ:ab Try.prog 26=some (⟨.struct (aG Try.prog 26),[.int .i64 0,.int .i64 0,.slice none 0 0,.slice none 0 0,.slice none 0 0,.slice none 0 0],6,112⟩:TI):=by kernel_rfl
theorem Ja:ab Try.prog 27=some (⟨.slice 62,[.slice none 0 0],1,24⟩:TI):=by kernel_rfl
theorem Jb:ab Try.prog 28=some (⟨.struct (aG Try.prog 28),[.int .i64 0,.slice none 0 0],2,32⟩:TI):=by kernel_rfl
theorem Jc:ab Try.prog 29=some (⟨.struct (aG Try.prog 29),[.int .i64 0,.slice none 0 0],2,32⟩:TI):=by kernel_rfl
theorem Jd:ab Try.prog 30=some (⟨.func #[] #[4] false,[.nilFunc],1,8⟩:TI):=by kernel_rfl
theorem Je:ab Try.prog 31=some (⟨.func #[29] #[29] false,[.nilFunc],1,8⟩:TI):=by kernel_rfl
theorem Gp:ab Try.prog 32=some (⟨.slice 69,[.slice none 0 0],1,24⟩:TI):=by kernel_rfl
theorem Jf:ab Try.prog 33=some (⟨.int .i64,[.int .i64 0],1,8⟩:TI):=by kernel_rfl
theorem Jg:ab Try.prog 35=some (⟨.func #[22,26,29,44,4] #[32,33] false,[.nilFunc],1,8⟩:TI):=by kernel_rfl
theorem Jh:ab Try.prog 36=some (⟨.func #[32,32] #[4] false,[.nilFunc],1,8⟩:TI):=by kernel_rfl
theorem Ji:ab Try.prog 37=some (⟨.func #[22,26,29] #[4] false,[.nilFunc],1,8⟩:TI):=by kernel_rfl
theorem Gq:ab Try.prog 38=some (⟨.slice 32,[.slice none 0 0],1,24⟩:TI):=by kernel_rfl
theorem Jj:ab Try.prog 39=some (⟨.func #[22,38] #[32,33] true,[.nilFunc],1,8⟩:TI):=by kernel_rfl
theorem Jk:ab Try.prog 40=some (⟨.func #[22,38] #[32,33] false,[.nilFunc],1,8⟩:TI):=by kernel_rfl
theorem Jl:ab Try.prog 41=some (⟨.func #[22,38] #[4] false,[.nilFunc],1,8⟩:TI):=by kernel_rfl
theorem Jm:ab Try.prog 42=some (⟨.array 2 5,[.int .u8 0,.int .u8 0],2,2⟩:TI):=by kernel_rfl
theorem Jn:ab Try.prog 43=some (⟨.slice 60,[.slice none 0 0],1,24⟩:TI):=by kernel_rfl
theorem Jo:ab Try.prog 44=some (⟨.slice 65,[.slice none 0 0],1,24⟩:TI):=by kernel_rfl
theorem Jp:ab Try.prog 45=some (⟨.struct (aG Try.prog 45),[.int .i64 0,.int .u8 0,.int .u8 0,.slice none 0 0,.slice none 0 0,.slice none 0 0,.slice none 0 0,.bool false],8,120⟩:TI):=by kernel_rfl
theorem Jq:ab Try.prog 46=some (⟨.struct (aG Try.prog 46),[.int .i64 0,.int .u8 0,.int .u8 0,.slice none 0 0,.slice none 0 0,.slice none 0 0,.slice none 0 0,.bool false],8,120⟩:TI):=by kernel_rfl
theorem Jr:ab Try.prog 47=some (⟨.func #[22] #[22] false,[.nilFunc],1,8⟩:TI):=by kernel_rfl
theorem Js:ab Try.prog 48=some (⟨.struct (aG Try.prog 48),[.int .i64 0,.int .i64 0,.slice none 0 0,.slice none 0 0,.slice none 0 0],5,88⟩:TI):=by kernel_rfl
theorem Jt:ab Try.prog 49=some (⟨.struct (aG Try.prog 49),[.int .i64 0,.int .i64 0,.slice none 0 0,.slice none 0 0,.slice none 0 0],5,88⟩:TI):=by kernel_rfl
theorem Ju:ab Try.prog 50=some (⟨.func #[] #[49] false,[.nilFunc],1,8⟩:TI):=by kernel_rfl
theorem Jv:ab Try.prog 51=some (⟨.func #[27] #[29] false,[.nilFunc],1,8⟩:TI):=by kernel_rfl
theorem Jw:ab Try.prog 52=some (⟨.func #[49] #[26] false,[.nilFunc],1,8⟩:TI):=by kernel_rfl
theorem Jx:ab Try.prog 53=some (⟨.func #[49,54,54] #[49] false,[.nilFunc],1,8⟩:TI):=by kernel_rfl
theorem Jy:ab Try.prog 54=some (⟨.array 2 3,[.int .i64 0,.int .i64 0],2,16⟩:TI):=by kernel_rfl
theorem Jz:ab Try.prog 55=some (⟨.func #[29,3,3] #[29] false,[.nilFunc],1,8⟩:TI):=by kernel_rfl
theorem JA:ab Try.prog 56=some (⟨.func #[46,5] #[4] false,[.nilFunc],1,8⟩:TI):=by kernel_rfl
theorem JB:ab Try.prog 58=some (⟨.func #[22,3,3,43] #[49,33] false,[.nilFunc],1,8⟩:TI):=by kernel_rfl
theorem JC:ab Try.prog 59=some (⟨.struct (aG Try.prog 59),[.int .i64 0,.int .i64 0,.int .i64 0],3,24⟩:TI):=by kernel_rfl
theorem JD:ab Try.prog 60=some (⟨.struct (aG Try.prog 60),[.int .i64 0,.int .i64 0,.int .i64 0],3,24⟩:TI):=by kernel_rfl
theorem JE:ab Try.prog 61=some (⟨.struct (aG Try.prog 61),[.int .i64 0,.int .i64 0],2,16⟩:TI):=by kernel_rfl
theorem JF:ab Try.prog 62=some (⟨.struct (aG Try.prog 62),[.int .i64 0,.int .i64 0],2,16⟩:TI):=by kernel_rfl
theorem JG:ab Try.prog 64=some (⟨.func #[22,26,29,44,4] #[29,33] false,[.nilFunc],1,8⟩:TI):=by kernel_rfl
theorem JH:ab Try.prog 65=some (⟨.int .u64,[.int .u64 0],1,8⟩:TI):=by kernel_rfl
theorem JI:ab Try.prog 66=some (⟨.struct (aG Try.prog 66),[.int .i64 0,.int .u64 0],2,16⟩:TI):=by kernel_rfl
theorem JJ:ab Try.prog 67=some (⟨.struct (aG Try.prog 67),[.int .i64 0,.int .u64 0],2,16⟩:TI):=by kernel_rfl
theorem JK:ab Try.prog 68=some (⟨.struct (aG Try.prog 68),[.int .i64 0,.int .i64 0,.int .u64 0],3,24⟩:TI):=by kernel_rfl
theorem Gr:ab Try.prog 69=some (⟨.struct (aG Try.prog 69),[.int .i64 0,.int .i64 0,.int .u64 0],3,24⟩:TI):=by kernel_rfl
theorem NK:iG (ab Try.prog) (⟨.struct (aG Try.prog 69),[.int .i64 0,.int .i64 0,.int .u64 0],3,24⟩:TI)=some λi=>([(0,1),(1,2)]:List (Nat×Nat))[i]? :=by kernel_rfl
theorem JL:ab Try.prog 70=some (⟨.func #[26,29] #[3] false,[.nilFunc],1,8⟩:TI):=by kernel_rfl
theorem JM:ab Try.prog 71=some (⟨.func #[22] #[4] false,[.nilFunc],1,8⟩:TI):=by kernel_rfl
theorem JN:ab Try.prog 72=some (⟨.func #[26] #[26] false,[.nilFunc],1,8⟩:TI):=by kernel_rfl
theorem JO:ab Try.prog 73=some (⟨.func #[29] #[4] false,[.nilFunc],1,8⟩:TI):=by kernel_rfl
theorem JP:ab Try.prog 74=some (⟨.slice 80,[.slice none 0 0],1,24⟩:TI):=by kernel_rfl
theorem JQ:ab Try.prog 75=some (⟨.func #[120] #[] false,[.nilFunc],1,8⟩:TI):=by kernel_rfl
theorem JR:ab Try.prog 76=some (⟨.func #[120] #[] false,[.nilFunc],1,8⟩:TI):=by kernel_rfl
theorem JS:ab Try.prog 77=some (⟨.func #[26,29] #[76] false,[.nilFunc],1,8⟩:TI):=by kernel_rfl
theorem JT:ab Try.prog 78=some (⟨.pointer 80,[.pointer none],1,8⟩:TI):=by kernel_rfl
theorem JU:ab Try.prog 79=some (⟨.struct (aG Try.prog 79),[.int .i64 0,.int .u64 0,.bool false],3,24⟩:TI):=by kernel_rfl
theorem JV:ab Try.prog 80=some (⟨.struct (aG Try.prog 80),[.int .i64 0,.int .u64 0,.bool false],3,24⟩:TI):=by kernel_rfl
theorem JW:ab Try.prog 81=some (⟨.func #[22,2,2] #[67] false,[.nilFunc],1,8⟩:TI):=by kernel_rfl
theorem JY:ab Try.prog 82=some (⟨.func #[22,67,67] #[67] false,[.nilFunc],1,8⟩:TI):=by kernel_rfl
theorem JZ:ab Try.prog 83=some (⟨.func #[44,3] #[4] false,[.nilFunc],1,8⟩:TI):=by kernel_rfl
theorem Ka:ab Try.prog 84=some (⟨.func #[22,49,87,44,4] #[32,33] false,[.nilFunc],1,8⟩:TI):=by kernel_rfl
theorem Kb:ab Try.prog 85=some (⟨.func #[26] #[49] false,[.nilFunc],1,8⟩:TI):=by kernel_rfl
theorem Kc:ab Try.prog 86=some (⟨.struct (aG Try.prog 86),[.int .i64 0,.slice none 0 0,.slice none 0 0],3,56⟩:TI):=by kernel_rfl
theorem Kd:ab Try.prog 87=some (⟨.struct (aG Try.prog 87),[.int .i64 0,.slice none 0 0,.slice none 0 0],3,56⟩:TI):=by kernel_rfl
theorem Ke:ab Try.prog 88=some (⟨.func #[29] #[87] false,[.nilFunc],1,8⟩:TI):=by kernel_rfl
theorem Kf:ab Try.prog 89=some (⟨.pointer 93,[.pointer none],1,8⟩:TI):=by kernel_rfl
theorem Kg:ab Try.prog 90=some (⟨.slice 97,[.slice none 0 0],1,24⟩:TI):=by kernel_rfl
theorem Kh:ab Try.prog 91=some (⟨.slice 97,[.slice none 0 0],1,24⟩:TI):=by kernel_rfl
theorem Ki:ab Try.prog 92=some (⟨.struct (aG Try.prog 92),[.slice none 0 0],1,24⟩:TI):=by kernel_rfl
theorem Kj:ab Try.prog 93=some (⟨.struct (aG Try.prog 93),[.slice none 0 0],1,24⟩:TI):=by kernel_rfl
theorem Kk:ab Try.prog 94=some (⟨.func #[32] #[4] false,[.nilFunc],1,8⟩:TI):=by kernel_rfl
theorem Kl:ab Try.prog 95=some (⟨.func #[132,20] #[] false,[.nilFunc],1,8⟩:TI):=by kernel_rfl
theorem Km:ab Try.prog 96=some (⟨.struct (aG Try.prog 96),[.int .i64 0,.slice none 0 0],2,32⟩:TI):=by kernel_rfl
theorem Kn:ab Try.prog 97=some (⟨.struct (aG Try.prog 97),[.int .i64 0,.slice none 0 0],2,32⟩:TI):=by kernel_rfl
theorem Ko:ab Try.prog 98=some (⟨.func #[] #[3] false,[.nilFunc],1,8⟩:TI):=by kernel_rfl
theorem Kq:ab Try.prog 99=some (⟨.func #[132] #[20] false,[.nilFunc],1,8⟩:TI):=by kernel_rfl
theorem Cq:ab Try.prog 100=some (⟨.func #[22,32,69] #[32] false,[.nilFunc],1,8⟩:TI):=by kernel_rfl
theorem Cr:ab Try.prog 101=some (⟨.func #[22,32,32] #[32] false,[.nilFunc],1,8⟩:TI):=by kernel_rfl
theorem Cs:ab Try.prog 102=some (⟨.func #[42,43] #[49] false,[.nilFunc],1,8⟩:TI):=by kernel_rfl
theorem Ct:ab Try.prog 103=some (⟨.func #[22,2] #[2] false,[.nilFunc],1,8⟩:TI):=by kernel_rfl
theorem Cu:ab Try.prog 104=some (⟨.func #[5,27] #[29] false,[.nilFunc],1,8⟩:TI):=by kernel_rfl
theorem Cv:ab Try.prog 105=some (⟨.func #[5] #[3] false,[.nilFunc],1,8⟩:TI):=by kernel_rfl
theorem Cw:ab Try.prog 106=some (⟨.func #[49] #[49] false,[.nilFunc],1,8⟩:TI):=by kernel_rfl
theorem Cy:ab Try.prog 107=some (⟨.func #[49,3] #[27] false,[.nilFunc],1,8⟩:TI):=by kernel_rfl
theorem Cz:ab Try.prog 108=some (⟨.func #[49] #[43] false,[.nilFunc],1,8⟩:TI):=by kernel_rfl
theorem CA:ab Try.prog 109=some (⟨.func #[3,3,43] #[49] false,[.nilFunc],1,8⟩:TI):=by kernel_rfl
theorem CB:ab Try.prog 110=some (⟨.slice 112,[.slice none 0 0],1,24⟩:TI):=by kernel_rfl
theorem CC:ab Try.prog 111=some (⟨.struct (aG Try.prog 111),[.int .i64 0,.int .i64 0,.int .i64 0],3,24⟩:TI):=by kernel_rfl
theorem CD:ab Try.prog 112=some (⟨.struct (aG Try.prog 112),[.int .i64 0,.int .i64 0,.int .i64 0],3,24⟩:TI):=by kernel_rfl
theorem CE:ab Try.prog 114=some (⟨.func #[22,110] #[110,33] false,[.nilFunc],1,8⟩:TI):=by kernel_rfl
theorem CF:ab Try.prog 115=some (⟨.func #[22,3,32] #[29,33] false,[.nilFunc],1,8⟩:TI):=by kernel_rfl
theorem CG:ab Try.prog 116=some (⟨.func #[26,23] #[3] false,[.nilFunc],1,8⟩:TI):=by kernel_rfl
theorem CH:ab Try.prog 117=some (⟨.func #[29] #[23] false,[.nilFunc],1,8⟩:TI):=by kernel_rfl
theorem CI:ab Try.prog 118=some (⟨.func #[26] #[4] false,[.nilFunc],1,8⟩:TI):=by kernel_rfl
theorem CJ:ab Try.prog 119=some (⟨.func #[3] #[4] false,[.nilFunc],1,8⟩:TI):=by kernel_rfl
theorem CK:ab Try.prog 120=some (⟨.func #[3,2] #[4] false,[.nilFunc],1,8⟩:TI):=by kernel_rfl
theorem CL:ab Try.prog 121=some (⟨.func #[2] #[67] false,[.nilFunc],1,8⟩:TI):=by kernel_rfl
theorem CM:ab Try.prog 122=some (⟨.func #[67,67] #[67] false,[.nilFunc],1,8⟩:TI):=by kernel_rfl
theorem CN:ab Try.prog 123=some (⟨.func #[4] #[67] false,[.nilFunc],1,8⟩:TI):=by kernel_rfl
theorem CO:ab Try.prog 124=some (⟨.func #[2,2] #[67] false,[.nilFunc],1,8⟩:TI):=by kernel_rfl
theorem CP:ab Try.prog 125=some (⟨.func #[3] #[65] false,[.nilFunc],1,8⟩:TI):=by kernel_rfl
theorem CQ:ab Try.prog 126=some (⟨.func #[87] #[29] false,[.nilFunc],1,8⟩:TI):=by kernel_rfl
theorem CR:ab Try.prog 128=some (⟨.func #[29,3] #[2,4] false,[.nilFunc],1,8⟩:TI):=by kernel_rfl
theorem CS:ab Try.prog 129=some (⟨.func #[3] #[87] false,[.nilFunc],1,8⟩:TI):=by kernel_rfl
theorem CT:ab Try.prog 130=some (⟨.func #[3,23] #[44] false,[.nilFunc],1,8⟩:TI):=by kernel_rfl
theorem CU:ab Try.prog 133=some (⟨.func #[20] #[] false,[.nilFunc],1,8⟩:TI):=by kernel_rfl
theorem CV:ab Try.prog 134=some (⟨.func #[132,3] #[] false,[.nilFunc],1,8⟩:TI):=by kernel_rfl
theorem CW:ab Try.prog 135=some (⟨.func #[3,3] #[] false,[.nilFunc],1,8⟩:TI):=by kernel_rfl
theorem CX:ab Try.prog 136=some (⟨.func #[132,3,3] #[4] false,[.nilFunc],1,8⟩:TI):=by kernel_rfl
theorem CY:ab Try.prog 137=some (⟨.func #[] #[20] false,[.nilFunc],1,8⟩:TI):=by kernel_rfl
theorem CZ:ab Try.prog 138=some (⟨.func #[43] #[43] false,[.nilFunc],1,8⟩:TI):=by kernel_rfl
theorem Da:ab Try.prog 139=some (⟨.func #[3,3] #[49] false,[.nilFunc],1,8⟩:TI):=by kernel_rfl
theorem Db:ab Try.prog 140=some (⟨.func #[22,3,27] #[29,33] false,[.nilFunc],1,8⟩:TI):=by kernel_rfl
theorem Dc:ab Try.prog 141=some (⟨.func #[49] #[4] false,[.nilFunc],1,8⟩:TI):=by kernel_rfl
theorem De:ab Try.prog 142=some (⟨.slice 67,[.slice none 0 0],1,24⟩:TI):=by kernel_rfl
theorem Df:ab Try.prog 143=some (⟨.func #[112,112] #[4] false,[.nilFunc],1,8⟩:TI):=by kernel_rfl
theorem Dg:ab Try.prog 144=some (⟨.func #[67] #[2,4] false,[.nilFunc],1,8⟩:TI):=by kernel_rfl
theorem Dh:ab Try.prog 145=some (⟨.func #[22,3,32] #[33] false,[.nilFunc],1,8⟩:TI):=by kernel_rfl
theorem Di:ab Try.prog 146=some (⟨.func #[22,67] #[2,4] false,[.nilFunc],1,8⟩:TI):=by kernel_rfl
theorem Dj:ab Try.prog 147=some (⟨.func #[22] #[2] false,[.nilFunc],1,8⟩:TI):=by kernel_rfl
theorem Dk:ab Try.prog 149=some (⟨.func #[26,3] #[3,3] false,[.nilFunc],1,8⟩:TI):=by kernel_rfl
theorem Dl:ab Try.prog 150=some (⟨.func #[23,3] #[4] false,[.nilFunc],1,8⟩:TI):=by kernel_rfl
theorem Dm:ab Try.prog 151=some (⟨.int .u64,[.int .u64 0],1,8⟩:TI):=by kernel_rfl
theorem Dn:ab Try.prog 152=some (⟨.func #[67,67] #[3] false,[.nilFunc],1,8⟩:TI):=by kernel_rfl
theorem Do:ab Try.prog 153=some (⟨.array 4 65,[.int .u64 0,.int .u64 0,.int .u64 0,.int .u64 0],4,32⟩:TI):=by kernel_rfl
theorem Dp:ab Try.prog 154=some (⟨.func #[65,65] #[153] false,[.nilFunc],1,8⟩:TI):=by kernel_rfl
theorem Dq:ab Try.prog 155=some (⟨.func #[67,3] #[67] false,[.nilFunc],1,8⟩:TI):=by kernel_rfl
theorem Dr:ab Try.prog 156=some (⟨.func #[87] #[4] false,[.nilFunc],1,8⟩:TI):=by kernel_rfl
theorem Ds:ab Try.prog 157=some (⟨.func #[44] #[23] false,[.nilFunc],1,8⟩:TI):=by kernel_rfl
theorem Dt:ab Try.prog 158=some (⟨.func #[3] #[44] false,[.nilFunc],1,8⟩:TI):=by kernel_rfl
theorem Du:ab Try.prog 159=some (⟨.func #[44,3] #[44] false,[.nilFunc],1,8⟩:TI):=by kernel_rfl
theorem Dv:ab Try.prog 160=some (⟨.func #[3,3] #[4] false,[.nilFunc],1,8⟩:TI):=by kernel_rfl
theorem Dw:ab Try.prog 161=some (⟨.func #[67] #[67] false,[.nilFunc],1,8⟩:TI):=by kernel_rfl
theorem Dx:ab Try.prog 162=some (⟨.func #[3] #[3] false,[.nilFunc],1,8⟩:TI):=by kernel_rfl
theorem Dy:ab Try.prog 163=some (⟨.func #[44,3,4] #[44] false,[.nilFunc],1,8⟩:TI):=by kernel_rfl
theorem Dz:ab Try.prog 164=some (⟨.func #[] #[9] false,[.nilFunc],1,8⟩:TI):=by kernel_rfl
theorem DA:ab Try.prog 167=some (⟨.array 0 16,[],0,0⟩:TI):=by kernel_rfl
theorem DB:ab Try.prog 168=some (⟨.struct (aG Try.prog 168),[],0,0⟩:TI):=by kernel_rfl
theorem DC:ab Try.prog 169=some (⟨.struct (aG Try.prog 169),[],0,0⟩:TI):=by kernel_rfl
theorem DD:ab Try.prog 170=some (⟨.int .u32,[.int .u32 0],1,4⟩:TI):=by kernel_rfl
theorem DE:ab Try.prog 171=some (⟨.int .u8,[.int .u8 0],1,1⟩:TI):=by kernel_rfl
theorem DF:ab Try.prog 172=some (⟨.int .u8,[.int .u8 0],1,1⟩:TI):=by kernel_rfl
theorem DG:ab Try.prog 173=some (⟨.func #[179,179] #[4] false,[.nilFunc],1,8⟩:TI):=by kernel_rfl
theorem DH:ab Try.prog 174=some (⟨.pointer 5,[.pointer none],1,8⟩:TI):=by kernel_rfl
theorem DI:ab Try.prog 175=some (⟨.int .i32,[.int .i32 0],1,4⟩:TI):=by kernel_rfl
theorem DK:ab Try.prog 176=some (⟨.int .i32,[.int .i32 0],1,4⟩:TI):=by kernel_rfl
theorem DL:ab Try.prog 177=some (⟨.struct (aG Try.prog 177),[.int .u64 0,.int .u64 0,.int .u32 0,.int .u8 0,.int .u8 0,.int .u8 0,.int .u8 0,.nilFunc,.pointer none,.int .i32 0,.int .i32 0],11,48⟩:TI):=by kernel_rfl
theorem DM:ab Try.prog 178=some (⟨.struct (aG Try.prog 178),[.int .u64 0,.int .u64 0,.int .u32 0,.int .u8 0,.int .u8 0,.int .u8 0,.int .u8 0,.nilFunc,.pointer none,.int .i32 0,.int .i32 0],11,48⟩:TI):=by kernel_rfl
theorem sz1:dU (ab Try.prog) 1=some (1,false):=by kernel_rfl
theorem sz2:dU (ab Try.prog) 2=some (1,false):=by kernel_rfl
theorem sz3:dU (ab Try.prog) 3=some (1,false):=by kernel_rfl
theorem Bq:dU (ab Try.prog) 32=some (1,false):=by kernel_rfl
theorem el32:cu (ab Try.prog) 32=some 3:=by kernel_rfl
theorem el38:cu (ab Try.prog) 38=some 1:=by kernel_rfl
theorem GE:dU (ab Try.prog) 67=some (2,true):=by kernel_rfl
theorem uQ:dU (ab Try.prog) 69=some (3,true):=by kernel_rfl
theorem gr:fieldAt (ab Try.prog) 69 0=some (0,1,false):=by kernel_rfl
theorem uR:fieldAt (ab Try.prog) 69 1=some (1,2,true):=by kernel_rfl
theorem kv:Try.prog.follows .mixedOrders=true:=by kernel_rfl
theorem kw:uW Try.prog=true:=by kernel_rfl
def wx:Ax:=(dw (dw (dw (dw (dw (λ_=>none) 11 (qF 11)) 6 (qF 6)) 68 (qF 68)) 96 (qF 96)) 97 (qF 97))
theorem pX:qu Try.prog wx:=(be (be (be (be (be (nl _) GA) Kz) GB) GC) GD)
def gS:List TD->Option (Kind×List TD):=λ_=>none
def nT:Ax:=(dw (dw (dw wx 25 gS) 70 gS) 75 gS)
theorem gB:qu Try.prog nT:=(be (be (be pX λvs kind rs h=>by simp [gS]at h) λvs kind rs h=>by simp [gS]at h) λvs kind rs h=>by simp [gS]at h)
def E0:Env:=mg Try.prog nT
theorem Il:E0.Ok:=gG kv kw gB
def E1:Env:=mg Try.prog nT
theorem iS:E1.Ok:=gG kv kw gB
theorem wJ:E1.fn=jE Try.prog:=Et _ _
theorem ty1:E1.ti 1=some (⟨.func #[] #[] false,[.nilFunc],1,8⟩:TI):=tz1
theorem cU:E1.ti 32=some (⟨.slice 69,[.slice none 0 0],1,24⟩:TI):=Gp
theorem lQ:E1.ti 38=some (⟨.slice 32,[.slice none 0 0],1,24⟩:TI):=Gq
theorem nf:E1.ti 69=some (⟨.struct (aG Try.prog 69),[.int .i64 0,.int .i64 0,.int .u64 0],3,24⟩:TI):=Gr
end Ev
end
noncomputable section
namespace Ev
open Go
set_option maxRecDepth 100000
set_option maxHeartbeats 1000000
attribute [local irreducible] dB StL TnL WpL cP
def r68(x:Int×(Int×Int)):List T:= [iT .i64 x.1,iT .i64 x.2.1,iT .u64 x.2.2]
def r32(x:Sl (Int×(Int×Int))):List T:= [Sl.t r68 x]
def r66(x:Int×Int):List T:= [iT .i64 x.1,iT .u64 x.2]
def ct(x0:Int)(x1:Sl (Sl (Int×(Int×Int)))):Option ((Sl (Int×(Int×Int)))×(Int)):=K.ct (x0,x1)
theorem lT(m:Nat){x0:Int}{x1:Sl (Sl (Int×(Int×Int)))}{out:(Sl (Int×(Int×Int)))×(Int)}(h:ct x0 x1=some out):RunsP E1 (m+1) 11 [.one (iT .i64 x0),.one (Sl.t r32 x1)] (.fresh,[.one (Sl.t r68 out.1),.one (iT .i64 out.2)]):=ja (F:=qF 11) rfl (fO (K.rS 59 (x0,x1) out h))
def FL:Option (Bool):=K.FL6 ()
theorem NL(m:Nat){out:Bool}(h:FL=some out):RunsP E1 (m+1) 6 [] (.fresh,[.one (bT out)]):=ja (F:=qF 6) rfl (fO (K.Kv 59 () out h))
def bL(x0:Int)(x1:Int×Int)(x2:Int×Int):Option (Int×Int):=K.bL (x0,x1,x2)
theorem nZ(m:Nat){x0:Int}{x1:Int×Int}{x2:Int×Int}{out:Int×Int}(h:bL x0 x1 x2=some out):RunsP E1 (m+1) 68 [.one (iT .i64 x0),.agg (r66 x1),.agg (r66 x2)] (.fresh,[.agg (r66 out)]):=ja (F:=qF 68) rfl (fO (K.uP 58 (x0,x1,x2) out h))
def lU(x:Sl (Int×(Int×Int))):List C:= [.p false (Sl.t r68 x)]
def GF(x:Sl (Int×(Int×Int))):List (Bool×T):= [(false,Sl.t r68 x)]
end Ev
end
noncomputable section
namespace Ev
open Go
set_option maxRecDepth 100000
set_option maxHeartbeats 1000000
attribute [local irreducible] dB StL TnL WpL cP
theorem wK(x y:Operand)(a0 b0 a1 b1 a2 b2:Int):ae Try.prog (do eqGuard .neq 69 x y (.agg #[.int .i64 a0,.int .i64 a1,.int .u64 a2]) (.agg #[.int .i64 b0,.int .i64 b1,.int .u64 b2]);binOp .neq 69 (.agg #[.int .i64 a0,.int .i64 a1,.int .u64 a2]) (.agg #[.int .i64 b0,.int .i64 b1,.int .u64 b2]))=some (.bool (!(a0==b0 &&((a1==b1 &&(a2==b2 && true))&& true)))):=by
 refine xx (by kernel_rfl) ((ie 9999 69 #[.int .i64 a0,.int .i64 a1,.int .u64 a2] #[.int .i64 b0,.int .i64 b1,.int .u64 b2] (fs:=aG Try.prog 68) (by kernel_rfl) (by kernel_rfl)).trans ?_);rw [show(aG Try.prog 68).toList= [fld Try.prog 68 0,fld Try.prog 68 1]by kernel_rfl];exact((eU (k:= .i64) (k':= .i64) (by kernel_rfl) (by kernel_rfl) (by kernel_rfl) (by kernel_rfl)).trans (jb ((zh (us:=#[.int .i64 a1,.int .u64 a2]) (vs:=#[.int .i64 b1,.int .u64 b2]) (c:=(a1==b1 &&(a2==b2 && true))) (by kernel_rfl) (by kernel_rfl) (by kernel_rfl) ((ie 9998 67 #[.int .i64 a1,.int .u64 a2] #[.int .i64 b1,.int .u64 b2] (fs:=aG Try.prog 66) (by kernel_rfl) (by kernel_rfl)).trans (by rw [show(aG Try.prog 66).toList= [fld Try.prog 66 0,fld Try.prog 66 1]by kernel_rfl];exact((eU (k:= .i64) (k':= .i64) (by kernel_rfl) (by kernel_rfl) (by kernel_rfl) (by kernel_rfl)).trans (jb ((eU (k:= .u64) (k':= .u64) (by kernel_rfl) (by kernel_rfl) (by kernel_rfl) (by kernel_rfl)).trans (jb gl))))))).trans (jb gl))))
theorem yp(x y:Operand){a0 b0 a1 b1 a2 b2:Int}(h:a0=b0/\a1=b1/\a2=b2):ae Try.prog (do eqGuard .neq 69 x y (.agg #[.int .i64 a0,.int .i64 a1,.int .u64 a2]) (.agg #[.int .i64 b0,.int .i64 b1,.int .u64 b2]);binOp .neq 69 (.agg #[.int .i64 a0,.int .i64 a1,.int .u64 a2]) (.agg #[.int .i64 b0,.int .i64 b1,.int .u64 b2]))=some (.bool false):=by rw [wK];simp [h]
theorem yq(x y:Operand){a0 b0 a1 b1 a2 b2:Int}(h:¬(a0=b0/\a1=b1/\a2=b2)):ae Try.prog (do eqGuard .neq 69 x y (.agg #[.int .i64 a0,.int .i64 a1,.int .u64 a2]) (.agg #[.int .i64 b0,.int .i64 b1,.int .u64 b2]);binOp .neq 69 (.agg #[.int .i64 a0,.int .i64 a1,.int .u64 a2]) (.agg #[.int .i64 b0,.int .i64 b1,.int .u64 b2]))=some (.bool true):=by rw [wK];congr 2;revert h;by_cases e0:a0=b0<;>by_cases e1:a1=b1<;>by_cases e2:a2=b2<;>simp_all
end Ev
end
noncomputable section
namespace Ev
open Go
set_option maxRecDepth 100000
set_option maxHeartbeats 1000000
attribute [local irreducible] dB StL TnL WpL cP
def eG(n1:Int):Option (Bool):=
 (if n1 >= 1 then(if n1<=5 then some true else some false)else some false)
theorem yr(m:Nat){n1:Int}{out:Bool}(h:eG n1=some out):RunsP E1 (m+1) 37 [.one (iT .i64 n1)] (.fresh,[.one (bT out)]):=by
 refine Hi rfl (by rw [wJ];exact show jE Try.prog 37=_ by unfold jE;rw [Try.func37];unfold Try.f37;rfl) rfl ?_;dsimp only;unfold eG at h;refine lS (lO ?_);refine pq (qa bf) ?_;refine oN ?_;refine pq (qm (iO n1)) ?_;by_cases c2:n1 >= 1;replace h:=ifT c2 h;refine pq (qb (DZ c2)) ?_;refine pq (qm bt) ?_;refine pq (qm (iO n1)) ?_;by_cases c3:n1<=5;replace h:=ifT c3 h;refine pq (qb (wH c3)) ?_;refine pq (qpt bt) ?_;refine pq (qa bt) ?_;refine oE (eS (lR ?_));obtain rfl:=sj h;exact eF1;replace h:=ifF c3 h;refine pq (qb (wI c3)) ?_;refine pq (qpt bf) ?_;refine pq (qa bf) ?_;refine oE (eS (lR ?_));obtain rfl:=sj h;exact eF1;replace h:=ifF c2 h;refine pq (qb (Ea c2)) ?_;refine pq (qm bf) ?_
 iterate 2 refine os ?_
 refine pq (qpf bf) ?_;refine pq (qa bf) ?_;refine oE (eS (lR ?_));obtain rfl:=sj h;exact eF1
def bq(n1:Int)(s2:Sl (Int×(Int×Int)))(s3:Sl (Int×(Int×Int)))(a:(List (Int×(Int×Int)))×Int×Int):Option (((List (Int×(Int×Int)))×Int×Int)⊕((List (Int×(Int×Int)))⊕(List (Int×(Int×Int))))):=
 match a with
 |(l272,n273,n274)=>(if n273<((s2.l.length:Nat):Int)then(if n274=((s3.l.length:Nat):Int)then((atS 3 s2 n273).bind λ(n280,(n281,n282))=>((app l272 ([(n280,(n281,n282))]:List (Int×(Int×Int)))).bind λ_=>some (.inl ((l272++([(n280,(n281,n282))]:List (Int×(Int×Int)))),(IntKind.i64.wrap (n273+1)),n274))))else((atS 3 s2 n273).bind λ(n288,(n289,n290))=>((atS 3 s3 n274).bind λ(n293,(n294,n295))=>(if n288<n293 then((app l272 ([(n288,(n289,n290))]:List (Int×(Int×Int)))).bind λ_=>some (.inl ((l272++([(n288,(n289,n290))]:List (Int×(Int×Int)))),(IntKind.i64.wrap (n273+1)),n274)))else(if n273=((s2.l.length:Nat):Int)then((app l272 ([(n293,(n294,n295))]:List (Int×(Int×Int)))).bind λ_=>some (.inl ((l272++([(n293,(n294,n295))]:List (Int×(Int×Int)))),n273,(IntKind.i64.wrap (n274+1)))))else(if n293<n288 then((app l272 ([(n293,(n294,n295))]:List (Int×(Int×Int)))).bind λ_=>some (.inl ((l272++([(n293,(n294,n295))]:List (Int×(Int×Int)))),n273,(IntKind.i64.wrap (n274+1)))))else((bL n1 (n289,n290) (n294,n295)).bind λ(n314,n315)=>((app l272 ([(n288,(n314,n315))]:List (Int×(Int×Int)))).bind λ_=>some (.inl ((l272++([(n288,(n314,n315))]:List (Int×(Int×Int)))),(IntKind.i64.wrap (n273+1)),(IntKind.i64.wrap (n274+1))))))))))))else(if n274<((s3.l.length:Nat):Int)then(if n274=((s3.l.length:Nat):Int)then((atS 3 s2 n273).bind λ(n321,(n322,n323))=>((app l272 ([(n321,(n322,n323))]:List (Int×(Int×Int)))).bind λ_=>some (.inl ((l272++([(n321,(n322,n323))]:List (Int×(Int×Int)))),(IntKind.i64.wrap (n273+1)),n274))))else(if n273=((s2.l.length:Nat):Int)then((atS 3 s3 n274).bind λ(n330,(n331,n332))=>((app l272 ([(n330,(n331,n332))]:List (Int×(Int×Int)))).bind λ_=>some (.inl ((l272++([(n330,(n331,n332))]:List (Int×(Int×Int)))),n273,(IntKind.i64.wrap (n274+1))))))else((atS 3 s3 n274).bind λ(n338,(n339,n340))=>((atS 3 s2 n273).bind λ(n343,(n344,n345))=>(if n338<n343 then((app l272 ([(n338,(n339,n340))]:List (Int×(Int×Int)))).bind λ_=>some (.inl ((l272++([(n338,(n339,n340))]:List (Int×(Int×Int)))),n273,(IntKind.i64.wrap (n274+1)))))else((bL n1 (n344,n345) (n339,n340)).bind λ(n356,n357)=>((app l272 ([(n343,(n356,n357))]:List (Int×(Int×Int)))).bind λ_=>some (.inl ((l272++([(n343,(n356,n357))]:List (Int×(Int×Int)))),(IntKind.i64.wrap (n273+1)),(IntKind.i64.wrap (n274+1)))))))))))else some (.inr (.inl l272))))
def cR(n1:Int)(s2:Sl (Int×(Int×Int)))(s3:Sl (Int×(Int×Int))):Option ((List (Int×(Int×Int)))):=
 ((cD (bq n1 s2 s3) (([]:List (Int×(Int×Int))),0,0)).bind (Sum.elim (λl359=>some l359) (λu=>some u)))
theorem uS(m:Nat){n1:Int}{s2:Sl (Int×(Int×Int))}{s3:Sl (Int×(Int×Int))}{out:(List (Int×(Int×Int)))}(h:cR n1 s2 s3=some out):RunsP E1 (m+2) 38 [.one (iT .i64 n1),.one (Sl.t r68 s2),.one (Sl.t r68 s3)] (BM 3 r68 out):=by
 refine Pb rfl (by rw [wJ];exact show jE Try.prog 38=_ by unfold jE;rw [Try.func38];unfold Try.f38;rfl) rfl ?_;dsimp only;unfold cR at h;refine lS (lO ?_);refine pq (qa (.one nC)) ?_;refine oN ?_;refine pq (qa (.one nC)) ?_;refine oN ?_;refine pq (qa (iO 0)) ?_;refine pq (qa (iO 0)) ?_;refine oE (eS (lS (lB ?_)));refine Fh (α:=Int×(Int×Int)) r68 3 ?_
 let S1:((List (Int×(Int×Int)))×Int×Int)->Nat->(Nat->D)->Nat->D:=λa kt g=>ups g [(0,iO n1),(1,.one (sF r68 s2)),(2,.one (sF r68 s3)),(7,.one (moC a.1 kt)),(8,.one (iI a.2.1)),(9,.one (iI a.2.2))]
 let SL1:((List (Int×(Int×Int)))×Int×Int)->Nat->BL:=λa kt=>([moL r68 3 a.1 kt]:BL)
 let G1:(List (Int×(Int×Int)))->Ex->St->Prop:=λu=>gZ E1 [.tmp 6] (BM 3 r68 u)
 let Sx1:(List (Int×(Int×Int)))->Nat->(Nat->D)->Nat->D:=λa kt g=>ups g [(7,.one (moC a kt))]
 let SLx1:(List (Int×(Int×Int)))->Nat->BL:=λa kt=>([moL r68 3 a kt]:BL)
 let J1:((List (Int×(Int×Int)))⊕(List (Int×(Int×Int))))->Ex->St->Prop:=JX 106 0 Sx1 SLx1 G1
 refine ia (bq n1 s2 s3) S1 SL1 J1 sd (([]:List (Int×(Int×Int))),0,0) h 1270 (az ⟨rfl,rfl,rfl,rfl,rfl,rfl,trivial⟩) [0] (by decide) rfl ?_ ?_;rintro⟨l272,n273,n274⟩ k275 g out h;change bq n1 s2 s3 (l272,n273,n274)=some out at h;unfold bq at h;refine lS (lS (lO ?_));refine pq (qm (iO n273)) ?_;refine pq (qm (.one (sF r68 s2))) ?_;refine pq (cW rfl cU rfl rfl rfl rfl) ?_;by_cases c276:n273<((s2.l.length:Nat):Int);replace h:=ifT c276 h;refine pq (qb (dh c276)) ?_;refine pq (qm bt) ?_
 iterate 4 refine os ?_
 refine pq (qpt bt) ?_;refine oE (eS (cT rfl (lK (eS (lB (lB (lS ?_)))))));refine jr (by kernel_rfl) ?_;refine sq (qm (iO n274)) ?_;refine sq (qm (.one (sF r68 s3))) ?_;refine sq (cW rfl cU rfl rfl rfl rfl) ?_;by_cases c277:n274=((s3.l.length:Nat):Int);replace h:=ifT c277 h;refine sq (qb (gC c277)) ?_;refine sq (qm bt) ?_
 iterate 17 refine ss ?_
 refine sq (qpt bt) ?_;refine sq (qa bt) ?_;refine ee (eS (cT rfl (lS (lO ?_))));refine pq (qm (.one (moC l272 k275))) ?_;refine pq (qm (.one (sF r68 s2))) ?_;refine pq (qm (iO n273)) ?_;obtain⟨⟨n280,⟨n281,n282⟩⟩,h279,h⟩:=bg h;obtain⟨h279a,h279b,h279⟩:=ck h279;refine pq (cB rfl rfl h279a h279 (el32.trans (congrArg some h279b.symm))) ?_;refine pq (aM (v:= .agg [iI n280,iI n281,uI n282]) rfl uQ (aJ h279) rfl rfl) ?_;refine eL rfl rfl rfl (cE (cs:= [iI n280,iI n281,uI n282]) (es:=(([(n280,(n281,n282))]:List (Int×(Int×Int)))).map (aZ r68)) cU rfl nf rfl rfl rfl rfl rfl) (λk283=> ?_);obtain⟨_,h284,h⟩:=bg h;obtain⟨h284b,rfl⟩:=aT h284;refine ic (r:=r68) (l:=l272) (ys:=([(n280,(n281,n282))]:List (Int×(Int×Int)))) 1 rfl rfl rfl rfl rfl rfl (cX (l:=([(n280,(n281,n282))]:List (Int×(Int×Int)))) 0 rfl) rfl h284 (λy=>rfl) el32 cU rfl rfl rfl rfl rfl (λk285=> ?_);refine pq (qa (.one (moC (l272++([(n280,(n281,n282))]:List (Int×(Int×Int)))) k285))) ?_;refine oR ?_;refine pq (qm (iO n273)) ?_;refine pq (qb cS) ?_;refine pq (qa (iO (IntKind.i64.wrap (n273+1)))) ?_;refine oE (bN (bN ?_));obtain rfl:=sj h;exact dD k285 (az ⟨rfl,rfl,rfl,rfl,rfl,rfl,trivial⟩) [0] (by decide) rfl;replace h:=ifF c277 h;refine sq (qb (gD c277)) ?_;refine sq (qm bf) ?_;refine sq (qm (iO n273)) ?_;refine sq (qm (.one (sF r68 s2))) ?_;refine sq (cW rfl cU rfl rfl rfl rfl) ?_;refine sq (qb (dh c276)) ?_;refine sq (qm bt) ?_;refine sq (qm (.one (sF r68 s2))) ?_;refine sq (qm (iO n273)) ?_;obtain⟨⟨n288,⟨n289,n290⟩⟩,h287,h⟩:=bg h;obtain⟨h287a,h287b,h287⟩:=ck h287;refine sq (cB rfl rfl h287a h287 (el32.trans (congrArg some h287b.symm))) ?_;refine sq (cz rfl gr rfl) ?_;refine sq (aM (v:=iO n288) rfl sz3 (aJ h287) rfl rfl) ?_;refine sq (qm (.one (sF r68 s3))) ?_;refine sq (qm (iO n274)) ?_;obtain⟨⟨n293,⟨n294,n295⟩⟩,h292,h⟩:=bg h;obtain⟨h292a,h292b,h292⟩:=ck h292;refine sq (cB rfl rfl h292a h292 (el32.trans (congrArg some h292b.symm))) ?_;refine sq (cz rfl gr rfl) ?_;refine sq (aM (v:=iO n293) rfl sz3 (aJ h292) rfl rfl) ?_;by_cases c296:n288<n293;replace h:=ifT c296 h;refine sq (qb (dh c296)) ?_;refine sq (qpt bt) ?_;refine sq (qpf bt) ?_;refine sq (qa bt) ?_;refine ee (eS (cT rfl (lS (lO ?_))));refine pq (qm (.one (moC l272 k275))) ?_;refine pq (qm (.one (sF r68 s2))) ?_;refine pq (qm (iO n273)) ?_;refine pq (cB rfl rfl h287a h287 (el32.trans (congrArg some h287b.symm))) ?_;refine pq (aM (v:= .agg [iI n288,iI n289,uI n290]) rfl uQ (aJ h287) rfl rfl) ?_;refine eL rfl rfl rfl (cE (cs:= [iI n288,iI n289,uI n290]) (es:=(([(n288,(n289,n290))]:List (Int×(Int×Int)))).map (aZ r68)) cU rfl nf rfl rfl rfl rfl rfl) (λk297=> ?_);obtain⟨_,h298,h⟩:=bg h;obtain⟨h298b,rfl⟩:=aT h298;refine ic (r:=r68) (l:=l272) (ys:=([(n288,(n289,n290))]:List (Int×(Int×Int)))) 1 rfl rfl rfl rfl rfl rfl (cX (l:=([(n288,(n289,n290))]:List (Int×(Int×Int)))) 0 rfl) rfl h298 (λy=>rfl) el32 cU rfl rfl rfl rfl rfl (λk299=> ?_);refine pq (qa (.one (moC (l272++([(n288,(n289,n290))]:List (Int×(Int×Int)))) k299))) ?_;refine oR ?_;refine pq (qm (iO n273)) ?_;refine pq (qb cS) ?_;refine pq (qa (iO (IntKind.i64.wrap (n273+1)))) ?_;refine oE (bN (bN ?_));obtain rfl:=sj h;exact dD k299 (az ⟨rfl,rfl,rfl,rfl,rfl,rfl,trivial⟩) [0] (by decide) rfl;replace h:=ifF c296 h;refine sq (qb (dj c296)) ?_;refine sq (qpt bf) ?_;refine sq (qpf bf) ?_;refine sq (qa bf) ?_;refine ee (eS (cF rfl (lS ?_)));refine jr (by kernel_rfl) ?_;refine sq (qm (iO n273)) ?_;refine sq (qm (.one (sF r68 s2))) ?_;refine sq (cW rfl cU rfl rfl rfl rfl) ?_;by_cases c300:n273=((s2.l.length:Nat):Int);replace h:=ifT c300 h;refine sq (qb (gC c300)) ?_;refine sq (qm bt) ?_
 iterate 11 refine ss ?_
 refine sq (qpt bt) ?_;refine sq (qa bt) ?_;refine ee (eS (cT rfl (lS (lO ?_))));refine pq (qm (.one (moC l272 k275))) ?_;refine pq (qm (.one (sF r68 s3))) ?_;refine pq (qm (iO n274)) ?_;refine pq (cB rfl rfl h292a h292 (el32.trans (congrArg some h292b.symm))) ?_;refine pq (aM (v:= .agg [iI n293,iI n294,uI n295]) rfl uQ (aJ h292) rfl rfl) ?_;refine eL rfl rfl rfl (cE (cs:= [iI n293,iI n294,uI n295]) (es:=(([(n293,(n294,n295))]:List (Int×(Int×Int)))).map (aZ r68)) cU rfl nf rfl rfl rfl rfl rfl) (λk301=> ?_);obtain⟨_,h302,h⟩:=bg h;obtain⟨h302b,rfl⟩:=aT h302;refine ic (r:=r68) (l:=l272) (ys:=([(n293,(n294,n295))]:List (Int×(Int×Int)))) 1 rfl rfl rfl rfl rfl rfl (cX (l:=([(n293,(n294,n295))]:List (Int×(Int×Int)))) 0 rfl) rfl h302 (λy=>rfl) el32 cU rfl rfl rfl rfl rfl (λk303=> ?_);refine pq (qa (.one (moC (l272++([(n293,(n294,n295))]:List (Int×(Int×Int)))) k303))) ?_;refine oR ?_;refine pq (qm (iO n274)) ?_;refine pq (qb cS) ?_;refine pq (qa (iO (IntKind.i64.wrap (n274+1)))) ?_;refine oE (bN (bN ?_));obtain rfl:=sj h;exact dD k303 (az ⟨rfl,rfl,rfl,rfl,rfl,rfl,trivial⟩) [0] (by decide) rfl;replace h:=ifF c300 h;refine sq (qb (gD c300)) ?_;refine sq (qm bf) ?_;refine sq (qm (.one (sF r68 s3))) ?_;refine sq (qm (iO n274)) ?_;refine sq (cB rfl rfl h292a h292 (el32.trans (congrArg some h292b.symm))) ?_;refine sq (cz rfl gr rfl) ?_;refine sq (aM (v:=iO n293) rfl sz3 (aJ h292) rfl rfl) ?_;refine sq (qm (.one (sF r68 s2))) ?_;refine sq (qm (iO n273)) ?_;refine sq (cB rfl rfl h287a h287 (el32.trans (congrArg some h287b.symm))) ?_;refine sq (cz rfl gr rfl) ?_;refine sq (aM (v:=iO n288) rfl sz3 (aJ h287) rfl rfl) ?_;by_cases c304:n293<n288;replace h:=ifT c304 h;refine sq (qb (dh c304)) ?_;refine sq (qpf bt) ?_;refine sq (qa bt) ?_;refine ee (eS (cT rfl (lS (lO ?_))));refine pq (qm (.one (moC l272 k275))) ?_;refine pq (qm (.one (sF r68 s3))) ?_;refine pq (qm (iO n274)) ?_;refine pq (cB rfl rfl h292a h292 (el32.trans (congrArg some h292b.symm))) ?_;refine pq (aM (v:= .agg [iI n293,iI n294,uI n295]) rfl uQ (aJ h292) rfl rfl) ?_;refine eL rfl rfl rfl (cE (cs:= [iI n293,iI n294,uI n295]) (es:=(([(n293,(n294,n295))]:List (Int×(Int×Int)))).map (aZ r68)) cU rfl nf rfl rfl rfl rfl rfl) (λk305=> ?_);obtain⟨_,h306,h⟩:=bg h;obtain⟨h306b,rfl⟩:=aT h306;refine ic (r:=r68) (l:=l272) (ys:=([(n293,(n294,n295))]:List (Int×(Int×Int)))) 1 rfl rfl rfl rfl rfl rfl (cX (l:=([(n293,(n294,n295))]:List (Int×(Int×Int)))) 0 rfl) rfl h306 (λy=>rfl) el32 cU rfl rfl rfl rfl rfl (λk307=> ?_);refine pq (qa (.one (moC (l272++([(n293,(n294,n295))]:List (Int×(Int×Int)))) k307))) ?_;refine oR ?_;refine pq (qm (iO n274)) ?_;refine pq (qb cS) ?_;refine pq (qa (iO (IntKind.i64.wrap (n274+1)))) ?_;refine oE (bN (bN ?_));obtain rfl:=sj h;exact dD k307 (az ⟨rfl,rfl,rfl,rfl,rfl,rfl,trivial⟩) [0] (by decide) rfl;replace h:=ifF c304 h;refine sq (qb (dj c304)) ?_;refine sq (qpf bf) ?_;refine sq (qa bf) ?_;refine ee (eS (cF rfl (lS ?_)));refine ER (L2:=([moL r68 3 l272 k275]:BL)) [0] (by decide) rfl ?_;refine EQ 22 rfl [[],[],[],[],[],[],[],[],[],[],[],[],[],[],[],[],[],[],[],[],moK l272 k275,[]] [(false,[]),(false,[]),(false,[]),(false,[]),(false,[]),(false,[]),(false,[]),(false,[]),(false,[]),(false,[]),(false,[]),(false,[]),(false,[]),(false,[]),(false,[]),(false,[]),(false,[]),(false,[]),(false,[]),(true,[]),(true,[]),(false,[])] [[1,2,3,4,5,6,7,8,9,10,11,12,13,14,15,16,17,18,19],[0,2,6,7,8,9,10,11,12,13,14,15,16,17],[0,1,6,7,8,9,10,11,12,13,14,15,16,17],[0,6,7,8,9,10,11,12,13,14,15,16,17],[0,6,7,8,9,10,11,12,13,14,15,16,17],[0,6,7,8,9,10,11,12,13,14,15,16,17],[0,1,2,3,4,5,7,8,9,10,11,12,13,14,15,16],[0,1,2,3,4,5,6,8,12,13,14,15,16],[0,1,2,3,4,5,6,7,12,13,14,15,16],[0,1,2,3,4,5,6,12,13,14,15,16],[0,1,2,3,4,5,6,12,13,14,15,16],[0,1,2,3,4,5,6,12,13,14,15,16],[0,1,2,3,4,5,6,7,8,9,10,11,13],[0,1,2,3,4,5,6,7,8,9,10,11,12],[0,1,2,3,4,5,6,7,8,9,10,11],[0,1,2,3,4,5,6,7,8,9,10,11],[0,1,2,3,4,5,6,7,8,9,10,11],[0,1,2,3,4,5],[0],[0],[],[]] (by kernel_rfl) (by kernel_rfl) (by kernel_rfl) ?_ (λbb308 hlt hnd=> ?_);intro bb308 hlt hnd;have e_k275:l272= []∨k275<bb308:=ph (r:=r68) (w:=3) hlt 0 rfl;have f_k275:=vo e_k275;exact⟨(by first|(simp [DJ];done)|(simp [DJ];omega)|(simp [DJ];assumption)|(simp_all [DJ];done)|(simp_all [DJ];omega)),(by first|(simp [DJ];done)|(simp [DJ];omega)|(simp [DJ];assumption)|(simp_all [DJ];done)|(simp_all [DJ];omega))⟩;have e_k275:l272= []∨k275<bb308:=ph (r:=r68) (w:=3) hlt 0 rfl;have f_k275:=vo e_k275;refine tq [] rfl hmn (qm (.one (moC l272 k275))) ?_;refine tq [] rfl (hm0 rfl) (qm (.one (sF r68 s2))) ?_;refine tq [] rfl (hm0 rfl) (qm (iO n273)) ?_;refine tq [] rfl (hm0 rfl) (cB rfl rfl h287a h287 (el32.trans (congrArg some h287b.symm))) ?_;refine tq [] rfl (hm0 rfl) (cz rfl gr rfl) ?_;refine tq [] rfl (hm0 rfl) (aM (v:=iO n288) rfl sz3 (aJ h287) rfl rfl) ?_;refine tq [] rfl (hm0 rfl) (qm (iO n1)) ?_;refine tq [] rfl (hm0 rfl) (qm (.one (sF r68 s2))) ?_;refine tq [] rfl (hm0 rfl) (qm (iO n273)) ?_;refine tq [] rfl (hm0 rfl) (cB rfl rfl h287a h287 (el32.trans (congrArg some h287b.symm))) ?_;refine tq [] rfl (hm0 rfl) (cz rfl uR rfl) ?_;refine tq [] rfl (hm0 rfl) (aM (v:= .agg [iI n289,uI n290]) rfl GE (aJ h287) rfl rfl) ?_;refine tq [] rfl (hm0 rfl) (qm (.one (sF r68 s3))) ?_;refine tq [] rfl (hm0 rfl) (qm (iO n274)) ?_;refine tq [] rfl (hm0 rfl) (cB rfl rfl h292a h292 (el32.trans (congrArg some h292b.symm))) ?_;refine tq [] rfl (hm0 rfl) (cz rfl uR rfl) ?_;refine tq [] rfl (hm0 rfl) (aM (v:= .agg [iI n294,uI n295]) rfl GE (aJ h292) rfl rfl) ?_;obtain⟨⟨n314,n315⟩,h313,h⟩:=bg h;refine tq [] rfl (hm0 rfl) (qc (.agg [iI n314,uI n315]) [iO n1,.agg [iI n289,uI n290],.agg [iI n294,uI n295]] (nZ (m+0) h313) (aL (bP gL) (aL (vk (gh gL (gh gL vj))) (aL (vk (gh gL (gh gL vj))) dq)))) ?_;refine tq [] rfl (hm0 rfl) (vi (cs:= [iI n288,iI n314,uI n315]) nf rfl NK rfl) ?_;refine yY rfl rfl rfl [] (by decide) rfl (hm0 rfl) rfl rfl (hkM (e_k275.imp id λh=>by omega) hkn) (cE (cs:= [iI n288,iI n314,uI n315]) (es:=(([(n288,(n314,n315))]:List (Int×(Int×Int)))).map (aZ r68)) cU rfl nf rfl rfl rfl rfl rfl) ?_;obtain⟨_,h316,h⟩:=bg h;obtain⟨h316b,rfl⟩:=aT h316;refine Av (r:=r68) (l:=l272) 0 1 rfl rfl rfl rfl [1,0] (by decide) rfl (hm0 rfl) rfl rfl (hkc (Fo rfl) (hkM (e_k275.imp id λh=>by omega) hkn)) rfl rfl (cX (l:=([(n288,(n314,n315))]:List (Int×(Int×Int)))) 1 rfl) rfl rfl h316 (λy=>rfl) el32 cU rfl rfl rfl rfl rfl ?_;refine tq [] rfl (hm0 rfl) (qa (.one (moC (l272++([(n288,(n314,n315))]:List (Int×(Int×Int)))) (bb308+20)))) ?_;refine EO (eS (lS (lO ?_)));refine pq (qm (iO n273)) ?_;refine pq (qb cS) ?_;refine pq (qa (iO (IntKind.i64.wrap (n273+1)))) ?_;refine oR ?_;refine pq (qm (iO n274)) ?_;refine pq (qb cS) ?_;refine pq (qa (iO (IntKind.i64.wrap (n274+1)))) ?_;refine oE (bN (bN ?_));obtain rfl:=sj h;exact dD (bb308+20) (az ⟨rfl,rfl,rfl,rfl,rfl,rfl,trivial⟩) [0] (by decide) rfl;replace h:=ifF c276 h;refine pq (qb (dj c276)) ?_;refine pq (qm bf) ?_;refine pq (qm (iO n274)) ?_;refine pq (qm (.one (sF r68 s3))) ?_;refine pq (cW rfl cU rfl rfl rfl rfl) ?_;by_cases c317:n274<((s3.l.length:Nat):Int);replace h:=ifT c317 h;refine pq (qb (dh c317)) ?_;refine pq (qpf bt) ?_;refine oE (eS (cT rfl (lK (eS (lB (lB (lS ?_)))))));refine jr (by kernel_rfl) ?_;refine sq (qm (iO n274)) ?_;refine sq (qm (.one (sF r68 s3))) ?_;refine sq (cW rfl cU rfl rfl rfl rfl) ?_;by_cases c318:n274=((s3.l.length:Nat):Int);replace h:=ifT c318 h;refine sq (qb (gC c318)) ?_;refine sq (qm bt) ?_
 iterate 17 refine ss ?_
 refine sq (qpt bt) ?_;refine sq (qa bt) ?_;refine ee (eS (cT rfl (lS (lO ?_))));refine pq (qm (.one (moC l272 k275))) ?_;refine pq (qm (.one (sF r68 s2))) ?_;refine pq (qm (iO n273)) ?_;obtain⟨⟨n321,⟨n322,n323⟩⟩,h320,h⟩:=bg h;obtain⟨h320a,h320b,h320⟩:=ck h320;refine pq (cB rfl rfl h320a h320 (el32.trans (congrArg some h320b.symm))) ?_;refine pq (aM (v:= .agg [iI n321,iI n322,uI n323]) rfl uQ (aJ h320) rfl rfl) ?_;refine eL rfl rfl rfl (cE (cs:= [iI n321,iI n322,uI n323]) (es:=(([(n321,(n322,n323))]:List (Int×(Int×Int)))).map (aZ r68)) cU rfl nf rfl rfl rfl rfl rfl) (λk324=> ?_);obtain⟨_,h325,h⟩:=bg h;obtain⟨h325b,rfl⟩:=aT h325;refine ic (r:=r68) (l:=l272) (ys:=([(n321,(n322,n323))]:List (Int×(Int×Int)))) 1 rfl rfl rfl rfl rfl rfl (cX (l:=([(n321,(n322,n323))]:List (Int×(Int×Int)))) 0 rfl) rfl h325 (λy=>rfl) el32 cU rfl rfl rfl rfl rfl (λk326=> ?_);refine pq (qa (.one (moC (l272++([(n321,(n322,n323))]:List (Int×(Int×Int)))) k326))) ?_;refine oR ?_;refine pq (qm (iO n273)) ?_;refine pq (qb cS) ?_;refine pq (qa (iO (IntKind.i64.wrap (n273+1)))) ?_;refine oE (bN (bN ?_));obtain rfl:=sj h;exact dD k326 (az ⟨rfl,rfl,rfl,rfl,rfl,rfl,trivial⟩) [0] (by decide) rfl;replace h:=ifF c318 h;refine sq (qb (gD c318)) ?_;refine sq (qm bf) ?_;refine sq (qm (iO n273)) ?_;refine sq (qm (.one (sF r68 s2))) ?_;refine sq (cW rfl cU rfl rfl rfl rfl) ?_;refine sq (qb (dj c276)) ?_;refine sq (qm bf) ?_
 iterate 11 refine ss ?_
 refine sq (qpf bf) ?_;refine sq (qpf bf) ?_;refine sq (qa bf) ?_;refine ee (eS (cF rfl (lS ?_)));refine jr (by kernel_rfl) ?_;refine sq (qm (iO n273)) ?_;refine sq (qm (.one (sF r68 s2))) ?_;refine sq (cW rfl cU rfl rfl rfl rfl) ?_;by_cases c327:n273=((s2.l.length:Nat):Int);replace h:=ifT c327 h;refine sq (qb (gC c327)) ?_;refine sq (qm bt) ?_
 iterate 11 refine ss ?_
 refine sq (qpt bt) ?_;refine sq (qa bt) ?_;refine ee (eS (cT rfl (lS (lO ?_))));refine pq (qm (.one (moC l272 k275))) ?_;refine pq (qm (.one (sF r68 s3))) ?_;refine pq (qm (iO n274)) ?_;obtain⟨⟨n330,⟨n331,n332⟩⟩,h329,h⟩:=bg h;obtain⟨h329a,h329b,h329⟩:=ck h329;refine pq (cB rfl rfl h329a h329 (el32.trans (congrArg some h329b.symm))) ?_;refine pq (aM (v:= .agg [iI n330,iI n331,uI n332]) rfl uQ (aJ h329) rfl rfl) ?_;refine eL rfl rfl rfl (cE (cs:= [iI n330,iI n331,uI n332]) (es:=(([(n330,(n331,n332))]:List (Int×(Int×Int)))).map (aZ r68)) cU rfl nf rfl rfl rfl rfl rfl) (λk333=> ?_);obtain⟨_,h334,h⟩:=bg h;obtain⟨h334b,rfl⟩:=aT h334;refine ic (r:=r68) (l:=l272) (ys:=([(n330,(n331,n332))]:List (Int×(Int×Int)))) 1 rfl rfl rfl rfl rfl rfl (cX (l:=([(n330,(n331,n332))]:List (Int×(Int×Int)))) 0 rfl) rfl h334 (λy=>rfl) el32 cU rfl rfl rfl rfl rfl (λk335=> ?_);refine pq (qa (.one (moC (l272++([(n330,(n331,n332))]:List (Int×(Int×Int)))) k335))) ?_;refine oR ?_;refine pq (qm (iO n274)) ?_;refine pq (qb cS) ?_;refine pq (qa (iO (IntKind.i64.wrap (n274+1)))) ?_;refine oE (bN (bN ?_));obtain rfl:=sj h;exact dD k335 (az ⟨rfl,rfl,rfl,rfl,rfl,rfl,trivial⟩) [0] (by decide) rfl;replace h:=ifF c327 h;refine sq (qb (gD c327)) ?_;refine sq (qm bf) ?_;refine sq (qm (.one (sF r68 s3))) ?_;refine sq (qm (iO n274)) ?_;obtain⟨⟨n338,⟨n339,n340⟩⟩,h337,h⟩:=bg h;obtain⟨h337a,h337b,h337⟩:=ck h337;refine sq (cB rfl rfl h337a h337 (el32.trans (congrArg some h337b.symm))) ?_;refine sq (cz rfl gr rfl) ?_;refine sq (aM (v:=iO n338) rfl sz3 (aJ h337) rfl rfl) ?_;refine sq (qm (.one (sF r68 s2))) ?_;refine sq (qm (iO n273)) ?_;obtain⟨⟨n343,⟨n344,n345⟩⟩,h342,h⟩:=bg h;obtain⟨h342a,h342b,h342⟩:=ck h342;refine sq (cB rfl rfl h342a h342 (el32.trans (congrArg some h342b.symm))) ?_;refine sq (cz rfl gr rfl) ?_;refine sq (aM (v:=iO n343) rfl sz3 (aJ h342) rfl rfl) ?_;by_cases c346:n338<n343;replace h:=ifT c346 h;refine sq (qb (dh c346)) ?_;refine sq (qpf bt) ?_;refine sq (qa bt) ?_;refine ee (eS (cT rfl (lS (lO ?_))));refine pq (qm (.one (moC l272 k275))) ?_;refine pq (qm (.one (sF r68 s3))) ?_;refine pq (qm (iO n274)) ?_;refine pq (cB rfl rfl h337a h337 (el32.trans (congrArg some h337b.symm))) ?_;refine pq (aM (v:= .agg [iI n338,iI n339,uI n340]) rfl uQ (aJ h337) rfl rfl) ?_;refine eL rfl rfl rfl (cE (cs:= [iI n338,iI n339,uI n340]) (es:=(([(n338,(n339,n340))]:List (Int×(Int×Int)))).map (aZ r68)) cU rfl nf rfl rfl rfl rfl rfl) (λk347=> ?_);obtain⟨_,h348,h⟩:=bg h;obtain⟨h348b,rfl⟩:=aT h348;refine ic (r:=r68) (l:=l272) (ys:=([(n338,(n339,n340))]:List (Int×(Int×Int)))) 1 rfl rfl rfl rfl rfl rfl (cX (l:=([(n338,(n339,n340))]:List (Int×(Int×Int)))) 0 rfl) rfl h348 (λy=>rfl) el32 cU rfl rfl rfl rfl rfl (λk349=> ?_);refine pq (qa (.one (moC (l272++([(n338,(n339,n340))]:List (Int×(Int×Int)))) k349))) ?_;refine oR ?_;refine pq (qm (iO n274)) ?_;refine pq (qb cS) ?_;refine pq (qa (iO (IntKind.i64.wrap (n274+1)))) ?_;refine oE (bN (bN ?_));obtain rfl:=sj h;exact dD k349 (az ⟨rfl,rfl,rfl,rfl,rfl,rfl,trivial⟩) [0] (by decide) rfl;replace h:=ifF c346 h;refine sq (qb (dj c346)) ?_;refine sq (qpf bf) ?_;refine sq (qa bf) ?_;refine ee (eS (cF rfl (lS ?_)));refine ER (L2:=([moL r68 3 l272 k275]:BL)) [0] (by decide) rfl ?_;refine EQ 22 rfl [[],[],[],[],[],[],[],[],[],[],[],[],[],[],[],[],[],[],[],[],moK l272 k275,[]] [(false,[]),(false,[]),(false,[]),(false,[]),(false,[]),(false,[]),(false,[]),(false,[]),(false,[]),(false,[]),(false,[]),(false,[]),(false,[]),(false,[]),(false,[]),(false,[]),(false,[]),(false,[]),(false,[]),(true,[]),(true,[]),(false,[])] [[1,2,3,4,5,6,7,8,9,10,11,12,13,14,15,16,17,18,19],[0,2,6,7,8,9,10,11,12,13,14,15,16,17],[0,1,6,7,8,9,10,11,12,13,14,15,16,17],[0,6,7,8,9,10,11,12,13,14,15,16,17],[0,6,7,8,9,10,11,12,13,14,15,16,17],[0,6,7,8,9,10,11,12,13,14,15,16,17],[0,1,2,3,4,5,7,8,9,10,11,12,13,14,15,16],[0,1,2,3,4,5,6,8,12,13,14,15,16],[0,1,2,3,4,5,6,7,12,13,14,15,16],[0,1,2,3,4,5,6,12,13,14,15,16],[0,1,2,3,4,5,6,12,13,14,15,16],[0,1,2,3,4,5,6,12,13,14,15,16],[0,1,2,3,4,5,6,7,8,9,10,11,13],[0,1,2,3,4,5,6,7,8,9,10,11,12],[0,1,2,3,4,5,6,7,8,9,10,11],[0,1,2,3,4,5,6,7,8,9,10,11],[0,1,2,3,4,5,6,7,8,9,10,11],[0,1,2,3,4,5],[0],[0],[],[]] (by kernel_rfl) (by kernel_rfl) (by kernel_rfl) ?_ (λbb350 hlt hnd=> ?_);intro bb350 hlt hnd;have e_k275:l272= []∨k275<bb350:=ph (r:=r68) (w:=3) hlt 0 rfl;have f_k275:=vo e_k275;exact⟨(by first|(simp [DJ];done)|(simp [DJ];omega)|(simp [DJ];assumption)|(simp_all [DJ];done)|(simp_all [DJ];omega)),(by first|(simp [DJ];done)|(simp [DJ];omega)|(simp [DJ];assumption)|(simp_all [DJ];done)|(simp_all [DJ];omega))⟩;have e_k275:l272= []∨k275<bb350:=ph (r:=r68) (w:=3) hlt 0 rfl;have f_k275:=vo e_k275;refine tq [] rfl hmn (qm (.one (moC l272 k275))) ?_;refine tq [] rfl (hm0 rfl) (qm (.one (sF r68 s2))) ?_;refine tq [] rfl (hm0 rfl) (qm (iO n273)) ?_;refine tq [] rfl (hm0 rfl) (cB rfl rfl h342a h342 (el32.trans (congrArg some h342b.symm))) ?_;refine tq [] rfl (hm0 rfl) (cz rfl gr rfl) ?_;refine tq [] rfl (hm0 rfl) (aM (v:=iO n343) rfl sz3 (aJ h342) rfl rfl) ?_;refine tq [] rfl (hm0 rfl) (qm (iO n1)) ?_;refine tq [] rfl (hm0 rfl) (qm (.one (sF r68 s2))) ?_;refine tq [] rfl (hm0 rfl) (qm (iO n273)) ?_;refine tq [] rfl (hm0 rfl) (cB rfl rfl h342a h342 (el32.trans (congrArg some h342b.symm))) ?_;refine tq [] rfl (hm0 rfl) (cz rfl uR rfl) ?_;refine tq [] rfl (hm0 rfl) (aM (v:= .agg [iI n344,uI n345]) rfl GE (aJ h342) rfl rfl) ?_;refine tq [] rfl (hm0 rfl) (qm (.one (sF r68 s3))) ?_;refine tq [] rfl (hm0 rfl) (qm (iO n274)) ?_;refine tq [] rfl (hm0 rfl) (cB rfl rfl h337a h337 (el32.trans (congrArg some h337b.symm))) ?_;refine tq [] rfl (hm0 rfl) (cz rfl uR rfl) ?_;refine tq [] rfl (hm0 rfl) (aM (v:= .agg [iI n339,uI n340]) rfl GE (aJ h337) rfl rfl) ?_;obtain⟨⟨n356,n357⟩,h355,h⟩:=bg h;refine tq [] rfl (hm0 rfl) (qc (.agg [iI n356,uI n357]) [iO n1,.agg [iI n344,uI n345],.agg [iI n339,uI n340]] (nZ (m+0) h355) (aL (bP gL) (aL (vk (gh gL (gh gL vj))) (aL (vk (gh gL (gh gL vj))) dq)))) ?_;refine tq [] rfl (hm0 rfl) (vi (cs:= [iI n343,iI n356,uI n357]) nf rfl NK rfl) ?_;refine yY rfl rfl rfl [] (by decide) rfl (hm0 rfl) rfl rfl (hkM (e_k275.imp id λh=>by omega) hkn) (cE (cs:= [iI n343,iI n356,uI n357]) (es:=(([(n343,(n356,n357))]:List (Int×(Int×Int)))).map (aZ r68)) cU rfl nf rfl rfl rfl rfl rfl) ?_;obtain⟨_,h358,h⟩:=bg h;obtain⟨h358b,rfl⟩:=aT h358;refine Av (r:=r68) (l:=l272) 0 1 rfl rfl rfl rfl [1,0] (by decide) rfl (hm0 rfl) rfl rfl (hkc (Fo rfl) (hkM (e_k275.imp id λh=>by omega) hkn)) rfl rfl (cX (l:=([(n343,(n356,n357))]:List (Int×(Int×Int)))) 1 rfl) rfl rfl h358 (λy=>rfl) el32 cU rfl rfl rfl rfl rfl ?_;refine tq [] rfl (hm0 rfl) (qa (.one (moC (l272++([(n343,(n356,n357))]:List (Int×(Int×Int)))) (bb350+20)))) ?_;refine EO (eS (lS (lO ?_)));refine pq (qm (iO n273)) ?_;refine pq (qb cS) ?_;refine pq (qa (iO (IntKind.i64.wrap (n273+1)))) ?_;refine oR ?_;refine pq (qm (iO n274)) ?_;refine pq (qb cS) ?_;refine pq (qa (iO (IntKind.i64.wrap (n274+1)))) ?_;refine oE (bN (bN ?_));obtain rfl:=sj h;exact dD (bb350+20) (az ⟨rfl,rfl,rfl,rfl,rfl,rfl,trivial⟩) [0] (by decide) rfl;replace h:=ifF c317 h;refine pq (qb (dj c317)) ?_;refine pq (qpf bf) ?_;refine oE (eS (cF rfl (kK ?_)));refine kL ?_;obtain rfl:=sj h;refine jR ?_;exact(kP k275 (az ⟨rfl,trivial⟩) [0] (by decide) rfl);rintro(l359|u) h;refine J_x (λk360 g=> ?_);replace h:=qB h;refine bH (eS (lS (lO ?_)));refine pq (qm (.one (moC l359 k360))) ?_;refine pq (qa (.one (moC l359 k360))) ?_;refine oE (eS (lR ?_));obtain rfl:=sj h;exact Lk (r:=r68) 0 (.inr rfl) (gk rfl mt) rfl (λx h m=>rfl) (λx=>rfl);obtain rfl:=Option.some.inj (qC h);exact zb (λs hs=>hs)
def aF(s2:Sl (Sl (Int×(Int×Int))))(n102:Int)(n135:Int):Option (Int ⊕(Unit ⊕(Int ⊕(Unit ⊕((Sl (Int×(Int×Int)))×Int))))):=
 ((atS 1 s2 n102).bind λs138=>(if n135<((s138.l.length:Nat):Int)then((atS 3 s138 n135).bind λ(n142,(n143,n144))=>((atS 3 s138 (IntKind.i64.wrap (n135 - 1))).bind λ(n147,(n148,n149))=>(if n142<=n147 then some (.inr (.inr (.inr (.inr ((⟨false,0,[]⟩:Sl (Int×(Int×Int))),6)))))else some (.inl (IntKind.i64.wrap (n135+1))))))else some (.inr (.inl ()))))
def bB(n1:Int)(s2:Sl (Sl (Int×(Int×Int))))(a:(List (Int×(Int×Int)))×Int):Option (((List (Int×(Int×Int)))×Int)⊕((List (Int×(Int×Int)))⊕((Sl (Int×(Int×Int)))×Int))):=
 match a with
 |(l169,n170)=>(if n170<((s2.l.length:Nat):Int)then((atS 1 s2 n170).bind λs175=>((cR n1 (mo 3 l169) s175).bind λs177=>some (.inl (s177,(IntKind.i64.wrap (n170+1))))))else some (.inr (.inl l169)))
def bW(s2:Sl (Sl (Int×(Int×Int))))(n102:Int):Option (Int ⊕(Unit ⊕((Sl (Int×(Int×Int)))×Int))):=
 (if n102<((s2.l.length:Nat):Int)then((cD (aF s2 n102) 1).bind (Sum.elim (λ_=>some (.inl (IntKind.i64.wrap (n102+1)))) (λu=>some u)))else some (.inr (.inl ())))
def bV(n1:Int)(s2:Sl (Sl (Int×(Int×Int)))):Option ((Sl (Int×(Int×Int)))×Int):=
 ((eG n1).bind λb4=>(if b4=true then((cD (bW s2) 0).bind (Sum.elim (λ_=>((cD (bB n1 s2) (([]:List (Int×(Int×Int))),0)).bind (Sum.elim (λl179=>some ((mo 3 l179),0)) (λu=>some u)))) (λu=>some u)))else some ((⟨false,0,[]⟩:Sl (Int×(Int×Int))),8)))
theorem jO(m:Nat){n1:Int}{s2:Sl (Sl (Int×(Int×Int)))}{out:(Sl (Int×(Int×Int)))×Int}(h:bV n1 s2=some out):RunsP E1 (m+3) 12 [.one (iT .i64 n1),.one (Sl.t r32 s2)] (.fresh,[.one (Sl.t r68 out.1),.one (iT .i64 out.2)]):=by
 refine Hi rfl (by rw [wJ];exact show jE Try.prog 12=_ by unfold jE;rw [Try.func12];unfold Try.f12;rfl) rfl ?_;dsimp only;unfold bV at h;refine lS (lO ?_);refine pq (qa (.one nC)) ?_;refine pq (qa (iO 0)) ?_;refine oE (eS (lS (lS (lO ?_))));refine pq (qm (iO n1)) ?_;obtain⟨b4,h3,h⟩:=bg h;refine pq (qc (bO b4) [iO n1] (yr (m+1) h3) (aL (bP gL) dq)) ?_;rcases b4 with _|_;replace h:=wF h;refine pq (xp rfl) ?_;refine oE (eS (cT rfl (lS (lO ?_))));refine pq (qa (.one nC)) ?_;refine pq (qa (iO 8)) ?_;refine oE (eS (lR (eR ?_)));obtain rfl:=sj h;exact qE (.inr rfl) (gk rfl (gk rfl mt)) (aL (bP xt) (aL (bP gL) dq)) oW rfl rfl;replace h:=wT h;refine pq (xp rfl) ?_;refine oE (eS (cF rfl (lK (eS (lS (lS (lO ?_)))))));refine pq (qa (iO 0)) ?_;refine oE (eS (lB ?_))
 let S1:Int->Unit->(Nat->D)->Nat->D:=λa kt g=>ups g [(0,iO n1),(1,.one (sF r32 s2)),(6,iO a)]
 let SL1:Int->Unit->BL:=λa kt=>([]:BL)
 let G1:((Sl (Int×(Int×Int)))×Int)->Ex->St->Prop:=λu=>gZ E1 [.tmp 4,.tmp 5] (.fresh,[.one (Sl.t r68 u.1),.one (iT .i64 u.2)])
 let Sx1:Unit->Unit->(Nat->D)->Nat->D:=λa kt g=>ups g [(0,iO n1),(1,.one (sF r32 s2))]
 let SLx1:Unit->Unit->BL:=λa kt=>([]:BL)
 let J1:(Unit ⊕((Sl (Int×(Int×Int)))×Int))->Ex->St->Prop:=JX 60 0 Sx1 SLx1 G1
 refine ia (bW s2) S1 SL1 J1 sd 0 h () (az ⟨rfl,rfl,rfl,trivial⟩) [] (by decide) rfl ?_ ?_;rintro n102 _ g out h;change bW s2 n102=some out at h;unfold bW at h;refine lS (lS (lO ?_));refine pq (qm (iO n102)) ?_;refine pq (qm (.one (sF r32 s2))) ?_;refine pq (cW rfl lQ rfl rfl rfl rfl) ?_;by_cases c103:n102<((s2.l.length:Nat):Int);replace h:=ifT c103 h;refine pq (qb (dh c103)) ?_;refine oE (eS (cT rfl (lK (eS (lS (lB (lS (lO ?_))))))));refine pq (qa (iO 1)) ?_;refine oE (eS (lB ?_))
 let S2:Int->Unit->(Nat->D)->Nat->D:=λa kt g=>ups g [(0,iO n1),(1,.one (sF r32 s2)),(6,iO n102),(7,iO a)]
 let SL2:Int->Unit->BL:=λa kt=>([]:BL)
 let G2:(Int ⊕(Unit ⊕((Sl (Int×(Int×Int)))×Int)))->Ex->St->Prop:=LQ 60 S1 SL1 J1
 let Sx2:Unit->Unit->(Nat->D)->Nat->D:=λa kt g=>ups g [(0,iO n1),(1,.one (sF r32 s2)),(6,iO n102)]
 let SLx2:Unit->Unit->BL:=λa kt=>([]:BL)
 let J2:(Unit ⊕(Int ⊕(Unit ⊕((Sl (Int×(Int×Int)))×Int))))->Ex->St->Prop:=JX 60 2 Sx2 SLx2 G2
 refine ia (aF s2 n102) S2 SL2 J2 sd 1 h () (az ⟨rfl,rfl,rfl,rfl,trivial⟩) [] (by decide) rfl ?_ ?_;rintro n135 _ g out h;change aF s2 n102 n135=some out at h;unfold aF at h;refine lS (lS (lO ?_));refine pq (qm (iO n135)) ?_;refine pq (qm (.one (sF r32 s2))) ?_;refine pq (qm (iO n102)) ?_;obtain⟨s138,h137,h⟩:=bg h;obtain⟨h137a,h137b,h137⟩:=ck h137;refine pq (cB rfl rfl h137a h137 (el38.trans (congrArg some h137b.symm))) ?_;refine pq (aM (v:= .one (sF r68 s138)) rfl Bq (aJ h137) rfl rfl) ?_;refine pq (cW rfl cU rfl rfl rfl rfl) ?_;by_cases c139:n135<((s138.l.length:Nat):Int);replace h:=ifT c139 h;refine pq (qb (dh c139)) ?_;refine oE (eS (cT rfl (lK (eS (lS (lB (lS ?_)))))));refine jr (by kernel_rfl) ?_;refine sq (qm (.one (sF r32 s2))) ?_;refine sq (qm (iO n102)) ?_;refine sq (cB rfl rfl h137a h137 (el38.trans (congrArg some h137b.symm))) ?_;refine sq (aM (v:= .one (sF r68 s138)) rfl Bq (aJ h137) rfl rfl) ?_;refine sq (qm (iO n135)) ?_;obtain⟨⟨n142,⟨n143,n144⟩⟩,h141,h⟩:=bg h;obtain⟨h141a,h141b,h141⟩:=ck h141;refine sq (cB rfl rfl h141a h141 (el32.trans (congrArg some h141b.symm))) ?_;refine sq (cz rfl gr rfl) ?_;refine sq (aM (v:=iO n142) rfl sz3 (aJ h141) rfl rfl) ?_;refine sq (qm (.one (sF r32 s2))) ?_;refine sq (qm (iO n102)) ?_;refine sq (cB rfl rfl h137a h137 (el38.trans (congrArg some h137b.symm))) ?_;refine sq (aM (v:= .one (sF r68 s138)) rfl Bq (aJ h137) rfl rfl) ?_;refine sq (qm (iO n135)) ?_;refine sq (qb Kx) ?_;obtain⟨⟨n147,⟨n148,n149⟩⟩,h146,h⟩:=bg h;obtain⟨h146a,h146b,h146⟩:=ck h146;refine sq (cB rfl rfl h146a h146 (el32.trans (congrArg some h146b.symm))) ?_;refine sq (cz rfl gr rfl) ?_;refine sq (aM (v:=iO n147) rfl sz3 (aJ h146) rfl rfl) ?_;by_cases c150:n142<=n147;replace h:=ifT c150 h;refine sq (qb (wH c150)) ?_;refine ee (eS (cT rfl (lS (lO ?_))));refine pq (qa (.one nC)) ?_;refine pq (qa (iO 6)) ?_;refine oE (eS (lR (bR (eR ?_))));obtain rfl:=sj h;exact jR (KW (jR (KW (qE (.inr rfl) (gk rfl (gk rfl mt)) (aL (bP xt) (aL (bP gL) dq)) oW rfl rfl))));replace h:=ifF c150 h;refine sq (qb (wI c150)) ?_;refine ee (eS (cF rfl (lK (bN (eS (lO ?_))))));refine pq (qm (iO n135)) ?_;refine pq (qb cS) ?_;refine pq (qa (iO (IntKind.i64.wrap (n135+1)))) ?_;refine oE ?_;obtain rfl:=sj h;exact dD () (az ⟨rfl,rfl,rfl,rfl,trivial⟩) [] (by decide) rfl;replace h:=ifF c139 h;refine pq (qb (dj c139)) ?_;refine oE (eS (cF rfl (kK ?_)));refine kL ?_;obtain rfl:=sj h;refine jR ?_;exact(kP () (az ⟨rfl,rfl,rfl,trivial⟩) [] (by decide) rfl);rintro(_|u) h;refine J_x (λkt g=> ?_);replace h:=qB h;refine bH (bN (eS (lO ?_)));refine pq (qm (iO n102)) ?_;refine pq (qb cS) ?_;refine pq (qa (iO (IntKind.i64.wrap (n102+1)))) ?_;refine oE ?_;obtain rfl:=sj h;exact dD () (az ⟨rfl,rfl,rfl,trivial⟩) [] (by decide) rfl;obtain rfl:=Option.some.inj (qC h);exact zb (λs hs=>hs);replace h:=ifF c103 h;refine pq (qb (dj c103)) ?_;refine oE (eS (cF rfl (kK ?_)));refine kL ?_;obtain rfl:=sj h;refine jR ?_;exact(kP () (az ⟨rfl,rfl,trivial⟩) [] (by decide) rfl);rintro(_|u) h;refine J_x (λkt g=> ?_);replace h:=qB h;refine bH (eS (lS (lO ?_)));refine pq (qa (.one nC)) ?_;refine oE (eS (lS (lS (lO ?_))));refine pq (qa (iO 0)) ?_;refine oE (eS (lB ?_));refine Fh (α:=Int×(Int×Int)) r68 3 ?_
 let S3:((List (Int×(Int×Int)))×Int)->Nat->(Nat->D)->Nat->D:=λa kt g=>ups g [(0,iO n1),(1,.one (sF r32 s2)),(8,.one (moC a.1 kt)),(9,.one (iI a.2))]
 let SL3:((List (Int×(Int×Int)))×Int)->Nat->BL:=λa kt=>([moL r68 3 a.1 kt]:BL)
 let G3:((Sl (Int×(Int×Int)))×Int)->Ex->St->Prop:=λu=>gZ E1 [.tmp 4,.tmp 5] (.fresh,[.one (Sl.t r68 u.1),.one (iT .i64 u.2)])
 let Sx3:(List (Int×(Int×Int)))->Nat->(Nat->D)->Nat->D:=λa kt g=>ups g [(8,.one (moC a kt))]
 let SLx3:(List (Int×(Int×Int)))->Nat->BL:=λa kt=>([moL r68 3 a kt]:BL)
 let J3:((List (Int×(Int×Int)))⊕((Sl (Int×(Int×Int)))×Int))->Ex->St->Prop:=JX 60 4 Sx3 SLx3 G3
 refine ia (bB n1 s2) S3 SL3 J3 sd (([]:List (Int×(Int×Int))),0) h 1167 (az ⟨rfl,rfl,rfl,rfl,trivial⟩) [0] (by decide) rfl ?_ ?_;rintro⟨l169,n170⟩ k171 g out h;change bB n1 s2 (l169,n170)=some out at h;unfold bB at h;refine lS (lS (lO ?_));refine pq (qm (iO n170)) ?_;refine pq (qm (.one (sF r32 s2))) ?_;refine pq (cW rfl lQ rfl rfl rfl rfl) ?_;by_cases c172:n170<((s2.l.length:Nat):Int);replace h:=ifT c172 h;refine pq (qb (dh c172)) ?_;refine oE (eS (cT rfl (lK (eS (lS (lB (lO ?_)))))));refine pq (qm (iO n1)) ?_;refine pq (qm (.one (moC l169 k171))) ?_;refine pq (qm (.one (sF r32 s2))) ?_;refine pq (qm (iO n170)) ?_;obtain⟨s175,h174,h⟩:=bg h;obtain⟨h174a,h174b,h174⟩:=ck h174;refine pq (cB rfl rfl h174a h174 (el38.trans (congrArg some h174b.symm))) ?_;refine pq (aM (v:= .one (sF r68 s175)) rfl Bq (aJ h174) rfl rfl) ?_;obtain⟨s177,h176,h⟩:=bg h;refine Fi (r:=r68) (l:=s177) (args:= [iO n1,.one (moC l169 k171),.one (sF r68 s175)]) (uS (m+0) h176) rfl rfl rfl rfl rfl rfl (aL (bP gL) (aL (bP (Oh (r:=r68) 0 rfl (λx h m=>rfl))) (aL (bP xt) dq))) rfl (λk178=> ?_);refine pq (qa (.one (moC s177 k178))) ?_;refine oE (bN (eS (lO ?_)));refine pq (qm (iO n170)) ?_;refine pq (qb cS) ?_;refine pq (qa (iO (IntKind.i64.wrap (n170+1)))) ?_;refine oE ?_;obtain rfl:=sj h;exact dD k178 (az ⟨rfl,rfl,rfl,rfl,trivial⟩) [0] (by decide) rfl;replace h:=ifF c172 h;refine pq (qb (dj c172)) ?_;refine oE (eS (cF rfl (kK ?_)));refine kL ?_;obtain rfl:=sj h;refine jR ?_;exact(kP k171 (az ⟨rfl,trivial⟩) [0] (by decide) rfl);rintro(l179|u) h;refine J_x (λk180 g=> ?_);replace h:=qB h;refine bH (eS (lS (lO ?_)));refine pq (qm (.one (moC l179 k180))) ?_;refine pq (qa (.one (moC l179 k180))) ?_;refine pq (qa (iO 0)) ?_;refine oE (eS (lR ?_));obtain rfl:=sj h;exact qE (.inr rfl) (gk rfl (gk rfl mt)) (aL (bP (Oh (r:=r68) 0 rfl (λx h m=>rfl))) (aL (bP gL) dq)) oW rfl rfl;obtain rfl:=Option.some.inj (qC h);exact zb (λs hs=>hs);obtain rfl:=Option.some.inj (qC h);exact zb (λs hs=>hs)
def bA(s1:Sl (Int×(Int×Int)))(s2:Sl (Int×(Int×Int)))(n29:Int):Option (Int ⊕(Unit ⊕ Bool)):=
 (if n29<((s1.l.length:Nat):Int)then((atS 3 s1 n29).bind λ(n33,(n34,n35))=>((atS 3 s2 n29).bind λ(n38,(n39,n40))=>(if n33=n38/\n34=n39/\n35=n40 then some (.inl (IntKind.i64.wrap (n29+1)))else some (.inr (.inr false)))))else some (.inr (.inl ())))
def aS(s1:Sl (Int×(Int×Int)))(s2:Sl (Int×(Int×Int))):Option (Bool):=
 (if((s1.l.length:Nat):Int)≠((s2.l.length:Nat):Int)then some false else((cD (bA s1 s2) 0).bind (Sum.elim (λ_=>some true) (λu=>some u))))
theorem gE(m:Nat){s1:Sl (Int×(Int×Int))}{s2:Sl (Int×(Int×Int))}{out:Bool}(h:aS s1 s2=some out):RunsP E1 (m+1) 10 [.one (Sl.t r68 s1),.one (Sl.t r68 s2)] (.fresh,[.one (bT out)]):=by
 refine Hi rfl (by rw [wJ];exact show jE Try.prog 10=_ by unfold jE;rw [Try.func10];unfold Try.f10;rfl) rfl ?_;dsimp only;unfold aS at h;refine lS (lO ?_);refine pq (qa bf) ?_;refine oE (eS (lS (lS (lO ?_))));refine pq (qm (.one (sF r68 s1))) ?_;refine pq (cW rfl cU rfl rfl rfl rfl) ?_;refine pq (qm (.one (sF r68 s2))) ?_;refine pq (cW rfl cU rfl rfl rfl rfl) ?_;by_cases c3:((s1.l.length:Nat):Int)≠((s2.l.length:Nat):Int);replace h:=ifT c3 h;refine pq (qb (Eb c3)) ?_;refine oE (eS (cT rfl (lS (lO ?_))));refine pq (qa bf) ?_;refine oE (eS (lR (eR ?_)));obtain rfl:=sj h;exact eF1;replace h:=ifF c3 h;refine pq (qb (Ec c3)) ?_;refine oE (eS (cF rfl (lK (eS (lS (lS (lO ?_)))))));refine pq (qa (iO 0)) ?_;refine oE (eS (lB ?_))
 let S1:Int->Unit->(Nat->D)->Nat->D:=λa kt g=>ups g [(0,.one (sF r68 s1)),(1,.one (sF r68 s2)),(5,iO a)]
 let SL1:Int->Unit->BL:=λa kt=>([]:BL)
 let G1:Bool->Ex->St->Prop:=λu=>gZ E1 [.tmp 4] (.fresh,[.one (bT u)])
 let Sx1:Unit->Unit->(Nat->D)->Nat->D:=λa kt g=>ups g []
 let SLx1:Unit->Unit->BL:=λa kt=>([]:BL)
 let J1:(Unit ⊕ Bool)->Ex->St->Prop:=JX 26 0 Sx1 SLx1 G1
 refine ia (bA s1 s2) S1 SL1 J1 sd 0 h () (az ⟨rfl,rfl,rfl,trivial⟩) [] (by decide) rfl ?_ ?_;rintro n29 _ g out h;change bA s1 s2 n29=some out at h;unfold bA at h;refine lS (lS (lO ?_));refine pq (qm (iO n29)) ?_;refine pq (qm (.one (sF r68 s1))) ?_;refine pq (cW rfl cU rfl rfl rfl rfl) ?_;by_cases c30:n29<((s1.l.length:Nat):Int);replace h:=ifT c30 h;refine pq (qb (dh c30)) ?_;refine oE (eS (cT rfl (lK (eS (lS (lB (lS ?_)))))));refine jr (by kernel_rfl) ?_;refine sq (qm (.one (sF r68 s1))) ?_;refine sq (qm (iO n29)) ?_;obtain⟨⟨n33,⟨n34,n35⟩⟩,h32,h⟩:=bg h;obtain⟨h32a,h32b,h32⟩:=ck h32;refine sq (cB rfl rfl h32a h32 (el32.trans (congrArg some h32b.symm))) ?_;refine sq (aM (v:= .agg [iI n33,iI n34,uI n35]) rfl uQ (aJ h32) rfl rfl) ?_;refine sq (qm (.one (sF r68 s2))) ?_;refine sq (qm (iO n29)) ?_;obtain⟨⟨n38,⟨n39,n40⟩⟩,h37,h⟩:=bg h;obtain⟨h37a,h37b,h37⟩:=ck h37;refine sq (cB rfl rfl h37a h37 (el32.trans (congrArg some h37b.symm))) ?_;refine sq (aM (v:= .agg [iI n38,iI n39,uI n40]) rfl uQ (aJ h37) rfl rfl) ?_;by_cases c41:n33=n38/\n34=n39/\n35=n40;replace h:=ifT c41 h;refine sq (vd rfl rfl (by rfl) (by rfl) (yp _ _ c41) rfl) ?_;refine ee (eS (cF rfl (lK (bN (eS (lO ?_))))));refine pq (qm (iO n29)) ?_;refine pq (qb cS) ?_;refine pq (qa (iO (IntKind.i64.wrap (n29+1)))) ?_;refine oE ?_;obtain rfl:=sj h;exact dD () (az ⟨rfl,rfl,rfl,trivial⟩) [] (by decide) rfl;replace h:=ifF c41 h;refine sq (vd rfl rfl (by rfl) (by rfl) (yq _ _ c41) rfl) ?_;refine ee (eS (cT rfl (lS (lO ?_))));refine pq (qa bf) ?_;refine oE (eS (lR (bR (eR ?_))));obtain rfl:=sj h;exact jR (KW (eF1));replace h:=ifF c30 h;refine pq (qb (dj c30)) ?_;refine oE (eS (cF rfl (kK ?_)));refine kL ?_;obtain rfl:=sj h;refine jR ?_;exact(kP () (az trivial) [] (by decide) rfl);rintro(_|u) h;refine J_x (λkt g=> ?_);replace h:=qB h;refine bH (eS (lS (lO ?_)));refine pq (qa bt) ?_;refine oE (eS (lR ?_));obtain rfl:=sj h;exact eF1;obtain rfl:=Option.some.inj (qC h);exact zb (λs hs=>hs)
end Ev
end
noncomputable section
namespace Ev
open Go
set_option maxRecDepth 100000
set_option maxHeartbeats 1000000
attribute [local irreducible] dB StL TnL WpL cP
def bE(s4:Sl (Sl (Int×(Int×Int))))(a:(List (Sl (Int×(Int×Int))))×Int):Option (((List (Sl (Int×(Int×Int))))×Int)⊕((List (Sl (Int×(Int×Int))))⊕ Bool)):=
 match a with
 |(l38,n39)=>(if n39<((s4.l.length:Nat):Int)then((atS 1 s4 n39).bind λs44=>(if((s44.l.length:Nat):Int)>30 then((nr 3 s44 0 30).bind λs46=>((app l38 ([s46]:List (Sl (Int×(Int×Int))))).bind λ_=>some (.inl ((l38++([s46]:List (Sl (Int×(Int×Int))))),(IntKind.i64.wrap (n39+1))))))else((app l38 ([s44]:List (Sl (Int×(Int×Int))))).bind λ_=>some (.inl ((l38++([s44]:List (Sl (Int×(Int×Int))))),(IntKind.i64.wrap (n39+1)))))))else some (.inr (.inl l38)))
def aN(s2:Sl (Sl (Int×(Int×Int))))(a:(List (Sl (Int×(Int×Int))))×Int):Option (((List (Sl (Int×(Int×Int))))×Int)⊕((List (Sl (Int×(Int×Int))))⊕ Bool)):=
 match a with
 |(l99,n100)=>(if n100<((s2.l.length:Nat):Int)then((atS 1 s2 n100).bind λs105=>(if((s105.l.length:Nat):Int)>30 then((nr 3 s105 0 30).bind λs107=>((app l99 ([s107]:List (Sl (Int×(Int×Int))))).bind λ_=>some (.inl ((l99++([s107]:List (Sl (Int×(Int×Int))))),(IntKind.i64.wrap (n100+1))))))else((app l99 ([s105]:List (Sl (Int×(Int×Int))))).bind λ_=>some (.inl ((l99++([s105]:List (Sl (Int×(Int×Int))))),(IntKind.i64.wrap (n100+1)))))))else some (.inr (.inl l99)))
def bM(n1:Int)(s2:Sl (Sl (Int×(Int×Int)))):Option (Bool):=
 (if((s2.l.length:Nat):Int)>8 then((nr 1 s2 0 8).bind λs4=>((cD (bE s4) (([]:List (Sl (Int×(Int×Int)))),0)).bind (Sum.elim (λl54=>((ct n1 (mo 1 l54)).bind λ(s57,n58)=>((bV n1 (mo 1 l54)).bind λ(s60,n61)=>((FL).bind λb63=>(if b63=true then((aS s57 s60).bind λb65=>(if b65=true then(if n58=n61 then some true else some false)else some false))else some false))))) (λu=>some u))))else((cD (aN s2) (([]:List (Sl (Int×(Int×Int)))),0)).bind (Sum.elim (λl115=>((ct n1 (mo 1 l115)).bind λ(s118,n119)=>((bV n1 (mo 1 l115)).bind λ(s121,n122)=>((FL).bind λb124=>(if b124=true then((aS s118 s121).bind λb126=>(if b126=true then(if n119=n122 then some true else some false)else some false))else some false))))) (λu=>some u))))
theorem kD(m:Nat){n1:Int}{s2:Sl (Sl (Int×(Int×Int)))}{out:Bool}(h:bM n1 s2=some out):RunsP E1 (m+4) 4 [.one (iT .i64 n1),.one (Sl.t r32 s2)] (.fresh,[.one (bT out)]):=by
 refine Hi rfl (by rw [wJ];exact show jE Try.prog 4=_ by unfold jE;rw [Try.func4];unfold Try.f4;rfl) rfl ?_;dsimp only;unfold bM at h;refine lS (lO ?_);refine pq (qa bf) ?_;refine oE (eS (lS (lS (lO ?_))));refine pq (qm (.one (sF r32 s2))) ?_;refine pq (cW rfl lQ rfl rfl rfl rfl) ?_;by_cases c3:((s2.l.length:Nat):Int)>8;replace h:=ifT c3 h;refine pq (qb (pZ c3)) ?_;refine oE (eS (cT rfl (lO ?_)));refine pq (qm (.one (sF r32 s2))) ?_;obtain⟨s4,h5,h⟩:=bg h;refine pq (qG (r:=r32) h5 rfl lQ rfl cU vl (pg rfl (Int.le_trans (dN h5).1.1 (dN h5).1.2.1) _)) ?_;refine pq (qa (.one (sF r32 s4))) ?_;refine oN ?_;refine pq (qa (.one nC)) ?_;refine oE (eS (lS (lS (lO ?_))));refine pq (qa (iO 0)) ?_;refine oE (eS (lB ?_));refine Ed (α:=Sl (Int×(Int×Int))) lU 1 ?_
 let S1:((List (Sl (Int×(Int×Int))))×Int)->Nat->(Nat->D)->Nat->D:=λa kt g=>ups g [(0,iO n1),(1,.one (sF r32 s4)),(5,.one (moC a.1 kt)),(6,.one (iI a.2))]
 let SL1:((List (Sl (Int×(Int×Int))))×Int)->Nat->BL:=λa kt=>([moG lU 1 a.1 kt]:BL)
 let G1:Bool->Ex->St->Prop:=λu=>gZ E1 [.tmp 4] (.fresh,[.one (bT u)])
 let Sx1:(List (Sl (Int×(Int×Int))))->Nat->(Nat->D)->Nat->D:=λa kt g=>ups g [(0,iO n1),(5,.one (moC a kt))]
 let SLx1:(List (Sl (Int×(Int×Int))))->Nat->BL:=λa kt=>([moG lU 1 a kt]:BL)
 let J1:((List (Sl (Int×(Int×Int))))⊕ Bool)->Ex->St->Prop:=JX 59 0 Sx1 SLx1 G1
 refine ia (bE s4) S1 SL1 J1 sd (([]:List (Sl (Int×(Int×Int)))),0) h 1036 (az ⟨rfl,rfl,rfl,rfl,trivial⟩) [0] (by decide) rfl ?_ ?_;rintro⟨l38,n39⟩ k40 g out h;change bE s4 (l38,n39)=some out at h;unfold bE at h;refine lS (lS (lO ?_));refine pq (qm (iO n39)) ?_;refine pq (qm (.one (sF r32 s4))) ?_;refine pq (cW rfl lQ rfl rfl rfl rfl) ?_;by_cases c41:n39<((s4.l.length:Nat):Int);replace h:=ifT c41 h;refine pq (qb (dh c41)) ?_;refine oE (eS (cT rfl (lK (eS (lS (lB (lS (lO ?_))))))));refine pq (qm (.one (sF r32 s4))) ?_;refine pq (qm (iO n39)) ?_;obtain⟨s44,h43,h⟩:=bg h;obtain⟨h43a,h43b,h43⟩:=ck h43;refine pq (cB rfl rfl h43a h43 (el38.trans (congrArg some h43b.symm))) ?_;refine pq (aM (v:= .one (sF r68 s44)) rfl Bq (aJ h43) rfl rfl) ?_;refine pq (qa (.one (sF r68 s44))) ?_;refine oE (eS (lS (lS (lO ?_))));refine pq (qm (.one (sF r68 s44))) ?_;refine pq (cW rfl cU rfl rfl rfl rfl) ?_;by_cases c45:((s44.l.length:Nat):Int)>30;replace h:=ifT c45 h;refine pq (qb (pZ c45)) ?_;refine oE (eS (cT rfl (lO ?_)));refine pq (qm (.one (sF r68 s44))) ?_;obtain⟨s46,h47,h⟩:=bg h;refine pq (qG (r:=r68) h47 rfl cU rfl nf vl (pg rfl (Int.le_trans (dN h47).1.1 (dN h47).1.2.1) _)) ?_;refine pq (qa (.one (sF r68 s46))) ?_;refine oR ?_;refine pq (qm (.one (moC l38 k40))) ?_;refine pq (qm (.one (sF r68 s46))) ?_;refine eL rfl rfl rfl (cE (cs:= [sF r68 s46]) (es:=(([s46]:List (Sl (Int×(Int×Int))))).map lU) lQ rfl cU rfl rfl rfl rfl rfl) (λk48=> ?_);obtain⟨_,h49,h⟩:=bg h;obtain⟨h49b,rfl⟩:=aT h49;refine oX (ro:=lU) (l:=l38) (ys:=([s46]:List (Sl (Int×(Int×Int))))) 1 rfl rfl rfl rfl rfl rfl (cX (l:=([s46]:List (Sl (Int×(Int×Int))))) 0 rfl) rfl h49 (λy=>rfl) el38 lQ rfl rfl rfl rfl rfl (λk50=> ?_);refine pq (qa (.one (moC (l38++([s46]:List (Sl (Int×(Int×Int))))) k50))) ?_;refine oE (bN (eS (lO ?_)));refine pq (qm (iO n39)) ?_;refine pq (qb cS) ?_;refine pq (qa (iO (IntKind.i64.wrap (n39+1)))) ?_;refine oE ?_;obtain rfl:=sj h;exact dD k50 (az ⟨rfl,rfl,rfl,rfl,trivial⟩) [0] (by decide) rfl;replace h:=ifF c45 h;refine pq (qb (qd c45)) ?_;refine oE (eS (cF rfl (lK (eS (lO ?_)))));refine pq (qm (.one (moC l38 k40))) ?_;refine pq (qm (.one (sF r68 s44))) ?_;refine eL rfl rfl rfl (cE (cs:= [sF r68 s44]) (es:=(([s44]:List (Sl (Int×(Int×Int))))).map lU) lQ rfl cU rfl rfl rfl rfl rfl) (λk51=> ?_);obtain⟨_,h52,h⟩:=bg h;obtain⟨h52b,rfl⟩:=aT h52;refine oX (ro:=lU) (l:=l38) (ys:=([s44]:List (Sl (Int×(Int×Int))))) 1 rfl rfl rfl rfl rfl rfl (cX (l:=([s44]:List (Sl (Int×(Int×Int))))) 0 rfl) rfl h52 (λy=>rfl) el38 lQ rfl rfl rfl rfl rfl (λk53=> ?_);refine pq (qa (.one (moC (l38++([s44]:List (Sl (Int×(Int×Int))))) k53))) ?_;refine oE (bN (eS (lO ?_)));refine pq (qm (iO n39)) ?_;refine pq (qb cS) ?_;refine pq (qa (iO (IntKind.i64.wrap (n39+1)))) ?_;refine oE ?_;obtain rfl:=sj h;exact dD k53 (az ⟨rfl,rfl,rfl,rfl,trivial⟩) [0] (by decide) rfl;replace h:=ifF c41 h;refine pq (qb (dj c41)) ?_;refine oE (eS (cF rfl (kK ?_)));refine kL ?_;obtain rfl:=sj h;refine jR ?_;exact(kP k40 (az ⟨rfl,rfl,trivial⟩) [0] (by decide) rfl);rintro(l54|u) h;refine J_x (λk55 g=> ?_);replace h:=qB h;refine bH (eS (lS (lO ?_)));refine pq (qm (iO n1)) ?_;refine pq (qm (.one (moC l54 k55))) ?_;obtain⟨⟨s57,n58⟩,h56,h⟩:=bg h;refine pq (qc (.tup [.one (sC r68 s57),iO n58]) [iO n1,.one (moC l54 k55)] (lT (m+2) h56) (aL (bP gL) (aL (bP (Ah (rv:=GF) (r:=r32) 0 rfl (λx h m=>rfl) (λx=>rfl))) dq))) ?_;refine pq (qm (.tup [.one (sC r68 s57),iO n58])) ?_;refine pq (mr (v:= .one (sC r68 s57)) rfl rfl) ?_;refine pq (mr (v:=iO n58) rfl rfl) ?_;refine pq (qa (.one (sC r68 s57))) ?_;refine pq (qa (iO n58)) ?_;refine oN ?_;refine pq (qm (iO n1)) ?_;refine pq (qm (.one (moC l54 k55))) ?_;obtain⟨⟨s60,n61⟩,h59,h⟩:=bg h;refine pq (qc (.tup [.one (sC r68 s60),iO n61]) [iO n1,.one (moC l54 k55)] (jO (m+0) h59) (aL (bP gL) (aL (bP (Ah (rv:=GF) (r:=r32) 0 rfl (λx h m=>rfl) (λx=>rfl))) dq))) ?_;refine pq (qm (.tup [.one (sC r68 s60),iO n61])) ?_;refine pq (mr (v:= .one (sC r68 s60)) rfl rfl) ?_;refine pq (mr (v:=iO n61) rfl rfl) ?_;refine pq (qa (.one (sC r68 s60))) ?_;refine pq (qa (iO n61)) ?_;refine oN ?_;obtain⟨b63,h62,h⟩:=bg h;refine pq (qc (bO b63) [] (NL (m+2) h62) dq) ?_;refine pq (qm (bO b63)) ?_;rcases b63 with _|_;replace h:=wF h
 iterate 3 refine os ?_
 refine pq (qpf bf) ?_;refine pq (qm bf) ?_
 iterate 3 refine os ?_
 refine pq (qpf bf) ?_;refine pq (qa bf) ?_;refine oE (eS (lR ?_));obtain rfl:=sj h;exact eF1;replace h:=wT h;refine pq (qm (.one (sC r68 s57))) ?_;refine pq (qm (.one (sC r68 s60))) ?_;obtain⟨b65,h64,h⟩:=bg h;refine pq (qc (bO b65) [.one (sC r68 s57),.one (sC r68 s60)] (gE (m+2) h64) (aL (bP xt) (aL (bP xt) dq))) ?_;refine pq (qpt (bO b65)) ?_;refine pq (qm (bO b65)) ?_;rcases b65 with _|_;replace h:=wF h
 iterate 3 refine os ?_
 refine pq (qpf bf) ?_;refine pq (qa bf) ?_;refine oE (eS (lR ?_));obtain rfl:=sj h;exact eF1;replace h:=wT h;refine pq (qm (iO n58)) ?_;refine pq (qm (iO n61)) ?_;by_cases c66:n58=n61;replace h:=ifT c66 h;refine pq (qb (gC c66)) ?_;refine pq (qpt bt) ?_;refine pq (qa bt) ?_;refine oE (eS (lR ?_));obtain rfl:=sj h;exact eF1;replace h:=ifF c66 h;refine pq (qb (gD c66)) ?_;refine pq (qpt bf) ?_;refine pq (qa bf) ?_;refine oE (eS (lR ?_));obtain rfl:=sj h;exact eF1;obtain rfl:=Option.some.inj (qC h);exact zb (λs hs=>hs);replace h:=ifF c3 h;refine pq (qb (qd c3)) ?_;refine oE (eS (cF rfl (lK (eS (lS (lO ?_))))));refine pq (qa (.one nC)) ?_;refine oE (eS (lS (lS (lO ?_))));refine pq (qa (iO 0)) ?_;refine oE (eS (lB ?_));refine Ed (α:=Sl (Int×(Int×Int))) lU 1 ?_
 let S2:((List (Sl (Int×(Int×Int))))×Int)->Nat->(Nat->D)->Nat->D:=λa kt g=>ups g [(0,iO n1),(1,.one (sF r32 s2)),(5,.one (moC a.1 kt)),(6,.one (iI a.2))]
 let SL2:((List (Sl (Int×(Int×Int))))×Int)->Nat->BL:=λa kt=>([moG lU 1 a.1 kt]:BL)
 let G2:Bool->Ex->St->Prop:=λu=>gZ E1 [.tmp 4] (.fresh,[.one (bT u)])
 let Sx2:(List (Sl (Int×(Int×Int))))->Nat->(Nat->D)->Nat->D:=λa kt g=>ups g [(0,iO n1),(5,.one (moC a kt))]
 let SLx2:(List (Sl (Int×(Int×Int))))->Nat->BL:=λa kt=>([moG lU 1 a kt]:BL)
 let J2:((List (Sl (Int×(Int×Int))))⊕ Bool)->Ex->St->Prop:=JX 59 0 Sx2 SLx2 G2
 refine ia (aN s2) S2 SL2 J2 sd (([]:List (Sl (Int×(Int×Int)))),0) h 1097 (az ⟨rfl,rfl,rfl,rfl,trivial⟩) [0] (by decide) rfl ?_ ?_;rintro⟨l99,n100⟩ k101 g out h;change aN s2 (l99,n100)=some out at h;unfold aN at h;refine lS (lS (lO ?_));refine pq (qm (iO n100)) ?_;refine pq (qm (.one (sF r32 s2))) ?_;refine pq (cW rfl lQ rfl rfl rfl rfl) ?_;by_cases c102:n100<((s2.l.length:Nat):Int);replace h:=ifT c102 h;refine pq (qb (dh c102)) ?_;refine oE (eS (cT rfl (lK (eS (lS (lB (lS (lO ?_))))))));refine pq (qm (.one (sF r32 s2))) ?_;refine pq (qm (iO n100)) ?_;obtain⟨s105,h104,h⟩:=bg h;obtain⟨h104a,h104b,h104⟩:=ck h104;refine pq (cB rfl rfl h104a h104 (el38.trans (congrArg some h104b.symm))) ?_;refine pq (aM (v:= .one (sF r68 s105)) rfl Bq (aJ h104) rfl rfl) ?_;refine pq (qa (.one (sF r68 s105))) ?_;refine oE (eS (lS (lS (lO ?_))));refine pq (qm (.one (sF r68 s105))) ?_;refine pq (cW rfl cU rfl rfl rfl rfl) ?_;by_cases c106:((s105.l.length:Nat):Int)>30;replace h:=ifT c106 h;refine pq (qb (pZ c106)) ?_;refine oE (eS (cT rfl (lO ?_)));refine pq (qm (.one (sF r68 s105))) ?_;obtain⟨s107,h108,h⟩:=bg h;refine pq (qG (r:=r68) h108 rfl cU rfl nf vl (pg rfl (Int.le_trans (dN h108).1.1 (dN h108).1.2.1) _)) ?_;refine pq (qa (.one (sF r68 s107))) ?_;refine oR ?_;refine pq (qm (.one (moC l99 k101))) ?_;refine pq (qm (.one (sF r68 s107))) ?_;refine eL rfl rfl rfl (cE (cs:= [sF r68 s107]) (es:=(([s107]:List (Sl (Int×(Int×Int))))).map lU) lQ rfl cU rfl rfl rfl rfl rfl) (λk109=> ?_);obtain⟨_,h110,h⟩:=bg h;obtain⟨h110b,rfl⟩:=aT h110;refine oX (ro:=lU) (l:=l99) (ys:=([s107]:List (Sl (Int×(Int×Int))))) 1 rfl rfl rfl rfl rfl rfl (cX (l:=([s107]:List (Sl (Int×(Int×Int))))) 0 rfl) rfl h110 (λy=>rfl) el38 lQ rfl rfl rfl rfl rfl (λk111=> ?_);refine pq (qa (.one (moC (l99++([s107]:List (Sl (Int×(Int×Int))))) k111))) ?_;refine oE (bN (eS (lO ?_)));refine pq (qm (iO n100)) ?_;refine pq (qb cS) ?_;refine pq (qa (iO (IntKind.i64.wrap (n100+1)))) ?_;refine oE ?_;obtain rfl:=sj h;exact dD k111 (az ⟨rfl,rfl,rfl,rfl,trivial⟩) [0] (by decide) rfl;replace h:=ifF c106 h;refine pq (qb (qd c106)) ?_;refine oE (eS (cF rfl (lK (eS (lO ?_)))));refine pq (qm (.one (moC l99 k101))) ?_;refine pq (qm (.one (sF r68 s105))) ?_;refine eL rfl rfl rfl (cE (cs:= [sF r68 s105]) (es:=(([s105]:List (Sl (Int×(Int×Int))))).map lU) lQ rfl cU rfl rfl rfl rfl rfl) (λk112=> ?_);obtain⟨_,h113,h⟩:=bg h;obtain⟨h113b,rfl⟩:=aT h113;refine oX (ro:=lU) (l:=l99) (ys:=([s105]:List (Sl (Int×(Int×Int))))) 1 rfl rfl rfl rfl rfl rfl (cX (l:=([s105]:List (Sl (Int×(Int×Int))))) 0 rfl) rfl h113 (λy=>rfl) el38 lQ rfl rfl rfl rfl rfl (λk114=> ?_);refine pq (qa (.one (moC (l99++([s105]:List (Sl (Int×(Int×Int))))) k114))) ?_;refine oE (bN (eS (lO ?_)));refine pq (qm (iO n100)) ?_;refine pq (qb cS) ?_;refine pq (qa (iO (IntKind.i64.wrap (n100+1)))) ?_;refine oE ?_;obtain rfl:=sj h;exact dD k114 (az ⟨rfl,rfl,rfl,rfl,trivial⟩) [0] (by decide) rfl;replace h:=ifF c102 h;refine pq (qb (dj c102)) ?_;refine oE (eS (cF rfl (kK ?_)));refine kL ?_;obtain rfl:=sj h;refine jR ?_;exact(kP k101 (az ⟨rfl,rfl,trivial⟩) [0] (by decide) rfl);rintro(l115|u) h;refine J_x (λk116 g=> ?_);replace h:=qB h;refine bH (eS (lS (lO ?_)));refine pq (qm (iO n1)) ?_;refine pq (qm (.one (moC l115 k116))) ?_;obtain⟨⟨s118,n119⟩,h117,h⟩:=bg h;refine pq (qc (.tup [.one (sC r68 s118),iO n119]) [iO n1,.one (moC l115 k116)] (lT (m+2) h117) (aL (bP gL) (aL (bP (Ah (rv:=GF) (r:=r32) 0 rfl (λx h m=>rfl) (λx=>rfl))) dq))) ?_;refine pq (qm (.tup [.one (sC r68 s118),iO n119])) ?_;refine pq (mr (v:= .one (sC r68 s118)) rfl rfl) ?_;refine pq (mr (v:=iO n119) rfl rfl) ?_;refine pq (qa (.one (sC r68 s118))) ?_;refine pq (qa (iO n119)) ?_;refine oN ?_;refine pq (qm (iO n1)) ?_;refine pq (qm (.one (moC l115 k116))) ?_;obtain⟨⟨s121,n122⟩,h120,h⟩:=bg h;refine pq (qc (.tup [.one (sC r68 s121),iO n122]) [iO n1,.one (moC l115 k116)] (jO (m+0) h120) (aL (bP gL) (aL (bP (Ah (rv:=GF) (r:=r32) 0 rfl (λx h m=>rfl) (λx=>rfl))) dq))) ?_;refine pq (qm (.tup [.one (sC r68 s121),iO n122])) ?_;refine pq (mr (v:= .one (sC r68 s121)) rfl rfl) ?_;refine pq (mr (v:=iO n122) rfl rfl) ?_;refine pq (qa (.one (sC r68 s121))) ?_;refine pq (qa (iO n122)) ?_;refine oN ?_;obtain⟨b124,h123,h⟩:=bg h;refine pq (qc (bO b124) [] (NL (m+2) h123) dq) ?_;refine pq (qm (bO b124)) ?_;rcases b124 with _|_;replace h:=wF h
 iterate 3 refine os ?_
 refine pq (qpf bf) ?_;refine pq (qm bf) ?_
 iterate 3 refine os ?_
 refine pq (qpf bf) ?_;refine pq (qa bf) ?_;refine oE (eS (lR ?_));obtain rfl:=sj h;exact eF1;replace h:=wT h;refine pq (qm (.one (sC r68 s118))) ?_;refine pq (qm (.one (sC r68 s121))) ?_;obtain⟨b126,h125,h⟩:=bg h;refine pq (qc (bO b126) [.one (sC r68 s118),.one (sC r68 s121)] (gE (m+2) h125) (aL (bP xt) (aL (bP xt) dq))) ?_;refine pq (qpt (bO b126)) ?_;refine pq (qm (bO b126)) ?_;rcases b126 with _|_;replace h:=wF h
 iterate 3 refine os ?_
 refine pq (qpf bf) ?_;refine pq (qa bf) ?_;refine oE (eS (lR ?_));obtain rfl:=sj h;exact eF1;replace h:=wT h;refine pq (qm (iO n119)) ?_;refine pq (qm (iO n122)) ?_;by_cases c127:n119=n122;replace h:=ifT c127 h;refine pq (qb (gC c127)) ?_;refine pq (qpt bt) ?_;refine pq (qa bt) ?_;refine oE (eS (lR ?_));obtain rfl:=sj h;exact eF1;replace h:=ifF c127 h;refine pq (qb (gD c127)) ?_;refine pq (qpt bf) ?_;refine pq (qa bf) ?_;refine oE (eS (lR ?_));obtain rfl:=sj h;exact eF1;obtain rfl:=Option.some.inj (qC h);exact zb (λs hs=>hs)
end Ev
end
noncomputable section
namespace Ev
open Go
set_option maxRecDepth 100000
set_option maxHeartbeats 1000000
attribute [local irreducible] dB StL TnL WpL cP
theorem OP{ts:List T}(h:Typ Try.prog 22 ts):∃x:Int,ts= [iT .i64 x]/\inK .i64 x:=pj (by kernel_rfl) h
theorem op3{ts:List T}(h:Typ Try.prog 3 ts):∃x:Int,ts= [iT .i64 x]/\inK .i64 x:=pj (by kernel_rfl) h
def W3(x:Int):Prop:=inK .i64 x
theorem op2{ts:List T}(h:Typ Try.prog 2 ts):∃x:Int,ts= [iT .i64 x]/\inK .i64 x:=pj (by kernel_rfl) h
def W2(x:Int):Prop:=inK .i64 x
theorem OQ{ts:List T}(h:Typ Try.prog 65 ts):∃x:Int,ts= [iT .u64 x]/\inK .u64 x:=pj (by kernel_rfl) h
def W65(x:Int):Prop:=inK .u64 x
def W67(x:Int×Int):Prop:=W2 x.1/\W65 x.2
theorem OR{ts:List T}(h:Typ Try.prog 67 ts):∃x:Int×Int,ts=r66 x/\W67 x:=by
 obtain⟨tss,rfl,hl,hf⟩:=qI (fs:=aG Try.prog 66) (by kernel_rfl) h;rw [show(aG Try.prog 66).toList= [fld Try.prog 66 0,fld Try.prog 66 1]by kernel_rfl]at hl hf
 match tss,hl with
 | [t0,t1],_=>
  have g0:Typ Try.prog 2 t0:=by have:=hf 0 _ _ rfl rfl;rwa [show(fld Try.prog 66 0).type=2 by kernel_rfl]at this
  obtain⟨x0,rfl,w0⟩:=op2 g0;have g1:Typ Try.prog 65 t1:=by have:=hf 1 _ _ rfl rfl;rwa [show(fld Try.prog 66 1).type=65 by kernel_rfl]at this
  obtain⟨x1,rfl,w1⟩:=OQ g1;exact⟨(x0,x1),rfl,⟨w0,w1⟩⟩
def W69(x:Int×(Int×Int)):Prop:=W3 x.1/\W67 x.2
theorem OS{ts:List T}(h:Typ Try.prog 69 ts):∃x:Int×(Int×Int),ts=r68 x/\W69 x:=by
 obtain⟨tss,rfl,hl,hf⟩:=qI (fs:=aG Try.prog 68) (by kernel_rfl) h;rw [show(aG Try.prog 68).toList= [fld Try.prog 68 0,fld Try.prog 68 1]by kernel_rfl]at hl hf
 match tss,hl with
 | [t0,t1],_=>
  have g0:Typ Try.prog 3 t0:=by have:=hf 0 _ _ rfl rfl;rwa [show(fld Try.prog 68 0).type=3 by kernel_rfl]at this
  obtain⟨x0,rfl,w0⟩:=op3 g0;have g1:Typ Try.prog 67 t1:=by have:=hf 1 _ _ rfl rfl;rwa [show(fld Try.prog 68 1).type=67 by kernel_rfl]at this
  obtain⟨x1,rfl,w1⟩:=OR g1;exact⟨(x0,x1),rfl,⟨w0,w1⟩⟩
def W32(x:Sl (Int×(Int×Int))):Prop:=SlW 3 W69 x
theorem OT{ts:List T}(h:Typ Try.prog 32 ts):∃x:Sl (Int×(Int×Int)),ts= [Sl.t r68 x]/\W32 x:=tw (r:=r68) (Q:=W69) (w:=3) (by kernel_rfl) (by kernel_rfl) (λts h=>OS h) h
def W38(x:Sl (Sl (Int×(Int×Int)))):Prop:=SlW 1 W32 x
theorem OU{ts:List T}(h:Typ Try.prog 38 ts):∃x:Sl (Sl (Int×(Int×Int))),ts= [Sl.t r32 x]/\W38 x:=tw (r:=r32) (Q:=W32) (w:=1) (by kernel_rfl) (by kernel_rfl) (λts h=>OT h) h
end Ev
end
noncomputable section
namespace Ev
open Go
abbrev It:=Int×Int
def WIt(x:It):Prop:=inK .i64 x.1/\inK .i64 x.2
def WV(v:Int×Sl It):Prop:=inK .i64 v.1/\SlW 2 WIt v.2
def okS{α:Type}(w:Nat)(s:Sl α):Prop:=s.l= []∨s.sz=w
theorem SlW.ok{α:Type}{w:Nat}{Q:α->Prop}{s:Sl α}(h:SlW w Q s):okS w s:= .inr h.1
theorem wB{α:Type}{w:Nat}(l:List α):okS w (mo w l):=by cases l with|nil=>exact .inl rfl|cons x l=>exact .inr rfl
end Ev
end
end Go.Proofs.Ytjjbpdldbdmoeaa
