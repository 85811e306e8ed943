import Derived.Test.YtkglnoimbekhhaaGreatKZy
import Derived.Test.YtkglnoimbekhhaaGreatKChkU
import Derived.Test.YtkglnoimbekhhaaGreatKFitL
namespace Go.Proofs.YtkglnoimbekhhaaGreat
open Go.ChangeShapes Go.WideShapes Go.ChangeAt Go.RowKit
set_option linter.unusedVariables false
theorem asked_of {w:World} {A:Acc} {c:Array Value} (hA:AccV w A c) (hS:Small A):Asked w A c:=by
 obtain ⟨pt,pa,pl,pc,st,sa,sl,sc,na,nl,nc,k,n,a,s,aa,al,ac,ta,tl,tc,ma,ml,mc,VN,h1,h2,hP,hT,⟨hnl,hk⟩,hN,hV⟩:=hA
 obtain ⟨s1,s2,s3,s4⟩:=hS
 subst hnl
 have hL:Lies (fun _=>True) w (codeOf A) (nodeV 3 0 0 ⟨#[]⟩ na A.code.length nc):=.mk (hk:=hk) VN hN.1 (Nat.zero_le _) ⟨by decide,by decide⟩ ⟨by decide,by decide⟩ ⟨by decide,by decide⟩ hN.2.1 hN.2.2
 have hz:(codeOf A).size <= 3000000:=by unfold codeOf;rw [Tr.size];omega
 exact ⟨pt,pa,pl,pc,st,sa,sl,sc,na,A.code.length,nc,k,n,a,s,aa,al,ac,ta,tl,tc,ma,ml,mc,h1,fun W h=>script_any hP hT hL hz W h,fun W h=>fitsL_any hT hV s4 W h,fun W h=>size_any hV (by omega) W h⟩
theorem good_led {w:World} {L:Nat -> Acc} {fees:Int} {cs:Array Value} (hL:LedV w L fees cs) (hS:∀ i,i < 12 -> Small (L i)) (W:World) (hW:w.grownBy W none) :
 Calls Tryz.prog 5 #[.agg cs] W fun e w'=>e = .returned (.bool (goodLF L fees)) /\ W.grownBy w' none :=
 goodL_any hL (fun i hi=>asked_of (hL.2.2.2 i hi) (hS i hi)) hS W hW
end Go.Proofs.YtkglnoimbekhhaaGreat
