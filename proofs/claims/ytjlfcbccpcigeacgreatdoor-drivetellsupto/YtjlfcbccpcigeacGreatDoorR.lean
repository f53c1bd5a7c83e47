import Derived.Test.YtjlfcbccpcigeacGreatDoorG2
import Derived.Test.YtjlfcbccpcigeacGreatDoorQ5
import Derived.Test.YtjlfcbccpcigeacGreatDoorQ6
import Derived.LaidMore
import Derived.Stop.LaidTwo
set_option maxHeartbeats 40000000
set_option linter.defProp false
namespace Go.Proofs.YtjlfcbccpcigeacGreatDoor
open Go.Proofs.Tryz Go.RowKit Go.Joins
set_option linter.unusedVariables false
set_option linter.unusedSimpArgs false
set_option maxRecDepth 8192
def Rh:pk:=fun v t L d w g hm i h1 f=>by
 obtain⟨v0,o,v2,rfl,-,⟨n,b,rfl,h,a,hb⟩,-⟩:=g
 obtain⟨j,p1,p2,k,l,m,r⟩:=t
 obtain⟨bb,bo,rfl,hbb,c⟩:=hb (zy hm).2.1
 exact D5 ⟨j,p1,p2,k,l,m,r⟩ L v0 v2 bb bo b d w hm i h1 f hbb h (by unfold maxLen at a;lia) c
def us:lB:=fun v t L w d hm=>by
 obtain⟨f,p1,p2,g,h,i,r⟩:=t
 have k:=d
 obtain⟨v0,u,v2,rfl,⟨a0,l,rfl,-⟩,⟨s,m,rfl,h1,p,q⟩,⟨j,n,rfl,-,-,-,-⟩⟩:=k
 unfold maxLen at p
 have c:zQ L/\zS ⟨f,p1,p2,g,h,i,r⟩:=by simpa using hm
 obtain⟨b,a,rfl,hb,o⟩:=q (by grind [zy])
 exact IV VB ⟨f,p1,p2,g,h,i,r⟩ L a0 j l b a m n w d c.1 c.2 h1 lI hb o
def DJ:tL:=fun v C t L P T w b l a=>by
 obtain⟨o,p1,p2,p,q,s,r⟩:=t
 have d:=b
 obtain⟨v0,F,v2,rfl,⟨a0,g,rfl,-⟩,⟨x,i,rfl,h1,z,k⟩,⟨c,j,rfl,-,-,-,-⟩⟩:=d
 obtain⟨tv,rfl,hT⟩:=l
 have f:=hT
 obtain⟨D,tc,rfl,k1,A,B,n⟩:=f
 obtain⟨hm,m,-,-,hlen,-,-⟩:=yw a
 have y:=(zy hm).2.1
 obtain⟨bb,bo,rfl,-,-⟩:=k lI
 obtain⟨tb,u,rfl,-,-⟩:=n lI
 have h:=Ks VB ⟨o,p1,p2,p,q,s,r⟩ L a0 c bb bo g i j P T tb u tc w b hT hlen hm m
 rw [a] at h
 exact h
def Ri:pS:=fun v U t L P T w b d a=>by
 obtain⟨F,p1,p2,G,H,I,r⟩:=t
 have j:=b
 obtain⟨v0,W,v2,rfl,⟨a0,q,rfl,-⟩,⟨M,s,rfl,h1,y,z⟩,⟨f,u,rfl,n,o,Q,p⟩⟩:=j
 have k:=d
 obtain⟨tv,rfl,⟨V,tc,rfl,k1,C,S,D⟩⟩:=k
 obtain⟨hm,g,-,-,N,-,-⟩:=yw a
 have O:=(zy hm).2.1
 obtain⟨-,-,-,r1,r2⟩:=yi g
 obtain⟨bb,bo,rfl,hbb,x⟩:=z lI
 obtain⟨tb,K,rfl,l,i⟩:=D lI
 unfold maxLen at y C o
 have r1:1<=r:=r1
 obtain⟨R,rfl⟩:=QX (show 0<=r by lia)
 refine (LE DJ F p1 p2 G H I R L a0 f bb bo q s u P T tb K tc w b d a hbb x h1 lI l i k1 lI p n lI).m fun e w' h=>?_
 obtain⟨hb,da,m,dc,c,A,-,B⟩:=h
 exact⟨hb,da,m,dc,c,A,B a⟩
def Rj:pj:=fun v t L k w a hm m f g=>by
 obtain⟨n,p1,p2,o,p,q,r⟩:=t
 have d:=a
 obtain⟨v0,B,v2,rfl,⟨a0,h,rfl,-⟩,⟨s,i,rfl,h1,u,l⟩,⟨b,j,rfl,-,-,-,-⟩⟩:=d
 obtain⟨bb,bo,rfl,-,-⟩:=l (zy hm).2.1
 refine (OY VB us ⟨n,p1,p2,o,p,q,r⟩ L a0 b bb bo h i j k w a hm m f g).m fun e w' ⟨k1,P,z,A,tc,c,x,_,_,y⟩=>?_
 grind [yh]
def Rk:pm:=fun v pv X t L P T D w j f d a c=>by
 obtain⟨N,p1,p2,O,Q,R,r⟩:=t
 have l:=j
 obtain⟨v0,v1,v2,rfl,⟨a0,B,rfl,-⟩,⟨U,C,rfl,h1,H,I⟩,⟨k,F,rfl,-,-,-,-⟩⟩:=l
 have n:=f
 obtain⟨tv,rfl,⟨ta,tc,rfl,k1,K,k3,M⟩⟩:=n
 have q:=d
 obtain⟨da,dc,rfl,i,x,W,y⟩:=q
 unfold ZN at c
 obtain⟨hlen,hall⟩:D.length=L.b.length/\zF (fun s=>br (ak D s) 0 (r - 1)) L.b.length:=by simpa using c
 obtain⟨hm,-,-,-,p,-,-⟩:=yw a
 have V:=(zy hm).2.1
 obtain⟨bb,bo,rfl,hbb,G⟩:=I lI
 obtain⟨tb,S,rfl,o,g⟩:=M lI
 obtain⟨z,A,rfl,u,h⟩:=y lI
 unfold maxLen at H K x
 have m:zF (fun s=>br (ak D s) 0 (r - 1)) D.length:=rQ
 rw [p] at f g k1 ⊢
 rw [hlen] at d h i ⊢
 exact OH DJ ⟨N,p1,p2,O,Q,R,r⟩ L a0 k bb bo B C F P T D tb S tc z A dc w j f d a hlen m hbb h1 lI G o k1 lI g u i lI h
def ut:VX:=Jd Rj Rh Ri Rk
def j':uH:=Ee Dk VB us ut C7 C8 w8
section
open Go.ChangeShapes Go.WideShapes Go.ChangeAt Go.RowKit
set_option maxRecDepth 100000
variable {P:Program} {W:wO} {rest:List (String × DataW Unit)}
def jU {x:String × DataW Unit} {r:List (String × DataW Unit)} (h:laidMet P (x :: r) W):laidMet P r W:=by obtain⟨n,d⟩:=x;obtain⟨ps,⟨g0,t0,cs0,f0,p0,q0,-,-,-,-,hr,e0⟩,hnd,hrows⟩:=h;subst e0;exact⟨q0,hr,(List.nodup_append.1 hnd).2.1,fun b off hb=>hrows b off (WZ _ hb)⟩
def Rr {H:Type} {enc:TypeId × vO->H} {w:wO} {base:Nat} {sp:Nat->Bool} {held:Bool} {fuel:Nat} {t e:TypeId} {n:Nat} {cs:List vO} {zs:List (List UInt8)} {p:List MemPlace}
  (ht:P.underlying t=some (.array n e)) (he:P.underlying e=some .string) (ae:P.cellsOf e=1) (af:P.cellsOf t=n)
  (h:DataW.trod enc P w base sp held fuel t cs=some (.agg (zs.map fun z=>.lit (.string z)),p)):∀i,i<zs.length->cs[i]?=some (.string ⟨(zs.getD i []).toArray⟩):=by
 cases fuel with
 | zero=>simp [DataW.trod] at h
 | succ fuel =>
  simp only [DataW.trod,ht,ae,af,Nat.mul_one] at h;split at h
  ·rename_i hl;obtain⟨xs,hm,hx⟩:=WT.1 h;have ac:xs.map (·.1)=zs.map fun z=>(DataW.lit (.string z):DataW H):=(by have:=congrArg Prod.fst hx;simpa using this);have al:xs.length=n:=(by simpa using Lib.mapM_length hm);intro i hi;have ao:zs.length=n:=(by have:=congrArg List.length ac;simp at this;lia);obtain⟨b,hb,hf⟩:=Lib.mapM_at hm i i (by simp [show i<n by lia]);obtain⟨s,hc,rfl,_⟩:=DataW.trod_string he hf;have h1:cs[i]?=some (.string s):=(by have:=congrArg (·[0]?) hc;simpa [We,List.getElem?_drop] using this);have h2:(xs.map (·.1))[i]?=some (DataW.lit (.string s.data.toList):DataW H):=(by simp [hb]);rw [ac] at h2;simp only [Wc,WT,DataW.lit.injEq,Lit.string.injEq] at h2;obtain⟨z',aj,e⟩:=h2;rw [h1,Qw,aj];show some (Value.string s)=some (.string ⟨z'.toArray⟩);rw [e]
  cases h
def Ru (h:laidMet prog (("roundelay/text.opWords",Rows.laid_roundelay_text_opWords) :: rest) W) :
  ∀i:Nat,i<8->W.cell? (E 1 i)=some (.string (strOfNums (bA (11+(i:Int))))):=by
 obtain⟨ps,⟨g',t',cs,fuel,p,q,ab,ag,aa,hd,_,_⟩,_⟩:=h;obtain rfl:=QD ((show prog.globalNamed "roundelay/text.opWords"=some 1 by kernel_rfl).s.t ab);obtain rfl:=QD ((show (prog.globals[1]?).map (·.type)=some 314 by kernel_rfl).s.t ag);have hk:=Rr (zs:=[[97,100,100],[115,117,98],[109,117,108],[97,110,100],[111,114],[120,111,114],[108,101,115,115],[115,97,109,101]]) underlying314 underlying9 kR kR hd;intro i hi;have h2:=World.var?_cell ab aa i;rw [h2];have h3:=hk i (by simpa using hi);have h4:cs[i]?=some (.string (strOfNums (bA (11+(i:Int))))):=by
  rw [<-E6,h3];match i,hi with
  | 0,_=>rfl
  | 1,_=>rfl
  | 2,_=>rfl
  | 3,_=>rfl
  | 4,_=>rfl
  | 5,_=>rfl
  | 6,_=>rfl
  | 7,_=>rfl
 exact h4
def Rv (h:laidMet prog (("internal/strconv.uint64pow10",Rows.laid_internal_strconv_uint64pow10) :: rest) W):Lib.TabIs prog W "internal/strconv.uint64pow10" .u64 Lib.pow10Tab :=
 Lib.tabIs_of_head (rest:=rest) (show prog.globalNamed "internal/strconv.uint64pow10"=some 2 by kernel_rfl) (show (prog.globals[2]?).map (·.type)=some 326 by kernel_rfl) underlying326 underlying209 kR kR h
def Rw (h:W.ShapedOpen prog):9<=W.heap.size:=by
 obtain⟨h1,-⟩:=h;have hz:(((begin prog (fun _ _=>0) default).world.heap[9 - 1]?).bind Obj.row?).isSome:=kR
 obtain⟨⟨zero,t⟩,hz⟩:=Option.isSome_iff_exists.1 hz;obtain⟨cs,hc,-⟩:=h1 (9 - 1) zero t (QI kR) hz;have:=(lo hc);lia
def Rx (u:TypeId) (h:prog.typeName? 3 u=some "*errors.errorString"):u=339 :=
 typeName_ptr_named (nm:= "errors.errorString") (by rw [show "*"++ "errors.errorString"= "*errors.errorString" by decide];kernel_rfl) kR tQ u (by rw [show "*"++ "errors.errorString"= "*errors.errorString" by decide];exact h)
def ks (h:laidMetH prog Rows.driveOnRow.laid W) (hs:W.ShapedOpen prog):xq W:=by
 rw [MakeChecks.laidMetH_plain _ _ _ (by kernel_rfl)] at h
 obtain⟨a0,a1,s0,s1,c0,c1,t0,t1,ah,ai,-⟩:=laid_sentinels2 (jU (jU (jU (jU h)))) (show prog.globalNamed "strconv.ErrRange"=some 6 by kernel_rfl) (show (prog.globals[6]?).map (·.type)=some 49 by kernel_rfl) (show prog.globalNamed "strconv.ErrSyntax"=some 5 by kernel_rfl) (show (prog.globals[5]?).map (·.type)=some 49 by kernel_rfl)
  underlying49 (tp:=339) Rx underlying339 underlying341 rfl rfl underlying9 kR kR
 exact⟨⟨Rw hs,Rv (jU (jU h)),Ru (jU (jU (jU (jU (jU (jU h))))))⟩,cell_of_shapedOpen_int (g:=0) (zero:=#[J 0]) (t:=3) (k:=.i64) hs (QI kR) kR rfl kR kR underlying3,⟨_,_,ai⟩,⟨_,_,ah⟩⟩
end
section
open Go.RowKit
def tells_all (s:Li) (w:wO) (b:xq w) (hs:By s) (a:s.length<=1048576):Calls Tryz.prog 3 #[.string (strOfNums s)] w (Rt w (.bool true)) :=
 OS j' Dk VB us ut (LH ut C7 C8 w8) s w b hs a
end
end Go.Proofs.YtjlfcbccpcigeacGreatDoor
