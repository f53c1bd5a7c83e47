import Derived.Test.YtjlfcbccpcigeacGreatDoorF
import Derived.Test.YtjlfcbccpcigeacGreatDoorShelf
import Derived.Lib.AppendIntMem
set_option maxHeartbeats 40000000
set_option linter.defProp false
namespace Go.Proofs.YtjlfcbccpcigeacGreatDoor
open Go.Proofs.Tryz Go.RowKit Go.Joins
set_option linter.unusedVariables false
set_option linter.unusedSimpArgs false
set_option maxRecDepth 8192
section
variable {B:Nat} {w w':wO} {p:Li}
structure VarsP (w:wO):Prop where
 size:9<=w.heap.size
 tab:Lib.TabIs prog w "internal/strconv.uint64pow10" .u64 Lib.pow10Tab
 ops:∀i:Nat,i<8->w.cell? (E 1 i)=some (.string (strOfNums (bA (11+(i:Int)))))
structure xq (w:wO):Prop extends VarsP w where
 most:∃m,w.cell? (E 0 0)=Y m
 syn:∃tp p,w.var? prog "strconv.ErrSyntax"=some #[.iface tp p]
 rng:∃tp p,w.var? prog "strconv.ErrRange"=some #[.iface tp p]
theorem Au (hb:Below B w w') {b o:Nat} (h:b<B):w'.cell? (E b o)=w.cell? (E b o):=by simp only [World.cell?,hb.block b h]
def VarsP.gE (h:VarsP w) (hb:Below B w w') (hB:9<=B):VarsP w':=by
 obtain⟨h0,a,b⟩:=h;refine⟨QH h0 hb.size,?_,fun i hi=>?_⟩
 ·exact var?_below hb (g:=2) kR lI a
 grind [Au]
def VarsP.on (h:VarsP w) (hb:Bw w w'):VarsP w':=h.gE hb h.size
def xq.gE (h:xq w) (hb:Below B w w') (hB:9<=B):xq w':=by
 obtain⟨c,⟨m,h1⟩,⟨i,d,a⟩,⟨j,f,b⟩⟩:=h;refine⟨c.gE hb hB,⟨m,?_⟩,⟨i,d,?_⟩,⟨j,f,?_⟩⟩
 ·grind [Au]
 ·exact var?_below hb (g:=5) kR lI a
 exact var?_below hb (g:=6) kR lI b
def xq.on (h:xq w) (hb:Bw w w'):xq w':=h.gE hb h.size
theorem Av (n:Int):(⟨(Lib.itoa n).toArray⟩:ByteArray)=strOfNums (zo n):=by rw [NG];rfl
def J9 (n:Int) (w:wO) (b:VarsP w) (h0:-9223372036854775808<=n) (h1:n<=9223372036854775807) :
  Cp 122 #[J n] w (Rt w (.string (strOfNums (zo n)))) :=
 (Tryz.strconv_Itoa n h0 h1 w b.tab).m fun e w' ⟨a,k,os,c⟩=>⟨by rw [a,Av],by rw [c];exact Lib.below_grow _ _ (Qc _) k os⟩
def sL (n:Int) (w:wO) (b:VarsP w) (h0:-9223372036854775808<=n) (h1:n<=9223372036854775807) :
  Cp 117 #[J n,J 10] w (Rt w (.string (strOfNums (zo n)))) :=
 (Tryz.strconv_FormatInt_10 n h0 h1 w b.tab).m fun e w' ⟨a,k,os,c⟩=>⟨by rw [a,Av],by rw [c];exact Lib.below_grow _ _ (Qc _) k os⟩
def J' (s:Li) (v:Int) (w:wO) (c:s.length<=2000000) (h:Lib.parseIntB 64 (b8 s)=.ok v) :
  Cp 228 #[.string (strOfNums s),J 10,J 64] w (Rt w (.tuple #[J v,.nilIface])) :=
 (Tryz.strconv_ParseInt_10_at64_ok (strOfNums s) (by rw [strOfNums_size];lia) v (by rw [yP];exact h) w).m fun e w' ⟨a,b⟩=>⟨a,by
  rcases b with rfl | ⟨t,rfl⟩
  ·exact QA _ _
  ·exact Lib.bytesWorld_below _ _ _⟩
def Ka (s:Li) (w:wO) (c:xq w) (l:s.length<=2000000) (h:∀v,Lib.parseIntB 64 (b8 s)≠.ok v) :
  Cp 228 #[.string (strOfNums s),J 10,J 64] w fun e w'=>∃v N,e=.returned (.tuple #[J v,.iface 311 (.pointer (pA N))])/\-9223372036854775808<=v/\v<=9223372036854775807/\Bw w w':=by
 obtain⟨j,g,d⟩:=c.syn;obtain⟨k,i,f⟩:=c.rng;cases b:Lib.parseIntB 64 (b8 s) with
 | ok v=>exact absurd b (h v)
 | «syntax»=>exact (Tryz.strconv_ParseInt_10_at64_syntax_var (strOfNums s) (by rw [strOfNums_size];lia) (by rw [yP];exact b) j g w d).m fun e w' ⟨N,a,_,_,hb⟩=>⟨0,N,a,lI,lI,hb⟩
 | range=>exact (Tryz.strconv_ParseInt_10_at64_range_var (strOfNums s) (by rw [strOfNums_size];lia) (by rw [yP];exact b) k i w f).m fun e w' ⟨N,a,_,_,hb⟩=>⟨_,N,a,by unfold Lib.intSat;split <;> lia,by unfold Lib.intSat;split <;> lia,hb⟩
theorem xK (n k:Nat) (w:wO):Below n w (w.drewN k):=⟨rfl,rfl,rfl,Qc _,fun _ _=>rfl⟩
def sP (s:Li) (x:Int) (b:ByteArray) (c:b=strOfNums [x]) (w:wO) (f:xq w) (hs:By s) (g:0<=x/\x<=255) (i:s.length<=2000000) (h:zx x s=[p]) :
  Cp 12 #[.string (strOfNums s),.string b] w (Rt w (.tuple #[.string (strOfNums s),.string (strOfNums []),.bool false])):=by subst c;obtain⟨m,hm⟩:=f.most;have a:=Tryz.strings_Cut (strOfNums s) (strOfNums [x]) m w (by rw [strOfNums_size];lia) hm;rw [yP,yP,NH g hs h] at a;exact a.m fun e w' ⟨d,n,j⟩=>⟨d,by grind [xK]⟩
def sQ (s:Li) (x:Int) (b:ByteArray) (c:b=strOfNums [x]) (w:wO) (f:xq w) (hs:By s) (g:0<=x/\x<=255) (i:s.length<=2000000) {q:Li} {qs:List Li} (h:zx x s=p :: q :: qs) :
  Cp 12 #[.string (strOfNums s),.string b] w (Rt w (.tuple #[.string (strOfNums p),.string (strOfNums (s.drop (p.length+1))),.bool true])):=by subst c;obtain⟨m,hm⟩:=f.most;have a:=Tryz.strings_Cut (strOfNums s) (strOfNums [x]) m w (by rw [strOfNums_size];lia) hm;rw [yP,yP,NI g hs h] at a;exact a.m fun e w' ⟨d,n,j⟩=>⟨d,by grind [xK]⟩
def Kb (s:Li) (b:ByteArray) (g:b=strOfNums [35]) (w:wO) (hs:By s) :
  Cp 29 #[.string (strOfNums s),.string b] w (Re w (.tuple #[.string (strOfNums (if s.head?=some 35 then s.tail else s)),.bool (decide (s.head?=some 35))])):=by
 subst g;have a:=Tryz.strings_CutPrefix (strOfNums s) (strOfNums [35]) w;rw [yP,yP] at a;have f:Lib.hasPrefix (b8 s) (b8 [35])=decide (s.head?=some 35):=by
  cases s with
  | nil=>rfl
  | cons c l =>
   show List.isPrefixOf [UInt8.ofNat 35] (UInt8.ofNat c.toNat :: b8 l)=_;by_cases h:c=35
   ·subst h;rfl
   rw [Qk (show ¬(c :: l).head?=some 35 from fun e=>h (by simpa using e))];have:UInt8.ofNat 35≠UInt8.ofNat c.toNat:=fun e=>h (nY (d:=c) (c:=35) lI (hs c (QY ..)) e).s;grind
 have i:(⟨(Lib.trimPrefix (b8 s) (b8 [35])).toArray⟩:ByteArray)=strOfNums (if s.head?=some 35 then s.tail else s):=by
  unfold Lib.trimPrefix;rw [f];by_cases h:s.head?=some 35
  ·rw [Qi h,Qf rfl,Qf h,show (b8 [35]).length=1 from rfl,<-p5,List.drop_one];rfl
  rw [Qk h,Qe WM,Qe h];rfl
 rw [f,i] at a;exact a
end
def vd (s:Li) (w:wO) (f:xq w) (hs:By s) (d:s.length<=2000000) :
  Cp 180 #[.string (strOfNums s)] w (VZ s 19 w):=by
 by_cases a:∃v,Lib.parseIntB 64 (b8 s)=.ok v
 ·obtain⟨v,a⟩:=a;have hr:=Lib.parseIntB_bounds a;have h0:-9223372036854775808<=v:=oM
  have h1:v<=9223372036854775807:=oM
  have j:=Z (fun W=>J' s v W d a);have q:=Z (fun W h=>sL v W h h0 h1);have k:=Z f;have c:=Z (Cj a h0 h1);have t:((strOfNums (zo v)).toList == (strOfNums s).toList)=decide (zo v=s):=pX (BZ v) hs;obtain⟨u,l⟩:=nm (decide (zo v=s));rw [l] at t;have r:=Z l;have g:=Z h0;have i:=Z h1;clear f a hr l h0 h1 hs d;go_enter func180,ntmps180;go_wp2_with fail;refine (j.o _).mr fun y hb=>?_;have b:=Z hb;clear hb;go_wp2_with fail;refine (q.o _ (k.o.on b.o).toVarsP).mr fun z hb=>?_;have p:=Z (b.o.tm hb);clear hb;go_wp2_with fail;go_ret2;exact Nn c.o r.o g.o i.o p.o
 have j:=Z (fun W h=>Ka s W h d (fun v e=>a ⟨v,e⟩));have c:=Z (Cl (s:=s) fun v e=>a ⟨v,e⟩);have k:=Z f;clear f a hs d;go_enter func180,ntmps180;go_wp2_with fail;refine (j.o _ k.o).m ?_;rintro e y ⟨v,N,rfl,n,o,hb⟩;have b:=Z hb;have g:=Z n;have i:=Z o;clear hb n o;go_wp2;go_ret2;exact⟨v,false,rfl,by rw [c.o];rfl,fun m hm=>(by rw [c.o] at hm;cases hm),g.o,i.o,b.o⟩
def FH {s:Li} {n:Int} {b:Bool} {w y:wO} (h1:b=(zT s 19).isSome) (g:∀m,zT s 19=some m->n=m) (a:-9223372036854775808<=n) (d:n<=9223372036854775807) (f:Bw w y) {c:Bool} (h:c=(b && decide (-1000000000000000000<n/\n<1000000000000000000))):VZ s 18 w (.returned (.tuple #[J n,.bool c])) y:=by
 refine⟨n,c,rfl,?_,fun m hm=>?_,a,d,f⟩
 ·grind [NN]
 grind [zT]
def ZI (s:Li) (w:wO) (m:xq w) (hs:By s) (l:s.length<=2000000) :
  Cp 179 #[.string (strOfNums s)] w (VZ s 18 w):=by
 have o:=Z (fun W h=>vd s W h hs l);have p:=Z m;clear m hs l;go_enter func179,ntmps179;go_wp2_with fail;refine (o.o _ p.o).m ?_;rintro e y ⟨n,b,rfl,h1,g,i,j,hb⟩;have a:Hid (∀c:Bool,c=(b && decide (-1000000000000000000<n/\n<1000000000000000000))->VZ s 18 w (.returned (.tuple #[J n,.bool c])) y):=fun c d=>FH h1 g i j hb d;clear h1 g i j hb;cases b with
 | false =>go_wp2;go_ret2;exact a.o _ rfl
 | true =>
  by_cases k:-1000000000000000000<n
  ·by_cases d:n<1000000000000000000
   ·go_wp2;go_ret2;exact a.o _ (by simp [k,d])
   have f:decide (n<1000000000000000000)=false:=Qk d;go_wp2;go_ret2;exact a.o _ (by simp [f])
  have f:decide (-1000000000000000000<n)=false:=Qk k;go_wp2;go_ret2;exact a.o _ (by simp [f])
section
variable {s:Li}
def kh (s:Li):Option Int:=([11,12,13,14,15,16,17,18]:Li).find? fun o=>decide (bA o=s)
def CE:∀k:Nat,k<8->(∀j:Nat,j<k->¬bA (11+(j:Int))=s)->bA (11+(k:Int))=s->kh s=some (11+(k:Int)):=by
 intro k b h a;unfold kh;match k,b with
 | 0,_=>simp [List.find?,show bA 11=s from a]
 | 1,_=>simp [List.find?,show ¬bA 11=s from h 0 lI,show bA 12=s from a]
 | 2,_=>simp [List.find?,show ¬bA 11=s from h 0 lI,show ¬bA 12=s from h 1 lI,show bA 13=s from a]
 | 3,_=>simp [List.find?,show ¬bA 11=s from h 0 lI,show ¬bA 12=s from h 1 lI,show ¬bA 13=s from h 2 lI,show bA 14=s from a]
 | 4,_=>simp [List.find?,show ¬bA 11=s from h 0 lI,show ¬bA 12=s from h 1 lI,show ¬bA 13=s from h 2 lI,show ¬bA 14=s from h 3 lI,show bA 15=s from a]
 | 5,_=>simp [List.find?,show ¬bA 11=s from h 0 lI,show ¬bA 12=s from h 1 lI,show ¬bA 13=s from h 2 lI,show ¬bA 14=s from h 3 lI,show ¬bA 15=s from h 4 lI,show bA 16=s from a]
 | 6,_=>simp [List.find?,show ¬bA 11=s from h 0 lI,show ¬bA 12=s from h 1 lI,show ¬bA 13=s from h 2 lI,show ¬bA 14=s from h 3 lI,show ¬bA 15=s from h 4 lI,show ¬bA 16=s from h 5 lI,show bA 17=s from a]
 | 7,_=>simp [List.find?,show ¬bA 11=s from h 0 lI,show ¬bA 12=s from h 1 lI,show ¬bA 13=s from h 2 lI,show ¬bA 14=s from h 3 lI,show ¬bA 15=s from h 4 lI,show ¬bA 16=s from h 5 lI,show ¬bA 17=s from h 6 lI,show bA 18=s from a]
theorem CF (h:∀j:Nat,j<8->¬bA (11+(j:Int))=s):kh s=none:=by unfold kh;simp [List.find?,show ¬bA 11=s from h 0 lI,show ¬bA 12=s from h 1 lI,show ¬bA 13=s from h 2 lI,show ¬bA 14=s from h 3 lI,show ¬bA 15=s from h 4 lI,show ¬bA 16=s from h 5 lI,show ¬bA 17=s from h 6 lI,show ¬bA 18=s from h 7 lI]
def qk (s:Li) (w:wO) (e:Ending) (w':wO):Prop:=∃o b,e=.returned (.tuple #[J o,.bool b])/\b=(kh s).isSome/\(∀m,kh s=some m->o=m)/\w'=w
abbrev lp:Array vO:=#[.string (strOfNums (bA 11)),.string (strOfNums (bA 12)),.string (strOfNums (bA 13)),.string (strOfNums (bA 14)),.string (strOfNums (bA 15)),.string (strOfNums (bA 16)),.string (strOfNums (bA 17)),.string (strOfNums (bA 18))]
def Oq (W:wO):∀k:Nat,k<8->(Instr.index 314 (.agg lp) (.int .i64 (k:Int))).run prog W=.ok (.string (strOfNums (bA (11+(k:Int))))) W:=by
 intro k a;match k,a with
 | 0,_=>exact (by kernel_rfl:(Instr.index 314 (.agg lp) (.int .i64 0)).run prog W=.ok (.string (strOfNums (bA 11))) W)
 | 1,_=>exact (by kernel_rfl:(Instr.index 314 (.agg lp) (.int .i64 1)).run prog W=.ok (.string (strOfNums (bA 12))) W)
 | 2,_=>exact (by kernel_rfl:(Instr.index 314 (.agg lp) (.int .i64 2)).run prog W=.ok (.string (strOfNums (bA 13))) W)
 | 3,_=>exact (by kernel_rfl:(Instr.index 314 (.agg lp) (.int .i64 3)).run prog W=.ok (.string (strOfNums (bA 14))) W)
 | 4,_=>exact (by kernel_rfl:(Instr.index 314 (.agg lp) (.int .i64 4)).run prog W=.ok (.string (strOfNums (bA 15))) W)
 | 5,_=>exact (by kernel_rfl:(Instr.index 314 (.agg lp) (.int .i64 5)).run prog W=.ok (.string (strOfNums (bA 16))) W)
 | 6,_=>exact (by kernel_rfl:(Instr.index 314 (.agg lp) (.int .i64 6)).run prog W=.ok (.string (strOfNums (bA 17))) W)
 | 7,_=>exact (by kernel_rfl:(Instr.index 314 (.agg lp) (.int .i64 7)).run prog W=.ok (.string (strOfNums (bA 18))) W)
def Ot (s:Li) (w:wO) (a:xq w) (hs:By s) :
  Cp 183 #[.string (strOfNums s)] w (qk s w):=by
 have v:w.c 1 0=some (.string (strOfNums (bA 11))):=a.ops 0 oM;have x:w.c 1 1=some (.string (strOfNums (bA 12))):=a.ops 1 oM;have y:w.c 1 2=some (.string (strOfNums (bA 13))):=a.ops 2 oM;have z:w.c 1 3=some (.string (strOfNums (bA 14))):=a.ops 3 oM;have A:w.c 1 4=some (.string (strOfNums (bA 15))):=a.ops 4 oM;have B:w.c 1 5=some (.string (strOfNums (bA 16))):=a.ops 5 oM;have C:w.c 1 6=some (.string (strOfNums (bA 17))):=a.ops 6 oM;have D:w.c 1 7=some (.string (strOfNums (bA 18))):=a.ops 7 oM;have p:Hid (∀(W:wO) (k:Nat),k<8->(Instr.index 314 (.agg #[.string (strOfNums (bA 11)),.string (strOfNums (bA 12)),.string (strOfNums (bA 13)),.string (strOfNums (bA 14)),.string (strOfNums (bA 15)),.string (strOfNums (bA 16)),.string (strOfNums (bA 17)),.string (strOfNums (bA 18))]) (J (k:Int))).run prog W=.ok (.string (strOfNums (bA (11+(k:Int))))) W):=fun W k c=>Oq W k c;have o:Hid (∀k:Nat,((strOfNums (bA (11+(k:Int)))).toList == (strOfNums s).toList)=decide (bA (11+(k:Int))=s)):=fun k=>pX (NT _) hs;have t:Hid (∀k:Nat,k<8->(∀j:Nat,j<k->¬bA (11+(j:Int))=s)->bA (11+(k:Int))=s->qk s w (.returned (.tuple #[J (11+(k:Int)),.bool true])) w):=fun k c h b=>⟨_,true,rfl,by rw [CE k c h b];rfl,fun m hm=>by rw [CE k c h b] at hm;exact QD hm,rfl⟩;have r:Hid ((∀j:Nat,j<8->¬bA (11+(j:Int))=s)->qk s w (.returned (.tuple #[J 0,.bool false])) w):=fun h=>⟨0,false,rfl,by rw [CF h];rfl,fun m hm=>(by grind [CF]),rfl⟩;clear a hs;go_enter func183,ntmps183;go_wp2;clear v x y z A B C D;go_loopw [7] (fun i wr=>wr=w/\∃k:Nat,i=J (k:Int)/\k<=8/\Hid (∀j:Nat,j<k->¬bA (11+(j:Int))=s)) (fun i _=>8 - (intOf i).toNat)
 case atStart=>exact⟨rfl,0,rfl,oM,fun j n=>absurd n (Qv j)⟩
 obtain⟨rfl,k,rfl,c,d⟩:=hrel;by_cases l:k<8
 ·have F:=fun W=>p W k l;have g:=o k;have G:(k:Int)<8:=oM
  by_cases b:bA (11+(k:Int))=s
  ·have f:=Z (t k l d b);rw [Qi b] at g;generalize strOfNums (bA (11+(k:Int)))=O at *
   clear b;go_wp2;go_ret2;exact f
  have q:Hid (∀j:Nat,j<k+1->¬bA (11+(j:Int))=s):=fun j n=>by
   rcases Nat.lt_or_ge j k with h | h
   ·exact d j h
   grind
  rw [Qk b] at g;generalize strOfNums (bA (11+(k:Int)))=O at *
  clear b;go_wp2;go_roundw
  case rel=>exact⟨sM,k+1,sM,oM,q⟩
  simp [intOf];omega
 have u:k=8:=oM
 subst u;have f:=Z (r d);go_wp2;go_ret2;exact f
end
def No {B:Nat} {e:TypeId} {k:Nat} {v:vO} {n:Nat} {b:List vO} {w w':wO} (hb:Bw w w') (h:w.ownsRowF B e k v n b):w'.ownsRowF B e k v n b:=by
 obtain⟨d,h0 | ⟨g,cap,a,x,f,hB,c,r⟩⟩:=h
 ·exact⟨d,.inl h0⟩
 exact⟨d,.inr ⟨g,cap,a,x,f,hB,by rw [hb.block g (lo c)];exact c,r⟩⟩
section
variable {s p:Li} {n0:Int} {b0 ok:Bool}
def ZC (s:Li):Li:=if s.head?=some 35 then s.tail else s
def IY (h:By s):By (ZC s):=by
 unfold ZC;split
 ·exact fun c a=>h c (List.mem_of_mem_tail a)
 exact h
def IZ (s:Li):(ZC s).length<=s.length:=by
 grind [ZC]
def I0 (h:zx 126 (ZC s)=[p]) (hb:b0=(zT (ZC s) 18).isSome) (hn:∀m,zT (ZC s) 18=some m->n0=m) (b:ok=(decide (s.head?=some 35) && b0)):ok=(Zw s).isSome/\∀r,Zw s=some r->n0=r.1/\0=r.2:=by
 by_cases a:s.head?=some 35
 ·have c:p=ZC s:=by have:=ZH 126 (ZC s);rw [h] at this;exact this
  have hr:Zw s=(zT (ZC s) 18).map fun n=>(n,0):=by grind [Zw,ZC]
  simp_all
 grind [Dq]
def I4 {q:Li} {qs:List Li} (h:zx 126 (ZC s)=p :: q :: qs) (hs:By (ZC s)) {n1:Int} {b1:Bool} (l:b0=(zT p 18).isSome) (o:∀m,zT p 18=some m->n0=m) (d:b1=(zT ((ZC s).drop (p.length+1)) 18).isSome) (j:∀m,zT ((ZC s).drop (p.length+1)) 18=some m->n1=m) (k:ok=(decide (s.head?=some 35) && b0 && b1 && decide (0<n1))):ok=(Zw s).isSome/\∀r,Zw s=some r->n0=r.1/\n1=r.2:=by
 by_cases b:s.head?=some 35
 ·have v:zx 126 s.tail=p :: q :: qs:=by grind [ZC]
  obtain⟨-,-,f⟩:=YE (x:=126) lI hs h;have g:=ZH 126 ((ZC s).drop (p.length+1));rw [f] at g;refine PX (np:=(p :: q :: qs).length) (o0:=zT p 18) (o1:=zT ((ZC s).drop (p.length+1)) 18) ?_ ?_ sM l o d j (b0:=b0) (b1:=b1) ?_
  ·intro a;have u:qs=[]:=Wi.1 (by simpa using a);subst u;rw [show (ZC s).drop (p.length+1)=q from g.s];grind [Zw]
  ·grind [Zw]
  rw [k,Qi b,Wb];by_cases a:(p :: q :: qs).length=2
  ·rw [Qi a,qE]
  have c:zT ((ZC s).drop (p.length+1)) 18=none:=by
   cases c:zT ((ZC s).drop (p.length+1)) 18 with
   | none=>rfl
   | some n =>have t:=(mz c).1;have i:=Dh (x:=126) _ (Po (n:=n) (x:=126) lI lI);rw [<-t,f] at i;exfalso;apply a;have:=congrArg List.length i;simp at this ⊢;exact this
  rw [d,c];simp
 grind [Dq]
def su (s:Li) (w:wO) (hv:xq w) (hs:By s) (hl:s.length<=2000000) :
  Cp 182 #[.string (strOfNums s)] w (oA s w):=by
 have M:Hid (Bw w (w.alloc (.cells #[J 0,J 0] 142))):=Qd _ _;have aN:Hid ((w.alloc (.cells #[J 0,J 0] 142)).heap.size=w.heap.size+1):=by show _=_;simp
 have k:Hid (∀y,Below (w.heap.size+1) (w.alloc (.cells #[J 0,J 0] 142)) y->y.heap[w.heap.size]?=some (.cells #[J 0,J 0] 142 (0,0))/\w.heap.size+1<=y.heap.size/\Bw w y):=fun y T=>⟨(T.block _ oM).t (zm _ _ _),by have:=T.size;rw [aN.o] at this;exact this,M.o.t (T.m oM)⟩;have t:=Z hv;have K:=Z (fun W=>Kb s (ByteArray.mk #[35]) rfl W hs);have i:=Z (IY hs);have P:(ZC s).length<=2000000:=QH (IZ s) hl;obtain⟨nm,l⟩:∃nm,ZC s=nm:=⟨_,rfl⟩;have aC:(if s.head?=some 35 then s.tail else s)=nm:=l;rw [aC] at K;obtain⟨r,O⟩:∃r,decide (s.head?=some 35)=r:=⟨_,rfl⟩;rw [O] at K;have aR:=Z O;have aS:=Z l;rw [l] at i P;have B:=Z P;clear hv hs hl l aC O P;go_enter func182,ntmps182;go_wp2_with fail;refine (K.o _).m ?_;rintro e y0 ⟨rfl,rfl⟩;go_wp2_with fail;cases a:zx 126 nm with
 | nil=>exact absurd a (xQ 126 nm)
 | cons p ps =>
  cases ps with
  | nil =>
   have L:=Z a;refine (sP nm 126 (ByteArray.mk #[126]) rfl _ (t.o.on M.o) i.o oM B.o a).m ?_;rintro e y1 ⟨rfl,D⟩;have n:Hid (Below (w.heap.size+1) (w.alloc (.cells #[J 0,J 0] 142)) y1):=(by simp_all);clear D a;go_wp2_with fail;refine (ZI nm _ (t.o.on (k.o _ n.o).2.2) i.o B.o).m ?_;rintro e b ⟨n0,b0,rfl,z,A,V,aX,m⟩;have F:=Z z;have I:=Z A;have N:Hid (Below (w.heap.size+1) (w.alloc (.cells #[J 0,J 0] 142)) b):=n.o.t (m.m (k.o _ n.o).2.1);obtain⟨b2,aQ,u⟩:=k.o _ N.o;have G:=Z u;have k0:b.cell? (E w.heap.size 0)=Y 0:=(by rw [Qa b2];rfl);have k1:b.cell? (E w.heap.size 1)=Y 0:=(by rw [Qa b2];rfl);have f0:b.frozen? (E w.heap.size 0)=false:=(qZ b2);have f1:b.frozen? (E w.heap.size 1)=false:=(qZ b2);have C:=Z (Dr (a':=J n0) (b':=J 0) b2);have g:Hid (((b.setCell (E w.heap.size 0) (J n0)).setCell (E w.heap.size 1) (J 0)).cell? (E w.heap.size 0)=Y n0):=(by show _=_;rw [Qa C.o];rfl);have h:Hid (((b.setCell (E w.heap.size 0) (J n0)).setCell (E w.heap.size 1) (J 0)).cell? (E w.z 1)=Y 0):=(by show _=_;rw [Qa C.o];rfl);have j:Hid (∀ok,ok=(r && b0)->oA s w (.returned (.tuple #[.agg #[J n0,J 0],.bool ok])) ((b.setCell (E w.z 0) (J n0)).setCell (E w.z 1) (J 0))):=fun ok Q=>by have l:=aS.o;subst l;obtain⟨X,q2⟩:=I0 L.o F.o I.o (ok:=ok) (by rw [aR.o];exact Q);exact⟨n0,0,ok,rfl,X,q2,(G.o.setCell (Qc _) _).setCell (Qc _) _⟩
   clear z A m b2 u;cases r with
   | false =>have c:=Z (j.o false rfl);go_wp2_with fail;have d:=g.o;have f:=h.o;exact bodyPost_ret (v:=.tuple #[.agg #[J n0,J 0],.bool false]) (by simp [results,results182,go_sem,d,f]) rfl c.o
   | true =>have c:=Z (j.o b0 rfl);go_wp2_with fail;have d:=g.o;have f:=h.o;exact bodyPost_ret (v:=.tuple #[.agg #[J n0,J 0],.bool b0]) (by simp [results,results182,go_sem,d,f]) rfl c.o
  | cons q qs =>
   have L:=Z a;have aT:Hid (By p/\p.length<=2000000):=(by obtain⟨-,h2,-⟩:=YE (x:=126) oM i.o a;rw [<-h2];exact⟨mX i.o _,by have:=B.o;simp;omega⟩);have H:Hid (By (nm.drop (p.length+1))/\(nm.drop (p.length+1)).length<=2000000):=⟨p8 i.o _,by have:=B.o;simp;omega⟩;refine (sQ nm 126 (ByteArray.mk #[126]) rfl _ (t.o.on M.o) i.o oM B.o a).m ?_;rintro e y1 ⟨rfl,D⟩;have n:Hid (Below (w.z+1) (w.alloc (.cells #[J 0,J 0] 142)) y1):=(by simp_all);clear D a;obtain⟨S,o⟩:∃S,nm.drop (p.length+1)=S:=⟨_,rfl⟩;rw [o] at H;have aV:=Z o;rw [o];clear o;go_wp2_with fail;refine (ZI p _ (t.o.on (k.o _ n.o).2.2) aT.o.1 aT.o.2).m ?_;rintro e y15 ⟨n0,b0,rfl,z,A,V,aX,m⟩;have F:=Z z;have I:=Z A;have R:Hid (Below (w.z+1) (w.alloc (.cells #[J 0,J 0] 142)) y15):=n.o.t (m.m (k.o _ n.o).2.1);clear z A m;go_wp2_with fail;refine (ZI S _ (t.o.on (k.o _ R.o).2.2) H.o.1 H.o.2).m ?_;rintro e b ⟨n1,b1,rfl,aA,aE,lo1,aY,m⟩;have aU:=Z aA;have aW:=Z aE;have N:Hid (Below (w.z+1) (w.alloc (.cells #[J 0,J 0] 142)) b):=R.o.t (m.m (k.o _ R.o).2.1);obtain⟨b2,aQ,u⟩:=k.o _ N.o;have G:=Z u;have k0:b.cell? (E w.z 0)=Y 0:=(by rw [Qa b2];rfl);have k1:b.cell? (E w.z 1)=Y 0:=(by rw [Qa b2];rfl);have f0:b.frozen? (E w.z 0)=false:=(qZ b2);have f1:b.frozen? (E w.z 1)=false:=(qZ b2);have C:=Z (Dr (a':=J n0) (b':=J n1) b2);have g:Hid (((b.setCell (E w.z 0) (J n0)).setCell (E w.z 1) (J n1)).cell? (E w.z 0)=Y n0):=(by show _=_;rw [Qa C.o];rfl);have h:Hid (((b.setCell (E w.z 0) (J n0)).setCell (E w.z 1) (J n1)).cell? (E w.z 1)=Y n1):=(by show _=_;rw [Qa C.o];rfl);have j:Hid (∀ok,ok=(r && b0 && b1 && decide (0<n1))->oA s w (.returned (.tuple #[.agg #[J n0,J n1],.bool ok])) ((b.setCell (E w.z 0) (J n0)).setCell (E w.z 1) (J n1))):=fun ok Q=>by have l:=aS.o;subst l;have o:=aV.o;subst o;obtain⟨X,q2⟩:=I4 L.o i.o F.o I.o aU.o aW.o (ok:=ok) (by rw [aR.o];exact Q);exact⟨n0,n1,ok,rfl,X,q2,(G.o.setCell (Qc _) _).setCell (Qc _) _⟩
   clear aA aE m b2 u;cases r with
   | false =>have c:=Z (j.o false rfl);go_wp2_with fail;have d:=g.o;have f:=h.o;exact bodyPost_ret (v:=.tuple #[.agg #[J n0,J n1],.bool false]) (by simp [results,results182,go_sem,d,f]) rfl c.o
   | true =>
    cases b0 with
    | false =>have c:=Z (j.o false rfl);go_wp2_with fail;have d:=g.o;have f:=h.o;exact bodyPost_ret (v:=.tuple #[.agg #[J n0,J n1],.bool false]) (by simp [results,results182,go_sem,d,f]) rfl c.o
    | true =>
     cases b1 with
     | false =>have c:=Z (j.o false rfl);go_wp2_with fail;have d:=g.o;have f:=h.o;exact bodyPost_ret (v:=.tuple #[.agg #[J n0,J n1],.bool false]) (by simp [results,results182,go_sem,d,f]) rfl c.o
     | true =>
      by_cases U:0<n1
      ·have c:=Z (j.o true (by rw [Qi U];rfl));go_wp2_with fail;have d:=g.o;have f:=h.o;exact bodyPost_ret (v:=.tuple #[.agg #[J n0,J n1],.bool true]) (by simp [results,results182,go_sem,d,f]) rfl c.o
      have c:=Z (j.o false (by rw [Qk U];rfl));have aZ:decide (0<n1)=false:=Qk U;go_wp2_with fail;have d:=g.o;have f:=h.o;exact bodyPost_ret (v:=.tuple #[.agg #[J n0,J n1],.bool false]) (by simp [results,results182,go_sem,d,f]) rfl c.o
end
def ZP (w:wO) (b off n:Nat) (ws:List Li):Prop:=ws.length=n/\b<w.heap.size/\∀i,i<n->w.cell? (E b (off+i))=some (.string (strOfNums (ws.getD i [])))
def ZP.gE {w w':wO} {b a n:Nat} {ws:List Li} (h:ZP w b a n ws) (hb:Bw w w'):ZP w' b a n ws :=
 ⟨h.1,Qu h.2.1 hb.size,fun i hi=>(ze hb _ _ h.2.1).t (h.2.2 i hi)⟩
def Zk (ws:List Li):Prop:=∀i,By (ws.getD i [])/\(ws.getD i []).length<=2000000
def UU (ws:List Li) (b n cap:Nat) (w:wO) (d:xq w) (h:ZP w b 0 n ws) (a:Zk ws) (s:n<=cap) (u:cap<=9223372036854775807) :
  Cp 123 #[.slice (pA b) n cap] w fun e w'=>∃v ok,e=.returned (.tuple #[J v,.bool ok])/\(n≠2->ok=false)/\(n=2->ok=(zT (ws.getD 1 []) 18).isSome/\∀m,zT (ws.getD 1 []) 18=some m->v=m)/\-9223372036854775808<=v/\v<=9223372036854775807/\Bw w w':=by
 by_cases c:n=2
 ·subst c;have A:=h.2.2 1 oM;have t:=h.2.1;have p:=Z (fun W r=>ZI (ws.getD 1 []) W r (a 1).1 (a 1).2);have q:=Z d;generalize ws.getD 1 []=p1 at *
  clear h a d;go_enter func123,ntmps123;go_wp2_with fail;refine (p _ q).m ?_;rintro e y ⟨k,b0,rfl,f,g,lo,hi,j⟩;have o:Hid (∃v ok,(Ending.returned (.tuple #[J k,.bool b0]))=.returned (.tuple #[J v,.bool ok])/\(2≠2->ok=false)/\(2=2->ok=(zT p1 18).isSome/\∀m,zT p1 18=some m->v=m)/\-9223372036854775808<=v/\v<=9223372036854775807/\Bw w y):=⟨k,b0,rfl,fun h=>absurd rfl h,fun _=>⟨f,g⟩,lo,hi,j⟩;clear f g j;go_wp2;go_ret2;exact o
 have i:¬(n:Int)=2:=oM
 have x:((n:Int) == 2)=false:=Wf i;have z:(n:Int)≠2:=i;have l:=Z c;clear h a d c;go_enter func123,ntmps123;go_wp2;go_ret2;exact⟨0,false,rfl,fun _=>rfl,fun h=>absurd h l,oM,oM,QA _ _⟩
def pC (o:Int) (a b c:Li) (w:wO) (e:Ending) (w':wO):Prop:=∃x y z ok,e=.returned (.tuple #[.agg #[J o,J 0,J 0,J 0,J 0,J x,J y,J z,J 0],.bool ok])/\ok=((zT a 18).isSome && (zT b 18).isSome && (zT c 18).isSome)/\(∀m,zT a 18=some m->x=m)/\(∀m,zT b 18=some m->y=m)/\(∀m,zT c 18=some m->z=m)/\Bw w w'
def Ah (o:Int) (ws:List Li) (b f cap:Nat) (w:wO) (hv:xq w) (h:ZP w b f 3 ws) (j:Zk ws) (aM:3<=cap) (aQ:cap<=9223372036854775807) :
  Cp 181 #[J o,.slice (some (E b f)) 3 cap] w (pC o (ws.getD 0 []) (ws.getD 1 []) (ws.getD 2 []) w):=by
 have P:Hid (Bw w (w.alloc (nB 0 0 0 0 0 0 0 0 0))):=Qd _ _;have R:Hid ((w.alloc (nB 0 0 0 0 0 0 0 0 0)).heap.size=w.heap.size+1):=by show _=_;simp
 have i:Hid (∀y,Below (w.heap.size+1) (w.alloc (nB 0 0 0 0 0 0 0 0 0)) y->y.heap[w.heap.size]?=some (nB 0 0 0 0 0 0 0 0 0)/\w.heap.size+1<=y.heap.size/\Bw w y):=fun y d=>⟨(d.block _ oM).t (zm _ _ _),by have:=d.size;rw [R] at this;exact this,P.t (d.m oM)⟩;have aP:=h.2.1;have B:Hid (∀y,Bw w y->y.cell? (E b (f+0))=some (.string (strOfNums (ws.getD 0 [])))/\y.cell? (E b (f+1))=some (.string (strOfNums (ws.getD 1 [])))/\y.cell? (E b (f+2))=some (.string (strOfNums (ws.getD 2 [])))):=fun y d=>⟨(h.gE d).2.2 0 oM,(h.gE d).2.2 1 oM,(h.gE d).2.2 2 oM⟩;have aI:=Z (fun W l=>ZI (ws.getD 0 []) W l (j 0).1 (j 0).2);have aJ:=Z (fun W l=>ZI (ws.getD 1 []) W l (j 1).1 (j 1).2);have aK:=Z (fun W l=>ZI (ws.getD 2 []) W l (j 2).1 (j 2).2);have C:=Z hv;generalize ws.getD 0 []=p0 at *
 generalize ws.getD 1 []=p1 at *
 generalize ws.getD 2 []=p2 at *
 clear h j hv;obtain⟨c0,-,-⟩:=B _ P;rw [WG] at c0;go_enter func181,ntmps181;go_wp2_with fail;refine (aI _ (C.on P)).m ?_;rintro e y0 ⟨c,b0,rfl,S,X,lo0,aR,d⟩;have aB:=Z S;have aF:=Z X;have z:Hid (Below (w.heap.size+1) (w.alloc (nB 0 0 0 0 0 0 0 0 0)) y0):=by show Below _ _ _;rw [<-R];exact d
 clear S X d c0;obtain⟨-,c1,-⟩:=B _ (i _ z).2.2;go_wp2_with fail;refine (aJ _ (C.on (i _ z).2.2)).m ?_;rintro e y1 ⟨n1,b1,rfl,T,az,lo1,aS,d⟩;have aC:=Z T;have aG:=Z az;have A:Hid (Below (w.heap.size+1) (w.alloc (nB 0 0 0 0 0 0 0 0 0)) y1):=z.t (d.m (i _ z).2.1);clear T az d c1;obtain⟨-,-,c2⟩:=B _ (i _ A).2.2;go_wp2_with fail;refine (aK _ (C.on (i _ A).2.2)).m ?_;rintro e a ⟨n2,b2,rfl,U,Q,lo2,aT,d⟩;have aD:=Z U;have aH:=Z Q;have aL:Hid (Below (w.heap.size+1) (w.alloc (nB 0 0 0 0 0 0 0 0 0)) a):=A.t (d.m (i _ A).2.1);clear U Q d c2;obtain⟨bb,aO,V⟩:=i _ aL;have aE:=Z V;clear V;have k0:a.cell? (E w.heap.size 0)=Y 0:=cb bb
 have f0:a.frozen? (E w.heap.size 0)=false:=qZ bb
 have k1:a.cell? (E w.heap.size 1)=Y 0:=cb bb
 have f1:a.frozen? (E w.heap.size 1)=false:=qZ bb
 have k2:a.cell? (E w.heap.size 2)=Y 0:=cb bb
 have f2:a.frozen? (E w.heap.size 2)=false:=qZ bb
 have k3:a.cell? (E w.heap.size 3)=Y 0:=cb bb
 have f3:a.frozen? (E w.heap.size 3)=false:=qZ bb
 have k4:a.cell? (E w.heap.size 4)=Y 0:=cb bb
 have f4:a.frozen? (E w.heap.size 4)=false:=qZ bb
 have k5:a.cell? (E w.heap.size 5)=Y 0:=cb bb
 have f5:a.frozen? (E w.heap.size 5)=false:=qZ bb
 have k6:a.cell? (E w.heap.size 6)=Y 0:=cb bb
 have f6:a.frozen? (E w.heap.size 6)=false:=qZ bb
 have k7:a.cell? (E w.heap.size 7)=Y 0:=cb bb
 have f7:a.frozen? (E w.heap.size 7)=false:=qZ bb
 have k8:a.cell? (E w.heap.size 8)=Y 0:=cb bb
 have f8:a.frozen? (E w.heap.size 8)=false:=qZ bb
 have g:=Z (XF (b0:=J o) (b1:=J 0) (b2:=J 0) (b3:=J 0) (b4:=J 0) (b5:=J c) (b6:=J n1) (b7:=J n2) (b8:=J 0) bb);have O:Hid (∀ok,ok=(b0 && b1 && b2)->pC o p0 p1 p2 w (.returned (.tuple #[.agg #[J o,J 0,J 0,J 0,J 0,J c,J n1,J n2,J 0],.bool ok])) (((((((((a.setCell (E w.heap.size 0) (J o)).setCell (E w.heap.size 1) (J 0)).setCell (E w.heap.size 2) (J 0)).setCell (E w.heap.size 3) (J 0)).setCell (E w.heap.size 4) (J 0)).setCell (E w.heap.size 5) (J c)).setCell (E w.heap.size 6) (J n1)).setCell (E w.heap.size 7) (J n2)).setCell (E w.heap.size 8) (J 0))):=fun ok aN=>⟨c,n1,n2,ok,rfl,by rw [aN,aB,aC,aD],aF,aG.o,aH.o,(((((((((aE.o.setCell (Qc _) _).setCell (Qc _) _).setCell (Qc _) _).setCell (Qc _) _).setCell (Qc _) _).setCell (Qc _) _).setCell (Qc _) _).setCell (Qc _) _).setCell (Qc _) _)⟩;have D:Hid ((((((((((a.setCell (E w.heap.size 0) (J o)).setCell (E w.heap.size 1) (J 0)).setCell (E w.heap.size 2) (J 0)).setCell (E w.heap.size 3) (J 0)).setCell (E w.heap.size 4) (J 0)).setCell (E w.heap.size 5) (J c)).setCell (E w.heap.size 6) (J n1)).setCell (E w.heap.size 7) (J n2)).setCell (E w.heap.size 8) (J 0)).cell? (E w.heap.size 0)=Y o):=by show _=_;rw [Qa g.o];rfl
 have F:Hid ((((((((((a.setCell (E w.heap.size 0) (J o)).setCell (E w.heap.size 1) (J 0)).setCell (E w.heap.size 2) (J 0)).setCell (E w.heap.size 3) (J 0)).setCell (E w.heap.size 4) (J 0)).setCell (E w.heap.size 5) (J c)).setCell (E w.heap.size 6) (J n1)).setCell (E w.heap.size 7) (J n2)).setCell (E w.heap.size 8) (J 0)).cell? (E w.heap.size 1)=Y 0):=by show _=_;rw [Qa g.o];rfl
 have G:Hid ((((((((((a.setCell (E w.heap.size 0) (J o)).setCell (E w.heap.size 1) (J 0)).setCell (E w.heap.size 2) (J 0)).setCell (E w.heap.size 3) (J 0)).setCell (E w.heap.size 4) (J 0)).setCell (E w.heap.size 5) (J c)).setCell (E w.heap.size 6) (J n1)).setCell (E w.z 7) (J n2)).setCell (E w.z 8) (J 0)).cell? (E w.z 2)=Y 0):=by show _=_;rw [Qa g.o];rfl
 have H:Hid ((((((((((a.setCell (E w.z 0) (J o)).setCell (E w.z 1) (J 0)).setCell (E w.z 2) (J 0)).setCell (E w.z 3) (J 0)).setCell (E w.z 4) (J 0)).setCell (E w.z 5) (J c)).setCell (E w.z 6) (J n1)).setCell (E w.z 7) (J n2)).setCell (E w.z 8) (J 0)).cell? (E w.z 3)=Y 0):=by show _=_;rw [Qa g.o];rfl
 have I:Hid ((((((((((a.setCell (E w.z 0) (J o)).setCell (E w.z 1) (J 0)).setCell (E w.z 2) (J 0)).setCell (E w.z 3) (J 0)).setCell (E w.z 4) (J 0)).setCell (E w.z 5) (J c)).setCell (E w.z 6) (J n1)).setCell (E w.z 7) (J n2)).setCell (E w.z 8) (J 0)).cell? (E w.z 4)=Y 0):=by show _=_;rw [Qa g.o];rfl
 have K:Hid ((((((((((a.setCell (E w.z 0) (J o)).setCell (E w.z 1) (J 0)).setCell (E w.z 2) (J 0)).setCell (E w.z 3) (J 0)).setCell (E w.z 4) (J 0)).setCell (E w.z 5) (J c)).setCell (E w.z 6) (J n1)).setCell (E w.z 7) (J n2)).setCell (E w.z 8) (J 0)).cell? (E w.z 5)=Y c):=by show _=_;rw [Qa g.o];rfl
 have L:Hid ((((((((((a.setCell (E w.z 0) (J o)).setCell (E w.z 1) (J 0)).setCell (E w.z 2) (J 0)).setCell (E w.z 3) (J 0)).setCell (E w.z 4) (J 0)).setCell (E w.z 5) (J c)).setCell (E w.z 6) (J n1)).setCell (E w.z 7) (J n2)).setCell (E w.z 8) (J 0)).cell? (E w.z 6)=Y n1):=by show _=_;rw [Qa g.o];rfl
 have M:Hid ((((((((((a.setCell (E w.z 0) (J o)).setCell (E w.z 1) (J 0)).setCell (E w.z 2) (J 0)).setCell (E w.z 3) (J 0)).setCell (E w.z 4) (J 0)).setCell (E w.z 5) (J c)).setCell (E w.z 6) (J n1)).setCell (E w.z 7) (J n2)).setCell (E w.z 8) (J 0)).cell? (E w.z 7)=Y n2):=by show _=_;rw [Qa g.o];rfl
 have N:Hid ((((((((((a.setCell (E w.z 0) (J o)).setCell (E w.z 1) (J 0)).setCell (E w.z 2) (J 0)).setCell (E w.z 3) (J 0)).setCell (E w.z 4) (J 0)).setCell (E w.z 5) (J c)).setCell (E w.z 6) (J n1)).setCell (E w.z 7) (J n2)).setCell (E w.z 8) (J 0)).cell? (E w.z 8)=Y 0):=by show _=_;rw [Qa g.o];rfl
 clear bb;cases b0 with
 | false =>have k:=Z (O.o false rfl);go_wp2;have m:=D.o;have n:=F.o;have p:=G.o;have q:=H.o;have r:=I.o;have s:=K.o;have t:=L.o;have u:=M.o;have x:=N.o;exact bodyPost_ret (v:=.tuple #[.agg #[J o,J 0,J 0,J 0,J 0,J c,J n1,J n2,J 0],.bool false]) (by simp [results,results181,go_sem,m,n,p,q,r,s,t,u,x]) rfl k.o
 | true =>
  cases b1 with
  | false =>have k:=Z (O.o false rfl);go_wp2;have m:=D.o;have n:=F.o;have p:=G.o;have q:=H.o;have r:=I.o;have s:=K.o;have t:=L.o;have u:=M.o;have x:=N.o;exact bodyPost_ret (v:=.tuple #[.agg #[J o,J 0,J 0,J 0,J 0,J c,J n1,J n2,J 0],.bool false]) (by simp [results,results181,go_sem,m,n,p,q,r,s,t,u,x]) rfl k.o
  | true =>have k:=Z (O.o b2 rfl);go_wp2;have m:=D.o;have n:=F.o;have p:=G.o;have q:=H.o;have r:=I.o;have s:=K.o;have t:=L.o;have u:=M.o;have x:=N.o;exact bodyPost_ret (v:=.tuple #[.agg #[J o,J 0,J 0,J 0,J 0,J c,J n1,J n2,J 0],.bool b2]) (by simp [results,results181,go_sem,m,n,p,q,r,s,t,u,x]) rfl k.o
def mC:Prop:=∀(s:Li) (w:wO),xq w->jR s->s.length<=2000000->Calls Tryz.prog 21 #[.string (strOfNums s)] w (Y9 s w)
end Go.Proofs.YtjlfcbccpcigeacGreatDoor
