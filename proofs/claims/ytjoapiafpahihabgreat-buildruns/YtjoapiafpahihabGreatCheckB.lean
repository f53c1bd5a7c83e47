import Derived.Test.YtjoapiafpahihabGreatCheckA
import Derived.Test.YtjoapiafpahihabGreatRef10B
import Derived.Test.YtjoapiafpahihabGreatRef67
set_option maxHeartbeats 20000000
namespace Go.Proofs.YtjoapiafpahihabGreat
open Go.Proofs.Tryz
open Go.RowKit Go.Joins
set_option linter.unusedVariables false
set_option linter.unusedSimpArgs false
set_option maxRecDepth 8192
variable {L:Lp} {t:Tg} {K:Kn} {O:List Int} {w w':World} {v:Value}
theorem Vs (n lo hi:Int) (w:World) :
  Calls prog 69 #[iV n,iV lo,iV hi] w fun e w'=>e=.returned (.bool (inR n lo hi))/\w'=w:=by
 by_cases h:lo<=n/\n<=hi
 ·rw [yf h]
  obtain⟨h1,h2⟩:=h
  go_enter func69,ntmps69
  go_wp2
  go_ret
  exact⟨rfl,rfl⟩
 ·rw [Yt h]
  by_cases h1:lo<=n
  ·have h2:¬n<=hi:=fun h2=>h ⟨h1,h2⟩
   clear h
   go_enter func69,ntmps69
   go_wp2
   go_ret
   exact⟨rfl,rfl⟩
  ·clear h
   go_enter func69,ntmps69
   go_wp2
   go_ret
   exact⟨rfl,rfl⟩
theorem Uc {a b:Int} (h:a=b):Ending.returned (iV a)=.returned (iV b):=by rw [h]
theorem Yn {n d:Int} (hd:1<=d) (hn:-1000000<=n) (hn2:n<=1000000):-1000000<=n.tdiv d/\n.tdiv d<=1000000/\-1000001<=n / d/\n / d<=1000001:=by
 have h1:n.tdiv d<=1000000/\-1000000<=n.tdiv d:=by
  have h3:=Int.natAbs_tdiv_le_natAbs n d
  omega
 by_cases h:n.tmod d<0
 ·have:=zf8 (by omega) h;omega
 ·have:=zix (by omega) h;omega
theorem Uv (n d:Int) (w:World) (hd:1<=d) (hn:-1000000<=n) (hn2:n<=1000000) :
  Calls prog 120 #[iV n,iV d] w fun e w'=>e=.returned (iV (n / d))/\w'=w:=by
 have hd0:¬d=0:=by omega
 obtain⟨b1,b2,b3,b4⟩:=Yn hd hn hn2
 obtain⟨rm,hrm⟩:∃rm,n.tmod d=rm:=⟨_,rfl⟩
 have hm1:=Int.tmod_lt_of_pos n (show 0<d by omega)
 have hm2:=Int.lt_tmod_of_pos n (show 0<d by omega)
 have hm3:-1000000<=rm/\rm<=1000000:=by
  rw [<-hrm]
  have h3:=Int.natAbs_tmod n d
  have h4:=Nat.mod_le n.natAbs d.natAbs
  rw [<-h3] at h4
  omega
 have hw1:wrap64 rm=rm:=by unfold wrap64;omega
 obtain⟨qt,hqt⟩:∃qt,n.tdiv d=qt:=⟨_,rfl⟩
 have hw2:wrap64 qt=qt:=by unfold wrap64;omega
 have hw3:wrap64 (qt - 1)=qt - 1:=by unfold wrap64;omega
 by_cases h:rm<0
 ·have he:n / d=qt - 1:=by rw [<-hqt];exact (zf8 (by omega) (by omega)).symm
  rw [he]
  clear he b1 b2 b3 b4 hm1 hm2 hm3
  go_enter func120,ntmps120
  go_wp2_with fail
  go_ret
  exact⟨Uc hw3,rfl⟩
 ·have he:n / d=qt:=by rw [<-hqt];exact (zix (by omega) (by omega)).symm
  rw [he]
  clear he b1 b2 b3 b4 hm1 hm2 hm3
  go_enter func120,ntmps120
  go_wp2_with fail
  go_ret
  exact⟨by first | rfl | exact Uc hw2,rfl⟩
def zo2 (o ar sp pl nn o' ar' sp' pl' nn':Int):Bool:=decide (o'=o) && decide (ar'=ar) && decide (sp'=sp) && decide (pl'=pl) && decide (nn'=nn)
theorem zph (x0 x1 x2 x3 x4 x5 x6 x7 x8 x9 o xa xb ya yb ar sp pl nn:Int) (w:World) :
  Calls prog 121 #[.agg #[iV x0,iV x1,iV x2,iV x3,iV x4,iV x5,iV x6,iV x7,iV x8,iV x9],.agg #[iV o,iV xa,iV xb,iV ya,iV yb,iV ar,iV sp,iV pl,iV nn]] w (Rt w (.bool (zo2 o ar sp pl nn x2 x6 x7 x8 x9))):=by
 go_enter func121,ntmps121
 go_wp2_with fail
 all_goals (go_ret;exact⟨zg (by unfold zo2;simp_all <;> omega),below_alloc2 _ _ _⟩)
structure Lc where
 y:Nat
 tb:Nat
 rb:Nat
 pb:Nat
 tc:Nat
 rc:Nat
 pc:Nat
 dc:Nat
 da:Option Addr
 l0:Value
 l1:Value
 l2:Value
 sv:Value
def Zy (x:Rd):Array Value:=#[iV x.ra,iV x.rb,iV x.tm,iV x.sg,iV x.nm]
def Ut (w:World) (v:Value) (l:List Rd):Prop :=
 ∃ a cap,v=.slice a l.length cap/\l.length<=cap/\cap<=maxLen /\
   (0<l.length->∃blk off,a=some (ad blk off)/\blk<w.heap.size/\∀i,i<l.length->∀j,j<5->w.cell? (ad blk (off+i*5+j))=(Zy (xc l i))[j]?)
structure Zq (c:Lc) (L:Lp) (t:Tg) (K:Kn) (O:List Int) (w:World):Prop where
 blk:w.heap[c.y]?=some (.cells #[c.l0,c.l1,c.l2,iV K.pc,iV t.r,.slice (pA c.tb) L.b.length c.tc,.slice (pA c.rb) L.b.length c.rc,.slice (pA c.pb) L.b.length c.pc,.slice c.da (yh L K O).length c.dc,c.sv] 120 (0,0))
 tm:zu w c.tb 3 L.b.length (fun i=>iV (yD K O i))
 rd:zu w c.rb 3 L.b.length (fun i=>iV (zF t K O i))
 pl:zu w c.pb 3 L.b.length (fun i=>iV (zr K O i))
 ct:L.b.length<=c.tc/\c.tc<=maxLen
 cr:L.b.length<=c.rc/\c.rc<=maxLen
 cp:L.b.length<=c.pc/\c.pc<=maxLen
 rs:Ut w (.slice c.da (yh L K O).length c.dc) (yh L K O)
 lv:zE w (.agg #[c.l0,c.l1,c.l2]) L
theorem Zq.cells {c:Lc} (h:Zq c L t K O w) :
  w.cell? (ad c.y 0)=some c.l0/\w.cell? (ad c.y 1)=some c.l1/\w.cell? (ad c.y 2)=some c.l2/\w.cell? (ad c.y 3)=sI K.pc/\w.cell? (ad c.y 4)=sI t.r/\w.cell? (ad c.y 5)=some (.slice (pA c.tb) L.b.length c.tc)/\w.cell? (ad c.y 6)=some (.slice (pA c.rb) L.b.length c.rc)/\w.cell? (ad c.y 7)=some (.slice (pA c.pb) L.b.length c.pc)/\w.cell? (ad c.y 8)=some (.slice c.da (yh L K O).length c.dc)/\w.cell? (ad c.y 9)=some c.sv:=by
 have key:=cell_of_block h.blk
 refine⟨?_,?_,?_,?_,?_,?_,?_,?_,?_,?_⟩ <;> rw [key] <;> rfl
theorem Zq.lt {c:Lc} (h:Zq c L t K O w):c.y<w.heap.size:=(Array.getElem?_eq_some_iff.1 h.blk).1
theorem Ut.gE {l:List Rd} (h:Ut w v l) (hb:Bw w w'):Ut w' v l:=by
 obtain⟨a,cap,e,h1,h2,h3⟩:=h
 refine⟨a,cap,e,h1,h2,fun hp=>?_⟩
 obtain⟨b,off,e1,h4,h5⟩:=h3 hp
 exact⟨b,off,e1,Nat.lt_of_lt_of_le h4 hb.size,fun i hi j hj=>(zf hb _ _ h4).trans (h5 i hi j hj)⟩
theorem Zq.gE {c:Lc} (h:Zq c L t K O w) (hb:Bw w w'):Zq c L t K O w' :=
 ⟨(hb.block _ h.lt).trans h.blk,h.tm.gE hb h.tm.lt,h.rd.gE hb h.rd.lt,h.pl.gE hb h.pl.lt,h.ct,h.cr,h.cp,h.rs.gE hb,h.lv.gE hb⟩
theorem U0 (c:Lc) (L:Lp) (t:Tg) (K:Kn) (O:List Int) (n:Int) (w:World) (h:Zq c L t K O w) (hr:1<=t.r) (hr2:t.r<=128) (hn:-1000000<=n) (hn2:n<=1000000) :
  Calls prog 70 #[.pointer (pA c.y),iV n] w fun e w'=>e=.returned (iV (n % t.r))/\∃m,w'=w.drewN m:=by
 obtain⟨-,-,-,-,d4,-⟩:=h.cells
 have hm1:=Int.emod_nonneg n (show t.r≠0 by omega)
 have hm2:=Int.emod_lt_of_pos n (show 0<t.r by omega)
 have hlm:=zun (n:=n) (r:=t.r)
 have HF:=z9 (fun W=>Uv n t.r W hr hn hn2)
 have hy:=h.lt
 clear h
 obtain⟨md,hmd⟩:∃md,n % t.r=md:=⟨_,rfl⟩
 obtain⟨pr,hpr⟩:∃pr,n / t.r*t.r=pr:=⟨_,rfl⟩
 obtain⟨fl,hfl⟩:∃fl,n / t.r=fl:=⟨_,rfl⟩
 rw [hmd] at hlm hm1 hm2 ⊢
 rw [hpr] at hlm
 rw [hfl] at hpr HF
 generalize t.r=r at *
 have hw1:wrap64 (fl*r)=pr:=by rw [hpr];unfold wrap64;omega
 have hw2:wrap64 (n - pr)=md:=by unfold wrap64;omega
 clear hmd hfl hpr hlm hm1 hm2
 go_enter func70,ntmps70
 go_wp2_with fail
 go_big_quiet ((go_at_call 120;exact Calls.quiet_of_same (HF.out _)))
 go_wp2_with fail
 go_ret
 exact⟨by first | rfl | exact Uc hw2,_,rfl⟩
theorem Zq.drawn {c:Lc} (h:Zq c L t K O w) (n:Nat):Zq c L t K O (w.drewN n):=h.gE (below_draws _ _ _)
theorem zih (c:Lc) (L:Lp) (t:Tg) (K:Kn) (O:List Int) (a m:Nat) (w:World) (h:Zq c L t K O w) (hl:xD L t K O=true) (ha:a<L.b.length) (hm:m<L.b.length) :
  Calls prog 122 #[.pointer (pA c.y),iV a,iV m] w fun e w'=>e=.returned (iV (Xe t K O a m))/\∃n,w'=w.drewN n:=by
 obtain⟨-,-,-,d3,-,-,d6,-⟩:=h.cells
 obtain⟨⟨hp1,hp2,hr1⟩,hrg⟩:=yz hl
 obtain⟨a1,a2,a3,a4⟩:=hrg a ha
 obtain⟨m1,m2,m3,m4⟩:=hrg m hm
 have ca:=h.rd.cell ha
 have cm:=h.rd.cell hm
 have hb:=h.rd.lt
 have hy:=h.lt
 obtain⟨cr1,cr2⟩:=h.cr
 unfold maxLen at cr2
 have HF:=z9 (fun W=>Uv (zF t K O m - zF t K O a) K.pc W hp1 (by omega) (by omega))
 obtain⟨f1,f2,f3,f4⟩:=Yn (n:=zF t K O m - zF t K O a) hp1 (by omega) (by omega)
 have hai:(a:Int)<(L.b.length:Int):=by omega
 have hmi:(m:Int)<(L.b.length:Int):=by omega
 have hnn:Xe t K O a m=if m=a then 1 else -((zF t K O m - zF t K O a) / K.pc):=rfl
 rw [hnn]
 clear hnn
 generalize zF t K O m=rm at *
 generalize zF t K O a=rr at *
 generalize K.pc=pp at *
 obtain⟨fl,hfl⟩:∃fl,(rm - rr) / pp=fl:=⟨_,rfl⟩
 rw [hfl] at HF f3 f4 ⊢
 have hw1:wrap64 (rm - rr)=rm - rr:=by unfold wrap64;omega
 have hw2:wrap64 (-fl)=-fl:=by unfold wrap64;omega
 generalize c.y=y at *
 generalize c.rb=rb at *
 generalize c.rc=rc at *
 generalize L.b.length=ln at *
 clear h hl hrg a1 a2 a3 a4 m1 m2 m3 m4 f1 f2 f3 f4 hfl
 by_cases e:m=a
 ·rw [if_pos e]
  have hb:((m:Int) == (a:Int))=true:=by simp [e]
  have hb2:(m:Int)=(a:Int):=by omega
  clear e ca cm
  go_enter func122,ntmps122
  go_wp2_with fail
  go_ret
  exact⟨rfl,0,rfl⟩
 ·rw [if_neg e]
  have hb:((m:Int) == (a:Int))=false:=by simp;omega
  have hb2:¬(m:Int)=(a:Int):=by omega
  clear e
  go_enter func122,ntmps122
  go_wp2_with fail
  go_big_quiet ((go_at_call 120;exact Calls.quiet_of_same (HF.out _)))
  go_wp2_with fail
  go_ret
  exact⟨by first | rfl | exact Uc hw2,_,rfl⟩
theorem zcq (c:Lc) (L:Lp) (t:Tg) (K:Kn) (O:List Int) (a m:Nat) (f l:Int) (w:World) (h:Zq c L t K O w) (hl:xD L t K O=true) (ha:a<L.b.length) (hm:m<L.b.length) (hf1:-5000<=f) (hf2:f<=5000) :
  Calls prog 123 #[.pointer (pA c.y),iV a,iV m,iV f,iV l] w fun e w'=>e=.returned (.bool (Um (zr K O a) (zr K O m) f l t.r))/\∃n,w'=w.drewN n:=by
 obtain⟨-,-,-,-,-,-,-,d7,-⟩:=h.cells
 obtain⟨⟨hp1,hp2,hr1⟩,hrg⟩:=yz hl
 obtain⟨-,-,-,-,-,-,a1,a2,hr2,-⟩:=Z7 hl ha
 obtain⟨-,-,-,-,-,-,m1,m2,-⟩:=Z7 hl hm
 have ca:=h.pl.cell ha
 have cm:=h.pl.cell hm
 have hb:=h.pl.lt
 have hy:=h.lt
 obtain⟨cr1,cr2⟩:=h.cp
 unfold maxLen at cr2
 have HF:=z9 (fun n=>U0 c L t K O (zr K O a - zr K O m - f) (w.drewN n) (h.drawn n) hr1 hr2 (by omega) (by omega))
 have hq0:=Int.emod_nonneg (zr K O a - zr K O m - f) (show t.r≠0 by omega)
 have hq1:=Int.emod_lt_of_pos (zr K O a - zr K O m - f) (show 0<t.r by omega)
 have hai:(a:Int)<(L.b.length:Int):=by omega
 have hmi:(m:Int)<(L.b.length:Int):=by omega
 have hnn:Um (zr K O a) (zr K O m) f l t.r=decide (f+(zr K O a - zr K O m - f) % t.r<=l):=rfl
 rw [hnn]
 clear hnn
 generalize zr K O a=qa at *
 generalize zr K O m=qm at *
 obtain⟨fl,hfl⟩:∃fl,(qa - qm - f) % t.r=fl:=⟨_,rfl⟩
 rw [hfl] at HF hq0 hq1 ⊢
 have hw1:wrap64 (qa - qm)=qa - qm:=by unfold wrap64;omega
 have hw2:wrap64 (qa - qm - f)=qa - qm - f:=by unfold wrap64;omega
 have hw3:wrap64 (f+fl)=f+fl:=by unfold wrap64;omega
 generalize c.y=y at *
 generalize c.pb=rb at *
 generalize c.pc=rc at *
 generalize L.b.length=ln at *
 clear h hl hrg a1 a2 m1 m2 hfl hq0 hq1 hp1 hp2 hr1 hr2 hf1 hf2
 go_enter func123,ntmps123
 go_wp2_with fail
 go_big_quiet ((go_at_call 70;exact Calls.quiet_of (HF.out _)))
 go_wp2_with fail
 go_ret
 exact⟨rfl,_,rfl⟩
theorem zzx {b o:Nat} {s:Rd} (h:∀j,j<5->w.cell? (ad b (o+j))=(Zy s)[j]?) :
  w.cell? (ad b o)=sI s.ra/\w.cell? (ad b (o+1))=sI s.rb/\w.cell? (ad b (o+2))=sI s.tm/\w.cell? (ad b (o+3))=sI s.sg/\w.cell? (ad b (o+4))=sI s.nm :=
 ⟨h 0 (by omega),h 1 (by omega),h 2 (by omega),h 3 (by omega),h 4 (by omega)⟩
theorem zlf (c:Lc) (L:Lp) (t:Tg) (K:Kn) (O:List Int) (w:World) (h:Zq c L t K O w) (hl:xD L t K O=true) :
  Calls prog 75 #[.pointer (pA c.y)] w (Rt w (.bool (YW L t K O))):=by
 have HD:Hid (YW L t K O=zC (fun i=>VC t K O (xc (yh L K O) i)) (yh L K O).length):=rfl
 obtain⟨⟨hp1,hp2,hr1⟩,hrg⟩:=yz hl
 have hr2:t.r<=128:=by
  obtain⟨hm,-⟩:=yP hl
  obtain⟨-,hn1,-⟩:=zw hm
  obtain⟨-,-,-,-,-,-,-,-,hr2,-⟩:=Z7 hl (s:=0) (by omega)
  exact hr2
 have HLF:=z9 (fun (W:World) (hb:Bw w W) (n:Int) (h1:-1000000<=n) (h2:n<=1000000)=>U0 c L t K O n W (h.gE hb) hr1 hr2 h1 h2)
 have HRR:=z9 (fun (i:Nat) (hi:i<(yh L K O).length)=>Xo hl (VI hi))
 have HPL:=z9 (fun (s:Nat) (hs:s<L.b.length)=>And.intro (Z7 hl hs).2.2.2.2.2.2.1 (Z7 hl hs).2.2.2.2.2.2.2.1)
 have HC:=z9 h.cells
 have HPC:=z9 (fun (s:Nat) (hs:s<L.b.length)=>h.pl.cell hs)
 have hpb:=h.pl.lt
 have hy:=h.lt
 obtain⟨cp1,cp2⟩:=h.cp
 unfold maxLen at cp2
 obtain⟨da,dc,hde,hd1,hd2,hd3⟩:=h.rs
 injection hde with e1 e2 e3
 unfold maxLen at hd2
 have HD3:=z9 hd3
 clear h hl hrg hd3 hp1 hp2
 generalize yh L K O=rs at *
 have l8:=HC.out.2.2.2.2.2.2.2.2.1
 rw [e1,e3] at l8
 rw [<-e3] at hd2 hd1
 go_enter func75,ntmps75
 go_wp2_with fail
 go_loopw [10] (fun i wr=>∃k:Nat,k<=rs.length/\i=iV k/\zC (fun i=>VC t K O (xc rs i)) k=true/\Bw w wr) (fun i _=>rs.length - (intOf i).toNat)
 case atStart=>exact⟨0,Nat.zero_le _,rfl,rfl,Below.refl _ _⟩
 case round =>
  obtain⟨k,hk,rfl,hall,gH⟩:=hrel
  have HA:=z9 hall
  have HB:=z9 gH
  clear hall
  by_cases hkl:k<rs.length
  ·have hki:(k:Int)<(rs.length:Int):=by omega
   obtain⟨db,dof,hda,hdb,gR⟩:=HD3.out (by omega)
   subst hda
   obtain⟨c0,c1,c2,c3,c4⟩:=zzx (fun j hj=>(zf gH db (dof+k*5+j) hdb).trans (gR k hkl j hj))
   have hdz:db<wr.heap.size:=by have:=gH.size;omega
   have hyz:c.y<wr.heap.size:=by have:=gH.size;omega
   have hpz:c.pb<wr.heap.size:=by have:=gH.size;omega
   obtain⟨r1,r2,r3,r4,-,-,r7,r8⟩:=HRR.out k hkl
   have HND:Hid (VC t K O (xc rs k)=decide ((xc rs k).nm=(zr K O (xc rs k).ra.toNat - (xc rs k).rb - (xc rs k).sg) % t.r)):=rfl
   obtain⟨x,hx⟩:∃x,xc rs k=x:=⟨_,rfl⟩
   rw [hx] at c0 c1 c2 c3 c4 r1 r2 r3 r4 r7 r8 HND
   have HX:=z9 hx
   obtain⟨xa,xb,xt,xs,xn⟩:=x
   simp only at c0 c1 c2 c3 c4 r1 r2 r3 r4 r7 r8
   obtain⟨a,rfl⟩:∃a:Nat,xa=a:=⟨xa.toNat,by omega⟩
   have ha:a<L.b.length:=by omega
   have hai:(a:Int)<(L.b.length:Int):=by omega
   obtain⟨p1,p2⟩:=HPL.out a ha
   have pc:=(zf gH c.pb a hpb).trans (HPC.out a ha)
   have l7:=(zf gH c.y 7 hy).trans HC.out.2.2.2.2.2.2.2.1
   have HND2:Hid (VC t K O (xc rs k)=decide (xn=(zr K O a - xb - xs) % t.r)):=by show _=_;rw [HX.out];exact HND.out
   have HLE:=z9 (fun n=>HLF.out ((wr.alloc (.cells #[iV (a:Int),iV xb,iV xt,iV xs,iV xn] 185)).drewN n) ((HB.out.trans ((below_alloc1 wr _).mono HB.out.size)).trans (below_draws _ _ _)) (zr K O a - xb - xs) (by omega) (by omega))
   generalize zr K O a=pa at *
   obtain⟨md,hmd⟩:∃md,(pa - xb - xs) % t.r=md:=⟨_,rfl⟩
   rw [hmd] at HND2 HLE
   have hw1:wrap64 (pa - xb)=pa - xb:=by unfold wrap64;omega
   have hw2:wrap64 (pa - xb - xs)=pa - xb - xs:=by unfold wrap64;omega
   have HNX:Hid (zC (fun i=>VC t K O (xc rs i)) (k+1)=decide (xn=md)):=by show (zC (fun i=>VC t K O (xc rs i)) k && VC t K O (xc rs k))=_;rw [HA.out,HND2.out,Bool.true_and]
   have HNO:Hid (¬xn=md->YW L t K O=false):=fun h=>by rw [HD.out];exact zZ hkl (by rw [HND2.out];exact decide_eq_false h)
   have HBA:Hid (∀n,Bw w ((wr.alloc (.cells #[iV (a:Int),iV xb,iV xt,iV xs,iV xn] 185)).drewN n)):=fun n=>(HB.out.trans ((below_alloc1 wr _).mono HB.out.size)).trans (below_draws _ _ _)
   generalize c.y=y at *
   generalize c.pb=pb at *
   generalize c.pc=pcc at *
   generalize L.b.length=ln at *
   clear gH gR hx HND hmd r1 r2 r3 r4 r7 r8 HRR HPL HPC HC HLF HX HND2 HD3 p1 p2 HD HA l8
   by_cases he:xn=md
   ·have heb:(xn != md)=false:=by simp [he]
    have HN:Hid (zC (fun i=>VC t K O (xc rs i)) (k+1)=true):=by show _=_;rw [HNX.out];exact decide_eq_true he
    clear HNX HNO he
    go_wp2_with fail
    go_big_quiet ((go_at_call 70;exact Calls.quiet_of (HLE.out _)))
    go_wp2_with fail
    go_roundw
    case rel=>exact⟨k+1,by omega,by go_num,HN.out,HBA.out _⟩
    case measure=>simp [intOf];omega
   ·have heb:(xn != md)=true:=by simp [he]
    have HN:=z9 (HNO.out he)
    clear HNX HNO he
    go_wp2_with fail
    go_big_quiet ((go_at_call 70;exact Calls.quiet_of (HLE.out _)))
    go_wp2_with fail
    go_ret
    exact⟨zg HN.out.symm,HBA.out _⟩
  ·have e:k=rs.length:=by omega
   subst e
   have hki:¬(rs.length:Int)<(rs.length:Int):=by omega
   have HN:Hid (YW L t K O=true):=by show _=_;rw [HD.out,HA.out]
   clear gH
   go_wp2_with fail
   go_ret
   exact⟨zg HN.out.symm,HB.out⟩
theorem VH {P:Program} {f:FuncId} {args:Array Value} {k n:Nat} (h:Calls P f args (w.drewN (k+n)) fun e w'=>e=.returned v/\w'=w.drewN (k+n)):Calls P f args (w.drewN (k+n)) fun e w''=>e=.returned v/\∃m,w''=w.drewN (k+m) :=
 h.mono fun _ _ ⟨he,hm⟩=>⟨he,n,hm⟩
theorem xT (w:World) (cs:Array Value) (e:TypeId):(w.alloc (.cells cs e)).heap[w.heap.size]?=some (.cells cs e (0,0)):=by show (w.heap.push _)[w.heap.size]?=_;simp
theorem zfs (hl:xD L t K O=true) {a m:Nat} (ha:a<L.b.length) (hm:m<L.b.length):-2000<=Xe t K O a m/\Xe t K O a m<=2000:=by
 obtain⟨⟨hp1,hp2,hr1⟩,hrg⟩:=yz hl
 obtain⟨a1,a2,a3,a4⟩:=hrg a ha
 obtain⟨m1,m2,m3,m4⟩:=hrg m hm
 unfold Xe
 split
 ·omega
 ·have h1:-1100<=(zF t K O m - zF t K O a) / K.pc:=(Int.le_ediv_iff_mul_le (by omega)).2 (by have:(-1100)*K.pc<=(-1100)*1:=Int.mul_le_mul_of_nonpos_left (by omega) hp1;omega)
  have h2:(zF t K O m - zF t K O a) / K.pc<1100:=(Int.ediv_lt_iff_lt_mul (by omega)).2 (by have:1100*1<=1100*K.pc:=Int.mul_le_mul_of_nonneg_left hp1 (by omega);omega)
  omega
theorem zld (c:Lc) (L:Lp) (t:Tg) (K:Kn) (O:List Int) (w:World) (h:Zq c L t K O w) (hl:xD L t K O=true) :
  Calls prog 76 #[.pointer (pA c.y)] w (Rt w (.bool (Yu L t K O))):=by
 have HD:Hid (Yu L t K O=zC (fun i=>Vy L t K O (xc (yh L K O) i)) (yh L K O).length):=rfl
 obtain⟨⟨hp1,hp2,hr1⟩,hrg⟩:=yz hl
 have HNOT:=z9 (fun (W:World) (hb:Bw w W) (a m:Nat) (ha:a<L.b.length) (hm:m<L.b.length)=>zih c L t K O a m W (h.gE hb) hl ha hm)
 have HMEE:=z9 (fun (W:World) (hb:Bw w W) (a m:Nat) (f l:Int) (ha:a<L.b.length) (hm:m<L.b.length) (h1:-5000<=f) (h2:f<=5000)=>zcq c L t K O a m f l W (h.gE hb) hl ha hm h1 h2)
 have HNR:=z9 (fun (a m:Nat) (ha:a<L.b.length) (hm:m<L.b.length)=>zfs hl ha hm)
 have HRR:=z9 (fun (i:Nat) (hi:i<(yh L K O).length)=>Xo hl (VI hi))
 have HRG:=z9 hrg
 have HC:=z9 h.cells
 have HRC:=z9 (fun (s:Nat) (hs:s<L.b.length)=>h.rd.cell hs)
 have hrb:=h.rd.lt
 have hy:=h.lt
 obtain⟨cr1,cr2⟩:=h.cr
 unfold maxLen at cr2
 obtain⟨v0,v1,v2,hlv,-,⟨b1,bc1,rfl,hbl,hbm,-⟩,-⟩:=h.lv
 unfold maxLen at hbm
 injection hlv with hlv
 obtain⟨hv0,hv1,hv2⟩:c.l0=v0/\c.l1=.slice b1 L.b.length bc1/\c.l2=v2:=by
  have:=congrArg Array.toList hlv
  simpa using this
 obtain⟨da,dc,hde,hd1,hd2,hd3⟩:=h.rs
 injection hde with e1 e2 e3
 unfold maxLen at hd2
 have HD3:=z9 hd3
 clear h hl hrg hd3 hlv hv0 hv2
 generalize yh L K O=rs at *
 have l8:=HC.out.2.2.2.2.2.2.2.2.1
 rw [e1,e3] at l8
 rw [<-e3] at hd2 hd1
 go_enter func76,ntmps76
 go_wp2_with fail
 go_loopw [14] (fun i wr=>∃k:Nat,k<=rs.length/\i=iV k/\zC (fun i=>Vy L t K O (xc rs i)) k=true/\Bw w wr) (fun i _=>rs.length - (intOf i).toNat)
 case atStart=>exact⟨0,Nat.zero_le _,rfl,rfl,Below.refl _ _⟩
 case round =>
  obtain⟨k,hk,rfl,hall,gH⟩:=hrel
  have HA:=z9 hall
  have HB:=z9 gH
  clear hall
  by_cases hkl:k<rs.length
  ·have hki:(k:Int)<(rs.length:Int):=by omega
   obtain⟨db,dof,hda,hdb,gR⟩:=HD3.out (by omega)
   subst hda
   obtain⟨c0,c1,c2,c3,c4⟩:=zzx (fun j hj=>(zf gH db (dof+k*5+j) hdb).trans (gR k hkl j hj))
   have hdz:db<wr.heap.size:=by have:=gH.size;omega
   have hyz:c.y<wr.heap.size:=by have:=gH.size;omega
   have hrz:c.rb<wr.heap.size:=by have:=gH.size;omega
   obtain⟨r1,r2,r3,r4,r5,r6,-,-⟩:=HRR.out k hkl
   have HND:Hid (Vy L t K O (xc rs k)=zC (fun m=>!xq t K O (xc rs k).ra.toNat (xc rs k).rb ((xc rs k).tm+(xc rs k).rb*K.pc) m) L.b.length):=rfl
   obtain⟨x,hx⟩:∃x,xc rs k=x:=⟨_,rfl⟩
   rw [hx] at c0 c1 c2 c3 c4 r1 r2 r3 r4 r5 r6 HND
   have HX:=z9 hx
   obtain⟨xa,xb,xt,xs,xn⟩:=x
   simp only at c0 c1 c2 c3 c4 r1 r2 r3 r4 r5 r6
   obtain⟨a,rfl⟩:∃a:Nat,xa=a:=⟨xa.toNat,by omega⟩
   have ha:a<L.b.length:=by omega
   have HND2:Hid (Vy L t K O (xc rs k)=zC (fun m=>!xq t K O a xb (xt+xb*K.pc) m) L.b.length):=by show _=_;rw [HX.out];exact HND.out
   have hb1:xb*K.pc<=3*200:=Int.mul_le_mul r4 hp2 (by omega) (by omega)
   have hb0:0<=xb*K.pc:=Int.mul_nonneg r3 (by omega)
   obtain⟨u,hu⟩:∃u,xt+xb*K.pc=u:=⟨_,rfl⟩
   have hu0:0<=u:=by omega
   have hu1:u<=1600:=by omega
   have hw1:wrap64 (xb*K.pc)=xb*K.pc:=by unfold wrap64;omega
   have hw2:wrap64 (xt+xb*K.pc)=u:=by rw [hu];unfold wrap64;omega
   rw [hu] at HND2
   have l1:=(zf gH c.y 1 hy).trans HC.out.2.1
   have l3:=(zf gH c.y 3 hy).trans HC.out.2.2.2.1
   rw [hv1] at l1
   have HNX:Hid (zC (fun m=>!xq t K O a xb u m) L.b.length=true->zC (fun i=>Vy L t K O (xc rs i)) (k+1)=true):=fun h=>by show (zC (fun i=>Vy L t K O (xc rs i)) k && Vy L t K O (xc rs k))=_;rw [HA.out,HND2.out,h];rfl
   have HNO:Hid (zC (fun m=>!xq t K O a xb u m) L.b.length=false->Yu L t K O=false):=fun h=>by rw [HD.out];exact zZ hkl (by rw [HND2.out];exact h)
   have HBA:Hid (∀n,Bw w ((wr.alloc (.cells #[iV (a:Int),iV xb,iV xt,iV xs,iV xn] 185)).drewN n)):=fun n=>(HB.out.trans ((below_alloc1 wr _).mono HB.out.size)).trans (below_draws _ _ _)
   clear gH gR hx HND hu r1 r2 r3 r4 r5 r6 HRR HX HND2 HD3 HD HA l8 hb1 hb0
   go_wp2_with fail
   go_big_quiet ((fail))
   go_wp2_with fail
   simp only [hw1,hw2]
   clear hw1 hw2
   rename World=>wo
   obtain⟨U,hU⟩:∃U,wo.alloc (.cells #[iV (a:Int),iV xb,iV xt,iV xs,iV xn] 185)=U:=⟨_,rfl⟩
   have u0:U.cell? (ad wo.heap.size 0)=sI (a:Int):=by rw [<-hU,cell_of_block (xT _ _ _)];rfl
   have u1:U.cell? (ad wo.heap.size 1)=sI xb:=by rw [<-hU,cell_of_block (xT _ _ _)];rfl
   have hUz:wo.heap.size<U.heap.size:=by rw [<-hU];simp
   have hyU:U.cell? (ad c.y 3)=sI K.pc/\U.cell? (ad c.y 6)=some (.slice (pA c.rb) L.b.length c.rc):=by
    have hb:=HBA.out 0
    exact⟨(zf (show Bw w U by rw [<-hU];exact hb) c.y 3 hy).trans HC.out.2.2.2.1,(zf (show Bw w U by rw [<-hU];exact hb) c.y 6 hy).trans HC.out.2.2.2.2.2.2.1⟩
   have HUC:Hid (∀s,s<L.b.length->U.cell? (ad c.rb s)=sI (zF t K O s)):=fun s hs=>(zf (show Bw w U by rw [<-hU];exact HBA.out 0) c.rb s hrb).trans (HRC.out s hs)
   obtain⟨y3,y6⟩:=hyU
   have hyU:c.y<U.heap.size:=by omega
   have hrU:c.rb<U.heap.size:=by omega
   rw [hU] at HBA ⊢
   have HBK:=z9 (HB.out)
   clear c0 c1 c2 c3 c4 l1 l3 HC HRC hU
   go_loopw [35] (fun i wr2=>∃m n:Nat,m<=L.b.length/\i=iV m/\zC (fun m=>!xq t K O a xb u m) m=true/\wr2=U.drewN n) (fun i _=>L.b.length - (intOf i).toNat)
   case atStart=>exact⟨0,_,Nat.zero_le _,rfl,rfl,rfl⟩
   case round =>
    obtain⟨m,n,hm,rfl,hall,rfl⟩:=hrel
    have HA2:=z9 hall
    clear hall
    by_cases hml:m<L.b.length
    ·have hmi:(m:Int)<(L.b.length:Int):=by omega
     have HN1:=z9 (HNOT.out (U.drewN n) (HBA.out n) a m ha hml)
     obtain⟨v1,v2⟩:=HNR.out a m ha hml
     obtain⟨g1,g2,g3,g4⟩:=HRG.out m hml
     have rc:=HUC.out m hml
     have HFL:=z9 (fun W=>Uv (u - zF t K O m) K.pc W hp1 (by omega) (by omega))
     have hw3:wrap64 (u - zF t K O m)=u - zF t K O m:=by unfold wrap64;omega
     have HME0:=z9 (fun n l f (h1:-5000<=f) (h2:f<=5000)=>HMEE.out (U.drewN n) (HBA.out n) a m f l ha hml h1 h2)
     have HKM0:Hid (xq t K O a xb u m=Um (zr K O a) (zr K O m) (if 0<xb then min (Xe t K O a m) 1 else Xe t K O a m) ((u - zF t K O m) / K.pc) t.r):=rfl
     have HIN:Hid (xq t K O a xb u m=true->Yu L t K O=false):=fun h=>HNO.out (zZ hml (by show (!xq t K O a xb u m)=false;rw [h];rfl))
     have HIY:Hid (xq t K O a xb u m=false->zC (fun m=>!xq t K O a xb u m) (m+1)=true):=fun h=>yl HA2.out (by show (!xq t K O a xb u m)=true;rw [h];rfl)
     generalize zF t K O m=rm at *
     generalize Xe t K O a m=nt at *
     generalize K.pc=pp at *
     obtain⟨fl,hfl⟩:∃fl,(u - rm) / pp=fl:=⟨_,rfl⟩
     rw [hfl] at HFL HKM0
     clear hfl g1 g2 g3 g4 HNOT HMEE HNR HRG HUC HA2 HNX HNO
     go_wp2_with fail
     refine HN1.out.mono ?_
     rintro e w1 ⟨rfl,n1,rfl⟩
     rw [World.drewN_drewN]
     generalize n+n1=n3
     clear HN1
     by_cases hb:0<xb
     ·rw [if_pos hb] at HKM0
      by_cases hv:nt<=1
      ·have hv2:¬1<nt:=by omega
       have HKM:Hid (xq t K O a xb u m=Um (zr K O a) (zr K O m) nt fl t.r):=by show _=_;rw [HKM0.out,show min nt 1=nt by omega]
       have HME:=z9 (fun n=>HME0.out n fl nt (by omega) (by omega))
       clear HKM0 HME0 v1 v2
       go_wp2_with fail
       go_big_quiet ((go_at_call 120;exact VH (HFL.out _)))
       go_wp2_with fail
       try rw [World.drewN_drewN]
       refine (HME.out _).mono ?_
       rintro e w2 ⟨rfl,n2,rfl⟩
       rw [World.drewN_drewN]
       cases hkm:xq t K O a xb u m with
       | true =>
         have HF:=z9 (HIN.out hkm)
         rw [HKM.out] at hkm
         rw [hkm]
         clear hkm
         go_wp2_with fail
         go_ret
         exact⟨zg HF.out.symm,HBA.out _⟩
       | false =>
         have HT:=z9 (HIY.out hkm)
         rw [HKM.out] at hkm
         rw [hkm]
         clear hkm
         go_wp2_with fail
         go_roundw
         case rel=>exact⟨m+1,_,by omega,by go_num,HT.out,rfl⟩
         case measure=>simp [intOf];omega
      ·have hv2:1<nt:=by omega
       have HKM:Hid (xq t K O a xb u m=Um (zr K O a) (zr K O m) 1 fl t.r):=by show _=_;rw [HKM0.out,show min nt 1=1 by omega]
       have HME:=z9 (fun n=>HME0.out n fl 1 (by omega) (by omega))
       clear HKM0 HME0 v1 v2
       go_wp2_with fail
       go_big_quiet ((go_at_call 120;exact VH (HFL.out _)))
       go_wp2_with fail
       try rw [World.drewN_drewN]
       refine (HME.out _).mono ?_
       rintro e w2 ⟨rfl,n2,rfl⟩
       rw [World.drewN_drewN]
       cases hkm:xq t K O a xb u m with
       | true =>
         have HF:=z9 (HIN.out hkm)
         rw [HKM.out] at hkm
         rw [hkm]
         clear hkm
         go_wp2_with fail
         go_ret
         exact⟨zg HF.out.symm,HBA.out _⟩
       | false =>
         have HT:=z9 (HIY.out hkm)
         rw [HKM.out] at hkm
         rw [hkm]
         clear hkm
         go_wp2_with fail
         go_roundw
         case rel=>exact⟨m+1,_,by omega,by go_num,HT.out,rfl⟩
         case measure=>simp [intOf];omega
     ·rw [if_neg hb] at HKM0
      have HKM:=HKM0
      have HME:=z9 (fun n=>HME0.out n fl nt (by omega) (by omega))
      clear HKM0 HME0 v1 v2
      go_wp2_with fail
      go_big_quiet ((go_at_call 120;exact VH (HFL.out _)))
      go_wp2_with fail
      try rw [World.drewN_drewN]
      refine (HME.out _).mono ?_
      rintro e w2 ⟨rfl,n2,rfl⟩
      rw [World.drewN_drewN]
      cases hkm:xq t K O a xb u m with
      | true =>
        have HF:=z9 (HIN.out hkm)
        rw [HKM.out] at hkm
        rw [hkm]
        clear hkm
        go_wp2_with fail
        go_ret
        exact⟨zg HF.out.symm,HBA.out _⟩
      | false =>
        have HT:=z9 (HIY.out hkm)
        rw [HKM.out] at hkm
        rw [hkm]
        clear hkm
        go_wp2_with fail
        go_roundw
        case rel=>exact⟨m+1,_,by omega,by go_num,HT.out,rfl⟩
        case measure=>simp [intOf];omega
    ·have e:m=L.b.length:=by omega
     subst e
     have hmi:¬(L.b.length:Int)<(L.b.length:Int):=by omega
     have HN:=z9 (HNX.out HA2.out)
     go_wp2_with fail
     go_roundw
     case rel=>exact⟨k+1,by omega,by go_num,HN.out,HBA.out _⟩
     case measure=>simp [intOf];omega
  ·have e:k=rs.length:=by omega
   subst e
   have hki:¬(rs.length:Int)<(rs.length:Int):=by omega
   have HN:Hid (Yu L t K O=true):=by show _=_;rw [HD.out,HA.out]
   clear gH
   go_wp2_with fail
   go_ret
   exact⟨zg HN.out.symm,HB.out⟩
theorem zpi (c:Lc) (L:Lp) (t:Tg) (K:Kn) (O:List Int) (w:World) (h:Zq c L t K O w) (hl:xD L t K O=true) :
  Calls prog 77 #[.pointer (pA c.y)] w (Rt w (.bool (Ve L t K O))):=by
 have HD:Hid (Ve L t K O=zC (fun i=>zC (fun m=>!xN t K O (nth L.o i).toNat m) L.b.length) L.o.length):=rfl
 obtain⟨hmay,-⟩:=yP hl
 have HNOT:=z9 (fun (n:Nat) (a m:Nat) (ha:a<L.b.length) (hm:m<L.b.length)=>zih c L t K O a m (w.drewN n) (h.drawn n) hl ha hm)
 have HMEE:=z9 (fun (n:Nat) (a m:Nat) (f l:Int) (ha:a<L.b.length) (hm:m<L.b.length) (h1:-5000<=f) (h2:f<=5000)=>zcq c L t K O a m f l (w.drewN n) (h.drawn n) hl ha hm h1 h2)
 have HNR:=z9 (fun (a m:Nat) (ha:a<L.b.length) (hm:m<L.b.length)=>zfs hl ha hm)
 have HOR:=z9 (fun (i:Nat) (hi:i<L.o.length)=>Y8 hmay hi)
 obtain⟨-,l1,l2,-⟩:=h.cells
 have hy:=h.lt
 obtain⟨v0,v1,v2,hlv,-,⟨b1,bc1,rfl,hbl,hbm,-⟩,⟨o1,oc1,rfl,hol,hom,-,hoc⟩⟩:=h.lv
 unfold maxLen at hbm hom
 injection hlv with hlv
 obtain⟨hv0,hv1,hv2⟩:c.l0=v0/\c.l1=.slice b1 L.b.length bc1/\c.l2=.slice o1 L.o.length oc1:=by
  have:=congrArg Array.toList hlv
  simpa using this
 rw [hv1] at l1
 rw [hv2] at l2
 have HOC:=z9 hoc
 clear h hl hlv hv0 hv1 hv2 hoc hmay
 go_enter func77,ntmps77
 go_wp2_with fail
 go_loopw [12] (fun i wr=>∃k n:Nat,k<=L.o.length/\i=iV k/\zC (fun i=>zC (fun m=>!xN t K O (nth L.o i).toNat m) L.b.length) k=true/\wr=w.drewN n) (fun i _=>L.o.length - (intOf i).toNat)
 case atStart=>exact⟨0,0,Nat.zero_le _,rfl,rfl,rfl⟩
 case round =>
  obtain⟨k,n,hk,rfl,hall,rfl⟩:=hrel
  have HA:=z9 hall
  clear hall
  by_cases hkl:k<L.o.length
  ·have hki:(k:Int)<(L.o.length:Int):=by omega
   obtain⟨ob,oof,rfl,hob,gR⟩:=HOC.out (by omega)
   have co:=gR k hkl
   obtain⟨r1,r2⟩:=HOR.out k hkl
   have HNX:Hid (zC (fun m=>!xN t K O (nth L.o k).toNat m) L.b.length=true->zC (fun i=>zC (fun m=>!xN t K O (nth L.o i).toNat m) L.b.length) (k+1)=true):=fun h=>yl HA.out h
   have HNO:Hid (zC (fun m=>!xN t K O (nth L.o k).toNat m) L.b.length=false->Ve L t K O=false):=fun h=>by rw [HD.out];exact zZ hkl h
   obtain⟨a,ha0⟩:∃a:Nat,nth L.o k=a:=⟨(nth L.o k).toNat,by omega⟩
   rw [ha0] at co r1 r2 HNX HNO
   rw [show ((a:Int)).toNat=a from rfl] at HNX HNO
   have ha:a<L.b.length:=by omega
   clear gR HOC HD HA HOR ha0 r1 r2
   go_wp2_with fail
   go_loopw [22] (fun i wr2=>∃m n:Nat,m<=L.b.length/\i=iV m/\zC (fun m=>!xN t K O a m) m=true/\wr2=w.drewN n) (fun i _=>L.b.length - (intOf i).toNat)
   case atStart=>exact⟨0,_,Nat.zero_le _,rfl,rfl,rfl⟩
   case round =>
    obtain⟨m,n,hm,rfl,hall,rfl⟩:=hrel
    have HA2:=z9 hall
    clear hall
    by_cases hml:m<L.b.length
    ·have hmi:(m:Int)<(L.b.length:Int):=by omega
     have HN1:=z9 (HNOT.out n a m ha hml)
     obtain⟨v1,v2⟩:=HNR.out a m ha hml
     have HME:=z9 (fun n=>HMEE.out n a m (Xe t K O a m) 0 ha hml (by omega) (by omega))
     have HKM:Hid (xN t K O a m=Um (zr K O a) (zr K O m) (Xe t K O a m) 0 t.r):=rfl
     have HIN:Hid (xN t K O a m=true->Ve L t K O=false):=fun h=>HNO.out (zZ hml (by show (!xN t K O a m)=false;rw [h];rfl))
     have HIY:Hid (xN t K O a m=false->zC (fun m=>!xN t K O a m) (m+1)=true):=fun h=>yl HA2.out (by show (!xN t K O a m)=true;rw [h];rfl)
     generalize Xe t K O a m=nt at *
     clear HNOT HMEE HNR HA2 HNX HNO v1 v2
     go_wp2_with fail
     refine HN1.out.mono ?_
     rintro e w1 ⟨rfl,n1,rfl⟩
     rw [World.drewN_drewN]
     generalize n+n1=n3
     clear HN1
     go_wp2_with fail
     refine (HME.out _).mono ?_
     rintro e w2 ⟨rfl,n2,rfl⟩
     rw [World.drewN_drewN]
     cases hkm:xN t K O a m with
     | true =>
       have HF:=z9 (HIN.out hkm)
       rw [HKM.out] at hkm
       rw [hkm]
       clear hkm
       go_wp2_with fail
       go_ret
       exact⟨zg HF.out.symm,below_draws _ _ _⟩
     | false =>
       have HT:=z9 (HIY.out hkm)
       rw [HKM.out] at hkm
       rw [hkm]
       clear hkm
       go_wp2_with fail
       go_roundw
       case rel=>exact⟨m+1,_,by omega,by go_num,HT.out,rfl⟩
       case measure=>simp [intOf];omega
    ·have e:m=L.b.length:=by omega
     subst e
     have hmi:¬(L.b.length:Int)<(L.b.length:Int):=by omega
     have HN:=z9 (HNX.out HA2.out)
     go_wp2_with fail
     go_roundw
     case rel=>exact⟨k+1,_,by omega,by go_num,HN.out,rfl⟩
     case measure=>simp [intOf];omega
  ·have e:k=L.o.length:=by omega
   subst e
   have hki:¬(L.o.length:Int)<(L.o.length:Int):=by omega
   have HN:Hid (Ve L t K O=true):=by show _=_;rw [HD.out,HA.out]
   go_wp2_with fail
   go_ret
   exact⟨zg HN.out.symm,below_draws _ _ _⟩
theorem zbj (L:Lp) (v0 v2:Value) (a1:Option Addr) (cap:Nat) (bv:Value) (B:List (List Int)) (w:World) (hB:yo w bv B) :
  Calls prog 63 #[.agg #[v0,.slice a1 L.b.length cap,v2],bv] w (Rt w (.bool (Z9 L B))):=by
 obtain⟨ba,bc,rfl,hb1,hb2,hb3⟩:=hB
 unfold maxLen at hb2
 have HB3:=z9 hb3
 clear hb3
 by_cases hlen:B.length=L.b.length
 ·have HD:Hid (Z9 L B=zC (fun i=>decide ((zv B i).length=3)) B.length):=by show _=_;unfold Z9;rw [decide_eq_true hlen,Bool.true_and]
  have hne:((B.length:Int) != (L.b.length:Int))=false:=by simp [hlen]
  clear hlen
  go_enter func63,ntmps63
  go_wp2_with fail
  go_loopw [15] (fun i wr=>∃k:Nat,k<=B.length/\i=iV k/\zC (fun i=>decide ((zv B i).length=3)) k=true/\wr=w.alloc (.cells #[v0,.slice a1 L.b.length cap,v2] 25)) (fun i _=>B.length - (intOf i).toNat)
  case atStart=>exact⟨0,Nat.zero_le _,rfl,rfl,rfl⟩
  case round =>
   obtain⟨k,hk,rfl,hall,rfl⟩:=hrel
   have HA:=z9 hall
   clear hall
   by_cases hkl:k<B.length
   ·have hki:(k:Int)<(B.length:Int):=by omega
    obtain⟨bb,bo,rfl,hbz,hbcell⟩:=HB3.out (by omega)
    obtain⟨u,hu,ua,uc,rfl,-⟩:=hbcell k hkl
    have HNX:Hid (zC (fun i=>decide ((zv B i).length=3)) (k+1)=decide ((zv B k).length=3)):=by show (zC _ k && _)=_;rw [HA.out,Bool.true_and]
    have HNO:Hid ((zv B k).length≠3->Z9 L B=false):=fun h=>by rw [HD.out];exact zZ hkl (decide_eq_false h)
    generalize (zv B k).length=rl at *
    clear hbcell
    by_cases h3:rl=3
    ·have h3b:((rl:Int) != (3:Int))=false:=by simp;omega
     have HN:Hid (zC (fun i=>decide ((zv B i).length=3)) (k+1)=true):=by show _=_;rw [HNX.out,decide_eq_true h3]
     clear h3 HNO HNX
     go_wp2_with fail
     go_roundw
     case rel=>exact⟨k+1,by omega,by go_num,HN.out,trivial⟩
     case measure=>simp [intOf];omega
    ·have h3b:((rl:Int) != (3:Int))=true:=by simp;omega
     have HN:=z9 (HNO.out h3)
     clear h3 HNO HNX
     go_wp2_with fail
     go_ret
     exact⟨zg HN.out.symm,below_alloc1 _ _⟩
   ·have e:k=B.length:=by omega
    subst e
    have hki:¬(B.length:Int)<(B.length:Int):=by omega
    have HN:Hid (Z9 L B=true):=by show _=_;rw [HD.out,HA.out]
    go_wp2_with fail
    go_ret
    exact⟨zg HN.out.symm,below_alloc1 _ _⟩
 ·have HD:Hid (Z9 L B=false):=by show _=_;unfold Z9;rw [decide_eq_false hlen];rfl
  have hne:((B.length:Int) != (L.b.length:Int))=true:=by simp;omega
  clear hlen
  go_enter func63,ntmps63
  go_wp2_with fail
  go_ret
  exact⟨zg HD.out.symm,below_alloc1 _ _⟩
theorem zh5 (hE:Zv) (c:Lc) (L:Lp) (p0 p1 p2 q0 q1 q2 r:Int) (K:Kn) (O:List Int) (w:World) (h:Zq c L ⟨p0,p1,p2,q0,q1,q2,r⟩ K O w) (hl:xD L ⟨p0,p1,p2,q0,q1,q2,r⟩ K O=true) :
  Calls prog 74 #[.pointer (pA c.y),(tv p0 p1 p2 q0 q1 q2 r)] w (Rt w (.bool (XC L ⟨p0,p1,p2,q0,q1,q2,r⟩ K O))):=by
 have HD:Hid (XC L ⟨p0,p1,p2,q0,q1,q2,r⟩ K O=zC (fun i=>UV K O (zM (zi L ⟨p0,p1,p2,q0,q1,q2,r⟩) i)) (zi L ⟨p0,p1,p2,q0,q1,q2,r⟩).length):=rfl
 obtain⟨hmay,hmt,-⟩:=yP hl
 obtain⟨⟨hp1,hp2,hr1⟩,hrg⟩:=yz hl
 have HM:=z9 (fun W (hb:Bw w W)=>hE (.agg #[c.l0,c.l1,c.l2]) ⟨p0,p1,p2,q0,q1,q2,r⟩ L W (h.lv.gE hb) (by rw [hmay,hmt];rfl))
 have HEO:=z9 (fun e he=>Zc (t:=⟨p0,p1,p2,q0,q1,q2,r⟩) hmay e he)
 have HTC:=z9 (fun (s:Nat) (hs:s<L.b.length)=>h.tm.cell hs)
 have HTR:=z9 (fun (s:Nat) (hs:s<L.b.length)=>And.intro (hrg s hs).1 (hrg s hs).2.1)
 obtain⟨l0,l1,l2,l3,-,l5,-⟩:=h.cells
 have htb:=h.tm.lt
 have hy:=h.lt
 obtain⟨ct1,ct2⟩:=h.ct
 unfold maxLen at ct2
 have HBA:=z9 (below_alloc1 w (.cells #[iV p0,iV p1,iV p2,iV q0,iV q1,iV q2,iV r] 28))
 clear h hl hrg hmay hmt
 obtain⟨y,tb,rb,pb,tc,rc,pcc,dc,da,l0,l1,l2,sv⟩:=c
 simp only at *
 rename_i k0 k1 k2
 have hw0:w.heap.size<(w.alloc (.cells #[iV p0,iV p1,iV p2,iV q0,iV q1,iV q2,iV r] 28)).heap.size:=by simp
 go_enter func74,ntmps74
 go_wp2_with fail
 refine wp_region_noPanic ?_
 refine zm 99 (fun w'=>w'.cell? (ad y 0)=some k0/\w'.cell? (ad y 1)=some k1/\w'.cell? (ad y 2)=some k2/\w'.cell? (ad w.heap.size 0)=sI p0/\w'.cell? (ad w.heap.size 1)=sI p1/\w'.cell? (ad w.heap.size 2)=sI p2/\w'.cell? (ad w.heap.size 3)=sI q0/\w'.cell? (ad w.heap.size 4)=sI q1/\w'.cell? (ad w.heap.size 5)=sI q2/\w'.cell? (ad w.heap.size 6)=sI r) (by kernel_rfl) ⟨by go_simp,by go_simp,by go_simp,by go_simp,by go_simp,by go_simp,by go_simp,by go_simp,by go_simp,by go_simp⟩ (fun h9=>?_)
 refine uk 0 h9 ?_
 refine uk 1 h9 ?_
 refine uk 2 h9 ?_
 refine uk 3 h9 ?_
 refine uk 4 h9 ?_
 refine ze (i:=5) rfl (by kernel_rfl) (fun K hK=>?_)
 go_simp
 refine (HM.out _ (HBA.out.trans (below_draws _ _ 1))).mono ?_
 rintro e x1 ⟨ea,en,ec,rfl,hev,hbx⟩
 have HB1:Hid (Below (w.alloc (.cells #[iV p0,iV p1,iV p2,iV q0,iV q1,iV q2,iV r] 28)).heap.size (w.alloc (.cells #[iV p0,iV p1,iV p2,iV q0,iV q1,iV q2,iV r] 28)) x1):=(below_draws _ _ 1).trans hbx
 have hSx:x1.cell? (ad y 0)=some k0/\x1.cell? (ad y 1)=some k1/\x1.cell? (ad y 2)=some k2/\x1.cell? (ad w.heap.size 0)=sI p0/\x1.cell? (ad w.heap.size 1)=sI p1/\x1.cell? (ad w.heap.size 2)=sI p2/\x1.cell? (ad w.heap.size 3)=sI q0/\x1.cell? (ad w.heap.size 4)=sI q1/\x1.cell? (ad w.heap.size 5)=sI q2/\x1.cell? (ad w.heap.size 6)=sI r:=⟨(zf HB1.out _ _ (by omega)).trans (by go_simp),(zf HB1.out _ _ (by omega)).trans (by go_simp),(zf HB1.out _ _ (by omega)).trans (by go_simp),(zf HB1.out _ _ (by omega)).trans (by go_simp),(zf HB1.out _ _ (by omega)).trans (by go_simp),(zf HB1.out _ _ (by omega)).trans (by go_simp),(zf HB1.out _ _ (by omega)).trans (by go_simp),(zf HB1.out _ _ (by omega)).trans (by go_simp),(zf HB1.out _ _ (by omega)).trans (by go_simp),(zf HB1.out _ _ (by omega)).trans (by go_simp)⟩
 refine nxt hK.out (.inr hSx) ?_
 clear hK K
 refine uk 6 hSx ?_
 refine uk 7 hSx ?_
 refine uk 8 hSx ?_
 refine uk 9 hSx ?_
 refine uk 10 hSx ?_
 refine zq (by kernel_rfl) ?_ _
 refine NoPanic.normal ?_
 obtain⟨ea',ec',hee,he1,he2,he3⟩:=hev
 injection hee with e1 e2 e3
 subst e1;subst e2;subst e3
 unfold maxLen at he2
 have HE3:=z9 he3
 have HWX:=z9 (HBA.out.trans (HB1.out.mono HBA.out.size))
 have hxz:w.heap.size<=x1.heap.size:=HWX.out.size
 clear l0 l1 l2 hbx hSx h9 HM hE HB1
 obtain⟨es,hes⟩:∃es,zi L ⟨p0,p1,p2,q0,q1,q2,r⟩=es:=⟨_,rfl⟩
 rw [hes] at HD he1 HE3 HEO ⊢
 clear hes
 go_wp2_with fail
 go_loopw [20] (fun i wr=>∃k:Nat,k<=es.length/\i=iV k/\zC (fun i=>UV K O (zM es i)) k=true/\Bw x1 wr) (fun i _=>es.length - (intOf i).toNat)
 case atStart=>exact⟨0,Nat.zero_le _,rfl,rfl,Below.refl _ _⟩
 case round =>
  obtain⟨k,hk,rfl,hall,gH⟩:=hrel
  have HA:=z9 hall
  have HB:=z9 gH
  have HWR:=z9 (HWX.out.trans (gH.mono hxz))
  clear hall
  by_cases hkl:k<es.length
  ·have hki:(k:Int)<(es.length:Int):=by omega
   obtain⟨eb,eof,rfl,heb,gR⟩:=HE3.out (by omega)
   obtain⟨c0,c1,c2,c3⟩:=ziy (fun j hj=>(zf gH eb (eof+k*4+j) heb).trans (gR k hkl j hj))
   have hez:eb<wr.heap.size:=by have:=gH.size;omega
   have hyz:y<wr.heap.size:=by have:=gH.size;omega
   have htz:tb<wr.heap.size:=by have:=gH.size;omega
   have hmem:zM es k∈es:=by unfold zM;rw [List.getD,List.getElem?_eq_getElem hkl];exact List.getElem_mem _
   obtain⟨fr,to,bk,wt,hx,x1',x2,-,x4,x5⟩:=HEO.out _ hmem
   rw [hx] at c0 c1 c2 c3
   simp only at c0 c1 c2 c3
   obtain⟨f1,f2⟩:=HTR.out fr x1'
   obtain⟨g1,g2⟩:=HTR.out to x2
   have tf:=(zf HWR.out tb fr htb).trans (HTC.out fr x1')
   have tt:=(zf HWR.out tb to htb).trans (HTC.out to x2)
   have l3:=(zf HWR.out y 3 hy).trans l3
   have l5:=(zf HWR.out y 5 hy).trans l5
   have hfi:(fr:Int)<(L.b.length:Int):=by omega
   have hti:(to:Int)<(L.b.length:Int):=by omega
   have HED:Hid (UV K O (zM es k)=decide (yD K O fr+(wt:Int)<=yD K O to+(bk:Int)*K.pc)):=by show _=_;rw [hx];rfl
   have hb1:(bk:Int)*K.pc<=32*200:=Int.mul_le_mul (by omega) hp2 (by omega) (by omega)
   have hb0:0<=(bk:Int)*K.pc:=Int.mul_nonneg (by omega) (by omega)
   have HBX:=z9 (fun n=>(HB.out.trans ((below_alloc1 wr (.cells #[iV (fr:Int),iV (to:Int),iV (bk:Int),iV (wt:Int)] 100)).mono HB.out.size)).trans (below_draws _ _ n))
   generalize yD K O fr=tmf at *
   generalize yD K O to=tmt at *
   generalize K.pc=pp at *
   obtain⟨bp,hbp⟩:∃bp,(bk:Int)*pp=bp:=⟨_,rfl⟩
   rw [hbp] at hb1 hb0 HED
   have hw1:wrap64 ((bk:Int)*pp)=bp:=by rw [hbp];unfold wrap64;omega
   have hw2:wrap64 (tmt+bp)=tmt+bp:=by unfold wrap64;omega
   have hw3:wrap64 (tmf+(wt:Int))=tmf+(wt:Int):=by unfold wrap64;omega
   have HNX:Hid (UV K O (zM es k)=true->zC (fun i=>UV K O (zM es i)) (k+1)=true):=fun h=>yl HA.out h
   have HNO:Hid (UV K O (zM es k)=false->XC L ⟨p0,p1,p2,q0,q1,q2,r⟩ K O=false):=fun h=>by rw [HD.out];exact zZ hkl h
   clear gH gR hx hbp f1 f2 g1 g2 hb1 hb0 HTR HTC HEO HE3 HA HD hmem x4 x5
   by_cases he:tmt+bp<tmf+(wt:Int)
   ·have HN:=z9 (HNO.out (by rw [HED.out];exact decide_eq_false (by omega)))
    clear HNX HNO HED
    go_wp2_with fail
    go_big_quiet ((fail))
    go_wp2_with fail
    go_ret
    exact⟨zg HN.out.symm,HWX.out.trans ((HBX.out _).mono hxz)⟩
   ·have HN:=z9 (HNX.out (by rw [HED.out];exact decide_eq_true (by omega)))
    clear HNX HNO HED
    go_wp2_with fail
    go_big_quiet ((fail))
    go_wp2_with fail
    go_roundw
    case rel=>exact⟨k+1,by omega,by go_num,HN.out,HBX.out _⟩
    case measure=>simp [intOf];omega
  ·have e:k=es.length:=by omega
   subst e
   have hki:¬(es.length:Int)<(es.length:Int):=by omega
   have HN:Hid (XC L ⟨p0,p1,p2,q0,q1,q2,r⟩ K O=true):=by show _=_;rw [HD.out,HA.out]
   clear gH
   go_wp2_with fail
   go_ret
   exact⟨zg HN.out.symm,HWR.out⟩
theorem zlm (hE:Zv) (c:Lc) (L:Lp) (t:Tg) (K:Kn) (O:List Int) (w:World) (h:Zq c L t K O w) (hl:xD L t K O=true) :
  Calls prog 74 #[.pointer (pA c.y),.agg t.cells] w (Rt w (.bool (XC L t K O))) :=
 zh5 hE c L t.u0 t.u1 t.u2 t.w0 t.w1 t.w2 t.r K O w h hl
end Go.Proofs.YtjoapiafpahihabGreat
