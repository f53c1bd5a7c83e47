import Derived.Test.YtjoapiafpahihabGreatBuildA
import Derived.Test.YtjoapiafpahihabGreatSchedD
import Derived.Test.YtjoapiafpahihabGreatRegsB
import Derived.Test.YtjoapiafpahihabGreatEmitP
import Derived.Test.YtjoapiafpahihabGreatSchedE
namespace Go.Proofs.YtjoapiafpahihabGreat
theorem zya:zwy:=fun v t L gU w hL hm ht h1 h2=>by
 obtain⟨v0,v1,v2,rfl,-,⟨a1,gB,rfl,hc,hmx,hb⟩,-⟩:=hL
 obtain⟨p0,p1,p2,q0,q1,q2,r⟩:=t
 obtain⟨bb,bo,rfl,hbb,gQ⟩:=hb (zw hm).2.1
 exact zac p0 p1 p2 q0 q1 q2 r L v0 v2 bb bo gB gU w hm ht h1 h2 hbb hc (by unfold maxLen at hmx;omega) gQ
theorem zte:zns:=fun v t L w hL hm=>by
 obtain⟨p0,p1,p2,q0,q1,q2,r⟩:=t
 have hL':=hL
 obtain⟨v0,v1,v2,rfl,⟨a0,gA,rfl,-⟩,⟨a1,gB,rfl,h1,h2,h3⟩,⟨a2,gC,rfl,-,-,-,-⟩⟩:=hL'
 unfold maxLen at h2
 have hm2:zY L=true/\yj ⟨p0,p1,p2,q0,q1,q2,r⟩=true:=by simpa using hm
 obtain⟨b,off,rfl,hb,gR⟩:=h3 (by have:=(zw hm2.1).2.1;omega)
 exact zpe Vv p0 p1 p2 q0 q1 q2 r L a0 a2 gA b off gB gC w hL hm2.1 hm2.2 h1 (by omega) hb gR
theorem zg9:zcf:=fun v pv t L P T w hL hP hlg=>by
 obtain⟨p0,p1,p2,q0,q1,q2,r⟩:=t
 have hL':=hL
 obtain⟨v0,v1,v2,rfl,⟨a0,gA,rfl,-⟩,⟨a1,gB,rfl,h1,h2,h3⟩,⟨a2,gC,rfl,-,-,-,-⟩⟩:=hL'
 obtain⟨tv,rfl,hT⟩:=hP
 have hT':=hT
 obtain⟨ta,tc,rfl,k1,k2,k3,k4⟩:=hT'
 obtain⟨hm,ht,-,-,hlen,-,-⟩:=yd hlg
 have hb1:=(zw hm).2.1
 obtain⟨bb,bo,rfl,-,-⟩:=h3 (by omega)
 obtain⟨tb,tz,rfl,-,-⟩:=k4 (by omega)
 have h:=zn5 Vv p0 p1 p2 q0 q1 q2 r L a0 a2 bb bo gA gB gC P T tb tz tc w hL hT hlen hm ht
 rw [hlg] at h
 exact h
theorem zyn:zgu:=fun v pv t L P T w hL hP hlg=>by
 obtain⟨p0,p1,p2,q0,q1,q2,r⟩:=t
 have hL':=hL
 obtain⟨v0,v1,v2,rfl,⟨a0,gA,rfl,-⟩,⟨a1,gB,rfl,h1,h2,h3⟩,⟨a2,gC,rfl,g1,g2,g3,g4⟩⟩:=hL'
 have hP':=hP
 obtain⟨tv,rfl,⟨ta,tc,rfl,k1,k2,k3,k4⟩⟩:=hP'
 obtain⟨hm,hmt,-,-,hTn,-,-⟩:=yd hlg
 have hb1:=(zw hm).2.1
 obtain⟨-,-,-,r1,r2⟩:=ym hmt
 obtain⟨bb,bo,rfl,hbb,gQ⟩:=h3 (by omega)
 obtain⟨tb,tz,rfl,htb,htimes⟩:=k4 (by omega)
 unfold maxLen at h2 k2 g2
 have r1:1<=r:=r1
 obtain⟨R,rfl⟩:=Int.eq_ofNat_of_zero_le (show 0<=r by omega)
 refine (zn1 zg9 p0 p1 p2 q0 q1 q2 R L a0 a2 bb bo gA gB gC P T tb tz tc w hL hP hlg hbb gQ h1 (by omega) htb htimes k1 (by omega) g4 g1 (by omega)).mono fun e w' h=>?_
 obtain⟨hb,da,dl,dc,c,he,-,hy⟩:=h
 exact⟨hb,da,dl,dc,c,he,hy hlg⟩
theorem zy5:zgt:=fun v t L gU w hL hm ht hr1 hr2=>by
 obtain⟨p0,p1,p2,q0,q1,q2,r⟩:=t
 have hL':=hL
 obtain⟨v0,v1,v2,rfl,⟨a0,gA,rfl,-⟩,⟨a1,gB,rfl,h1,h2,h3⟩,⟨a2,gC,rfl,-,-,-,-⟩⟩:=hL'
 obtain⟨bb,bo,rfl,-,-⟩:=h3 (zw hm).2.1
 refine (zuz Vv zte p0 p1 p2 q0 q1 q2 r L a0 a2 bb bo gA gB gC gU w hL hm ht hr1 hr2).mono fun e w' ⟨k1,P,ta,tl,tc,c,k2,_,_,k5⟩=>?_
 obtain⟨rfl,T,rfl,k6⟩:=k5 (by rw [hm,ht];rfl) (yf ⟨hr1,hr2⟩)
 exact⟨k1,P,ta,tc,T,k2,k6⟩
theorem zxf:zgq:=fun v pv dv t L P T D w hL hP hD hleg hdo=>by
 obtain⟨p0,p1,p2,q0,q1,q2,r⟩:=t
 have hL':=hL
 obtain⟨v0,v1,v2,rfl,⟨a0,gA,rfl,-⟩,⟨a1,gB,rfl,h1,h2,h3⟩,⟨a2,gC,rfl,-,-,-,-⟩⟩:=hL'
 have hP':=hP
 obtain⟨tv,rfl,⟨ta,tc,rfl,k1,k2,k3,k4⟩⟩:=hP'
 have hD':=hD
 obtain⟨da,dc,rfl,d1,d2,d3,d4⟩:=hD'
 unfold xj at hdo
 obtain⟨hlen,hall⟩:D.length=L.b.length/\zC (fun s=>inR (nth D s) 0 (r - 1)) L.b.length=true:=by simpa using hdo
 obtain⟨hm,-,-,-,hTn,-,-⟩:=yd hleg
 have hb1:=(zw hm).2.1
 obtain⟨bb,bo,rfl,hbb,gQ⟩:=h3 (by omega)
 obtain⟨tb,tz,rfl,htb,htimes⟩:=k4 (by omega)
 obtain⟨db,dz,rfl,hdb,hdests⟩:=d4 (by omega)
 unfold maxLen at h2 k2 d2
 have hall':zC (fun s=>inR (nth D s) 0 (r - 1)) D.length=true:=by rw [hlen];exact hall
 rw [hTn] at hP htimes k1 ⊢
 rw [hlen] at hD hdests d1 ⊢
 exact zlt zg9 p0 p1 p2 q0 q1 q2 r L a0 a2 bb bo gA gB gC P T D tb tz tc db dz dc w hL hP hD hleg hlen hall' hbb h1 (by omega) gQ htb k1 (by omega) htimes hdb d1 (by omega) hdests
theorem build_all:zgo:=ztg zy5 zya zyn zxf
end Go.Proofs.YtjoapiafpahihabGreat
