import Derived.Test.YtjoapiafpahihabGreatRegsB
import Derived.Test.YtjoapiafpahihabGreatSchedE
import Derived.Test.YtjoapiafpahihabGreatBuildA
import Derived.Test.YtjoapiafpahihabGreatSchedD
import Derived.Test.YtjoapiafpahihabGreatBoundP
import Derived.Test.YtjoapiafpahihabGreatEmitP
import Derived.Test.YtjoapiafpahihabGreatSchedOne
namespace Go.Proofs.YtjoapiafpahihabGreat
theorem zn9:zcp:=zna YP
theorem zp9:zoc:=fun v t L least w hL hm ht h1 h2=>by
 obtain⟨v0,v1,v2,rfl,-,⟨a1,cap1,rfl,hc,hmx,hb⟩,-⟩:=hL
 obtain⟨p0,p1,p2,q0,q1,q2,r⟩:=t
 obtain⟨bb,bo,rfl,hbb,hbody⟩:=hb (zj hm).2.1
 exact XQ p0 p1 p2 q0 q1 q2 r L v0 v2 bb bo cap1 least w hm ht h1 h2 hbb hc (by unfold maxLen at hmx;omega) hbody
theorem zp5:zbd:=fun v t L least w hL hm ht hr1 hr2=>by
 obtain⟨p0,p1,p2,q0,q1,q2,r⟩:=t
 have hL':=hL
 obtain⟨v0,v1,v2,rfl,⟨a0,cap0,rfl,-⟩,⟨a1,cap1,rfl,h1,h2,h3⟩,⟨a2,cap2,rfl,-,-,-,-⟩⟩:=hL'
 obtain⟨bb,bo,rfl,-,-⟩:=h3 (zj hm).2.1
 refine (zm9 Ye zi9 p0 p1 p2 q0 q1 q2 r L a0 a2 bb bo cap0 cap1 cap2 least w hL hm ht hr1 hr2).mono fun e w' ⟨k1,P,ta,tl,tc,c,k2,_,_,k5⟩=>?_
 obtain⟨rfl,T,rfl,k6⟩:=k5 (by rw [hm,ht];rfl) (zK ⟨hr1,hr2⟩)
 exact⟨k1,P,ta,tc,T,k2,k6⟩
theorem zok:zbb:=fun v pv dv t L P T D w hL hP hD hleg hdo=>by
 obtain⟨p0,p1,p2,q0,q1,q2,r⟩:=t
 have hL':=hL
 obtain⟨v0,v1,v2,rfl,⟨a0,cap0,rfl,-⟩,⟨a1,cap1,rfl,h1,h2,h3⟩,⟨a2,cap2,rfl,-,-,-,-⟩⟩:=hL'
 have hP':=hP
 obtain⟨tv,rfl,⟨ta,tc,rfl,k1,k2,k3,k4⟩⟩:=hP'
 have hD':=hD
 obtain⟨da,dc,rfl,d1,d2,d3,d4⟩:=hD'
 unfold yI at hdo
 obtain⟨hlen,hall⟩:D.length=L.body.length/\zh (fun s=>inR (nth D s) 0 (r - 1)) L.body.length=true:=by simpa using hdo
 obtain⟨hm,-,-,-,hTn,-,-⟩:=zL hleg
 have hb1:=(zj hm).2.1
 obtain⟨bb,bo,rfl,hbb,hbody⟩:=h3 (by omega)
 obtain⟨tb,tz,rfl,htb,htimes⟩:=k4 (by omega)
 obtain⟨db,dz,rfl,hdb,hdests⟩:=d4 (by omega)
 unfold maxLen at h2 k2 d2
 have hall':zh (fun s=>inR (nth D s) 0 (r - 1)) D.length=true:=by rw [hlen];exact hall
 rw [hTn] at hP htimes k1 ⊢
 rw [hlen] at hD hdests d1 ⊢
 exact zfe YP p0 p1 p2 q0 q1 q2 r L a0 a2 bb bo cap0 cap1 cap2 P T D tb tz tc db dz dc w hL hP hD hleg hlen hall' hbb h1 (by omega) hbody htb k1 (by omega) htimes hdb d1 (by omega) hdests
theorem build_all:VZ:=zl9 zp5 zp9 zn9 zok
end Go.Proofs.YtjoapiafpahihabGreat
