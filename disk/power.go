package disk

// SetFuse lets the power go with the sector, or the Sync, behind the next n ones; never, if n is below 0.
func (d *Disk) SetFuse(n int) {
	if d == nil {
		return
	}
	d.fused, d.left = n >= 0, n
}

// Down tells whether the power is gone.
func (d *Disk) Down() bool {
	return d != nil && d.down
}

// Crash brings the power back, without a fuse. Of the unsynced sectors those are there that keep keeps, the list taken again and again; none, if it is empty.
func (d *Disk) Crash(keep []bool) {
	if d == nil {
		return
	}
	d.down, d.fused, d.left = false, false, 0
	if len(keep) == 0 {
		keep = []bool{false}
	}
	d.settle(keep)
}

// lasts tells whether the power lasts for one sector or Sync more, and counts it; else the power goes.
func (d *Disk) lasts() bool {
	if !d.fused {
		return true
	}
	if d.left == 0 {
		d.down = true
		return false
	}
	d.left--
	return true
}

// settle makes those of the unsynced sectors synced that keep keeps, and takes the others back.
func (d *Disk) settle(keep []bool) {
	for i, c := range d.unsynced {
		if keep[i%len(keep)] {
			d.synced[c.at] = c.to
		}
	}
	for _, c := range d.unsynced {
		d.now[c.at] = d.synced[c.at]
	}
	d.unsynced = nil
}
